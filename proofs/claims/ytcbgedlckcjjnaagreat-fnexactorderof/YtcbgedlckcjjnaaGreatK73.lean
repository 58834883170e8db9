/- A region that draws its order and writes more than once at its end: what is read may be read first where nothing writes it but operations (numbers Z) that all wait for it; what reads nothing may come first anyway; no condition. Written after RegionU. -/
import Derived.Test.YtcbgedlckcjjnaaGreatRows
import Derived.OrdersHeld
import Derived.Deep.RegionHeld3
import Derived.Deep.DeepCutAuto
import Derived.Deep.DeepMust
import Derived.Deep.LoopGhost
import Derived.Test.YtcbgedlckcjjnaaGreatK01
import Derived.Test.YtcbgedlckcjjnaaGreatK02
import Derived.Test.YtcbgedlckcjjnaaGreatK03
import Derived.Test.YtcbgedlckcjjnaaGreatK10
import Derived.Test.YtcbgedlckcjjnaaGreatK17
namespace Go.Proofs.YtcbgedlckcjjnaaGreat
open Go.RowKit
set_option linter.unusedVariables false

section
variable {P : Program} {ops : Array Oper} {Q : Exit → Act → World → Prop} {md : Region.Mode} {S : World → Prop} {Z : List Nat}

/-- Whatever comes up next; behind each operation but number z, S holds. -/
def GoesV (P : Program) (md : Region.Mode) (ops : Array Oper) (Q : Exit → Act → World → Prop) (S : World → Prop) (Z : List Nat) : Nat → Array Bool → Act → World → Prop
  | 0, t, a, w => Region.ready md ops t = [] ∧ Q .normal a w
  | k + 1, t, a, w => (Region.ready md ops t = [] → Q .normal a w) ∧ ∀ i, i ∈ Region.ready md ops t → wpOp P ops Q i (fun b v => (S w → i ∉ Z → S v) ∧ GoesV P md ops Q S Z k (t.setIfInBounds i true) b v) a w

theorem GoesV.any : ∀ (k : Nat) (t : Array Bool) (a : Act) (w : World), GoesV P md ops Q S Z k t a w → wpAny P md ops Q k t a w
  | 0, _, _, _, h => h
  | k + 1, _, _, _, h => ⟨h.1, fun i hi => wpOp_mono (fun b v hb => GoesV.any k _ b v hb.2) (h.2 i hi)⟩

theorem GoesV.first {i : Nat} {oi : Oper} {x : Value} (hi : ops[i]? = some oi) (hsel : ∀ (j : Nat) (o : Oper) cs b, ops[j]? = some o → o.op ≠ .select cs b)
    (hQ : ∀ c a w, Q (.panic c) (a.put oi.dst x) w → Q (.panic c) a w) (hz : ∀ z ∈ Z, ∀ o, ops[z]? = some o → ∃ e ∈ o.after, Region.binds md e = true ∧ e.on = i) :
    ∀ (k : Nat) (t : Array Bool) (a : Act) (w : World),
      (∀ j oj, ops[j]? = some oj → j ≠ i → t.getD j true = false → (∀ e ∈ oj.after, Region.binds md e = true → e.on ≠ i) → oi.apart ops oj = true) →
      i ∈ Region.ready md ops t → YieldsIf P ops S oi x a → S w →
      GoesV P md ops Q S Z k (t.setIfInBounds i true) (a.put oi.dst x) w → GoesV P md ops Q S Z (k + 1) t a w := by
  intro k
  induction k with
  | zero =>
    intro t a w _ hr hy hS H
    refine ⟨fun h => (by rw [h] at hr; cases hr), fun j hj => ?_⟩
    rcases Nat.decEq j i with hji | hji
    · have hrd := ready_mono hj hji
      rw [H.1] at hrd
      cases hrd
    · subst hji
      exact hy.wpOp hi hS ⟨fun h _ => h, H⟩
  | succ k ih =>
    intro t a w hfree hr hy hS H
    refine ⟨fun h => (by rw [h] at hr; cases hr), fun j hj => ?_⟩
    rcases Nat.decEq j i with hji | hji
    · have step := H.2 j (ready_mono hj hji)
      obtain ⟨hun, oj, hoj, hall⟩ := mem_ready.1 hj
      have hi0 := (mem_ready.1 hr).1
      have hnot : ∀ e ∈ oj.after, Region.binds md e = true → e.on ≠ i := fun e he hb heq => by
        have h1 := hall e he hb
        rw [heq] at h1
        rcases Nat.lt_or_ge i t.size with h' | h'
        · simp [h'] at hi0 h1; rw [hi0] at h1; cases h1
        · simp [Array.getElem?_eq_none h'] at h1
      have hjz : j ∉ Z := fun e => by
        obtain ⟨e, he, hb, hon⟩ := hz j e oj hoj
        exact hnot e he hb hon
      have two := wpOp_putIf hoj (hfree j oj hoj hji hun hnot) (fun cs b => hsel i oi cs b hi) (fun cs b => hsel j oj cs b hoj) hQ hy step
      refine wpOp_mono (fun b v h3 => ?_) two
      have hSv : S v := h3.2.1 hS hjz
      refine ⟨h3.2.1, ih (t.setIfInBounds j true) b v (fun q oq hq hqi hqu hqn => hfree q oq hq hqi ?_ hqn) (ready_mono hr (Ne.symm hji)) h3.1 hSv ?_⟩
      · by_cases hjq : j = q
        · subst hjq; exact hun
        · rw [getD_set_ne true hjq] at hqu; exact hqu
      · rw [Array.setIfInBounds_comm _ _ hji]
        exact h3.2.2
    · subst hji
      exact hy.wpOp hi hS ⟨fun h _ => h, H⟩

/-- What reads nothing comes first. -/
theorem GoesV.firstT {i : Nat} {oi : Oper} {x : Value} (hi : ops[i]? = some oi) (hsel : ∀ (j : Nat) (o : Oper) cs b, ops[j]? = some o → o.op ≠ .select cs b)
    (hQ : ∀ c a w, Q (.panic c) (a.put oi.dst x) w → Q (.panic c) a w) :
    ∀ (k : Nat) (t : Array Bool) (a : Act) (w : World),
      (∀ j oj, ops[j]? = some oj → j ≠ i → t.getD j true = false → (∀ e ∈ oj.after, Region.binds md e = true → e.on ≠ i) → oi.apart ops oj = true) →
      i ∈ Region.ready md ops t → YieldsIf P ops (fun _ => True) oi x a →
      GoesV P md ops Q S Z k (t.setIfInBounds i true) (a.put oi.dst x) w → GoesV P md ops Q S Z (k + 1) t a w := by
  intro k
  induction k with
  | zero =>
    intro t a w _ hr hy H
    refine ⟨fun h => (by rw [h] at hr; cases hr), fun j hj => ?_⟩
    rcases Nat.decEq j i with hji | hji
    · have hrd := ready_mono hj hji
      rw [H.1] at hrd
      cases hrd
    · subst hji
      exact hy.wpOp hi trivial ⟨fun h _ => h, H⟩
  | succ k ih =>
    intro t a w hfree hr hy H
    refine ⟨fun h => (by rw [h] at hr; cases hr), fun j hj => ?_⟩
    rcases Nat.decEq j i with hji | hji
    · have step := H.2 j (ready_mono hj hji)
      obtain ⟨hun, oj, hoj, hall⟩ := mem_ready.1 hj
      have hi0 := (mem_ready.1 hr).1
      have hnot : ∀ e ∈ oj.after, Region.binds md e = true → e.on ≠ i := fun e he hb heq => by
        have h1 := hall e he hb
        rw [heq] at h1
        rcases Nat.lt_or_ge i t.size with h' | h'
        · simp [h'] at hi0 h1; rw [hi0] at h1; cases h1
        · simp [Array.getElem?_eq_none h'] at h1
      have two := wpOp_putIf hoj (hfree j oj hoj hji hun hnot) (fun cs b => hsel i oi cs b hi) (fun cs b => hsel j oj cs b hoj) hQ hy step
      refine wpOp_mono (fun b v h3 => ?_) two
      refine ⟨h3.2.1, ih (t.setIfInBounds j true) b v (fun q oq hq hqi hqu hqn => hfree q oq hq hqi ?_ hqn) (ready_mono hr (Ne.symm hji)) h3.1 ?_⟩
      · by_cases hjq : j = q
        · subst hjq; exact hun
        · rw [getD_set_ne true hjq] at hqu; exact hqu
      · rw [Array.setIfInBounds_comm _ _ hji]
        exact h3.2.2
    · subst hji
      exact hy.wpOp hi trivial ⟨fun h _ => h, H⟩
theorem GoesV.takeT {i : Nat} {oi : Oper} {x : Value} {k : Nat} {t : Array Bool} {a : Act} {w : World} (hi : ops[i]? = some oi)
    (hs : Region.noSelect ops = true) (hf : Region.free md ops t i = true) (hr : (Region.ready md ops t).contains i = true)
    (hQ : ∀ c a w, Q (.panic c) (a.put oi.dst x) w → Q (.panic c) a w) (hy : YieldsIf P ops (fun _ => True) oi x a)
    (h : GoesV P md ops Q S Z k (t.setIfInBounds i true) (a.put oi.dst x) w) : GoesV P md ops Q S Z (k + 1) t a w :=
  GoesV.firstT hi (Region.noSelect_spec hs) hQ k t a w (Region.free_spec hi hf) (by simpa using hr) hy h
/-- Number i is taken first. -/
theorem GoesV.take {i : Nat} {oi : Oper} {x : Value} {k : Nat} {t : Array Bool} {a : Act} {w : World} (hi : ops[i]? = some oi)
    (hs : Region.noSelect ops = true) (hf : Region.free md ops t i = true) (hr : (Region.ready md ops t).contains i = true) (hz : Z.all (fun z => waitsFor md ops z i) = true)
    (hQ : ∀ c a w, Q (.panic c) (a.put oi.dst x) w → Q (.panic c) a w) (hy : YieldsIf P ops S oi x a) (hS : S w)
    (h : GoesV P md ops Q S Z k (t.setIfInBounds i true) (a.put oi.dst x) w) : GoesV P md ops Q S Z (k + 1) t a w :=
  GoesV.first hi (Region.noSelect_spec hs) hQ (fun z hm => waits_spec (List.all_eq_true.1 hz z hm)) k t a w (Region.free_spec hi hf) (by simpa using hr) hy hS h
theorem GoesV.done {t : Array Bool} {a : Act} {w : World} (hr : Region.ready md ops t = []) (h : Q .normal a w) : ∀ k, GoesV P md ops Q S Z k t a w
  | 0 => ⟨hr, h⟩
  | _ + 1 => ⟨fun _ => h, fun i hi => by rw [hr] at hi; cases hi⟩
/-- Those that may come up, one by one. -/
def UpsV (P : Program) (md : Region.Mode) (ops : Array Oper) (Q : Exit → Act → World → Prop) (S : World → Prop) (Z : List Nat) (k : Nat) (t : Array Bool) (a : Act) (w : World) (rs : List Nat) : Prop :=
  ∀ i ∈ rs, wpOp P ops Q i (fun b v => (S w → i ∉ Z → S v) ∧ GoesV P md ops Q S Z k (t.setIfInBounds i true) b v) a w
theorem GoesV.all {rs : List Nat} {k : Nat} {t : Array Bool} {a : Act} {w : World} (hr : Region.ready md ops t = rs) (hne : rs ≠ []) (h : UpsV P md ops Q S Z k t a w rs) : GoesV P md ops Q S Z (k + 1) t a w :=
  ⟨fun h0 => absurd (hr ▸ h0) hne, fun i hi => h i (hr ▸ hi)⟩
theorem UpsV.nil {k : Nat} {t : Array Bool} {a : Act} {w : World} : UpsV P md ops Q S Z k t a w [] := fun _ h => by cases h
theorem UpsV.cons {k : Nat} {t : Array Bool} {a : Act} {w : World} {i : Nat} {o : Oper} {rs : List Nat} (ho : ops[i]? = some o)
    (h : ∀ K : Act → World → Prop, Hid (∀ b v, (S w → i ∉ Z → S v) → GoesV P md ops Q S Z k (t.setIfInBounds i true) b v → K b v) → if Region.wanted o (yielded ops a.tmps) = true then Oper.wp P o a w K Q else K (a.put o.dst undef) w)
    (hs : UpsV P md ops Q S Z k t a w rs) : UpsV P md ops Q S Z k t a w (i :: rs) := fun j hj => by
  rcases List.mem_cons.1 hj with rfl | hj
  · have h1 := h (fun b v => (S w → j ∉ Z → S v) ∧ GoesV P md ops Q S Z k (t.setIfInBounds j true) b v) (fun b v h1 h2 => ⟨h1, h2⟩)
    unfold wpOp
    simp only [ho]
    split at h1
    · rename_i hw
      rw [if_pos hw]
      exact Or.inl h1
    · rename_i hw
      rw [if_neg hw]
      exact h1
  · exact hs j hj
/-- The beginning. -/
theorem GoesV.start {id : Nat} {a : Act} {w : World} (hm : P.follows .mixedOrders = true) (h : GoesV P .any ops Q S Z ops.size (Array.replicate ops.size false) a w.drew) : (Code.region id ops true).wp P Q a w :=
  wp_region_any hm (GoesV.any _ _ _ _ h)
end
end Go.Proofs.YtcbgedlckcjjnaaGreat

/- The order of places by how much is stale of them, in plain words: one put in behind all that are not greater; no condition. -/
namespace Go.Proofs.YtcbgedlckcjjnaaGreat
set_option linter.unusedVariables false
/-- How many at the end are greater. -/
def tailG (f : Int → Int) (x : Int) (l : List Int) : Nat := (l.reverse.takeWhile fun y => decide (f x < f y)).length
def insR (f : Int → Int) (x : Int) (l : List Int) : List Int := l.take (l.length - tailG f x l) ++ x :: l.drop (l.length - tailG f x l)
def ordL (f : Int → Int) (l : List Int) : List Int := l.foldl (fun acc x => insR f x acc) []
theorem takeW_none {p : Int → Bool} : ∀ {l : List Int}, (∀ y, l.head? = some y → p y = false) → l.takeWhile p = []
  | [], _ => rfl
  | y :: ys, h => by rw [List.takeWhile_cons, h y rfl]; rfl
theorem tail_at {f : Int → Int} {x : Int} {l : List Int} {a : Nat} (h1 : a ≤ l.length) (h2 : ∀ k (hk : k < l.length), a ≤ k → f x < f l[k]) (h3 : a = 0 ∨ ∃ hk : a - 1 < l.length, ¬ f x < f l[a - 1]) : tailG f x l = l.length - a := by
  unfold tailG
  have e : l.reverse = (l.drop a).reverse ++ (l.take a).reverse := by rw [← List.reverse_append, List.take_append_drop]
  rw [e, List.takeWhile_append_of_pos]
  · rw [takeW_none]
    · simp
    · intro y hy
      rcases h3 with h0 | ⟨hk, hn⟩
      · subst h0; simp at hy
      · rw [List.head?_reverse] at hy
        have hla : (l.take a).length = a := by rw [List.length_take]; omega
        by_cases ha : a = 0
        · subst ha; simp at hy
        · have hg : (l.take a).getLast? = some l[a - 1] := by
            rw [List.getLast?_eq_getElem?, hla, List.getElem?_take_of_lt (by omega), List.getElem?_eq_getElem hk]
          rw [hg] at hy
          simp only [Option.some.injEq] at hy
          subst hy
          simp [hn]
  · intro y hy
    rw [List.mem_reverse] at hy
    obtain ⟨j, hj, rfl⟩ := List.getElem_of_mem hy
    rw [List.length_drop] at hj
    rw [List.getElem_drop]
    exact decide_eq_true (h2 (a + j) (by omega) (by omega))
/-- Put in at a place behind which all are greater, and ahead of which the last is not. -/
theorem ins_at {f : Int → Int} {x : Int} {l : List Int} {a : Nat} (h1 : a ≤ l.length) (h2 : ∀ k (hk : k < l.length), a ≤ k → f x < f l[k]) (h3 : a = 0 ∨ ∃ hk : a - 1 < l.length, ¬ f x < f l[a - 1]) : insR f x l = l.take a ++ x :: l.drop a := by
  unfold insR
  rw [tail_at h1 h2 h3, show l.length - (l.length - a) = a by omega]
theorem ins_len (f : Int → Int) (x : Int) (l : List Int) : (insR f x l).length = l.length + 1 := by
  unfold insR
  simp
  omega
theorem ord_snoc (f : Int → Int) (l : List Int) (x : Int) : ordL f (l ++ [x]) = insR f x (ordL f l) := by unfold ordL; rw [List.foldl_append]; rfl
theorem ord_len (f : Int → Int) : ∀ (l : List Int), (ordL f l).length = l.length := fun l => by
  have h : ∀ (l acc : List Int), (l.foldl (fun acc x => insR f x acc) acc).length = acc.length + l.length := by
    intro l
    induction l with
    | nil => intro acc; simp
    | cons x xs ih => intro acc; rw [List.foldl_cons, ih, ins_len]; simp; omega
  have := h l []
  simpa [ordL] using this
end Go.Proofs.YtcbgedlckcjjnaaGreat

/- A short row of places sorted by the library (slices.SortStableFunc) with a closure that compares: put in one by one; all else stays; the condition is that the closure answers as a plain function says, and turns nothing. Written by mkord.py. -/
namespace Go.Proofs.YtcbgedlckcjjnaaGreat
open Go.RowKit
set_option linter.unusedVariables false
set_option maxRecDepth 8000
def sgnC (a b : Int) : Int := if a < b then -1 else if b < a then 1 else 0
theorem sgn_lt (a b : Int) : (sgnC a b < 0) = (a < b) := by unfold sgnC; apply propext; split <;> rename_i h <;> constructor <;> intro h2 <;> first | omega | (split at h2 <;> omega)
theorem iIsNaN (a : Int) (w : World) : Calls Tryz.prog 150 #[.int .i64 a] w fun e w' => e = .returned (.bool false) ∧ w' = w := by
  go_enter Tryz.func150, Tryz.ntmps150
  go_wp2_with fail
  go_ret
  exact ⟨rfl, rfl⟩
theorem iCompare (a b : Int) (w : World) : Calls Tryz.prog 97 #[.int .i64 a, .int .i64 b] w fun e w' => e = .returned (.int .i64 (sgnC a b)) ∧ w' = w := by
  obtain ⟨R, hR⟩ : ∃ R, R = sgnC a b := ⟨_, rfl⟩
  rw [← hR]
  by_cases h1 : a < b
  · have e1 : R = -1 := by rw [hR]; unfold sgnC; rw [if_pos h1]
    have d1 : decide (a < b) = true := decide_eq_true h1
    clear hR
    subst e1
    go_enter Tryz.func97, Tryz.ntmps97
    go_wp2_with fail
    refine (iIsNaN a _).mono ?_
    rintro e w1 ⟨rfl, hw⟩
    subst w1
    go_wp2_with fail
    refine (iIsNaN b _).mono ?_
    rintro e w1 ⟨rfl, hw⟩
    subst w1
    go_wp2_with fail
    go_ret
    exact ⟨rfl, rfl⟩
  · have d1 : decide (a < b) = false := decide_eq_false h1
    by_cases h2 : b < a
    · have e1 : R = 1 := by rw [hR]; unfold sgnC; rw [if_neg h1, if_pos h2]
      have d2 : decide (b < a) = true := decide_eq_true h2
      clear hR
      subst e1
      go_enter Tryz.func97, Tryz.ntmps97
      go_wp2_with fail
      refine (iIsNaN a _).mono ?_
      rintro e w1 ⟨rfl, hw⟩
      subst w1
      go_wp2_with fail
      refine (iIsNaN b _).mono ?_
      rintro e w1 ⟨rfl, hw⟩
      subst w1
      go_wp2_with fail
      go_ret
      exact ⟨rfl, rfl⟩
    · have e1 : R = 0 := by rw [hR]; unfold sgnC; rw [if_neg h1, if_neg h2]
      have d2 : decide (b < a) = false := decide_eq_false h2
      clear hR
      subst e1
      go_enter Tryz.func97, Tryz.ntmps97
      go_wp2_with fail
      refine (iIsNaN a _).mono ?_
      rintro e w1 ⟨rfl, hw⟩
      subst w1
      go_wp2_with fail
      refine (iIsNaN b _).mono ?_
      rintro e w1 ⟨rfl, hw⟩
      subst w1
      go_wp2_with fail
      go_ret
      exact ⟨rfl, rfl⟩
/-- All but the row g is as it was; the row holds D. -/
structure SoW (w : World) (g cs : Nat) (D : List Int) (W : World) : Prop where
  os : W.os = w.os
  tape : W.tape = w.tape
  out : W.output = w.output
  sz : w.heap.size ≤ W.heap.size
  bk : ∀ b, b < w.heap.size → b ≠ g → W.heap[b]? = w.heap[b]?
  gw : g < w.heap.size
  row : ∃ cur : Array Value, W.heap[g]? = some (.cells cur 2 (0, 0)) ∧ cur.size = cs ∧ D.length ≤ cs ∧ ∀ i (h : i < D.length), cur[i]? = some (.int .i64 D[i])
theorem SoW.cell {w W : World} {g cs : Nat} {D : List Int} (h : SoW w g cs D W) {i : Nat} (hi : i < D.length) : W.cell? ⟨g, i, none⟩ = some (.int .i64 D[i]) := by
  obtain ⟨cur, h1, -, -, h4⟩ := h.row
  rw [cell_of_heap h1]; exact h4 i hi
theorem SoW.frz {w W : World} {g cs : Nat} {D : List Int} (h : SoW w g cs D W) (o : Nat) : W.frozen? ⟨g, o, none⟩ = false := by
  obtain ⟨cur, h1, -⟩ := h.row
  simp [World.frozen?, h1]
theorem SoW.below {w W W' : World} {g cs : Nat} {D : List Int} (h : SoW w g cs D W) (hb : Below W.heap.size W W') : SoW w g cs D W' :=
  ⟨hb.os.trans h.os, hb.tape.trans h.tape, hb.output.trans h.out, Nat.le_trans h.sz hb.size, fun b h1 h2 => (hb.block b (Nat.lt_of_lt_of_le h1 h.sz)).trans (h.bk b h1 h2), h.gw, by obtain ⟨cur, q1, q2⟩ := h.row; exact ⟨cur, (hb.block g (Nat.lt_of_lt_of_le h.gw h.sz)).trans q1, q2⟩⟩
theorem SoW.set {w W : World} {g cs : Nat} {D : List Int} (h : SoW w g cs D W) {i : Nat} (hi : i < D.length) (v : Int) : SoW w g cs (D.set i v) (W.setCell ⟨g, i, none⟩ (.int .i64 v)) := by
  obtain ⟨cur, q1, q2, q3, q4⟩ := h.row
  refine ⟨h.os, h.tape, h.out, by simpa using h.sz, fun b h1 h2 => (Below.heap_setCell _ _ _ _ (by dsimp only; exact h2)).trans (h.bk b h1 h2), h.gw, cur.setIfInBounds i (.int .i64 v), heap_set q1, by simpa using q2, by simpa using q3, fun j hj => ?_⟩
  have hj2 : j < D.length := by simpa using hj
  rw [Array.getElem?_setIfInBounds]
  by_cases e : i = j
  · subst e; rw [if_pos rfl, if_pos (by omega), List.getElem_set_self]
  · rw [if_neg e, List.getElem_set_ne e]; exact q4 j hj2
theorem swap_ins {Q R : List Int} {x : Int} {j : Nat} (hj : j < Q.length) : ((Q.take (j + 1) ++ x :: (Q.drop (j + 1) ++ R)).set (j + 1) Q[j]).set j x = Q.take j ++ x :: (Q.drop j ++ R) := by
  have l1 : (Q.take (j + 1)).length = j + 1 := by rw [List.length_take]; omega
  have l2 : (Q.take j).length = j := by rw [List.length_take]; omega
  rw [List.set_append_right _ _ (by omega), l1, Nat.sub_self, List.set_cons_zero, List.take_succ_eq_append_getElem hj, List.append_assoc, List.set_append_right _ _ (by omega), l2, Nat.sub_self]
  rw [List.drop_eq_getElem_cons hj]
  rfl
theorem ins_mem (f : Int → Int) (x : Int) (l : List Int) {y : Int} (h : y ∈ insR f x l) : y = x ∨ y ∈ l := by
  unfold insR at h
  rcases List.mem_append.1 h with h | h
  · exact Or.inr (List.mem_of_mem_take h)
  · rcases List.mem_cons.1 h with h | h
    · exact Or.inl h
    · exact Or.inr (List.mem_of_mem_drop h)
theorem ord_mem (f : Int → Int) : ∀ (l : List Int) {y : Int}, y ∈ ordL f l → y ∈ l := fun l y h => by
  have H : ∀ (l acc : List Int), y ∈ l.foldl (fun acc x => insR f x acc) acc → y ∈ acc ∨ y ∈ l := by
    intro l
    induction l with
    | nil => intro acc h; exact Or.inl h
    | cons x xs ih =>
      intro acc h
      rw [List.foldl_cons] at h
      rcases ih _ h with h | h
      · rcases ins_mem f x acc h with h | h
        · exact Or.inr (by rw [h]; exact List.mem_cons_self)
        · exact Or.inl h
      · exact Or.inr (List.mem_cons_of_mem _ h)
  rcases H l [] h with h | h
  · cases h
  · exact h
theorem end_ins {f : Int → Int} {l Q R : List Int} {x : Int} {i j : Nat} (hi : i < l.length) (hQ : Q = ordL f (l.take i)) (hx : x = l[i]) (hR : R = l.drop (i + 1)) (h1 : j ≤ Q.length) (h2 : ∀ k (hk : k < Q.length), j ≤ k → f x < f Q[k]) (h3 : j = 0 ∨ ∃ hk : j - 1 < Q.length, ¬ f x < f Q[j - 1]) : Q.take j ++ x :: (Q.drop j ++ R) = ordL f (l.take (i + 1)) ++ l.drop (i + 1) := by
  rw [List.take_succ_eq_append_getElem hi, ord_snoc, ← hQ, ← hx, ← hR, ins_at h1 h2 h3, List.append_assoc]
  rfl
theorem beg_ins {f : Int → Int} {l Q R : List Int} {x : Int} {i : Nat} (hi : i < l.length) (hQ : Q = ordL f (l.take i)) (hx : x = l[i]) (hR : R = l.drop (i + 1)) (lQ : Q.length = i) : ordL f (l.take i) ++ l.drop i = Q.take i ++ x :: (Q.drop i ++ R) := by
  rw [← hQ, List.take_of_length_le (l := Q) (by omega), List.drop_of_length_le (l := Q) (by omega), List.drop_eq_getElem_cons hi, ← hx, ← hR]
  rfl
theorem ord_one (f : Int → Int) (l : List Int) : ordL f (l.take 1) ++ l.drop 1 = l := by
  cases l with
  | nil => rfl
  | cons x xs => rfl
theorem row_x {Q R : List Int} {x : Int} {j : Nat} (hj : j ≤ Q.length) (h : j < (Q.take j ++ x :: (Q.drop j ++ R)).length) : (Q.take j ++ x :: (Q.drop j ++ R))[j] = x := by
  have l1 : (Q.take j).length = j := by rw [List.length_take]; omega
  rw [List.getElem_append_right (by omega)]
  simp only [l1, Nat.sub_self, List.getElem_cons_zero]
theorem row_y {Q R : List Int} {x : Int} {j : Nat} (hj : j < Q.length) (h : j < (Q.take (j + 1) ++ x :: (Q.drop (j + 1) ++ R)).length) : (Q.take (j + 1) ++ x :: (Q.drop (j + 1) ++ R))[j] = Q[j] := by
  have l1 : (Q.take (j + 1)).length = j + 1 := by rw [List.length_take]; omega
  rw [List.getElem_append_left (by omega), List.getElem_take]
theorem row_len {Q R : List Int} {x : Int} {j : Nat} : (Q.take j ++ x :: (Q.drop j ++ R)).length = Q.length + 1 + R.length := by
  simp only [List.length_append, List.length_take, List.length_cons, List.length_drop]; omega
set_option maxHeartbeats 4000000 in
theorem iInsSort (f : Int → Int) (M : Int → Prop) (pv : Value) (g cs n : Nat) (l : List Int) (w : World) (hn : l.length = n) (h20 : n ≤ 20) (hcs : n ≤ cs) (hM : ∀ y ∈ l, M y) (hS : SoW w g cs l w)
    (hC : ∀ (D : List Int) (W : World), SoW w g cs D W → ∀ x y, M x → M y → Calls Tryz.prog 96 #[.int .i64 x, .int .i64 y, pv] W fun e w' => ∃ r : Int, e = .returned (.int .i64 r) ∧ (r < 0 ↔ f x < f y) ∧ Below W.heap.size W w') :
    Calls Tryz.prog 191 #[.slice (some ⟨g, 0, none⟩) n cs, .int .i64 0, .int .i64 n, .func (.func 96) #[] #[pv]] w fun e w' => e = .returned (.tuple #[]) ∧ SoW w g cs (ordL f l) w' := by
  have HC : Hid (∀ (D : List Int) (W : World), SoW w g cs D W → ∀ x y, M x → M y → Calls Tryz.prog 96 #[.int .i64 x, .int .i64 y, pv] W fun e w' => ∃ r : Int, e = .returned (.int .i64 r) ∧ (r < 0 ↔ f x < f y) ∧ Below W.heap.size W w') := hC
  have HM : Hid (∀ y ∈ l, M y) := hM
  have HN : Hid (l.length = n) := hn
  have HS0 : Hid (SoW w g cs (ordL f (l.take 1) ++ l.drop 1) w) := by rw [ord_one]; exact hS
  have HGW : Hid (g < w.heap.size) := hS.gw
  clear hC hM hn hS
  go_enter Tryz.func191, Tryz.ntmps191
  go_upto_region 1 with fail
  go_loopg [8] n (fun q v wr => ∃ i : Nat, 1 ≤ i ∧ i ≤ n + 1 ∧ q = n + 1 - i ∧ v = .int .i64 i ∧ Hid (SoW w g cs (ordL f (l.take i) ++ l.drop i) wr))
  case atStart => exact ⟨1, by omega, by omega, by omega, by first | rfl | go_num, HS0⟩
  case round =>
    clear HS0
    obtain ⟨i, h1, h2, rfl, rfl, HS⟩ := hrel
    by_cases hlt : i < n
    · have hi : i < l.length := by have := HN.out; omega
      obtain ⟨Q, hQ⟩ : ∃ Q, Q = ordL f (l.take i) := ⟨_, rfl⟩
      obtain ⟨x, hx⟩ : ∃ x, x = l[i] := ⟨_, rfl⟩
      obtain ⟨R, hR⟩ : ∃ R, R = l.drop (i + 1) := ⟨_, rfl⟩
      have lQ : Q.length = i := by rw [hQ, ord_len, List.length_take]; omega
      have lR : R.length = n - (i + 1) := by rw [hR, List.length_drop, HN.out]
      have HS2 : Hid (SoW w g cs (Q.take i ++ x :: (Q.drop i ++ R)) wr) := by have h := HS.out; rw [beg_ins hi hQ hx hR lQ] at h; exact h
      have HE : Hid (∀ j, j ≤ Q.length → (∀ k (hk : k < Q.length), j ≤ k → f x < f Q[k]) → (j = 0 ∨ ∃ hk : j - 1 < Q.length, ¬ f x < f Q[j - 1]) → Q.take j ++ x :: (Q.drop j ++ R) = ordL f (l.take (i + 1)) ++ l.drop (i + 1)) := fun j a b c => end_ins hi hQ hx hR a b c
      have Mx : M x := HM.out x (by rw [hx]; exact List.getElem_mem hi)
      have HMQ : Hid (∀ y ∈ Q, M y) := fun y hy => HM.out y (List.mem_of_mem_take (ord_mem f _ (by rw [← hQ]; exact hy)))
      have HLQ : Hid (Q.length = i) := lQ
      have HLR : Hid (R.length = n - (i + 1)) := lR
      have hin : (i : Int) < (n : Int) := by omega
      clear hQ hx hR lQ lR HS hi
      obtain ⟨wo, rfl⟩ : ∃ wo : World, wo = wr := ⟨_, rfl⟩
      go_upto_region 4 with fail
      go_loopg [9] i (fun q v wi => ∃ j : Nat, j ≤ i ∧ j = q ∧ v = .int .i64 j ∧ Hid (SoW w g cs (Q.take j ++ x :: (Q.drop j ++ R)) wi) ∧ Hid (∀ k (hk : k < Q.length), j ≤ k → f x < f Q[k]))
      case atStart => exact ⟨i, Nat.le_refl _, rfl, rfl, HS2, (fun k hk h => absurd h (by have := HLQ.out; omega) : ∀ k (hk : k < Q.length), i ≤ k → f x < f Q[k])⟩
      case round =>
        clear HS2
        obtain ⟨j, hj, rfl, rfl, HS, HG⟩ := hrel
        by_cases j0 : j = 0
        · subst j0
          go_upto_region 4 with fail
          refine wp_region_noPanic ?_
          refine Goes.start (S := fun _ => True) (z := 100) (by kernel_rfl) ?_
          refine Goes.take (i := 0) (oi := ?oi1) (x := ?vx1) ?ho1 (by kernel_rfl) (by kernel_rfl) (by kernel_rfl) (by kernel_rfl) (fun _ _ _ h => h) (Or.inl ⟨?hw1, ?hy1⟩) trivial ?rest1
          case ho1 => (simp only [List.getElem?_toArray, List.getElem?_cons_zero] <;> rfl)
          case hw1 => rfl
          case hy1 => (intro w' hSw; go_simp; (try with_reducible rfl))
          case rest1 =>
          (try simp only [Act.put, List.setIfInBounds_toArray, List.set_cons_zero, List.set_cons_succ])
          refine Goes.take (i := 1) (oi := ?oi2) (x := ?vx2) ?ho2 (by kernel_rfl) (by kernel_rfl) (by kernel_rfl) (by kernel_rfl) (fun _ _ _ h => h) (Or.inl ⟨?hw2, ?hy2⟩) trivial ?rest2
          case ho2 => (simp only [List.getElem?_toArray, List.getElem?_cons_succ, List.getElem?_cons_zero] <;> rfl)
          case hw2 => rfl
          case hy2 => (intro w' hSw; go_simp; (try with_reducible rfl))
          case rest2 =>
          (try simp only [Act.put, List.setIfInBounds_toArray, List.set_cons_zero, List.set_cons_succ])
          refine Goes.take (i := 2) (oi := ?oi3) (x := ?vx3) ?ho3 (by kernel_rfl) (by kernel_rfl) (by kernel_rfl) (by kernel_rfl) (fun _ _ _ h => h) (Or.inl ⟨?hw3, ?hy3⟩) trivial ?rest3
          case ho3 => (simp only [List.getElem?_toArray, List.getElem?_cons_succ, List.getElem?_cons_zero] <;> rfl)
          case hw3 => rfl
          case hy3 => (intro w' hSw; go_simp; (try with_reducible rfl))
          case rest3 =>
          (try simp only [Act.put, List.setIfInBounds_toArray, List.set_cons_zero, List.set_cons_succ])
          refine Goes.take (i := 3) (oi := ?oi4) (x := ?vx4) ?ho4 (by kernel_rfl) (by kernel_rfl) (by kernel_rfl) (by kernel_rfl) (fun _ _ _ h => h) (Or.inl ⟨?hw4, ?hy4⟩) trivial ?rest4
          case ho4 => (simp only [List.getElem?_toArray, List.getElem?_cons_succ, List.getElem?_cons_zero] <;> rfl)
          case hw4 => rfl
          case hy4 => (intro w' hSw; go_simp; (try with_reducible rfl))
          case rest4 =>
          (try simp only [Act.put, List.setIfInBounds_toArray, List.set_cons_zero, List.set_cons_succ])
          refine Goes.take (i := 4) (oi := ?oi5) (x := undef) ?ho5 (by kernel_rfl) (by kernel_rfl) (by kernel_rfl) (by kernel_rfl) (fun _ _ _ h => h) (Or.inr ⟨?hw5, rfl⟩) trivial ?rest5
          case ho5 => (simp only [List.getElem?_toArray, List.getElem?_cons_succ, List.getElem?_cons_zero] <;> rfl)
          case hw5 => rfl
          case rest5 =>
          (try simp only [Act.put, List.setIfInBounds_toArray, List.set_cons_zero, List.set_cons_succ])
          refine Goes.take (i := 5) (oi := ?oi6) (x := undef) ?ho6 (by kernel_rfl) (by kernel_rfl) (by kernel_rfl) (by kernel_rfl) (fun _ _ _ h => h) (Or.inr ⟨?hw6, rfl⟩) trivial ?rest6
          case ho6 => (simp only [List.getElem?_toArray, List.getElem?_cons_succ, List.getElem?_cons_zero] <;> rfl)
          case hw6 => rfl
          case rest6 =>
          (try simp only [Act.put, List.setIfInBounds_toArray, List.set_cons_zero, List.set_cons_succ])
          refine Goes.take (i := 6) (oi := ?oi7) (x := undef) ?ho7 (by kernel_rfl) (by kernel_rfl) (by kernel_rfl) (by kernel_rfl) (fun _ _ _ h => h) (Or.inr ⟨?hw7, rfl⟩) trivial ?rest7
          case ho7 => (simp only [List.getElem?_toArray, List.getElem?_cons_succ, List.getElem?_cons_zero] <;> rfl)
          case hw7 => rfl
          case rest7 =>
          (try simp only [Act.put, List.setIfInBounds_toArray, List.set_cons_zero, List.set_cons_succ])
          refine Goes.take (i := 7) (oi := ?oi8) (x := undef) ?ho8 (by kernel_rfl) (by kernel_rfl) (by kernel_rfl) (by kernel_rfl) (fun _ _ _ h => h) (Or.inr ⟨?hw8, rfl⟩) trivial ?rest8
          case ho8 => (simp only [List.getElem?_toArray, List.getElem?_cons_succ, List.getElem?_cons_zero] <;> rfl)
          case hw8 => rfl
          case rest8 =>
          (try simp only [Act.put, List.setIfInBounds_toArray, List.set_cons_zero, List.set_cons_succ])
          refine Goes.take (i := 8) (oi := ?oi9) (x := undef) ?ho9 (by kernel_rfl) (by kernel_rfl) (by kernel_rfl) (by kernel_rfl) (fun _ _ _ h => h) (Or.inr ⟨?hw9, rfl⟩) trivial ?rest9
          case ho9 => (simp only [List.getElem?_toArray, List.getElem?_cons_succ, List.getElem?_cons_zero] <;> rfl)
          case hw9 => rfl
          case rest9 =>
          (try simp only [Act.put, List.setIfInBounds_toArray, List.set_cons_zero, List.set_cons_succ])
          refine Goes.take (i := 9) (oi := ?oi10) (x := undef) ?ho10 (by kernel_rfl) (by kernel_rfl) (by kernel_rfl) (by kernel_rfl) (fun _ _ _ h => h) (Or.inr ⟨?hw10, rfl⟩) trivial ?rest10
          case ho10 => (simp only [List.getElem?_toArray, List.getElem?_cons_succ, List.getElem?_cons_zero] <;> rfl)
          case hw10 => rfl
          case rest10 =>
          (try simp only [Act.put, List.setIfInBounds_toArray, List.set_cons_zero, List.set_cons_succ])
          refine Goes.take (i := 10) (oi := ?oi11) (x := undef) ?ho11 (by kernel_rfl) (by kernel_rfl) (by kernel_rfl) (by kernel_rfl) (fun _ _ _ h => h) (Or.inr ⟨?hw11, rfl⟩) trivial ?rest11
          case ho11 => (simp only [List.getElem?_toArray, List.getElem?_cons_succ, List.getElem?_cons_zero] <;> rfl)
          case hw11 => rfl
          case rest11 =>
          (try simp only [Act.put, List.setIfInBounds_toArray, List.set_cons_zero, List.set_cons_succ])
          refine Goes.take (i := 11) (oi := ?oi12) (x := undef) ?ho12 (by kernel_rfl) (by kernel_rfl) (by kernel_rfl) (by kernel_rfl) (fun _ _ _ h => h) (Or.inr ⟨?hw12, rfl⟩) trivial ?rest12
          case ho12 => (simp only [List.getElem?_toArray, List.getElem?_cons_succ, List.getElem?_cons_zero] <;> rfl)
          case hw12 => rfl
          case rest12 =>
          (try simp only [Act.put, List.setIfInBounds_toArray, List.set_cons_zero, List.set_cons_succ])
          refine Goes.take (i := 12) (oi := ?oi13) (x := undef) ?ho13 (by kernel_rfl) (by kernel_rfl) (by kernel_rfl) (by kernel_rfl) (fun _ _ _ h => h) (Or.inr ⟨?hw13, rfl⟩) trivial ?rest13
          case ho13 => (simp only [List.getElem?_toArray, List.getElem?_cons_succ, List.getElem?_cons_zero] <;> rfl)
          case hw13 => rfl
          case rest13 =>
          (try simp only [Act.put, List.setIfInBounds_toArray, List.set_cons_zero, List.set_cons_succ])
          refine Goes.take (i := 13) (oi := ?oi14) (x := undef) ?ho14 (by kernel_rfl) (by kernel_rfl) (by kernel_rfl) (by kernel_rfl) (fun _ _ _ h => h) (Or.inr ⟨?hw14, rfl⟩) trivial ?rest14
          case ho14 => (simp only [List.getElem?_toArray, List.getElem?_cons_succ, List.getElem?_cons_zero] <;> rfl)
          case hw14 => rfl
          case rest14 =>
          (try simp only [Act.put, List.setIfInBounds_toArray, List.set_cons_zero, List.set_cons_succ])
          refine Goes.take (i := 14) (oi := ?oi15) (x := undef) ?ho15 (by kernel_rfl) (by kernel_rfl) (by kernel_rfl) (by kernel_rfl) (fun _ _ _ h => h) (Or.inr ⟨?hw15, rfl⟩) trivial ?rest15
          case ho15 => (simp only [List.getElem?_toArray, List.getElem?_cons_succ, List.getElem?_cons_zero] <;> rfl)
          case hw15 => rfl
          case rest15 =>
          (try simp only [Act.put, List.setIfInBounds_toArray, List.set_cons_zero, List.set_cons_succ])
          refine Goes.take (i := 15) (oi := ?oi16) (x := undef) ?ho16 (by kernel_rfl) (by kernel_rfl) (by kernel_rfl) (by kernel_rfl) (fun _ _ _ h => h) (Or.inr ⟨?hw16, rfl⟩) trivial ?rest16
          case ho16 => (simp only [List.getElem?_toArray, List.getElem?_cons_succ, List.getElem?_cons_zero] <;> rfl)
          case hw16 => rfl
          case rest16 =>
          (try simp only [Act.put, List.setIfInBounds_toArray, List.set_cons_zero, List.set_cons_succ])
          refine Goes.take (i := 16) (oi := ?oi17) (x := ?vx17) ?ho17 (by kernel_rfl) (by kernel_rfl) (by kernel_rfl) (by kernel_rfl) (fun _ _ _ h => h) (Or.inl ⟨?hw17, ?hy17⟩) trivial ?rest17
          case ho17 => (simp only [List.getElem?_toArray, List.getElem?_cons_succ, List.getElem?_cons_zero] <;> rfl)
          case hw17 => rfl
          case hy17 => (intro w' hSw; go_simp; (try with_reducible rfl))
          case rest17 =>
          (try simp only [Act.put, List.setIfInBounds_toArray, List.set_cons_zero, List.set_cons_succ])
          refine Goes.done (by kernel_rfl) ?_ _
          refine NoPanic.normal ?_
          have HE2 : Hid (SoW w g cs (ordL f (l.take (i + 1)) ++ l.drop (i + 1)) wr.drew) := by
            have h := HS.out
            rw [HE.out 0 (Nat.zero_le _) HG.out (Or.inl rfl)] at h
            exact h.below (Below.drew (Below.refl _ _))
          clear HS HG
          go_wp2_with fail
          go_roundg (n + 1 - (i + 1))
          case measure => omega
          case rel => exact ⟨i + 1, by omega, by omega, rfl, by go_num, HE2⟩
        · obtain ⟨m, rfl⟩ : ∃ m, j = m + 1 := ⟨j - 1, by omega⟩
          have hm : m < Q.length := by have := HLQ.out; omega
          have hD : (Q.take (m + 1) ++ x :: (Q.drop (m + 1) ++ R)).length = n := by rw [row_len, HLQ.out, HLR.out]; omega
          have kx : wr.cell? ⟨g, m + 1, none⟩ = some (.int .i64 x) := by have h := HS.out.cell (i := m + 1) (by omega); rwa [row_x (by omega)] at h
          have ky : wr.cell? ⟨g, m, none⟩ = some (.int .i64 Q[m]) := by have h := HS.out.cell (i := m) (by omega); rwa [row_y hm] at h
          have fz : ∀ o, wr.frozen? ⟨g, o, none⟩ = false := HS.out.frz
          have zg : g < wr.heap.size := Nat.lt_of_lt_of_le HGW.out HS.out.sz
          obtain ⟨y, hy⟩ : ∃ y, y = Q[m] := ⟨_, rfl⟩
          rw [← hy] at ky
          have My : M y := HMQ.out y (by rw [hy]; exact List.getElem_mem hm)
          have HY : Hid (y = Q[m]) := hy
          have HD : Hid ((Q.take (m + 1) ++ x :: (Q.drop (m + 1) ++ R)).length = n) := hD
          have HCC : Hid (∀ W, Below wr.heap.size wr W → Calls Tryz.prog 96 #[.int .i64 x, .int .i64 y, pv] W fun e w' => ∃ r : Int, e = .returned (.int .i64 r) ∧ (r < 0 ↔ f x < f y) ∧ Below W.heap.size W w') := fun W hW => HC.out _ W (HS.out.below hW) x y Mx My
          clear hy hD j0
          have m0 : (0 : Int) ≤ (m : Int) := by omega
          have m1 : (0 : Int) < (m : Int) + 1 := by omega
          have m4 : (0 : Int) ≤ (m : Int) + 1 := by omega
          have m2 : (m : Int) + 1 < (n : Int) := by omega
          have m3 : (m : Int) < (n : Int) := by omega
          have hwm : IntKind.i64.wrap (m : Int) = (m : Int) := by rw [IntKind.wrap_i64]; omega
          go_upto_region 4 with fail
          refine wp_region_noPanic ?_
          refine Goes.start (S := fun w' => Below wr.heap.size wr w') (z := 100) (by kernel_rfl) ?_
          refine Goes.take (i := 0) (oi := ?oi101) (x := ?vx101) ?ho101 (by kernel_rfl) (by kernel_rfl) (by kernel_rfl) (by kernel_rfl) (fun _ _ _ h => h) (Or.inl ⟨?hw101, ?hy101⟩) (Below.drew (Below.refl _ _)) ?rest101
          case ho101 => (simp only [List.getElem?_toArray, List.getElem?_cons_zero] <;> rfl)
          case hw101 => rfl
          case hy101 => (intro w' hSw; have kx' := (hSw.cell (p := ⟨g, m + 1, none⟩) zg).trans kx; have ky' := (hSw.cell (p := ⟨g, m, none⟩) zg).trans ky; go_simp; (try with_reducible rfl))
          case rest101 =>
          (try simp only [Act.put, List.setIfInBounds_toArray, List.set_cons_zero, List.set_cons_succ])
          refine Goes.take (i := 1) (oi := ?oi102) (x := ?vx102) ?ho102 (by kernel_rfl) (by kernel_rfl) (by kernel_rfl) (by kernel_rfl) (fun _ _ _ h => h) (Or.inl ⟨?hw102, ?hy102⟩) (Below.drew (Below.refl _ _)) ?rest102
          case ho102 => (simp only [List.getElem?_toArray, List.getElem?_cons_succ, List.getElem?_cons_zero] <;> rfl)
          case hw102 => rfl
          case hy102 => (intro w' hSw; have kx' := (hSw.cell (p := ⟨g, m + 1, none⟩) zg).trans kx; have ky' := (hSw.cell (p := ⟨g, m, none⟩) zg).trans ky; go_simp; (try with_reducible rfl))
          case rest102 =>
          (try simp only [Act.put, List.setIfInBounds_toArray, List.set_cons_zero, List.set_cons_succ])
          refine Goes.take (i := 2) (oi := ?oi103) (x := ?vx103) ?ho103 (by kernel_rfl) (by kernel_rfl) (by kernel_rfl) (by kernel_rfl) (fun _ _ _ h => h) (Or.inl ⟨?hw103, ?hy103⟩) (Below.drew (Below.refl _ _)) ?rest103
          case ho103 => (simp only [List.getElem?_toArray, List.getElem?_cons_succ, List.getElem?_cons_zero] <;> rfl)
          case hw103 => rfl
          case hy103 => (intro w' hSw; have kx' := (hSw.cell (p := ⟨g, m + 1, none⟩) zg).trans kx; have ky' := (hSw.cell (p := ⟨g, m, none⟩) zg).trans ky; go_simp; (try with_reducible rfl))
          case rest103 =>
          (try simp only [Act.put, List.setIfInBounds_toArray, List.set_cons_zero, List.set_cons_succ])
          refine Goes.take (i := 3) (oi := ?oi104) (x := ?vx104) ?ho104 (by kernel_rfl) (by kernel_rfl) (by kernel_rfl) (by kernel_rfl) (fun _ _ _ h => h) (Or.inl ⟨?hw104, ?hy104⟩) (Below.drew (Below.refl _ _)) ?rest104
          case ho104 => (simp only [List.getElem?_toArray, List.getElem?_cons_succ, List.getElem?_cons_zero] <;> rfl)
          case hw104 => rfl
          case hy104 => (intro w' hSw; have kx' := (hSw.cell (p := ⟨g, m + 1, none⟩) zg).trans kx; have ky' := (hSw.cell (p := ⟨g, m, none⟩) zg).trans ky; go_simp; (try with_reducible rfl))
          case rest104 =>
          (try simp only [Act.put, List.setIfInBounds_toArray, List.set_cons_zero, List.set_cons_succ])
          refine Goes.take (i := 4) (oi := ?oi105) (x := ?vx105) ?ho105 (by kernel_rfl) (by kernel_rfl) (by kernel_rfl) (by kernel_rfl) (fun _ _ _ h => h) (Or.inl ⟨?hw105, ?hy105⟩) (Below.drew (Below.refl _ _)) ?rest105
          case ho105 => (simp only [List.getElem?_toArray, List.getElem?_cons_succ, List.getElem?_cons_zero] <;> rfl)
          case hw105 => rfl
          case hy105 => (intro w' hSw; have kx' := (hSw.cell (p := ⟨g, m + 1, none⟩) zg).trans kx; have ky' := (hSw.cell (p := ⟨g, m, none⟩) zg).trans ky; go_simp; (try with_reducible rfl))
          case rest105 =>
          (try simp only [Act.put, List.setIfInBounds_toArray, List.set_cons_zero, List.set_cons_succ])
          refine Goes.take (i := 5) (oi := ?oi106) (x := ?vx106) ?ho106 (by kernel_rfl) (by kernel_rfl) (by kernel_rfl) (by kernel_rfl) (fun _ _ _ h => h) (Or.inl ⟨?hw106, ?hy106⟩) (Below.drew (Below.refl _ _)) ?rest106
          case ho106 => (simp only [List.getElem?_toArray, List.getElem?_cons_succ, List.getElem?_cons_zero] <;> rfl)
          case hw106 => rfl
          case hy106 => (intro w' hSw; have kx' := (hSw.cell (p := ⟨g, m + 1, none⟩) zg).trans kx; have ky' := (hSw.cell (p := ⟨g, m, none⟩) zg).trans ky; go_simp; (try with_reducible rfl))
          case rest106 =>
          (try simp only [Act.put, List.setIfInBounds_toArray, List.set_cons_zero, List.set_cons_succ])
          refine Goes.take (i := 6) (oi := ?oi107) (x := ?vx107) ?ho107 (by kernel_rfl) (by kernel_rfl) (by kernel_rfl) (by kernel_rfl) (fun _ _ _ h => h) (Or.inl ⟨?hw107, ?hy107⟩) (Below.drew (Below.refl _ _)) ?rest107
          case ho107 => (simp only [List.getElem?_toArray, List.getElem?_cons_succ, List.getElem?_cons_zero] <;> rfl)
          case hw107 => rfl
          case hy107 => (intro w' hSw; have kx' := (hSw.cell (p := ⟨g, m + 1, none⟩) zg).trans kx; have ky' := (hSw.cell (p := ⟨g, m, none⟩) zg).trans ky; go_simp; (try with_reducible rfl))
          case rest107 =>
          (try simp only [Act.put, List.setIfInBounds_toArray, List.set_cons_zero, List.set_cons_succ])
          refine Goes.take (i := 7) (oi := ?oi108) (x := ?vx108) ?ho108 (by kernel_rfl) (by kernel_rfl) (by kernel_rfl) (by kernel_rfl) (fun _ _ _ h => h) (Or.inl ⟨?hw108, ?hy108⟩) (Below.drew (Below.refl _ _)) ?rest108
          case ho108 => (simp only [List.getElem?_toArray, List.getElem?_cons_succ, List.getElem?_cons_zero] <;> rfl)
          case hw108 => rfl
          case hy108 => (intro w' hSw; have kx' := (hSw.cell (p := ⟨g, m + 1, none⟩) zg).trans kx; have ky' := (hSw.cell (p := ⟨g, m, none⟩) zg).trans ky; go_simp; (try with_reducible rfl))
          case rest108 =>
          (try simp only [Act.put, List.setIfInBounds_toArray, List.set_cons_zero, List.set_cons_succ])
          refine Goes.take (i := 8) (oi := ?oi109) (x := ?vx109) ?ho109 (by kernel_rfl) (by kernel_rfl) (by kernel_rfl) (by kernel_rfl) (fun _ _ _ h => h) (Or.inl ⟨?hw109, ?hy109⟩) (Below.drew (Below.refl _ _)) ?rest109
          case ho109 => (simp only [List.getElem?_toArray, List.getElem?_cons_succ, List.getElem?_cons_zero] <;> rfl)
          case hw109 => rfl
          case hy109 => (intro w' hSw; have kx' := (hSw.cell (p := ⟨g, m + 1, none⟩) zg).trans kx; have ky' := (hSw.cell (p := ⟨g, m, none⟩) zg).trans ky; go_simp; (try with_reducible rfl))
          case rest109 =>
          (try simp only [Act.put, List.setIfInBounds_toArray, List.set_cons_zero, List.set_cons_succ])
          refine Goes.take (i := 9) (oi := ?oi110) (x := ?vx110) ?ho110 (by kernel_rfl) (by kernel_rfl) (by kernel_rfl) (by kernel_rfl) (fun _ _ _ h => h) (Or.inl ⟨?hw110, ?hy110⟩) (Below.drew (Below.refl _ _)) ?rest110
          case ho110 => (simp only [List.getElem?_toArray, List.getElem?_cons_succ, List.getElem?_cons_zero] <;> rfl)
          case hw110 => rfl
          case hy110 => (intro w' hSw; have kx' := (hSw.cell (p := ⟨g, m + 1, none⟩) zg).trans kx; have ky' := (hSw.cell (p := ⟨g, m, none⟩) zg).trans ky; go_simp; (try with_reducible rfl))
          case rest110 =>
          (try simp only [Act.put, List.setIfInBounds_toArray, List.set_cons_zero, List.set_cons_succ])
          refine Goes.take (i := 10) (oi := ?oi111) (x := ?vx111) ?ho111 (by kernel_rfl) (by kernel_rfl) (by kernel_rfl) (by kernel_rfl) (fun _ _ _ h => h) (Or.inl ⟨?hw111, ?hy111⟩) (Below.drew (Below.refl _ _)) ?rest111
          case ho111 => (simp only [List.getElem?_toArray, List.getElem?_cons_succ, List.getElem?_cons_zero] <;> rfl)
          case hw111 => rfl
          case hy111 => (intro w' hSw; have kx' := (hSw.cell (p := ⟨g, m + 1, none⟩) zg).trans kx; have ky' := (hSw.cell (p := ⟨g, m, none⟩) zg).trans ky; go_simp; (try with_reducible rfl))
          case rest111 =>
          (try simp only [Act.put, List.setIfInBounds_toArray, List.set_cons_zero, List.set_cons_succ])
          refine Goes.take (i := 11) (oi := ?oi112) (x := .int .i64 (m : Int)) ?ho112 (by kernel_rfl) (by kernel_rfl) (by kernel_rfl) (by kernel_rfl) (fun _ _ _ h => h) (Or.inl ⟨?hw112, ?hy112⟩) (Below.drew (Below.refl _ _)) ?rest112
          case ho112 => (simp only [List.getElem?_toArray, List.getElem?_cons_succ, List.getElem?_cons_zero] <;> rfl)
          case hw112 => rfl
          case hy112 => (intro w' hSw; have kx' := (hSw.cell (p := ⟨g, m + 1, none⟩) zg).trans kx; have ky' := (hSw.cell (p := ⟨g, m, none⟩) zg).trans ky; go_simp; (first | done | with_reducible rfl | exact hwm | go_num | rfl))
          case rest112 =>
          (try simp only [Act.put, List.setIfInBounds_toArray, List.set_cons_zero, List.set_cons_succ])
          refine Goes.take (i := 12) (oi := ?oi113) (x := ?vx113) ?ho113 (by kernel_rfl) (by kernel_rfl) (by kernel_rfl) (by kernel_rfl) (fun _ _ _ h => h) (Or.inl ⟨?hw113, ?hy113⟩) (Below.drew (Below.refl _ _)) ?rest113
          case ho113 => (simp only [List.getElem?_toArray, List.getElem?_cons_succ, List.getElem?_cons_zero] <;> rfl)
          case hw113 => rfl
          case hy113 => (intro w' hSw; have kx' := (hSw.cell (p := ⟨g, m + 1, none⟩) zg).trans kx; have ky' := (hSw.cell (p := ⟨g, m, none⟩) zg).trans ky; go_simp; (try with_reducible rfl))
          case rest113 =>
          (try simp only [Act.put, List.setIfInBounds_toArray, List.set_cons_zero, List.set_cons_succ])
          refine Goes.take (i := 13) (oi := ?oi114) (x := ?vx114) ?ho114 (by kernel_rfl) (by kernel_rfl) (by kernel_rfl) (by kernel_rfl) (fun _ _ _ h => h) (Or.inl ⟨?hw114, ?hy114⟩) (Below.drew (Below.refl _ _)) ?rest114
          case ho114 => (simp only [List.getElem?_toArray, List.getElem?_cons_succ, List.getElem?_cons_zero] <;> rfl)
          case hw114 => rfl
          case hy114 => (intro w' hSw; have kx' := (hSw.cell (p := ⟨g, m + 1, none⟩) zg).trans kx; have ky' := (hSw.cell (p := ⟨g, m, none⟩) zg).trans ky; go_simp; (try with_reducible rfl))
          case rest114 =>
          (try simp only [Act.put, List.setIfInBounds_toArray, List.set_cons_zero, List.set_cons_succ])
          refine Goes.all (rs := [14]) (by kernel_rfl) (by simp) ?_
          refine Ups.cons (i := 14) (o := ?oo115) ?ho115 (fun KK hKK => ?stp115) Ups.nil
          case ho115 => (simp only [List.getElem?_toArray, List.getElem?_cons_succ, List.getElem?_cons_zero] <;> rfl)
          case stp115 =>
          go_simp
          go_at_call 96
          refine (HCC.out _ (Below.drew (Below.refl _ _))).mono ?_
          rintro e w1 ⟨r, rfl, hr, hbq⟩
          replace hbq := (Below.drew (Below.refl wr.heap.size wr)).trans hbq
          have HB1 : Hid (Below wr.heap.size wr w1) := hbq
          clear hbq
          dsimp only
          refine hKK.out _ _ (Or.inr HB1.out) ?_
          clear hKK KK
          (try simp only [Act.put, List.setIfInBounds_toArray, List.set_cons_zero, List.set_cons_succ])
          have HS1 : Hid (SoW w g cs (Q.take (m + 1) ++ x :: (Q.drop (m + 1) ++ R)) w1) := HS.out.below HB1.out
          replace kx : w1.cell? ⟨g, m + 1, none⟩ = some (.int .i64 x) := (HB1.out.cell (p := ⟨g, m + 1, none⟩) zg).trans kx
          replace ky : w1.cell? ⟨g, m, none⟩ = some (.int .i64 y) := (HB1.out.cell (p := ⟨g, m, none⟩) zg).trans ky
          replace fz : ∀ o, w1.frozen? ⟨g, o, none⟩ = false := HS1.out.frz
          by_cases hr2 : f x < f y
          · have d1 : decide (r < 0) = true := decide_eq_true (hr.2 hr2)
            have r1 : r < 0 := hr.2 hr2
            clear hr
            refine Goes.take (i := 15) (oi := ?oi141) (x := .bool true) ?ho141 (by kernel_rfl) (by kernel_rfl) (by kernel_rfl) (by kernel_rfl) (fun _ _ _ h => h) (Or.inl ⟨?hw141, ?hy141⟩) HB1.out ?rest141
            case ho141 => (simp only [List.getElem?_toArray, List.getElem?_cons_succ, List.getElem?_cons_zero] <;> rfl)
            case hw141 => rfl
            case hy141 => (intro w' hSw; go_simp; (first | done | with_reducible rfl | exact hwm | go_num | rfl))
            case rest141 =>
            (try simp only [Act.put, List.setIfInBounds_toArray, List.set_cons_zero, List.set_cons_succ])
            refine Goes.take (i := 16) (oi := ?oi142) (x := ?vx142) ?ho142 (by kernel_rfl) (by kernel_rfl) (by kernel_rfl) (by kernel_rfl) (fun _ _ _ h => h) (Or.inl ⟨?hw142, ?hy142⟩) HB1.out ?rest142
            case ho142 => (simp only [List.getElem?_toArray, List.getElem?_cons_succ, List.getElem?_cons_zero] <;> rfl)
            case hw142 => rfl
            case hy142 => (intro w' hSw; go_simp; (try with_reducible rfl))
            case rest142 =>
            (try simp only [Act.put, List.setIfInBounds_toArray, List.set_cons_zero, List.set_cons_succ])
            refine Goes.done (by kernel_rfl) ?_ _
            refine NoPanic.normal ?_
            go_upto_region 6 with fail
            refine wp_region_noPanic ?_
            refine GoesV.start (S := fun w' => w'.cell? ⟨g, m + 1, none⟩ = some (.int .i64 x) ∧ w'.cell? ⟨g, m, none⟩ = some (.int .i64 y)) (Z := [15, 17]) (by kernel_rfl) ?_
            refine GoesV.take (i := 5) (oi := ?oi201) (x := ?vx201) ?ho201 (by kernel_rfl) (by kernel_rfl) (by kernel_rfl) (by kernel_rfl) (fun _ _ _ h => h) (Or.inl ⟨?hw201, ?hy201⟩) ⟨by simpa using kx, by simpa using ky⟩ ?rest201
            case ho201 => (simp only [List.getElem?_toArray, List.getElem?_cons_succ, List.getElem?_cons_zero] <;> rfl)
            case hw201 => rfl
            case hy201 => (intro w' hSw; obtain ⟨kx', ky'⟩ := hSw; go_simp; (try with_reducible rfl))
            case rest201 =>
            (try simp only [Act.put, List.setIfInBounds_toArray, List.set_cons_zero, List.set_cons_succ])
            refine GoesV.take (i := 6) (oi := ?oi202) (x := ?vx202) ?ho202 (by kernel_rfl) (by kernel_rfl) (by kernel_rfl) (by kernel_rfl) (fun _ _ _ h => h) (Or.inl ⟨?hw202, ?hy202⟩) ⟨by simpa using kx, by simpa using ky⟩ ?rest202
            case ho202 => (simp only [List.getElem?_toArray, List.getElem?_cons_succ, List.getElem?_cons_zero] <;> rfl)
            case hw202 => rfl
            case hy202 => (intro w' hSw; obtain ⟨kx', ky'⟩ := hSw; go_simp; (try with_reducible rfl))
            case rest202 =>
            (try simp only [Act.put, List.setIfInBounds_toArray, List.set_cons_zero, List.set_cons_succ])
            refine GoesV.take (i := 7) (oi := ?oi203) (x := .int .i64 (m : Int)) ?ho203 (by kernel_rfl) (by kernel_rfl) (by kernel_rfl) (by kernel_rfl) (fun _ _ _ h => h) (Or.inl ⟨?hw203, ?hy203⟩) ⟨by simpa using kx, by simpa using ky⟩ ?rest203
            case ho203 => (simp only [List.getElem?_toArray, List.getElem?_cons_succ, List.getElem?_cons_zero] <;> rfl)
            case hw203 => rfl
            case hy203 => (intro w' hSw; obtain ⟨kx', ky'⟩ := hSw; go_simp; (first | done | with_reducible rfl | exact hwm | go_num | rfl))
            case rest203 =>
            (try simp only [Act.put, List.setIfInBounds_toArray, List.set_cons_zero, List.set_cons_succ])
            refine GoesV.take (i := 8) (oi := ?oi204) (x := ?vx204) ?ho204 (by kernel_rfl) (by kernel_rfl) (by kernel_rfl) (by kernel_rfl) (fun _ _ _ h => h) (Or.inl ⟨?hw204, ?hy204⟩) ⟨by simpa using kx, by simpa using ky⟩ ?rest204
            case ho204 => (simp only [List.getElem?_toArray, List.getElem?_cons_succ, List.getElem?_cons_zero] <;> rfl)
            case hw204 => rfl
            case hy204 => (intro w' hSw; obtain ⟨kx', ky'⟩ := hSw; go_simp; (try with_reducible rfl))
            case rest204 =>
            (try simp only [Act.put, List.setIfInBounds_toArray, List.set_cons_zero, List.set_cons_succ])
            refine GoesV.take (i := 9) (oi := ?oi205) (x := ?vx205) ?ho205 (by kernel_rfl) (by kernel_rfl) (by kernel_rfl) (by kernel_rfl) (fun _ _ _ h => h) (Or.inl ⟨?hw205, ?hy205⟩) ⟨by simpa using kx, by simpa using ky⟩ ?rest205
            case ho205 => (simp only [List.getElem?_toArray, List.getElem?_cons_succ, List.getElem?_cons_zero] <;> rfl)
            case hw205 => rfl
            case hy205 => (intro w' hSw; obtain ⟨kx', ky'⟩ := hSw; go_simp; (try with_reducible rfl))
            case rest205 =>
            (try simp only [Act.put, List.setIfInBounds_toArray, List.set_cons_zero, List.set_cons_succ])
            refine GoesV.takeT (i := 10) (oi := ?oi206) (x := ?vx206) ?ho206 (by kernel_rfl) (by kernel_rfl) (by kernel_rfl) (fun _ _ _ h => h) (Or.inl ⟨?hw206, ?hy206⟩) ?rest206
            case ho206 => (simp only [List.getElem?_toArray, List.getElem?_cons_succ, List.getElem?_cons_zero] <;> rfl)
            case hw206 => rfl
            case hy206 => (intro w' hSw; go_simp; (try with_reducible rfl))
            case rest206 =>
            (try simp only [Act.put, List.setIfInBounds_toArray, List.set_cons_zero, List.set_cons_succ])
            refine GoesV.takeT (i := 11) (oi := ?oi207) (x := ?vx207) ?ho207 (by kernel_rfl) (by kernel_rfl) (by kernel_rfl) (fun _ _ _ h => h) (Or.inl ⟨?hw207, ?hy207⟩) ?rest207
            case ho207 => (simp only [List.getElem?_toArray, List.getElem?_cons_succ, List.getElem?_cons_zero] <;> rfl)
            case hw207 => rfl
            case hy207 => (intro w' hSw; go_simp; (try with_reducible rfl))
            case rest207 =>
            (try simp only [Act.put, List.setIfInBounds_toArray, List.set_cons_zero, List.set_cons_succ])
            refine GoesV.takeT (i := 12) (oi := ?oi208) (x := ?vx208) ?ho208 (by kernel_rfl) (by kernel_rfl) (by kernel_rfl) (fun _ _ _ h => h) (Or.inl ⟨?hw208, ?hy208⟩) ?rest208
            case ho208 => (simp only [List.getElem?_toArray, List.getElem?_cons_succ, List.getElem?_cons_zero] <;> rfl)
            case hw208 => rfl
            case hy208 => (intro w' hSw; go_simp; (try with_reducible rfl))
            case rest208 =>
            (try simp only [Act.put, List.setIfInBounds_toArray, List.set_cons_zero, List.set_cons_succ])
            refine GoesV.take (i := 13) (oi := ?oi209) (x := ?vx209) ?ho209 (by kernel_rfl) (by kernel_rfl) (by kernel_rfl) (by kernel_rfl) (fun _ _ _ h => h) (Or.inl ⟨?hw209, ?hy209⟩) ⟨by simpa using kx, by simpa using ky⟩ ?rest209
            case ho209 => (simp only [List.getElem?_toArray, List.getElem?_cons_succ, List.getElem?_cons_zero] <;> rfl)
            case hw209 => rfl
            case hy209 => (intro w' hSw; obtain ⟨kx', ky'⟩ := hSw; go_simp; (try with_reducible rfl))
            case rest209 =>
            (try simp only [Act.put, List.setIfInBounds_toArray, List.set_cons_zero, List.set_cons_succ])
            refine GoesV.take (i := 0) (oi := ?oi210) (x := ?vx210) ?ho210 (by kernel_rfl) (by kernel_rfl) (by kernel_rfl) (by kernel_rfl) (fun _ _ _ h => h) (Or.inl ⟨?hw210, ?hy210⟩) ⟨by simpa using kx, by simpa using ky⟩ ?rest210
            case ho210 => (simp only [List.getElem?_toArray, List.getElem?_cons_zero] <;> rfl)
            case hw210 => rfl
            case hy210 => (intro w' hSw; obtain ⟨kx', ky'⟩ := hSw; go_simp; (try with_reducible rfl))
            case rest210 =>
            (try simp only [Act.put, List.setIfInBounds_toArray, List.set_cons_zero, List.set_cons_succ])
            refine GoesV.take (i := 1) (oi := ?oi211) (x := ?vx211) ?ho211 (by kernel_rfl) (by kernel_rfl) (by kernel_rfl) (by kernel_rfl) (fun _ _ _ h => h) (Or.inl ⟨?hw211, ?hy211⟩) ⟨by simpa using kx, by simpa using ky⟩ ?rest211
            case ho211 => (simp only [List.getElem?_toArray, List.getElem?_cons_succ, List.getElem?_cons_zero] <;> rfl)
            case hw211 => rfl
            case hy211 => (intro w' hSw; obtain ⟨kx', ky'⟩ := hSw; go_simp; (try with_reducible rfl))
            case rest211 =>
            (try simp only [Act.put, List.setIfInBounds_toArray, List.set_cons_zero, List.set_cons_succ])
            refine GoesV.take (i := 14) (oi := ?oi212) (x := ?vx212) ?ho212 (by kernel_rfl) (by kernel_rfl) (by kernel_rfl) (by kernel_rfl) (fun _ _ _ h => h) (Or.inl ⟨?hw212, ?hy212⟩) ⟨by simpa using kx, by simpa using ky⟩ ?rest212
            case ho212 => (simp only [List.getElem?_toArray, List.getElem?_cons_succ, List.getElem?_cons_zero] <;> rfl)
            case hw212 => rfl
            case hy212 => (intro w' hSw; obtain ⟨kx', ky'⟩ := hSw; go_simp; (try with_reducible rfl))
            case rest212 =>
            (try simp only [Act.put, List.setIfInBounds_toArray, List.set_cons_zero, List.set_cons_succ])
            refine GoesV.takeT (i := 2) (oi := ?oi213) (x := ?vx213) ?ho213 (by kernel_rfl) (by kernel_rfl) (by kernel_rfl) (fun _ _ _ h => h) (Or.inl ⟨?hw213, ?hy213⟩) ?rest213
            case ho213 => (simp only [List.getElem?_toArray, List.getElem?_cons_succ, List.getElem?_cons_zero] <;> rfl)
            case hw213 => rfl
            case hy213 => (intro w' hSw; go_simp; (try with_reducible rfl))
            case rest213 =>
            (try simp only [Act.put, List.setIfInBounds_toArray, List.set_cons_zero, List.set_cons_succ])
            refine GoesV.takeT (i := 3) (oi := ?oi214) (x := ?vx214) ?ho214 (by kernel_rfl) (by kernel_rfl) (by kernel_rfl) (fun _ _ _ h => h) (Or.inl ⟨?hw214, ?hy214⟩) ?rest214
            case ho214 => (simp only [List.getElem?_toArray, List.getElem?_cons_succ, List.getElem?_cons_zero] <;> rfl)
            case hw214 => rfl
            case hy214 => (intro w' hSw; go_simp; (try with_reducible rfl))
            case rest214 =>
            (try simp only [Act.put, List.setIfInBounds_toArray, List.set_cons_zero, List.set_cons_succ])
            refine GoesV.takeT (i := 4) (oi := ?oi215) (x := .int .i64 (m : Int)) ?ho215 (by kernel_rfl) (by kernel_rfl) (by kernel_rfl) (fun _ _ _ h => h) (Or.inl ⟨?hw215, ?hy215⟩) ?rest215
            case ho215 => (simp only [List.getElem?_toArray, List.getElem?_cons_succ, List.getElem?_cons_zero] <;> rfl)
            case hw215 => rfl
            case hy215 => (intro w' hSw; go_simp; (first | done | with_reducible rfl | exact hwm | go_num | rfl))
            case rest215 =>
            (try simp only [Act.put, List.setIfInBounds_toArray, List.set_cons_zero, List.set_cons_succ])
            refine GoesV.all (rs := [15]) (by kernel_rfl) (by simp) ?_
            refine UpsV.cons (i := 15) (o := ?oo216) ?ho216 (fun KK hKK => ?stp216) UpsV.nil
            case ho216 => (simp only [List.getElem?_toArray, List.getElem?_cons_succ, List.getElem?_cons_zero] <;> rfl)
            case stp216 =>
            go_simp
            refine hKK.out _ _ (fun _ h => absurd (by simp) h) ?_
            clear hKK KK
            (try simp only [Act.put, List.setIfInBounds_toArray, List.set_cons_zero, List.set_cons_succ])
            refine GoesV.takeT (i := 16) (oi := ?oi217) (x := ?vx217) ?ho217 (by kernel_rfl) (by kernel_rfl) (by kernel_rfl) (fun _ _ _ h => h) (Or.inl ⟨?hw217, ?hy217⟩) ?rest217
            case ho217 => (simp only [List.getElem?_toArray, List.getElem?_cons_succ, List.getElem?_cons_zero] <;> rfl)
            case hw217 => rfl
            case hy217 => (intro w' hSw; go_simp; (try with_reducible rfl))
            case rest217 =>
            (try simp only [Act.put, List.setIfInBounds_toArray, List.set_cons_zero, List.set_cons_succ])
            refine GoesV.all (rs := [17]) (by kernel_rfl) (by simp) ?_
            refine UpsV.cons (i := 17) (o := ?oo218) ?ho218 (fun KK hKK => ?stp218) UpsV.nil
            case ho218 => (simp only [List.getElem?_toArray, List.getElem?_cons_succ, List.getElem?_cons_zero] <;> rfl)
            case stp218 =>
            go_simp
            refine hKK.out _ _ (fun _ h => absurd (by simp) h) ?_
            clear hKK KK
            (try simp only [Act.put, List.setIfInBounds_toArray, List.set_cons_zero, List.set_cons_succ])
            refine GoesV.done (by kernel_rfl) ?_ _
            refine NoPanic.normal ?_
            have HS3 : Hid (SoW w g cs (Q.take m ++ x :: (Q.drop m ++ R)) ((w1.drew.setCell ⟨g, m + 1, none⟩ (.int .i64 y)).setCell ⟨g, m, none⟩ (.int .i64 x))) := by
              have h0 : SoW w g cs _ w1.drew := HS1.out.below (Below.drew (Below.refl _ _))
              have h := (h0.set (i := m + 1) (by rw [HD.out]; omega) y).set (i := m) (by rw [List.length_set, HD.out]; omega) x
              rw [HY.out, swap_ins hm, ← HY.out] at h
              exact h
            have HG3 : Hid (∀ k (hk : k < Q.length), m ≤ k → f x < f Q[k]) := fun k hk h => by
              by_cases e : k = m
              · subst e; rw [← HY.out]; exact hr2
              · exact HG.out k hk (by omega)
            go_wp2_with fail
            go_roundg m
            case measure => omega
            case rel => exact ⟨m, by omega, rfl, by go_num, HS3, HG3⟩
          · have d1 : decide (r < 0) = false := decide_eq_false fun h => hr2 (hr.1 h)
            have r1 : ¬ r < 0 := fun h => hr2 (hr.1 h)
            clear hr
            refine Goes.take (i := 15) (oi := ?oi181) (x := .bool false) ?ho181 (by kernel_rfl) (by kernel_rfl) (by kernel_rfl) (by kernel_rfl) (fun _ _ _ h => h) (Or.inl ⟨?hw181, ?hy181⟩) HB1.out ?rest181
            case ho181 => (simp only [List.getElem?_toArray, List.getElem?_cons_succ, List.getElem?_cons_zero] <;> rfl)
            case hw181 => rfl
            case hy181 => (intro w' hSw; go_simp; (first | done | with_reducible rfl | exact hwm | go_num | rfl))
            case rest181 =>
            (try simp only [Act.put, List.setIfInBounds_toArray, List.set_cons_zero, List.set_cons_succ])
            refine Goes.take (i := 16) (oi := ?oi182) (x := ?vx182) ?ho182 (by kernel_rfl) (by kernel_rfl) (by kernel_rfl) (by kernel_rfl) (fun _ _ _ h => h) (Or.inl ⟨?hw182, ?hy182⟩) HB1.out ?rest182
            case ho182 => (simp only [List.getElem?_toArray, List.getElem?_cons_succ, List.getElem?_cons_zero] <;> rfl)
            case hw182 => rfl
            case hy182 => (intro w' hSw; go_simp; (try with_reducible rfl))
            case rest182 =>
            (try simp only [Act.put, List.setIfInBounds_toArray, List.set_cons_zero, List.set_cons_succ])
            refine Goes.done (by kernel_rfl) ?_ _
            refine NoPanic.normal ?_
            have HE2 : Hid (SoW w g cs (ordL f (l.take (i + 1)) ++ l.drop (i + 1)) w1) := by
              have h := HS1.out
              rw [HE.out (m + 1) (by omega) HG.out (Or.inr ⟨hm, by have h9 := hr2; rw [HY.out] at h9; simpa using h9⟩)] at h
              exact h
            clear HS HG HS1
            go_wp2_with fail
            go_roundg (n + 1 - (i + 1))
            case measure => omega
            case rel => exact ⟨i + 1, by omega, by omega, rfl, by go_num, HE2⟩
    · have hin : ¬ (i : Int) < (n : Int) := by omega
      have HE2 : Hid (SoW w g cs (ordL f l) wr) := by
        have h := HS.out
        have e1 := HN.out
        rw [List.take_of_length_le (by omega), List.drop_of_length_le (by omega), List.append_nil] at h
        exact h
      go_wp2_with fail
      exact ⟨rfl, .tuple #[], by simp [results, Tryz.results191], rfl, HE2.out⟩
theorem iStable (f : Int → Int) (M : Int → Prop) (pv : Value) (g cs n : Nat) (l : List Int) (w : World) (hn : l.length = n) (h20 : n < 20) (hcs : n ≤ cs) (hM : ∀ y ∈ l, M y) (hS : SoW w g cs l w)
    (hC : ∀ (D : List Int) (W : World), SoW w g cs D W → ∀ x y, M x → M y → Calls Tryz.prog 96 #[.int .i64 x, .int .i64 y, pv] W fun e w' => ∃ r : Int, e = .returned (.int .i64 r) ∧ (r < 0 ↔ f x < f y) ∧ Below W.heap.size W w') :
    Calls Tryz.prog 149 #[.slice (some ⟨g, 0, none⟩) n cs, .int .i64 n, .func (.func 96) #[] #[pv]] w fun e w' => e = .returned (.tuple #[]) ∧ SoW w g cs (ordL f l) w' := by
  have HC : Hid (Calls Tryz.prog 191 #[.slice (some ⟨g, 0, none⟩) n cs, .int .i64 0, .int .i64 n, .func (.func 96) #[] #[pv]] w fun e w' => e = .returned (.tuple #[]) ∧ SoW w g cs (ordL f l) w') := iInsSort f M pv g cs n l w hn (by omega) hcs hM hS hC
  have n20 : ¬ (20 : Int) ≤ (n : Int) := by omega
  have n21 : ¬ (20 : Int) < (n : Int) := by omega
  clear hC hM hn hS
  go_enter Tryz.func149, Tryz.ntmps149
  go_upto_region 2 with fail
  go_loopg [7, 8] 0 (fun q a b wr => a = .int .i64 0 ∧ b = .int .i64 20 ∧ wr = w)
  case atStart => exact ⟨rfl, rfl, rfl⟩
  case round =>
    obtain ⟨rfl, rfl, rfl⟩ := hrel
    go_wp2_with (go_at_call 191; refine HC.out.mono ?_; rintro e w1 ⟨rfl, hs1⟩)
    have HS1 : Hid (SoW wr g cs (ordL f l) w1) := hs1
    clear hs1
    obtain ⟨wo, hwo⟩ : ∃ wo : World, wo = wr := ⟨_, rfl⟩
    rw [← hwo] at HS1 HC
    go_upto_region 7 with fail
    go_loopg [6, 7, 8, 9] 0 (fun q a b c d wi => a = .int .i64 20 ∧ Hid (SoW wo g cs (ordL f l) wi))
    case atStart => exact ⟨rfl, HS1⟩
    case round =>
      clear HS1
      obtain ⟨rfl, HS2⟩ := hrel
      go_wp2_with fail
      exact ⟨rfl, .tuple #[], by simp [results, Tryz.results149], rfl, hwo ▸ HS2.out⟩
theorem iSortStable (f : Int → Int) (M : Int → Prop) (pv : Value) (g cs n : Nat) (l : List Int) (w : World) (hn : l.length = n) (h20 : n < 20) (hcs : n ≤ cs) (hM : ∀ y ∈ l, M y) (hS : SoW w g cs l w)
    (hC : ∀ (D : List Int) (W : World), SoW w g cs D W → ∀ x y, M x → M y → Calls Tryz.prog 96 #[.int .i64 x, .int .i64 y, pv] W fun e w' => ∃ r : Int, e = .returned (.int .i64 r) ∧ (r < 0 ↔ f x < f y) ∧ Below W.heap.size W w') :
    Calls Tryz.prog 95 #[.slice (some ⟨g, 0, none⟩) n cs, .func (.func 96) #[] #[pv]] w fun e w' => e = .returned (.tuple #[]) ∧ SoW w g cs (ordL f l) w' := by
  have HC : Hid (Calls Tryz.prog 149 #[.slice (some ⟨g, 0, none⟩) n cs, .int .i64 n, .func (.func 96) #[] #[pv]] w fun e w' => e = .returned (.tuple #[]) ∧ SoW w g cs (ordL f l) w') := iStable f M pv g cs n l w hn h20 hcs hM hS hC
  clear hC hM hn hS
  go_enter Tryz.func95, Tryz.ntmps95
  go_wp2_with (go_at_call 149; refine HC.out.mono ?_; rintro e w1 ⟨rfl, hs1⟩)
  exact ⟨rfl, .tuple #[], by simp [results, Tryz.results95], rfl, hs1⟩
theorem iInsSort0 (fv : Value) (w : World) : Calls Tryz.prog 191 #[.slice none 0 0, .int .i64 0, .int .i64 0, fv] w fun e w' => e = .returned (.tuple #[]) ∧ w' = w := by
  go_enter Tryz.func191, Tryz.ntmps191
  go_upto_region 1 with fail
  go_loopg [8, 9] 0 (fun q v u wr => v = .int .i64 1 ∧ wr = w)
  case atStart => exact ⟨rfl, rfl⟩
  case round =>
    obtain ⟨rfl, rfl⟩ := hrel
    go_wp2_with fail
    exact ⟨rfl, .tuple #[], by simp [results, Tryz.results191], rfl, rfl⟩
theorem iStable0 (fv : Value) (w : World) : Calls Tryz.prog 149 #[.slice none 0 0, .int .i64 0, fv] w fun e w' => e = .returned (.tuple #[]) ∧ w' = w := by
  go_enter Tryz.func149, Tryz.ntmps149
  go_upto_region 2 with fail
  go_loopg [7, 8] 0 (fun q a b wr => a = .int .i64 0 ∧ b = .int .i64 20 ∧ wr = w)
  case atStart => exact ⟨rfl, rfl, rfl⟩
  case round =>
    obtain ⟨rfl, rfl, rfl⟩ := hrel
    go_wp2_with (go_at_call 191; refine (iInsSort0 fv _).mono ?_; rintro e w1 ⟨rfl, hw1⟩)
    subst w1
    obtain ⟨wo, hwo⟩ : ∃ wo : World, wo = wr := ⟨_, rfl⟩
    go_upto_region 7 with fail
    go_loopg [6, 7, 8, 9] 0 (fun q a b c d wi => a = .int .i64 20 ∧ wi = wo)
    case atStart => exact ⟨rfl, hwo.symm⟩
    case round =>
      obtain ⟨rfl, h9⟩ := hrel
      go_wp2_with fail
      exact ⟨rfl, .tuple #[], by simp [results, Tryz.results149], rfl, by first | rfl | exact h9.trans hwo⟩
theorem iSortStable0 (fv : Value) (w : World) : Calls Tryz.prog 95 #[.slice none 0 0, fv] w fun e w' => e = .returned (.tuple #[]) ∧ w' = w := by
  go_enter Tryz.func95, Tryz.ntmps95
  go_wp2_with (go_at_call 149; refine (iStable0 fv _).mono ?_; rintro e w1 ⟨rfl, hs1⟩)
  exact ⟨rfl, .tuple #[], by simp [results, Tryz.results95], rfl, by first | rfl | exact hs1⟩
end Go.Proofs.YtcbgedlckcjjnaaGreat
