/- Structs of any number of cells as one value: what a load and a store of one whole makes of memory; no condition. -/
import Derived.Test.YtfpemobkkfobkaaGreatDoorRows
import Derived.Deep.MidRow
import Derived.OrdersHeld
import Derived.Deep.RegionHeld3
import Derived.Deep.DeepCutAuto
import Derived.Test.YtfpemobkkfobkaaGreatDoorK01
import Derived.Test.YtfpemobkkfobkaaGreatDoorK02
import Derived.Test.YtfpemobkkfobkaaGreatDoorK03
import Derived.Test.YtfpemobkkfobkaaGreatDoorK04
namespace Go.Proofs.YtfpemobkkfobkaaGreatDoor
open Go.RowKit
set_option linter.unusedVariables false

/-- Every cell of what reads is one cell. -/
theorem rd_one {w : World} {B : Nat} : ∀ (s : Sh) (d : s.El) (cs : List Value), s.Rd w B d cs → ∀ v ∈ cs, v.oneCell' = true
  | .int k, d, cs, h => by rw [h.1]; intro v hv; simp at hv; subst hv; rfl
  | .bool, d, cs, h => by have h' : cs = [.bool d] := h; rw [h']; intro v hv; simp at hv; subst hv; rfl
  | .row _ e, d, cs, ⟨a, cap, h1, _⟩ => by rw [h1]; intro v hv; simp at hv; subst hv; rfl
  | .rowO _ e, d, cs, ⟨a, cap, h1, _⟩ => by rw [h1]; intro v hv; simp at hv; subst hv; rfl
  | .nil, d, cs, h => by have h' : cs = [] := h; rw [h']; intro v hv; simp at hv
  | .cons f r, d, cs, ⟨c1, c2, h1, h2, h3⟩ => by
    subst h1
    intro v hv
    rcases List.mem_append.1 hv with hv | hv
    · exact rd_one f _ _ h2 v hv
    · exact rd_one r _ _ h3 v hv
theorem rd_all {w : World} {B : Nat} {s : Sh} {d : s.El} {A : Array Value} (h : s.Rd w B d A.toList) : A.all (·.oneCell') = true :=
  Array.all_eq_true_iff_forall_mem.2 (fun v hv => rd_one s d _ h v (by simpa using hv))
theorem rd_size {w : World} {B : Nat} {s : Sh} {d : s.El} {A : Array Value} (h : s.Rd w B d A.toList) : A.size = s.sz := by
  have := Sh.Rd.len s d _ h
  simpa using this

theorem bx_range {w : World} {b : Nat} {A : Array Value} (h : ∀ o, w.cell? ⟨b, o, none⟩ = A[o]?) : w.rangeAt b 0 A.toList := fun j v hv => by
  rw [Nat.zero_add, h j, ← Array.getElem?_toList]; exact hv
theorem bx_there {w : World} {b n : Nat} {A : Array Value} (h : ∀ o, w.cell? ⟨b, o, none⟩ = A[o]?) (hf : ∀ o, w.frozen? ⟨b, o, none⟩ = false) (hn : n = A.size) : w.there b 0 n := fun j hj => by
  refine ⟨?_, hf _⟩
  rw [Nat.zero_add, h j, Array.getElem?_eq_getElem (by omega)]; rfl
theorem setCells_block {b g : Nat} (hg : g ≠ b) : ∀ (vs : List Value) (w : World) (k : Nat), (w.setCells b k vs).heap[g]? = w.heap[g]?
  | [], _, _ => rfl
  | v :: vs, w, k => (setCells_block hg vs (w.setCell ⟨b, k, none⟩ v) (k + 1)).trans (Below.heap_setCell _ _ _ _ (by dsimp only; exact hg))
theorem setCells_size {b : Nat} : ∀ (vs : List Value) (w : World) (k : Nat), (w.setCells b k vs).heap.size = w.heap.size
  | [], _, _ => rfl
  | v :: vs, w, k => (setCells_size vs (w.setCell ⟨b, k, none⟩ v) (k + 1)).trans (by simp)
theorem setCells_below {b B : Nat} (hB : B ≤ b) : ∀ (vs : List Value) (w w0 : World) (k : Nat), Below B w0 w → Below B w0 (w.setCells b k vs)
  | [], _, _, _, h => h
  | v :: vs, w, w0, k, h => setCells_below hB vs _ w0 (k + 1) (h.setCell (p := ⟨b, k, none⟩) hB v)
/-- A box that is stored whole. -/
theorem bx_setCells {w : World} {b : Nat} {A A' : Array Value} (h : ∀ o, w.cell? ⟨b, o, none⟩ = A[o]?) (hs : A'.size = A.size) : ∀ o, (w.setCells b 0 A'.toList).cell? ⟨b, o, none⟩ = A'[o]? := fun o => by
  by_cases ho : o < A'.size
  · have := World.cell?_setCells_in b A'.toList 0 w (fun j hj => by
      rw [Nat.zero_add, h j, Array.getElem?_eq_getElem (by simp at hj; omega)]; rfl) o (by simpa using ho)
    rw [Nat.zero_add] at this
    rw [this, Array.getElem?_eq_getElem ho]
    simp
  · rw [World.cell?_setCells_out b A'.toList 0 w ⟨b, o, none⟩ (fun _ _ => Or.inr (by simp; omega)), h o, Array.getElem?_eq_none (by omega), Array.getElem?_eq_none (by omega)]
theorem bx_setOff {w : World} {b b' k : Nat} {vs : List Value} {A : Array Value} (h : ∀ o, w.cell? ⟨b, o, none⟩ = A[o]?) (hne : b ≠ b') : ∀ o, (w.setCells b' k vs).cell? ⟨b, o, none⟩ = A[o]? := fun o => by
  rw [World.cell?_setCells_out b' vs k w ⟨b, o, none⟩ (fun e _ => absurd e hne)]; exact h o
theorem fx_sets {w : World} {b b' k : Nat} {vs : List Value} (h : ∀ o, w.frozen? ⟨b, o, none⟩ = false) : ∀ o, (w.setCells b' k vs).frozen? ⟨b, o, none⟩ = false := fun o => by
  rw [World.frozen?_setCells]; exact h o
theorem bx_al (w : World) (A : Array Value) (t : TypeId) : ∀ o, (w.alloc (.cells A t)).cell? ⟨w.heap.size, o, none⟩ = A[o]? := fun o => by simp [go_sem]
theorem fx_al (w : World) (A : Array Value) (t : TypeId) : ∀ o, (w.alloc (.cells A t)).frozen? ⟨w.heap.size, o, none⟩ = false := fun o => by simp [go_sem]
/-- Element k of a row that reads: its cells lie there as one range. -/
theorem row_at {w : World} {B : Nat} {t : TypeId} {e : Sh} {l : List e.El} {a : Option Addr} {n cap : Nat} (h : (Sh.row t e).Rd w B l [.slice a n cap]) (k : Nat) (hk : k < l.length) :
    ∃ b off cs, a = some ⟨b, off, none⟩ ∧ b < B ∧ cs.length = e.sz ∧ w.rangeAt b (off + k * e.sz) cs ∧ e.Rd w B l[k] cs := by
  obtain ⟨a', cap', h1, h2, h3, b, off, h4, h5⟩ := h
  simp only [List.cons.injEq, Value.slice.injEq, and_true] at h1
  obtain ⟨rfl, rfl, rfl⟩ := h1
  obtain ⟨ea, hb⟩ := h4 (by intro e; subst e; simp at hk)
  obtain ⟨cs, g1, g2, g3⟩ := h5 k hk
  refine ⟨b, off, cs, ea, hb, g1, fun j v hv => ?_, g3⟩
  have hj : j < cs.length := (List.getElem?_eq_some_iff.1 hv).1
  rw [g2 j (by omega)]; exact hv
theorem range_below {w w' : World} {C b o : Nat} {cs : List Value} (h : w.rangeAt b o cs) (hb : Below C w w') (hlt : b < C) : w'.rangeAt b o cs := fun j v hv => by
  rw [hb.cell (p := ⟨b, o + j, none⟩) hlt]; exact h j v hv
/-- What is read of a box that holds the answer. -/
theorem results_box {P : Program} {fn : Func} {p : Tmp} {ty : TypeId} (h : fn.results = #[.cell p ty]) (tmps : Array Value) (w : World) (b : Nat) (A : Array Value) (d : TypeDesc)
    (hp : tmps.getD p undef = .pointer (some ⟨b, 0, none⟩)) (hj : ∀ o, w.cell? ⟨b, o, none⟩ = A[o]?) (hu : P.underlying ty = some d) (hd : d.isRow = true) (hi : (P.info? ty).map (·.size) = some A.size) :
    (results fn tmps).run P w = .ok (.agg A) w := by
  have hp' : tmps[p]?.getD undef = .pointer (some ⟨b, 0, none⟩) := by simpa using hp
  simp [results, h, hp', asAddr, run_loadVar_mid w b 0 ty A.toList d (bx_range hj) hu hd (by simpa using hi)]
theorem get_of {A : Array Value} {l : List Value} (h : A.toList = l) (j : Nat) : A[j]? = l[j]? := by rw [← h, Array.getElem?_toList]
theorem arr_of {A : Array Value} {l : List Value} (h : A.toList = l) : A = l.toArray := by rw [← h]
end Go.Proofs.YtfpemobkkfobkaaGreatDoor

/- A region that draws its order: what is read may be read first where nothing but the region's last operation (number z, which waits for it) writes it; no condition. -/
namespace Go.Proofs.YtfpemobkkfobkaaGreatDoor
open Go.RowKit
set_option linter.unusedVariables false

section
variable {P : Program} {ops : Array Oper} {Q : Exit → Act → World → Prop} {md : Region.Mode} {S : World → Prop} {z : Nat}

/-- Whatever comes up next; behind each operation but number z, S holds. -/
def Goes (P : Program) (md : Region.Mode) (ops : Array Oper) (Q : Exit → Act → World → Prop) (S : World → Prop) (z : Nat) : Nat → Array Bool → Act → World → Prop
  | 0, t, a, w => Region.ready md ops t = [] ∧ Q .normal a w
  | k + 1, t, a, w => (Region.ready md ops t = [] → Q .normal a w) ∧ ∀ i, i ∈ Region.ready md ops t → wpOp P ops Q i (fun b v => (i = z ∨ S v) ∧ Goes P md ops Q S z k (t.setIfInBounds i true) b v) a w

theorem Goes.any : ∀ (k : Nat) (t : Array Bool) (a : Act) (w : World), Goes P md ops Q S z k t a w → wpAny P md ops Q k t a w
  | 0, _, _, _, h => h
  | k + 1, _, _, _, h => ⟨h.1, fun i hi => wpOp_mono (fun b v hb => Goes.any k _ b v hb.2) (h.2 i hi)⟩

theorem Goes.first {i : Nat} {oi : Oper} {x : Value} (hi : ops[i]? = some oi) (hsel : ∀ (j : Nat) (o : Oper) cs b, ops[j]? = some o → o.op ≠ .select cs b)
    (hQ : ∀ c a w, Q (.panic c) (a.put oi.dst x) w → Q (.panic c) a w) (hz : ∀ o, ops[z]? = some o → ∃ e ∈ o.after, Region.binds md e = true ∧ e.on = i) :
    ∀ (k : Nat) (t : Array Bool) (a : Act) (w : World),
      (∀ j oj, ops[j]? = some oj → j ≠ i → t.getD j true = false → (∀ e ∈ oj.after, Region.binds md e = true → e.on ≠ i) → oi.apart ops oj = true) →
      i ∈ Region.ready md ops t → YieldsIf P ops S oi x a → S w →
      Goes P md ops Q S z k (t.setIfInBounds i true) (a.put oi.dst x) w → Goes P md ops Q S z (k + 1) t a w := by
  intro k
  induction k with
  | zero =>
    intro t a w _ hr hy hS H
    refine ⟨fun h => (by rw [h] at hr; cases hr), fun j hj => ?_⟩
    rcases Nat.decEq j i with hji | hji
    · have hrd := ready_mono hj hji
      rw [H.1] at hrd
      cases hrd
    · subst hji
      exact hy.wpOp hi hS ⟨Or.inr hS, H⟩
  | succ k ih =>
    intro t a w hfree hr hy hS H
    refine ⟨fun h => (by rw [h] at hr; cases hr), fun j hj => ?_⟩
    rcases Nat.decEq j i with hji | hji
    · have step := H.2 j (ready_mono hj hji)
      obtain ⟨hun, oj, hoj, hall⟩ := mem_ready.1 hj
      have hi0 := (mem_ready.1 hr).1
      have hnot : ∀ e ∈ oj.after, Region.binds md e = true → e.on ≠ i := fun e he hb heq => by
        have h1 := hall e he hb
        rw [heq] at h1
        rcases Nat.lt_or_ge i t.size with h' | h'
        · simp [h'] at hi0 h1; rw [hi0] at h1; cases h1
        · simp [Array.getElem?_eq_none h'] at h1
      have hjz : j ≠ z := fun e => by
        subst e
        obtain ⟨e, he, hb, hon⟩ := hz oj hoj
        exact hnot e he hb hon
      have two := wpOp_putIf hoj (hfree j oj hoj hji hun hnot) (fun cs b => hsel i oi cs b hi) (fun cs b => hsel j oj cs b hoj) hQ hy step
      refine wpOp_mono (fun b v h3 => ?_) two
      have hSv : S v := by
        rcases h3.2.1 with e | e
        · exact absurd e hjz
        · exact e
      refine ⟨Or.inr hSv, ih (t.setIfInBounds j true) b v (fun q oq hq hqi hqu hqn => hfree q oq hq hqi ?_ hqn) (ready_mono hr (Ne.symm hji)) h3.1 hSv ?_⟩
      · by_cases hjq : j = q
        · subst hjq; exact hun
        · rw [getD_set_ne true hjq] at hqu; exact hqu
      · rw [Array.setIfInBounds_comm _ _ hji]
        exact h3.2.2
    · subst hji
      exact hy.wpOp hi hS ⟨Or.inr hS, H⟩

/-- Number z waits for number i. -/
def waitsFor (md : Region.Mode) (ops : Array Oper) (z i : Nat) : Bool := ((ops[z]?).map fun o => o.after.any fun e => Region.binds md e && e.on == i).getD true
theorem waits_spec {i : Nat} (h : waitsFor md ops z i = true) : ∀ o, ops[z]? = some o → ∃ e ∈ o.after, Region.binds md e = true ∧ e.on = i := fun o ho => by
  unfold waitsFor at h
  rw [ho] at h
  simp only [Option.map_some, Option.getD_some] at h
  obtain ⟨e, he, hb⟩ := Array.any_eq_true'.1 h
  simp only [Bool.and_eq_true, beq_iff_eq] at hb
  exact ⟨e, he, hb.1, hb.2⟩
/-- Number i is taken first. -/
theorem Goes.take {i : Nat} {oi : Oper} {x : Value} {k : Nat} {t : Array Bool} {a : Act} {w : World} (hi : ops[i]? = some oi)
    (hs : Region.noSelect ops = true) (hf : Region.free md ops t i = true) (hr : (Region.ready md ops t).contains i = true) (hz : waitsFor md ops z i = true)
    (hQ : ∀ c a w, Q (.panic c) (a.put oi.dst x) w → Q (.panic c) a w) (hy : YieldsIf P ops S oi x a) (hS : S w)
    (h : Goes P md ops Q S z k (t.setIfInBounds i true) (a.put oi.dst x) w) : Goes P md ops Q S z (k + 1) t a w :=
  Goes.first hi (Region.noSelect_spec hs) hQ (waits_spec hz) k t a w (Region.free_spec hi hf) (by simpa using hr) hy hS h
theorem Goes.done {t : Array Bool} {a : Act} {w : World} (hr : Region.ready md ops t = []) (h : Q .normal a w) : ∀ k, Goes P md ops Q S z k t a w
  | 0 => ⟨hr, h⟩
  | _ + 1 => ⟨fun _ => h, fun i hi => by rw [hr] at hi; cases hi⟩
/-- Those that may come up, one by one. -/
def Ups (P : Program) (md : Region.Mode) (ops : Array Oper) (Q : Exit → Act → World → Prop) (S : World → Prop) (z k : Nat) (t : Array Bool) (a : Act) (w : World) (rs : List Nat) : Prop :=
  ∀ i ∈ rs, wpOp P ops Q i (fun b v => (i = z ∨ S v) ∧ Goes P md ops Q S z k (t.setIfInBounds i true) b v) a w
theorem Goes.all {rs : List Nat} {k : Nat} {t : Array Bool} {a : Act} {w : World} (hr : Region.ready md ops t = rs) (hne : rs ≠ []) (h : Ups P md ops Q S z k t a w rs) : Goes P md ops Q S z (k + 1) t a w :=
  ⟨fun h0 => absurd (hr ▸ h0) hne, fun i hi => h i (hr ▸ hi)⟩
theorem Ups.nil {k : Nat} {t : Array Bool} {a : Act} {w : World} : Ups P md ops Q S z k t a w [] := fun _ h => by cases h
theorem Ups.cons {k : Nat} {t : Array Bool} {a : Act} {w : World} {i : Nat} {o : Oper} {rs : List Nat} (ho : ops[i]? = some o)
    (h : ∀ K : Act → World → Prop, Hid (∀ b v, (i = z ∨ S v) → Goes P md ops Q S z k (t.setIfInBounds i true) b v → K b v) → if Region.wanted o (yielded ops a.tmps) = true then Oper.wp P o a w K Q else K (a.put o.dst undef) w)
    (hs : Ups P md ops Q S z k t a w rs) : Ups P md ops Q S z k t a w (i :: rs) := fun j hj => by
  rcases List.mem_cons.1 hj with rfl | hj
  · have h1 := h (fun b v => (j = z ∨ S v) ∧ Goes P md ops Q S z k (t.setIfInBounds j true) b v) (fun b v h1 h2 => ⟨h1, h2⟩)
    unfold wpOp
    simp only [ho]
    split at h1
    · rename_i hw
      rw [if_pos hw]
      exact Or.inl h1
    · rename_i hw
      rw [if_neg hw]
      exact h1
  · exact hs j hj
/-- The beginning. -/
theorem Goes.start {id : Nat} {a : Act} {w : World} (hm : P.follows .mixedOrders = true) (h : Goes P .any ops Q S z ops.size (Array.replicate ops.size false) a w.drew) : (Code.region id ops true).wp P Q a w :=
  wp_region_any hm (Goes.any _ _ _ _ h)
end
end Go.Proofs.YtfpemobkkfobkaaGreatDoor

/- A region that draws its order: a call that leaves the world as it was may be made first; no condition. -/
namespace Go.Proofs.YtfpemobkkfobkaaGreatDoor
open Go.RowKit
set_option linter.unusedVariables false

section
variable {P : Program} {ops : Array Oper} {Q : Exit → Act → World → Prop} {md : Region.Mode} {S : World → Prop} {z : Nat}

/-- What holds of a state whatever an operation leaves in its slot holds behind it. -/
theorem wpOp_also {j : Nat} {oj : Oper} (hj : ops[j]? = some oj) {K : Act → World → Prop} {a : Act} {w : World} {Y : Act → Prop} (hY : ∀ u, Y (a.put oj.dst u)) (hYd : ∀ d u, Y (({ a with defers := d :: a.defers } : Act).put oj.dst u))
    (h : wpOp P ops Q j K a w) : wpOp P ops Q j (fun b v => Y b ∧ K b v) a w := by
  unfold wpOp at *
  simp only [hj] at *
  by_cases hw : Region.wanted oj (yielded ops a.tmps) = true
  · rw [if_pos hw] at h ⊢
    rcases h with h | h
    · refine Or.inl ?_
      unfold Oper.wp at *
      generalize (execOp a.eval oj).run P w = r at *
      cases r with
      | ok n w' =>
        cases n <;> simp only [Oper.upon] at h ⊢
        case value u => exact ⟨hY u, h⟩
        case skip => exact ⟨hY _, h⟩
        case defer d => exact ⟨hYd d _, h⟩
        case enter f args =>
          refine Calls.mono h fun e w'' he => ?_
          cases e with
          | returned u => exact ⟨hY u, he⟩
          | panicked c => exact he
          | outgrown => exact he
        case row row args => exact Rows.mono h fun u w'' he => ⟨hY u, he⟩
      | halt x w' =>
        cases x <;> simp only [Oper.upon] at h ⊢
        all_goals exact h
    · exact Or.inr h
  · rw [if_neg hw] at h ⊢
    exact ⟨hY _, h⟩

/-- In every world that meets S the operation is a call that answers x and leaves the world as it was. -/
def QuietIf (P : Program) (ops : Array Oper) (S : World → Prop) (o : Oper) (x : Value) (a : Act) : Prop :=
  Region.wanted o (yielded ops a.tmps) = true ∧ ∀ w, S w → ∃ f args, (execOp a.eval o).run P w = .ok (.enter f args) w ∧ Calls P f args w (fun e w' => e = .returned x ∧ w' = w)
theorem QuietIf.here {i : Nat} {o : Oper} {x : Value} {a : Act} (hi : ops[i]? = some o) (hy : QuietIf P ops S o x a) {K : Act → World → Prop} {w : World} (hS : S w) (h : K (a.put o.dst x) w) : wpOp P ops Q i K a w := by
  unfold wpOp
  simp only [hi]
  rw [if_pos hy.1]
  refine Or.inl ?_
  obtain ⟨f, args, hrun, hc⟩ := hy.2 w hS
  unfold Oper.wp
  rw [hrun]
  simp only [Oper.upon]
  exact hc.mono (by rintro e w' ⟨rfl, rfl⟩; exact h)
theorem QuietIf.same {o : Oper} {x : Value} {a a' : Act} (hy : QuietIf P ops S o x a) (he : execOp a'.eval o = execOp a.eval o) (hw : Region.wanted o (yielded ops a'.tmps) = Region.wanted o (yielded ops a.tmps)) : QuietIf P ops S o x a' := by
  unfold QuietIf at *
  rw [he, hw]
  exact hy

theorem Goes.quiet {i : Nat} {oi : Oper} {x : Value} (hi : ops[i]? = some oi) (hsel : ∀ (j : Nat) (o : Oper) cs b, ops[j]? = some o → o.op ≠ .select cs b)
    (hQ : ∀ c a w, Q (.panic c) (a.put oi.dst x) w → Q (.panic c) a w) (hz : ∀ o, ops[z]? = some o → ∃ e ∈ o.after, Region.binds md e = true ∧ e.on = i) :
    ∀ (k : Nat) (t : Array Bool) (a : Act) (w : World),
      (∀ j oj, ops[j]? = some oj → j ≠ i → t.getD j true = false → (∀ e ∈ oj.after, Region.binds md e = true → e.on ≠ i) → oi.apart ops oj = true) →
      i ∈ Region.ready md ops t → QuietIf P ops S oi x a → S w →
      Goes P md ops Q S z k (t.setIfInBounds i true) (a.put oi.dst x) w → Goes P md ops Q S z (k + 1) t a w := by
  intro k
  induction k with
  | zero =>
    intro t a w _ hr hy hS H
    refine ⟨fun h => (by rw [h] at hr; cases hr), fun j hj => ?_⟩
    rcases Nat.decEq j i with hji | hji
    · have hrd := ready_mono hj hji
      rw [H.1] at hrd
      cases hrd
    · subst hji
      exact hy.here hi hS ⟨Or.inr hS, H⟩
  | succ k ih =>
    intro t a w hfree hr hy hS H
    refine ⟨fun h => (by rw [h] at hr; cases hr), fun j hj => ?_⟩
    rcases Nat.decEq j i with hji | hji
    · have step := H.2 j (ready_mono hj hji)
      obtain ⟨hun, oj, hoj, hall⟩ := mem_ready.1 hj
      have hi0 := (mem_ready.1 hr).1
      have hnot : ∀ e ∈ oj.after, Region.binds md e = true → e.on ≠ i := fun e he hb heq => by
        have h1 := hall e he hb
        rw [heq] at h1
        rcases Nat.lt_or_ge i t.size with h' | h'
        · simp [h'] at hi0 h1; rw [hi0] at h1; cases h1
        · simp [Array.getElem?_eq_none h'] at h1
      have hjz : j ≠ z := fun e => by
        subst e
        obtain ⟨e, he, hb, hon⟩ := hz oj hoj
        exact hnot e he hb hon
      have hap := hfree j oj hoj hji hun hnot
      have hsi : ∀ cs b, oi.op ≠ .select cs b := fun cs b => hsel i oi cs b hi
      obtain ⟨-, -, h3⟩ := Oper.apart_spec hap
      have two := wpOp_also (Y := fun b => QuietIf P ops S oi x b) hoj (fun u => hy.same (execOp_put oi hsi a oj.dst u h3) (wanted_put oi a oj.dst u h3))
        (fun d u => (hy.same (a' := { a with defers := d :: a.defers }) rfl rfl).same (execOp_put oi hsi _ oj.dst u h3) (wanted_put oi _ oj.dst u h3))
        (wpOp_putIf (S := fun _ => False) hoj hap hsi (fun cs b => hsel j oj cs b hoj) hQ (Or.inl ⟨hy.1, fun _ h => h.elim⟩) step)
      refine wpOp_mono (fun b v h4 => ?_) two
      have hSv : S v := by
        rcases h4.2.2.1 with e | e
        · exact absurd e hjz
        · exact e
      refine ⟨Or.inr hSv, ih (t.setIfInBounds j true) b v (fun q oq hq hqi hqu hqn => hfree q oq hq hqi ?_ hqn) (ready_mono hr (Ne.symm hji)) h4.1 hSv ?_⟩
      · by_cases hjq : j = q
        · subst hjq; exact hun
        · rw [getD_set_ne true hjq] at hqu; exact hqu
      · rw [Array.setIfInBounds_comm _ _ hji]
        exact h4.2.2.2
    · subst hji
      exact hy.here hi hS ⟨Or.inr hS, H⟩
/-- The call number i is made first. -/
theorem Goes.call {i : Nat} {oi : Oper} {x : Value} {k : Nat} {t : Array Bool} {a : Act} {w : World} (hi : ops[i]? = some oi)
    (hs : Region.noSelect ops = true) (hf : Region.free md ops t i = true) (hr : (Region.ready md ops t).contains i = true) (hz : waitsFor md ops z i = true)
    (hQ : ∀ c a w, Q (.panic c) (a.put oi.dst x) w → Q (.panic c) a w) (hy : QuietIf P ops S oi x a) (hS : S w)
    (h : Goes P md ops Q S z k (t.setIfInBounds i true) (a.put oi.dst x) w) : Goes P md ops Q S z (k + 1) t a w :=
  Goes.quiet hi (Region.noSelect_spec hs) hQ (waits_spec hz) k t a w (Region.free_spec hi hf) (by simpa using hr) hy hS h
end
end Go.Proofs.YtfpemobkkfobkaaGreatDoor

/- The law's own helpers on subs, a sub as one value of 16 cells that are not named; no condition but that there are at most a million parts. -/
namespace Go.Proofs.YtfpemobkkfobkaaGreatDoor
open Go.RowKit
set_option linter.unusedVariables false
set_option maxRecDepth 8000

theorem lSzSubA (x : DSub) (A : Array Value) (left : Int) (w : World) (B : Nat) (hr : shSub.Rd w B x A.toList) (hB : B ≤ w.heap.size) (h0 : 0 ≤ left) (h1 : left ≤ 1048576) :
    Calls Tryz.prog 68 #[.agg A, .int .i64 left] w fun e w' => e = .returned (.int .i64 (if left < totSub x then -1 else left - totSub x)) ∧ Below w.heap.size w w' := by
  obtain ⟨u, v, e, -⟩ := rd_Sub hr
  rw [e] at hr
  rw [arr_of e]
  exact lSzSub x u v left w B hr hB h0 h1
theorem lToSubA (x : DSub) (A : Array Value) (w : World) (B : Nat) (hr : shSub.Rd w B x A.toList) (hB : B ≤ w.heap.size) (hT : totSub x ≤ 1048576) :
    Calls Tryz.prog 73 #[.agg A] w fun e w' => ∃ A', e = .returned (.agg A') ∧ Own w' w.heap.size w'.heap.size shSub x A'.toList ∧ Below w.heap.size w w' := by
  obtain ⟨u, v, e, -⟩ := rd_Sub hr
  rw [e] at hr
  rw [arr_of e]
  refine (lToSub x u v w B hr hB hT).mono ?_
  rintro e w' ⟨u2, v2, he, ho, hb⟩
  exact ⟨_, he, ho, hb⟩
theorem lEqSubA (x : DSub) (A A' : Array Value) (w : World) (B : Nat) (hr : shSub.Rd w B x A.toList) (hr' : shSub.Rd w B x A'.toList) (hB : B ≤ w.heap.size) (hT : totSub x ≤ 1048576) :
    Calls Tryz.prog 85 #[.agg A, .agg A'] w fun e w' => e = .returned (.bool true) ∧ Below w.heap.size w w' := by
  obtain ⟨u, v, e, -⟩ := rd_Sub hr
  obtain ⟨u', v', e', -⟩ := rd_Sub hr'
  rw [e] at hr
  rw [e'] at hr'
  rw [arr_of e, arr_of e']
  exact lEqSub x u v u' v' w B hr hr' hB hT
end Go.Proofs.YtfpemobkkfobkaaGreatDoor

/- What the law's own helpers (measure, copy, compare) make of slices of subs; no condition but that there are at most a million parts. Written by mks.py. -/
namespace Go.Proofs.YtfpemobkkfobkaaGreatDoor
open Go.RowKit
set_option linter.unusedVariables false
set_option maxRecDepth 8000

abbrev shSubs : Sh := .row 93 shSub
def totSubs (l : List DSub) : Nat := l.length + fsum totSub l
theorem setRow_cells (g : Nat) : ∀ (vs : List Value) (w : World) (off : Nat), setRow w g off vs = w.setCells g off vs
  | [], _, _ => rfl
  | v :: vs, w, off => setRow_cells g vs (w.setCell ⟨g, off, none⟩ v) (off + 1)

theorem info_SubL : (Tryz.prog.info? 141).map (·.size) = some 16 := by kernel_rfl
set_option maxHeartbeats 2000000 in
theorem lSzSubs (l : List DSub) (v : Value) (left : Int) (w : World) (B : Nat) (hr : shSubs.Rd w B l [v]) (hB : B ≤ w.heap.size) (h0 : 0 ≤ left) (h1 : left ≤ 1048576) :
    Calls Tryz.prog 48 #[v, .int .i64 left] w fun e w' => e = .returned (.int .i64 (if left < totSubs l then -1 else left - totSubs l)) ∧ Below w.heap.size w w' := by
  obtain ⟨a, cap, ev⟩ := row_form hr
  simp only [List.cons.injEq, and_true] at ev
  subst ev
  have hmx : l.length ≤ 9223372036854775807 := row_max hr
  by_cases hA : left < l.length
  · rw [if_pos (by unfold totSubs; omega)]
    clear hr
    generalize l.length = n at *
    have h2 : left - (n : Int) < 0 := by omega
    go_enter Tryz.func48, Tryz.ntmps48
    go_wp2
    go_ret
    exact ⟨rfl, by go_grown⟩
  · obtain ⟨n, hn⟩ : ∃ n, l.length = n := ⟨_, rfl⟩
    rw [hn] at hr hmx hA ⊢
    have h2 : 0 ≤ left - (n : Int) := by omega
    generalize hRR : (if left < (totSubs l : Int) then -1 else left - (totSubs l : Int)) = R
    have HRR : Hid ((if left < (totSubs l : Int) then -1 else left - (totSubs l : Int)) = R) := hRR
    have HRd : Hid (∀ W, Below w.heap.size w W → shSubs.Rd W B l [.slice a n cap]) := fun W hW => hr.below hB hW
    have HN : Hid (l.length = n) := hn
    clear hRR hr hn
    go_enter Tryz.func48, Tryz.ntmps48
    go_wp2_with fail
    go_loopw [1, 5] (fun t i wr => ∃ (k : Nat) (x : Int), k ≤ n ∧ i = .int .i64 k ∧ t = .int .i64 x ∧ 0 ≤ x ∧ x ≤ left ∧ Hid (x = left - n - (fsum totSub (l.take k) : Nat)) ∧ Below w.heap.size w wr) (fun _ i _ => n - (intOf i).toNat)
    case atStart => exact ⟨0, left - n, Nat.zero_le _, rfl, rfl, h2, by omega, (by simp [fsum] : left - (n : Int) = left - n - (fsum totSub (l.take 0) : Nat)), Below.refl _ _⟩
    case round =>
      obtain ⟨k, x, hk, rfl, rfl, hx0, hx1, hxe, hbl⟩ := hrel
      by_cases hlt : k < n
      · have hkl : k < l.length := by have := HN.out; omega
        obtain ⟨b, off, cs, ha, hb, hlen, hrg, r3⟩ := row_at (HRd.out wr hbl) k hkl
        subst ha
        replace hlen : cs.length = 16 := hlen
        replace hrg : wr.rangeAt b (off + k * 16) cs := hrg
        have HI : (Tryz.prog.info? 141).map (·.size) = some cs.length := by rw [hlen]; exact info_SubL
        have HS : Hid (fsum totSub (l.take (k + 1)) = fsum totSub (l.take k) + totSub l[k]) := fsum_take hkl
        have HS2 : Hid (fsum totSub (l.take (k + 1)) ≤ fsum totSub l) := fsum_le l (k + 1)
        have HC : Hid (Calls Tryz.prog 68 #[.agg cs.toArray, .int .i64 x] wr fun e w' => e = .returned (.int .i64 (if x < totSub l[k] then -1 else x - totSub l[k])) ∧ Below wr.heap.size wr w') := lSzSubA l[k] cs.toArray x wr B r3 (Nat.le_trans hB hbl.size) hx0 (by omega)
        have HB : Hid _ := hbl
        have HG : Hid _ := hrg
        have HI' : Hid _ := HI
        clear r3 hbl hrg HI
        generalize totSub l[k] = q at *
        go_wp2_with (refine wpList_load_mid rfl 141 _ rfl _ _ (by rfl) cs _ HG.out Tryz.underlying141 rfl HI'.out ?_)
        refine HC.out.mono ?_
        rintro e w1 ⟨rfl, hb1⟩
        have HB1 : Hid (Below w.heap.size w w1) := HB.out.trans (hb1.mono HB.out.size)
        clear hb1 HC
        by_cases hq : x < q
        · rw [if_pos hq]
          go_wp2_with fail
          go_ret
          refine ⟨ret_int ?_, HB1.out⟩
          have := HS.out; have := HS2.out; have := hxe.out; have := HN.out
          rw [← HRR.out, if_pos (by unfold totSubs; omega)]
        · rw [if_neg hq]
          have hq2 : 0 ≤ x - (q : Int) := by omega
          have HE : Hid (x - q = left - n - (fsum totSub (l.take (k + 1)) : Nat)) := by have := HS.out; have := hxe.out; show _ = _; omega
          have hq3 : x - (q : Int) ≤ left := by omega
          clear hq
          generalize x - (q : Int) = x2 at *
          go_wp2_with fail
          go_roundw
          case rel => exact ⟨k + 1, x2, by omega, by go_num, rfl, hq2, hq3, HE, HB1.out⟩
          case measure => simp [intOf]; omega
      · obtain rfl : k = n := by omega
        go_wp2_with fail
        go_ret
        refine ⟨ret_int ?_, hbl⟩
        have h3 := hxe.out; have h4 := HN.out
        rw [← h4, List.take_length] at h3
        rw [← HRR.out, if_neg (by unfold totSubs; omega)]
        unfold totSubs; omega

theorem info_SubI : (Tryz.prog.info? 93).map (·.size) = some 16 := by kernel_rfl
theorem info_SubZ : (Tryz.prog.info? 93).map (fun i => (i.zero, i.size, i.bytes)) = some (some (.agg #[.int .i64 0, .int .i64 0, .bool false, .int .i64 0, .int .i64 0, .int .i64 0, .int .i64 0, .int .i64 0, .int .i64 0, .slice none 0 0, .int .i64 0, .int .i64 0, .slice none 0 0, .int .i64 0, .int .i64 0, .int .i64 0]), 16, 160) := by kernel_rfl
set_option maxHeartbeats 4000000 in
theorem lToSubs (l : List DSub) (v : Value) (w : World) (B : Nat) (hr : shSubs.Rd w B l [v]) (hB : B ≤ w.heap.size) (hT : totSubs l ≤ 1048576) :
    Calls Tryz.prog 56 #[v] w fun e w' => ∃ u, e = .returned u ∧ Own w' w.heap.size w'.heap.size shSubs l [u] ∧ Below w.heap.size w w' := by
  obtain ⟨i0, hi, hz0, hz1, hz2⟩ := info_parts info_SubZ
  obtain ⟨a, cap, ev⟩ := row_form hr
  simp only [List.cons.injEq, and_true] at ev
  subst ev
  have HT : Hid (∀ k (hk : k < l.length), totSub l[k] ≤ 1048576) := fun k hk => by have := fsum_at totSub hk; unfold totSubs at hT; omega
  have hn1 : l.length ≤ 1048576 := by unfold totSubs at hT; omega
  obtain ⟨n, hn⟩ : ∃ n, l.length = n := ⟨_, rfl⟩
  rw [hn] at hr hn1 ⊢
  have HRd : Hid (∀ W, Below w.heap.size w W → shSubs.Rd W B l [.slice a n cap]) := fun W hW => hr.below hB hW
  have HN : Hid (l.length = n) := hn
  clear hr hT hn
  go_enter Tryz.func56, Tryz.ntmps56
  go_wp2_with (at_make; refine wpList_make_full w rfl _ _ 77 rfl w.heap.size 93 i0 (.agg #[.int .i64 0, .int .i64 0, .bool false, .int .i64 0, .int .i64 0, .int .i64 0, .int .i64 0, .int .i64 0, .int .i64 0, .slice none 0 0, .int .i64 0, .int .i64 0, .slice none 0 0, .int .i64 0, .int .i64 0, .int .i64 0]) 16 Tryz.underlying77 hi hz0 hz1 .i64 .i64 _ _ n (by rfl) (by rfl) rfl rfl (by rw [hz2]; omega) (by unfold maxLen; omega) (Nat.le_refl _) ?_; intro w1 hown hgr)
  have hb1 : Below w.heap.size w w1 := (Below.refl _ _).grown hgr (Nat.le_refl _) (by intro k hk; cases hk)
  have hown0 : Own w1 w.heap.size w1.heap.size shSubs (l.take 0 ++ List.replicate (n - 0) shSub.zero) [.slice (some ⟨w.heap.size, 0, none⟩) n n] := by
    have h := Own.made (e := shSub) (z := .agg #[.int .i64 0, .int .i64 0, .bool false, .int .i64 0, .int .i64 0, .int .i64 0, .int .i64 0, .int .i64 0, .int .i64 0, .slice none 0 0, .int .i64 0, .int .i64 0, .slice none 0 0, .int .i64 0, .int .i64 0, .int .i64 0]) rfl hown
    exact h.tight
  have HO0 : Hid _ := hown0
  have HB0 : Hid _ := hb1
  clear hown hgr hown0 hb1 hi hz0 hz1 hz2
  go_loopw [4] (fun i wr => ∃ k : Nat, k ≤ n ∧ i = .int .i64 k ∧ Own wr w.heap.size wr.heap.size shSubs (l.take k ++ List.replicate (n - k) shSub.zero) [.slice (some ⟨w.heap.size, 0, none⟩) n n] ∧ Below w.heap.size w wr) (fun i _ => n - (intOf i).toNat)
  case atStart => exact ⟨0, Nat.zero_le _, rfl, HO0.out, HB0.out⟩
  case round =>
    obtain ⟨k, hk, rfl, hown, hbl⟩ := hrel
    clear HO0 HB0
    by_cases hlt : k < n
    · have hkl : k < l.length := by have := HN.out; omega
      obtain ⟨b, off, cs, ha, hb, hlen, hrg, r3⟩ := row_at (HRd.out wr hbl) k hkl
      subst ha
      replace hlen : cs.length = 16 := hlen
      replace hrg : wr.rangeAt b (off + k * 16) cs := hrg
      have HI : (Tryz.prog.info? 141).map (·.size) = some cs.length := by rw [hlen]; exact (by kernel_rfl : (Tryz.prog.info? 141).map (·.size) = some 16)
      have HC : Hid (Calls Tryz.prog 73 #[.agg cs.toArray] wr fun e w' => ∃ A, e = .returned (.agg A) ∧ Own w' wr.heap.size w'.heap.size shSub l[k] A.toList ∧ Below wr.heap.size wr w') := lToSubA l[k] cs.toArray wr B r3 (Nat.le_trans hB hbl.size) (HT.out k hkl)
      have HG : Hid _ := hrg
      have HI' : Hid _ := HI
      have HOwn : Hid _ := hown
      have HBl : Hid _ := hbl
      clear r3 hrg HI hown hbl
      go_wp2_with (refine wpList_load_mid rfl 141 _ rfl _ _ (by rfl) cs _ HG.out Tryz.underlying141 rfl HI'.out ?_)
      refine HC.out.mono ?_
      rintro e w1 ⟨A, rfl, ho, hb1⟩
      clear HC
      have hz := hb1.size
      have hA : A.size = 16 := rd_size (ho.rd (Nat.le_refl _))
      have hA1 : A.all (·.oneCell') = true := rd_all (ho.rd (Nat.le_refl _))
      have o1 : Own w1 w.heap.size wr.heap.size shSubs (l.take k ++ List.replicate (n - k) shSub.zero) [.slice (some ⟨w.heap.size, 0, none⟩) n n] := HOwn.out.below (Nat.le_refl _) hb1
      have hlen2 : (l.take k ++ List.replicate (n - k) shSub.zero).length = n := by have := HN.out; simp; omega
      have o3 := o1.stored (k := k) (by rw [hlen2]; exact hlt) ho hz
      rw [set_step HN.out hlt, setRow_cells] at o3
      obtain ⟨sl, fz, -⟩ := hOwnSlot o1
      have hth : w1.there w.heap.size (k * 16) A.size := fun j hj => by
        obtain ⟨old, hold⟩ := sl (k * 16 + j) (by show k * 16 + j < n * 16; omega)
        exact ⟨by rw [hold]; rfl, fz _⟩
      have HT3 : Hid _ := hth
      have HI3 : Hid ((Tryz.prog.info? 93).map (·.size) = some A.size) := by show _ = _; rw [hA]; exact info_SubI
      have HA1 : Hid _ := hA1
      have HO3 : Hid (Own (w1.setCells w.heap.size (k * 16) A.toList) w.heap.size w1.heap.size shSubs (l.take (k + 1) ++ List.replicate (n - (k + 1)) shSub.zero) [.slice (some ⟨w.heap.size, 0, none⟩) n n]) := o3.1
      have HB3 : Hid (Below w.heap.size w (w1.setCells w.heap.size (k * 16) A.toList)) := setCells_below (Nat.le_refl _) _ _ _ _ (HBl.out.trans (hb1.mono HBl.out.size))
      clear o1 o3 sl fz ho hb1 hz hlen2 hth hA hA1
      go_wp2_with (refine wpList_store_mid rfl 93 _ _ rfl _ _ A (by rfl) (by rfl) HT3.out HI3.out HA1.out ?_)
      go_roundw
      case rel => exact ⟨k + 1, by omega, by go_num, HO3.out.tight, HB3.out⟩
      case measure => simp [intOf]; omega
    · obtain rfl : k = n := by omega
      go_wp2_with fail
      go_ret
      refine ⟨_, rfl, ?_, hbl⟩
      have e : l.take k ++ List.replicate (k - k) shSub.zero = l := by rw [Nat.sub_self, List.take_of_length_le (by have := HN.out; omega)]; simp
      rw [e] at hown
      exact hown

set_option maxHeartbeats 4000000 in
theorem lEqSubs (l : List DSub) (v u : Value) (w : World) (B : Nat) (hr : shSubs.Rd w B l [v]) (hr' : shSubs.Rd w B l [u]) (hB : B ≤ w.heap.size) (hT : totSubs l ≤ 1048576) :
    Calls Tryz.prog 65 #[v, u] w fun e w' => e = .returned (.bool true) ∧ Below w.heap.size w w' := by
  obtain ⟨a, cap, ev⟩ := row_form hr
  simp only [List.cons.injEq, and_true] at ev
  subst ev
  obtain ⟨a', cap', ev⟩ := row_form hr'
  simp only [List.cons.injEq, and_true] at ev
  subst ev
  have hmx : l.length ≤ 9223372036854775807 := row_max hr
  have HT : Hid (∀ k (hk : k < l.length), totSub l[k] ≤ 1048576) := fun k hk => by have := fsum_at totSub hk; unfold totSubs at hT; omega
  obtain ⟨n, hn⟩ : ∃ n, l.length = n := ⟨_, rfl⟩
  rw [hn] at hr hr' hmx ⊢
  have HR1 : Hid (∀ W, Below w.heap.size w W → shSubs.Rd W B l [.slice a n cap]) := fun W hW => hr.below hB hW
  have HR2 : Hid (∀ W, Below w.heap.size w W → shSubs.Rd W B l [.slice a' n cap']) := fun W hW => hr'.below hB hW
  have HN : Hid (l.length = n) := hn
  clear hr hr' hT hn
  go_enter Tryz.func65, Tryz.ntmps65
  go_wp2_with fail
  go_loopw [5] (fun i wr => ∃ (k : Nat), k ≤ n ∧ i = .int .i64 k ∧ Below w.heap.size w wr) (fun i _ => n - (intOf i).toNat)
  case atStart => exact ⟨0, Nat.zero_le _, rfl, Below.refl _ _⟩
  case round =>
    obtain ⟨k, hk, rfl, hbl⟩ := hrel
    by_cases hlt : k < n
    · have hkl : k < l.length := by have := HN.out; omega
      have hki : (k : Int) < (n : Int) := by omega
      have hk0 : (0 : Int) ≤ (k : Int) := by omega
      obtain ⟨b0, off0, cs0, ha, hb0, hlen0, hrg0, r0⟩ := row_at (HR1.out wr hbl) k hkl
      subst ha
      replace hlen0 : cs0.length = 16 := hlen0
      replace hrg0 : wr.rangeAt b0 (off0 + k * 16) cs0 := hrg0
      have HI0 : (Tryz.prog.info? 93).map (·.size) = some cs0.length := by rw [hlen0]; exact (by kernel_rfl : (Tryz.prog.info? 93).map (·.size) = some 16)
      obtain ⟨b1, off1, cs1, ha, hb1, hlen1, hrg1, r1⟩ := row_at (HR2.out wr hbl) k hkl
      subst ha
      replace hlen1 : cs1.length = 16 := hlen1
      replace hrg1 : wr.rangeAt b1 (off1 + k * 16) cs1 := hrg1
      have HI1 : (Tryz.prog.info? 93).map (·.size) = some cs1.length := by rw [hlen1]; exact (by kernel_rfl : (Tryz.prog.info? 93).map (·.size) = some 16)
      have HC : Hid (∀ W, Below wr.heap.size wr W → Calls Tryz.prog 85 #[.agg cs0.toArray, .agg cs1.toArray] W fun e w' => e = .returned (.bool true) ∧ Below W.heap.size W w') := fun W hW => lEqSubA l[k] cs0.toArray cs1.toArray W B (r0.below (Nat.le_trans hB hbl.size) hW) (r1.below (Nat.le_trans hB hbl.size) hW) (Nat.le_trans hB (Nat.le_trans hbl.size hW.size)) (HT.out k hkl)
      have hz0 : b0 < wr.heap.size := by have := hbl.size; omega
      have hz1 : b1 < wr.heap.size := by have := hbl.size; omega
      have HBl : Hid _ := hbl
      have HG0 : Hid (∀ W, Below wr.heap.size wr W → W.rangeAt b0 (off0 + k * 16) cs0) := fun W hW => range_below hrg0 hW hz0
      have HG1 : Hid (∀ W, Below wr.heap.size wr W → W.rangeAt b1 (off1 + k * 16) cs1) := fun W hW => range_below hrg1 hW hz1
      clear r0 r1 hbl hrg0 hrg1
      go_upto_region 6 with fail
      refine wp_region_noPanic ?_
      refine Goes.start (S := fun w' => Below wr.heap.size wr w') (z := 100) (by kernel_rfl) ?_
      refine Goes.take (i := 0) (oi := ?oi1) (x := ?vx1) ?ho1 (by kernel_rfl) (by kernel_rfl) (by kernel_rfl) (by kernel_rfl) (fun _ _ _ h => h) (Or.inl ⟨?hw1, ?hy1⟩) (Below.drew (Below.refl _ _)) ?rest1
      case ho1 => (simp only [List.getElem?_toArray, List.getElem?_cons_zero]; rfl)
      case hw1 => rfl
      case hy1 => (intro w' hSw; go_simp; (try with_reducible rfl))
      case rest1 =>
      (try simp only [Act.put, List.setIfInBounds_toArray, List.set_cons_zero, List.set_cons_succ])
      refine Goes.take (i := 1) (oi := ?oi2) (x := ?vx2) ?ho2 (by kernel_rfl) (by kernel_rfl) (by kernel_rfl) (by kernel_rfl) (fun _ _ _ h => h) (Or.inl ⟨?hw2, ?hy2⟩) (Below.drew (Below.refl _ _)) ?rest2
      case ho2 => (simp only [List.getElem?_toArray, List.getElem?_cons_succ, List.getElem?_cons_zero]; rfl)
      case hw2 => rfl
      case hy2 => (intro w' hSw; go_simp; (try with_reducible rfl))
      case rest2 =>
      (try simp only [Act.put, List.setIfInBounds_toArray, List.set_cons_zero, List.set_cons_succ])
      refine Goes.take (i := 2) (oi := ?oi3) (x := ?vx3) ?ho3 (by kernel_rfl) (by kernel_rfl) (by kernel_rfl) (by kernel_rfl) (fun _ _ _ h => h) (Or.inl ⟨?hw3, ?hy3⟩) (Below.drew (Below.refl _ _)) ?rest3
      case ho3 => (simp only [List.getElem?_toArray, List.getElem?_cons_succ, List.getElem?_cons_zero]; rfl)
      case hw3 => rfl
      case hy3 => (intro w' hSw; go_simp; (try with_reducible rfl))
      case rest3 =>
      (try simp only [Act.put, List.setIfInBounds_toArray, List.set_cons_zero, List.set_cons_succ])
      refine Goes.take (i := 3) (oi := ?oi4) (x := .agg cs0.toArray) ?ho4 (by kernel_rfl) (by kernel_rfl) (by kernel_rfl) (by kernel_rfl) (fun _ _ _ h => h) ?hy4 (Below.drew (Below.refl _ _)) ?rest4
      case ho4 => (simp only [List.getElem?_toArray, List.getElem?_cons_succ, List.getElem?_cons_zero]; rfl)
      case hy4 => exact yieldsIf_load_mid (by rfl) 93 _ rfl b0 (off0 + k * 16) (by rfl) cs0 _ (fun w' hSw => HG0.out w' hSw) Tryz.underlying93 rfl HI0
      case rest4 =>
      (try simp only [Act.put, List.setIfInBounds_toArray, List.set_cons_zero, List.set_cons_succ])
      refine Goes.take (i := 4) (oi := ?oi5) (x := ?vx5) ?ho5 (by kernel_rfl) (by kernel_rfl) (by kernel_rfl) (by kernel_rfl) (fun _ _ _ h => h) (Or.inl ⟨?hw5, ?hy5⟩) (Below.drew (Below.refl _ _)) ?rest5
      case ho5 => (simp only [List.getElem?_toArray, List.getElem?_cons_succ, List.getElem?_cons_zero]; rfl)
      case hw5 => rfl
      case hy5 => (intro w' hSw; go_simp; (try with_reducible rfl))
      case rest5 =>
      (try simp only [Act.put, List.setIfInBounds_toArray, List.set_cons_zero, List.set_cons_succ])
      refine Goes.take (i := 5) (oi := ?oi6) (x := ?vx6) ?ho6 (by kernel_rfl) (by kernel_rfl) (by kernel_rfl) (by kernel_rfl) (fun _ _ _ h => h) (Or.inl ⟨?hw6, ?hy6⟩) (Below.drew (Below.refl _ _)) ?rest6
      case ho6 => (simp only [List.getElem?_toArray, List.getElem?_cons_succ, List.getElem?_cons_zero]; rfl)
      case hw6 => rfl
      case hy6 => (intro w' hSw; go_simp; (try with_reducible rfl))
      case rest6 =>
      (try simp only [Act.put, List.setIfInBounds_toArray, List.set_cons_zero, List.set_cons_succ])
      refine Goes.take (i := 6) (oi := ?oi7) (x := ?vx7) ?ho7 (by kernel_rfl) (by kernel_rfl) (by kernel_rfl) (by kernel_rfl) (fun _ _ _ h => h) (Or.inl ⟨?hw7, ?hy7⟩) (Below.drew (Below.refl _ _)) ?rest7
      case ho7 => (simp only [List.getElem?_toArray, List.getElem?_cons_succ, List.getElem?_cons_zero]; rfl)
      case hw7 => rfl
      case hy7 => (intro w' hSw; go_simp; (try with_reducible rfl))
      case rest7 =>
      (try simp only [Act.put, List.setIfInBounds_toArray, List.set_cons_zero, List.set_cons_succ])
      refine Goes.take (i := 7) (oi := ?oi8) (x := .agg cs1.toArray) ?ho8 (by kernel_rfl) (by kernel_rfl) (by kernel_rfl) (by kernel_rfl) (fun _ _ _ h => h) ?hy8 (Below.drew (Below.refl _ _)) ?rest8
      case ho8 => (simp only [List.getElem?_toArray, List.getElem?_cons_succ, List.getElem?_cons_zero]; rfl)
      case hy8 => exact yieldsIf_load_mid (by rfl) 93 _ rfl b1 (off1 + k * 16) (by rfl) cs1 _ (fun w' hSw => HG1.out w' hSw) Tryz.underlying93 rfl HI1
      case rest8 =>
      (try simp only [Act.put, List.setIfInBounds_toArray, List.set_cons_zero, List.set_cons_succ])
      refine Goes.all (rs := [8]) (by kernel_rfl) (by simp) ?_
      refine Ups.cons (i := 8) (o := ?oo50) ?ho50 (fun KK hKK => ?stp50) Ups.nil
      case ho50 => (simp only [List.getElem?_toArray, List.getElem?_cons_succ, List.getElem?_cons_zero]; rfl)
      case stp50 =>
      go_simp
      go_at_call 85
      refine (HC.out _ (Below.drew (Below.refl _ _))).mono ?_
      rintro e w1 ⟨rfl, hb1⟩
      replace hb1 := (Below.drew (Below.refl wr.heap.size wr)).trans hb1
      have HB1 : Hid (Below w.heap.size w w1) := HBl.out.trans (hb1.mono HBl.out.size)
      have HB2 : Hid (Below wr.heap.size wr w1) := hb1
      clear hb1
      dsimp only
      refine hKK.out _ _ (Or.inr HB2.out) ?_
      clear hKK KK
      (try simp only [Act.put, List.setIfInBounds_toArray, List.set_cons_zero, List.set_cons_succ])
      refine Goes.all (rs := [9]) (by kernel_rfl) (by simp) ?_
      refine Ups.cons (i := 9) (o := ?oo51) ?ho51 (fun KK hKK => ?stp51) Ups.nil
      case ho51 => (simp only [List.getElem?_toArray, List.getElem?_cons_succ, List.getElem?_cons_zero]; rfl)
      case stp51 =>
      go_simp
      refine hKK.out _ _ (Or.inr HB2.out) ?_
      clear hKK KK
      (try simp only [Act.put, List.setIfInBounds_toArray, List.set_cons_zero, List.set_cons_succ])
      refine Goes.done (by kernel_rfl) ?_ _
      refine NoPanic.normal ?_
      go_wp2_with fail
      go_roundw
      case rel => exact ⟨k + 1, by omega, by go_num, HB1.out⟩
      case measure => simp [intOf]; omega
    · obtain rfl : k = n := by omega
      go_wp2_with fail
      go_ret
      exact ⟨rfl, hbl⟩
end Go.Proofs.YtfpemobkkfobkaaGreatDoor
