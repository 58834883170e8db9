/- Structs of any number of cells as one value: what a load and a store of one whole makes of memory; no condition. -/
import Derived.Test.YtebgibjokljlbaaRows
import Derived.Deep.MidRow
import Derived.OrdersHeld
import Derived.Deep.RegionHeld3
import Derived.Test.YtebgibjokljlbaaK01
import Derived.Test.YtebgibjokljlbaaK02
import Derived.Test.YtebgibjokljlbaaK03
namespace Go.Proofs.Ytebgibjokljlbaa
open Go.RowKit
set_option linter.unusedVariables false

/-- Every cell of what reads is one cell. -/
theorem rd_one {w : World} {B : Nat} : ∀ (s : Sh) (d : s.El) (cs : List Value), s.Rd w B d cs → ∀ v ∈ cs, v.oneCell' = true
  | .int k, d, cs, h => by rw [h.1]; intro v hv; simp at hv; subst hv; rfl
  | .bool, d, cs, h => by have h' : cs = [.bool d] := h; rw [h']; intro v hv; simp at hv; subst hv; rfl
  | .row _ e, d, cs, ⟨a, cap, h1, _⟩ => by rw [h1]; intro v hv; simp at hv; subst hv; rfl
  | .rowO _ e, d, cs, ⟨a, cap, h1, _⟩ => by rw [h1]; intro v hv; simp at hv; subst hv; rfl
  | .nil, d, cs, h => by have h' : cs = [] := h; rw [h']; intro v hv; simp at hv
  | .cons f r, d, cs, ⟨c1, c2, h1, h2, h3⟩ => by
    subst h1
    intro v hv
    rcases List.mem_append.1 hv with hv | hv
    · exact rd_one f _ _ h2 v hv
    · exact rd_one r _ _ h3 v hv
theorem rd_all {w : World} {B : Nat} {s : Sh} {d : s.El} {A : Array Value} (h : s.Rd w B d A.toList) : A.all (·.oneCell') = true :=
  Array.all_eq_true_iff_forall_mem.2 (fun v hv => rd_one s d _ h v (by simpa using hv))
theorem rd_size {w : World} {B : Nat} {s : Sh} {d : s.El} {A : Array Value} (h : s.Rd w B d A.toList) : A.size = s.sz := by
  have := Sh.Rd.len s d _ h
  simpa using this

theorem bx_range {w : World} {b : Nat} {A : Array Value} (h : ∀ o, w.cell? ⟨b, o, none⟩ = A[o]?) : w.rangeAt b 0 A.toList := fun j v hv => by
  rw [Nat.zero_add, h j, ← Array.getElem?_toList]; exact hv
theorem bx_there {w : World} {b n : Nat} {A : Array Value} (h : ∀ o, w.cell? ⟨b, o, none⟩ = A[o]?) (hf : ∀ o, w.frozen? ⟨b, o, none⟩ = false) (hn : n = A.size) : w.there b 0 n := fun j hj => by
  refine ⟨?_, hf _⟩
  rw [Nat.zero_add, h j, Array.getElem?_eq_getElem (by omega)]; rfl
theorem setCells_block {b g : Nat} (hg : g ≠ b) : ∀ (vs : List Value) (w : World) (k : Nat), (w.setCells b k vs).heap[g]? = w.heap[g]?
  | [], _, _ => rfl
  | v :: vs, w, k => (setCells_block hg vs (w.setCell ⟨b, k, none⟩ v) (k + 1)).trans (Below.heap_setCell _ _ _ _ (by dsimp only; exact hg))
theorem setCells_size {b : Nat} : ∀ (vs : List Value) (w : World) (k : Nat), (w.setCells b k vs).heap.size = w.heap.size
  | [], _, _ => rfl
  | v :: vs, w, k => (setCells_size vs (w.setCell ⟨b, k, none⟩ v) (k + 1)).trans (by simp)
theorem setCells_below {b B : Nat} (hB : B ≤ b) : ∀ (vs : List Value) (w w0 : World) (k : Nat), Below B w0 w → Below B w0 (w.setCells b k vs)
  | [], _, _, _, h => h
  | v :: vs, w, w0, k, h => setCells_below hB vs _ w0 (k + 1) (h.setCell (p := ⟨b, k, none⟩) hB v)
/-- A box that is stored whole. -/
theorem bx_setCells {w : World} {b : Nat} {A A' : Array Value} (h : ∀ o, w.cell? ⟨b, o, none⟩ = A[o]?) (hs : A'.size = A.size) : ∀ o, (w.setCells b 0 A'.toList).cell? ⟨b, o, none⟩ = A'[o]? := fun o => by
  by_cases ho : o < A'.size
  · have := World.cell?_setCells_in b A'.toList 0 w (fun j hj => by
      rw [Nat.zero_add, h j, Array.getElem?_eq_getElem (by simp at hj; omega)]; rfl) o (by simpa using ho)
    rw [Nat.zero_add] at this
    rw [this, Array.getElem?_eq_getElem ho]
    simp
  · rw [World.cell?_setCells_out b A'.toList 0 w ⟨b, o, none⟩ (fun _ _ => Or.inr (by simp; omega)), h o, Array.getElem?_eq_none (by omega), Array.getElem?_eq_none (by omega)]
theorem bx_setOff {w : World} {b b' k : Nat} {vs : List Value} {A : Array Value} (h : ∀ o, w.cell? ⟨b, o, none⟩ = A[o]?) (hne : b ≠ b') : ∀ o, (w.setCells b' k vs).cell? ⟨b, o, none⟩ = A[o]? := fun o => by
  rw [World.cell?_setCells_out b' vs k w ⟨b, o, none⟩ (fun e _ => absurd e hne)]; exact h o
theorem fx_sets {w : World} {b b' k : Nat} {vs : List Value} (h : ∀ o, w.frozen? ⟨b, o, none⟩ = false) : ∀ o, (w.setCells b' k vs).frozen? ⟨b, o, none⟩ = false := fun o => by
  rw [World.frozen?_setCells]; exact h o
theorem bx_al (w : World) (A : Array Value) (t : TypeId) : ∀ o, (w.alloc (.cells A t)).cell? ⟨w.heap.size, o, none⟩ = A[o]? := fun o => by simp [go_sem]
theorem fx_al (w : World) (A : Array Value) (t : TypeId) : ∀ o, (w.alloc (.cells A t)).frozen? ⟨w.heap.size, o, none⟩ = false := fun o => by simp [go_sem]
/-- Element k of a row that reads: its cells lie there as one range. -/
theorem row_at {w : World} {B : Nat} {t : TypeId} {e : Sh} {l : List e.El} {a : Option Addr} {n cap : Nat} (h : (Sh.row t e).Rd w B l [.slice a n cap]) (k : Nat) (hk : k < l.length) :
    ∃ b off cs, a = some ⟨b, off, none⟩ ∧ b < B ∧ cs.length = e.sz ∧ w.rangeAt b (off + k * e.sz) cs ∧ e.Rd w B l[k] cs := by
  obtain ⟨a', cap', h1, h2, h3, b, off, h4, h5⟩ := h
  simp only [List.cons.injEq, Value.slice.injEq, and_true] at h1
  obtain ⟨rfl, rfl, rfl⟩ := h1
  obtain ⟨ea, hb⟩ := h4 (by intro e; subst e; simp at hk)
  obtain ⟨cs, g1, g2, g3⟩ := h5 k hk
  refine ⟨b, off, cs, ea, hb, g1, fun j v hv => ?_, g3⟩
  have hj : j < cs.length := (List.getElem?_eq_some_iff.1 hv).1
  rw [g2 j (by omega)]; exact hv
theorem range_below {w w' : World} {C b o : Nat} {cs : List Value} (h : w.rangeAt b o cs) (hb : Below C w w') (hlt : b < C) : w'.rangeAt b o cs := fun j v hv => by
  rw [hb.cell (p := ⟨b, o + j, none⟩) hlt]; exact h j v hv
/-- What is read of a box that holds the answer. -/
theorem results_box {P : Program} {fn : Func} {p : Tmp} {ty : TypeId} (h : fn.results = #[.cell p ty]) (tmps : Array Value) (w : World) (b : Nat) (A : Array Value) (d : TypeDesc)
    (hp : tmps.getD p undef = .pointer (some ⟨b, 0, none⟩)) (hj : ∀ o, w.cell? ⟨b, o, none⟩ = A[o]?) (hu : P.underlying ty = some d) (hd : d.isRow = true) (hi : (P.info? ty).map (·.size) = some A.size) :
    (results fn tmps).run P w = .ok (.agg A) w := by
  have hp' : tmps[p]?.getD undef = .pointer (some ⟨b, 0, none⟩) := by simpa using hp
  simp [results, h, hp', asAddr, run_loadVar_mid w b 0 ty A.toList d (bx_range hj) hu hd (by simpa using hi)]
theorem get_of {A : Array Value} {l : List Value} (h : A.toList = l) (j : Nat) : A[j]? = l[j]? := by rw [← h, Array.getElem?_toList]
theorem arr_of {A : Array Value} {l : List Value} (h : A.toList = l) : A = l.toArray := by rw [← h]
end Go.Proofs.Ytebgibjokljlbaa

/- A region that draws its order: what is read may be read first where nothing but the region's last operation (number z, which waits for it) writes it; no condition. -/
namespace Go.Proofs.Ytebgibjokljlbaa
open Go.RowKit
set_option linter.unusedVariables false

section
variable {P : Program} {ops : Array Oper} {Q : Exit → Act → World → Prop} {md : Region.Mode} {S : World → Prop} {z : Nat}

/-- Whatever comes up next; behind each operation but number z, S holds. -/
def Goes (P : Program) (md : Region.Mode) (ops : Array Oper) (Q : Exit → Act → World → Prop) (S : World → Prop) (z : Nat) : Nat → Array Bool → Act → World → Prop
  | 0, t, a, w => Region.ready md ops t = [] ∧ Q .normal a w
  | k + 1, t, a, w => (Region.ready md ops t = [] → Q .normal a w) ∧ ∀ i, i ∈ Region.ready md ops t → wpOp P ops Q i (fun b v => (i = z ∨ S v) ∧ Goes P md ops Q S z k (t.setIfInBounds i true) b v) a w

theorem Goes.any : ∀ (k : Nat) (t : Array Bool) (a : Act) (w : World), Goes P md ops Q S z k t a w → wpAny P md ops Q k t a w
  | 0, _, _, _, h => h
  | k + 1, _, _, _, h => ⟨h.1, fun i hi => wpOp_mono (fun b v hb => Goes.any k _ b v hb.2) (h.2 i hi)⟩

theorem Goes.first {i : Nat} {oi : Oper} {x : Value} (hi : ops[i]? = some oi) (hsel : ∀ (j : Nat) (o : Oper) cs b, ops[j]? = some o → o.op ≠ .select cs b)
    (hQ : ∀ c a w, Q (.panic c) (a.put oi.dst x) w → Q (.panic c) a w) (hz : ∀ o, ops[z]? = some o → ∃ e ∈ o.after, Region.binds md e = true ∧ e.on = i) :
    ∀ (k : Nat) (t : Array Bool) (a : Act) (w : World),
      (∀ j oj, ops[j]? = some oj → j ≠ i → t.getD j true = false → (∀ e ∈ oj.after, Region.binds md e = true → e.on ≠ i) → oi.apart ops oj = true) →
      i ∈ Region.ready md ops t → YieldsIf P ops S oi x a → S w →
      Goes P md ops Q S z k (t.setIfInBounds i true) (a.put oi.dst x) w → Goes P md ops Q S z (k + 1) t a w := by
  intro k
  induction k with
  | zero =>
    intro t a w _ hr hy hS H
    refine ⟨fun h => (by rw [h] at hr; cases hr), fun j hj => ?_⟩
    rcases Nat.decEq j i with hji | hji
    · have hrd := ready_mono hj hji
      rw [H.1] at hrd
      cases hrd
    · subst hji
      exact hy.wpOp hi hS ⟨Or.inr hS, H⟩
  | succ k ih =>
    intro t a w hfree hr hy hS H
    refine ⟨fun h => (by rw [h] at hr; cases hr), fun j hj => ?_⟩
    rcases Nat.decEq j i with hji | hji
    · have step := H.2 j (ready_mono hj hji)
      obtain ⟨hun, oj, hoj, hall⟩ := mem_ready.1 hj
      have hi0 := (mem_ready.1 hr).1
      have hnot : ∀ e ∈ oj.after, Region.binds md e = true → e.on ≠ i := fun e he hb heq => by
        have h1 := hall e he hb
        rw [heq] at h1
        rcases Nat.lt_or_ge i t.size with h' | h'
        · simp [h'] at hi0 h1; rw [hi0] at h1; cases h1
        · simp [Array.getElem?_eq_none h'] at h1
      have hjz : j ≠ z := fun e => by
        subst e
        obtain ⟨e, he, hb, hon⟩ := hz oj hoj
        exact hnot e he hb hon
      have two := wpOp_putIf hoj (hfree j oj hoj hji hun hnot) (fun cs b => hsel i oi cs b hi) (fun cs b => hsel j oj cs b hoj) hQ hy step
      refine wpOp_mono (fun b v h3 => ?_) two
      have hSv : S v := by
        rcases h3.2.1 with e | e
        · exact absurd e hjz
        · exact e
      refine ⟨Or.inr hSv, ih (t.setIfInBounds j true) b v (fun q oq hq hqi hqu hqn => hfree q oq hq hqi ?_ hqn) (ready_mono hr (Ne.symm hji)) h3.1 hSv ?_⟩
      · by_cases hjq : j = q
        · subst hjq; exact hun
        · rw [getD_set_ne true hjq] at hqu; exact hqu
      · rw [Array.setIfInBounds_comm _ _ hji]
        exact h3.2.2
    · subst hji
      exact hy.wpOp hi hS ⟨Or.inr hS, H⟩

/-- Number z waits for number i. -/
def waitsFor (md : Region.Mode) (ops : Array Oper) (z i : Nat) : Bool := ((ops[z]?).map fun o => o.after.any fun e => Region.binds md e && e.on == i).getD true
theorem waits_spec {i : Nat} (h : waitsFor md ops z i = true) : ∀ o, ops[z]? = some o → ∃ e ∈ o.after, Region.binds md e = true ∧ e.on = i := fun o ho => by
  unfold waitsFor at h
  rw [ho] at h
  simp only [Option.map_some, Option.getD_some] at h
  obtain ⟨e, he, hb⟩ := Array.any_eq_true'.1 h
  simp only [Bool.and_eq_true, beq_iff_eq] at hb
  exact ⟨e, he, hb.1, hb.2⟩
/-- Number i is taken first. -/
theorem Goes.take {i : Nat} {oi : Oper} {x : Value} {k : Nat} {t : Array Bool} {a : Act} {w : World} (hi : ops[i]? = some oi)
    (hs : Region.noSelect ops = true) (hf : Region.free md ops t i = true) (hr : (Region.ready md ops t).contains i = true) (hz : waitsFor md ops z i = true)
    (hQ : ∀ c a w, Q (.panic c) (a.put oi.dst x) w → Q (.panic c) a w) (hy : YieldsIf P ops S oi x a) (hS : S w)
    (h : Goes P md ops Q S z k (t.setIfInBounds i true) (a.put oi.dst x) w) : Goes P md ops Q S z (k + 1) t a w :=
  Goes.first hi (Region.noSelect_spec hs) hQ (waits_spec hz) k t a w (Region.free_spec hi hf) (by simpa using hr) hy hS h
theorem Goes.done {t : Array Bool} {a : Act} {w : World} (hr : Region.ready md ops t = []) (h : Q .normal a w) : ∀ k, Goes P md ops Q S z k t a w
  | 0 => ⟨hr, h⟩
  | _ + 1 => ⟨fun _ => h, fun i hi => by rw [hr] at hi; cases hi⟩
/-- Those that may come up, one by one. -/
def Ups (P : Program) (md : Region.Mode) (ops : Array Oper) (Q : Exit → Act → World → Prop) (S : World → Prop) (z k : Nat) (t : Array Bool) (a : Act) (w : World) (rs : List Nat) : Prop :=
  ∀ i ∈ rs, wpOp P ops Q i (fun b v => (i = z ∨ S v) ∧ Goes P md ops Q S z k (t.setIfInBounds i true) b v) a w
theorem Goes.all {rs : List Nat} {k : Nat} {t : Array Bool} {a : Act} {w : World} (hr : Region.ready md ops t = rs) (hne : rs ≠ []) (h : Ups P md ops Q S z k t a w rs) : Goes P md ops Q S z (k + 1) t a w :=
  ⟨fun h0 => absurd (hr ▸ h0) hne, fun i hi => h i (hr ▸ hi)⟩
theorem Ups.nil {k : Nat} {t : Array Bool} {a : Act} {w : World} : Ups P md ops Q S z k t a w [] := fun _ h => by cases h
theorem Ups.cons {k : Nat} {t : Array Bool} {a : Act} {w : World} {i : Nat} {o : Oper} {rs : List Nat} (ho : ops[i]? = some o)
    (h : ∀ K : Act → World → Prop, Hid (∀ b v, (i = z ∨ S v) → Goes P md ops Q S z k (t.setIfInBounds i true) b v → K b v) → if Region.wanted o (yielded ops a.tmps) = true then Oper.wp P o a w K Q else K (a.put o.dst undef) w)
    (hs : Ups P md ops Q S z k t a w rs) : Ups P md ops Q S z k t a w (i :: rs) := fun j hj => by
  rcases List.mem_cons.1 hj with rfl | hj
  · have h1 := h (fun b v => (j = z ∨ S v) ∧ Goes P md ops Q S z k (t.setIfInBounds j true) b v) (fun b v h1 h2 => ⟨h1, h2⟩)
    unfold wpOp
    simp only [ho]
    split at h1
    · rename_i hw
      rw [if_pos hw]
      exact Or.inl h1
    · rename_i hw
      rw [if_neg hw]
      exact h1
  · exact hs j hj
/-- The beginning. -/
theorem Goes.start {id : Nat} {a : Act} {w : World} (hm : P.follows .mixedOrders = true) (h : Goes P .any ops Q S z ops.size (Array.replicate ops.size false) a w.drew) : (Code.region id ops true).wp P Q a w :=
  wp_region_any hm (Goes.any _ _ _ _ h)
end
end Go.Proofs.Ytebgibjokljlbaa

/- A region that draws its order: a call that leaves the world as it was may be made first; no condition. -/
namespace Go.Proofs.Ytebgibjokljlbaa
open Go.RowKit
set_option linter.unusedVariables false

section
variable {P : Program} {ops : Array Oper} {Q : Exit → Act → World → Prop} {md : Region.Mode} {S : World → Prop} {z : Nat}

/-- What holds of a state whatever an operation leaves in its slot holds behind it. -/
theorem wpOp_also {j : Nat} {oj : Oper} (hj : ops[j]? = some oj) {K : Act → World → Prop} {a : Act} {w : World} {Y : Act → Prop} (hY : ∀ u, Y (a.put oj.dst u)) (hYd : ∀ d u, Y (({ a with defers := d :: a.defers } : Act).put oj.dst u))
    (h : wpOp P ops Q j K a w) : wpOp P ops Q j (fun b v => Y b ∧ K b v) a w := by
  unfold wpOp at *
  simp only [hj] at *
  by_cases hw : Region.wanted oj (yielded ops a.tmps) = true
  · rw [if_pos hw] at h ⊢
    rcases h with h | h
    · refine Or.inl ?_
      unfold Oper.wp at *
      generalize (execOp a.eval oj).run P w = r at *
      cases r with
      | ok n w' =>
        cases n <;> simp only [Oper.upon] at h ⊢
        case value u => exact ⟨hY u, h⟩
        case skip => exact ⟨hY _, h⟩
        case defer d => exact ⟨hYd d _, h⟩
        case enter f args =>
          refine Calls.mono h fun e w'' he => ?_
          cases e with
          | returned u => exact ⟨hY u, he⟩
          | panicked c => exact he
          | outgrown => exact he
        case row row args => exact Rows.mono h fun u w'' he => ⟨hY u, he⟩
      | halt x w' =>
        cases x <;> simp only [Oper.upon] at h ⊢
        all_goals exact h
    · exact Or.inr h
  · rw [if_neg hw] at h ⊢
    exact ⟨hY _, h⟩

/-- In every world that meets S the operation is a call that answers x and leaves the world as it was. -/
def QuietIf (P : Program) (ops : Array Oper) (S : World → Prop) (o : Oper) (x : Value) (a : Act) : Prop :=
  Region.wanted o (yielded ops a.tmps) = true ∧ ∀ w, S w → ∃ f args, (execOp a.eval o).run P w = .ok (.enter f args) w ∧ Calls P f args w (fun e w' => e = .returned x ∧ w' = w)
theorem QuietIf.here {i : Nat} {o : Oper} {x : Value} {a : Act} (hi : ops[i]? = some o) (hy : QuietIf P ops S o x a) {K : Act → World → Prop} {w : World} (hS : S w) (h : K (a.put o.dst x) w) : wpOp P ops Q i K a w := by
  unfold wpOp
  simp only [hi]
  rw [if_pos hy.1]
  refine Or.inl ?_
  obtain ⟨f, args, hrun, hc⟩ := hy.2 w hS
  unfold Oper.wp
  rw [hrun]
  simp only [Oper.upon]
  exact hc.mono (by rintro e w' ⟨rfl, rfl⟩; exact h)
theorem QuietIf.same {o : Oper} {x : Value} {a a' : Act} (hy : QuietIf P ops S o x a) (he : execOp a'.eval o = execOp a.eval o) (hw : Region.wanted o (yielded ops a'.tmps) = Region.wanted o (yielded ops a.tmps)) : QuietIf P ops S o x a' := by
  unfold QuietIf at *
  rw [he, hw]
  exact hy

theorem Goes.quiet {i : Nat} {oi : Oper} {x : Value} (hi : ops[i]? = some oi) (hsel : ∀ (j : Nat) (o : Oper) cs b, ops[j]? = some o → o.op ≠ .select cs b)
    (hQ : ∀ c a w, Q (.panic c) (a.put oi.dst x) w → Q (.panic c) a w) (hz : ∀ o, ops[z]? = some o → ∃ e ∈ o.after, Region.binds md e = true ∧ e.on = i) :
    ∀ (k : Nat) (t : Array Bool) (a : Act) (w : World),
      (∀ j oj, ops[j]? = some oj → j ≠ i → t.getD j true = false → (∀ e ∈ oj.after, Region.binds md e = true → e.on ≠ i) → oi.apart ops oj = true) →
      i ∈ Region.ready md ops t → QuietIf P ops S oi x a → S w →
      Goes P md ops Q S z k (t.setIfInBounds i true) (a.put oi.dst x) w → Goes P md ops Q S z (k + 1) t a w := by
  intro k
  induction k with
  | zero =>
    intro t a w _ hr hy hS H
    refine ⟨fun h => (by rw [h] at hr; cases hr), fun j hj => ?_⟩
    rcases Nat.decEq j i with hji | hji
    · have hrd := ready_mono hj hji
      rw [H.1] at hrd
      cases hrd
    · subst hji
      exact hy.here hi hS ⟨Or.inr hS, H⟩
  | succ k ih =>
    intro t a w hfree hr hy hS H
    refine ⟨fun h => (by rw [h] at hr; cases hr), fun j hj => ?_⟩
    rcases Nat.decEq j i with hji | hji
    · have step := H.2 j (ready_mono hj hji)
      obtain ⟨hun, oj, hoj, hall⟩ := mem_ready.1 hj
      have hi0 := (mem_ready.1 hr).1
      have hnot : ∀ e ∈ oj.after, Region.binds md e = true → e.on ≠ i := fun e he hb heq => by
        have h1 := hall e he hb
        rw [heq] at h1
        rcases Nat.lt_or_ge i t.size with h' | h'
        · simp [h'] at hi0 h1; rw [hi0] at h1; cases h1
        · simp [Array.getElem?_eq_none h'] at h1
      have hjz : j ≠ z := fun e => by
        subst e
        obtain ⟨e, he, hb, hon⟩ := hz oj hoj
        exact hnot e he hb hon
      have hap := hfree j oj hoj hji hun hnot
      have hsi : ∀ cs b, oi.op ≠ .select cs b := fun cs b => hsel i oi cs b hi
      obtain ⟨-, -, h3⟩ := Oper.apart_spec hap
      have two := wpOp_also (Y := fun b => QuietIf P ops S oi x b) hoj (fun u => hy.same (execOp_put oi hsi a oj.dst u h3) (wanted_put oi a oj.dst u h3))
        (fun d u => (hy.same (a' := { a with defers := d :: a.defers }) rfl rfl).same (execOp_put oi hsi _ oj.dst u h3) (wanted_put oi _ oj.dst u h3))
        (wpOp_putIf (S := fun _ => False) hoj hap hsi (fun cs b => hsel j oj cs b hoj) hQ (Or.inl ⟨hy.1, fun _ h => h.elim⟩) step)
      refine wpOp_mono (fun b v h4 => ?_) two
      have hSv : S v := by
        rcases h4.2.2.1 with e | e
        · exact absurd e hjz
        · exact e
      refine ⟨Or.inr hSv, ih (t.setIfInBounds j true) b v (fun q oq hq hqi hqu hqn => hfree q oq hq hqi ?_ hqn) (ready_mono hr (Ne.symm hji)) h4.1 hSv ?_⟩
      · by_cases hjq : j = q
        · subst hjq; exact hun
        · rw [getD_set_ne true hjq] at hqu; exact hqu
      · rw [Array.setIfInBounds_comm _ _ hji]
        exact h4.2.2.2
    · subst hji
      exact hy.here hi hS ⟨Or.inr hS, H⟩
/-- The call number i is made first. -/
theorem Goes.call {i : Nat} {oi : Oper} {x : Value} {k : Nat} {t : Array Bool} {a : Act} {w : World} (hi : ops[i]? = some oi)
    (hs : Region.noSelect ops = true) (hf : Region.free md ops t i = true) (hr : (Region.ready md ops t).contains i = true) (hz : waitsFor md ops z i = true)
    (hQ : ∀ c a w, Q (.panic c) (a.put oi.dst x) w → Q (.panic c) a w) (hy : QuietIf P ops S oi x a) (hS : S w)
    (h : Goes P md ops Q S z k (t.setIfInBounds i true) (a.put oi.dst x) w) : Goes P md ops Q S z (k + 1) t a w :=
  Goes.quiet hi (Region.noSelect_spec hs) hQ (waits_spec hz) k t a w (Region.free_spec hi hf) (by simpa using hr) hy hS h
end
end Go.Proofs.Ytebgibjokljlbaa
