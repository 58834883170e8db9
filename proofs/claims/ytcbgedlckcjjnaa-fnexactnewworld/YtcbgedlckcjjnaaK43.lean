/- Segments: what a segment that came in holds, and what the law's own helpers (copy, compare, mark, measure) make of one; no condition but that its load has at most a million bytes. -/
import Derived.Test.YtcbgedlckcjjnaaRows
import Derived.Lib.SmallJoins
import Derived.ChangeArms
import Derived.Test.YtcbgedlckcjjnaaK01
namespace Go.Proofs.Ytcbgedlckcjjnaa
open Go.RowKit Go.ChangeShapes Go.WideShapes Go.ChangeAt
set_option linter.unusedVariables false

/-- A segment as data. -/
structure Seg where
  path : Int
  frm : Int
  syn : Bool
  ackd : Bool
  rst : Bool
  seq : Int
  ack : Int
  fin : Int
  opt : Int
  a : Int
  b : Int
  load : List Int

/-- Every number of the segment is one of 64 bits. -/
structure Seg.Wf (s : Seg) : Prop where
  path : (Lit.int .i64 s.path).wf = true
  frm : (Lit.int .i64 s.frm).wf = true
  seq : (Lit.int .i64 s.seq).wf = true
  ack : (Lit.int .i64 s.ack).wf = true
  fin : (Lit.int .i64 s.fin).wf = true
  opt : (Lit.int .i64 s.opt).wf = true
  a : (Lit.int .i64 s.a).wf = true
  b : (Lit.int .i64 s.b).wf = true

section
variable {H : Type} {enc : TypeId × Value → H} {w : World} {P : Program}

/-- A field of a struct that reads, reads. -/
theorem trod_fieldAt {fuel : Nat} {t : TypeId} {cs : List Value} {x : DataW H × List MemPlace} {fs : Array Field} (ht : P.underlying t = some (.struct fs))
    (h : DataW.trod enc P w 0 (fun _ => true) true fuel t cs = some x) (i : Nat) (f : Field) (hf : fs[i]? = some f) :
    ∃ n y, DataW.trod enc P w 0 (fun _ => true) true n f.type ((cs.drop f.offset).take (P.cellsOf f.type)) = some y := by
  obtain ⟨xs, n, _, _, _, hlen, hx⟩ := DataW.trod_struct ht h
  have := hx i f hf
  have hi : i < fs.size := by
    apply Classical.byContradiction; intro hn
    rw [Array.getElem?_eq_none (by omega)] at hf; cases hf
  rw [List.getElem?_eq_getElem (by omega)] at this
  exact ⟨n, _, this⟩

theorem rd_int {fuel : Nat} {t : TypeId} {cs : List Value} {k : IntKind} (ht : P.underlying t = some (.int k)) (h : ∃ n y, DataW.trod enc P w 0 (fun _ => true) true n t cs = some y) : ∃ n, cs = [.int k n] ∧ (Lit.int k n).wf = true := by
  obtain ⟨_, _, h⟩ := h
  obtain ⟨n, h1, _, h2⟩ := DataW.trod_int ht h
  exact ⟨n, h1, h2⟩
theorem rd_bool {fuel : Nat} {t : TypeId} {cs : List Value} (ht : P.underlying t = some .bool) (h : ∃ n y, DataW.trod enc P w 0 (fun _ => true) true n t cs = some y) : ∃ b, cs = [.bool b] := by
  obtain ⟨_, _, h⟩ := h
  obtain ⟨b, h1, _⟩ := DataW.trod_bool ht h
  exact ⟨b, h1⟩
theorem rd_ints {t e : TypeId} {cs : List Value} {k : IntKind} (ht : P.underlying t = some (.slice e)) (he : P.underlying e = some (.int k)) (hc : P.cellsOf e = 1) (h : ∃ n y, DataW.trod enc P w 0 (fun _ => true) true n t cs = some y) :
    ∃ a len cap zs, cs = [.slice a len cap] ∧ BRow k w a len cap zs := by
  obtain ⟨_, _, hf⟩ := h
  rcases open_ints ht he hc hf with ⟨hcs, _⟩ | ⟨x, l, c, zs, hcs, _, hl, hm, hz, _, hcell, hwz⟩
  · exact ⟨none, 0, 0, [], hcs, .inl ⟨rfl, rfl, rfl, rfl⟩⟩
  · exact ⟨some x, l, c, zs, hcs, .inr ⟨_, rfl, hl, hm, by simpa using hz, hcell, hwz⟩⟩
end

theorem list12 {α : Type} {l : List α} (h : l.length = 12) : ∃ c0 c1 c2 c3 c4 c5 c6 c7 c8 c9 c10 c11, l = [c0, c1, c2, c3, c4, c5, c6, c7, c8, c9, c10, c11] := by
  match l, h with
  | [c0, c1, c2, c3, c4, c5, c6, c7, c8, c9, c10, c11], _ => exact ⟨c0, c1, c2, c3, c4, c5, c6, c7, c8, c9, c10, c11, rfl⟩

theorem cellsI64 : Try.prog.cellsOf 2 = 1 := by kernel_rfl
theorem cellsBool : Try.prog.cellsOf 4 = 1 := by kernel_rfl
theorem cellsU8 : Try.prog.cellsOf 5 = 1 := by kernel_rfl
theorem cellsBytes : Try.prog.cellsOf 22 = 1 := by kernel_rfl




set_option maxHeartbeats 1000000 in
theorem lEqSegment (s : Seg) (a b : Option Addr) (n cap cap' : Nat) (w : World) (hl : s.load.length = n) (ha : RB w a s.load) (hb : RB w b s.load) (hn : n ≤ 281474976710656) :
    Calls Try.prog 49 #[.agg #[.int .i64 s.path, .int .i64 s.frm, .bool s.syn, .bool s.ackd, .bool s.rst, .int .i64 s.seq, .int .i64 s.ack, .int .i64 s.fin, .int .i64 s.opt, .int .i64 s.a, .int .i64 s.b, .slice a n cap], .agg #[.int .i64 s.path, .int .i64 s.frm, .bool s.syn, .bool s.ackd, .bool s.rst, .int .i64 s.seq, .int .i64 s.ack, .int .i64 s.fin, .int .i64 s.opt, .int .i64 s.a, .int .i64 s.b, .slice b n cap']] w fun e w' => e = .returned (.bool true) ∧ Below w.heap.size w w' := by
  have c : ∀ W, Below w.heap.size w W → Calls Try.prog 13 #[.slice a n cap, .slice b n cap'] W fun e w' => e = .returned (.bool true) ∧ Below W.heap.size W w' := by
    intro W hW
    refine (lEqByteS a b n cap cap' s.load W hl (ha.below (Nat.le_refl _) hW) (hb.below (Nat.le_refl _) hW) hn).mono ?_
    rintro e w' ⟨m, rfl, rfl⟩
    exact ⟨rfl, below_drewN (Below.refl _ _) m⟩
  have HC : Hid _ := c
  clear c ha hb
  go_enter Try.func49, Try.ntmps49
  go_wp2_with fail
  refine (HC.out _ (by go_grown)).mono ?_
  rintro e w1 ⟨rfl, hb1⟩
  go_wp2_with fail
  go_ret
  exact ⟨rfl, Below.trans (by go_grown) (hb1.mono (by simp; omega))⟩
end Go.Proofs.Ytcbgedlckcjjnaa

/- What the model of chapter 2 answers: the fault of a segment; nothing that was in memory turns; no condition. -/
namespace Go.Proofs.Ytcbgedlckcjjnaa
open Go.RowKit
set_option linter.unusedVariables false

/-- v is lo to hi. -/
def inB9 (v lo hi : Int) : Bool := decide (lo ≤ v) && decide (v ≤ hi)
theorem inB_iff9 (v lo hi : Int) : inB9 v lo hi = true ↔ lo ≤ v ∧ v ≤ hi := by simp [inB9]
def rangeOk9 (s : Seg) : Bool := inB9 s.path 0 2 && inB9 s.frm 0 1 && inB9 s.seq 0 65535 && inB9 s.ack 0 65535 && inB9 s.fin 0 1000 && inB9 s.a 0 1000000 && inB9 s.b 0 1000000
def formOk9 (s : Seg) (n : Nat) : Bool := inB9 s.opt 0 4 && !(s.opt == 0 && (s.a != 0 || s.b != 0)) && !(decide (0 < n) && (s.syn || s.rst))
/-- The fault of a segment with n bytes of load. -/
def segFault (s : Seg) (n : Nat) : Int := if rangeOk9 s = false then 3 else if formOk9 s n = false then 1 else if 8 < n then 2 else 0

theorem sInB9 (v low high : Int) (w : World) :
    Calls Try.prog 19 #[.int .i64 v, .int .i64 low, .int .i64 high] w fun e w' => e = .returned (.bool (inB9 v low high)) ∧ w' = w := by
  by_cases h : low ≤ v
  · go_enter Try.func19, Try.ntmps19
    go_wp2
    go_ret
    exact ⟨ret_bool (by simp [inB9, h]), rfl⟩
  · have h' : decide (low ≤ v) = false := by simp; omega
    go_enter Try.func19, Try.ntmps19
    go_wp2
    go_ret
    exact ⟨ret_bool (by simp [inB9, h']), rfl⟩

end Go.Proofs.Ytcbgedlckcjjnaa

/- What the program's own functions of chapter 2 answer: the fault of a segment, the sum of bytes; nothing that was in memory turns; no condition but on lengths. -/
namespace Go.Proofs.Ytcbgedlckcjjnaa
open Go.RowKit
set_option linter.unusedVariables false

theorem iInB9 (v low high : Int) (w : World) :
    Calls Try.prog 22 #[.int .i64 v, .int .i64 low, .int .i64 high] w fun e w' => e = .returned (.bool (inB9 v low high)) ∧ w' = w := by
  by_cases h : low ≤ v
  · go_enter Try.func22, Try.ntmps22
    go_wp2
    go_ret
    exact ⟨ret_bool (by simp [inB9, h]), rfl⟩
  · have h' : decide (low ≤ v) = false := by simp; omega
    go_enter Try.func22, Try.ntmps22
    go_wp2
    go_ret
    exact ⟨ret_bool (by simp [inB9, h']), rfl⟩
def optOk9 (s : Seg) : Bool := if s.opt = 0 then (s.a == 0 && s.b == 0) else inB9 s.opt 0 4
theorem optOk_form9 (s : Seg) (n : Nat) : formOk9 s n = (optOk9 s && !((s.syn || s.rst) && decide (0 < n))) := by
  unfold formOk9 optOk9
  by_cases h : s.opt = 0
  · rw [if_pos h, h]
    simp only [inB9, bne]
    cases (s.a == 0) <;> cases (s.b == 0) <;> cases s.syn <;> cases s.rst <;> cases decide (0 < n) <;> rfl
  · rw [if_neg h]
    have : (s.opt == 0) = false := by simp [h]
    rw [this]; simp [Bool.and_comm]
theorem fault_of9 (s : Seg) (n : Nat) : segFault s n = if rangeOk9 s = false then 3 else if optOk9 s = false then 1 else if ((s.syn || s.rst) && decide (0 < n)) = true then 1 else if 8 < n then 2 else 0 := by
  unfold segFault
  rw [optOk_form9]
  cases rangeOk9 s <;> cases optOk9 s <;> cases ((s.syn || s.rst) && decide (0 < n)) <;> rfl
end Go.Proofs.Ytcbgedlckcjjnaa
