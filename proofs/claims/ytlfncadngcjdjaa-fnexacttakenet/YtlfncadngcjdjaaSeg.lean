/- Segments: what a segment that came in holds, and what the law's own helpers (copy, compare, mark, measure) make of one; no condition but that its load has at most a million bytes. -/
import Derived.Test.YtlfncadngcjdjaaRows
import Derived.Test.YtlfncadngcjdjaaBase
import Derived.Test.YtlfncadngcjdjaaBytes
import Derived.Lib.SmallJoins
import Derived.ChangeArms
namespace Go.Proofs.Ytlfncadngcjdjaa
open Go.RowKit Go.ChangeShapes Go.WideShapes Go.ChangeAt
set_option linter.unusedVariables false

/-- A segment as data. -/
structure Seg where
  path : Int
  frm : Int
  syn : Bool
  ackd : Bool
  rst : Bool
  seq : Int
  ack : Int
  fin : Int
  opt : Int
  a : Int
  b : Int
  load : List Int

/-- Every number of the segment is one of 64 bits. -/
structure Seg.Wf (s : Seg) : Prop where
  path : (Lit.int .i64 s.path).wf = true
  frm : (Lit.int .i64 s.frm).wf = true
  seq : (Lit.int .i64 s.seq).wf = true
  ack : (Lit.int .i64 s.ack).wf = true
  fin : (Lit.int .i64 s.fin).wf = true
  opt : (Lit.int .i64 s.opt).wf = true
  a : (Lit.int .i64 s.a).wf = true
  b : (Lit.int .i64 s.b).wf = true

section
variable {H : Type} {enc : TypeId × Value → H} {w : World} {P : Program}

/-- A field of a struct that reads, reads. -/
theorem trod_fieldAt {fuel : Nat} {t : TypeId} {cs : List Value} {x : DataW H × List MemPlace} {fs : Array Field} (ht : P.underlying t = some (.struct fs))
    (h : DataW.trod enc P w 0 (fun _ => true) true fuel t cs = some x) (i : Nat) (f : Field) (hf : fs[i]? = some f) :
    ∃ n y, DataW.trod enc P w 0 (fun _ => true) true n f.type ((cs.drop f.offset).take (P.cellsOf f.type)) = some y := by
  obtain ⟨xs, n, _, _, _, hlen, hx⟩ := DataW.trod_struct ht h
  have := hx i f hf
  have hi : i < fs.size := by
    apply Classical.byContradiction; intro hn
    rw [Array.getElem?_eq_none (by omega)] at hf; cases hf
  rw [List.getElem?_eq_getElem (by omega)] at this
  exact ⟨n, _, this⟩

theorem rd_int {fuel : Nat} {t : TypeId} {cs : List Value} {k : IntKind} (ht : P.underlying t = some (.int k)) (h : ∃ n y, DataW.trod enc P w 0 (fun _ => true) true n t cs = some y) : ∃ n, cs = [.int k n] ∧ (Lit.int k n).wf = true := by
  obtain ⟨_, _, h⟩ := h
  obtain ⟨n, h1, _, h2⟩ := DataW.trod_int ht h
  exact ⟨n, h1, h2⟩
theorem rd_bool {fuel : Nat} {t : TypeId} {cs : List Value} (ht : P.underlying t = some .bool) (h : ∃ n y, DataW.trod enc P w 0 (fun _ => true) true n t cs = some y) : ∃ b, cs = [.bool b] := by
  obtain ⟨_, _, h⟩ := h
  obtain ⟨b, h1, _⟩ := DataW.trod_bool ht h
  exact ⟨b, h1⟩
theorem rd_ints {t e : TypeId} {cs : List Value} {k : IntKind} (ht : P.underlying t = some (.slice e)) (he : P.underlying e = some (.int k)) (hc : P.cellsOf e = 1) (h : ∃ n y, DataW.trod enc P w 0 (fun _ => true) true n t cs = some y) :
    ∃ a len cap zs, cs = [.slice a len cap] ∧ BRow k w a len cap zs := by
  obtain ⟨_, _, hf⟩ := h
  rcases open_ints ht he hc hf with ⟨hcs, _⟩ | ⟨x, l, c, zs, hcs, _, hl, hm, hz, _, hcell, hwz⟩
  · exact ⟨none, 0, 0, [], hcs, .inl ⟨rfl, rfl, rfl, rfl⟩⟩
  · exact ⟨some x, l, c, zs, hcs, .inr ⟨_, rfl, hl, hm, by simpa using hz, hcell, hwz⟩⟩
end

theorem list12 {α : Type} {l : List α} (h : l.length = 12) : ∃ c0 c1 c2 c3 c4 c5 c6 c7 c8 c9 c10 c11, l = [c0, c1, c2, c3, c4, c5, c6, c7, c8, c9, c10, c11] := by
  match l, h with
  | [c0, c1, c2, c3, c4, c5, c6, c7, c8, c9, c10, c11], _ => exact ⟨c0, c1, c2, c3, c4, c5, c6, c7, c8, c9, c10, c11, rfl⟩

theorem cellsLSeg : Try.prog.cellsOf 84 = 12 := by kernel_rfl
theorem cellsI64 : Try.prog.cellsOf 2 = 1 := by kernel_rfl
theorem cellsBool : Try.prog.cellsOf 4 = 1 := by kernel_rfl
theorem cellsU8 : Try.prog.cellsOf 5 = 1 := by kernel_rfl
theorem cellsBytes : Try.prog.cellsOf 22 = 1 := by kernel_rfl

/-- A segment that reads, opened: its fields, and its load as a row of bytes. -/
theorem open_lseg {H : Type} {enc : TypeId × Value → H} {w : World} {cs : List Value} (hx : ∃ n y, DataW.trod enc Try.prog w 0 (fun _ => true) true n 84 cs = some y) :
    ∃ (s : Seg) (a : Option Addr) (cap : Nat) (zs : List Int), cs = [.int .i64 s.path, .int .i64 s.frm, .bool s.syn, .bool s.ackd, .bool s.rst, .int .i64 s.seq, .int .i64 s.ack, .int .i64 s.fin, .int .i64 s.opt, .int .i64 s.a, .int .i64 s.b, .slice a s.load.length cap] ∧ s.Wf ∧ BRow .u8 w a s.load.length cap zs ∧ s.load = zs.take s.load.length := by
  obtain ⟨n, y, h⟩ := hx
  obtain ⟨_, _, _, _, hlen, _, _⟩ := DataW.trod_struct Try.underlying84 h
  rw [cellsLSeg] at hlen
  obtain ⟨c0, c1, c2, c3, c4, c5, c6, c7, c8, c9, c10, c11, rfl⟩ := list12 hlen
  obtain ⟨x0, e0, f0⟩ := rd_int (fuel := 0) Try.underlying2 (trod_fieldAt Try.underlying84 h 0 _ rfl)
  obtain ⟨x1, e1, f1⟩ := rd_int (fuel := 0) Try.underlying2 (trod_fieldAt Try.underlying84 h 1 _ rfl)
  obtain ⟨x2, e2⟩ := rd_bool (fuel := 0) Try.underlying4 (trod_fieldAt Try.underlying84 h 2 _ rfl)
  obtain ⟨x3, e3⟩ := rd_bool (fuel := 0) Try.underlying4 (trod_fieldAt Try.underlying84 h 3 _ rfl)
  obtain ⟨x4, e4⟩ := rd_bool (fuel := 0) Try.underlying4 (trod_fieldAt Try.underlying84 h 4 _ rfl)
  obtain ⟨x5, e5, f5⟩ := rd_int (fuel := 0) Try.underlying2 (trod_fieldAt Try.underlying84 h 5 _ rfl)
  obtain ⟨x6, e6, f6⟩ := rd_int (fuel := 0) Try.underlying2 (trod_fieldAt Try.underlying84 h 6 _ rfl)
  obtain ⟨x7, e7, f7⟩ := rd_int (fuel := 0) Try.underlying2 (trod_fieldAt Try.underlying84 h 7 _ rfl)
  obtain ⟨x8, e8, f8⟩ := rd_int (fuel := 0) Try.underlying2 (trod_fieldAt Try.underlying84 h 8 _ rfl)
  obtain ⟨x9, e9, f9⟩ := rd_int (fuel := 0) Try.underlying2 (trod_fieldAt Try.underlying84 h 9 _ rfl)
  obtain ⟨x10, e10, f10⟩ := rd_int (fuel := 0) Try.underlying2 (trod_fieldAt Try.underlying84 h 10 _ rfl)
  obtain ⟨a, len, cap, zs, e11, hr⟩ := rd_ints Try.underlying22 Try.underlying5 cellsU8 (trod_fieldAt Try.underlying84 h 11 _ rfl)
  have g0 : c0 = .int .i64 x0 := by simpa [cellsI64] using e0
  have g1 : c1 = .int .i64 x1 := by simpa [cellsI64] using e1
  have g2 : c2 = .bool x2 := by simpa [cellsBool] using e2
  have g3 : c3 = .bool x3 := by simpa [cellsBool] using e3
  have g4 : c4 = .bool x4 := by simpa [cellsBool] using e4
  have g5 : c5 = .int .i64 x5 := by simpa [cellsI64] using e5
  have g6 : c6 = .int .i64 x6 := by simpa [cellsI64] using e6
  have g7 : c7 = .int .i64 x7 := by simpa [cellsI64] using e7
  have g8 : c8 = .int .i64 x8 := by simpa [cellsI64] using e8
  have g9 : c9 = .int .i64 x9 := by simpa [cellsI64] using e9
  have g10 : c10 = .int .i64 x10 := by simpa [cellsI64] using e10
  have g11 : c11 = .slice a len cap := by simpa [cellsBytes] using e11
  subst g0 g1 g2 g3 g4 g5 g6 g7 g8 g9 g10 g11
  have hl := hr.rb.2
  exact ⟨⟨x0, x1, x2, x3, x4, x5, x6, x7, x8, x9, x10, zs.take len⟩, a, cap, zs, by simp only [hl], ⟨f0, f1, f5, f6, f7, f8, f9, f10⟩, by simp only [hl]; exact hr, by simp only [hl]⟩

theorem lSzSegment (s : Seg) (a : Option Addr) (n cap : Nat) (left : Int) (w : World) (hn : n ≤ maxLen) (h0 : 0 ≤ left) (h1 : left ≤ 1048576) :
    Calls Try.prog 63 #[.agg #[.int .i64 s.path, .int .i64 s.frm, .bool s.syn, .bool s.ackd, .bool s.rst, .int .i64 s.seq, .int .i64 s.ack, .int .i64 s.fin, .int .i64 s.opt, .int .i64 s.a, .int .i64 s.b, .slice a n cap], .int .i64 left] w fun e w' => e = .returned (.int .i64 (if left < n then -1 else left - n)) ∧ Below w.heap.size w w' := by
  by_cases h : left < n
  · have c := fun w => lSzByteS a n cap left w hn h0 h1
    rw [if_pos h] at c ⊢
    go_enter Try.func63, Try.ntmps63
    go_wp2_with (go_at_call 85; refine (c _).mono ?_; rintro e w' ⟨rfl, hw⟩; subst w')
    go_ret
    exact ⟨rfl, by go_grown⟩
  · have c := fun w => lSzByteS a n cap left w hn h0 h1
    rw [if_neg h] at c ⊢
    have h2 : 0 ≤ left - (n : Int) := by omega
    go_enter Try.func63, Try.ntmps63
    go_wp2_with (go_at_call 85; refine (c _).mono ?_; rintro e w' ⟨rfl, hw⟩; subst w')
    go_ret
    exact ⟨rfl, by go_grown⟩

set_option maxHeartbeats 1000000 in
theorem lToSegment (s : Seg) (a : Option Addr) (n cap : Nat) (w : World) (hl : s.load.length = n) (hr : RB w a s.load) (hn : n ≤ 1048576) :
    Calls Try.prog 64 #[.agg #[.int .i64 s.path, .int .i64 s.frm, .bool s.syn, .bool s.ackd, .bool s.rst, .int .i64 s.seq, .int .i64 s.ack, .int .i64 s.fin, .int .i64 s.opt, .int .i64 s.a, .int .i64 s.b, .slice a n cap]] w fun e w' => ∃ v, e = .returned (.agg #[.int .i64 s.path, .int .i64 s.frm, .bool s.syn, .bool s.ackd, .bool s.rst, .int .i64 s.seq, .int .i64 s.ack, .int .i64 s.fin, .int .i64 s.opt, .int .i64 s.a, .int .i64 s.b, v]) ∧ OB w' w.heap.size v s.load ∧ Below w.heap.size w w' := by
  go_enter Try.func64, Try.ntmps64
  go_wp2_with fail
  refine (lToByteS a n cap s.load _ hl ?_ hn).mono ?_
  · exact hr.below (Nat.le_refl _) (by go_grown)
  · rintro e w1 ⟨rfl, ho, hb1⟩
    have hz := hb1.size
    simp at hz
    simp only [World.size_alloc] at ho
    have ho2 : OB w1 w.heap.size (.slice (some ⟨w.heap.size + 1 + 1 + 1, 0, none⟩) n n) s.load := ho.mono (by omega)
    obtain ⟨hc, hf⟩ := bcell hb1
    have z1 : w.heap.size < w1.heap.size := by omega
    have z2 : w.heap.size + 1 < w1.heap.size := by omega
    have z3 : w.heap.size + 1 + 1 < w1.heap.size := by omega
    have HB : Hid _ := hb1
    have HO : Hid _ := ho2
    clear hb1 ho ho2 hz
    go_wp2
    have hB1 : Below w.heap.size w w1 := Below.trans (by go_grown) (HB.out.mono (by simp; omega))
    refine bodyPost_ret (v := .agg #[.int .i64 s.path, .int .i64 s.frm, .bool s.syn, .bool s.ackd, .bool s.rst, .int .i64 s.seq, .int .i64 s.ack, .int .i64 s.fin, .int .i64 s.opt, .int .i64 s.a, .int .i64 s.b, .slice (some ⟨w.heap.size + 1 + 1 + 1, 0, none⟩) n n]) (by simp [results, Try.results64, go_sem, hc]) rfl ⟨_, rfl, ?_, ?_⟩
    · refine OB.keep HO.out ?_
      repeat rw [Below.heap_setCell _ _ _ _ (by dsimp only; omega)]
    · clear hc hf HO HB
      go_grown

set_option maxHeartbeats 1000000 in
theorem lEqSegment (s : Seg) (a b : Option Addr) (n cap cap' : Nat) (w : World) (hl : s.load.length = n) (ha : RB w a s.load) (hb : RB w b s.load) (hn : n ≤ 281474976710656) :
    Calls Try.prog 59 #[.agg #[.int .i64 s.path, .int .i64 s.frm, .bool s.syn, .bool s.ackd, .bool s.rst, .int .i64 s.seq, .int .i64 s.ack, .int .i64 s.fin, .int .i64 s.opt, .int .i64 s.a, .int .i64 s.b, .slice a n cap], .agg #[.int .i64 s.path, .int .i64 s.frm, .bool s.syn, .bool s.ackd, .bool s.rst, .int .i64 s.seq, .int .i64 s.ack, .int .i64 s.fin, .int .i64 s.opt, .int .i64 s.a, .int .i64 s.b, .slice b n cap']] w fun e w' => e = .returned (.bool true) ∧ Below w.heap.size w w' := by
  have c : ∀ W, Below w.heap.size w W → Calls Try.prog 81 #[.slice a n cap, .slice b n cap'] W fun e w' => e = .returned (.bool true) ∧ Below W.heap.size W w' := by
    intro W hW
    refine (lEqByteS a b n cap cap' s.load W hl (ha.below (Nat.le_refl _) hW) (hb.below (Nat.le_refl _) hW) hn).mono ?_
    rintro e w' ⟨m, rfl, rfl⟩
    exact ⟨rfl, below_drewN (Below.refl _ _) m⟩
  have HC : Hid _ := c
  clear c ha hb
  go_enter Try.func59, Try.ntmps59
  go_wp2_with fail
  refine (HC.out _ (by go_grown)).mono ?_
  rintro e w1 ⟨rfl, hb1⟩
  go_wp2_with fail
  go_ret
  exact ⟨rfl, Below.trans (by go_grown) (hb1.mono (by simp; omega))⟩
theorem lMarkSegment (s : Seg) (base : Nat) (v : Value) (c : Int) (w : World) (ho : OB w base v s.load) (hn : s.load.length ≤ 1073741824) (hc0 : 0 ≤ c) (hc1 : c ≤ 4611686018427387904) :
    Calls Try.prog 60 #[.agg #[.int .i64 s.path, .int .i64 s.frm, .bool s.syn, .bool s.ackd, .bool s.rst, .int .i64 s.seq, .int .i64 s.ack, .int .i64 s.fin, .int .i64 s.opt, .int .i64 s.a, .int .i64 s.b, v], .int .i64 c] w fun e w' => e = .returned (.int .i64 (c + s.load.length)) ∧ OB w' base v (marks c s.load.length) ∧ w.grownBy w' v.ownBlock := by
  obtain ⟨a, cap, rfl, _⟩ := ho.rb
  go_enter Try.func60, Try.ntmps60
  go_wp2_with fail
  refine (lMark base _ c s.load _ (ho.below (Nat.le_refl _) (by go_grown)) hn hc0 hc1).mono ?_
  rintro e w1 ⟨rfl, ho1, hg1⟩
  go_wp2_with fail
  go_ret
  refine ⟨rfl, ho1, ?_⟩
  have h0 := World.grownBy_alloc w (.cells #[.int .i64 s.path, .int .i64 s.frm, .bool s.syn, .bool s.ackd, .bool s.rst, .int .i64 s.seq, .int .i64 s.ack, .int .i64 s.fin, .int .i64 s.opt, .int .i64 s.a, .int .i64 s.b, .slice a s.load.length cap] 31) ((Value.slice a s.load.length cap).ownBlock)
  exact ⟨hg1.os.trans h0.os, hg1.tape.trans h0.tape, hg1.output.trans h0.output, Nat.le_trans h0.size hg1.size, fun j hj hne => (hg1.block j (Nat.lt_of_lt_of_le hj h0.size) hne).trans (h0.block j hj hne)⟩
theorem lHeldSegment (s : Seg) (a : Option Addr) (n cap : Nat) (c : Int) (w : World) (ha : RB w a (marks c n)) (hn : n ≤ 1073741824) (hc0 : 0 ≤ c) (hc1 : c ≤ 4611686018427387904) :
    Calls Try.prog 61 #[.agg #[.int .i64 s.path, .int .i64 s.frm, .bool s.syn, .bool s.ackd, .bool s.rst, .int .i64 s.seq, .int .i64 s.ack, .int .i64 s.fin, .int .i64 s.opt, .int .i64 s.a, .int .i64 s.b, .slice a n cap], .int .i64 c] w fun e w' => e = .returned (.int .i64 (c + n)) ∧ Below w.heap.size w w' := by
  go_enter Try.func61, Try.ntmps61
  go_wp2_with fail
  refine (lHeldByteS a n cap c _ (ha.below (Nat.le_refl _) (by go_grown)) hn hc0 hc1).mono ?_
  rintro e w1 ⟨rfl, hw⟩
  subst w1
  have h2 : 0 ≤ c + (n : Int) := by omega
  go_wp2_with fail
  go_ret
  exact ⟨rfl, by go_grown⟩
end Go.Proofs.Ytlfncadngcjdjaa
