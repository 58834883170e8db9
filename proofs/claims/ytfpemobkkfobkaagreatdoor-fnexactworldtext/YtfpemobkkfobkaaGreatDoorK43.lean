/- Segments: what a segment that came in holds, and what the law's own helpers (copy, compare, mark, measure) make of one; no condition but that its load has at most a million bytes. -/
import Derived.Test.YtfpemobkkfobkaaGreatDoorRows
import Derived.Lib.SmallJoins
import Derived.ChangeArms
import Derived.Test.YtfpemobkkfobkaaGreatDoorK01
namespace Go.Proofs.YtfpemobkkfobkaaGreatDoor
open Go.RowKit Go.ChangeShapes Go.WideShapes Go.ChangeAt
set_option linter.unusedVariables false

/-- A segment as data. -/
structure Seg where
  path : Int
  frm : Int
  syn : Bool
  ackd : Bool
  rst : Bool
  seq : Int
  ack : Int
  fin : Int
  opt : Int
  a : Int
  b : Int
  load : List Int

/-- Every number of the segment is one of 64 bits. -/
structure Seg.Wf (s : Seg) : Prop where
  path : (Lit.int .i64 s.path).wf = true
  frm : (Lit.int .i64 s.frm).wf = true
  seq : (Lit.int .i64 s.seq).wf = true
  ack : (Lit.int .i64 s.ack).wf = true
  fin : (Lit.int .i64 s.fin).wf = true
  opt : (Lit.int .i64 s.opt).wf = true
  a : (Lit.int .i64 s.a).wf = true
  b : (Lit.int .i64 s.b).wf = true

section
variable {H : Type} {enc : TypeId × Value → H} {w : World} {P : Program}

/-- A field of a struct that reads, reads. -/
theorem trod_fieldAt {fuel : Nat} {t : TypeId} {cs : List Value} {x : DataW H × List MemPlace} {fs : Array Field} (ht : P.underlying t = some (.struct fs))
    (h : DataW.trod enc P w 0 (fun _ => true) true fuel t cs = some x) (i : Nat) (f : Field) (hf : fs[i]? = some f) :
    ∃ n y, DataW.trod enc P w 0 (fun _ => true) true n f.type ((cs.drop f.offset).take (P.cellsOf f.type)) = some y := by
  obtain ⟨xs, n, _, _, _, hlen, hx⟩ := DataW.trod_struct ht h
  have := hx i f hf
  have hi : i < fs.size := by
    apply Classical.byContradiction; intro hn
    rw [Array.getElem?_eq_none (by omega)] at hf; cases hf
  rw [List.getElem?_eq_getElem (by omega)] at this
  exact ⟨n, _, this⟩

theorem rd_int {fuel : Nat} {t : TypeId} {cs : List Value} {k : IntKind} (ht : P.underlying t = some (.int k)) (h : ∃ n y, DataW.trod enc P w 0 (fun _ => true) true n t cs = some y) : ∃ n, cs = [.int k n] ∧ (Lit.int k n).wf = true := by
  obtain ⟨_, _, h⟩ := h
  obtain ⟨n, h1, _, h2⟩ := DataW.trod_int ht h
  exact ⟨n, h1, h2⟩
theorem rd_bool {fuel : Nat} {t : TypeId} {cs : List Value} (ht : P.underlying t = some .bool) (h : ∃ n y, DataW.trod enc P w 0 (fun _ => true) true n t cs = some y) : ∃ b, cs = [.bool b] := by
  obtain ⟨_, _, h⟩ := h
  obtain ⟨b, h1, _⟩ := DataW.trod_bool ht h
  exact ⟨b, h1⟩
theorem rd_ints {t e : TypeId} {cs : List Value} {k : IntKind} (ht : P.underlying t = some (.slice e)) (he : P.underlying e = some (.int k)) (hc : P.cellsOf e = 1) (h : ∃ n y, DataW.trod enc P w 0 (fun _ => true) true n t cs = some y) :
    ∃ a len cap zs, cs = [.slice a len cap] ∧ BRow k w a len cap zs := by
  obtain ⟨_, _, hf⟩ := h
  rcases open_ints ht he hc hf with ⟨hcs, _⟩ | ⟨x, l, c, zs, hcs, _, hl, hm, hz, _, hcell, hwz⟩
  · exact ⟨none, 0, 0, [], hcs, .inl ⟨rfl, rfl, rfl, rfl⟩⟩
  · exact ⟨some x, l, c, zs, hcs, .inr ⟨_, rfl, hl, hm, by simpa using hz, hcell, hwz⟩⟩
end

theorem list12 {α : Type} {l : List α} (h : l.length = 12) : ∃ c0 c1 c2 c3 c4 c5 c6 c7 c8 c9 c10 c11, l = [c0, c1, c2, c3, c4, c5, c6, c7, c8, c9, c10, c11] := by
  match l, h with
  | [c0, c1, c2, c3, c4, c5, c6, c7, c8, c9, c10, c11], _ => exact ⟨c0, c1, c2, c3, c4, c5, c6, c7, c8, c9, c10, c11, rfl⟩

theorem cellsLSeg : Tryz.prog.cellsOf 109 = 12 := by kernel_rfl
theorem cellsI64 : Tryz.prog.cellsOf 2 = 1 := by kernel_rfl
theorem cellsBool : Tryz.prog.cellsOf 4 = 1 := by kernel_rfl
theorem cellsU8 : Tryz.prog.cellsOf 5 = 1 := by kernel_rfl
theorem cellsBytes : Tryz.prog.cellsOf 62 = 1 := by kernel_rfl

/-- A segment that reads, opened: its fields, and its load as a row of bytes. -/
theorem open_lseg {H : Type} {enc : TypeId × Value → H} {w : World} {cs : List Value} (hx : ∃ n y, DataW.trod enc Tryz.prog w 0 (fun _ => true) true n 109 cs = some y) :
    ∃ (s : Seg) (a : Option Addr) (cap : Nat) (zs : List Int), cs = [.int .i64 s.path, .int .i64 s.frm, .bool s.syn, .bool s.ackd, .bool s.rst, .int .i64 s.seq, .int .i64 s.ack, .int .i64 s.fin, .int .i64 s.opt, .int .i64 s.a, .int .i64 s.b, .slice a s.load.length cap] ∧ s.Wf ∧ BRow .u8 w a s.load.length cap zs ∧ s.load = zs.take s.load.length := by
  obtain ⟨n, y, h⟩ := hx
  obtain ⟨_, _, _, _, hlen, _, _⟩ := DataW.trod_struct Tryz.underlying109 h
  rw [cellsLSeg] at hlen
  obtain ⟨c0, c1, c2, c3, c4, c5, c6, c7, c8, c9, c10, c11, rfl⟩ := list12 hlen
  obtain ⟨x0, e0, f0⟩ := rd_int (fuel := 0) Tryz.underlying2 (trod_fieldAt Tryz.underlying109 h 0 _ rfl)
  obtain ⟨x1, e1, f1⟩ := rd_int (fuel := 0) Tryz.underlying2 (trod_fieldAt Tryz.underlying109 h 1 _ rfl)
  obtain ⟨x2, e2⟩ := rd_bool (fuel := 0) Tryz.underlying4 (trod_fieldAt Tryz.underlying109 h 2 _ rfl)
  obtain ⟨x3, e3⟩ := rd_bool (fuel := 0) Tryz.underlying4 (trod_fieldAt Tryz.underlying109 h 3 _ rfl)
  obtain ⟨x4, e4⟩ := rd_bool (fuel := 0) Tryz.underlying4 (trod_fieldAt Tryz.underlying109 h 4 _ rfl)
  obtain ⟨x5, e5, f5⟩ := rd_int (fuel := 0) Tryz.underlying2 (trod_fieldAt Tryz.underlying109 h 5 _ rfl)
  obtain ⟨x6, e6, f6⟩ := rd_int (fuel := 0) Tryz.underlying2 (trod_fieldAt Tryz.underlying109 h 6 _ rfl)
  obtain ⟨x7, e7, f7⟩ := rd_int (fuel := 0) Tryz.underlying2 (trod_fieldAt Tryz.underlying109 h 7 _ rfl)
  obtain ⟨x8, e8, f8⟩ := rd_int (fuel := 0) Tryz.underlying2 (trod_fieldAt Tryz.underlying109 h 8 _ rfl)
  obtain ⟨x9, e9, f9⟩ := rd_int (fuel := 0) Tryz.underlying2 (trod_fieldAt Tryz.underlying109 h 9 _ rfl)
  obtain ⟨x10, e10, f10⟩ := rd_int (fuel := 0) Tryz.underlying2 (trod_fieldAt Tryz.underlying109 h 10 _ rfl)
  obtain ⟨a, len, cap, zs, e11, hr⟩ := rd_ints Tryz.underlying62 Tryz.underlying5 cellsU8 (trod_fieldAt Tryz.underlying109 h 11 _ rfl)
  have g0 : c0 = .int .i64 x0 := by simpa [cellsI64] using e0
  have g1 : c1 = .int .i64 x1 := by simpa [cellsI64] using e1
  have g2 : c2 = .bool x2 := by simpa [cellsBool] using e2
  have g3 : c3 = .bool x3 := by simpa [cellsBool] using e3
  have g4 : c4 = .bool x4 := by simpa [cellsBool] using e4
  have g5 : c5 = .int .i64 x5 := by simpa [cellsI64] using e5
  have g6 : c6 = .int .i64 x6 := by simpa [cellsI64] using e6
  have g7 : c7 = .int .i64 x7 := by simpa [cellsI64] using e7
  have g8 : c8 = .int .i64 x8 := by simpa [cellsI64] using e8
  have g9 : c9 = .int .i64 x9 := by simpa [cellsI64] using e9
  have g10 : c10 = .int .i64 x10 := by simpa [cellsI64] using e10
  have g11 : c11 = .slice a len cap := by simpa [cellsBytes] using e11
  subst g0 g1 g2 g3 g4 g5 g6 g7 g8 g9 g10 g11
  have hl := hr.rb.2
  exact ⟨⟨x0, x1, x2, x3, x4, x5, x6, x7, x8, x9, x10, zs.take len⟩, a, cap, zs, by simp only [hl], ⟨f0, f1, f5, f6, f7, f8, f9, f10⟩, by simp only [hl]; exact hr, by simp only [hl]⟩

theorem lSzSegment (s : Seg) (a : Option Addr) (n cap : Nat) (left : Int) (w : World) (hn : n ≤ maxLen) (h0 : 0 ≤ left) (h1 : left ≤ 1048576) :
    Calls Tryz.prog 49 #[.agg #[.int .i64 s.path, .int .i64 s.frm, .bool s.syn, .bool s.ackd, .bool s.rst, .int .i64 s.seq, .int .i64 s.ack, .int .i64 s.fin, .int .i64 s.opt, .int .i64 s.a, .int .i64 s.b, .slice a n cap], .int .i64 left] w fun e w' => e = .returned (.int .i64 (if left < n then -1 else left - n)) ∧ Below w.heap.size w w' := by
  by_cases h : left < n
  · have c := fun w => lSzByteS a n cap left w hn h0 h1
    rw [if_pos h] at c ⊢
    go_enter Tryz.func49, Tryz.ntmps49
    go_wp2_with (go_at_call 28; refine (c _).mono ?_; rintro e w' ⟨rfl, hw⟩; subst w')
    go_ret
    exact ⟨rfl, by go_grown⟩
  · have c := fun w => lSzByteS a n cap left w hn h0 h1
    rw [if_neg h] at c ⊢
    have h2 : 0 ≤ left - (n : Int) := by omega
    go_enter Tryz.func49, Tryz.ntmps49
    go_wp2_with (go_at_call 28; refine (c _).mono ?_; rintro e w' ⟨rfl, hw⟩; subst w')
    go_ret
    exact ⟨rfl, by go_grown⟩

set_option maxHeartbeats 1000000 in
theorem lToSegment (s : Seg) (a : Option Addr) (n cap : Nat) (w : World) (hl : s.load.length = n) (hr : RB w a s.load) (hn : n ≤ 1048576) :
    Calls Tryz.prog 57 #[.agg #[.int .i64 s.path, .int .i64 s.frm, .bool s.syn, .bool s.ackd, .bool s.rst, .int .i64 s.seq, .int .i64 s.ack, .int .i64 s.fin, .int .i64 s.opt, .int .i64 s.a, .int .i64 s.b, .slice a n cap]] w fun e w' => ∃ v, e = .returned (.agg #[.int .i64 s.path, .int .i64 s.frm, .bool s.syn, .bool s.ackd, .bool s.rst, .int .i64 s.seq, .int .i64 s.ack, .int .i64 s.fin, .int .i64 s.opt, .int .i64 s.a, .int .i64 s.b, v]) ∧ OB w' w.heap.size v s.load ∧ Below w.heap.size w w' := by
  go_enter Tryz.func57, Tryz.ntmps57
  go_wp2_with fail
  refine (lToByteS a n cap s.load _ hl ?_ hn).mono ?_
  · exact hr.below (Nat.le_refl _) (by go_grown)
  · rintro e w1 ⟨rfl, ho, hb1⟩
    have hz := hb1.size
    simp at hz
    simp only [World.size_alloc] at ho
    have ho2 : OB w1 w.heap.size (.slice (some ⟨w.heap.size + 1 + 1 + 1, 0, none⟩) n n) s.load := ho.mono (by omega)
    obtain ⟨hc, hf⟩ := bcell hb1
    have z1 : w.heap.size < w1.heap.size := by omega
    have z2 : w.heap.size + 1 < w1.heap.size := by omega
    have z3 : w.heap.size + 1 + 1 < w1.heap.size := by omega
    have HB : Hid _ := hb1
    have HO : Hid _ := ho2
    clear hb1 ho ho2 hz
    go_wp2
    have hB1 : Below w.heap.size w w1 := Below.trans (by go_grown) (HB.out.mono (by simp; omega))
    refine bodyPost_ret (v := .agg #[.int .i64 s.path, .int .i64 s.frm, .bool s.syn, .bool s.ackd, .bool s.rst, .int .i64 s.seq, .int .i64 s.ack, .int .i64 s.fin, .int .i64 s.opt, .int .i64 s.a, .int .i64 s.b, .slice (some ⟨w.heap.size + 1 + 1 + 1, 0, none⟩) n n]) (by simp [results, Tryz.results57, go_sem, hc]) rfl ⟨_, rfl, ?_, ?_⟩
    · refine OB.keep HO.out ?_
      repeat rw [Below.heap_setCell _ _ _ _ (by dsimp only; omega)]
    · clear hc hf HO HB
      go_grown

set_option maxHeartbeats 1000000 in
theorem lEqSegment (s : Seg) (a b : Option Addr) (n cap cap' : Nat) (w : World) (hl : s.load.length = n) (ha : RB w a s.load) (hb : RB w b s.load) (hn : n ≤ 281474976710656) :
    Calls Tryz.prog 66 #[.agg #[.int .i64 s.path, .int .i64 s.frm, .bool s.syn, .bool s.ackd, .bool s.rst, .int .i64 s.seq, .int .i64 s.ack, .int .i64 s.fin, .int .i64 s.opt, .int .i64 s.a, .int .i64 s.b, .slice a n cap], .agg #[.int .i64 s.path, .int .i64 s.frm, .bool s.syn, .bool s.ackd, .bool s.rst, .int .i64 s.seq, .int .i64 s.ack, .int .i64 s.fin, .int .i64 s.opt, .int .i64 s.a, .int .i64 s.b, .slice b n cap']] w fun e w' => e = .returned (.bool true) ∧ Below w.heap.size w w' := by
  have c : ∀ W, Below w.heap.size w W → Calls Tryz.prog 46 #[.slice a n cap, .slice b n cap'] W fun e w' => e = .returned (.bool true) ∧ Below W.heap.size W w' := by
    intro W hW
    refine (lEqByteS a b n cap cap' s.load W hl (ha.below (Nat.le_refl _) hW) (hb.below (Nat.le_refl _) hW) hn).mono ?_
    rintro e w' ⟨m, rfl, rfl⟩
    exact ⟨rfl, below_drewN (Below.refl _ _) m⟩
  have HC : Hid _ := c
  clear c ha hb
  go_enter Tryz.func66, Tryz.ntmps66
  go_wp2_with fail
  refine (HC.out _ (by go_grown)).mono ?_
  rintro e w1 ⟨rfl, hb1⟩
  go_wp2_with fail
  go_ret
  exact ⟨rfl, Below.trans (by go_grown) (hb1.mono (by simp; omega))⟩
end Go.Proofs.YtfpemobkkfobkaaGreatDoor

/- What the model of chapter 2 answers: the fault of a segment; nothing that was in memory turns; no condition. -/
namespace Go.Proofs.YtfpemobkkfobkaaGreatDoor
open Go.RowKit
set_option linter.unusedVariables false

/-- v is lo to hi. -/
def inB9 (v lo hi : Int) : Bool := decide (lo ≤ v) && decide (v ≤ hi)
theorem inB_iff9 (v lo hi : Int) : inB9 v lo hi = true ↔ lo ≤ v ∧ v ≤ hi := by simp [inB9]
def rangeOk9 (s : Seg) : Bool := inB9 s.path 0 2 && inB9 s.frm 0 1 && inB9 s.seq 0 65535 && inB9 s.ack 0 65535 && inB9 s.fin 0 1000 && inB9 s.a 0 1000000 && inB9 s.b 0 1000000
def formOk9 (s : Seg) (n : Nat) : Bool := inB9 s.opt 0 4 && !(s.opt == 0 && (s.a != 0 || s.b != 0)) && !(decide (0 < n) && (s.syn || s.rst))
/-- The fault of a segment with n bytes of load. -/
def segFault (s : Seg) (n : Nat) : Int := if rangeOk9 s = false then 3 else if formOk9 s n = false then 1 else if 8 < n then 2 else 0

theorem sInB9 (v low high : Int) (w : World) :
    Calls Tryz.prog 29 #[.int .i64 v, .int .i64 low, .int .i64 high] w fun e w' => e = .returned (.bool (inB9 v low high)) ∧ w' = w := by
  by_cases h : low ≤ v
  · go_enter Tryz.func29, Tryz.ntmps29
    go_wp2
    go_ret
    exact ⟨ret_bool (by simp [inB9, h]), rfl⟩
  · have h' : decide (low ≤ v) = false := by simp; omega
    go_enter Tryz.func29, Tryz.ntmps29
    go_wp2
    go_ret
    exact ⟨ret_bool (by simp [inB9, h']), rfl⟩
theorem sNum9 (v : Int) (w : World) :
    Calls Tryz.prog 71 #[.int .i64 v] w fun e w' => e = .returned (.bool (inB9 v 0 65535)) ∧ w' = w := by
  go_enter Tryz.func71, Tryz.ntmps71
  go_wp2_with (go_at_call 29; refine (sInB9 _ _ _ _).mono ?_; rintro e w' ⟨rfl, hw⟩; subst w')
  go_ret
  exact ⟨rfl, rfl⟩

set_option maxHeartbeats 4000000 in
theorem sSegmentFault (s : Seg) (a : Option Addr) (n cap : Nat) (w : World) :
    Calls Tryz.prog 54 #[.agg #[.int .i64 s.path, .int .i64 s.frm, .bool s.syn, .bool s.ackd, .bool s.rst, .int .i64 s.seq, .int .i64 s.ack, .int .i64 s.fin, .int .i64 s.opt, .int .i64 s.a, .int .i64 s.b, .slice a n cap]] w fun e w' => e = .returned (.int .i64 (segFault s n)) ∧ Below w.heap.size w w' := by
  cases h0 : inB9 s.path 0 2
  · skip
    have hf : segFault s n = 3 := by simp [segFault, rangeOk9, *]
    rw [hf]; clear hf
    go_enter Tryz.func54, Tryz.ntmps54
    go_wp2_with (first | (go_at_call 29; refine (sInB9 _ _ _ _).mono ?_; rintro e w' ⟨rfl, hw⟩; subst w') | (go_at_call 71; refine (sNum9 _ _).mono ?_; rintro e w' ⟨rfl, hw⟩; subst w'))
    go_ret
    exact ⟨rfl, by go_grown⟩
  · skip
    cases h1 : inB9 s.frm 0 1
    · skip
      have hf : segFault s n = 3 := by simp [segFault, rangeOk9, *]
      rw [hf]; clear hf
      go_enter Tryz.func54, Tryz.ntmps54
      go_wp2_with (first | (go_at_call 29; refine (sInB9 _ _ _ _).mono ?_; rintro e w' ⟨rfl, hw⟩; subst w') | (go_at_call 71; refine (sNum9 _ _).mono ?_; rintro e w' ⟨rfl, hw⟩; subst w'))
      go_ret
      exact ⟨rfl, by go_grown⟩
    · skip
      cases h2 : inB9 s.seq 0 65535
      · skip
        have hf : segFault s n = 3 := by simp [segFault, rangeOk9, *]
        rw [hf]; clear hf
        go_enter Tryz.func54, Tryz.ntmps54
        go_wp2_with (first | (go_at_call 29; refine (sInB9 _ _ _ _).mono ?_; rintro e w' ⟨rfl, hw⟩; subst w') | (go_at_call 71; refine (sNum9 _ _).mono ?_; rintro e w' ⟨rfl, hw⟩; subst w'))
        go_ret
        exact ⟨rfl, by go_grown⟩
      · skip
        cases h3 : inB9 s.ack 0 65535
        · skip
          have hf : segFault s n = 3 := by simp [segFault, rangeOk9, *]
          rw [hf]; clear hf
          go_enter Tryz.func54, Tryz.ntmps54
          go_wp2_with (first | (go_at_call 29; refine (sInB9 _ _ _ _).mono ?_; rintro e w' ⟨rfl, hw⟩; subst w') | (go_at_call 71; refine (sNum9 _ _).mono ?_; rintro e w' ⟨rfl, hw⟩; subst w'))
          go_ret
          exact ⟨rfl, by go_grown⟩
        · skip
          cases h4 : inB9 s.fin 0 1000
          · skip
            have hf : segFault s n = 3 := by simp [segFault, rangeOk9, *]
            rw [hf]; clear hf
            go_enter Tryz.func54, Tryz.ntmps54
            go_wp2_with (first | (go_at_call 29; refine (sInB9 _ _ _ _).mono ?_; rintro e w' ⟨rfl, hw⟩; subst w') | (go_at_call 71; refine (sNum9 _ _).mono ?_; rintro e w' ⟨rfl, hw⟩; subst w'))
            go_ret
            exact ⟨rfl, by go_grown⟩
          · skip
            cases h5 : inB9 s.a 0 1000000
            · skip
              have hf : segFault s n = 3 := by simp [segFault, rangeOk9, *]
              rw [hf]; clear hf
              go_enter Tryz.func54, Tryz.ntmps54
              go_wp2_with (first | (go_at_call 29; refine (sInB9 _ _ _ _).mono ?_; rintro e w' ⟨rfl, hw⟩; subst w') | (go_at_call 71; refine (sNum9 _ _).mono ?_; rintro e w' ⟨rfl, hw⟩; subst w'))
              go_ret
              exact ⟨rfl, by go_grown⟩
            · skip
              cases h6 : inB9 s.b 0 1000000
              · skip
                have hf : segFault s n = 3 := by simp [segFault, rangeOk9, *]
                rw [hf]; clear hf
                go_enter Tryz.func54, Tryz.ntmps54
                go_wp2_with (first | (go_at_call 29; refine (sInB9 _ _ _ _).mono ?_; rintro e w' ⟨rfl, hw⟩; subst w') | (go_at_call 71; refine (sNum9 _ _).mono ?_; rintro e w' ⟨rfl, hw⟩; subst w'))
                go_ret
                exact ⟨rfl, by go_grown⟩
              · skip
                cases g0 : inB9 s.opt 0 4
                · skip
                  have hf : segFault s n = 1 := by simp [segFault, rangeOk9, formOk9, *]
                  rw [hf]; clear hf
                  go_enter Tryz.func54, Tryz.ntmps54
                  go_wp2_with (first | (go_at_call 29; refine (sInB9 _ _ _ _).mono ?_; rintro e w' ⟨rfl, hw⟩; subst w') | (go_at_call 71; refine (sNum9 _ _).mono ?_; rintro e w' ⟨rfl, hw⟩; subst w'))
                  go_ret
                  exact ⟨rfl, by go_grown⟩
                · skip
                  cases g1 : (s.opt == 0)
                  · skip
                    by_cases g4 : n = 0
                    · subst g4
                      have hf : segFault s 0 = 0 := by simp [segFault, rangeOk9, formOk9, *]
                      rw [hf]; clear hf
                      go_enter Tryz.func54, Tryz.ntmps54
                      go_wp2_with (first | (go_at_call 29; refine (sInB9 _ _ _ _).mono ?_; rintro e w' ⟨rfl, hw⟩; subst w') | (go_at_call 71; refine (sNum9 _ _).mono ?_; rintro e w' ⟨rfl, hw⟩; subst w'))
                      go_ret
                      exact ⟨rfl, by go_grown⟩
                    · have g4n : 0 < n := by omega
                      have g4i : (0 : Int) < (n : Int) := by omega
                      cases g5 : s.syn
                      · cases g6 : s.rst
                        · by_cases g8 : 8 < n
                          · have g8i : (8 : Int) < (n : Int) := by omega
                            have hf : segFault s n = 2 := by simp [segFault, rangeOk9, formOk9, *]
                            rw [hf]; clear hf
                            go_enter Tryz.func54, Tryz.ntmps54
                            go_wp2_with (first | (go_at_call 29; refine (sInB9 _ _ _ _).mono ?_; rintro e w' ⟨rfl, hw⟩; subst w') | (go_at_call 71; refine (sNum9 _ _).mono ?_; rintro e w' ⟨rfl, hw⟩; subst w'))
                            go_ret
                            exact ⟨rfl, by go_grown⟩
                          · have g8i : ¬ (8 : Int) < (n : Int) := by omega
                            have hf : segFault s n = 0 := by simp [segFault, rangeOk9, formOk9, *]
                            rw [hf]; clear hf
                            go_enter Tryz.func54, Tryz.ntmps54
                            go_wp2_with (first | (go_at_call 29; refine (sInB9 _ _ _ _).mono ?_; rintro e w' ⟨rfl, hw⟩; subst w') | (go_at_call 71; refine (sNum9 _ _).mono ?_; rintro e w' ⟨rfl, hw⟩; subst w'))
                            go_ret
                            exact ⟨rfl, by go_grown⟩
                        · skip
                          have hf : segFault s n = 1 := by simp [segFault, rangeOk9, formOk9, *]
                          rw [hf]; clear hf
                          go_enter Tryz.func54, Tryz.ntmps54
                          go_wp2_with (first | (go_at_call 29; refine (sInB9 _ _ _ _).mono ?_; rintro e w' ⟨rfl, hw⟩; subst w') | (go_at_call 71; refine (sNum9 _ _).mono ?_; rintro e w' ⟨rfl, hw⟩; subst w'))
                          go_ret
                          exact ⟨rfl, by go_grown⟩
                      · skip
                        have hf : segFault s n = 1 := by simp [segFault, rangeOk9, formOk9, *]
                        rw [hf]; clear hf
                        go_enter Tryz.func54, Tryz.ntmps54
                        go_wp2_with (first | (go_at_call 29; refine (sInB9 _ _ _ _).mono ?_; rintro e w' ⟨rfl, hw⟩; subst w') | (go_at_call 71; refine (sNum9 _ _).mono ?_; rintro e w' ⟨rfl, hw⟩; subst w'))
                        go_ret
                        exact ⟨rfl, by go_grown⟩
                  · cases g2 : (s.a != 0)
                    · cases g3 : (s.b != 0)
                      · skip
                        by_cases g4 : n = 0
                        · subst g4
                          have hf : segFault s 0 = 0 := by simp [segFault, rangeOk9, formOk9, *]
                          rw [hf]; clear hf
                          go_enter Tryz.func54, Tryz.ntmps54
                          go_wp2_with (first | (go_at_call 29; refine (sInB9 _ _ _ _).mono ?_; rintro e w' ⟨rfl, hw⟩; subst w') | (go_at_call 71; refine (sNum9 _ _).mono ?_; rintro e w' ⟨rfl, hw⟩; subst w'))
                          go_ret
                          exact ⟨rfl, by go_grown⟩
                        · have g4n : 0 < n := by omega
                          have g4i : (0 : Int) < (n : Int) := by omega
                          cases g5 : s.syn
                          · cases g6 : s.rst
                            · by_cases g8 : 8 < n
                              · have g8i : (8 : Int) < (n : Int) := by omega
                                have hf : segFault s n = 2 := by simp [segFault, rangeOk9, formOk9, *]
                                rw [hf]; clear hf
                                go_enter Tryz.func54, Tryz.ntmps54
                                go_wp2_with (first | (go_at_call 29; refine (sInB9 _ _ _ _).mono ?_; rintro e w' ⟨rfl, hw⟩; subst w') | (go_at_call 71; refine (sNum9 _ _).mono ?_; rintro e w' ⟨rfl, hw⟩; subst w'))
                                go_ret
                                exact ⟨rfl, by go_grown⟩
                              · have g8i : ¬ (8 : Int) < (n : Int) := by omega
                                have hf : segFault s n = 0 := by simp [segFault, rangeOk9, formOk9, *]
                                rw [hf]; clear hf
                                go_enter Tryz.func54, Tryz.ntmps54
                                go_wp2_with (first | (go_at_call 29; refine (sInB9 _ _ _ _).mono ?_; rintro e w' ⟨rfl, hw⟩; subst w') | (go_at_call 71; refine (sNum9 _ _).mono ?_; rintro e w' ⟨rfl, hw⟩; subst w'))
                                go_ret
                                exact ⟨rfl, by go_grown⟩
                            · skip
                              have hf : segFault s n = 1 := by simp [segFault, rangeOk9, formOk9, *]
                              rw [hf]; clear hf
                              go_enter Tryz.func54, Tryz.ntmps54
                              go_wp2_with (first | (go_at_call 29; refine (sInB9 _ _ _ _).mono ?_; rintro e w' ⟨rfl, hw⟩; subst w') | (go_at_call 71; refine (sNum9 _ _).mono ?_; rintro e w' ⟨rfl, hw⟩; subst w'))
                              go_ret
                              exact ⟨rfl, by go_grown⟩
                          · skip
                            have hf : segFault s n = 1 := by simp [segFault, rangeOk9, formOk9, *]
                            rw [hf]; clear hf
                            go_enter Tryz.func54, Tryz.ntmps54
                            go_wp2_with (first | (go_at_call 29; refine (sInB9 _ _ _ _).mono ?_; rintro e w' ⟨rfl, hw⟩; subst w') | (go_at_call 71; refine (sNum9 _ _).mono ?_; rintro e w' ⟨rfl, hw⟩; subst w'))
                            go_ret
                            exact ⟨rfl, by go_grown⟩
                      · skip
                        have hf : segFault s n = 1 := by simp [segFault, rangeOk9, formOk9, *]
                        rw [hf]; clear hf
                        go_enter Tryz.func54, Tryz.ntmps54
                        go_wp2_with (first | (go_at_call 29; refine (sInB9 _ _ _ _).mono ?_; rintro e w' ⟨rfl, hw⟩; subst w') | (go_at_call 71; refine (sNum9 _ _).mono ?_; rintro e w' ⟨rfl, hw⟩; subst w'))
                        go_ret
                        exact ⟨rfl, by go_grown⟩
                    · skip
                      have hf : segFault s n = 1 := by simp [segFault, rangeOk9, formOk9, *]
                      rw [hf]; clear hf
                      go_enter Tryz.func54, Tryz.ntmps54
                      go_wp2_with (first | (go_at_call 29; refine (sInB9 _ _ _ _).mono ?_; rintro e w' ⟨rfl, hw⟩; subst w') | (go_at_call 71; refine (sNum9 _ _).mono ?_; rintro e w' ⟨rfl, hw⟩; subst w'))
                      go_ret
                      exact ⟨rfl, by go_grown⟩
end Go.Proofs.YtfpemobkkfobkaaGreatDoor

/- What the program's own functions of chapter 2 answer: the fault of a segment, the sum of bytes; nothing that was in memory turns; no condition but on lengths. -/
namespace Go.Proofs.YtfpemobkkfobkaaGreatDoor
open Go.RowKit
set_option linter.unusedVariables false

theorem iInB9 (v low high : Int) (w : World) :
    Calls Tryz.prog 37 #[.int .i64 v, .int .i64 low, .int .i64 high] w fun e w' => e = .returned (.bool (inB9 v low high)) ∧ w' = w := by
  by_cases h : low ≤ v
  · go_enter Tryz.func37, Tryz.ntmps37
    go_wp2
    go_ret
    exact ⟨ret_bool (by simp [inB9, h]), rfl⟩
  · have h' : decide (low ≤ v) = false := by simp; omega
    go_enter Tryz.func37, Tryz.ntmps37
    go_wp2
    go_ret
    exact ⟨ret_bool (by simp [inB9, h']), rfl⟩
set_option maxHeartbeats 4000000 in
theorem iNumbers9 (s : Seg) (a : Option Addr) (n cap : Nat) (w : World) :
    Calls Tryz.prog 106 #[.agg #[.int .i64 s.path, .int .i64 s.frm, .bool s.syn, .bool s.ackd, .bool s.rst, .int .i64 s.seq, .int .i64 s.ack, .int .i64 s.fin, .int .i64 s.opt, .int .i64 s.a, .int .i64 s.b, .slice a n cap]] w fun e w' => e = .returned (.bool (rangeOk9 s)) ∧ Below w.heap.size w w' := by
  cases h0 : inB9 s.path 0 2
  case false =>
    go_enter Tryz.func106, Tryz.ntmps106
    go_wp2_with (go_at_call 37; refine (iInB9 _ _ _ _).mono ?_; rintro e w' ⟨rfl, hw⟩; subst w')
    go_ret
    exact ⟨ret_bool (by simp [rangeOk9, *]), by go_grown⟩
  cases h1 : inB9 s.frm 0 1
  case false =>
    go_enter Tryz.func106, Tryz.ntmps106
    go_wp2_with (go_at_call 37; refine (iInB9 _ _ _ _).mono ?_; rintro e w' ⟨rfl, hw⟩; subst w')
    go_ret
    exact ⟨ret_bool (by simp [rangeOk9, *]), by go_grown⟩
  cases h2 : inB9 s.seq 0 65535
  case false =>
    go_enter Tryz.func106, Tryz.ntmps106
    go_wp2_with (go_at_call 37; refine (iInB9 _ _ _ _).mono ?_; rintro e w' ⟨rfl, hw⟩; subst w')
    go_ret
    exact ⟨ret_bool (by simp [rangeOk9, *]), by go_grown⟩
  cases h3 : inB9 s.ack 0 65535
  case false =>
    go_enter Tryz.func106, Tryz.ntmps106
    go_wp2_with (go_at_call 37; refine (iInB9 _ _ _ _).mono ?_; rintro e w' ⟨rfl, hw⟩; subst w')
    go_ret
    exact ⟨ret_bool (by simp [rangeOk9, *]), by go_grown⟩
  cases h4 : inB9 s.fin 0 1000
  case false =>
    go_enter Tryz.func106, Tryz.ntmps106
    go_wp2_with (go_at_call 37; refine (iInB9 _ _ _ _).mono ?_; rintro e w' ⟨rfl, hw⟩; subst w')
    go_ret
    exact ⟨ret_bool (by simp [rangeOk9, *]), by go_grown⟩
  cases h5 : inB9 s.a 0 1000000
  case false =>
    go_enter Tryz.func106, Tryz.ntmps106
    go_wp2_with (go_at_call 37; refine (iInB9 _ _ _ _).mono ?_; rintro e w' ⟨rfl, hw⟩; subst w')
    go_ret
    exact ⟨ret_bool (by simp [rangeOk9, *]), by go_grown⟩
  go_enter Tryz.func106, Tryz.ntmps106
  go_wp2_with (go_at_call 37; refine (iInB9 _ _ _ _).mono ?_; rintro e w' ⟨rfl, hw⟩; subst w')
  go_ret
  exact ⟨ret_bool (by simp [rangeOk9, *]), by go_grown⟩
def optOk9 (s : Seg) : Bool := if s.opt = 0 then (s.a == 0 && s.b == 0) else inB9 s.opt 0 4
set_option maxHeartbeats 1000000 in
theorem iOption9 (s : Seg) (a : Option Addr) (n cap : Nat) (w : World) :
    Calls Tryz.prog 107 #[.agg #[.int .i64 s.path, .int .i64 s.frm, .bool s.syn, .bool s.ackd, .bool s.rst, .int .i64 s.seq, .int .i64 s.ack, .int .i64 s.fin, .int .i64 s.opt, .int .i64 s.a, .int .i64 s.b, .slice a n cap]] w fun e w' => e = .returned (.bool (optOk9 s)) ∧ Below w.heap.size w w' := by
  by_cases h0 : s.opt = 0
  · by_cases h1 : s.a = 0
    · skip
      go_enter Tryz.func107, Tryz.ntmps107
      go_wp2_with (go_at_call 37; refine (iInB9 _ _ _ _).mono ?_; rintro e w' ⟨rfl, hw⟩; subst w')
      go_ret
      exact ⟨ret_bool (by simp [optOk9, *]), by go_grown⟩
    · skip
      go_enter Tryz.func107, Tryz.ntmps107
      go_wp2_with (go_at_call 37; refine (iInB9 _ _ _ _).mono ?_; rintro e w' ⟨rfl, hw⟩; subst w')
      go_ret
      exact ⟨ret_bool (by simp [optOk9, *]), by go_grown⟩
  · skip
    go_enter Tryz.func107, Tryz.ntmps107
    go_wp2_with (go_at_call 37; refine (iInB9 _ _ _ _).mono ?_; rintro e w' ⟨rfl, hw⟩; subst w')
    go_ret
    exact ⟨ret_bool (by simp [optOk9, *]), by go_grown⟩
theorem optOk_form9 (s : Seg) (n : Nat) : formOk9 s n = (optOk9 s && !((s.syn || s.rst) && decide (0 < n))) := by
  unfold formOk9 optOk9
  by_cases h : s.opt = 0
  · rw [if_pos h, h]
    simp only [inB9, bne]
    cases (s.a == 0) <;> cases (s.b == 0) <;> cases s.syn <;> cases s.rst <;> cases decide (0 < n) <;> rfl
  · rw [if_neg h]
    have : (s.opt == 0) = false := by simp [h]
    rw [this]; simp [Bool.and_comm]
theorem fault_of9 (s : Seg) (n : Nat) : segFault s n = if rangeOk9 s = false then 3 else if optOk9 s = false then 1 else if ((s.syn || s.rst) && decide (0 < n)) = true then 1 else if 8 < n then 2 else 0 := by
  unfold segFault
  rw [optOk_form9]
  cases rangeOk9 s <;> cases optOk9 s <;> cases ((s.syn || s.rst) && decide (0 < n)) <;> rfl
set_option maxHeartbeats 1000000 in
theorem iSegmentFault (s : Seg) (a : Option Addr) (n cap : Nat) (w : World) :
    Calls Tryz.prog 79 #[.agg #[.int .i64 s.path, .int .i64 s.frm, .bool s.syn, .bool s.ackd, .bool s.rst, .int .i64 s.seq, .int .i64 s.ack, .int .i64 s.fin, .int .i64 s.opt, .int .i64 s.a, .int .i64 s.b, .slice a n cap]] w fun e w' => e = .returned (.int .i64 (segFault s n)) ∧ Below w.heap.size w w' := by
  have HF : Hid _ := fault_of9 s n
  cases h0 : rangeOk9 s
  case false =>
    have HV : Hid (segFault s n = 3) := by rw [HF.out, if_pos h0]; trivial
    go_enter Tryz.func79, Tryz.ntmps79
    go_wp2_with fail
    refine (iNumbers9 s a n cap _).mono ?_
    rintro e w1 ⟨rfl, hb1⟩
    have hz := hb1.size
    simp at hz
    obtain ⟨hc, hf⟩ := bcell hb1
    have z1 : w.heap.size < w1.heap.size := by omega
    have HB : Hid _ := hb1
    clear hb1 hz
    go_wp2_with fail
    go_ret
    exact ⟨ret_int HV.out.symm, Below.trans (by go_grown) (HB.out.mono (by simp))⟩
  have hF := HF.out
  rw [h0, if_neg (by decide)] at hF
  cases h1 : optOk9 s
  case false =>
    have HV : Hid (segFault s n = 1) := by rw [hF, if_pos h1]; trivial
    clear hF
    go_enter Tryz.func79, Tryz.ntmps79
    go_wp2_with fail
    refine (iNumbers9 s a n cap _).mono ?_
    rintro e w1 ⟨rfl, hb1⟩
    have hz := hb1.size
    simp at hz
    obtain ⟨hc, hf⟩ := bcell hb1
    have z1 : w.heap.size < w1.heap.size := by omega
    have HB : Hid _ := hb1
    clear hb1 hz
    go_wp2_with fail
    refine (iOption9 s a n cap _).mono ?_
    rintro e w2 ⟨rfl, hb2⟩
    have hz2 := hb2.size
    obtain ⟨hc2, hf2⟩ := bcell hb2
    have z2 : w.heap.size < w2.heap.size := by omega
    have HB2 : Hid _ := hb2
    clear hb2 hz2
    go_wp2_with fail
    go_ret
    refine ⟨ret_int HV.out.symm, ?_⟩
    exact Below.trans (by go_grown) ((HB.out.trans (HB2.out.mono (by simp at *; omega))).mono (by simp))
  rw [h1, if_neg (by decide)] at hF
  have HF2 : Hid _ := hF
  clear hF HF
  go_enter Tryz.func79, Tryz.ntmps79
  go_wp2_with fail
  refine (iNumbers9 s a n cap _).mono ?_
  rintro e w1 ⟨rfl, hb1⟩
  have hz := hb1.size
  simp at hz
  obtain ⟨hc, hf⟩ := bcell hb1
  have z1 : w.heap.size < w1.heap.size := by omega
  have HB : Hid _ := hb1
  clear hb1 hz
  go_wp2_with fail
  refine (iOption9 s a n cap _).mono ?_
  rintro e w2 ⟨rfl, hb2⟩
  have hz2 := hb2.size
  obtain ⟨hc2, hf2⟩ := bcell hb2
  have z2 : w.heap.size < w2.heap.size := by omega
  have HB2 : Hid _ := hb2
  clear hb2 hz2
  rcases Bool.eq_false_or_eq_true s.syn with h2 | h2
  · by_cases hn : 0 < n
    · have HV : Hid (segFault s n = 1) := by rw [HF2.out, h2, if_pos (by simpa using hn)]; trivial
      go_wp2_with fail
      go_ret
      refine ⟨ret_int HV.out.symm, ?_⟩
      exact Below.trans (by go_grown) ((HB.out.trans (HB2.out.mono (by simp at *; omega))).mono (by simp))
    · have HV : Hid (segFault s n = 0) := by rw [HF2.out, h2, if_neg (by simpa using hn), if_neg (by omega)]; trivial
      go_wp2_with fail
      go_ret
      refine ⟨ret_int HV.out.symm, ?_⟩
      exact Below.trans (by go_grown) ((HB.out.trans (HB2.out.mono (by simp at *; omega))).mono (by simp))
  · rcases Bool.eq_false_or_eq_true s.rst with h3 | h3
    · by_cases hn : 0 < n
      · have HV : Hid (segFault s n = 1) := by rw [HF2.out, h3, if_pos (by simpa using hn)]; trivial
        go_wp2_with fail
        go_ret
        refine ⟨ret_int HV.out.symm, ?_⟩
        exact Below.trans (by go_grown) ((HB.out.trans (HB2.out.mono (by simp at *; omega))).mono (by simp))
      · have HV : Hid (segFault s n = 0) := by rw [HF2.out, h3, if_neg (by simpa using hn), if_neg (by omega)]; trivial
        go_wp2_with fail
        go_ret
        refine ⟨ret_int HV.out.symm, ?_⟩
        exact Below.trans (by go_grown) ((HB.out.trans (HB2.out.mono (by simp at *; omega))).mono (by simp))
    · by_cases hn : 8 < n
      · have HV : Hid (segFault s n = 2) := by rw [HF2.out, h2, h3, if_neg (by simp), if_pos hn]; trivial
        go_wp2_with fail
        go_ret
        refine ⟨ret_int HV.out.symm, ?_⟩
        exact Below.trans (by go_grown) ((HB.out.trans (HB2.out.mono (by simp at *; omega))).mono (by simp))
      · have HV : Hid (segFault s n = 0) := by rw [HF2.out, h2, h3, if_neg (by simp), if_neg hn]; trivial
        go_wp2_with fail
        go_ret
        refine ⟨ret_int HV.out.symm, ?_⟩
        exact Below.trans (by go_grown) ((HB.out.trans (HB2.out.mono (by simp at *; omega))).mono (by simp))
end Go.Proofs.YtfpemobkkfobkaaGreatDoor
