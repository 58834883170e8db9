/- Segments: what a segment that came in holds, and what the law's own helpers (copy, compare, mark, measure) make of one; no condition but that its load has at most a million bytes. -/
import Derived.Test.YtebgibjokljlbaaRows
import Derived.Lib.SmallJoins
import Derived.ChangeArms
import Derived.Test.YtebgibjokljlbaaK01
namespace Go.Proofs.Ytebgibjokljlbaa
open Go.RowKit Go.ChangeShapes Go.WideShapes Go.ChangeAt
set_option linter.unusedVariables false

/-- A segment as data. -/
structure Seg where
  path : Int
  frm : Int
  syn : Bool
  ackd : Bool
  rst : Bool
  seq : Int
  ack : Int
  fin : Int
  opt : Int
  a : Int
  b : Int
  load : List Int

/-- Every number of the segment is one of 64 bits. -/
structure Seg.Wf (s : Seg) : Prop where
  path : (Lit.int .i64 s.path).wf = true
  frm : (Lit.int .i64 s.frm).wf = true
  seq : (Lit.int .i64 s.seq).wf = true
  ack : (Lit.int .i64 s.ack).wf = true
  fin : (Lit.int .i64 s.fin).wf = true
  opt : (Lit.int .i64 s.opt).wf = true
  a : (Lit.int .i64 s.a).wf = true
  b : (Lit.int .i64 s.b).wf = true

section
variable {H : Type} {enc : TypeId × Value → H} {w : World} {P : Program}

/-- A field of a struct that reads, reads. -/
theorem trod_fieldAt {fuel : Nat} {t : TypeId} {cs : List Value} {x : DataW H × List MemPlace} {fs : Array Field} (ht : P.underlying t = some (.struct fs))
    (h : DataW.trod enc P w 0 (fun _ => true) true fuel t cs = some x) (i : Nat) (f : Field) (hf : fs[i]? = some f) :
    ∃ n y, DataW.trod enc P w 0 (fun _ => true) true n f.type ((cs.drop f.offset).take (P.cellsOf f.type)) = some y := by
  obtain ⟨xs, n, _, _, _, hlen, hx⟩ := DataW.trod_struct ht h
  have := hx i f hf
  have hi : i < fs.size := by
    apply Classical.byContradiction; intro hn
    rw [Array.getElem?_eq_none (by omega)] at hf; cases hf
  rw [List.getElem?_eq_getElem (by omega)] at this
  exact ⟨n, _, this⟩

theorem rd_int {fuel : Nat} {t : TypeId} {cs : List Value} {k : IntKind} (ht : P.underlying t = some (.int k)) (h : ∃ n y, DataW.trod enc P w 0 (fun _ => true) true n t cs = some y) : ∃ n, cs = [.int k n] ∧ (Lit.int k n).wf = true := by
  obtain ⟨_, _, h⟩ := h
  obtain ⟨n, h1, _, h2⟩ := DataW.trod_int ht h
  exact ⟨n, h1, h2⟩
theorem rd_bool {fuel : Nat} {t : TypeId} {cs : List Value} (ht : P.underlying t = some .bool) (h : ∃ n y, DataW.trod enc P w 0 (fun _ => true) true n t cs = some y) : ∃ b, cs = [.bool b] := by
  obtain ⟨_, _, h⟩ := h
  obtain ⟨b, h1, _⟩ := DataW.trod_bool ht h
  exact ⟨b, h1⟩
theorem rd_ints {t e : TypeId} {cs : List Value} {k : IntKind} (ht : P.underlying t = some (.slice e)) (he : P.underlying e = some (.int k)) (hc : P.cellsOf e = 1) (h : ∃ n y, DataW.trod enc P w 0 (fun _ => true) true n t cs = some y) :
    ∃ a len cap zs, cs = [.slice a len cap] ∧ BRow k w a len cap zs := by
  obtain ⟨_, _, hf⟩ := h
  rcases open_ints ht he hc hf with ⟨hcs, _⟩ | ⟨x, l, c, zs, hcs, _, hl, hm, hz, _, hcell, hwz⟩
  · exact ⟨none, 0, 0, [], hcs, .inl ⟨rfl, rfl, rfl, rfl⟩⟩
  · exact ⟨some x, l, c, zs, hcs, .inr ⟨_, rfl, hl, hm, by simpa using hz, hcell, hwz⟩⟩
end

theorem list12 {α : Type} {l : List α} (h : l.length = 12) : ∃ c0 c1 c2 c3 c4 c5 c6 c7 c8 c9 c10 c11, l = [c0, c1, c2, c3, c4, c5, c6, c7, c8, c9, c10, c11] := by
  match l, h with
  | [c0, c1, c2, c3, c4, c5, c6, c7, c8, c9, c10, c11], _ => exact ⟨c0, c1, c2, c3, c4, c5, c6, c7, c8, c9, c10, c11, rfl⟩

theorem cellsI64 : Try.prog.cellsOf 2 = 1 := by kernel_rfl
theorem cellsBool : Try.prog.cellsOf 4 = 1 := by kernel_rfl
theorem cellsU8 : Try.prog.cellsOf 5 = 1 := by kernel_rfl
theorem cellsBytes : Try.prog.cellsOf 22 = 1 := by kernel_rfl




end Go.Proofs.Ytebgibjokljlbaa

/- What the model of chapter 2 answers: the fault of a segment; nothing that was in memory turns; no condition. -/
namespace Go.Proofs.Ytebgibjokljlbaa
open Go.RowKit
set_option linter.unusedVariables false

/-- v is lo to hi. -/
def inB9 (v lo hi : Int) : Bool := decide (lo ≤ v) && decide (v ≤ hi)
theorem inB_iff9 (v lo hi : Int) : inB9 v lo hi = true ↔ lo ≤ v ∧ v ≤ hi := by simp [inB9]
def rangeOk9 (s : Seg) : Bool := inB9 s.path 0 2 && inB9 s.frm 0 1 && inB9 s.seq 0 65535 && inB9 s.ack 0 65535 && inB9 s.fin 0 1000 && inB9 s.a 0 1000000 && inB9 s.b 0 1000000
def formOk9 (s : Seg) (n : Nat) : Bool := inB9 s.opt 0 4 && !(s.opt == 0 && (s.a != 0 || s.b != 0)) && !(decide (0 < n) && (s.syn || s.rst))
/-- The fault of a segment with n bytes of load. -/
def segFault (s : Seg) (n : Nat) : Int := if rangeOk9 s = false then 3 else if formOk9 s n = false then 1 else if 8 < n then 2 else 0

theorem sInB9 (v low high : Int) (w : World) :
    Calls Try.prog 97 #[.int .i64 v, .int .i64 low, .int .i64 high] w fun e w' => e = .returned (.bool (inB9 v low high)) ∧ w' = w := by
  by_cases h : low ≤ v
  · go_enter Try.func97, Try.ntmps97
    go_wp2
    go_ret
    exact ⟨ret_bool (by simp [inB9, h]), rfl⟩
  · have h' : decide (low ≤ v) = false := by simp; omega
    go_enter Try.func97, Try.ntmps97
    go_wp2
    go_ret
    exact ⟨ret_bool (by simp [inB9, h']), rfl⟩
theorem sNum9 (v : Int) (w : World) :
    Calls Try.prog 105 #[.int .i64 v] w fun e w' => e = .returned (.bool (inB9 v 0 65535)) ∧ w' = w := by
  go_enter Try.func105, Try.ntmps105
  go_wp2_with (go_at_call 97; refine (sInB9 _ _ _ _).mono ?_; rintro e w' ⟨rfl, hw⟩; subst w')
  go_ret
  exact ⟨rfl, rfl⟩

set_option maxHeartbeats 4000000 in
theorem sSegmentFault (s : Seg) (a : Option Addr) (n cap : Nat) (w : World) :
    Calls Try.prog 65 #[.agg #[.int .i64 s.path, .int .i64 s.frm, .bool s.syn, .bool s.ackd, .bool s.rst, .int .i64 s.seq, .int .i64 s.ack, .int .i64 s.fin, .int .i64 s.opt, .int .i64 s.a, .int .i64 s.b, .slice a n cap]] w fun e w' => e = .returned (.int .i64 (segFault s n)) ∧ Below w.heap.size w w' := by
  cases h0 : inB9 s.path 0 2
  · skip
    have hf : segFault s n = 3 := by simp [segFault, rangeOk9, *]
    rw [hf]; clear hf
    go_enter Try.func65, Try.ntmps65
    go_wp2_with (first | (go_at_call 97; refine (sInB9 _ _ _ _).mono ?_; rintro e w' ⟨rfl, hw⟩; subst w') | (go_at_call 105; refine (sNum9 _ _).mono ?_; rintro e w' ⟨rfl, hw⟩; subst w'))
    go_ret
    exact ⟨rfl, by go_grown⟩
  · skip
    cases h1 : inB9 s.frm 0 1
    · skip
      have hf : segFault s n = 3 := by simp [segFault, rangeOk9, *]
      rw [hf]; clear hf
      go_enter Try.func65, Try.ntmps65
      go_wp2_with (first | (go_at_call 97; refine (sInB9 _ _ _ _).mono ?_; rintro e w' ⟨rfl, hw⟩; subst w') | (go_at_call 105; refine (sNum9 _ _).mono ?_; rintro e w' ⟨rfl, hw⟩; subst w'))
      go_ret
      exact ⟨rfl, by go_grown⟩
    · skip
      cases h2 : inB9 s.seq 0 65535
      · skip
        have hf : segFault s n = 3 := by simp [segFault, rangeOk9, *]
        rw [hf]; clear hf
        go_enter Try.func65, Try.ntmps65
        go_wp2_with (first | (go_at_call 97; refine (sInB9 _ _ _ _).mono ?_; rintro e w' ⟨rfl, hw⟩; subst w') | (go_at_call 105; refine (sNum9 _ _).mono ?_; rintro e w' ⟨rfl, hw⟩; subst w'))
        go_ret
        exact ⟨rfl, by go_grown⟩
      · skip
        cases h3 : inB9 s.ack 0 65535
        · skip
          have hf : segFault s n = 3 := by simp [segFault, rangeOk9, *]
          rw [hf]; clear hf
          go_enter Try.func65, Try.ntmps65
          go_wp2_with (first | (go_at_call 97; refine (sInB9 _ _ _ _).mono ?_; rintro e w' ⟨rfl, hw⟩; subst w') | (go_at_call 105; refine (sNum9 _ _).mono ?_; rintro e w' ⟨rfl, hw⟩; subst w'))
          go_ret
          exact ⟨rfl, by go_grown⟩
        · skip
          cases h4 : inB9 s.fin 0 1000
          · skip
            have hf : segFault s n = 3 := by simp [segFault, rangeOk9, *]
            rw [hf]; clear hf
            go_enter Try.func65, Try.ntmps65
            go_wp2_with (first | (go_at_call 97; refine (sInB9 _ _ _ _).mono ?_; rintro e w' ⟨rfl, hw⟩; subst w') | (go_at_call 105; refine (sNum9 _ _).mono ?_; rintro e w' ⟨rfl, hw⟩; subst w'))
            go_ret
            exact ⟨rfl, by go_grown⟩
          · skip
            cases h5 : inB9 s.a 0 1000000
            · skip
              have hf : segFault s n = 3 := by simp [segFault, rangeOk9, *]
              rw [hf]; clear hf
              go_enter Try.func65, Try.ntmps65
              go_wp2_with (first | (go_at_call 97; refine (sInB9 _ _ _ _).mono ?_; rintro e w' ⟨rfl, hw⟩; subst w') | (go_at_call 105; refine (sNum9 _ _).mono ?_; rintro e w' ⟨rfl, hw⟩; subst w'))
              go_ret
              exact ⟨rfl, by go_grown⟩
            · skip
              cases h6 : inB9 s.b 0 1000000
              · skip
                have hf : segFault s n = 3 := by simp [segFault, rangeOk9, *]
                rw [hf]; clear hf
                go_enter Try.func65, Try.ntmps65
                go_wp2_with (first | (go_at_call 97; refine (sInB9 _ _ _ _).mono ?_; rintro e w' ⟨rfl, hw⟩; subst w') | (go_at_call 105; refine (sNum9 _ _).mono ?_; rintro e w' ⟨rfl, hw⟩; subst w'))
                go_ret
                exact ⟨rfl, by go_grown⟩
              · skip
                cases g0 : inB9 s.opt 0 4
                · skip
                  have hf : segFault s n = 1 := by simp [segFault, rangeOk9, formOk9, *]
                  rw [hf]; clear hf
                  go_enter Try.func65, Try.ntmps65
                  go_wp2_with (first | (go_at_call 97; refine (sInB9 _ _ _ _).mono ?_; rintro e w' ⟨rfl, hw⟩; subst w') | (go_at_call 105; refine (sNum9 _ _).mono ?_; rintro e w' ⟨rfl, hw⟩; subst w'))
                  go_ret
                  exact ⟨rfl, by go_grown⟩
                · skip
                  cases g1 : (s.opt == 0)
                  · skip
                    by_cases g4 : n = 0
                    · subst g4
                      have hf : segFault s 0 = 0 := by simp [segFault, rangeOk9, formOk9, *]
                      rw [hf]; clear hf
                      go_enter Try.func65, Try.ntmps65
                      go_wp2_with (first | (go_at_call 97; refine (sInB9 _ _ _ _).mono ?_; rintro e w' ⟨rfl, hw⟩; subst w') | (go_at_call 105; refine (sNum9 _ _).mono ?_; rintro e w' ⟨rfl, hw⟩; subst w'))
                      go_ret
                      exact ⟨rfl, by go_grown⟩
                    · have g4n : 0 < n := by omega
                      have g4i : (0 : Int) < (n : Int) := by omega
                      cases g5 : s.syn
                      · cases g6 : s.rst
                        · by_cases g8 : 8 < n
                          · have g8i : (8 : Int) < (n : Int) := by omega
                            have hf : segFault s n = 2 := by simp [segFault, rangeOk9, formOk9, *]
                            rw [hf]; clear hf
                            go_enter Try.func65, Try.ntmps65
                            go_wp2_with (first | (go_at_call 97; refine (sInB9 _ _ _ _).mono ?_; rintro e w' ⟨rfl, hw⟩; subst w') | (go_at_call 105; refine (sNum9 _ _).mono ?_; rintro e w' ⟨rfl, hw⟩; subst w'))
                            go_ret
                            exact ⟨rfl, by go_grown⟩
                          · have g8i : ¬ (8 : Int) < (n : Int) := by omega
                            have hf : segFault s n = 0 := by simp [segFault, rangeOk9, formOk9, *]
                            rw [hf]; clear hf
                            go_enter Try.func65, Try.ntmps65
                            go_wp2_with (first | (go_at_call 97; refine (sInB9 _ _ _ _).mono ?_; rintro e w' ⟨rfl, hw⟩; subst w') | (go_at_call 105; refine (sNum9 _ _).mono ?_; rintro e w' ⟨rfl, hw⟩; subst w'))
                            go_ret
                            exact ⟨rfl, by go_grown⟩
                        · skip
                          have hf : segFault s n = 1 := by simp [segFault, rangeOk9, formOk9, *]
                          rw [hf]; clear hf
                          go_enter Try.func65, Try.ntmps65
                          go_wp2_with (first | (go_at_call 97; refine (sInB9 _ _ _ _).mono ?_; rintro e w' ⟨rfl, hw⟩; subst w') | (go_at_call 105; refine (sNum9 _ _).mono ?_; rintro e w' ⟨rfl, hw⟩; subst w'))
                          go_ret
                          exact ⟨rfl, by go_grown⟩
                      · skip
                        have hf : segFault s n = 1 := by simp [segFault, rangeOk9, formOk9, *]
                        rw [hf]; clear hf
                        go_enter Try.func65, Try.ntmps65
                        go_wp2_with (first | (go_at_call 97; refine (sInB9 _ _ _ _).mono ?_; rintro e w' ⟨rfl, hw⟩; subst w') | (go_at_call 105; refine (sNum9 _ _).mono ?_; rintro e w' ⟨rfl, hw⟩; subst w'))
                        go_ret
                        exact ⟨rfl, by go_grown⟩
                  · cases g2 : (s.a != 0)
                    · cases g3 : (s.b != 0)
                      · skip
                        by_cases g4 : n = 0
                        · subst g4
                          have hf : segFault s 0 = 0 := by simp [segFault, rangeOk9, formOk9, *]
                          rw [hf]; clear hf
                          go_enter Try.func65, Try.ntmps65
                          go_wp2_with (first | (go_at_call 97; refine (sInB9 _ _ _ _).mono ?_; rintro e w' ⟨rfl, hw⟩; subst w') | (go_at_call 105; refine (sNum9 _ _).mono ?_; rintro e w' ⟨rfl, hw⟩; subst w'))
                          go_ret
                          exact ⟨rfl, by go_grown⟩
                        · have g4n : 0 < n := by omega
                          have g4i : (0 : Int) < (n : Int) := by omega
                          cases g5 : s.syn
                          · cases g6 : s.rst
                            · by_cases g8 : 8 < n
                              · have g8i : (8 : Int) < (n : Int) := by omega
                                have hf : segFault s n = 2 := by simp [segFault, rangeOk9, formOk9, *]
                                rw [hf]; clear hf
                                go_enter Try.func65, Try.ntmps65
                                go_wp2_with (first | (go_at_call 97; refine (sInB9 _ _ _ _).mono ?_; rintro e w' ⟨rfl, hw⟩; subst w') | (go_at_call 105; refine (sNum9 _ _).mono ?_; rintro e w' ⟨rfl, hw⟩; subst w'))
                                go_ret
                                exact ⟨rfl, by go_grown⟩
                              · have g8i : ¬ (8 : Int) < (n : Int) := by omega
                                have hf : segFault s n = 0 := by simp [segFault, rangeOk9, formOk9, *]
                                rw [hf]; clear hf
                                go_enter Try.func65, Try.ntmps65
                                go_wp2_with (first | (go_at_call 97; refine (sInB9 _ _ _ _).mono ?_; rintro e w' ⟨rfl, hw⟩; subst w') | (go_at_call 105; refine (sNum9 _ _).mono ?_; rintro e w' ⟨rfl, hw⟩; subst w'))
                                go_ret
                                exact ⟨rfl, by go_grown⟩
                            · skip
                              have hf : segFault s n = 1 := by simp [segFault, rangeOk9, formOk9, *]
                              rw [hf]; clear hf
                              go_enter Try.func65, Try.ntmps65
                              go_wp2_with (first | (go_at_call 97; refine (sInB9 _ _ _ _).mono ?_; rintro e w' ⟨rfl, hw⟩; subst w') | (go_at_call 105; refine (sNum9 _ _).mono ?_; rintro e w' ⟨rfl, hw⟩; subst w'))
                              go_ret
                              exact ⟨rfl, by go_grown⟩
                          · skip
                            have hf : segFault s n = 1 := by simp [segFault, rangeOk9, formOk9, *]
                            rw [hf]; clear hf
                            go_enter Try.func65, Try.ntmps65
                            go_wp2_with (first | (go_at_call 97; refine (sInB9 _ _ _ _).mono ?_; rintro e w' ⟨rfl, hw⟩; subst w') | (go_at_call 105; refine (sNum9 _ _).mono ?_; rintro e w' ⟨rfl, hw⟩; subst w'))
                            go_ret
                            exact ⟨rfl, by go_grown⟩
                      · skip
                        have hf : segFault s n = 1 := by simp [segFault, rangeOk9, formOk9, *]
                        rw [hf]; clear hf
                        go_enter Try.func65, Try.ntmps65
                        go_wp2_with (first | (go_at_call 97; refine (sInB9 _ _ _ _).mono ?_; rintro e w' ⟨rfl, hw⟩; subst w') | (go_at_call 105; refine (sNum9 _ _).mono ?_; rintro e w' ⟨rfl, hw⟩; subst w'))
                        go_ret
                        exact ⟨rfl, by go_grown⟩
                    · skip
                      have hf : segFault s n = 1 := by simp [segFault, rangeOk9, formOk9, *]
                      rw [hf]; clear hf
                      go_enter Try.func65, Try.ntmps65
                      go_wp2_with (first | (go_at_call 97; refine (sInB9 _ _ _ _).mono ?_; rintro e w' ⟨rfl, hw⟩; subst w') | (go_at_call 105; refine (sNum9 _ _).mono ?_; rintro e w' ⟨rfl, hw⟩; subst w'))
                      go_ret
                      exact ⟨rfl, by go_grown⟩
end Go.Proofs.Ytebgibjokljlbaa

/- What the program's own functions of chapter 2 answer: the fault of a segment, the sum of bytes; nothing that was in memory turns; no condition but on lengths. -/
namespace Go.Proofs.Ytebgibjokljlbaa
open Go.RowKit
set_option linter.unusedVariables false

theorem iInB9 (v low high : Int) (w : World) :
    Calls Try.prog 68 #[.int .i64 v, .int .i64 low, .int .i64 high] w fun e w' => e = .returned (.bool (inB9 v low high)) ∧ w' = w := by
  by_cases h : low ≤ v
  · go_enter Try.func68, Try.ntmps68
    go_wp2
    go_ret
    exact ⟨ret_bool (by simp [inB9, h]), rfl⟩
  · have h' : decide (low ≤ v) = false := by simp; omega
    go_enter Try.func68, Try.ntmps68
    go_wp2
    go_ret
    exact ⟨ret_bool (by simp [inB9, h']), rfl⟩
set_option maxHeartbeats 4000000 in
theorem iNumbers9 (s : Seg) (a : Option Addr) (n cap : Nat) (w : World) :
    Calls Try.prog 100 #[.agg #[.int .i64 s.path, .int .i64 s.frm, .bool s.syn, .bool s.ackd, .bool s.rst, .int .i64 s.seq, .int .i64 s.ack, .int .i64 s.fin, .int .i64 s.opt, .int .i64 s.a, .int .i64 s.b, .slice a n cap]] w fun e w' => e = .returned (.bool (rangeOk9 s)) ∧ Below w.heap.size w w' := by
  cases h0 : inB9 s.path 0 2
  case false =>
    go_enter Try.func100, Try.ntmps100
    go_wp2_with (go_at_call 68; refine (iInB9 _ _ _ _).mono ?_; rintro e w' ⟨rfl, hw⟩; subst w')
    go_ret
    exact ⟨ret_bool (by simp [rangeOk9, *]), by go_grown⟩
  cases h1 : inB9 s.frm 0 1
  case false =>
    go_enter Try.func100, Try.ntmps100
    go_wp2_with (go_at_call 68; refine (iInB9 _ _ _ _).mono ?_; rintro e w' ⟨rfl, hw⟩; subst w')
    go_ret
    exact ⟨ret_bool (by simp [rangeOk9, *]), by go_grown⟩
  cases h2 : inB9 s.seq 0 65535
  case false =>
    go_enter Try.func100, Try.ntmps100
    go_wp2_with (go_at_call 68; refine (iInB9 _ _ _ _).mono ?_; rintro e w' ⟨rfl, hw⟩; subst w')
    go_ret
    exact ⟨ret_bool (by simp [rangeOk9, *]), by go_grown⟩
  cases h3 : inB9 s.ack 0 65535
  case false =>
    go_enter Try.func100, Try.ntmps100
    go_wp2_with (go_at_call 68; refine (iInB9 _ _ _ _).mono ?_; rintro e w' ⟨rfl, hw⟩; subst w')
    go_ret
    exact ⟨ret_bool (by simp [rangeOk9, *]), by go_grown⟩
  cases h4 : inB9 s.fin 0 1000
  case false =>
    go_enter Try.func100, Try.ntmps100
    go_wp2_with (go_at_call 68; refine (iInB9 _ _ _ _).mono ?_; rintro e w' ⟨rfl, hw⟩; subst w')
    go_ret
    exact ⟨ret_bool (by simp [rangeOk9, *]), by go_grown⟩
  cases h5 : inB9 s.a 0 1000000
  case false =>
    go_enter Try.func100, Try.ntmps100
    go_wp2_with (go_at_call 68; refine (iInB9 _ _ _ _).mono ?_; rintro e w' ⟨rfl, hw⟩; subst w')
    go_ret
    exact ⟨ret_bool (by simp [rangeOk9, *]), by go_grown⟩
  go_enter Try.func100, Try.ntmps100
  go_wp2_with (go_at_call 68; refine (iInB9 _ _ _ _).mono ?_; rintro e w' ⟨rfl, hw⟩; subst w')
  go_ret
  exact ⟨ret_bool (by simp [rangeOk9, *]), by go_grown⟩
def optOk9 (s : Seg) : Bool := if s.opt = 0 then (s.a == 0 && s.b == 0) else inB9 s.opt 0 4
set_option maxHeartbeats 1000000 in
theorem iOption9 (s : Seg) (a : Option Addr) (n cap : Nat) (w : World) :
    Calls Try.prog 101 #[.agg #[.int .i64 s.path, .int .i64 s.frm, .bool s.syn, .bool s.ackd, .bool s.rst, .int .i64 s.seq, .int .i64 s.ack, .int .i64 s.fin, .int .i64 s.opt, .int .i64 s.a, .int .i64 s.b, .slice a n cap]] w fun e w' => e = .returned (.bool (optOk9 s)) ∧ Below w.heap.size w w' := by
  by_cases h0 : s.opt = 0
  · by_cases h1 : s.a = 0
    · skip
      go_enter Try.func101, Try.ntmps101
      go_wp2_with (go_at_call 68; refine (iInB9 _ _ _ _).mono ?_; rintro e w' ⟨rfl, hw⟩; subst w')
      go_ret
      exact ⟨ret_bool (by simp [optOk9, *]), by go_grown⟩
    · skip
      go_enter Try.func101, Try.ntmps101
      go_wp2_with (go_at_call 68; refine (iInB9 _ _ _ _).mono ?_; rintro e w' ⟨rfl, hw⟩; subst w')
      go_ret
      exact ⟨ret_bool (by simp [optOk9, *]), by go_grown⟩
  · skip
    go_enter Try.func101, Try.ntmps101
    go_wp2_with (go_at_call 68; refine (iInB9 _ _ _ _).mono ?_; rintro e w' ⟨rfl, hw⟩; subst w')
    go_ret
    exact ⟨ret_bool (by simp [optOk9, *]), by go_grown⟩
theorem optOk_form9 (s : Seg) (n : Nat) : formOk9 s n = (optOk9 s && !((s.syn || s.rst) && decide (0 < n))) := by
  unfold formOk9 optOk9
  by_cases h : s.opt = 0
  · rw [if_pos h, h]
    simp only [inB9, bne]
    cases (s.a == 0) <;> cases (s.b == 0) <;> cases s.syn <;> cases s.rst <;> cases decide (0 < n) <;> rfl
  · rw [if_neg h]
    have : (s.opt == 0) = false := by simp [h]
    rw [this]; simp [Bool.and_comm]
theorem fault_of9 (s : Seg) (n : Nat) : segFault s n = if rangeOk9 s = false then 3 else if optOk9 s = false then 1 else if ((s.syn || s.rst) && decide (0 < n)) = true then 1 else if 8 < n then 2 else 0 := by
  unfold segFault
  rw [optOk_form9]
  cases rangeOk9 s <;> cases optOk9 s <;> cases ((s.syn || s.rst) && decide (0 < n)) <;> rfl
set_option maxHeartbeats 1000000 in
theorem iSegmentFault (s : Seg) (a : Option Addr) (n cap : Nat) (w : World) :
    Calls Try.prog 60 #[.agg #[.int .i64 s.path, .int .i64 s.frm, .bool s.syn, .bool s.ackd, .bool s.rst, .int .i64 s.seq, .int .i64 s.ack, .int .i64 s.fin, .int .i64 s.opt, .int .i64 s.a, .int .i64 s.b, .slice a n cap]] w fun e w' => e = .returned (.int .i64 (segFault s n)) ∧ Below w.heap.size w w' := by
  have HF : Hid _ := fault_of9 s n
  cases h0 : rangeOk9 s
  case false =>
    have HV : Hid (segFault s n = 3) := by rw [HF.out, if_pos h0]; trivial
    go_enter Try.func60, Try.ntmps60
    go_wp2_with fail
    refine (iNumbers9 s a n cap _).mono ?_
    rintro e w1 ⟨rfl, hb1⟩
    have hz := hb1.size
    simp at hz
    obtain ⟨hc, hf⟩ := bcell hb1
    have z1 : w.heap.size < w1.heap.size := by omega
    have HB : Hid _ := hb1
    clear hb1 hz
    go_wp2_with fail
    go_ret
    exact ⟨ret_int HV.out.symm, Below.trans (by go_grown) (HB.out.mono (by simp))⟩
  have hF := HF.out
  rw [h0, if_neg (by decide)] at hF
  cases h1 : optOk9 s
  case false =>
    have HV : Hid (segFault s n = 1) := by rw [hF, if_pos h1]; trivial
    clear hF
    go_enter Try.func60, Try.ntmps60
    go_wp2_with fail
    refine (iNumbers9 s a n cap _).mono ?_
    rintro e w1 ⟨rfl, hb1⟩
    have hz := hb1.size
    simp at hz
    obtain ⟨hc, hf⟩ := bcell hb1
    have z1 : w.heap.size < w1.heap.size := by omega
    have HB : Hid _ := hb1
    clear hb1 hz
    go_wp2_with fail
    refine (iOption9 s a n cap _).mono ?_
    rintro e w2 ⟨rfl, hb2⟩
    have hz2 := hb2.size
    obtain ⟨hc2, hf2⟩ := bcell hb2
    have z2 : w.heap.size < w2.heap.size := by omega
    have HB2 : Hid _ := hb2
    clear hb2 hz2
    go_wp2_with fail
    go_ret
    refine ⟨ret_int HV.out.symm, ?_⟩
    exact Below.trans (by go_grown) ((HB.out.trans (HB2.out.mono (by simp at *; omega))).mono (by simp))
  rw [h1, if_neg (by decide)] at hF
  have HF2 : Hid _ := hF
  clear hF HF
  go_enter Try.func60, Try.ntmps60
  go_wp2_with fail
  refine (iNumbers9 s a n cap _).mono ?_
  rintro e w1 ⟨rfl, hb1⟩
  have hz := hb1.size
  simp at hz
  obtain ⟨hc, hf⟩ := bcell hb1
  have z1 : w.heap.size < w1.heap.size := by omega
  have HB : Hid _ := hb1
  clear hb1 hz
  go_wp2_with fail
  refine (iOption9 s a n cap _).mono ?_
  rintro e w2 ⟨rfl, hb2⟩
  have hz2 := hb2.size
  obtain ⟨hc2, hf2⟩ := bcell hb2
  have z2 : w.heap.size < w2.heap.size := by omega
  have HB2 : Hid _ := hb2
  clear hb2 hz2
  rcases Bool.eq_false_or_eq_true s.syn with h2 | h2
  · by_cases hn : 0 < n
    · have HV : Hid (segFault s n = 1) := by rw [HF2.out, h2, if_pos (by simpa using hn)]; trivial
      go_wp2_with fail
      go_ret
      refine ⟨ret_int HV.out.symm, ?_⟩
      exact Below.trans (by go_grown) ((HB.out.trans (HB2.out.mono (by simp at *; omega))).mono (by simp))
    · have HV : Hid (segFault s n = 0) := by rw [HF2.out, h2, if_neg (by simpa using hn), if_neg (by omega)]; trivial
      go_wp2_with fail
      go_ret
      refine ⟨ret_int HV.out.symm, ?_⟩
      exact Below.trans (by go_grown) ((HB.out.trans (HB2.out.mono (by simp at *; omega))).mono (by simp))
  · rcases Bool.eq_false_or_eq_true s.rst with h3 | h3
    · by_cases hn : 0 < n
      · have HV : Hid (segFault s n = 1) := by rw [HF2.out, h3, if_pos (by simpa using hn)]; trivial
        go_wp2_with fail
        go_ret
        refine ⟨ret_int HV.out.symm, ?_⟩
        exact Below.trans (by go_grown) ((HB.out.trans (HB2.out.mono (by simp at *; omega))).mono (by simp))
      · have HV : Hid (segFault s n = 0) := by rw [HF2.out, h3, if_neg (by simpa using hn), if_neg (by omega)]; trivial
        go_wp2_with fail
        go_ret
        refine ⟨ret_int HV.out.symm, ?_⟩
        exact Below.trans (by go_grown) ((HB.out.trans (HB2.out.mono (by simp at *; omega))).mono (by simp))
    · by_cases hn : 8 < n
      · have HV : Hid (segFault s n = 2) := by rw [HF2.out, h2, h3, if_neg (by simp), if_pos hn]; trivial
        go_wp2_with fail
        go_ret
        refine ⟨ret_int HV.out.symm, ?_⟩
        exact Below.trans (by go_grown) ((HB.out.trans (HB2.out.mono (by simp at *; omega))).mono (by simp))
      · have HV : Hid (segFault s n = 0) := by rw [HF2.out, h2, h3, if_neg (by simp), if_neg hn]; trivial
        go_wp2_with fail
        go_ret
        refine ⟨ret_int HV.out.symm, ?_⟩
        exact Below.trans (by go_grown) ((HB.out.trans (HB2.out.mono (by simp at *; omega))).mono (by simp))
end Go.Proofs.Ytebgibjokljlbaa
