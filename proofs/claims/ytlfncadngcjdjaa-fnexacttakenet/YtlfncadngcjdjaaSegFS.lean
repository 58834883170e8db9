/- What the model of chapter 2 answers: the fault of a segment; nothing that was in memory turns; no condition. -/
import Derived.Test.YtlfncadngcjdjaaRows
import Derived.Test.YtlfncadngcjdjaaBase
import Derived.Test.YtlfncadngcjdjaaBytes
import Derived.Test.YtlfncadngcjdjaaSeg
namespace Go.Proofs.Ytlfncadngcjdjaa
open Go.RowKit
set_option linter.unusedVariables false

/-- v is lo to hi. -/
def inB9 (v lo hi : Int) : Bool := decide (lo ≤ v) && decide (v ≤ hi)
theorem inB_iff9 (v lo hi : Int) : inB9 v lo hi = true ↔ lo ≤ v ∧ v ≤ hi := by simp [inB9]
def rangeOk9 (s : Seg) : Bool := inB9 s.path 0 2 && inB9 s.frm 0 1 && inB9 s.seq 0 65535 && inB9 s.ack 0 65535 && inB9 s.fin 0 1000 && inB9 s.a 0 1000000 && inB9 s.b 0 1000000
def formOk9 (s : Seg) (n : Nat) : Bool := inB9 s.opt 0 4 && !(s.opt == 0 && (s.a != 0 || s.b != 0)) && !(decide (0 < n) && (s.syn || s.rst))
/-- The fault of a segment with n bytes of load. -/
def segFault (s : Seg) (n : Nat) : Int := if rangeOk9 s = false then 3 else if formOk9 s n = false then 1 else if 8 < n then 2 else 0

theorem sInB9 (v low high : Int) (w : World) :
    Calls Try.prog 76 #[.int .i64 v, .int .i64 low, .int .i64 high] w fun e w' => e = .returned (.bool (inB9 v low high)) ∧ w' = w := by
  by_cases h : low ≤ v
  · go_enter Try.func76, Try.ntmps76
    go_wp2
    go_ret
    exact ⟨ret_bool (by simp [inB9, h]), rfl⟩
  · have h' : decide (low ≤ v) = false := by simp; omega
    go_enter Try.func76, Try.ntmps76
    go_wp2
    go_ret
    exact ⟨ret_bool (by simp [inB9, h']), rfl⟩
theorem sNum9 (v : Int) (w : World) :
    Calls Try.prog 77 #[.int .i64 v] w fun e w' => e = .returned (.bool (inB9 v 0 65535)) ∧ w' = w := by
  go_enter Try.func77, Try.ntmps77
  go_wp2_with (go_at_call 76; refine (sInB9 _ _ _ _).mono ?_; rintro e w' ⟨rfl, hw⟩; subst w')
  go_ret
  exact ⟨rfl, rfl⟩

set_option maxHeartbeats 4000000 in
theorem sSegmentFault (s : Seg) (a : Option Addr) (n cap : Nat) (w : World) :
    Calls Try.prog 48 #[.agg #[.int .i64 s.path, .int .i64 s.frm, .bool s.syn, .bool s.ackd, .bool s.rst, .int .i64 s.seq, .int .i64 s.ack, .int .i64 s.fin, .int .i64 s.opt, .int .i64 s.a, .int .i64 s.b, .slice a n cap]] w fun e w' => e = .returned (.int .i64 (segFault s n)) ∧ Below w.heap.size w w' := by
  cases h0 : inB9 s.path 0 2
  · skip
    have hf : segFault s n = 3 := by simp [segFault, rangeOk9, *]
    rw [hf]; clear hf
    go_enter Try.func48, Try.ntmps48
    go_wp2_with (first | (go_at_call 76; refine (sInB9 _ _ _ _).mono ?_; rintro e w' ⟨rfl, hw⟩; subst w') | (go_at_call 77; refine (sNum9 _ _).mono ?_; rintro e w' ⟨rfl, hw⟩; subst w'))
    go_ret
    exact ⟨rfl, by go_grown⟩
  · skip
    cases h1 : inB9 s.frm 0 1
    · skip
      have hf : segFault s n = 3 := by simp [segFault, rangeOk9, *]
      rw [hf]; clear hf
      go_enter Try.func48, Try.ntmps48
      go_wp2_with (first | (go_at_call 76; refine (sInB9 _ _ _ _).mono ?_; rintro e w' ⟨rfl, hw⟩; subst w') | (go_at_call 77; refine (sNum9 _ _).mono ?_; rintro e w' ⟨rfl, hw⟩; subst w'))
      go_ret
      exact ⟨rfl, by go_grown⟩
    · skip
      cases h2 : inB9 s.seq 0 65535
      · skip
        have hf : segFault s n = 3 := by simp [segFault, rangeOk9, *]
        rw [hf]; clear hf
        go_enter Try.func48, Try.ntmps48
        go_wp2_with (first | (go_at_call 76; refine (sInB9 _ _ _ _).mono ?_; rintro e w' ⟨rfl, hw⟩; subst w') | (go_at_call 77; refine (sNum9 _ _).mono ?_; rintro e w' ⟨rfl, hw⟩; subst w'))
        go_ret
        exact ⟨rfl, by go_grown⟩
      · skip
        cases h3 : inB9 s.ack 0 65535
        · skip
          have hf : segFault s n = 3 := by simp [segFault, rangeOk9, *]
          rw [hf]; clear hf
          go_enter Try.func48, Try.ntmps48
          go_wp2_with (first | (go_at_call 76; refine (sInB9 _ _ _ _).mono ?_; rintro e w' ⟨rfl, hw⟩; subst w') | (go_at_call 77; refine (sNum9 _ _).mono ?_; rintro e w' ⟨rfl, hw⟩; subst w'))
          go_ret
          exact ⟨rfl, by go_grown⟩
        · skip
          cases h4 : inB9 s.fin 0 1000
          · skip
            have hf : segFault s n = 3 := by simp [segFault, rangeOk9, *]
            rw [hf]; clear hf
            go_enter Try.func48, Try.ntmps48
            go_wp2_with (first | (go_at_call 76; refine (sInB9 _ _ _ _).mono ?_; rintro e w' ⟨rfl, hw⟩; subst w') | (go_at_call 77; refine (sNum9 _ _).mono ?_; rintro e w' ⟨rfl, hw⟩; subst w'))
            go_ret
            exact ⟨rfl, by go_grown⟩
          · skip
            cases h5 : inB9 s.a 0 1000000
            · skip
              have hf : segFault s n = 3 := by simp [segFault, rangeOk9, *]
              rw [hf]; clear hf
              go_enter Try.func48, Try.ntmps48
              go_wp2_with (first | (go_at_call 76; refine (sInB9 _ _ _ _).mono ?_; rintro e w' ⟨rfl, hw⟩; subst w') | (go_at_call 77; refine (sNum9 _ _).mono ?_; rintro e w' ⟨rfl, hw⟩; subst w'))
              go_ret
              exact ⟨rfl, by go_grown⟩
            · skip
              cases h6 : inB9 s.b 0 1000000
              · skip
                have hf : segFault s n = 3 := by simp [segFault, rangeOk9, *]
                rw [hf]; clear hf
                go_enter Try.func48, Try.ntmps48
                go_wp2_with (first | (go_at_call 76; refine (sInB9 _ _ _ _).mono ?_; rintro e w' ⟨rfl, hw⟩; subst w') | (go_at_call 77; refine (sNum9 _ _).mono ?_; rintro e w' ⟨rfl, hw⟩; subst w'))
                go_ret
                exact ⟨rfl, by go_grown⟩
              · skip
                cases g0 : inB9 s.opt 0 4
                · skip
                  have hf : segFault s n = 1 := by simp [segFault, rangeOk9, formOk9, *]
                  rw [hf]; clear hf
                  go_enter Try.func48, Try.ntmps48
                  go_wp2_with (first | (go_at_call 76; refine (sInB9 _ _ _ _).mono ?_; rintro e w' ⟨rfl, hw⟩; subst w') | (go_at_call 77; refine (sNum9 _ _).mono ?_; rintro e w' ⟨rfl, hw⟩; subst w'))
                  go_ret
                  exact ⟨rfl, by go_grown⟩
                · skip
                  cases g1 : (s.opt == 0)
                  · skip
                    by_cases g4 : n = 0
                    · subst g4
                      have hf : segFault s 0 = 0 := by simp [segFault, rangeOk9, formOk9, *]
                      rw [hf]; clear hf
                      go_enter Try.func48, Try.ntmps48
                      go_wp2_with (first | (go_at_call 76; refine (sInB9 _ _ _ _).mono ?_; rintro e w' ⟨rfl, hw⟩; subst w') | (go_at_call 77; refine (sNum9 _ _).mono ?_; rintro e w' ⟨rfl, hw⟩; subst w'))
                      go_ret
                      exact ⟨rfl, by go_grown⟩
                    · have g4n : 0 < n := by omega
                      have g4i : (0 : Int) < (n : Int) := by omega
                      cases g5 : s.syn
                      · cases g6 : s.rst
                        · by_cases g8 : 8 < n
                          · have g8i : (8 : Int) < (n : Int) := by omega
                            have hf : segFault s n = 2 := by simp [segFault, rangeOk9, formOk9, *]
                            rw [hf]; clear hf
                            go_enter Try.func48, Try.ntmps48
                            go_wp2_with (first | (go_at_call 76; refine (sInB9 _ _ _ _).mono ?_; rintro e w' ⟨rfl, hw⟩; subst w') | (go_at_call 77; refine (sNum9 _ _).mono ?_; rintro e w' ⟨rfl, hw⟩; subst w'))
                            go_ret
                            exact ⟨rfl, by go_grown⟩
                          · have g8i : ¬ (8 : Int) < (n : Int) := by omega
                            have hf : segFault s n = 0 := by simp [segFault, rangeOk9, formOk9, *]
                            rw [hf]; clear hf
                            go_enter Try.func48, Try.ntmps48
                            go_wp2_with (first | (go_at_call 76; refine (sInB9 _ _ _ _).mono ?_; rintro e w' ⟨rfl, hw⟩; subst w') | (go_at_call 77; refine (sNum9 _ _).mono ?_; rintro e w' ⟨rfl, hw⟩; subst w'))
                            go_ret
                            exact ⟨rfl, by go_grown⟩
                        · skip
                          have hf : segFault s n = 1 := by simp [segFault, rangeOk9, formOk9, *]
                          rw [hf]; clear hf
                          go_enter Try.func48, Try.ntmps48
                          go_wp2_with (first | (go_at_call 76; refine (sInB9 _ _ _ _).mono ?_; rintro e w' ⟨rfl, hw⟩; subst w') | (go_at_call 77; refine (sNum9 _ _).mono ?_; rintro e w' ⟨rfl, hw⟩; subst w'))
                          go_ret
                          exact ⟨rfl, by go_grown⟩
                      · skip
                        have hf : segFault s n = 1 := by simp [segFault, rangeOk9, formOk9, *]
                        rw [hf]; clear hf
                        go_enter Try.func48, Try.ntmps48
                        go_wp2_with (first | (go_at_call 76; refine (sInB9 _ _ _ _).mono ?_; rintro e w' ⟨rfl, hw⟩; subst w') | (go_at_call 77; refine (sNum9 _ _).mono ?_; rintro e w' ⟨rfl, hw⟩; subst w'))
                        go_ret
                        exact ⟨rfl, by go_grown⟩
                  · cases g2 : (s.a != 0)
                    · cases g3 : (s.b != 0)
                      · skip
                        by_cases g4 : n = 0
                        · subst g4
                          have hf : segFault s 0 = 0 := by simp [segFault, rangeOk9, formOk9, *]
                          rw [hf]; clear hf
                          go_enter Try.func48, Try.ntmps48
                          go_wp2_with (first | (go_at_call 76; refine (sInB9 _ _ _ _).mono ?_; rintro e w' ⟨rfl, hw⟩; subst w') | (go_at_call 77; refine (sNum9 _ _).mono ?_; rintro e w' ⟨rfl, hw⟩; subst w'))
                          go_ret
                          exact ⟨rfl, by go_grown⟩
                        · have g4n : 0 < n := by omega
                          have g4i : (0 : Int) < (n : Int) := by omega
                          cases g5 : s.syn
                          · cases g6 : s.rst
                            · by_cases g8 : 8 < n
                              · have g8i : (8 : Int) < (n : Int) := by omega
                                have hf : segFault s n = 2 := by simp [segFault, rangeOk9, formOk9, *]
                                rw [hf]; clear hf
                                go_enter Try.func48, Try.ntmps48
                                go_wp2_with (first | (go_at_call 76; refine (sInB9 _ _ _ _).mono ?_; rintro e w' ⟨rfl, hw⟩; subst w') | (go_at_call 77; refine (sNum9 _ _).mono ?_; rintro e w' ⟨rfl, hw⟩; subst w'))
                                go_ret
                                exact ⟨rfl, by go_grown⟩
                              · have g8i : ¬ (8 : Int) < (n : Int) := by omega
                                have hf : segFault s n = 0 := by simp [segFault, rangeOk9, formOk9, *]
                                rw [hf]; clear hf
                                go_enter Try.func48, Try.ntmps48
                                go_wp2_with (first | (go_at_call 76; refine (sInB9 _ _ _ _).mono ?_; rintro e w' ⟨rfl, hw⟩; subst w') | (go_at_call 77; refine (sNum9 _ _).mono ?_; rintro e w' ⟨rfl, hw⟩; subst w'))
                                go_ret
                                exact ⟨rfl, by go_grown⟩
                            · skip
                              have hf : segFault s n = 1 := by simp [segFault, rangeOk9, formOk9, *]
                              rw [hf]; clear hf
                              go_enter Try.func48, Try.ntmps48
                              go_wp2_with (first | (go_at_call 76; refine (sInB9 _ _ _ _).mono ?_; rintro e w' ⟨rfl, hw⟩; subst w') | (go_at_call 77; refine (sNum9 _ _).mono ?_; rintro e w' ⟨rfl, hw⟩; subst w'))
                              go_ret
                              exact ⟨rfl, by go_grown⟩
                          · skip
                            have hf : segFault s n = 1 := by simp [segFault, rangeOk9, formOk9, *]
                            rw [hf]; clear hf
                            go_enter Try.func48, Try.ntmps48
                            go_wp2_with (first | (go_at_call 76; refine (sInB9 _ _ _ _).mono ?_; rintro e w' ⟨rfl, hw⟩; subst w') | (go_at_call 77; refine (sNum9 _ _).mono ?_; rintro e w' ⟨rfl, hw⟩; subst w'))
                            go_ret
                            exact ⟨rfl, by go_grown⟩
                      · skip
                        have hf : segFault s n = 1 := by simp [segFault, rangeOk9, formOk9, *]
                        rw [hf]; clear hf
                        go_enter Try.func48, Try.ntmps48
                        go_wp2_with (first | (go_at_call 76; refine (sInB9 _ _ _ _).mono ?_; rintro e w' ⟨rfl, hw⟩; subst w') | (go_at_call 77; refine (sNum9 _ _).mono ?_; rintro e w' ⟨rfl, hw⟩; subst w'))
                        go_ret
                        exact ⟨rfl, by go_grown⟩
                    · skip
                      have hf : segFault s n = 1 := by simp [segFault, rangeOk9, formOk9, *]
                      rw [hf]; clear hf
                      go_enter Try.func48, Try.ntmps48
                      go_wp2_with (first | (go_at_call 76; refine (sInB9 _ _ _ _).mono ?_; rintro e w' ⟨rfl, hw⟩; subst w') | (go_at_call 77; refine (sNum9 _ _).mono ?_; rintro e w' ⟨rfl, hw⟩; subst w'))
                      go_ret
                      exact ⟨rfl, by go_grown⟩
end Go.Proofs.Ytlfncadngcjdjaa
