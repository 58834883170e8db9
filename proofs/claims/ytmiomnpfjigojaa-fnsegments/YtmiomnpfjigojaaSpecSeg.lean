/- What the model of chapter 2 answers: the fault of a segment; nothing that was in memory turns; no condition. -/
import Derived.Test.YtmiomnpfjigojaaRows
import Derived.Test.YtmiomnpfjigojaaBase
import Derived.Test.YtmiomnpfjigojaaBytes
import Derived.Test.YtmiomnpfjigojaaSeg
namespace Go.Proofs.Ytmiomnpfjigojaa
open Go.RowKit
set_option linter.unusedVariables false

/-- v is lo to hi. -/
def inB (v lo hi : Int) : Bool := decide (lo ≤ v) && decide (v ≤ hi)
theorem inB_iff (v lo hi : Int) : inB v lo hi = true ↔ lo ≤ v ∧ v ≤ hi := by simp [inB]
def rangeOk (s : Seg) : Bool := inB s.path 0 2 && inB s.frm 0 1 && inB s.seq 0 65535 && inB s.ack 0 65535 && inB s.fin 0 1000 && inB s.a 0 1000000 && inB s.b 0 1000000
def formOk (s : Seg) (n : Nat) : Bool := inB s.opt 0 4 && !(s.opt == 0 && (s.a != 0 || s.b != 0)) && !(decide (0 < n) && (s.syn || s.rst))
/-- The fault of a segment with n bytes of load. -/
def segFault (s : Seg) (n : Nat) : Int := if rangeOk s = false then 3 else if formOk s n = false then 1 else if 8 < n then 2 else 0

theorem sInB (v low high : Int) (w : World) :
    Calls Try.prog 57 #[.int .i64 v, .int .i64 low, .int .i64 high] w fun e w' => e = .returned (.bool (inB v low high)) ∧ w' = w := by
  by_cases h : low ≤ v
  · go_enter Try.func57, Try.ntmps57
    go_wp2
    go_ret
    exact ⟨ret_bool (by simp [inB, h]), rfl⟩
  · have h' : decide (low ≤ v) = false := by simp; omega
    go_enter Try.func57, Try.ntmps57
    go_wp2
    go_ret
    exact ⟨ret_bool (by simp [inB, h']), rfl⟩
theorem sNum (v : Int) (w : World) :
    Calls Try.prog 72 #[.int .i64 v] w fun e w' => e = .returned (.bool (inB v 0 65535)) ∧ w' = w := by
  go_enter Try.func72, Try.ntmps72
  go_wp2_with (go_at_call 57; refine (sInB _ _ _ _).mono ?_; rintro e w' ⟨rfl, hw⟩; subst w')
  go_ret
  exact ⟨rfl, rfl⟩

set_option maxHeartbeats 4000000 in
theorem sSegmentFault (s : Seg) (a : Option Addr) (n cap : Nat) (w : World) :
    Calls Try.prog 29 #[.agg #[.int .i64 s.path, .int .i64 s.frm, .bool s.syn, .bool s.ackd, .bool s.rst, .int .i64 s.seq, .int .i64 s.ack, .int .i64 s.fin, .int .i64 s.opt, .int .i64 s.a, .int .i64 s.b, .slice a n cap]] w fun e w' => e = .returned (.int .i64 (segFault s n)) ∧ Below w.heap.size w w' := by
  cases h0 : inB s.path 0 2
  · skip
    have hf : segFault s n = 3 := by simp [segFault, rangeOk, *]
    rw [hf]; clear hf
    go_enter Try.func29, Try.ntmps29
    go_wp2_with (first | (go_at_call 57; refine (sInB _ _ _ _).mono ?_; rintro e w' ⟨rfl, hw⟩; subst w') | (go_at_call 72; refine (sNum _ _).mono ?_; rintro e w' ⟨rfl, hw⟩; subst w'))
    go_ret
    exact ⟨rfl, by go_grown⟩
  · skip
    cases h1 : inB s.frm 0 1
    · skip
      have hf : segFault s n = 3 := by simp [segFault, rangeOk, *]
      rw [hf]; clear hf
      go_enter Try.func29, Try.ntmps29
      go_wp2_with (first | (go_at_call 57; refine (sInB _ _ _ _).mono ?_; rintro e w' ⟨rfl, hw⟩; subst w') | (go_at_call 72; refine (sNum _ _).mono ?_; rintro e w' ⟨rfl, hw⟩; subst w'))
      go_ret
      exact ⟨rfl, by go_grown⟩
    · skip
      cases h2 : inB s.seq 0 65535
      · skip
        have hf : segFault s n = 3 := by simp [segFault, rangeOk, *]
        rw [hf]; clear hf
        go_enter Try.func29, Try.ntmps29
        go_wp2_with (first | (go_at_call 57; refine (sInB _ _ _ _).mono ?_; rintro e w' ⟨rfl, hw⟩; subst w') | (go_at_call 72; refine (sNum _ _).mono ?_; rintro e w' ⟨rfl, hw⟩; subst w'))
        go_ret
        exact ⟨rfl, by go_grown⟩
      · skip
        cases h3 : inB s.ack 0 65535
        · skip
          have hf : segFault s n = 3 := by simp [segFault, rangeOk, *]
          rw [hf]; clear hf
          go_enter Try.func29, Try.ntmps29
          go_wp2_with (first | (go_at_call 57; refine (sInB _ _ _ _).mono ?_; rintro e w' ⟨rfl, hw⟩; subst w') | (go_at_call 72; refine (sNum _ _).mono ?_; rintro e w' ⟨rfl, hw⟩; subst w'))
          go_ret
          exact ⟨rfl, by go_grown⟩
        · skip
          cases h4 : inB s.fin 0 1000
          · skip
            have hf : segFault s n = 3 := by simp [segFault, rangeOk, *]
            rw [hf]; clear hf
            go_enter Try.func29, Try.ntmps29
            go_wp2_with (first | (go_at_call 57; refine (sInB _ _ _ _).mono ?_; rintro e w' ⟨rfl, hw⟩; subst w') | (go_at_call 72; refine (sNum _ _).mono ?_; rintro e w' ⟨rfl, hw⟩; subst w'))
            go_ret
            exact ⟨rfl, by go_grown⟩
          · skip
            cases h5 : inB s.a 0 1000000
            · skip
              have hf : segFault s n = 3 := by simp [segFault, rangeOk, *]
              rw [hf]; clear hf
              go_enter Try.func29, Try.ntmps29
              go_wp2_with (first | (go_at_call 57; refine (sInB _ _ _ _).mono ?_; rintro e w' ⟨rfl, hw⟩; subst w') | (go_at_call 72; refine (sNum _ _).mono ?_; rintro e w' ⟨rfl, hw⟩; subst w'))
              go_ret
              exact ⟨rfl, by go_grown⟩
            · skip
              cases h6 : inB s.b 0 1000000
              · skip
                have hf : segFault s n = 3 := by simp [segFault, rangeOk, *]
                rw [hf]; clear hf
                go_enter Try.func29, Try.ntmps29
                go_wp2_with (first | (go_at_call 57; refine (sInB _ _ _ _).mono ?_; rintro e w' ⟨rfl, hw⟩; subst w') | (go_at_call 72; refine (sNum _ _).mono ?_; rintro e w' ⟨rfl, hw⟩; subst w'))
                go_ret
                exact ⟨rfl, by go_grown⟩
              · skip
                cases g0 : inB s.opt 0 4
                · skip
                  have hf : segFault s n = 1 := by simp [segFault, rangeOk, formOk, *]
                  rw [hf]; clear hf
                  go_enter Try.func29, Try.ntmps29
                  go_wp2_with (first | (go_at_call 57; refine (sInB _ _ _ _).mono ?_; rintro e w' ⟨rfl, hw⟩; subst w') | (go_at_call 72; refine (sNum _ _).mono ?_; rintro e w' ⟨rfl, hw⟩; subst w'))
                  go_ret
                  exact ⟨rfl, by go_grown⟩
                · skip
                  cases g1 : (s.opt == 0)
                  · skip
                    by_cases g4 : n = 0
                    · subst g4
                      have hf : segFault s 0 = 0 := by simp [segFault, rangeOk, formOk, *]
                      rw [hf]; clear hf
                      go_enter Try.func29, Try.ntmps29
                      go_wp2_with (first | (go_at_call 57; refine (sInB _ _ _ _).mono ?_; rintro e w' ⟨rfl, hw⟩; subst w') | (go_at_call 72; refine (sNum _ _).mono ?_; rintro e w' ⟨rfl, hw⟩; subst w'))
                      go_ret
                      exact ⟨rfl, by go_grown⟩
                    · have g4n : 0 < n := by omega
                      have g4i : (0 : Int) < (n : Int) := by omega
                      cases g5 : s.syn
                      · cases g6 : s.rst
                        · by_cases g8 : 8 < n
                          · have g8i : (8 : Int) < (n : Int) := by omega
                            have hf : segFault s n = 2 := by simp [segFault, rangeOk, formOk, *]
                            rw [hf]; clear hf
                            go_enter Try.func29, Try.ntmps29
                            go_wp2_with (first | (go_at_call 57; refine (sInB _ _ _ _).mono ?_; rintro e w' ⟨rfl, hw⟩; subst w') | (go_at_call 72; refine (sNum _ _).mono ?_; rintro e w' ⟨rfl, hw⟩; subst w'))
                            go_ret
                            exact ⟨rfl, by go_grown⟩
                          · have g8i : ¬ (8 : Int) < (n : Int) := by omega
                            have hf : segFault s n = 0 := by simp [segFault, rangeOk, formOk, *]
                            rw [hf]; clear hf
                            go_enter Try.func29, Try.ntmps29
                            go_wp2_with (first | (go_at_call 57; refine (sInB _ _ _ _).mono ?_; rintro e w' ⟨rfl, hw⟩; subst w') | (go_at_call 72; refine (sNum _ _).mono ?_; rintro e w' ⟨rfl, hw⟩; subst w'))
                            go_ret
                            exact ⟨rfl, by go_grown⟩
                        · skip
                          have hf : segFault s n = 1 := by simp [segFault, rangeOk, formOk, *]
                          rw [hf]; clear hf
                          go_enter Try.func29, Try.ntmps29
                          go_wp2_with (first | (go_at_call 57; refine (sInB _ _ _ _).mono ?_; rintro e w' ⟨rfl, hw⟩; subst w') | (go_at_call 72; refine (sNum _ _).mono ?_; rintro e w' ⟨rfl, hw⟩; subst w'))
                          go_ret
                          exact ⟨rfl, by go_grown⟩
                      · skip
                        have hf : segFault s n = 1 := by simp [segFault, rangeOk, formOk, *]
                        rw [hf]; clear hf
                        go_enter Try.func29, Try.ntmps29
                        go_wp2_with (first | (go_at_call 57; refine (sInB _ _ _ _).mono ?_; rintro e w' ⟨rfl, hw⟩; subst w') | (go_at_call 72; refine (sNum _ _).mono ?_; rintro e w' ⟨rfl, hw⟩; subst w'))
                        go_ret
                        exact ⟨rfl, by go_grown⟩
                  · cases g2 : (s.a != 0)
                    · cases g3 : (s.b != 0)
                      · skip
                        by_cases g4 : n = 0
                        · subst g4
                          have hf : segFault s 0 = 0 := by simp [segFault, rangeOk, formOk, *]
                          rw [hf]; clear hf
                          go_enter Try.func29, Try.ntmps29
                          go_wp2_with (first | (go_at_call 57; refine (sInB _ _ _ _).mono ?_; rintro e w' ⟨rfl, hw⟩; subst w') | (go_at_call 72; refine (sNum _ _).mono ?_; rintro e w' ⟨rfl, hw⟩; subst w'))
                          go_ret
                          exact ⟨rfl, by go_grown⟩
                        · have g4n : 0 < n := by omega
                          have g4i : (0 : Int) < (n : Int) := by omega
                          cases g5 : s.syn
                          · cases g6 : s.rst
                            · by_cases g8 : 8 < n
                              · have g8i : (8 : Int) < (n : Int) := by omega
                                have hf : segFault s n = 2 := by simp [segFault, rangeOk, formOk, *]
                                rw [hf]; clear hf
                                go_enter Try.func29, Try.ntmps29
                                go_wp2_with (first | (go_at_call 57; refine (sInB _ _ _ _).mono ?_; rintro e w' ⟨rfl, hw⟩; subst w') | (go_at_call 72; refine (sNum _ _).mono ?_; rintro e w' ⟨rfl, hw⟩; subst w'))
                                go_ret
                                exact ⟨rfl, by go_grown⟩
                              · have g8i : ¬ (8 : Int) < (n : Int) := by omega
                                have hf : segFault s n = 0 := by simp [segFault, rangeOk, formOk, *]
                                rw [hf]; clear hf
                                go_enter Try.func29, Try.ntmps29
                                go_wp2_with (first | (go_at_call 57; refine (sInB _ _ _ _).mono ?_; rintro e w' ⟨rfl, hw⟩; subst w') | (go_at_call 72; refine (sNum _ _).mono ?_; rintro e w' ⟨rfl, hw⟩; subst w'))
                                go_ret
                                exact ⟨rfl, by go_grown⟩
                            · skip
                              have hf : segFault s n = 1 := by simp [segFault, rangeOk, formOk, *]
                              rw [hf]; clear hf
                              go_enter Try.func29, Try.ntmps29
                              go_wp2_with (first | (go_at_call 57; refine (sInB _ _ _ _).mono ?_; rintro e w' ⟨rfl, hw⟩; subst w') | (go_at_call 72; refine (sNum _ _).mono ?_; rintro e w' ⟨rfl, hw⟩; subst w'))
                              go_ret
                              exact ⟨rfl, by go_grown⟩
                          · skip
                            have hf : segFault s n = 1 := by simp [segFault, rangeOk, formOk, *]
                            rw [hf]; clear hf
                            go_enter Try.func29, Try.ntmps29
                            go_wp2_with (first | (go_at_call 57; refine (sInB _ _ _ _).mono ?_; rintro e w' ⟨rfl, hw⟩; subst w') | (go_at_call 72; refine (sNum _ _).mono ?_; rintro e w' ⟨rfl, hw⟩; subst w'))
                            go_ret
                            exact ⟨rfl, by go_grown⟩
                      · skip
                        have hf : segFault s n = 1 := by simp [segFault, rangeOk, formOk, *]
                        rw [hf]; clear hf
                        go_enter Try.func29, Try.ntmps29
                        go_wp2_with (first | (go_at_call 57; refine (sInB _ _ _ _).mono ?_; rintro e w' ⟨rfl, hw⟩; subst w') | (go_at_call 72; refine (sNum _ _).mono ?_; rintro e w' ⟨rfl, hw⟩; subst w'))
                        go_ret
                        exact ⟨rfl, by go_grown⟩
                    · skip
                      have hf : segFault s n = 1 := by simp [segFault, rangeOk, formOk, *]
                      rw [hf]; clear hf
                      go_enter Try.func29, Try.ntmps29
                      go_wp2_with (first | (go_at_call 57; refine (sInB _ _ _ _).mono ?_; rintro e w' ⟨rfl, hw⟩; subst w') | (go_at_call 72; refine (sNum _ _).mono ?_; rintro e w' ⟨rfl, hw⟩; subst w'))
                      go_ret
                      exact ⟨rfl, by go_grown⟩
end Go.Proofs.Ytmiomnpfjigojaa
