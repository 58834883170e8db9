/- What mixing, keys, tokens, proofs and starts answer, of the program and of its model; nothing that was in memory turns; no condition but that there are at most a million numbers. -/
import Derived.Test.YthgdbbbdmhhjaaaRows
import Derived.Test.YthgdbbbdmhhjaaaBase
import Derived.Test.YthgdbbbdmhhjaaaNum
import Derived.Test.YthgdbbbdmhhjaaaNumWalks
import Derived.Test.YthgdbbbdmhhjaaaInts
import Derived.Test.YthgdbbbdmhhjaaaMixDef
namespace Go.Proofs.Ythgdbbbdmhhjaaa
open Go.RowKit
set_option linter.unusedVariables false

theorem iRemainder (n : Int) (w : World) :
    Calls Try.prog 97 #[.int .i64 n, .int .i64 1000003] w fun e w' => e = .returned (.int .i64 (n % 1000003)) ∧ w' = w := by
  have hb := tmd_bd n
  by_cases h : n.tmod 1000003 < 0
  · go_enter Try.func97, Try.ntmps97
    go_wp2
    go_ret
    exact ⟨ret_int (tmd_neg h), rfl⟩
  · go_enter Try.func97, Try.ntmps97
    go_wp2
    go_ret
    exact ⟨ret_int (tmd_pos (by omega)), rfl⟩
set_option maxHeartbeats 400000 in
theorem iMix1 (b : Nat) (h n : Int) (w : World) (hc : w.cell? ⟨b, 0, none⟩ = some (.int .i64 h)) (hf : w.frozen? ⟨b, 0, none⟩ = false) (h0 : 0 ≤ h) (h1 : h ≤ 1000002) :
    Calls Try.prog 96 #[.int .i64 n, .pointer (some ⟨b, 0, none⟩)] w fun e w' => ∃ m, e = .returned (.tuple #[]) ∧ w' = (w.drewN m).setCell ⟨b, 0, none⟩ (.int .i64 (mixS h n)) := by
  have hr : 0 ≤ n % 1000003 ∧ n % 1000003 ≤ 1000002 := by omega
  obtain ⟨r0, r1⟩ := hr
  have HE : Hid ((h * 8191 + n % 1000003 + 1) % 1000003 = mixS h n) := rfl
  generalize hx : n % 1000003 = x at *
  have HX : Hid (n % 1000003 = x) := hx
  clear hx
  have e1 : 0 ≤ h * 8191 := by omega
  have e2 : h * 8191 ≤ 8191016382 := by omega
  go_enter Try.func96, Try.ntmps96
  go_region_with (go_at_call 97; refine (iRemainder _ _).mono ?_; rintro e w' ⟨rfl, hw⟩; subst w'; rw [HX.out])
  all_goals (go_wp2; go_end0; refine ⟨1, rfl, ?_⟩; rw [← HE.out, mixS_w h0 h1 r0 r1]; rfl)
set_option maxHeartbeats 400000 in
theorem iMixOf (a : Option Addr) (n cap : Nat) (l : List Int) (w : World) (hl : l.length = n) (hr : RI w a l) (hn : n ≤ 1048576) :
    Calls Try.prog 50 #[.slice a n cap] w fun e w' => e = .returned (.int .i64 (mixV l)) ∧ Below w.heap.size w w' := by
  have hmf : ∀ (fn : Fn) (first cap : Array Value) (w : World), (Instr.makeFunc fn first cap).run Try.prog w = .ok (.func fn first cap) w := fun _ _ _ _ => rfl
  go_enter Try.func50, Try.ntmps50
  go_wp2
  go_loopw [10] (fun i wr => ∃ k : Nat, k ≤ n ∧ i = .int .i64 k ∧ wr.cell? ⟨w.heap.size, 0, none⟩ = some (.int .i64 (mixT (l.take k))) ∧ wr.frozen? ⟨w.heap.size, 0, none⟩ = false ∧ Below w.heap.size w wr) (fun i _ => n - (intOf i).toNat)
  case atStart => exact ⟨0, Nat.zero_le _, rfl, by simp [mixT], by simp, by go_grown⟩
  case round =>
    obtain ⟨k, hk, rfl, hcl, hfz, hbl⟩ := hrel
    have hbd := mixT_bd (l.take k)
    by_cases hlt : k < n
    · rcases hr.mem with e | ⟨b, off, rfl, hc⟩
      · subst e; simp at hl; omega
      · have hck := hc k (by omega)
        have hlt2 := cell_lt hck
        have hck2 : wr.cell? ⟨b, off + k, none⟩ = some (.int .i64 (l.getD k 0)) := (hbl.cell (p := ⟨b, off + k, none⟩) hlt2).trans hck
        have HT : Hid (mixT (l.take (k + 1)) = mixS (mixT (l.take k)) (l.getD k 0)) := mixT_take (by omega)
        have HB : Hid _ := hbl
        clear hc hck hbl hlt2
        generalize l.getD k 0 = x at *
        generalize mixT (l.take k) = y at *
        go_wp2_with fail
        refine (iMix1 w.heap.size y x wr hcl hfz hbd.1 hbd.2).mono ?_
        rintro e w1 ⟨m, rfl, hw⟩
        subst w1
        go_wp2_with fail
        go_roundw
        case rel => exact ⟨k + 1, by omega, by go_num, by rw [HT.out]; go_simp, by go_simp, (below_drewN HB.out m).setCell (by simp) _⟩
        case measure => simp [intOf]; omega
    · obtain rfl : k = n := by omega
      have e : l.take k = l := List.take_of_length_le (by omega)
      rw [e] at hcl hbd
      obtain ⟨b0, b1⟩ := hbd
      have HV : Hid (mixT l % 1000000 = mixV l) := rfl
      clear hr
      generalize mixT l = y at *
      go_wp2
      go_ret
      exact ⟨ret_int HV.out, hbl⟩
end Go.Proofs.Ythgdbbbdmhhjaaa
