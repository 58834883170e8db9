/- What the model answers of a sender: its fault, what is on its way, the number of a place, a new one; nothing that was in memory turns; no condition but that loads are of at most a million bytes. -/
import Derived.Test.YtacbpielhhejkalRows
import Derived.Test.YtacbpielhhejkalBase
import Derived.Test.YtacbpielhhejkalNum
import Derived.Test.YtacbpielhhejkalNumWalks
import Derived.Test.YtacbpielhhejkalMem
import Derived.Test.YtacbpielhhejkalHBase
import Derived.Test.YtacbpielhhejkalHFlight
import Derived.Test.YtacbpielhhejkalHSender
import Derived.Test.YtacbpielhhejkalFlightDef
import Derived.Test.YtacbpielhhejkalSpecFlight
import Derived.Test.YtacbpielhhejkalBox
namespace Go.Proofs.Ytacbpielhhejkal
open Go.RowKit
set_option linter.unusedVariables false

/-- Of a sender in a box that was just made. -/
theorem sL5Box (x : DSender) (a : Option Addr) (n cap : Nat) (w w0 : World) (t : TypeId) (B : Nat) (hn : x.2.2.2.1.length = n) (hr : shFlights.Rd w B x.2.2.2.1 [.slice a n cap]) (hB : B ≤ w.heap.size) (hT : totSender x ≤ 1048576) (sb : Nat)
    (hc : ∀ o, w.cell? ⟨sb, o, none⟩ = (#[.int .i64 x.1, .int .i64 x.2.1, .int .i64 x.2.2.1, .slice a n cap] : Array Value)[o]?) :
    Calls Try.prog 27 #[.pointer (some ⟨sb, 0, none⟩)] w fun e w' => e = .returned (.int .i64 (sndFault x)) ∧ Below w.heap.size w w' :=
  sL5Fault x a n cap sb w B hn (hc 0) (hc 1) (hc 2) (hc 3) hr hB (fun k hk => by have h : x.2.2.2.1[k].2.2.1.length ≤ fsum totFlight x.2.2.2.1 := fsum_at totFlight hk; unfold totSender totFlights at hT; omega)
set_option maxHeartbeats 1000000 in
theorem sOnWay (x : DSender) (v : Value) (w : World) (B : Nat) (hr : shSender.Rd w B x [.int .i64 x.1, .int .i64 x.2.1, .int .i64 x.2.2.1, v]) (hB : B ≤ w.heap.size) (hT : totSender x ≤ 1048576) :
    Calls Try.prog 21 #[.agg #[.int .i64 x.1, .int .i64 x.2.1, .int .i64 x.2.2.1, v]] w fun e w' => e = .returned (.agg #[.int .i64 (sndFault x), .int .i64 (onwV x)]) ∧ Below w.heap.size w w' := by
  obtain ⟨vv, ev, rk, -⟩ := rd_Sender hr
  simp only [List.cons.injEq, and_true, true_and] at ev
  subst ev
  obtain ⟨a, cap, ev2⟩ := row_form rk
  simp only [List.cons.injEq, and_true] at ev2
  subst ev2
  have HC : Hid (∀ W, Below w.heap.size w W → ∀ sb, (∀ o, W.cell? ⟨sb, o, none⟩ = (#[.int .i64 x.1, .int .i64 x.2.1, .int .i64 x.2.2.1, .slice a x.2.2.2.1.length cap] : Array Value)[o]?) → Calls Try.prog 27 #[.pointer (some ⟨sb, 0, none⟩)] W fun e w' => e = .returned (.int .i64 (sndFault x)) ∧ Below W.heap.size W w') :=
    fun W hW sb hc => sL5Box x a _ cap W w 0 B rfl (Sh.Rd.below rk hB hW) (Nat.le_trans hB hW.size) hT sb hc
  have HO : Hid (sndFault x = 0 → 0 ≤ x.2.1 ∧ x.2.1 ≤ 1000000 ∧ 0 ≤ x.2.2.1 ∧ x.2.2.1 ≤ x.2.1) := fun h => by obtain ⟨h1, h2, h3, _⟩ := snd_ok h; have := inD_yes h2; have := inD_yes h3; omega
  have HV : Hid (onwV x = if sndFault x = 0 then x.2.1 - x.2.2.1 else 0) := rfl
  clear hr rk hT hB
  generalize onwV x = V at *
  generalize sndFault x = F at *
  generalize x.1 = y0 at *
  generalize x.2.1 = y1 at *
  generalize x.2.2.1 = y2 at *
  generalize x.2.2.2.1.length = n at *
  by_cases hF : F = 0
  · obtain ⟨p0, p1, p2, p3⟩ := HO.out hF
    have hv := HV.out
    rw [if_pos hF] at hv
    have hF' : (F != 0) = false := by simp [hF]
    subst hv hF
    clear HO HV
    go_enter Try.func21, Try.ntmps21
    go_wp2_with fail
    refine (HC.out _ (by go_grown) w.heap.size (fun o => by simp [go_sem])).mono ?_
    rintro e w1 ⟨rfl, hb⟩
    obtain ⟨hc, hf⟩ := bcell hb
    have z1 : w.heap.size < w1.heap.size := by have := hb.size; simp at this; omega
    have z2 : w.heap.size + 1 < w1.heap.size := by have := hb.size; simp at this; omega
    have HB : Hid (Below w.heap.size w w1) := Below.trans (by go_grown) (hb.mono (by simp; omega))
    clear hb HC
    go_wp2_with fail
    refine bodyPost_ret (v := .agg #[.int .i64 0, .int .i64 (y1 - y2)]) (by simp [results, Try.results21, go_sem, hc]) rfl ⟨rfl, ?_⟩
    have hB1 := HB.out
    clear hc hf HB
    go_grown
  · have hv := HV.out
    rw [if_neg hF] at hv
    have hF' : (F != 0) = true := by simp [hF]
    subst hv
    clear HO HV hF
    go_enter Try.func21, Try.ntmps21
    go_wp2_with fail
    refine (HC.out _ (by go_grown) w.heap.size (fun o => by simp [go_sem])).mono ?_
    rintro e w1 ⟨rfl, hb⟩
    obtain ⟨hc, hf⟩ := bcell hb
    have z1 : w.heap.size < w1.heap.size := by have := hb.size; simp at this; omega
    have z2 : w.heap.size + 1 < w1.heap.size := by have := hb.size; simp at this; omega
    have HB : Hid (Below w.heap.size w w1) := Below.trans (by go_grown) (hb.mono (by simp; omega))
    clear hb HC
    go_wp2_with fail
    refine bodyPost_ret (v := .agg #[.int .i64 F, .int .i64 0]) (by simp [results, Try.results21, go_sem, hc]) rfl ⟨rfl, ?_⟩
    have hB1 := HB.out
    clear hc hf HB
    go_grown
set_option maxHeartbeats 1000000 in
theorem sSeqOf (x : DSender) (v : Value) (at' : Int) (w : World) (B : Nat) (hr : shSender.Rd w B x [.int .i64 x.1, .int .i64 x.2.1, .int .i64 x.2.2.1, v]) (hB : B ≤ w.heap.size) (hT : totSender x ≤ 1048576) :
    Calls Try.prog 24 #[.agg #[.int .i64 x.1, .int .i64 x.2.1, .int .i64 x.2.2.1, v], .int .i64 at'] w fun e w' => e = .returned (.agg #[.int .i64 (seqC x at'), .int .i64 (seqV x at')]) ∧ Below w.heap.size w w' := by
  obtain ⟨vv, ev, rk, -⟩ := rd_Sender hr
  simp only [List.cons.injEq, and_true, true_and] at ev
  subst ev
  obtain ⟨a, cap, ev2⟩ := row_form rk
  simp only [List.cons.injEq, and_true] at ev2
  subst ev2
  have HC : Hid (∀ W, Below w.heap.size w W → ∀ sb, (∀ o, W.cell? ⟨sb, o, none⟩ = (#[.int .i64 x.1, .int .i64 x.2.1, .int .i64 x.2.2.1, .slice a x.2.2.2.1.length cap] : Array Value)[o]?) → Calls Try.prog 27 #[.pointer (some ⟨sb, 0, none⟩)] W fun e w' => e = .returned (.int .i64 (sndFault x)) ∧ Below W.heap.size W w') :=
    fun W hW sb hc => sL5Box x a _ cap W w 0 B rfl (Sh.Rd.below rk hB hW) (Nat.le_trans hB hW.size) hT sb hc
  have HV : Hid (seqV x at' = if sndFault x = 0 then (if inD at' 0 1000000 = true then wrp (x.1 + at') else 0) else 0) := rfl
  have HQ : Hid (seqC x at' = if sndFault x = 0 then (if inD at' 0 1000000 = true then 0 else 3) else sndFault x) := rfl
  clear hr rk hT hB
  generalize seqV x at' = V at *
  generalize seqC x at' = C at *
  generalize sndFault x = F at *
  generalize x.1 = y0 at *
  generalize x.2.1 = y1 at *
  generalize x.2.2.1 = y2 at *
  generalize x.2.2.2.1.length = n at *
  have hv := HV.out
  have hq := HQ.out
  clear HV HQ
  by_cases hF : F = 0
  · rw [if_pos hF] at hv hq
    have hF' : (F != 0) = false := by simp [hF]
    by_cases ht : inD at' 0 1000000 = true
    · rw [if_pos ht] at hv hq
      subst hv hq hF
      go_enter Try.func24, Try.ntmps24
      go_wp2_with fail
      refine (HC.out _ (by go_grown) w.heap.size (fun o => by simp [go_sem])).mono ?_
      rintro e w1 ⟨rfl, hb⟩
      obtain ⟨hc, hf⟩ := bcell hb
      have z1 : w.heap.size < w1.heap.size := by have := hb.size; simp at this; omega
      have z2 : w.heap.size + 1 < w1.heap.size := by have := hb.size; simp at this; omega
      have HB : Hid (Below w.heap.size w w1) := Below.trans (by go_grown) (hb.mono (by simp; omega))
      clear hb HC
      go_wp2_with (first | (go_at_call 28; refine (sTickD _ _).mono ?_; rintro e w' ⟨rfl, hw⟩; subst w') | (go_at_call 46; refine (sAdd _ _ _).mono ?_; rintro e w' ⟨rfl, hw⟩; subst w'))
      refine bodyPost_ret (v := .agg #[.int .i64 0, .int .i64 (wrp (y0 + at'))]) (by simp [results, Try.results24, go_sem, hc]) rfl ⟨rfl, ?_⟩
      have hB1 := HB.out
      clear hc hf HB
      go_grown
    · rw [if_neg ht] at hv hq
      replace ht : inD at' 0 1000000 = false := by simpa using ht
      subst hv hq hF
      go_enter Try.func24, Try.ntmps24
      go_wp2_with fail
      refine (HC.out _ (by go_grown) w.heap.size (fun o => by simp [go_sem])).mono ?_
      rintro e w1 ⟨rfl, hb⟩
      obtain ⟨hc, hf⟩ := bcell hb
      have z1 : w.heap.size < w1.heap.size := by have := hb.size; simp at this; omega
      have z2 : w.heap.size + 1 < w1.heap.size := by have := hb.size; simp at this; omega
      have HB : Hid (Below w.heap.size w w1) := Below.trans (by go_grown) (hb.mono (by simp; omega))
      clear hb HC
      go_wp2_with (first | (go_at_call 28; refine (sTickD _ _).mono ?_; rintro e w' ⟨rfl, hw⟩; subst w') | (go_at_call 46; refine (sAdd _ _ _).mono ?_; rintro e w' ⟨rfl, hw⟩; subst w'))
      refine bodyPost_ret (v := .agg #[.int .i64 3, .int .i64 0]) (by simp [results, Try.results24, go_sem, hc]) rfl ⟨rfl, ?_⟩
      have hB1 := HB.out
      clear hc hf HB
      go_grown
  · rw [if_neg hF] at hv hq
    have hF' : (F != 0) = true := by simp [hF]
    subst hv hq
    clear hF
    go_enter Try.func24, Try.ntmps24
    go_wp2_with fail
    refine (HC.out _ (by go_grown) w.heap.size (fun o => by simp [go_sem])).mono ?_
    rintro e w1 ⟨rfl, hb⟩
    obtain ⟨hc, hf⟩ := bcell hb
    have z1 : w.heap.size < w1.heap.size := by have := hb.size; simp at this; omega
    have z2 : w.heap.size + 1 < w1.heap.size := by have := hb.size; simp at this; omega
    have HB : Hid (Below w.heap.size w w1) := Below.trans (by go_grown) (hb.mono (by simp; omega))
    clear hb HC
    go_wp2_with (first | (go_at_call 28; refine (sTickD _ _).mono ?_; rintro e w' ⟨rfl, hw⟩; subst w') | (go_at_call 46; refine (sAdd _ _ _).mono ?_; rintro e w' ⟨rfl, hw⟩; subst w'))
    refine bodyPost_ret (v := .agg #[.int .i64 C, .int .i64 0]) (by simp [results, Try.results24, go_sem, hc]) rfl ⟨rfl, ?_⟩
    have hB1 := HB.out
    clear hc hf HB
    go_grown
end Go.Proofs.Ytacbpielhhejkal
