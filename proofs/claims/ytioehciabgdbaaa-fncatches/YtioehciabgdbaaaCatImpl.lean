/- What the program answers of catches: their faults, a new one, places and numbers; nothing that was in memory turns; no condition but that there are at most a million spans. -/
import Derived.Test.YtioehciabgdbaaaRows
import Derived.Test.YtioehciabgdbaaaBase
import Derived.Test.YtioehciabgdbaaaNum
import Derived.Test.YtioehciabgdbaaaNumWalks
import Derived.Test.YtioehciabgdbaaaUnwrap
import Derived.Test.YtioehciabgdbaaaMem
import Derived.Test.YtioehciabgdbaaaHBase
import Derived.Test.YtioehciabgdbaaaHSpan
import Derived.Test.YtioehciabgdbaaaHCatch
import Derived.Test.YtioehciabgdbaaaCatDef
import Derived.Test.YtioehciabgdbaaaBox
namespace Go.Proofs.Ytioehciabgdbaaa
open Go.RowKit
set_option linter.unusedVariables false
set_option maxRecDepth 8000

theorem iInC (v low high : Int) (w : World) :
    Calls Try.prog 76 #[.int .i64 v, .int .i64 low, .int .i64 high] w fun e w' => e = .returned (.bool (inC v low high)) ∧ w' = w := by
  by_cases h : low ≤ v
  · go_enter Try.func76, Try.ntmps76
    go_wp2
    go_ret
    exact ⟨ret_bool (by simp [inC, h]), rfl⟩
  · have h' : decide (low ≤ v) = false := by simp; omega
    go_enter Try.func76, Try.ntmps76
    go_wp2
    go_ret
    exact ⟨ret_bool (by simp [inC]; omega), rfl⟩
theorem iSpF (z0 z1 e0 : Int) (w : World) :
    Calls Try.prog 95 #[.agg #[.int .i64 z0, .int .i64 z1], .int .i64 e0] w fun e w' => e = .returned (.int .i64 (spF (z0, z1, ()) e0)) ∧ Below w.heap.size w w' := by
  by_cases k1 : 1000100 < z1
  · rw [spF_r (s := (z0, z1, ())) k1]
    go_enter Try.func95, Try.ntmps95
    go_wp2_with fail
    go_ret
    exact ⟨rfl, by go_grown⟩
  · by_cases k2 : z0 ≤ e0
    · rw [spF_f (s := (z0, z1, ())) k1 (Or.inl k2)]
      go_enter Try.func95, Try.ntmps95
      go_wp2_with fail
      go_ret
      exact ⟨rfl, by go_grown⟩
    · have k2' : decide (z0 ≤ e0) = false := by simp; omega
      by_cases k3 : z1 ≤ z0
      · rw [spF_f (s := (z0, z1, ())) k1 (Or.inr k3)]
        go_enter Try.func95, Try.ntmps95
        go_wp2_with fail
        go_ret
        exact ⟨rfl, by go_grown⟩
      · have k3' : decide (z1 ≤ z0) = false := by simp; omega
        rw [spF_ok (s := (z0, z1, ())) k1 (by show ¬ (z0 ≤ e0 ∨ z1 ≤ z0); omega)]
        go_enter Try.func95, Try.ntmps95
        go_wp2_with fail
        go_ret
        exact ⟨rfl, by go_grown⟩
set_option maxHeartbeats 4000000 in
theorem iCatchFault (x : DCatch) (v : Value) (w : World) (B : Nat) (hr : shCatch.Rd w B x [.int .i64 x.1, .int .i64 x.2.1, v]) (hB : B ≤ w.heap.size) (hT : totCatch x ≤ 1048576) :
    Calls Try.prog 35 #[.agg #[.int .i64 x.1, .int .i64 x.2.1, v]] w fun e w' => e = .returned (.int .i64 (caF x)) ∧ Below w.heap.size w w' := by
  obtain ⟨vv, ev, rk, -⟩ := rd_Catch hr
  simp only [List.cons.injEq, and_true, true_and] at ev
  subst ev
  obtain ⟨a, cap, ev2⟩ := row_form rk
  simp only [List.cons.injEq, and_true] at ev2
  subst ev2
  have hmx : x.2.2.1.length ≤ 9223372036854775807 := row_max rk
  by_cases hh : caHead x = true
  · have hh' := hh
    unfold caHead at hh'
    simp only [Bool.and_eq_true] at hh'
    obtain ⟨g1, g2⟩ := hh'
    by_cases hm : 20 < x.2.2.1.length
    · rw [caF_many hh (by omega)]
      clear hr hh rk hT
      generalize x.1 = y0 at *
      generalize x.2.1 = y1 at *
      generalize x.2.2.1.length = n at *
      go_enter Try.func35, Try.ntmps35
      go_wp2_with (go_at_call 76; refine (iInC _ _ _ _).mono ?_; rintro e w' ⟨rfl, hw⟩; subst w')
      go_ret
      exact ⟨rfl, by go_grown⟩
    · rw [caF_sps hh (by omega)]
      have HRd : Hid (∀ W, Below w.heap.size w W → shSpans.Rd W B x.2.2.1 [.slice a x.2.2.1.length cap]) := fun W hW => rk.below hB hW
      have hb2 := inC_yes g2
      clear hr hh rk hT
      obtain ⟨y0, y1, l, _⟩ := x
      simp only at *
      generalize hRR : spsF y1 l = R
      have HRR : Hid (spsF y1 l = R) := hRR
      clear hRR
      obtain ⟨hb20, hb21⟩ := hb2
      obtain ⟨n, hn⟩ : ∃ n, l.length = n := ⟨_, rfl⟩
      have HN : Hid (l.length = n) := hn
      rw [hn] at HRd hm hmx ⊢
      clear hn
      go_enter Try.func35, Try.ntmps35
      go_wp2_with (go_at_call 76; refine (iInC _ _ _ _).mono ?_; rintro e w' ⟨rfl, hw⟩; subst w')
      go_loopw [3, 26] (fun t i wr => ∃ (k : Nat) (e : Int), k ≤ n ∧ i = .int .i64 k ∧ t = .int .i64 e ∧ Hid (spsF e (l.drop k) = R) ∧ Hid (Below w.heap.size w wr)) (fun _ i _ => n - (intOf i).toNat)
      case atStart => exact ⟨0, y1, Nat.zero_le _, rfl, rfl, HRR.out, (by show Below _ _ _; go_grown)⟩
      case round =>
        obtain ⟨k, e, hk, rfl, rfl, hfe, HB⟩ := hrel
        clear g1 g2 HRR
        by_cases hlt : k < n
        · have hkl : k < l.length := by have := HN.out; omega
          obtain ⟨b, off, ha, hb, q0, q1, -, -⟩ := at_Spans (HRd.out wr HB.out) k hkl
          subst ha
          have hst := spsF_at e hkl
          rw [hfe.out] at hst
          have HST : Hid _ := hst
          clear hst hfe
          have hkn : (k : Int) < (n : Int) := by omega
          generalize hx : l[k] = X at *
          obtain ⟨z0, z1, _⟩ := X
          simp only at *
          clear hx
          have HC : Hid (∀ W : World, Calls Try.prog 95 #[.agg #[.int .i64 z0, .int .i64 z1], .int .i64 e] W fun e w' => e = .returned (.int .i64 (spF (z0, z1, ()) _)) ∧ Below W.heap.size W w') := fun W => iSpF z0 z1 e W
          generalize spF (z0, z1, ()) e = F at *
          have hbW' : wr.heap.size ≤ wr.heap.size := Nat.le_refl _
          by_cases hF : F = 0
          · have hs := HST.out
            rw [if_pos hF] at hs
            have HF : Hid _ := hs
            have hF' : (F != 0) = false := by simp [hF]
            clear HST hs
            go_wp2_with fail
            refine (HC.out _).mono ?_
            rintro e w1 ⟨rfl, hb1⟩
            have k5 : ∀ o, w1.cell? ⟨wr.heap.size, o, none⟩ = (#[.int .i64 z0, .int .i64 z1] : Array Value)[o]? := fun o => by rw [hb1.cell (p := ⟨wr.heap.size, o, none⟩) (by simp)]; simp [go_sem]
            have hbW : Below wr.heap.size wr w1 := Below.trans (by go_grown) (hb1.mono (by simp))
            have HB1 : Hid (Below w.heap.size w w1) := HB.out.trans (hbW.mono HB.out.size)
            clear hbW hb1
            go_wp2_with fail
            go_roundw
            case rel => exact ⟨k + 1, z1, by omega, by go_num, rfl, HF.out.symm, HB1.out⟩
            case measure => simp [intOf]; omega
          · have hs := HST.out
            rw [if_neg hF] at hs
            have hF' : (F != 0) = true := by simp [hF]
            subst hs
            clear HST
            go_wp2_with fail
            refine (HC.out _).mono ?_
            rintro e w1 ⟨rfl, hb1⟩
            have hbW : Below wr.heap.size wr w1 := Below.trans (by go_grown) (hb1.mono (by simp))
            have HB1 : Hid (Below w.heap.size w w1) := HB.out.trans (hbW.mono HB.out.size)
            clear hbW hb1
            go_wp2_with fail
            go_ret
            exact ⟨rfl, HB1.out⟩
        · obtain rfl : k = n := by omega
          have he := hfe.out
          rw [← HN.out, spsF_end] at he
          subst he
          go_wp2_with fail
          go_ret
          exact ⟨rfl, HB.out⟩
  · have hh' : caHead x = false := by simpa using hh
    rw [caF_head hh']
    clear hr hh rk hT
    unfold caHead at hh'
    generalize x.1 = y0 at *
    generalize x.2.1 = y1 at *
    generalize x.2.2.1.length = n at *
    by_cases g1 : inC y0 0 65535 = true
    · have g2 : inC y1 0 1000000 = false := by simpa [g1] using hh'
      clear hh'
      go_enter Try.func35, Try.ntmps35
      go_wp2_with (go_at_call 76; refine (iInC _ _ _ _).mono ?_; rintro e w' ⟨rfl, hw⟩; subst w')
      go_ret
      exact ⟨rfl, by go_grown⟩
    · replace g1 : inC y0 0 65535 = false := by simpa using g1
      clear hh'
      go_enter Try.func35, Try.ntmps35
      go_wp2_with (go_at_call 76; refine (iInC _ _ _ _).mono ?_; rintro e w' ⟨rfl, hw⟩; subst w')
      go_ret
      exact ⟨rfl, by go_grown⟩
set_option maxHeartbeats 1000000 in
theorem iAckOf (x : DCatch) (v : Value) (w : World) (B : Nat) (hr : shCatch.Rd w B x [.int .i64 x.1, .int .i64 x.2.1, v]) (hB : B ≤ w.heap.size) (hT : totCatch x ≤ 1048576) :
    Calls Try.prog 34 #[.agg #[.int .i64 x.1, .int .i64 x.2.1, v]] w fun e w' => e = .returned (.agg #[.int .i64 (caF x), .int .i64 (ackqV x)]) ∧ Below w.heap.size w w' := by
  obtain ⟨vv, ev, rk, -⟩ := rd_Catch hr
  simp only [List.cons.injEq, and_true, true_and] at ev
  subst ev
  obtain ⟨a, cap, ev2⟩ := row_form rk
  simp only [List.cons.injEq, and_true] at ev2
  subst ev2
  have HC : Hid (∀ W, Below w.heap.size w W → Calls Try.prog 35 #[.agg #[.int .i64 x.1, .int .i64 x.2.1, .slice a x.2.2.1.length cap]] W fun e w' => e = .returned (.int .i64 (caF x)) ∧ Below W.heap.size W w') :=
    fun W hW => iCatchFault x _ W B (Sh.Rd.below hr hB hW) (Nat.le_trans hB hW.size) hT
  have HO : Hid (caF x = 0 → (0 ≤ x.1 ∧ x.1 ≤ 65535) ∧ 0 ≤ x.2.1 ∧ x.2.1 ≤ 1000000) := fun h => ⟨(ca_ok h).1, (ca_ok h).2.1⟩
  have HV : Hid (ackqV x = if caF x = 0 then wrp (x.1 + x.2.1) else 0) := rfl
  clear hr rk hT hB
  generalize ackqV x = V at *
  generalize caF x = F at *
  generalize x.1 = y0 at *
  generalize x.2.1 = y1 at *
  generalize x.2.2.1.length = n at *
  have hv := HV.out
  clear HV
  by_cases hF : F = 0
  · obtain ⟨⟨p0, p1⟩, p2, p3⟩ := HO.out hF
    rw [if_pos hF] at hv
    have hF' : (F != 0) = false := by simp [hF]
    subst hv hF
    clear HO
    go_enter Try.func34, Try.ntmps34
    go_wp2_with fail
    refine (HC.out _ (by go_grown)).mono ?_
    rintro e w1 ⟨rfl, hb⟩
    have k0 : ∀ o, w1.cell? ⟨w.heap.size, o, none⟩ = (#[.int .i64 y0, .int .i64 y1, .slice a n cap] : Array Value)[o]? := fun o => by rw [hb.cell (p := ⟨w.heap.size, o, none⟩) (by simp; omega)]; simp [go_sem]
    have k1 : ∀ o, w1.cell? ⟨w.heap.size + 1, o, none⟩ = (#[.int .i64 0, .int .i64 0] : Array Value)[o]? := fun o => by rw [hb.cell (p := ⟨w.heap.size + 1, o, none⟩) (by simp)]; simp [go_sem]
    have f1 : ∀ o, w1.frozen? ⟨w.heap.size + 1, o, none⟩ = false := fun o => by rw [hb.frozen (p := ⟨w.heap.size + 1, o, none⟩) (by simp)]; simp [go_sem]
    have HB : Hid (Below w.heap.size w w1) := Below.trans (by go_grown) (hb.mono (by simp; omega))
    have z1 : w.heap.size < w1.heap.size := by have := hb.size; simp at this; omega
    have z2 : w.heap.size + 1 < w1.heap.size := by have := hb.size; simp at this; omega
    clear hb HC
    go_wp2_with (go_at_call 94; refine (iAdd _ _ _).mono ?_; rintro e w' ⟨rfl, hw⟩; subst w')
    refine bodyPost_ret (v := .agg #[.int .i64 0, .int .i64 (wrp (y0 + y1))]) (by simp [results, Try.results34, go_sem, k1]) rfl ⟨rfl, ?_⟩
    have hB1 := HB.out
    clear k0 k1 f1 HB
    go_grown
  · rw [if_neg hF] at hv
    have hF' : (F != 0) = true := by simp [hF]
    subst hv
    clear HO hF
    go_enter Try.func34, Try.ntmps34
    go_wp2_with fail
    refine (HC.out _ (by go_grown)).mono ?_
    rintro e w1 ⟨rfl, hb⟩
    have k0 : ∀ o, w1.cell? ⟨w.heap.size, o, none⟩ = (#[.int .i64 y0, .int .i64 y1, .slice a n cap] : Array Value)[o]? := fun o => by rw [hb.cell (p := ⟨w.heap.size, o, none⟩) (by simp; omega)]; simp [go_sem]
    have k1 : ∀ o, w1.cell? ⟨w.heap.size + 1, o, none⟩ = (#[.int .i64 0, .int .i64 0] : Array Value)[o]? := fun o => by rw [hb.cell (p := ⟨w.heap.size + 1, o, none⟩) (by simp)]; simp [go_sem]
    have f1 : ∀ o, w1.frozen? ⟨w.heap.size + 1, o, none⟩ = false := fun o => by rw [hb.frozen (p := ⟨w.heap.size + 1, o, none⟩) (by simp)]; simp [go_sem]
    have HB : Hid (Below w.heap.size w w1) := Below.trans (by go_grown) (hb.mono (by simp; omega))
    have z1 : w.heap.size < w1.heap.size := by have := hb.size; simp at this; omega
    have z2 : w.heap.size + 1 < w1.heap.size := by have := hb.size; simp at this; omega
    clear hb HC
    go_wp2_with fail
    refine bodyPost_ret (v := .agg #[.int .i64 F, .int .i64 0]) (by simp [results, Try.results34, go_sem, k1]) rfl ⟨rfl, ?_⟩
    have hB1 := HB.out
    clear k0 k1 f1 HB
    go_grown
set_option maxHeartbeats 1000000 in
theorem iPlaceOfSeq (x : DCatch) (v : Value) (q : Int) (w : World) (B : Nat) (hr : shCatch.Rd w B x [.int .i64 x.1, .int .i64 x.2.1, v]) (hB : B ≤ w.heap.size) (hT : totCatch x ≤ 1048576) :
    Calls Try.prog 33 #[.agg #[.int .i64 x.1, .int .i64 x.2.1, v], .int .i64 q] w fun e w' => e = .returned (.agg #[.int .i64 (plqC x q), .int .i64 (plqV x q)]) ∧ Below w.heap.size w w' := by
  obtain ⟨vv, ev, rk, -⟩ := rd_Catch hr
  simp only [List.cons.injEq, and_true, true_and] at ev
  subst ev
  obtain ⟨a, cap, ev2⟩ := row_form rk
  simp only [List.cons.injEq, and_true] at ev2
  subst ev2
  have HC : Hid (∀ W, Below w.heap.size w W → Calls Try.prog 35 #[.agg #[.int .i64 x.1, .int .i64 x.2.1, .slice a x.2.2.1.length cap]] W fun e w' => e = .returned (.int .i64 (caF x)) ∧ Below W.heap.size W w') :=
    fun W hW => iCatchFault x _ W B (Sh.Rd.below hr hB hW) (Nat.le_trans hB hW.size) hT
  have HO : Hid (caF x = 0 → (0 ≤ x.1 ∧ x.1 ≤ 65535) ∧ 0 ≤ x.2.1 ∧ x.2.1 ≤ 1000000) := fun h => ⟨(ca_ok h).1, (ca_ok h).2.1⟩
  have HV : Hid (plqV x q = if caF x = 0 then unwV (wrp (q + -x.1)) x.2.1 else 0) := by show _ = _; unfold plqV; rw [(unw_mod (a := wrp (q + -x.1)) (b := q - x.1) (by unfold wrp; omega)).2]
  have HU : Hid (plqC x q = if caF x = 0 then unwC (wrp (q + -x.1)) x.2.1 else caF x) := by show _ = _; unfold plqC; rw [(unw_mod (a := wrp (q + -x.1)) (b := q - x.1) (by unfold wrp; omega)).1]
  clear hr rk hT hB
  generalize plqV x q = V at *
  generalize plqC x q = U at *
  generalize caF x = F at *
  generalize x.1 = y0 at *
  generalize x.2.1 = y1 at *
  generalize x.2.2.1.length = n at *
  have hv := HV.out
  have hu := HU.out
  clear HV HU
  by_cases hF : F = 0
  · obtain ⟨⟨p0, p1⟩, p2, p3⟩ := HO.out hF
    rw [if_pos hF] at hv hu
    have hF' : (F != 0) = false := by simp [hF]
    subst hv hu hF
    clear HO
    have HW64 : Hid (IntKind.i64.wrap (-y0) = -y0) := by show _ = _; simp only [IntKind.wrap, IntKind.bits, IntKind.signed]; simp; omega
    go_enter Try.func33, Try.ntmps33
    go_wp2_with fail
    refine (HC.out _ (by go_grown)).mono ?_
    rintro e w1 ⟨rfl, hb⟩
    have k0 : ∀ o, w1.cell? ⟨w.heap.size, o, none⟩ = (#[.int .i64 y0, .int .i64 y1, .slice a n cap] : Array Value)[o]? := fun o => by rw [hb.cell (p := ⟨w.heap.size, o, none⟩) (by simp; omega)]; simp [go_sem]
    have k1 : ∀ o, w1.cell? ⟨w.heap.size + 1, o, none⟩ = (#[.int .i64 0, .int .i64 0] : Array Value)[o]? := fun o => by rw [hb.cell (p := ⟨w.heap.size + 1, o, none⟩) (by simp)]; simp [go_sem]
    have f1 : ∀ o, w1.frozen? ⟨w.heap.size + 1, o, none⟩ = false := fun o => by rw [hb.frozen (p := ⟨w.heap.size + 1, o, none⟩) (by simp)]; simp [go_sem]
    have HB : Hid (Below w.heap.size w w1) := Below.trans (by go_grown) (hb.mono (by simp; omega))
    have z1 : w.heap.size < w1.heap.size := by have := hb.size; simp at this; omega
    have z2 : w.heap.size + 1 < w1.heap.size := by have := hb.size; simp at this; omega
    clear hb HC
    go_wp2_with fail
    go_region_held3 (fun w' => w'.cell? ⟨w.heap.size, 0, none⟩ = some (.int .i64 y0) ∧ w'.cell? ⟨w.heap.size, 1, none⟩ = some (.int .i64 y1)) (first | go_keep)
      (first
      | (go_at_call 94; refine (iAdd _ _ _).mono ?_; rintro e w' ⟨rfl, hw⟩; subst w')
      | (go_at_call 93; refine (iUnwrap _ _ _).mono ?_; rintro e w2 ⟨rfl, hb2⟩; replace hb2 := bl_drew hb2; have p0 := bx_below k0 z1 hb2; have p1 := bx_below k1 z2 hb2; have h1 : (∀ o, w2.frozen? ⟨w.heap.size + 1, o, none⟩ = false) := (fun o => (by rw [(bcell hb2).2 _ o z2]; exact f1 o)); have HB2 : Hid (Below w.heap.size w w2) := HB.out.trans (hb2.mono (by omega)); have z3 : w.heap.size + 1 < w2.heap.size := Nat.lt_of_lt_of_le z2 hb2.size; clear hb2))
    all_goals (go_wp2_with fail)
    all_goals (refine bodyPost_ret (v := .agg #[.int .i64 (unwC (wrp (q + -y0)) y1), .int .i64 (unwV (wrp (q + -y0)) y1)]) (by simp [results, Try.results33, go_sem, p1, HW64.out]) rfl ⟨rfl, ?_⟩)
    all_goals (have hB1 := HB2.out; clear k0 k1 f1 p0 p1 h1 HB HB2; go_grown)
  · rw [if_neg hF] at hv hu
    have hF' : (F != 0) = true := by simp [hF]
    subst hv hu
    clear HO hF
    go_enter Try.func33, Try.ntmps33
    go_wp2_with fail
    refine (HC.out _ (by go_grown)).mono ?_
    rintro e w1 ⟨rfl, hb⟩
    have k0 : ∀ o, w1.cell? ⟨w.heap.size, o, none⟩ = (#[.int .i64 y0, .int .i64 y1, .slice a n cap] : Array Value)[o]? := fun o => by rw [hb.cell (p := ⟨w.heap.size, o, none⟩) (by simp; omega)]; simp [go_sem]
    have k1 : ∀ o, w1.cell? ⟨w.heap.size + 1, o, none⟩ = (#[.int .i64 0, .int .i64 0] : Array Value)[o]? := fun o => by rw [hb.cell (p := ⟨w.heap.size + 1, o, none⟩) (by simp)]; simp [go_sem]
    have f1 : ∀ o, w1.frozen? ⟨w.heap.size + 1, o, none⟩ = false := fun o => by rw [hb.frozen (p := ⟨w.heap.size + 1, o, none⟩) (by simp)]; simp [go_sem]
    have HB : Hid (Below w.heap.size w w1) := Below.trans (by go_grown) (hb.mono (by simp; omega))
    have z1 : w.heap.size < w1.heap.size := by have := hb.size; simp at this; omega
    have z2 : w.heap.size + 1 < w1.heap.size := by have := hb.size; simp at this; omega
    clear hb HC
    go_wp2_with fail
    refine bodyPost_ret (v := .agg #[.int .i64 U, .int .i64 0]) (by simp [results, Try.results33, go_sem, k1]) rfl ⟨rfl, ?_⟩
    have hB1 := HB.out
    clear k0 k1 f1 HB
    go_grown
end Go.Proofs.Ytioehciabgdbaaa
