/- How many places were seen, as the program and its model count them; nothing that was in memory turns; no condition but that there are at most a million spans. -/
import Derived.Test.YtioehciabgdbaaaRows
import Derived.Test.YtioehciabgdbaaaBase
import Derived.Test.YtioehciabgdbaaaMem
import Derived.Test.YtioehciabgdbaaaHBase
import Derived.Test.YtioehciabgdbaaaHSpan
import Derived.Test.YtioehciabgdbaaaHCatch
import Derived.Test.YtioehciabgdbaaaMSpan
import Derived.Test.YtioehciabgdbaaaSpanRow
import Derived.Test.YtioehciabgdbaaaCatDef
import Derived.Test.YtioehciabgdbaaaCatSpec
import Derived.Test.YtioehciabgdbaaaCatImpl
import Derived.Test.YtioehciabgdbaaaBox
namespace Go.Proofs.Ytioehciabgdbaaa
open Go.RowKit
set_option linter.unusedVariables false
set_option maxRecDepth 8000

theorem allS_wf {x : DCatch} (h1 : (Lit.int .i64 x.2.1).wf = true) (h2 : WfS x.2.2.1) : WfS (allS x) := fun s hs => by
  rcases List.mem_cons.1 hs with rfl | hs
  · exact ⟨WalkArith.wf_i64 (by omega), h1⟩
  · exact h2 s hs
theorem allS_len (x : DCatch) : (allS x).length = x.2.2.1.length + 1 := rfl
set_option maxHeartbeats 2000000 in
theorem iSeenOf (x : DCatch) (v : Value) (w : World) (B : Nat) (hr : shCatch.Rd w B x [.int .i64 x.1, .int .i64 x.2.1, v]) (hB : B ≤ w.heap.size) (hT : x.2.2.1.length ≤ 100000) :
    Calls Try.prog 85 #[.agg #[.int .i64 x.1, .int .i64 x.2.1, v]] w fun e w' => ∃ u, e = .returned u ∧ OS w' w.heap.size u (allS x) ∧ Below w.heap.size w w' := by
  obtain ⟨vv, ev, rk, wf0, wf1⟩ := rd_Catch hr
  simp only [List.cons.injEq, and_true, true_and] at ev
  subst ev
  obtain ⟨a, cap, ev2⟩ := row_form rk
  simp only [List.cons.injEq, and_true] at ev2
  subst ev2
  have HCP : Hid (a = none → cap = 0) := (rd_cap rk).2.2.2
  have HRS : Hid (∀ W, Below w.heap.size w W → RS W a x.2.2.1) := fun W hW => RS.of_rd (rk.below hB hW)
  have HAL : Hid (allS x = [(0, x.2.1, ())] ++ x.2.2.1) := rfl
  have HW1 : Hid _ := wf1
  clear hr rk wf0 wf1
  generalize allS x = AL at *
  obtain ⟨y0, y1, l, _⟩ := x
  simp only at *
  obtain ⟨n, hn⟩ : ∃ n, l.length = n := ⟨_, rfl⟩
  have HN : Hid (l.length = n) := hn
  rw [hn] at hT ⊢
  clear hn
  have HOS : Hid (∀ (W : World) (H : Nat), W.heap.size = H → OS (W.alloc (.cells #[.int .i64 0, .int .i64 y1] 129)) H (.slice (some ⟨H, 0, none⟩) 1 1) [(0, y1, ())]) := fun W H e => by subst e; exact OS.lit W [(0, y1, ())] (fun s hs => by simp at hs; subst hs; exact ⟨WalkArith.wf_i64 (by omega), HW1.out⟩) (by simp)
  go_enter Try.func85, Try.ntmps85
  go_wp2_with (at_builtin; refine app_plS _ rfl _ _ rfl (w.heap.size + 1) (.slice (some ⟨w.heap.size + 1, 0, none⟩) 1 1) [(0, y1, ())] (by rfl) (HOS.out _ (w.heap.size + 1) (by simp)) a l n cap HN.out (by rfl) (HRS.out _ (by go_grown)) HCP.out (by simp; omega) (by simp) ?_; intro v' w1 ho1 hb1 hg1 hat1)
  go_ret
  refine ⟨_, rfl, ?_, ?_⟩
  · rw [HAL.out]; exact ho1.mono (by omega)
  · have hz : Below w.heap.size w w1 := Below.trans (by go_grown) (hb1.mono (by omega))
    exact hz
theorem sum_step {l : List DSpan} {k : Nat} {e T : Int} (hk : k < l.length) (h : e + sumW (l.drop k) = T) : (e + l[k].2.1 - l[k].1) + sumW (l.drop (k + 1)) = T := by
  rw [sumW_at hk] at h; omega
theorem sum_end {l : List DSpan} {e T : Int} (h : e + sumW (l.drop l.length) = T) : e = T := by
  rw [List.drop_length] at h; simpa [sumW] using h
theorem all_bd {x : DCatch} (h : caF x = 0) : ∀ t ∈ allS x, 0 ≤ t.1 ∧ t.1 ≤ t.2.1 ∧ t.2.1 ≤ 1000100 := by
  obtain ⟨_, h2, _, h4⟩ := ca_ok h
  intro t ht
  rcases List.mem_cons.1 ht with rfl | ht
  · exact ⟨Int.le_refl _, h2.1, by show x.2.1 ≤ _; omega⟩
  · have := (sps_sp h4).2 t ht
    omega
theorem sps_bd {x : DCatch} (h : caF x = 0) : ∀ t ∈ x.2.2.1, 0 ≤ t.1 ∧ t.1 ≤ t.2.1 ∧ t.2.1 ≤ 1000100 := fun t ht => all_bd h t (List.mem_cons_of_mem _ ht)
set_option maxHeartbeats 2000000 in
theorem iCaughtOf (x : DCatch) (v : Value) (w : World) (B : Nat) (hr : shCatch.Rd w B x [.int .i64 x.1, .int .i64 x.2.1, v]) (hB : B ≤ w.heap.size) (hT : totCatch x ≤ 1048576) :
    Calls Try.prog 32 #[.agg #[.int .i64 x.1, .int .i64 x.2.1, v]] w fun e w' => e = .returned (.agg #[.int .i64 (caF x), .int .i64 (cauV x)]) ∧ Below w.heap.size w w' := by
  obtain ⟨vv, ev, rk, -⟩ := rd_Catch hr
  simp only [List.cons.injEq, and_true, true_and] at ev
  subst ev
  obtain ⟨a, cap, ev2⟩ := row_form rk
  simp only [List.cons.injEq, and_true] at ev2
  subst ev2
  have HC : Hid (∀ W, Below w.heap.size w W → Calls Try.prog 35 #[.agg #[.int .i64 x.1, .int .i64 x.2.1, .slice a x.2.2.1.length cap]] W fun e w' => e = .returned (.int .i64 (caF x)) ∧ Below W.heap.size W w') :=
    fun W hW => iCatchFault x _ W B (Sh.Rd.below hr hB hW) (Nat.le_trans hB hW.size) hT
  have HS : Hid (x.2.2.1.length ≤ 100000 → ∀ W, Below w.heap.size w W → Calls Try.prog 85 #[.agg #[.int .i64 x.1, .int .i64 x.2.1, .slice a x.2.2.1.length cap]] W fun e w' => ∃ u, e = .returned u ∧ OS w' W.heap.size u (allS x) ∧ Below W.heap.size W w') :=
    fun hl W hW => iSeenOf x _ W B (Sh.Rd.below hr hB hW) (Nat.le_trans hB hW.size) hl
  have HO : Hid (caF x = 0 → x.2.2.1.length ≤ 20 ∧ (allS x).length ≤ 21 ∧ ∀ t ∈ allS x, 0 ≤ t.1 ∧ t.1 ≤ t.2.1 ∧ t.2.1 ≤ 1000100) := fun h => ⟨(ca_ok h).2.2.1, by rw [allS_len]; have := (ca_ok h).2.2.1; omega, all_bd h⟩
  have HV : Hid (cauV x = if caF x = 0 then sumW (allS x) else 0) := rfl
  clear hr rk hT hB
  generalize cauV x = V at *
  generalize caF x = F at *
  generalize allS x = l at *
  generalize x.1 = y0 at *
  generalize x.2.1 = y1 at *
  generalize x.2.2.1.length = n at *
  by_cases hF : F = 0
  · obtain ⟨p0, p1, p3⟩ := HO.out hF
    have HP3 : Hid _ := p3
    have HSS : Hid _ := HS.out (by omega)
    have hv := HV.out
    rw [if_pos hF] at hv
    have HVV : Hid (0 + sumW (l.drop 0) = V) := by show _ = _; rw [hv]; simp
    have hF' : (F != 0) = false := by simp [hF]
    subst hF
    clear HO HV hv p3 HS
    go_enter Try.func32, Try.ntmps32
    go_wp2_with fail
    refine (HC.out _ (by go_grown)).mono ?_
    rintro e w1 ⟨rfl, hb⟩
    have k0 : ∀ o, w1.cell? ⟨w.heap.size, o, none⟩ = (#[.int .i64 y0, .int .i64 y1, .slice a n cap] : Array Value)[o]? := fun o => by rw [hb.cell (p := ⟨w.heap.size, o, none⟩) (by simp; omega)]; simp [go_sem]
    have k1 : ∀ o, w1.cell? ⟨w.heap.size + 1, o, none⟩ = (#[.int .i64 0, .int .i64 0] : Array Value)[o]? := fun o => by rw [hb.cell (p := ⟨w.heap.size + 1, o, none⟩) (by simp)]; simp [go_sem]
    have f1 : ∀ o, w1.frozen? ⟨w.heap.size + 1, o, none⟩ = false := fun o => by rw [hb.frozen (p := ⟨w.heap.size + 1, o, none⟩) (by simp)]; simp [go_sem]
    have HB : Hid (Below w.heap.size w w1) := Below.trans (by go_grown) (hb.mono (by simp; omega))
    have z1 : w.heap.size < w1.heap.size := by have := hb.size; simp at this; omega
    have z2 : w.heap.size + 1 < w1.heap.size := by have := hb.size; simp at this; omega
    clear hb HC
    go_wp2_with fail
    refine (HSS.out _ HB.out).mono ?_
    rintro e w2 ⟨u, rfl, ho2, hb2⟩
    obtain ⟨ua, uc, eu, rs, -, -, hcm⟩ := ho2.rs
    subst eu
    have hmx : l.length ≤ 1000 := by omega
    have HRS : Hid _ := rs
    have r1 := bx_below k1 z2 hb2
    have g1 : ∀ o, w2.frozen? ⟨w.heap.size + 1, o, none⟩ = false := fun o => by rw [(bcell hb2).2 _ o z2]; exact f1 o
    have HB2 : Hid (Below w.heap.size w w2) := HB.out.trans (hb2.mono (by omega))
    have z3 : w.heap.size + 1 < w2.heap.size := Nat.lt_of_lt_of_le z2 hb2.size
    obtain ⟨N, hN⟩ : ∃ n, l.length = n := ⟨_, rfl⟩
    have HN : Hid (l.length = N) := hN
    rw [hN] at hmx ⊢
    clear rs ho2 hb2 k0 k1 f1 HB HSS hN hcm
    go_wp2_with fail
    go_loopw [4, 16] (fun t i wr => ∃ (k : Nat) (e : Int), k ≤ N ∧ i = .int .i64 k ∧ t = .int .i64 e ∧ 0 ≤ e ∧ e ≤ 1000100 * (k : Int) ∧ Hid (e + sumW (l.drop k) = V) ∧ Hid (Below w2.heap.size w2 wr)) (fun _ i _ => N - (intOf i).toNat)
    case atStart => exact ⟨0, 0, Nat.zero_le _, rfl, rfl, by omega, by omega, HVV, Below.refl _ _⟩
    case round =>
      obtain ⟨k, e, hk, rfl, rfl, he0, he1, hs, HBr⟩ := hrel
      by_cases hlt : k < N
      · have hkl : k < l.length := by have := HN.out; omega
        rcases HRS.out.mem with e0 | ⟨b, off, ha, hcc⟩
        · exfalso; rw [e0] at hkl; simp at hkl
        · subst ha
          obtain ⟨q0, q1⟩ := hcc k hkl
          have hbl : b < w2.heap.size := cell_lt q0
          replace q0 := (HBr.out.cell (p := ⟨b, off + k * 2, none⟩) hbl).trans q0
          replace q1 := (HBr.out.cell (p := ⟨b, off + k * 2 + 1, none⟩) hbl).trans q1
          have hp := HP3.out l[k] (List.getElem_mem hkl)
          have HS : Hid _ := sum_step hkl hs.out
          have hkn : (k : Int) < (N : Int) := by omega
          generalize l[k].1 = z0 at *
          generalize l[k].2.1 = z1 at *
          obtain ⟨hp0, hp1, hp2⟩ := hp
          clear hs hcc
          go_wp2_with fail
          go_roundw
          case rel => exact ⟨k + 1, e + (z1 - z0), by omega, by go_num, rfl, by omega, by push_cast; omega, (by have := HS.out; show _ = _; omega), HBr.out.alloc HBr.out.size _⟩
          case measure => simp [intOf]; omega
      · obtain rfl : k = N := by omega
        have he := hs.out
        rw [← HN.out] at he
        have he := sum_end he
        subst he
        have r2 := bx_below r1 z3 HBr.out
        have g2 : ∀ o, wr.frozen? ⟨w.heap.size + 1, o, none⟩ = false := fun o => by rw [(bcell HBr.out).2 _ o z3]; exact g1 o
        have HB3 : Hid (Below w.heap.size w wr) := HB2.out.trans (HBr.out.mono (by omega))
        go_wp2_with fail
        refine bodyPost_ret (v := .agg #[.int .i64 0, .int .i64 e]) (by simp [results, Try.results32, go_sem, r2]) rfl ⟨rfl, ?_⟩
        have hB1 := HB3.out
        clear r1 r2 g1 g2 HB2 HB3
        go_grown
  · have hv := HV.out
    rw [if_neg hF] at hv
    have hF' : (F != 0) = true := by simp [hF]
    subst hv
    clear HO HV hF HS
    go_enter Try.func32, Try.ntmps32
    go_wp2_with fail
    refine (HC.out _ (by go_grown)).mono ?_
    rintro e w1 ⟨rfl, hb⟩
    have k1 : ∀ o, w1.cell? ⟨w.heap.size + 1, o, none⟩ = (#[.int .i64 0, .int .i64 0] : Array Value)[o]? := fun o => by rw [hb.cell (p := ⟨w.heap.size + 1, o, none⟩) (by simp)]; simp [go_sem]
    have f1 : ∀ o, w1.frozen? ⟨w.heap.size + 1, o, none⟩ = false := fun o => by rw [hb.frozen (p := ⟨w.heap.size + 1, o, none⟩) (by simp)]; simp [go_sem]
    have HB : Hid (Below w.heap.size w w1) := Below.trans (by go_grown) (hb.mono (by simp; omega))
    have z2 : w.heap.size + 1 < w1.heap.size := by have := hb.size; simp at this; omega
    clear hb HC
    go_wp2_with fail
    refine bodyPost_ret (v := .agg #[.int .i64 F, .int .i64 0]) (by simp [results, Try.results32, go_sem, k1]) rfl ⟨rfl, ?_⟩
    have hB1 := HB.out
    clear k1 f1 HB
    go_grown
end Go.Proofs.Ytioehciabgdbaaa
