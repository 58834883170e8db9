/- What the model answers where a sender is told up to where all came; nothing that was in memory turns; no condition but that loads are of at most a million bytes. -/
import Derived.Test.YtldddkdpoeeomaaRows
import Derived.Test.YtldddkdpoeeomaaBase
import Derived.Test.YtldddkdpoeeomaaNum
import Derived.Test.YtldddkdpoeeomaaNumWalks
import Derived.Test.YtldddkdpoeeomaaMem
import Derived.Test.YtldddkdpoeeomaaHBase
import Derived.Test.YtldddkdpoeeomaaHFlight
import Derived.Test.YtldddkdpoeeomaaHSender
import Derived.Test.YtldddkdpoeeomaaFlightDef
import Derived.Test.YtldddkdpoeeomaaAckDef
import Derived.Test.YtldddkdpoeeomaaSpecFlight
import Derived.Test.YtldddkdpoeeomaaSpecFlight2
import Derived.Test.YtldddkdpoeeomaaSpecFlight3
import Derived.Test.YtldddkdpoeeomaaSpecAck
import Derived.Test.YtldddkdpoeeomaaHMark
import Derived.Test.YtldddkdpoeeomaaMFlight
import Derived.Test.YtldddkdpoeeomaaMSender
import Derived.Test.YtldddkdpoeeomaaBox
namespace Go.Proofs.Ytldddkdpoeeomaa
open Go.RowKit
set_option linter.unusedVariables false

theorem sBadA (c : Int) (w : World) :
    Calls Try.prog 57 #[.int .i64 c] w fun e w' => e = .returned (.agg #[.int .i64 c, .int .i64 0, .int .i64 0, .int .i64 0, .slice none 0 0]) ∧ Below w.heap.size w w' := by
  go_enter Try.func57, Try.ntmps57
  go_wp2_with fail
  go_returns
  exact ⟨rfl, by go_grown⟩
theorem own_flsA {w : World} {lo hi : Nat} {y0 y1 y2 : Int} {l : List DFlight} {c0 c1 c2 v : Value} {u : Unit} (h : Own w lo hi shSender (y0, y1, y2, l, u) [c0, c1, c2, v]) : Own w lo hi shFlights l [v] := by
  obtain ⟨bs, h1, h2, h3⟩ := h
  obtain ⟨vv, ev, hk, -⟩ := ow_Sender h1
  simp only [List.cons.injEq, and_true] at ev
  rw [ev.2.2.2]
  exact ⟨bs, hk, h2, h3⟩
set_option maxHeartbeats 8000000 in
theorem sAckSender (x : DSender) (v : Value) (ack : Int) (w : World) (B : Nat) (hr : shSender.Rd w B x [.int .i64 x.1, .int .i64 x.2.1, .int .i64 x.2.2.1, v]) (hB : B ≤ w.heap.size) (hT : totSender x ≤ 1048576) :
    Calls Try.prog 22 #[.agg #[.int .i64 x.1, .int .i64 x.2.1, .int .i64 x.2.2.1, v], .int .i64 ack] w fun e w' => ∃ u, e = .returned (.agg #[.int .i64 (ackC x ack), .int .i64 (ackV x ack).1, .int .i64 (ackV x ack).2.1, .int .i64 (ackV x ack).2.2.1, u]) ∧ Own w' w.heap.size w'.heap.size shSender (ackV x ack) [.int .i64 (ackV x ack).1, .int .i64 (ackV x ack).2.1, .int .i64 (ackV x ack).2.2.1, u] ∧ Below w.heap.size w w' := by
  obtain ⟨vv, ev, rk, wf0, wf1, wf2⟩ := rd_Sender hr
  simp only [List.cons.injEq, and_true, true_and] at ev
  subst ev
  obtain ⟨a, cap, ev2⟩ := row_form rk
  simp only [List.cons.injEq, and_true] at ev2
  subst ev2
  obtain ⟨F, hFx⟩ : ∃ F, F = sndFault x := ⟨_, rfl⟩
  have HC : Hid (∀ W, Below w.heap.size w W → ∀ sb, (∀ o, W.cell? ⟨sb, o, none⟩ = (#[.int .i64 x.1, .int .i64 x.2.1, .int .i64 x.2.2.1, .slice a x.2.2.2.1.length cap] : Array Value)[o]?) → Calls Try.prog 48 #[.pointer (some ⟨sb, 0, none⟩)] W fun e w' => e = .returned (.int .i64 F) ∧ Below W.heap.size W w') :=
    fun W hW sb hc => by rw [hFx]; exact sL5Box x a _ cap W w 0 B rfl (Sh.Rd.below rk hB hW) (Nat.le_trans hB hW.size) hT sb hc
  have HCP : Hid (∀ W, Below w.heap.size w W → x.2.2.2.1.length ≤ 12 → Calls Try.prog 60 #[.agg #[.int .i64 x.1, .int .i64 x.2.1, .int .i64 x.2.2.1, .slice a x.2.2.2.1.length cap]] W fun e w' => ∃ u, e = .returned (.agg #[.int .i64 x.1, .int .i64 x.2.1, .int .i64 x.2.2.1, u]) ∧ Own w' W.heap.size w'.heap.size shSender x [.int .i64 x.1, .int .i64 x.2.1, .int .i64 x.2.2.1, u] ∧ Below W.heap.size W w') :=
    fun W hW h12 => sL5Copy x _ W B (hr.below hB hW) (Nat.le_trans hB hW.size) hT (by omega)
  by_cases hF : sndFault x = 0
  · obtain ⟨o1, o2, o3, o4⟩ := snd_ok hF
    have hF' : F = 0 := by rw [hFx]; exact hF
    subst hF'
    have b1 := inD_yes o1
    have b2 := inD_yes o2
    have b3 := inD_yes o3
    have eC : ackC x ack = ackC0 x ack := by unfold ackC; rw [if_pos hF]
    have HA : Hid (∀ (ca : Option Addr) (cn cc sb lo hi : Nat) (W : World), x.2.2.2.1.length = cn → (∀ o, W.cell? ⟨sb, o, none⟩ = (#[.int .i64 x.1, .int .i64 x.2.1, .int .i64 x.2.2.1, .slice ca cn cc] : Array Value)[o]?) → (∀ o, W.frozen? ⟨sb, o, none⟩ = false) → Own W lo hi shFlights x.2.2.2.1 [.slice ca cn cc] → lo ≤ hi → hi ≤ W.heap.size → ¬ (lo ≤ sb ∧ sb < hi) →
      Calls Try.prog 67 #[.pointer (some ⟨sb, 0, none⟩), .int .i64 ack] W fun e w' => e = .returned (.int .i64 (ackC0 x ack)) ∧ ∃ va vn vc, (∀ o, w'.cell? ⟨sb, o, none⟩ = (#[.int .i64 x.1, .int .i64 x.2.1, .int .i64 (ackD x ack).2.2.1, .slice va vn vc] : Array Value)[o]?) ∧ (∀ o, w'.frozen? ⟨sb, o, none⟩ = false) ∧
      Own w' lo w'.heap.size shFlights (ackD x ack).2.2.2.1 [.slice va vn vc] ∧ (∀ b, b < W.heap.size → b ≠ sb → w'.heap[b]? = W.heap[b]?) ∧ Below (min W.heap.size sb) W w') := fun ca cn cc sb lo hi W h1 h2 h3 h4 h5 h6 h7 => sL5Ack x ca cn cc sb ack W lo hi hF h1 h2 h3 h4 h5 h6 h7
    have HT12 : Hid (x.2.2.2.1.length ≤ 12) := o4
    have HV0 : Hid (¬ ackC0 x ack = 0 → ackV x ack = zSnd) := fun h => by unfold ackV; rw [eC, if_neg h]
    have HV1 : Hid (ackC0 x ack = 0 → ackV x ack = (x.1, x.2.1, (ackD x ack).2.2.1, (ackD x ack).2.2.2.1, ())) := fun h => by unfold ackV ackD; rw [eC, if_pos h, if_pos h]; rfl
    have HP : Hid (ackC0 x ack = 0 → (Lit.int .i64 (ackD x ack).2.2.1).wf = true) := fun h => by
      have hk : ackK x ack = 0 := by
        apply Classical.byContradiction; intro hn
        unfold ackC0 at h; rw [if_neg hn] at h; exact hn h
      have := ackP_bd hk
      unfold ackD; rw [if_pos h]
      show (Lit.int .i64 (if x.2.2.1 < ackP x ack then ackP x ack else x.2.2.1)).wf = true
      split <;> exact WalkArith.wf_i64 (by omega)
    have W0 : Hid _ := wf0
    have W1 : Hid _ := wf1
    rw [eC]
    clear hr rk hT hFx hF o1 o2 o3 wf0 wf1 wf2 eC
    obtain ⟨C0, hC0⟩ : ∃ C0, ackC0 x ack = C0 := ⟨_, rfl⟩
    obtain ⟨V, hV⟩ : ∃ V, ackV x ack = V := ⟨_, rfl⟩
    obtain ⟨A', hA'⟩ : ∃ A', (ackD x ack).2.2.1 = A' := ⟨_, rfl⟩
    obtain ⟨L', hL'⟩ : ∃ L', (ackD x ack).2.2.2.1 = L' := ⟨_, rfl⟩
    rw [hC0] at HA HV0 HV1 HP
    rw [hV] at HV0 HV1
    rw [hA', hL'] at HV1 HA
    rw [hA'] at HP
    rw [hC0, hV]
    clear hC0 hV hA' hL'
    obtain ⟨y0, y1, y2, l, _⟩ := x
    simp only at *
    obtain ⟨n, hn⟩ : ∃ n, l.length = n := ⟨_, rfl⟩
    rw [hn] at HC HCP HT12
    have HN : Hid (l.length = n) := hn
    rw [hn]
    clear hn
    go_enter Try.func22, Try.ntmps22
    go_wp2_with fail
    refine (HC.out _ (by go_grown) w.heap.size (fun o => by simp [go_sem])).mono ?_
    rintro e w1 ⟨rfl, hb⟩
    have k1 := boxB (w := _) (fun o => (by simp [go_sem] : _ = (#[.int .i64 0, .int .i64 0, .int .i64 0, .int .i64 0, .slice none 0 0] : Array Value)[o]?)) hb (b := w.heap.size + 1) (by simp)
    have f1 : ∀ o, w1.frozen? ⟨w.heap.size + 1, o, none⟩ = false := boxF (w := _) (fun o => by simp [go_sem]) hb (by simp)
    have k0 := boxB (w := _) (fun o => (by simp [go_sem] : _ = (#[.int .i64 y0, .int .i64 y1, .int .i64 y2, .slice a n cap] : Array Value)[o]?)) hb (b := w.heap.size) (by simp; omega)
    have z1 : w.heap.size + 1 < w1.heap.size := by have := hb.size; simp at this; omega
    have HB : Hid (Below w.heap.size w w1) := Below.trans (by go_grown) (hb.mono (by simp; omega))
    clear hb HC
    go_wp2_with fail
    refine (HCP.out _ HB.out HT12.out).mono ?_
    rintro e w2 ⟨u, rfl, ho, hb⟩
    obtain ⟨vv, ev, ru, -⟩ := rd_Sender (ho.rd (Nat.le_refl _))
    simp only [List.cons.injEq, and_true, true_and] at ev
    subst ev
    obtain ⟨ca, cc, ev2⟩ := row_form ru
    simp only [List.cons.injEq, and_true] at ev2
    subst ev2
    have HOF : Hid (Own w2 w1.heap.size w2.heap.size shFlights l [.slice ca n cc]) := by
      have h := own_flsA ho
      rw [HN.out] at h; exact h
    have k1' := boxB k1 hb (by omega)
    have f1' := boxF f1 hb (by omega)
    have HB2 : Hid (Below w.heap.size w w2) := HB.out.trans (hb.mono HB.out.size)
    have z2 : w1.heap.size ≤ w2.heap.size := hb.size
    rw [HN.out]
    clear hb k1 f1 k0 HB ho ru HCP
    go_wp2_with fail
    refine (HA.out ca n cc w2.heap.size w1.heap.size w2.heap.size _ HN.out (fun o => by simp [go_sem]) (fun o => by simp [go_sem]) (HOF.out.below (Nat.le_refl _) ((Below.refl _ _).alloc (Nat.le_refl _) _)) z2 (by simp) (by omega)).mono ?_
    rintro e w3 ⟨rfl, va, vn, vc, k3, f3, ho3, hk3, hb3⟩
    have hz3 := hb3.size
    simp at hz3
    have k1c : ∀ o, w3.cell? ⟨w.heap.size + 1, o, none⟩ = (#[.int .i64 0, .int .i64 0, .int .i64 0, .int .i64 0, .slice none 0 0] : Array Value)[o]? := fun o => by
      rw [World.cell?_of_block (w := _) (a := ⟨w.heap.size + 1, o, none⟩) (hk3 (w.heap.size + 1) (by simp; omega) (by omega)), ((Below.refl w2.heap.size w2).alloc (Nat.le_refl _) _).cell (p := ⟨w.heap.size + 1, o, none⟩) (by dsimp only; omega)]; exact k1' o
    have f1c : ∀ o, w3.frozen? ⟨w.heap.size + 1, o, none⟩ = false := fun o => by
      rw [World.frozen?_of_block (w := _) (a := ⟨w.heap.size + 1, o, none⟩) (hk3 (w.heap.size + 1) (by simp; omega) (by omega)), ((Below.refl w2.heap.size w2).alloc (Nat.le_refl _) _).frozen (p := ⟨w.heap.size + 1, o, none⟩) (by dsimp only; omega)]; exact f1' o
    have HB3 : Hid (Below w.heap.size w w3) := (HB2.out.alloc HB2.out.size _).trans (hb3.mono (by have := HB2.out.size; simp; omega))
    have HO3 : Hid (Own w3 w1.heap.size w3.heap.size shFlights L' [.slice va vn vc]) := ho3
    have z3 : w2.heap.size < w3.heap.size := cell_lt (k3 0)
    clear hk3 hb3 ho3 k1' f1' HB2 HOF
    by_cases hc : C0 = 0
    · have hv := HV1.out hc
      have hp := HP.out hc
      subst hc hv
      have WP : Hid _ := hp
      clear HV0 HV1 HP hp HA
      go_wp2_with fail
      refine bodyPost_ret (v := .agg #[.int .i64 0, .int .i64 y0, .int .i64 y1, .int .i64 A', .slice va vn vc]) (by simp [results, Try.results22, go_sem, k1c]) rfl ⟨_, rfl, ?_, ?_⟩
      · have h2 : Own w3 w1.heap.size w3.heap.size shSender (y0, y1, A', L', ()) [.int .i64 y0, .int .i64 y1, .int .i64 A', .slice va vn vc] := hOwnCons (hOwnInt w3 _ w1.heap.size W0.out) (hOwnCons (hOwnInt w3 _ w1.heap.size W1.out) (hOwnCons (hOwnInt w3 _ w1.heap.size WP.out) (hOwnCons HO3.out (hOwnNil _ _ _) (by omega) (Nat.le_refl _)) (Nat.le_refl _) (by omega)) (Nat.le_refl _) (by omega)) (Nat.le_refl _) (by omega)
        refine Own.mono (Own.keep h2 fun b hb hlt => ?_) (by omega) (by simp)
        repeat rw [Below.heap_setCell _ _ _ _ (by dsimp only; omega)]
      · have hB1 := HB3.out
        clear k3 f3 k1c f1c HO3 HB3
        go_grown
    · have hv := HV0.out hc
      subst hv
      have hc' : (C0 != 0) = true := by simp [hc]
      clear HV0 HV1 HP hc HA
      go_wp2_with (go_at_call 57; refine (sBadA _ _).mono ?_; rintro e w4 ⟨rfl, hb4⟩; have k4 := boxB k1c hb4 (by omega); have f4 := boxF f1c hb4 (by omega); have HB4 : Hid (Below w.heap.size w w4) := HB3.out.trans (hb4.mono (by omega)); have z4 : w.heap.size + 1 < w4.heap.size := (by have := hb4.size; omega); clear hb4)
      refine bodyPost_ret (v := .agg #[.int .i64 C0, .int .i64 0, .int .i64 0, .int .i64 0, .slice none 0 0]) (by simp [results, Try.results22, go_sem, k4]) rfl ⟨_, rfl, own_snd0 _ _ _ (by simp; omega) (WalkArith.wf_i64 (by omega)) (WalkArith.wf_i64 (by omega)) (WalkArith.wf_i64 (by omega)), ?_⟩
      have hB1 := HB4.out
      clear k3 f3 k1c f1c k4 f4 HO3 HB3 HB4
      go_grown
  · have e1 : ackC x ack = F := by unfold ackC; rw [if_neg hF, hFx]
    have e2 : ackV x ack = zSnd := by unfold ackV; rw [e1, if_neg (by rw [hFx]; exact hF)]
    have hF' : (F != 0) = true := by rw [hFx]; simp [hF]
    rw [e1, e2]
    clear hr rk hT HCP hF hFx e1 e2 wf0 wf1 wf2
    generalize x.1 = y0 at *
    generalize x.2.1 = y1 at *
    generalize x.2.2.1 = y2 at *
    generalize x.2.2.2.1.length = n at *
    go_enter Try.func22, Try.ntmps22
    go_wp2_with fail
    refine (HC.out _ (by go_grown) w.heap.size (fun o => by simp [go_sem])).mono ?_
    rintro e w1 ⟨rfl, hb⟩
    have k1 := boxB (w := _) (fun o => (by simp [go_sem] : _ = (#[.int .i64 0, .int .i64 0, .int .i64 0, .int .i64 0, .slice none 0 0] : Array Value)[o]?)) hb (b := w.heap.size + 1) (by simp)
    have f1 : ∀ o, w1.frozen? ⟨w.heap.size + 1, o, none⟩ = false := boxF (w := _) (fun o => by simp [go_sem]) hb (by simp)
    have k0 := boxB (w := _) (fun o => (by simp [go_sem] : _ = (#[.int .i64 y0, .int .i64 y1, .int .i64 y2, .slice a n cap] : Array Value)[o]?)) hb (b := w.heap.size) (by simp; omega)
    have z1 : w.heap.size + 1 < w1.heap.size := by have := hb.size; simp at this; omega
    have HB : Hid (Below w.heap.size w w1) := Below.trans (by go_grown) (hb.mono (by simp; omega))
    clear hb HC
    go_wp2_with (go_at_call 57; refine (sBadA _ _).mono ?_; rintro e w4 ⟨rfl, hb4⟩; have k4 := boxB k1 hb4 (by omega); have f4 := boxF f1 hb4 (by omega); have HB4 : Hid (Below w.heap.size w w4) := HB.out.trans (hb4.mono (by omega)); have z4 : w.heap.size + 1 < w4.heap.size := (by have := hb4.size; omega); clear hb4)
    refine bodyPost_ret (v := .agg #[.int .i64 F, .int .i64 0, .int .i64 0, .int .i64 0, .slice none 0 0]) (by simp [results, Try.results22, go_sem, k4]) rfl ⟨_, rfl, own_snd0 _ _ _ (by simp; omega) (WalkArith.wf_i64 (by omega)) (WalkArith.wf_i64 (by omega)) (WalkArith.wf_i64 (by omega)), ?_⟩
    have hB1 := HB4.out
    clear k1 f1 k0 k4 f4 HB HB4
    go_grown
end Go.Proofs.Ytldddkdpoeeomaa
