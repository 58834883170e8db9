/- What the model answers of a flight that is touched; nothing that was in memory turns; no condition but that loads are of at most a million bytes. -/
import Derived.Test.YtacbpielhhejkalRows
import Derived.Test.YtacbpielhhejkalBase
import Derived.Test.YtacbpielhhejkalNum
import Derived.Test.YtacbpielhhejkalNumWalks
import Derived.Test.YtacbpielhhejkalMem
import Derived.Test.YtacbpielhhejkalHBase
import Derived.Test.YtacbpielhhejkalHFlight
import Derived.Test.YtacbpielhhejkalHSender
import Derived.Test.YtacbpielhhejkalFlightDef
import Derived.Test.YtacbpielhhejkalSpecFlight
import Derived.Test.YtacbpielhhejkalSpecFlight2
import Derived.Test.YtacbpielhhejkalSpecFlight3
import Derived.Test.YtacbpielhhejkalFlightSet
import Derived.Test.YtacbpielhhejkalSpecFlight6
import Derived.Deep.RegionHeld3
import Derived.Deep.CutRange
import Derived.Deep.RegionLaw
import Derived.Deep.DeepCutAuto
import Derived.Test.YtacbpielhhejkalHMark
import Derived.Test.YtacbpielhhejkalMFlight
import Derived.Test.YtacbpielhhejkalMSender
import Derived.Test.YtacbpielhhejkalAppBytes
import Derived.Test.YtacbpielhhejkalApp
import Derived.Test.YtacbpielhhejkalMemRow
import Derived.Test.YtacbpielhhejkalMemApp
import Derived.Deep.DeepMust
import Derived.Test.YtacbpielhhejkalBox
namespace Go.Proofs.Ytacbpielhhejkal
open Go.RowKit
set_option linter.unusedVariables false

theorem sBad7 (c : Int) (w : World) :
    Calls Try.prog 40 #[.int .i64 c] w fun e w' => e = .returned (.agg #[.int .i64 c, .int .i64 0, .int .i64 0, .int .i64 0, .slice none 0 0]) ∧ Below w.heap.size w w' := by
  go_enter Try.func40, Try.ntmps40
  go_wp2_with fail
  go_returns
  exact ⟨rfl, by go_grown⟩
theorem own_fls7 {w : World} {lo hi : Nat} {y0 y1 y2 : Int} {l : List DFlight} {c0 c1 c2 v : Value} {u : Unit} (h : Own w lo hi shSender (y0, y1, y2, l, u) [c0, c1, c2, v]) : Own w lo hi shFlights l [v] := by
  obtain ⟨bs, h1, h2, h3⟩ := h
  obtain ⟨vv, ev, hk, -⟩ := ow_Sender h1
  simp only [List.cons.injEq, and_true] at ev
  rw [ev.2.2.2]
  exact ⟨bs, hk, h2, h3⟩
set_option maxHeartbeats 16000000 in
theorem sTouchFlight (x : DSender) (v : Value) (i now : Int) (w : World) (B : Nat) (hr : shSender.Rd w B x [.int .i64 x.1, .int .i64 x.2.1, .int .i64 x.2.2.1, v]) (hB : B ≤ w.heap.size) (hT : totSender x ≤ 1048576) :
    Calls Try.prog 16 #[.agg #[.int .i64 x.1, .int .i64 x.2.1, .int .i64 x.2.2.1, v], .int .i64 i, .int .i64 now] w fun e w' => ∃ u, e = .returned (.agg #[.int .i64 (tchC x i now), .int .i64 (tchV x i now).1, .int .i64 (tchV x i now).2.1, .int .i64 (tchV x i now).2.2.1, u]) ∧ Own w' w.heap.size w'.heap.size shSender (tchV x i now) [.int .i64 (tchV x i now).1, .int .i64 (tchV x i now).2.1, .int .i64 (tchV x i now).2.2.1, u] ∧ Below w.heap.size w w' := by
  obtain ⟨vv, ev, rk, wf0, wf1, wf2⟩ := rd_Sender hr
  simp only [List.cons.injEq, and_true, true_and] at ev
  subst ev
  obtain ⟨a, cap, ev2⟩ := row_form rk
  simp only [List.cons.injEq, and_true] at ev2
  subst ev2
  obtain ⟨F, hFx⟩ : ∃ F, F = sndFault x := ⟨_, rfl⟩
  have HC : Hid (∀ W, Below w.heap.size w W → ∀ sb, (∀ o, W.cell? ⟨sb, o, none⟩ = (#[.int .i64 x.1, .int .i64 x.2.1, .int .i64 x.2.2.1, .slice a x.2.2.2.1.length cap] : Array Value)[o]?) → Calls Try.prog 27 #[.pointer (some ⟨sb, 0, none⟩)] W fun e w' => e = .returned (.int .i64 F) ∧ Below W.heap.size W w') :=
    fun W hW sb hc => by rw [hFx]; exact sL5Box x a _ cap W w 0 B rfl (Sh.Rd.below rk hB hW) (Nat.le_trans hB hW.size) hT sb hc
  have HCP : Hid (∀ W, Below w.heap.size w W → x.2.2.2.1.length ≤ 12 → Calls Try.prog 42 #[.agg #[.int .i64 x.1, .int .i64 x.2.1, .int .i64 x.2.2.1, .slice a x.2.2.2.1.length cap]] W fun e w' => ∃ u, e = .returned (.agg #[.int .i64 x.1, .int .i64 x.2.1, .int .i64 x.2.2.1, u]) ∧ Own w' W.heap.size w'.heap.size shSender x [.int .i64 x.1, .int .i64 x.2.1, .int .i64 x.2.2.1, u] ∧ Below W.heap.size W w') :=
    fun W hW h12 => sL5Copy x _ W B (hr.below hB hW) (Nat.le_trans hB hW.size) hT (by omega)
  have W0 : Hid _ := wf0
  have W1 : Hid _ := wf1
  have W2 : Hid _ := wf2
  clear wf0 wf2
  have hmx : x.2.2.2.1.length ≤ 1048576 := by unfold totSender totFlights at hT; omega
  by_cases hF : sndFault x = 0
  · obtain ⟨o1, o2, o3, o4⟩ := snd_ok hF
    have hF' : F = 0 := by rw [hFx]; exact hF
    subst hF'
    by_cases t1 : inD i 0 ((x.2.2.2.1.length : Int) - 1) = true
    · by_cases t2 : inD now 0 1000000 = true
      · have e1 : tchC x i now = 0 := by unfold tchC; rw [if_pos hF, if_pos t1, if_pos t2]
        have e2 : tchV x i now = (x.1, x.2.1, x.2.2.1, tchL x.2.2.2.1 i.toNat now, ()) := by unfold tchV; rw [e1, if_pos rfl]
        rw [e1, e2]
        obtain ⟨i0, i1⟩ := inD_yes t1
        obtain ⟨n0, n1⟩ := inD_yes t2
        have HTR : Hid (∀ k (hk : k < x.2.2.2.1.length), 1 ≤ x.2.2.2.1[k].2.2.2.2.1 ∧ x.2.2.2.1[k].2.2.2.2.1 ≤ 1000) := fls_tries hF
        have HT12 : Hid (x.2.2.2.1.length ≤ 12) := o4
        clear hr rk hT wf1 hF hFx o1 o2 o3 e1 e2
        obtain ⟨y0, y1, y2, l, _⟩ := x
        simp only at *
        have W1' : Hid _ := W1
        obtain ⟨n, hn⟩ : ∃ n, l.length = n := ⟨_, rfl⟩
        rw [hn] at HC HCP HT12 i1 t1 hmx ⊢
        have HN : Hid (l.length = n) := hn
        obtain ⟨k, rfl⟩ : ∃ k : Nat, i = (k : Int) := ⟨i.toNat, by omega⟩
        have hkn : k < n := by omega
        rw [Int.toNat_natCast]
        clear hn
        go_enter Try.func16, Try.ntmps16
        go_wp2_with fail
        refine (HC.out _ (by go_grown) w.heap.size (fun o => by simp [go_sem])).mono ?_
        rintro e w1 ⟨rfl, hb⟩
        have k1 := boxB (w := _) (fun o => (by simp [go_sem] : _ = (#[.int .i64 0, .int .i64 0, .int .i64 0, .int .i64 0, .slice none 0 0] : Array Value)[o]?)) hb (b := w.heap.size + 1) (by simp)
        have f1 : ∀ o, w1.frozen? ⟨w.heap.size + 1, o, none⟩ = false := boxF (w := _) (fun o => by simp [go_sem]) hb (by simp)
        have k0 := boxB (w := _) (fun o => (by simp [go_sem] : _ = (#[.int .i64 y0, .int .i64 y1, .int .i64 y2, .slice a n cap] : Array Value)[o]?)) hb (b := w.heap.size) (by simp; omega)
        have z1 : w.heap.size + 1 < w1.heap.size := by have := hb.size; simp at this; omega
        have HB : Hid (Below w.heap.size w w1) := Below.trans (by go_grown) (hb.mono (by simp; omega))
        clear hb HC
        go_wp2_with (first | (go_at_call 41; refine (sInD _ _ _ _).mono ?_; rintro e w' ⟨rfl, hw⟩; subst w') | (go_at_call 28; refine (sTickD _ _).mono ?_; rintro e w' ⟨rfl, hw⟩; subst w'))
        refine (HCP.out _ HB.out HT12.out).mono ?_
        rintro e w2 ⟨u, rfl, ho, hb⟩
        obtain ⟨vv, ev, ru, -⟩ := rd_Sender (ho.rd (Nat.le_refl _))
        simp only [List.cons.injEq, and_true, true_and] at ev
        subst ev
        obtain ⟨ca, cc, ev2⟩ := row_form ru
        simp only [List.cons.injEq, and_true] at ev2
        subst ev2
        have HOF : Hid (Own w2 w1.heap.size w2.heap.size shFlights l [.slice ca n cc]) := by
          have h := own_fls7 ho
          rw [HN.out] at h; exact h
        have k1' := boxB k1 hb (by omega)
        have f1' := boxF f1 hb (by omega)
        have HB2 : Hid (Below w.heap.size w w2) := HB.out.trans (hb.mono HB.out.size)
        have z2 : w1.heap.size ≤ w2.heap.size := hb.size
        rw [HN.out]
        clear hb k1 f1 k0 HB ho ru HCP
        go_wp2_with fail
        refine (sL5Touch l ca n cc w2.heap.size k now _ w1.heap.size w2.heap.size HN.out (by simp [go_sem]) (HOF.out.below (Nat.le_refl _) ((Below.refl _ _).alloc (Nat.le_refl _) _)) (by omega) hkn (by have := HT12.out; omega) n0 n1 (fun h => HTR.out k h)).mono ?_
        rintro e w3 ⟨rfl, ho3, hw3⟩
        have hz3 := hw3.size
        simp at hz3
        have k2 : ∀ o, w3.cell? ⟨w2.heap.size, o, none⟩ = (#[.int .i64 y0, .int .i64 y1, .int .i64 y2, .slice ca n cc] : Array Value)[o]? := fun o => by
          rw [World.cell?_of_block (w := _) (a := ⟨w2.heap.size, o, none⟩) (hw3.block w2.heap.size (by simp) (by omega))]; simp [go_sem]
        have k3 : ∀ o, w3.cell? ⟨w.heap.size + 1, o, none⟩ = (#[.int .i64 0, .int .i64 0, .int .i64 0, .int .i64 0, .slice none 0 0] : Array Value)[o]? := fun o => by
          rw [World.cell?_of_block (w := _) (a := ⟨w.heap.size + 1, o, none⟩) (hw3.block (w.heap.size + 1) (by simp; omega) (by omega)), ((Below.refl w2.heap.size w2).alloc (Nat.le_refl _) _).cell (p := ⟨w.heap.size + 1, o, none⟩) (by dsimp only; omega)]; exact k1' o
        have f3 : ∀ o, w3.frozen? ⟨w.heap.size + 1, o, none⟩ = false := fun o => by
          rw [World.frozen?_of_block (w := _) (a := ⟨w.heap.size + 1, o, none⟩) (hw3.block (w.heap.size + 1) (by simp; omega) (by omega)), ((Below.refl w2.heap.size w2).alloc (Nat.le_refl _) _).frozen (p := ⟨w.heap.size + 1, o, none⟩) (by dsimp only; omega)]; exact f1' o
        have HB3 : Hid (Below w.heap.size w w3) := within_below (HB2.out.alloc HB2.out.size _) hw3 (by omega) (by simp; omega)
        have HO3 : Hid (Own w3 w1.heap.size w2.heap.size shFlights (tchL l k now) [.slice ca n cc]) := ho3
        have HTL : Hid ((tchL l k now).length = n) := (tch_len l k now).trans HN.out
        clear ho3 hw3 k1' f1' HOF HB2
        go_wp2_with fail
        refine bodyPost_ret (v := .agg #[.int .i64 0, .int .i64 y0, .int .i64 y1, .int .i64 y2, .slice ca n cc]) (by simp [results, Try.results16, go_sem, k3]) rfl ⟨_, rfl, ?_, ?_⟩
        · have h2 : Own w3 w1.heap.size w2.heap.size shSender (y0, y1, y2, tchL l k now, ()) [.int .i64 y0, .int .i64 y1, .int .i64 y2, .slice ca n cc] := hOwnCons (hOwnInt w3 _ w1.heap.size W0.out) (hOwnCons (hOwnInt w3 _ w1.heap.size W1'.out) (hOwnCons (hOwnInt w3 _ w1.heap.size W2.out) (hOwnCons HO3.out (hOwnNil _ _ _) (by omega) (Nat.le_refl _)) (Nat.le_refl _) (by omega)) (Nat.le_refl _) (by omega)) (Nat.le_refl _) (by omega)
          refine Own.mono (Own.keep h2 fun b hb hlt => ?_) (by omega) (by simp; omega)
          repeat rw [Below.heap_setCell _ _ _ _ (by dsimp only; omega)]
        · have hB1 := HB3.out
          clear k2 k3 f3 HO3 HB3
          go_grown
      · replace t2 : inD now 0 1000000 = false := by simpa using t2
        have e1 : tchC x i now = 3 := by unfold tchC; rw [if_pos hF, if_pos t1, if_neg (by simp [t2])]
        have e2 : tchV x i now = zSnd := by unfold tchV; rw [e1, if_neg (by decide)]
        rw [e1, e2]
        clear hr rk hT wf1 HCP hF hFx o1 o2 o3 e1 e2
        generalize x.1 = y0 at *
        generalize x.2.1 = y1 at *
        generalize x.2.2.1 = y2 at *
        generalize x.2.2.2.1.length = n at *
        go_enter Try.func16, Try.ntmps16
        go_wp2_with fail
        refine (HC.out _ (by go_grown) w.heap.size (fun o => by simp [go_sem])).mono ?_
        rintro e w1 ⟨rfl, hb⟩
        have k1 := boxB (w := _) (fun o => (by simp [go_sem] : _ = (#[.int .i64 0, .int .i64 0, .int .i64 0, .int .i64 0, .slice none 0 0] : Array Value)[o]?)) hb (b := w.heap.size + 1) (by simp)
        have f1 : ∀ o, w1.frozen? ⟨w.heap.size + 1, o, none⟩ = false := boxF (w := _) (fun o => by simp [go_sem]) hb (by simp)
        have k0 := boxB (w := _) (fun o => (by simp [go_sem] : _ = (#[.int .i64 y0, .int .i64 y1, .int .i64 y2, .slice a n cap] : Array Value)[o]?)) hb (b := w.heap.size) (by simp; omega)
        have z1 : w.heap.size + 1 < w1.heap.size := by have := hb.size; simp at this; omega
        have HB : Hid (Below w.heap.size w w1) := Below.trans (by go_grown) (hb.mono (by simp; omega))
        clear hb HC
        go_wp2_with (first | (go_at_call 41; refine (sInD _ _ _ _).mono ?_; rintro e w' ⟨rfl, hw⟩; subst w') | (go_at_call 28; refine (sTickD _ _).mono ?_; rintro e w' ⟨rfl, hw⟩; subst w'))
        refine (sBad7 _ _).mono ?_
        rintro e w2 ⟨rfl, hb⟩
        have k1' := boxB k1 hb (by omega)
        have f1' := boxF f1 hb (by omega)
        have HB2 : Hid (Below w.heap.size w w2) := HB.out.trans (hb.mono HB.out.size)
        have z2 : w.heap.size + 1 < w2.heap.size := Nat.lt_of_lt_of_le z1 hb.size
        clear hb k1 f1 k0 HB
        go_wp2_with fail
        refine bodyPost_ret (v := .agg #[.int .i64 3, .int .i64 0, .int .i64 0, .int .i64 0, .slice none 0 0]) (by simp [results, Try.results16, go_sem, k1']) rfl ⟨_, rfl, own_snd0 _ _ _ (by simp; omega) (WalkArith.wf_i64 (by omega)) (WalkArith.wf_i64 (by omega)) (WalkArith.wf_i64 (by omega)), ?_⟩
        have hB1 := HB2.out
        clear k1' f1' HB2
        go_grown
    · replace t1 : inD i 0 ((x.2.2.2.1.length : Int) - 1) = false := by simpa using t1
      have e1 : tchC x i now = 4 := by unfold tchC; rw [if_pos hF, if_neg (by simp [t1])]
      have e2 : tchV x i now = zSnd := by unfold tchV; rw [e1, if_neg (by decide)]
      rw [e1, e2]
      clear hr rk hT wf1 HCP hF hFx o1 o2 o3 e1 e2
      generalize x.1 = y0 at *
      generalize x.2.1 = y1 at *
      generalize x.2.2.1 = y2 at *
      generalize x.2.2.2.1.length = n at *
      go_enter Try.func16, Try.ntmps16
      go_wp2_with fail
      refine (HC.out _ (by go_grown) w.heap.size (fun o => by simp [go_sem])).mono ?_
      rintro e w1 ⟨rfl, hb⟩
      have k1 := boxB (w := _) (fun o => (by simp [go_sem] : _ = (#[.int .i64 0, .int .i64 0, .int .i64 0, .int .i64 0, .slice none 0 0] : Array Value)[o]?)) hb (b := w.heap.size + 1) (by simp)
      have f1 : ∀ o, w1.frozen? ⟨w.heap.size + 1, o, none⟩ = false := boxF (w := _) (fun o => by simp [go_sem]) hb (by simp)
      have k0 := boxB (w := _) (fun o => (by simp [go_sem] : _ = (#[.int .i64 y0, .int .i64 y1, .int .i64 y2, .slice a n cap] : Array Value)[o]?)) hb (b := w.heap.size) (by simp; omega)
      have z1 : w.heap.size + 1 < w1.heap.size := by have := hb.size; simp at this; omega
      have HB : Hid (Below w.heap.size w w1) := Below.trans (by go_grown) (hb.mono (by simp; omega))
      clear hb HC
      go_wp2_with (first | (go_at_call 41; refine (sInD _ _ _ _).mono ?_; rintro e w' ⟨rfl, hw⟩; subst w') | (go_at_call 28; refine (sTickD _ _).mono ?_; rintro e w' ⟨rfl, hw⟩; subst w'))
      refine (sBad7 _ _).mono ?_
      rintro e w2 ⟨rfl, hb⟩
      have k1' := boxB k1 hb (by omega)
      have f1' := boxF f1 hb (by omega)
      have HB2 : Hid (Below w.heap.size w w2) := HB.out.trans (hb.mono HB.out.size)
      have z2 : w.heap.size + 1 < w2.heap.size := Nat.lt_of_lt_of_le z1 hb.size
      clear hb k1 f1 k0 HB
      go_wp2_with fail
      refine bodyPost_ret (v := .agg #[.int .i64 4, .int .i64 0, .int .i64 0, .int .i64 0, .slice none 0 0]) (by simp [results, Try.results16, go_sem, k1']) rfl ⟨_, rfl, own_snd0 _ _ _ (by simp; omega) (WalkArith.wf_i64 (by omega)) (WalkArith.wf_i64 (by omega)) (WalkArith.wf_i64 (by omega)), ?_⟩
      have hB1 := HB2.out
      clear k1' f1' HB2
      go_grown
  · have e1 : tchC x i now = F := by unfold tchC; rw [if_neg hF, hFx]
    have e2 : tchV x i now = zSnd := by unfold tchV; rw [e1, if_neg (by rw [hFx]; exact hF)]
    have hF' : (F != 0) = true := by rw [hFx]; simp [hF]
    rw [e1, e2]
    clear hr rk hT wf1 HCP hF hFx e1 e2
    generalize x.1 = y0 at *
    generalize x.2.1 = y1 at *
    generalize x.2.2.1 = y2 at *
    generalize x.2.2.2.1.length = n at *
    go_enter Try.func16, Try.ntmps16
    go_wp2_with fail
    refine (HC.out _ (by go_grown) w.heap.size (fun o => by simp [go_sem])).mono ?_
    rintro e w1 ⟨rfl, hb⟩
    have k1 := boxB (w := _) (fun o => (by simp [go_sem] : _ = (#[.int .i64 0, .int .i64 0, .int .i64 0, .int .i64 0, .slice none 0 0] : Array Value)[o]?)) hb (b := w.heap.size + 1) (by simp)
    have f1 : ∀ o, w1.frozen? ⟨w.heap.size + 1, o, none⟩ = false := boxF (w := _) (fun o => by simp [go_sem]) hb (by simp)
    have k0 := boxB (w := _) (fun o => (by simp [go_sem] : _ = (#[.int .i64 y0, .int .i64 y1, .int .i64 y2, .slice a n cap] : Array Value)[o]?)) hb (b := w.heap.size) (by simp; omega)
    have z1 : w.heap.size + 1 < w1.heap.size := by have := hb.size; simp at this; omega
    have HB : Hid (Below w.heap.size w w1) := Below.trans (by go_grown) (hb.mono (by simp; omega))
    clear hb HC
    go_wp2_with (first | (go_at_call 41; refine (sInD _ _ _ _).mono ?_; rintro e w' ⟨rfl, hw⟩; subst w') | (go_at_call 28; refine (sTickD _ _).mono ?_; rintro e w' ⟨rfl, hw⟩; subst w'))
    refine (sBad7 _ _).mono ?_
    rintro e w2 ⟨rfl, hb⟩
    have k1' := boxB k1 hb (by omega)
    have f1' := boxF f1 hb (by omega)
    have HB2 : Hid (Below w.heap.size w w2) := HB.out.trans (hb.mono HB.out.size)
    have z2 : w.heap.size + 1 < w2.heap.size := Nat.lt_of_lt_of_le z1 hb.size
    clear hb k1 f1 k0 HB
    go_wp2_with fail
    refine bodyPost_ret (v := .agg #[.int .i64 F, .int .i64 0, .int .i64 0, .int .i64 0, .slice none 0 0]) (by simp [results, Try.results16, go_sem, k1']) rfl ⟨_, rfl, own_snd0 _ _ _ (by simp; omega) (WalkArith.wf_i64 (by omega)) (WalkArith.wf_i64 (by omega)) (WalkArith.wf_i64 (by omega)), ?_⟩
    have hB1 := HB2.out
    clear k1' f1' HB2
    go_grown
end Go.Proofs.Ytacbpielhhejkal
