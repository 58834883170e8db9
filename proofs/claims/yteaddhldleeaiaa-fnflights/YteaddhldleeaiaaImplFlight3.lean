/- What the program answers of a flight that is touched; nothing that was in memory turns; no condition but that loads are of at most a million bytes. -/
import Derived.Test.YteaddhldleeaiaaRows
import Derived.Test.YteaddhldleeaiaaBase
import Derived.Test.YteaddhldleeaiaaNum
import Derived.Test.YteaddhldleeaiaaNumWalks
import Derived.Test.YteaddhldleeaiaaMem
import Derived.Test.YteaddhldleeaiaaHBase
import Derived.Test.YteaddhldleeaiaaHFlight
import Derived.Test.YteaddhldleeaiaaHSender
import Derived.Test.YteaddhldleeaiaaFlightDef
import Derived.Test.YteaddhldleeaiaaSpecFlight3
import Derived.Test.YteaddhldleeaiaaFlightSet
import Derived.Test.YteaddhldleeaiaaSpecFlight7
import Derived.Test.YteaddhldleeaiaaImplFlight
import Derived.Test.YteaddhldleeaiaaImplCopy
import Derived.Deep.RegionHeld3
import Derived.Deep.CutRange
import Derived.Deep.RegionLaw
import Derived.Deep.DeepCutAuto
import Derived.Test.YteaddhldleeaiaaHMark
import Derived.Test.YteaddhldleeaiaaMFlight
import Derived.Test.YteaddhldleeaiaaMSender
import Derived.Test.YteaddhldleeaiaaAppBytes
import Derived.Test.YteaddhldleeaiaaApp
import Derived.Test.YteaddhldleeaiaaMemRow
import Derived.Test.YteaddhldleeaiaaMemApp
import Derived.Deep.DeepMust
import Derived.Test.YteaddhldleeaiaaBox
namespace Go.Proofs.Yteaddhldleeaiaa
open Go.RowKit
set_option linter.unusedVariables false

set_option maxHeartbeats 8000000 in
theorem iTouchFlight (x : DSender) (v : Value) (i now : Int) (w : World) (B : Nat) (hr : shSender.Rd w B x [.int .i64 x.1, .int .i64 x.2.1, .int .i64 x.2.2.1, v]) (hB : B ≤ w.heap.size) (hT : totSender x ≤ 1048576) :
    Calls Try.prog 13 #[.agg #[.int .i64 x.1, .int .i64 x.2.1, .int .i64 x.2.2.1, v], .int .i64 i, .int .i64 now] w fun e w' => ∃ u, e = .returned (.agg #[.int .i64 (tchC x i now), .int .i64 (tchV x i now).1, .int .i64 (tchV x i now).2.1, .int .i64 (tchV x i now).2.2.1, u]) ∧ Own w' w.heap.size w'.heap.size shSender (tchV x i now) [.int .i64 (tchV x i now).1, .int .i64 (tchV x i now).2.1, .int .i64 (tchV x i now).2.2.1, u] ∧ Below w.heap.size w w' := by
  obtain ⟨vv, ev, rk, wf0, wf1, wf2⟩ := rd_Sender hr
  simp only [List.cons.injEq, and_true, true_and] at ev
  subst ev
  obtain ⟨a, cap, ev2⟩ := row_form rk
  simp only [List.cons.injEq, and_true] at ev2
  subst ev2
  obtain ⟨F, hFx⟩ : ∃ F, F = sndFault x := ⟨_, rfl⟩
  have HC : Hid (∀ W, Below w.heap.size w W → Calls Try.prog 10 #[.agg #[.int .i64 x.1, .int .i64 x.2.1, .int .i64 x.2.2.1, .slice a x.2.2.2.1.length cap]] W fun e w' => e = .returned (.int .i64 F) ∧ Below W.heap.size W w') :=
    fun W hW => by rw [hFx]; exact iSenderFault x _ W B (Sh.Rd.below hr hB hW) (Nat.le_trans hB hW.size) hT
  have HCP : Hid (∀ W, Below w.heap.size w W → x.2.2.2.1.length ≤ 12 → Calls Try.prog 20 #[.agg #[.int .i64 x.1, .int .i64 x.2.1, .int .i64 x.2.2.1, .slice a x.2.2.2.1.length cap]] W fun e w' => ∃ u, e = .returned (.agg #[.int .i64 x.1, .int .i64 x.2.1, .int .i64 x.2.2.1, u]) ∧ Own w' W.heap.size w'.heap.size shSender x [.int .i64 x.1, .int .i64 x.2.1, .int .i64 x.2.2.1, u] ∧ Below W.heap.size W w') :=
    fun W hW h12 => iCopyS x _ W B (hr.below hB hW) (Nat.le_trans hB hW.size) hT (by omega)
  have W0 : Hid _ := wf0
  have W1 : Hid _ := wf1
  have W2 : Hid _ := wf2
  clear wf0 wf2
  have hmx : x.2.2.2.1.length ≤ 1048576 := by unfold totSender totFlights at hT; omega
  by_cases hF : sndFault x = 0
  · obtain ⟨o1, o2, o3, o4⟩ := snd_ok hF
    have hF' : F = 0 := by rw [hFx]; exact hF
    subst hF'
    by_cases t1 : inD i 0 ((x.2.2.2.1.length : Int) - 1) = true
    · by_cases t2 : inD now 0 1000000 = true
      · have e1 : tchC x i now = 0 := by unfold tchC; rw [if_pos hF, if_pos t1, if_pos t2]
        have e2 : tchV x i now = (x.1, x.2.1, x.2.2.1, tchL x.2.2.2.1 i.toNat now, ()) := by unfold tchV; rw [e1, if_pos rfl]
        rw [e1, e2]
        obtain ⟨i0, i1⟩ := inD_yes t1
        obtain ⟨n0, n1⟩ := inD_yes t2
        have HTR : Hid (∀ k (hk : k < x.2.2.2.1.length), 1 ≤ x.2.2.2.1[k].2.2.2.2.1 ∧ x.2.2.2.1[k].2.2.2.2.1 ≤ 1000) := fls_tries hF
        have HT12 : Hid (x.2.2.2.1.length ≤ 12) := o4
        clear hr rk hT wf1 hF hFx o1 o2 o3 e1 e2
        obtain ⟨y0, y1, y2, l, _⟩ := x
        simp only at *
        have W1' : Hid _ := W1
        obtain ⟨n, hn⟩ : ∃ n, l.length = n := ⟨_, rfl⟩
        rw [hn] at HC HCP HT12 i1 t1 hmx ⊢
        have HN : Hid (l.length = n) := hn
        obtain ⟨k, rfl⟩ : ∃ k : Nat, i = (k : Int) := ⟨i.toNat, by omega⟩
        have hkn : k < n := by omega
        have i1' : (k : Int) < (n : Int) := by omega
        rw [Int.toNat_natCast]
        clear hn t1
        go_enter Try.func13, Try.ntmps13
        go_wp2_with fail
        refine (HC.out _ (by go_grown)).mono ?_
        rintro e w1 ⟨rfl, hb⟩
        have k1 := boxB (w := _) (fun o => (by simp [go_sem] : _ = (#[.int .i64 0, .int .i64 0, .int .i64 0, .int .i64 0, .slice none 0 0] : Array Value)[o]?)) hb (b := w.heap.size + 1) (by simp)
        have f1 : ∀ o, w1.frozen? ⟨w.heap.size + 1, o, none⟩ = false := boxF (w := _) (fun o => by simp [go_sem]) hb (by simp)
        have k0 := boxB (w := _) (fun o => (by simp [go_sem] : _ = (#[.int .i64 y0, .int .i64 y1, .int .i64 y2, .slice a n cap] : Array Value)[o]?)) hb (b := w.heap.size) (by simp; omega)
        have z1 : w.heap.size + 1 < w1.heap.size := by have := hb.size; simp at this; omega
        have HB : Hid (Below w.heap.size w w1) := Below.trans (by go_grown) (hb.mono (by simp; omega))
        clear hb HC
        go_wp2_with (go_at_call 28; refine (iInD _ _ _ _).mono ?_; rintro e w' ⟨rfl, hw⟩; subst w')
        refine (HCP.out _ HB.out HT12.out).mono ?_
        rintro e w2 ⟨u, rfl, ho, hb⟩
        obtain ⟨vv, ev, ru, -⟩ := rd_Sender (ho.rd (Nat.le_refl _))
        simp only [List.cons.injEq, and_true, true_and] at ev
        subst ev
        obtain ⟨ca, cc, ev2⟩ := row_form ru
        simp only [List.cons.injEq, and_true] at ev2
        subst ev2
        have HOF : Hid (Own w2 w1.heap.size w2.heap.size shFlights l [.slice ca n cc]) := by
          have h := own_fls7 ho
          rw [HN.out] at h; exact h
        have k1' := boxB k1 hb (by omega)
        have f1' := boxF f1 hb (by omega)
        have HB2 : Hid (Below w.heap.size w w2) := HB.out.trans (hb.mono HB.out.size)
        have z2 : w1.heap.size ≤ w2.heap.size := hb.size
        rw [HN.out]
        clear hb k1 f1 k0 HB ho ru HCP
        obtain ⟨V, hV⟩ : ∃ V, V = w2.alloc (.cells #[.int .i64 y0, .int .i64 y1, .int .i64 y2, .slice ca n cc] 26) := ⟨_, rfl⟩
        have HBV : Hid (Below w2.heap.size w2 V) := by rw [hV]; exact (Below.refl _ _).alloc (Nat.le_refl _) _
        have hVz : V.heap.size = w2.heap.size + 1 := by rw [hV]; simp
        have k8 : ∀ o, V.cell? ⟨w2.heap.size, o, none⟩ = (#[.int .i64 y0, .int .i64 y1, .int .i64 y2, .slice ca n cc] : Array Value)[o]? := fun o => by rw [hV]; simp [go_sem]
        have HOV : Hid (Own V w1.heap.size w2.heap.size shFlights l [.slice ca n cc]) := HOF.out.below (Nat.le_refl _) HBV.out
        replace k1' := boxB k1' HBV.out (by omega)
        replace f1' := boxF f1' HBV.out (by omega)
        have hkl : k < l.length := by have := HN.out; omega
        have hs := HTR.out k hkl
        obtain ⟨pg, v, ea, p1, p2, q3, q4, -, fz, U3, U4⟩ := fl_at HOV.out k hkl
        have o3 := U3 now (WalkArith.wf_i64 (by omega))
        have hk2 : k < (l.set k (l[k].1, l[k].2.1, l[k].2.2.1, now, l[k].2.2.2.2.1, ())).length := by simp; exact hkl
        obtain ⟨pg', v', ea', -, -, -, r4, -, fz', -, V4⟩ := fl_at o3 k hk2
        rw [ea] at ea'
        simp only [Option.some.injEq, Addr.mk.injEq, and_true] at ea'
        subst ea' ea
        rw [List.getElem_set_self] at r4 V4
        have HM : Hid (∀ y, y = minD 1000 (l[k].2.2.2.2.1 + 1) → (Lit.int .i64 y).wf = true) := fun y hy => by rw [hy]; unfold minD; split <;> exact WalkArith.wf_i64 (by omega)
        have HF : Hid (Own ((V.setCell ⟨pg, k * 5 + 3, none⟩ (.int .i64 now)).setCell ⟨pg, k * 5 + 4, none⟩ (.int .i64 (minD 1000 (l[k].2.2.2.2.1 + 1)))) w1.heap.size w2.heap.size shFlights (tchL l k now) [.slice (some ⟨pg, 0, none⟩) n cc]) := by
          have h := V4 (minD 1000 (l[k].2.2.2.2.1 + 1)) (HM.out _ rfl)
          rw [List.set_set] at h
          rw [tchL_at now hkl]; exact h
        have f3 := fz (k * 5 + 3)
        have f4 := fz' (k * 5 + 4)
        obtain ⟨W, hW⟩ : ∃ W, W = V.setCell ⟨pg, k * 5 + 3, none⟩ (.int .i64 now) := ⟨_, rfl⟩
        rw [← hW] at HF r4 f4
        have k8' : ∀ o, W.cell? ⟨w2.heap.size, o, none⟩ = (#[.int .i64 y0, .int .i64 y1, .int .i64 y2, .slice (some ⟨pg, 0, none⟩) n cc] : Array Value)[o]? := by rw [hW]; exact box_off k8 (by omega)
        have k1'' : ∀ o, W.cell? ⟨w.heap.size + 1, o, none⟩ = (#[.int .i64 0, .int .i64 0, .int .i64 0, .int .i64 0, .slice none 0 0] : Array Value)[o]? := by rw [hW]; exact box_off k1' (by omega)
        have f1'' : ∀ o, W.frozen? ⟨w.heap.size + 1, o, none⟩ = false := fun o => by rw [hW, World.frozen?_setCell]; exact f1' o
        have HBW : Hid (Below w.heap.size w W) := by rw [hW]; exact (HB2.out.trans (HBV.out.mono HB2.out.size)).setCell (by simp; omega) _
        have hWz : W.heap.size = w2.heap.size + 1 := by rw [hW]; simp [hVz]
        clear o3 U3 U4 V4 fz fz' hk2 HM HTR
        generalize l[k].2.2.2.1 = z3 at *
        generalize l[k].2.2.2.2.1 = z4 at *
        obtain ⟨s0, s1⟩ := hs
        have i0' : (0 : Int) ≤ (k : Int) := Int.natCast_nonneg _
        have WZ : IntKind.i64.wrap (z4 + 1) = z4 + 1 := by rw [IntKind.wrap_i64]; omega
        have hne1 : pg ≠ w2.heap.size := by omega
        go_upto_region 9 with fail
        rw [← hV]
        clear HBV hV
        go_upto_region 10 with fail
        rw [← hW]
        have HWW : Hid _ := hW
        clear hW k8 k1' f1' q3 q4 f3 HOV HOF
        obtain ⟨X, hX⟩ : ∃ X, X = W.setCell ⟨pg, k * 5 + 4, none⟩ (.int .i64 (minD 1000 (z4 + 1))) := ⟨_, rfl⟩
        have k8X : ∀ o, X.cell? ⟨w2.heap.size, o, none⟩ = (#[.int .i64 y0, .int .i64 y1, .int .i64 y2, .slice (some ⟨pg, 0, none⟩) n cc] : Array Value)[o]? := by rw [hX]; exact box_off k8' (by omega)
        have k1X : ∀ o, X.cell? ⟨w.heap.size + 1, o, none⟩ = (#[.int .i64 0, .int .i64 0, .int .i64 0, .int .i64 0, .slice none 0 0] : Array Value)[o]? := by rw [hX]; exact box_off k1'' (by omega)
        have f1X : ∀ o, X.frozen? ⟨w.heap.size + 1, o, none⟩ = false := fun o => by rw [hX, World.frozen?_setCell]; exact f1'' o
        have HBX : Hid (Below w.heap.size w X) := by rw [hX]; exact HBW.out.setCell (by simp; omega) _
        have hXz : X.heap.size = w2.heap.size + 1 := by rw [hX]; simp [hWz]
        rw [← hX] at HF
        have HXX : Hid _ := hX
        clear hX
        go_cut [] (fun wx => (∀ o, wx.cell? ⟨w2.heap.size, o, none⟩ = (#[.int .i64 y0, .int .i64 y1, .int .i64 y2, .slice (some ⟨pg, 0, none⟩) n cc] : Array Value)[o]?) ∧ (∀ o, wx.cell? ⟨w.heap.size + 1, o, none⟩ = (#[.int .i64 0, .int .i64 0, .int .i64 0, .int .i64 0, .slice none 0 0] : Array Value)[o]?) ∧ (∀ o, wx.frozen? ⟨w.heap.size + 1, o, none⟩ = false) ∧ Hid (Below w.heap.size w wx) ∧ wx.heap.size = w2.heap.size + 1 ∧ Hid (Own wx w1.heap.size w2.heap.size shFlights (tchL l k now) [.slice (some ⟨pg, 0, none⟩) n cc]))
        case first =>
          go_region_law (fail)
          all_goals (go_wp2_with fail)
          all_goals go_meet
          all_goals first
            | (have hX1 : W.setCell ⟨pg, k * 5 + 4, none⟩ (.int .i64 1000) = X := by rw [HXX.out]; unfold minD; rw [if_pos (by omega)]
               rw [hX1]; exact ⟨k8X, k1X, f1X, HBX.out.drew, hXz, Own.keep HF.out (fun b _ _ => rfl)⟩)
            | (have hX1 : W.setCell ⟨pg, k * 5 + 4, none⟩ (.int .i64 (z4 + 1)) = X := by rw [HXX.out]; unfold minD; rw [if_neg (by omega)]
               rw [hX1]; exact ⟨k8X, k1X, f1X, HBX.out.drew, hXz, Own.keep HF.out (fun b _ _ => rfl)⟩)
        case rest =>
          obtain ⟨k8c, k1c, f1c, HBc, hzc, HOc⟩ := hcut
          clear HXX HWW k8' k1'' f1'' r4 f4 k8X k1X f1X HBX HF
          go_wp2_with fail
          refine bodyPost_ret (v := .agg #[.int .i64 0, .int .i64 y0, .int .i64 y1, .int .i64 y2, .slice (some ⟨pg, 0, none⟩) n cc]) (by simp [results, Try.results13, go_sem, k1c]) rfl ⟨_, rfl, ?_, ?_⟩
          · have h2 : Own wc w1.heap.size w2.heap.size shSender (y0, y1, y2, tchL l k now, ()) [.int .i64 y0, .int .i64 y1, .int .i64 y2, .slice (some ⟨pg, 0, none⟩) n cc] := hOwnCons (hOwnInt wc _ w1.heap.size W0.out) (hOwnCons (hOwnInt wc _ w1.heap.size W1'.out) (hOwnCons (hOwnInt wc _ w1.heap.size W2.out) (hOwnCons HOc.out (hOwnNil _ _ _) (by omega) (Nat.le_refl _)) (Nat.le_refl _) (by omega)) (Nat.le_refl _) (by omega)) (Nat.le_refl _) (by omega)
            refine Own.mono (Own.keep h2 fun b hb hlt => ?_) (by omega) (by simp [hzc])
            repeat rw [Below.heap_setCell _ _ _ _ (by dsimp only; omega)]
          · have hB1 := HBc.out
            clear k8c k1c f1c HOc HBc HBW
            go_grown
      · replace t2 : inD now 0 1000000 = false := by simpa using t2
        have e1 : tchC x i now = 3 := by unfold tchC; rw [if_pos hF, if_pos t1, if_neg (by simp [t2])]
        have e2 : tchV x i now = zSnd := by unfold tchV; rw [e1, if_neg (by decide)]
        rw [e1, e2]
        obtain ⟨i0, i1⟩ := inD_yes t1
        have i1' : i < (x.2.2.2.1.length : Int) := by omega
        clear hr rk hT wf1 HCP hF hFx o1 o2 o3 e1 e2 t1
        generalize x.1 = y0 at *
        generalize x.2.1 = y1 at *
        generalize x.2.2.1 = y2 at *
        generalize x.2.2.2.1.length = n at *
        go_enter Try.func13, Try.ntmps13
        go_wp2_with fail
        refine (HC.out _ (by go_grown)).mono ?_
        rintro e w1 ⟨rfl, hb⟩
        have k1 := boxB (w := _) (fun o => (by simp [go_sem] : _ = (#[.int .i64 0, .int .i64 0, .int .i64 0, .int .i64 0, .slice none 0 0] : Array Value)[o]?)) hb (b := w.heap.size + 1) (by simp)
        have f1 : ∀ o, w1.frozen? ⟨w.heap.size + 1, o, none⟩ = false := boxF (w := _) (fun o => by simp [go_sem]) hb (by simp)
        have k0 := boxB (w := _) (fun o => (by simp [go_sem] : _ = (#[.int .i64 y0, .int .i64 y1, .int .i64 y2, .slice a n cap] : Array Value)[o]?)) hb (b := w.heap.size) (by simp; omega)
        have z1 : w.heap.size + 1 < w1.heap.size := by have := hb.size; simp at this; omega
        have HB : Hid (Below w.heap.size w w1) := Below.trans (by go_grown) (hb.mono (by simp; omega))
        clear hb HC
        go_wp2_with (go_at_call 28; refine (iInD _ _ _ _).mono ?_; rintro e w' ⟨rfl, hw⟩; subst w')
        refine bodyPost_ret (v := .agg #[.int .i64 3, .int .i64 0, .int .i64 0, .int .i64 0, .slice none 0 0]) (by simp [results, Try.results13, go_sem, k1]) rfl ⟨_, rfl, own_snd0 _ _ _ (by simp; omega) (WalkArith.wf_i64 (by omega)) (WalkArith.wf_i64 (by omega)) (WalkArith.wf_i64 (by omega)), ?_⟩
        have hB1 := HB.out
        clear k1 f1 k0 HB
        go_grown
    · replace t1 : inD i 0 ((x.2.2.2.1.length : Int) - 1) = false := by simpa using t1
      have e1 : tchC x i now = 4 := by unfold tchC; rw [if_pos hF, if_neg (by simp [t1])]
      have e2 : tchV x i now = zSnd := by unfold tchV; rw [e1, if_neg (by decide)]
      rw [e1, e2]
      have t1' : ¬ (0 ≤ i ∧ i < (x.2.2.2.1.length : Int)) := fun h => by have := inD_mk (v := i) (lo := 0) (hi := (x.2.2.2.1.length : Int) - 1) h.1 (by omega); rw [t1] at this; cases this
      clear hr rk hT wf1 HCP hF hFx o1 o2 o3 e1 e2 t1
      generalize x.1 = y0 at *
      generalize x.2.1 = y1 at *
      generalize x.2.2.1 = y2 at *
      generalize x.2.2.2.1.length = n at *
      by_cases hi : i < 0
      · clear t1'
        go_enter Try.func13, Try.ntmps13
        go_wp2_with fail
        refine (HC.out _ (by go_grown)).mono ?_
        rintro e w1 ⟨rfl, hb⟩
        have k1 := boxB (w := _) (fun o => (by simp [go_sem] : _ = (#[.int .i64 0, .int .i64 0, .int .i64 0, .int .i64 0, .slice none 0 0] : Array Value)[o]?)) hb (b := w.heap.size + 1) (by simp)
        have f1 : ∀ o, w1.frozen? ⟨w.heap.size + 1, o, none⟩ = false := boxF (w := _) (fun o => by simp [go_sem]) hb (by simp)
        have k0 := boxB (w := _) (fun o => (by simp [go_sem] : _ = (#[.int .i64 y0, .int .i64 y1, .int .i64 y2, .slice a n cap] : Array Value)[o]?)) hb (b := w.heap.size) (by simp; omega)
        have z1 : w.heap.size + 1 < w1.heap.size := by have := hb.size; simp at this; omega
        have HB : Hid (Below w.heap.size w w1) := Below.trans (by go_grown) (hb.mono (by simp; omega))
        clear hb HC
        go_wp2_with (go_at_call 28; refine (iInD _ _ _ _).mono ?_; rintro e w' ⟨rfl, hw⟩; subst w')
        refine bodyPost_ret (v := .agg #[.int .i64 4, .int .i64 0, .int .i64 0, .int .i64 0, .slice none 0 0]) (by simp [results, Try.results13, go_sem, k1]) rfl ⟨_, rfl, own_snd0 _ _ _ (by simp; omega) (WalkArith.wf_i64 (by omega)) (WalkArith.wf_i64 (by omega)) (WalkArith.wf_i64 (by omega)), ?_⟩
        have hB1 := HB.out
        clear k1 f1 k0 HB
        go_grown
      · have hi2 : (n : Int) ≤ i := by omega
        clear t1'
        go_enter Try.func13, Try.ntmps13
        go_wp2_with fail
        refine (HC.out _ (by go_grown)).mono ?_
        rintro e w1 ⟨rfl, hb⟩
        have k1 := boxB (w := _) (fun o => (by simp [go_sem] : _ = (#[.int .i64 0, .int .i64 0, .int .i64 0, .int .i64 0, .slice none 0 0] : Array Value)[o]?)) hb (b := w.heap.size + 1) (by simp)
        have f1 : ∀ o, w1.frozen? ⟨w.heap.size + 1, o, none⟩ = false := boxF (w := _) (fun o => by simp [go_sem]) hb (by simp)
        have k0 := boxB (w := _) (fun o => (by simp [go_sem] : _ = (#[.int .i64 y0, .int .i64 y1, .int .i64 y2, .slice a n cap] : Array Value)[o]?)) hb (b := w.heap.size) (by simp; omega)
        have z1 : w.heap.size + 1 < w1.heap.size := by have := hb.size; simp at this; omega
        have HB : Hid (Below w.heap.size w w1) := Below.trans (by go_grown) (hb.mono (by simp; omega))
        clear hb HC
        go_wp2_with (go_at_call 28; refine (iInD _ _ _ _).mono ?_; rintro e w' ⟨rfl, hw⟩; subst w')
        refine bodyPost_ret (v := .agg #[.int .i64 4, .int .i64 0, .int .i64 0, .int .i64 0, .slice none 0 0]) (by simp [results, Try.results13, go_sem, k1]) rfl ⟨_, rfl, own_snd0 _ _ _ (by simp; omega) (WalkArith.wf_i64 (by omega)) (WalkArith.wf_i64 (by omega)) (WalkArith.wf_i64 (by omega)), ?_⟩
        have hB1 := HB.out
        clear k1 f1 k0 HB
        go_grown
  · have e1 : tchC x i now = F := by unfold tchC; rw [if_neg hF, hFx]
    have e2 : tchV x i now = zSnd := by unfold tchV; rw [e1, if_neg (by rw [hFx]; exact hF)]
    have hF' : (F != 0) = true := by rw [hFx]; simp [hF]
    rw [e1, e2]
    clear hr rk hT wf1 HCP hF hFx e1 e2
    generalize x.1 = y0 at *
    generalize x.2.1 = y1 at *
    generalize x.2.2.1 = y2 at *
    generalize x.2.2.2.1.length = n at *
    go_enter Try.func13, Try.ntmps13
    go_wp2_with fail
    refine (HC.out _ (by go_grown)).mono ?_
    rintro e w1 ⟨rfl, hb⟩
    have k1 := boxB (w := _) (fun o => (by simp [go_sem] : _ = (#[.int .i64 0, .int .i64 0, .int .i64 0, .int .i64 0, .slice none 0 0] : Array Value)[o]?)) hb (b := w.heap.size + 1) (by simp)
    have f1 : ∀ o, w1.frozen? ⟨w.heap.size + 1, o, none⟩ = false := boxF (w := _) (fun o => by simp [go_sem]) hb (by simp)
    have k0 := boxB (w := _) (fun o => (by simp [go_sem] : _ = (#[.int .i64 y0, .int .i64 y1, .int .i64 y2, .slice a n cap] : Array Value)[o]?)) hb (b := w.heap.size) (by simp; omega)
    have z1 : w.heap.size + 1 < w1.heap.size := by have := hb.size; simp at this; omega
    have HB : Hid (Below w.heap.size w w1) := Below.trans (by go_grown) (hb.mono (by simp; omega))
    clear hb HC
    go_wp2_with (go_at_call 28; refine (iInD _ _ _ _).mono ?_; rintro e w' ⟨rfl, hw⟩; subst w')
    refine bodyPost_ret (v := .agg #[.int .i64 F, .int .i64 0, .int .i64 0, .int .i64 0, .slice none 0 0]) (by simp [results, Try.results13, go_sem, k1]) rfl ⟨_, rfl, own_snd0 _ _ _ (by simp; omega) (WalkArith.wf_i64 (by omega)) (WalkArith.wf_i64 (by omega)) (WalkArith.wf_i64 (by omega)), ?_⟩
    have hB1 := HB.out
    clear k1 f1 k0 HB
    go_grown
end Go.Proofs.Yteaddhldleeaiaa
