/- What the program makes of a copy of a sender: it owns its memory; nothing that was in memory turns; no condition but that loads are of at most a million bytes. -/
import Derived.Test.YteaddhldleeaiaaRows
import Derived.Test.YteaddhldleeaiaaBase
import Derived.Test.YteaddhldleeaiaaBytes
import Derived.Test.YteaddhldleeaiaaMem
import Derived.Test.YteaddhldleeaiaaHBase
import Derived.Test.YteaddhldleeaiaaHFlight
import Derived.Test.YteaddhldleeaiaaHSender
import Derived.Test.YteaddhldleeaiaaFlightDef
import Derived.Test.YteaddhldleeaiaaAppBytes
import Derived.Test.YteaddhldleeaiaaApp
import Derived.Test.YteaddhldleeaiaaMemRow
import Derived.Test.YteaddhldleeaiaaMemApp
import Derived.Test.YteaddhldleeaiaaSpecFlight3
import Derived.Test.YteaddhldleeaiaaImplFlight
import Derived.Deep.RegionHeld3
import Derived.Deep.RegionLaw
import Derived.Deep.CutRange
import Derived.Deep.DeepCutAuto
import Derived.Deep.DeepMust
import Derived.Test.YteaddhldleeaiaaBox
namespace Go.Proofs.Yteaddhldleeaiaa
open Go.RowKit
set_option linter.unusedVariables false
set_option maxRecDepth 8000

theorem iCopyB (a : Option Addr) (n cap : Nat) (l : List Int) (w : World) (hl : l.length = n) (hr : RB w a l) (hnil : a = none → cap = 0) (hn : n ≤ 1048576) :
    Calls Try.prog 21 #[.slice a n cap] w fun e w' => ∃ b1 c1, e = .returned (.slice b1 n c1) ∧ OB w' w.heap.size (.slice b1 n c1) l ∧ Below w.heap.size w w' := by
  go_enter Try.func21, Try.ntmps21
  go_wp2_with (at_builtin; go_loud (refine app_pl w rfl _ _ 22 22 rfl Try.underlying22 Try.underlying22 w.heap.size (.slice none 0 0) [] (by rfl) ⟨⟨rfl, Or.inl ⟨rfl, rfl⟩⟩, by simp⟩ a l n cap hl (by rfl) hr hnil (by simp; omega) (Nat.le_refl _) ?_; intro v' w5 ho5 hb5 hg5 hat5; rw [List.nil_append] at ho5; obtain ⟨b1, c1, hv1, -, -⟩ := ho5.rbn; rw [hl] at hv1; subst hv1))
  go_ret
  exact ⟨_, _, rfl, ho5, hb5⟩
set_option maxHeartbeats 1000000 in
theorem iCopyFl (z0 z1 z3 z4 : Int) (d : List Int) (a : Option Addr) (n cap : Nat) (w : World) (hl : d.length = n) (hr : RB w a d) (hnil : a = none → cap = 0) (hn : n ≤ 1048576) (w0 : (Lit.int .i64 z0).wf = true) (w1 : (Lit.int .i64 z1).wf = true) (w3 : (Lit.int .i64 z3).wf = true) (w4 : (Lit.int .i64 z4).wf = true) :
    Calls Try.prog 44 #[.agg #[.int .i64 z0, .int .i64 z1, .slice a n cap, .int .i64 z3, .int .i64 z4]] w fun e w' => ∃ b1 c1, e = .returned (.agg #[.int .i64 z0, .int .i64 z1, .slice b1 n c1, .int .i64 z3, .int .i64 z4]) ∧ Own w' w.heap.size w'.heap.size shFlight (z0, z1, d, z3, z4, ()) [.int .i64 z0, .int .i64 z1, .slice b1 n c1, .int .i64 z3, .int .i64 z4] ∧ Below w.heap.size w w' := by
  have V0 : Hid _ := w0
  have V1 : Hid _ := w1
  have V3 : Hid _ := w3
  have V4 : Hid _ := w4
  have HR : Hid (∀ W, Below w.heap.size w W → RB W a d) := fun W h => hr.below (Nat.le_refl _) h
  have HN : Hid _ := hnil
  clear hr hnil w0 w1 w3 w4
  go_enter Try.func44, Try.ntmps44
  go_wp2_with fail
  refine (iCopyB a n cap d _ hl (HR.out _ (by go_grown)) HN.out hn).mono ?_
  rintro e w5 ⟨b1, c1, rfl, ho5, hb5⟩
  have k0 : ∀ o, w5.cell? ⟨w.heap.size, o, none⟩ = (#[.int .i64 z0, .int .i64 z1, .slice a n cap, .int .i64 z3, .int .i64 z4] : Array Value)[o]? := fun o => by rw [hb5.cell (p := ⟨w.heap.size, o, none⟩) (by simp; omega)]; simp [go_sem]
  have k1 : ∀ o, w5.cell? ⟨w.heap.size + 1, o, none⟩ = (#[.int .i64 0, .int .i64 0, .slice none 0 0, .int .i64 0, .int .i64 0] : Array Value)[o]? := fun o => by rw [hb5.cell (p := ⟨w.heap.size + 1, o, none⟩) (by simp)]; simp [go_sem]
  have f0 : ∀ o, w5.frozen? ⟨w.heap.size, o, none⟩ = false := fun o => by rw [hb5.frozen (p := ⟨w.heap.size, o, none⟩) (by simp; omega)]; simp [go_sem]
  have f1 : ∀ o, w5.frozen? ⟨w.heap.size + 1, o, none⟩ = false := fun o => by rw [hb5.frozen (p := ⟨w.heap.size + 1, o, none⟩) (by simp)]; simp [go_sem]
  have z1' : w.heap.size + 1 < w5.heap.size := by have := hb5.size; simp at this; omega
  have HB : Hid (Below w.heap.size w w5) := Below.trans (by go_grown) (hb5.mono (by simp; omega))
  have HO : Hid (Own w5 (w.heap.size + 1 + 1) w5.heap.size u8s d [.slice b1 n c1]) := by show Own _ _ _ _ _ _; have h := own_bytes ho5 (Nat.le_refl _); simpa using h
  clear hb5 ho5
  go_wp2_with fail
  refine bodyPost_ret (v := .agg #[.int .i64 z0, .int .i64 z1, .slice b1 n c1, .int .i64 z3, .int .i64 z4]) (by simp [results, Try.results44, go_sem, k1]) rfl ⟨_, _, rfl, ?_, ?_⟩
  · have h2 : Own w5 (w.heap.size + 1 + 1) w5.heap.size shFlight (z0, z1, d, z3, z4, ()) [.int .i64 z0, .int .i64 z1, .slice b1 n c1, .int .i64 z3, .int .i64 z4] := hOwnCons (hOwnInt w5 _ (w.heap.size + 1 + 1) V0.out) (hOwnCons (hOwnInt w5 _ (w.heap.size + 1 + 1) V1.out) (hOwnCons HO.out (hOwnCons (hOwnInt w5 _ w5.heap.size V3.out) (hOwnCons (hOwnInt w5 _ w5.heap.size V4.out) (hOwnNil _ _ _) (Nat.le_refl _) (Nat.le_refl _)) (Nat.le_refl _) (Nat.le_refl _)) (by omega) (Nat.le_refl _)) (Nat.le_refl _) (by omega)) (Nat.le_refl _) (by omega)
    refine Own.mono (Own.keep h2 fun b hb hlt => ?_) (by omega) (by simp)
    repeat rw [Below.heap_setCell _ _ _ _ (by dsimp only; omega)]
  · have hB1 := HB.out
    clear k0 k1 f0 f1 HO HB
    go_grown
set_option maxHeartbeats 8000000 in
theorem iCopyS (x : DSender) (v : Value) (w : World) (B : Nat) (hr : shSender.Rd w B x [.int .i64 x.1, .int .i64 x.2.1, .int .i64 x.2.2.1, v]) (hB : B ≤ w.heap.size) (hT : totSender x ≤ 1048576) (hL : x.2.2.2.1.length ≤ 1000) :
    Calls Try.prog 20 #[.agg #[.int .i64 x.1, .int .i64 x.2.1, .int .i64 x.2.2.1, v]] w fun e w' => ∃ u, e = .returned (.agg #[.int .i64 x.1, .int .i64 x.2.1, .int .i64 x.2.2.1, u]) ∧ Own w' w.heap.size w'.heap.size shSender x [.int .i64 x.1, .int .i64 x.2.1, .int .i64 x.2.2.1, u] ∧ Below w.heap.size w w' := by
  obtain ⟨vv, ev, rk, wf0, wf1, wf2⟩ := rd_Sender hr
  simp only [List.cons.injEq, and_true, true_and] at ev
  subst ev
  obtain ⟨a, cap, ev2⟩ := row_form rk
  simp only [List.cons.injEq, and_true] at ev2
  subst ev2
  have HT : Hid (∀ k (hk : k < x.2.2.2.1.length), x.2.2.2.1[k].2.2.1.length ≤ 1048576) := fun k hk => by have h : x.2.2.2.1[k].2.2.1.length ≤ fsum totFlight x.2.2.2.1 := fsum_at totFlight hk; unfold totSender totFlights at hT; omega
  have hn1 : x.2.2.2.1.length ≤ 1000 := hL
  have W0 : Hid _ := wf0
  have W1 : Hid _ := wf1
  have W2 : Hid _ := wf2
  clear hr hT wf0 wf1 wf2 hL
  obtain ⟨y0, y1, y2, l, _⟩ := x
  simp only at *
  obtain ⟨n, hn⟩ : ∃ n, l.length = n := ⟨_, rfl⟩
  rw [hn] at rk hn1 ⊢
  have HRd : Hid (∀ W, Below w.heap.size w W → shFlights.Rd W B l [.slice a n cap]) := fun W hW => rk.below hB hW
  have HN : Hid (l.length = n) := hn
  clear rk hn
  go_enter Try.func20, Try.ntmps20
  go_wp2_with fail
  go_loopw [11] (fun i wr => ∃ (k : Nat) (va : Option Addr) (vc : Nat), k ≤ n ∧ i = .int .i64 k ∧ (∀ o, wr.cell? ⟨w.heap.size + 1, o, none⟩ = (#[.int .i64 0, .int .i64 0, .int .i64 0, .slice none 0 0] : Array Value)[o]?) ∧ (∀ o, wr.frozen? ⟨w.heap.size + 1, o, none⟩ = false) ∧ (∀ o, wr.cell? ⟨w.heap.size + 1 + 1, o, none⟩ = (#[.int .i64 y0, .int .i64 y1, .int .i64 y2, .slice va k vc] : Array Value)[o]?) ∧ (∀ o, wr.frozen? ⟨w.heap.size + 1 + 1, o, none⟩ = false) ∧ Hid (Own wr (w.heap.size + 1 + 1 + 1) wr.heap.size shFlights (l.take k) [.slice va k vc]) ∧ Hid (Below w.heap.size w wr) ∧ w.heap.size + 1 + 1 < wr.heap.size) (fun i _ => n - (intOf i).toNat)
  case atStart => exact ⟨0, none, 0, Nat.zero_le _, rfl, fun o => by simp [go_sem], fun o => by simp [go_sem], (fun o => by match o with | 0 => simp [go_sem] | 1 => simp [go_sem] | 2 => simp [go_sem] | 3 => simp [go_sem] | o + 4 => simp [go_sem]), fun o => by simp [go_sem], own_fls0 _ _ _, (by show Below _ _ _; go_grown), by simp⟩
  case round =>
    obtain ⟨k, va, vc, hk, rfl, k1, f1, k2, f2, HO, HB, hz⟩ := hrel
    by_cases hlt : k < n
    · have hkl : k < l.length := by have := HN.out; omega
      obtain ⟨b, off, v, ha, hb, q0, q1, q2, q3, q4, r3⟩ := at_Flights (HRd.out wr HB.out) k hkl
      subst ha
      obtain ⟨vv, ev, rk, w0, w1', w3, w4⟩ := rd_Flight r3
      simp only [List.cons.injEq, and_true, true_and] at ev
      subst ev
      obtain ⟨sa, sc, es, rb, hnil, -⟩ := rd_bytes rk
      simp only [List.cons.injEq, and_true] at es
      subst es
      have hnn := HT.out k hkl
      have HTK : Hid (l.take (k + 1) = l.take k ++ [(l[k].1, l[k].2.1, l[k].2.2.1, l[k].2.2.2.1, l[k].2.2.2.2.1, ())]) := List.take_succ_eq_append_getElem hkl
      have HLL : Hid ((l.take k).length = k) := by show _ = _; simp; omega
      have HCF : Hid (∀ W, Below wr.heap.size wr W → Calls Try.prog 44 #[.agg #[.int .i64 l[k].1, .int .i64 l[k].2.1, .slice sa l[k].2.2.1.length sc, .int .i64 l[k].2.2.2.1, .int .i64 l[k].2.2.2.2.1]] W fun e w' => ∃ b1 c1, e = .returned (.agg #[.int .i64 l[k].1, .int .i64 l[k].2.1, .slice b1 l[k].2.2.1.length c1, .int .i64 l[k].2.2.2.1, .int .i64 l[k].2.2.2.2.1]) ∧ Own w' W.heap.size w'.heap.size shFlight (l[k].1, l[k].2.1, l[k].2.2.1, l[k].2.2.2.1, l[k].2.2.2.2.1, ()) [.int .i64 l[k].1, .int .i64 l[k].2.1, .slice b1 l[k].2.2.1.length c1, .int .i64 l[k].2.2.2.1, .int .i64 l[k].2.2.2.2.1] ∧ Below W.heap.size W w') :=
        fun W hW => iCopyFl _ _ _ _ _ sa _ sc W rfl (rb.below (Nat.le_refl _) hW) hnil hnn w0 w1' w3 w4
      clear rk r3 rb hnil w0 w1' w3 w4
      generalize l[k].1 = z0 at *
      generalize l[k].2.1 = z1 at *
      generalize l[k].2.2.1 = d at *
      generalize l[k].2.2.2.1 = z3 at *
      generalize l[k].2.2.2.2.1 = z4 at *
      generalize d.length = m at *
      go_upto_region 6 with fail
      obtain ⟨V, hV⟩ : ∃ V, V = wr.alloc (.cells #[.int .i64 z0, .int .i64 z1, .slice sa m sc, .int .i64 z3, .int .i64 z4] 38) := ⟨_, rfl⟩
      rw [← hV]
      have k5 : ∀ o, V.cell? ⟨wr.heap.size, o, none⟩ = (#[.int .i64 z0, .int .i64 z1, .slice sa m sc, .int .i64 z3, .int .i64 z4] : Array Value)[o]? := fun o => by rw [hV]; simp [go_sem]
      have HBV : Hid (Below wr.heap.size wr V) := by rw [hV]; exact (Below.refl _ _).alloc (Nat.le_refl _) _
      have hVz : V.heap.size = wr.heap.size + 1 := by rw [hV]; simp
      replace k1 := boxB k1 HBV.out (by omega)
      replace f1 := boxF f1 HBV.out (by omega)
      replace k2 := boxB k2 HBV.out (by omega)
      replace f2 := boxF f2 HBV.out (by omega)
      have HOV : Hid (Own V (w.heap.size + 1 + 1 + 1) wr.heap.size shFlights (l.take k) [.slice va k vc]) := HO.out.below (Nat.le_refl _) HBV.out
      have HBw : Hid (Below w.heap.size w V) := HB.out.trans (HBV.out.mono (by omega))
      clear hV q0 q1 q2 q3 q4 HO HB
      go_region_law ((first
        | (refine app_elem_st w1 (by rfl) _ _ 24 38 (by rfl) shFlight (.agg #[.int .i64 0, .int .i64 0, .slice none 0 0, .int .i64 0, .int .i64 0]) 56 Try.underlying24 info_FlightS rfl (by decide) (by decide) (w.heap.size + 1 + 1 + 1) wr.heap.size V.heap.size w1.heap.size (l.take k) (.slice va k vc) (by rfl) w1.heap.size rfl (by rfl) HO1.out (z0, z1, d, z3, z4, ()) [.int .i64 z0, .int .i64 z1, .slice b1 m c1, .int .i64 z3, .int .i64 z4] HE1.out (by omega) (by omega) (Nat.le_refl _) (by have := HLL.out; omega) (by omega) ?_; intro v2 w2 ho2 hb2 hk2 hs2; obtain ⟨va2, vc2, hv2⟩ := row_form (ho2.rd (Nat.le_refl _)); simp only [List.cons.injEq, and_true, List.length_append, List.length_cons, List.length_nil, HLL.out] at hv2; subst hv2; have HO2 : Hid (Own w2 (w.heap.size + 1 + 1 + 1) w2.heap.size shFlights (l.take (k + 1)) [.slice va2 (k + 1) vc2]) := (by rw [HTK.out]; exact ho2); have HB2 : Hid (Below w.heap.size w w2) := HB1.out.trans (hb2.mono (by omega)); have zz2 : w.heap.size + 1 + 1 < w2.heap.size := (by omega); replace k1 := boxB k1 hb2 (by omega); replace f1 := boxF f1 hb2 (by omega); replace k2 := boxB k2 hb2 (by omega); replace f2 := boxF f2 hb2 (by omega); clear ho2 hb2 hk2 hs2)
        | (go_simp; go_at_call 44; refine (HCF.out _ (HBV.out.drew)).mono ?_; rintro e w1 ⟨b1, c1, rfl, ho1, hb1⟩; have hbx : Below V.heap.size V w1 := (Below.drew (Below.refl _ _)).trans hb1; have zz : V.heap.size ≤ w1.heap.size := hbx.size; have zz3 : w.heap.size + 1 + 1 < w1.heap.size := (by omega); have HE1 : Hid (Own w1 V.heap.size w1.heap.size shFlight (z0, z1, d, z3, z4, ()) [.int .i64 z0, .int .i64 z1, .slice b1 m c1, .int .i64 z3, .int .i64 z4]) := ho1; have HO1 : Hid (Own w1 (w.heap.size + 1 + 1 + 1) wr.heap.size shFlights (l.take k) [.slice va k vc]) := HOV.out.below (by omega) hbx; replace k1 := boxB k1 hbx (by omega); replace f1 := boxF f1 hbx (by omega); replace k2 := boxB k2 hbx (by omega); replace f2 := boxF f2 hbx (by omega); have HB1 : Hid (Below w.heap.size w w1) := HBw.out.trans (hbx.mono (by omega)); clear ho1 hb1 hbx k5)))
      all_goals (go_wp2_with fail; go_roundw)
      all_goals first
        | (exact ⟨k + 1, va2, vc2, by omega, by go_num, box_off k1 (by omega), (fun o => by rw [World.frozen?_setCell]; exact f1 o), box_set3 k2, (fun o => by rw [World.frozen?_setCell]; exact f2 o), Own.mono (Own.keep HO2.out fun b h1 h2 => Below.heap_setCell _ _ _ _ (by dsimp only; omega)) (Nat.le_refl _) (by simp), HB2.out.setCell (by simp; omega) _, by simpa using zz2⟩)
        | (simp [intOf]; omega)
    · obtain rfl : k = n := by omega
      have HO2 : Hid (Own wr (w.heap.size + 1 + 1 + 1) wr.heap.size shFlights l [.slice va k vc]) := by have h := HO.out; rw [← HN.out, List.take_length] at h; rw [← HN.out]; exact h
      go_wp2_with fail
      refine bodyPost_ret (v := .agg #[.int .i64 y0, .int .i64 y1, .int .i64 y2, .slice va k vc]) (by simp [results, Try.results20, go_sem, k1]) rfl ⟨_, rfl, ?_, ?_⟩
      · have h2 : Own wr (w.heap.size + 1 + 1 + 1) wr.heap.size shSender (y0, y1, y2, l, ()) [.int .i64 y0, .int .i64 y1, .int .i64 y2, .slice va k vc] := hOwnCons (hOwnInt wr _ (w.heap.size + 1 + 1 + 1) W0.out) (hOwnCons (hOwnInt wr _ (w.heap.size + 1 + 1 + 1) W1.out) (hOwnCons (hOwnInt wr _ (w.heap.size + 1 + 1 + 1) W2.out) (hOwnCons HO2.out (hOwnNil _ _ _) (by omega) (Nat.le_refl _)) (Nat.le_refl _) (by omega)) (Nat.le_refl _) (by omega)) (Nat.le_refl _) (by omega)
        refine Own.mono (Own.keep h2 fun b hb hlt => ?_) (by omega) (by simp)
        repeat rw [Below.heap_setCell _ _ _ _ (by dsimp only; omega)]
      · have hB1 := HB.out
        clear k1 f1 k2 f2 HO HO2 HB
        go_grown
end Go.Proofs.Yteaddhldleeaiaa
