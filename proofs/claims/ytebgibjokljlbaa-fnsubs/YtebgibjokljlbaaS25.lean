/- What the program makes of a copy of a sender: it owns its memory; nothing that was in memory turns; no condition but that loads are of at most a million bytes. -/
import Derived.Test.YtebgibjokljlbaaRows
import Derived.Deep.RegionHeld3
import Derived.Deep.RegionLaw
import Derived.Deep.CutRange
import Derived.Deep.DeepCutAuto
import Derived.Deep.DeepMust
import Derived.Test.YtebgibjokljlbaaS01
import Derived.Test.YtebgibjokljlbaaS02
import Derived.Test.YtebgibjokljlbaaS03
import Derived.Test.YtebgibjokljlbaaS04
import Derived.Test.YtebgibjokljlbaaS05
import Derived.Test.YtebgibjokljlbaaS06
import Derived.Test.YtebgibjokljlbaaS11
import Derived.Test.YtebgibjokljlbaaS13
import Derived.Test.YtebgibjokljlbaaS18
import Derived.Test.YtebgibjokljlbaaS20
import Derived.Test.YtebgibjokljlbaaS21
import Derived.Test.YtebgibjokljlbaaS23
import Derived.Test.YtebgibjokljlbaaS24
namespace Go.Proofs.Ytebgibjokljlbaa
open Go.RowKit
set_option linter.unusedVariables false
set_option maxRecDepth 8000
theorem iCopyB (a : Option Addr) (n cap : Nat) (l : List Int) (w : World) (hl : l.length = n) (hr : RB w a l) (hnil : a = none → cap = 0) (hn : n ≤ 1048576) :
    Calls Try.prog 108 #[.slice a n cap] w fun e w' => ∃ b1 c1, e = .returned (.slice b1 n c1) ∧ OB w' w.heap.size (.slice b1 n c1) l ∧ Below w.heap.size w w' := by
  go_enter Try.func108, Try.ntmps108
  go_wp2_with (at_builtin; go_loud (refine app_pl w rfl _ _ 22 22 rfl Try.underlying22 Try.underlying22 w.heap.size (.slice none 0 0) [] (by rfl) ⟨⟨rfl, Or.inl ⟨rfl, rfl⟩⟩, by simp⟩ a l n cap hl (by rfl) hr hnil (by simp; omega) (Nat.le_refl _) ?_; intro v' w5 ho5 hb5 hg5 hat5; rw [List.nil_append] at ho5; obtain ⟨b1, c1, hv1, -, -⟩ := ho5.rbn; rw [hl] at hv1; subst hv1))
  go_ret
  exact ⟨_, _, rfl, ho5, hb5⟩
set_option maxHeartbeats 1000000 in
theorem iCopyFl (z0 z1 z3 z4 : Int) (d : List Int) (a : Option Addr) (n cap : Nat) (w : World) (hl : d.length = n) (hr : RB w a d) (hnil : a = none → cap = 0) (hn : n ≤ 1048576) (w0 : (Lit.int .i64 z0).wf = true) (w1 : (Lit.int .i64 z1).wf = true) (w3 : (Lit.int .i64 z3).wf = true) (w4 : (Lit.int .i64 z4).wf = true) :
    Calls Try.prog 135 #[.agg #[.int .i64 z0, .int .i64 z1, .slice a n cap, .int .i64 z3, .int .i64 z4]] w fun e w' => ∃ b1 c1, e = .returned (.agg #[.int .i64 z0, .int .i64 z1, .slice b1 n c1, .int .i64 z3, .int .i64 z4]) ∧ Own w' w.heap.size w'.heap.size shFlight (z0, z1, d, z3, z4, ()) [.int .i64 z0, .int .i64 z1, .slice b1 n c1, .int .i64 z3, .int .i64 z4] ∧ Below w.heap.size w w' := by
  have V0 : Hid _ := w0
  have V1 : Hid _ := w1
  have V3 : Hid _ := w3
  have V4 : Hid _ := w4
  have HR : Hid (∀ W, Below w.heap.size w W → RB W a d) := fun W h => hr.below (Nat.le_refl _) h
  have HN : Hid _ := hnil
  clear hr hnil w0 w1 w3 w4
  go_enter Try.func135, Try.ntmps135
  go_wp2_with fail
  refine (iCopyB a n cap d _ hl (HR.out _ (by go_grown)) HN.out hn).mono ?_
  rintro e w5 ⟨b1, c1, rfl, ho5, hb5⟩
  have k0 : ∀ o, w5.cell? ⟨w.heap.size, o, none⟩ = (#[.int .i64 z0, .int .i64 z1, .slice a n cap, .int .i64 z3, .int .i64 z4] : Array Value)[o]? := fun o => by rw [hb5.cell (p := ⟨w.heap.size, o, none⟩) (by simp; omega)]; simp [go_sem]
  have k1 : ∀ o, w5.cell? ⟨w.heap.size + 1, o, none⟩ = (#[.int .i64 0, .int .i64 0, .slice none 0 0, .int .i64 0, .int .i64 0] : Array Value)[o]? := fun o => by rw [hb5.cell (p := ⟨w.heap.size + 1, o, none⟩) (by simp)]; simp [go_sem]
  have f0 : ∀ o, w5.frozen? ⟨w.heap.size, o, none⟩ = false := fun o => by rw [hb5.frozen (p := ⟨w.heap.size, o, none⟩) (by simp; omega)]; simp [go_sem]
  have f1 : ∀ o, w5.frozen? ⟨w.heap.size + 1, o, none⟩ = false := fun o => by rw [hb5.frozen (p := ⟨w.heap.size + 1, o, none⟩) (by simp)]; simp [go_sem]
  have z1' : w.heap.size + 1 < w5.heap.size := by have := hb5.size; simp at this; omega
  have HB : Hid (Below w.heap.size w w5) := Below.trans (by go_grown) (hb5.mono (by simp; omega))
  have HO : Hid (Own w5 (w.heap.size + 1 + 1) w5.heap.size u8s d [.slice b1 n c1]) := by show Own _ _ _ _ _ _; have h := own_bytes ho5 (Nat.le_refl _); simpa using h
  clear hb5 ho5
  go_wp2_with fail
  refine bodyPost_ret (v := .agg #[.int .i64 z0, .int .i64 z1, .slice b1 n c1, .int .i64 z3, .int .i64 z4]) (by simp [results, Try.results135, go_sem, k1]) rfl ⟨_, _, rfl, ?_, ?_⟩
  · have h2 : Own w5 (w.heap.size + 1 + 1) w5.heap.size shFlight (z0, z1, d, z3, z4, ()) [.int .i64 z0, .int .i64 z1, .slice b1 n c1, .int .i64 z3, .int .i64 z4] := hOwnCons (hOwnInt w5 _ (w.heap.size + 1 + 1) V0.out) (hOwnCons (hOwnInt w5 _ (w.heap.size + 1 + 1) V1.out) (hOwnCons HO.out (hOwnCons (hOwnInt w5 _ w5.heap.size V3.out) (hOwnCons (hOwnInt w5 _ w5.heap.size V4.out) (hOwnNil _ _ _) (Nat.le_refl _) (Nat.le_refl _)) (Nat.le_refl _) (Nat.le_refl _)) (by omega) (Nat.le_refl _)) (Nat.le_refl _) (by omega)) (Nat.le_refl _) (by omega)
    refine Own.mono (Own.keep h2 fun b hb hlt => ?_) (by omega) (by simp)
    repeat rw [Below.heap_setCell _ _ _ _ (by dsimp only; omega)]
  · have hB1 := HB.out
    clear k0 k1 f0 f1 HO HB
    go_grown
set_option maxHeartbeats 8000000 in
theorem iCopyS (x : DSender) (v : Value) (w : World) (B : Nat) (hr : shSender.Rd w B x [.int .i64 x.1, .int .i64 x.2.1, .int .i64 x.2.2.1, v]) (hB : B ≤ w.heap.size) (hT : totSender x ≤ 1048576) (hL : x.2.2.2.1.length ≤ 1000) :
    Calls Try.prog 114 #[.agg #[.int .i64 x.1, .int .i64 x.2.1, .int .i64 x.2.2.1, v]] w fun e w' => ∃ u, e = .returned (.agg #[.int .i64 x.1, .int .i64 x.2.1, .int .i64 x.2.2.1, u]) ∧ Own w' w.heap.size w'.heap.size shSender x [.int .i64 x.1, .int .i64 x.2.1, .int .i64 x.2.2.1, u] ∧ Below w.heap.size w w' := by
  obtain ⟨vv, ev, rk, wf0, wf1, wf2⟩ := rd_Sender hr
  simp only [List.cons.injEq, and_true, true_and] at ev
  subst ev
  obtain ⟨a, cap, ev2⟩ := row_form rk
  simp only [List.cons.injEq, and_true] at ev2
  subst ev2
  have HT : Hid (∀ k (hk : k < x.2.2.2.1.length), x.2.2.2.1[k].2.2.1.length ≤ 1048576) := fun k hk => by have h : x.2.2.2.1[k].2.2.1.length ≤ fsum totFlight x.2.2.2.1 := fsum_at totFlight hk; unfold totSender totFlights at hT; omega
  have hn1 : x.2.2.2.1.length ≤ 1000 := hL
  have W0 : Hid _ := wf0
  have W1 : Hid _ := wf1
  have W2 : Hid _ := wf2
  clear hr hT wf0 wf1 wf2 hL
  obtain ⟨y0, y1, y2, l, _⟩ := x
  simp only at *
  obtain ⟨n, hn⟩ : ∃ n, l.length = n := ⟨_, rfl⟩
  rw [hn] at rk hn1 ⊢
  have HRd : Hid (∀ W, Below w.heap.size w W → shFlights.Rd W B l [.slice a n cap]) := fun W hW => rk.below hB hW
  have HN : Hid (l.length = n) := hn
  clear rk hn
  go_enter Try.func114, Try.ntmps114
  go_wp2_with fail
  go_loopw [11] (fun i wr => ∃ (k : Nat) (va : Option Addr) (vc : Nat), k ≤ n ∧ i = .int .i64 k ∧ (∀ o, wr.cell? ⟨w.heap.size + 1, o, none⟩ = (#[.int .i64 0, .int .i64 0, .int .i64 0, .slice none 0 0] : Array Value)[o]?) ∧ (∀ o, wr.frozen? ⟨w.heap.size + 1, o, none⟩ = false) ∧ (∀ o, wr.cell? ⟨w.heap.size + 1 + 1, o, none⟩ = (#[.int .i64 y0, .int .i64 y1, .int .i64 y2, .slice va k vc] : Array Value)[o]?) ∧ (∀ o, wr.frozen? ⟨w.heap.size + 1 + 1, o, none⟩ = false) ∧ Hid (Own wr (w.heap.size + 1 + 1 + 1) wr.heap.size shFlights (l.take k) [.slice va k vc]) ∧ Hid (Below w.heap.size w wr) ∧ w.heap.size + 1 + 1 < wr.heap.size) (fun i _ => n - (intOf i).toNat)
  case atStart => exact ⟨0, none, 0, Nat.zero_le _, rfl, fun o => by simp [go_sem], fun o => by simp [go_sem], (fun o => by match o with | 0 => simp [go_sem] | 1 => simp [go_sem] | 2 => simp [go_sem] | 3 => simp [go_sem] | o + 4 => simp [go_sem]), fun o => by simp [go_sem], own_fls0 _ _ _, (by show Below _ _ _; go_grown), by simp⟩
  case round =>
    obtain ⟨k, va, vc, hk, rfl, k1, f1, k2, f2, HO, HB, hz⟩ := hrel
    by_cases hlt : k < n
    · have hkl : k < l.length := by have := HN.out; omega
      obtain ⟨b, off, v, ha, hb, q0, q1, q2, q3, q4, r3⟩ := at_Flights (HRd.out wr HB.out) k hkl
      subst ha
      obtain ⟨vv, ev, rk, w0, w1', w3, w4⟩ := rd_Flight r3
      simp only [List.cons.injEq, and_true, true_and] at ev
      subst ev
      obtain ⟨sa, sc, es, rb, hnil, -⟩ := rd_bytes rk
      simp only [List.cons.injEq, and_true] at es
      subst es
      have hnn := HT.out k hkl
      have HTK : Hid (l.take (k + 1) = l.take k ++ [(l[k].1, l[k].2.1, l[k].2.2.1, l[k].2.2.2.1, l[k].2.2.2.2.1, ())]) := List.take_succ_eq_append_getElem hkl
      have HLL : Hid ((l.take k).length = k) := by show _ = _; simp; omega
      have HCF : Hid (∀ W, Below wr.heap.size wr W → Calls Try.prog 135 #[.agg #[.int .i64 l[k].1, .int .i64 l[k].2.1, .slice sa l[k].2.2.1.length sc, .int .i64 l[k].2.2.2.1, .int .i64 l[k].2.2.2.2.1]] W fun e w' => ∃ b1 c1, e = .returned (.agg #[.int .i64 l[k].1, .int .i64 l[k].2.1, .slice b1 l[k].2.2.1.length c1, .int .i64 l[k].2.2.2.1, .int .i64 l[k].2.2.2.2.1]) ∧ Own w' W.heap.size w'.heap.size shFlight (l[k].1, l[k].2.1, l[k].2.2.1, l[k].2.2.2.1, l[k].2.2.2.2.1, ()) [.int .i64 l[k].1, .int .i64 l[k].2.1, .slice b1 l[k].2.2.1.length c1, .int .i64 l[k].2.2.2.1, .int .i64 l[k].2.2.2.2.1] ∧ Below W.heap.size W w') :=
        fun W hW => iCopyFl _ _ _ _ _ sa _ sc W rfl (rb.below (Nat.le_refl _) hW) hnil hnn w0 w1' w3 w4
      clear rk r3 rb hnil w0 w1' w3 w4
      generalize l[k].1 = z0 at *
      generalize l[k].2.1 = z1 at *
      generalize l[k].2.2.1 = d at *
      generalize l[k].2.2.2.1 = z3 at *
      generalize l[k].2.2.2.2.1 = z4 at *
      generalize d.length = m at *
      go_upto_region 6 with fail
      obtain ⟨V, hV⟩ : ∃ V, V = wr.alloc (.cells #[.int .i64 z0, .int .i64 z1, .slice sa m sc, .int .i64 z3, .int .i64 z4] 118) := ⟨_, rfl⟩
      rw [← hV]
      have k5 : ∀ o, V.cell? ⟨wr.heap.size, o, none⟩ = (#[.int .i64 z0, .int .i64 z1, .slice sa m sc, .int .i64 z3, .int .i64 z4] : Array Value)[o]? := fun o => by rw [hV]; simp [go_sem]
      have HBV : Hid (Below wr.heap.size wr V) := by rw [hV]; exact (Below.refl _ _).alloc (Nat.le_refl _) _
      have hVz : V.heap.size = wr.heap.size + 1 := by rw [hV]; simp
      replace k1 := boxB k1 HBV.out (by omega)
      replace f1 := boxF f1 HBV.out (by omega)
      replace k2 := boxB k2 HBV.out (by omega)
      replace f2 := boxF f2 HBV.out (by omega)
      have HOV : Hid (Own V (w.heap.size + 1 + 1 + 1) wr.heap.size shFlights (l.take k) [.slice va k vc]) := HO.out.below (Nat.le_refl _) HBV.out
      have HBw : Hid (Below w.heap.size w V) := HB.out.trans (HBV.out.mono (by omega))
      clear hV q0 q1 q2 q3 q4 HO HB
      go_region_law ((first
        | (refine app_elem_st w1 (by rfl) _ _ 55 118 (by rfl) shFlight (.agg #[.int .i64 0, .int .i64 0, .slice none 0 0, .int .i64 0, .int .i64 0]) 56 Try.underlying55 info_FlightS rfl (by decide) (by decide) (w.heap.size + 1 + 1 + 1) wr.heap.size V.heap.size w1.heap.size (l.take k) (.slice va k vc) (by rfl) w1.heap.size rfl (by rfl) HO1.out (z0, z1, d, z3, z4, ()) [.int .i64 z0, .int .i64 z1, .slice b1 m c1, .int .i64 z3, .int .i64 z4] HE1.out (by omega) (by omega) (Nat.le_refl _) (by have := HLL.out; omega) (by omega) ?_; intro v2 w2 ho2 hb2 hk2 hs2; obtain ⟨va2, vc2, hv2⟩ := row_form (ho2.rd (Nat.le_refl _)); simp only [List.cons.injEq, and_true, List.length_append, List.length_cons, List.length_nil, HLL.out] at hv2; subst hv2; have HO2 : Hid (Own w2 (w.heap.size + 1 + 1 + 1) w2.heap.size shFlights (l.take (k + 1)) [.slice va2 (k + 1) vc2]) := (by rw [HTK.out]; exact ho2); have HB2 : Hid (Below w.heap.size w w2) := HB1.out.trans (hb2.mono (by omega)); have zz2 : w.heap.size + 1 + 1 < w2.heap.size := (by omega); replace k1 := boxB k1 hb2 (by omega); replace f1 := boxF f1 hb2 (by omega); replace k2 := boxB k2 hb2 (by omega); replace f2 := boxF f2 hb2 (by omega); clear ho2 hb2 hk2 hs2)
        | (go_simp; go_at_call 135; refine (HCF.out _ (HBV.out.drew)).mono ?_; rintro e w1 ⟨b1, c1, rfl, ho1, hb1⟩; have hbx : Below V.heap.size V w1 := (Below.drew (Below.refl _ _)).trans hb1; have zz : V.heap.size ≤ w1.heap.size := hbx.size; have zz3 : w.heap.size + 1 + 1 < w1.heap.size := (by omega); have HE1 : Hid (Own w1 V.heap.size w1.heap.size shFlight (z0, z1, d, z3, z4, ()) [.int .i64 z0, .int .i64 z1, .slice b1 m c1, .int .i64 z3, .int .i64 z4]) := ho1; have HO1 : Hid (Own w1 (w.heap.size + 1 + 1 + 1) wr.heap.size shFlights (l.take k) [.slice va k vc]) := HOV.out.below (by omega) hbx; replace k1 := boxB k1 hbx (by omega); replace f1 := boxF f1 hbx (by omega); replace k2 := boxB k2 hbx (by omega); replace f2 := boxF f2 hbx (by omega); have HB1 : Hid (Below w.heap.size w w1) := HBw.out.trans (hbx.mono (by omega)); clear ho1 hb1 hbx k5)))
      all_goals (go_wp2_with fail; go_roundw)
      all_goals first
        | (exact ⟨k + 1, va2, vc2, by omega, by go_num, box_off k1 (by omega), (fun o => by rw [World.frozen?_setCell]; exact f1 o), box_set3 k2, (fun o => by rw [World.frozen?_setCell]; exact f2 o), Own.mono (Own.keep HO2.out fun b h1 h2 => Below.heap_setCell _ _ _ _ (by dsimp only; omega)) (Nat.le_refl _) (by simp), HB2.out.setCell (by simp; omega) _, by simpa using zz2⟩)
        | (simp [intOf]; omega)
    · obtain rfl : k = n := by omega
      have HO2 : Hid (Own wr (w.heap.size + 1 + 1 + 1) wr.heap.size shFlights l [.slice va k vc]) := by have h := HO.out; rw [← HN.out, List.take_length] at h; rw [← HN.out]; exact h
      go_wp2_with fail
      refine bodyPost_ret (v := .agg #[.int .i64 y0, .int .i64 y1, .int .i64 y2, .slice va k vc]) (by simp [results, Try.results114, go_sem, k1]) rfl ⟨_, rfl, ?_, ?_⟩
      · have h2 : Own wr (w.heap.size + 1 + 1 + 1) wr.heap.size shSender (y0, y1, y2, l, ()) [.int .i64 y0, .int .i64 y1, .int .i64 y2, .slice va k vc] := hOwnCons (hOwnInt wr _ (w.heap.size + 1 + 1 + 1) W0.out) (hOwnCons (hOwnInt wr _ (w.heap.size + 1 + 1 + 1) W1.out) (hOwnCons (hOwnInt wr _ (w.heap.size + 1 + 1 + 1) W2.out) (hOwnCons HO2.out (hOwnNil _ _ _) (by omega) (Nat.le_refl _)) (Nat.le_refl _) (by omega)) (Nat.le_refl _) (by omega)) (Nat.le_refl _) (by omega)
        refine Own.mono (Own.keep h2 fun b hb hlt => ?_) (by omega) (by simp)
        repeat rw [Below.heap_setCell _ _ _ _ (by dsimp only; omega)]
      · have hB1 := HB.out
        clear k1 f1 k2 f2 HO HO2 HB
        go_grown
end Go.Proofs.Ytebgibjokljlbaa
namespace Go.Proofs.Ytebgibjokljlbaa
open Go.RowKit
set_option linter.unusedVariables false
set_option maxRecDepth 8000
structure SubIn (w : World) (B : Nat) (fl : List DFlight) (sp : List DSpan) (s0 s1 s2 c0 c1 : Int) (ua : Option Addr) (fn uc : Nat) (va : Option Addr) (sn vc : Nat) : Prop where
  rs : shSender.Rd w B (s0, s1, s2, fl, ()) [.int .i64 s0, .int .i64 s1, .int .i64 s2, .slice ua fn uc]
  rc : RS w va sp
  nil : va = none → vc = 0
  hfn : fl.length = fn
  hsn : sp.length = sn
  w0 : (Lit.int .i64 c0).wf = true
  w1 : (Lit.int .i64 c1).wf = true
  hB : B ≤ w.heap.size
  ht : totSender (s0, s1, s2, fl, ()) ≤ 1048576
  h1 : fn ≤ 1000
  h2 : sn ≤ 1000
theorem SubIn.of {w : World} {B : Nat} {fl : List DFlight} {sp : List DSpan} {s0 s1 s2 c0 c1 : Int} {ua : Option Addr} {fn uc : Nat} {va : Option Addr} {sn vc : Nat} (rs : shSender.Rd w B (s0, s1, s2, fl, ()) [.int .i64 s0, .int .i64 s1, .int .i64 s2, .slice ua fn uc]) (rc : shCatch.Rd w B (c0, c1, sp, ()) [.int .i64 c0, .int .i64 c1, .slice va sn vc]) (hfn : fl.length = fn) (hsn : sp.length = sn) (hB : B ≤ w.heap.size) (h : sndFault (s0, s1, s2, fl, ()) = 0) (h' : caF (c0, c1, sp, ()) = 0) : SubIn w B fl sp s0 s1 s2 c0 c1 ua fn uc va sn vc := by
  have a1 : fl.length ≤ 12 := (snd_ok h).2.2.2
  have a2 : sp.length ≤ 20 := (ca_ok h').2.2.1
  have a3 : totSender (s0, s1, s2, fl, ()) ≤ 108 := snd_tot h
  obtain ⟨q, e, r, g0, g1⟩ := rd_Catch rc
  simp only [List.cons.injEq, and_true, true_and] at e
  subst e
  replace r : shSpans.Rd w B sp [.slice va sn vc] := r
  have rr := r
  obtain ⟨a', cap', e, -, hn, -⟩ := rr
  simp only [List.cons.injEq, Value.slice.injEq, and_true] at e
  obtain ⟨rfl, -, rfl⟩ := e
  exact ⟨rs, RS.of_rd r, hn, hfn, hsn, g0, g1, hB, by omega, by omega, by omega⟩
theorem SubIn.below {w W : World} {B : Nat} {fl : List DFlight} {sp : List DSpan} {s0 s1 s2 c0 c1 : Int} {ua : Option Addr} {fn uc : Nat} {va : Option Addr} {sn vc : Nat} (h : SubIn w B fl sp s0 s1 s2 c0 c1 ua fn uc va sn vc) (hW : Below w.heap.size w W) : SubIn W B fl sp s0 s1 s2 c0 c1 ua fn uc va sn vc :=
  ⟨h.rs.below h.hB hW, h.rc.below hW, h.nil, h.hfn, h.hsn, h.w0, h.w1, Nat.le_trans h.hB hW.size, h.ht, h.h1, h.h2⟩
structure SubOw (w : World) (lo hi : Nat) (fl : List DFlight) (sp : List DSpan) (s0 s1 s2 c0 c1 : Int) (qa : Option Addr) (fn qc : Nat) (ra : Option Addr) (sn rc m : Nat) : Prop where
  s : Own w lo m shSender (s0, s1, s2, fl, ()) [.int .i64 s0, .int .i64 s1, .int .i64 s2, .slice qa fn qc]
  c : Own w m hi shCatchO (c0, c1, sp, ()) [.int .i64 c0, .int .i64 c1, .slice ra sn rc]
  lm : lo ≤ m
  mh : m ≤ hi
theorem SubOw.keep {w w' : World} {lo hi : Nat} {fl : List DFlight} {sp : List DSpan} {s0 s1 s2 c0 c1 : Int} {qa : Option Addr} {fn qc : Nat} {ra : Option Addr} {sn rc m : Nat} (h : SubOw w lo hi fl sp s0 s1 s2 c0 c1 qa fn qc ra sn rc m) (hk : ∀ b, lo ≤ b → b < hi → w'.heap[b]? = w.heap[b]?) : SubOw w' lo hi fl sp s0 s1 s2 c0 c1 qa fn qc ra sn rc m :=
  ⟨Own.keep h.s (fun b h1 h2 => hk b h1 (Nat.lt_of_lt_of_le h2 h.mh)), Own.keep h.c (fun b h1 h2 => hk b (Nat.le_trans h.lm h1) h2), h.lm, h.mh⟩
theorem SubOw.grow {w : World} {lo hi lo' hi' : Nat} {fl : List DFlight} {sp : List DSpan} {s0 s1 s2 c0 c1 : Int} {qa : Option Addr} {fn qc : Nat} {ra : Option Addr} {sn rc m : Nat} (h : SubOw w lo hi fl sp s0 s1 s2 c0 c1 qa fn qc ra sn rc m) (h1 : lo' ≤ lo) (h2 : hi ≤ hi') : SubOw w lo' hi' fl sp s0 s1 s2 c0 c1 qa fn qc ra sn rc m :=
  ⟨Own.mono h.s h1 (Nat.le_refl _), Own.mono h.c (Nat.le_refl _) h2, Nat.le_trans h1 h.lm, Nat.le_trans h.mh h2⟩
set_option maxHeartbeats 4000000 in
theorem sL8Copy (y0 y1 : Int) (y2 : Bool) (y3 y4 y5 s0 s1 s2 c0 c1 k0 k1 k2 : Int) (fl : List DFlight) (sp : List DSpan) (ua : Option Addr) (fn uc : Nat) (va : Option Addr) (sn vc : Nat) (w : World) (B : Nat) (h : SubIn w B fl sp s0 s1 s2 c0 c1 ua fn uc va sn vc) :
    Calls Try.prog 82 #[.agg #[.int .i64 y0, .int .i64 y1, .bool y2, .int .i64 y3, .int .i64 y4, .int .i64 y5, .int .i64 s0, .int .i64 s1, .int .i64 s2, .slice ua fn uc, .int .i64 c0, .int .i64 c1, .slice va sn vc, .int .i64 k0, .int .i64 k1, .int .i64 k2]] w fun e w' => ∃ qa qc ra rc m, e = .returned (.agg #[.int .i64 y0, .int .i64 y1, .bool y2, .int .i64 y3, .int .i64 y4, .int .i64 y5, .int .i64 s0, .int .i64 s1, .int .i64 s2, .slice qa fn qc, .int .i64 c0, .int .i64 c1, .slice ra sn rc, .int .i64 k0, .int .i64 k1, .int .i64 k2]) ∧ SubOw w' w.heap.size w'.heap.size fl sp s0 s1 s2 c0 c1 qa fn qc ra sn rc m ∧ Below w.heap.size w w' := by
  have H1 : Hid (∀ W, Below w.heap.size w W → Calls Try.prog 122 #[.agg #[.int .i64 s0, .int .i64 s1, .int .i64 s2, .slice ua fn uc]] W fun e w' => ∃ u, e = .returned (.agg #[.int .i64 s0, .int .i64 s1, .int .i64 s2, u]) ∧ Own w' W.heap.size w'.heap.size shSender (s0, s1, s2, fl, ()) [.int .i64 s0, .int .i64 s1, .int .i64 s2, u] ∧ Below W.heap.size W w') := fun W hW => sL5Copy (s0, s1, s2, fl, ()) _ W B (h.below hW).rs (h.below hW).hB h.ht (by show fl.length ≤ 1000; rw [h.hfn]; exact h.h1)
  have H2 : Hid (∀ W, Below w.heap.size w W → Calls Try.prog 123 #[.agg #[.int .i64 c0, .int .i64 c1, .slice va sn vc]] W fun e w' => ∃ ga c, e = .returned (.agg #[.int .i64 c0, .int .i64 c1, .slice ga sn c]) ∧ OS w' W.heap.size (.slice ga sn c) sp ∧ Below W.heap.size W w') := fun W hW => sL7Copy c0 c1 sp va sn vc W h.hsn (h.rc.below hW) h.nil (by have := h.h2; omega)
  have HN : Hid (fl.length = fn) := h.hfn
  have HW0 : Hid _ := h.w0
  have HW1 : Hid _ := h.w1
  clear h
  go_enter Try.func82, Try.ntmps82
  go_wp2_with fail
  refine (H1.out _ (by go_grown)).mono ?_
  rintro e w1 ⟨u1, rfl, ho, hb⟩
  have j0 : ∀ o, w1.cell? ⟨w.heap.size, o, none⟩ = (#[.int .i64 y0, .int .i64 y1, .bool y2, .int .i64 y3, .int .i64 y4, .int .i64 y5, .int .i64 s0, .int .i64 s1, .int .i64 s2, .slice ua fn uc, .int .i64 c0, .int .i64 c1, .slice va sn vc, .int .i64 k0, .int .i64 k1, .int .i64 k2] : Array Value)[o]? := fun o => by rw [hb.cell (p := ⟨w.heap.size, o, none⟩) (by simp <;> omega)]; simp [go_sem]
  have f0 : ∀ o, w1.frozen? ⟨w.heap.size, o, none⟩ = false := fun o => by rw [hb.frozen (p := ⟨w.heap.size, o, none⟩) (by simp <;> omega)]; simp [go_sem]
  obtain ⟨uu, eu, ru, -⟩ := rd_Sender (ho.rd (Nat.le_refl _))
  simp only [List.cons.injEq, and_true, true_and] at eu
  subst eu
  obtain ⟨qa, qc, eu⟩ := row_form ru
  rw [HN.out] at eu
  simp only [List.cons.injEq, and_true] at eu
  subst eu
  have j1 : ∀ o, w1.cell? ⟨w.heap.size + 1, o, none⟩ = (#[.int .i64 0, .int .i64 0, .bool false, .int .i64 0, .int .i64 0, .int .i64 0, .int .i64 0, .int .i64 0, .int .i64 0, .slice none 0 0, .int .i64 0, .int .i64 0, .slice none 0 0, .int .i64 0, .int .i64 0, .int .i64 0] : Array Value)[o]? := fun o => by rw [hb.cell (p := ⟨w.heap.size + 1, o, none⟩) (by simp)]; simp [go_sem]
  have f1 : ∀ o, w1.frozen? ⟨w.heap.size + 1, o, none⟩ = false := fun o => by rw [hb.frozen (p := ⟨w.heap.size + 1, o, none⟩) (by simp)]; simp [go_sem]
  have HB : Hid (Below w.heap.size w w1) := Below.trans (by go_grown) (hb.mono (by simp; omega))
  have HS : Hid (Own w1 (w.heap.size + 1 + 1) w1.heap.size shSender (s0, s1, s2, fl, ()) [.int .i64 s0, .int .i64 s1, .int .i64 s2, .slice qa fn qc]) := Own.mono ho (by simp) (Nat.le_refl _)
  have z1 : w.heap.size + 1 < w1.heap.size := by have := hb.size; simp at this; omega
  clear ho hb H1 ru
  go_wp2_with fail
  refine (H2.out _ (by have h := HB.out; clear j0 j1 f0 f1 HS; go_grown)).mono ?_
  rintro e w2 ⟨ra, rc, rfl, hos, hb⟩
  have z2 : w1.heap.size ≤ w2.heap.size := by have := hb.size; simpa using this
  replace j0 := bx_put (bx_put (bx_put (bx_put j0 (k := 6) (v := .int .i64 s0) (by simp)) (k := 7) (v := .int .i64 s1) (by simp)) (k := 8) (v := .int .i64 s2) (by simp)) (k := 9) (v := .slice qa fn qc) (by simp)
  simp only [List.setIfInBounds_toArray, List.set_cons_zero, List.set_cons_succ] at j0
  replace j0 : ∀ o, w2.cell? ⟨w.heap.size, o, none⟩ = _ := fun o => (hb.cell (p := ⟨w.heap.size, o, none⟩) (by simp; omega)).trans (j0 o)
  replace f0 : ∀ o, w2.frozen? ⟨w.heap.size, o, none⟩ = false := fun o => by rw [hb.frozen (p := ⟨w.heap.size, o, none⟩) (by simp; omega)]; simpa using f0 o
  replace HB : Hid (Below w.heap.size w w2) := (Below.setCell (Below.setCell (Below.setCell (Below.setCell HB.out (by dsimp only; omega) _) (by dsimp only; omega) _) (by dsimp only; omega) _) (by dsimp only; omega) _).trans (hb.mono (by simp; omega))
  replace j1 : ∀ o, w2.cell? ⟨w.heap.size + 1, o, none⟩ = _ := fun o => (hb.cell (p := ⟨w.heap.size + 1, o, none⟩) (by simp; omega)).trans ((bx_off (bx_off (bx_off (bx_off j1 (by omega)) (by omega)) (by omega)) (by omega)) o)
  replace f1 : ∀ o, w2.frozen? ⟨w.heap.size + 1, o, none⟩ = false := fun o => by rw [hb.frozen (p := ⟨w.heap.size + 1, o, none⟩) (by simp; omega)]; simpa using f1 o
  replace HS : Hid (Own w2 (w.heap.size + 1 + 1) w1.heap.size shSender (s0, s1, s2, fl, ()) [.int .i64 s0, .int .i64 s1, .int .i64 s2, .slice qa fn qc]) := Own.keep HS.out (fun b h1 h2 => by rw [hb.block b (by simpa using h2)]; repeat rw [Below.heap_setCell _ _ _ _ (by dsimp only; omega)])
  have HC : Hid (Own w2 w1.heap.size w2.heap.size shCatchO (c0, c1, sp, ()) [.int .i64 c0, .int .i64 c1, .slice ra sn rc]) := own_catO HW0.out HW1.out (OS.ownAll (OS.mono hos (by simp)) (Nat.le_refl _)) z2
  clear hos hb H2
  go_wp2_with fail
  refine bodyPost_ret (v := .agg #[.int .i64 y0, .int .i64 y1, .bool y2, .int .i64 y3, .int .i64 y4, .int .i64 y5, .int .i64 s0, .int .i64 s1, .int .i64 s2, .slice qa fn qc, .int .i64 c0, .int .i64 c1, .slice ra sn rc, .int .i64 k0, .int .i64 k1, .int .i64 k2]) (by simp [results, Try.results82, go_sem, j1]) rfl ⟨qa, qc, ra, rc, w1.heap.size, rfl, ?_, ?_⟩
  · have h2 : SubOw w2 (w.heap.size + 1 + 1) w2.heap.size fl sp s0 s1 s2 c0 c1 qa fn qc ra sn rc w1.heap.size := ⟨HS.out, HC.out, by omega, z2⟩
    refine SubOw.grow (SubOw.keep h2 (fun b h1 h2 => ?_)) (by omega) (by simp)
    repeat rw [Below.heap_setCell _ _ _ _ (by dsimp only; omega)]
  · have hB1 := HB.out
    clear j0 j1 f0 f1 HS HC HB
    go_grown
set_option maxHeartbeats 4000000 in
theorem iCopySub (y0 y1 : Int) (y2 : Bool) (y3 y4 y5 s0 s1 s2 c0 c1 k0 k1 k2 : Int) (fl : List DFlight) (sp : List DSpan) (ua : Option Addr) (fn uc : Nat) (va : Option Addr) (sn vc : Nat) (w : World) (B : Nat) (h : SubIn w B fl sp s0 s1 s2 c0 c1 ua fn uc va sn vc) :
    Calls Try.prog 78 #[.agg #[.int .i64 y0, .int .i64 y1, .bool y2, .int .i64 y3, .int .i64 y4, .int .i64 y5, .int .i64 s0, .int .i64 s1, .int .i64 s2, .slice ua fn uc, .int .i64 c0, .int .i64 c1, .slice va sn vc, .int .i64 k0, .int .i64 k1, .int .i64 k2]] w fun e w' => ∃ qa qc ra rc m, e = .returned (.pointer (some ⟨w.heap.size, 0, none⟩)) ∧ (∀ o, w'.cell? ⟨w.heap.size, o, none⟩ = (#[.int .i64 y0, .int .i64 y1, .bool y2, .int .i64 y3, .int .i64 y4, .int .i64 y5, .int .i64 s0, .int .i64 s1, .int .i64 s2, .slice qa fn qc, .int .i64 c0, .int .i64 c1, .slice ra sn rc, .int .i64 k0, .int .i64 k1, .int .i64 k2] : Array Value)[o]?) ∧ (∀ o, w'.frozen? ⟨w.heap.size, o, none⟩ = false) ∧ SubOw w' (w.heap.size + 1) w'.heap.size fl sp s0 s1 s2 c0 c1 qa fn qc ra sn rc m ∧ w.heap.size < w'.heap.size ∧ Below w.heap.size w w' := by
  have H1 : Hid (∀ W, Below w.heap.size w W → Calls Try.prog 114 #[.agg #[.int .i64 s0, .int .i64 s1, .int .i64 s2, .slice ua fn uc]] W fun e w' => ∃ u, e = .returned (.agg #[.int .i64 s0, .int .i64 s1, .int .i64 s2, u]) ∧ Own w' W.heap.size w'.heap.size shSender (s0, s1, s2, fl, ()) [.int .i64 s0, .int .i64 s1, .int .i64 s2, u] ∧ Below W.heap.size W w') := fun W hW => iCopyS (s0, s1, s2, fl, ()) _ W B (h.below hW).rs (h.below hW).hB h.ht (by show fl.length ≤ 1000; rw [h.hfn]; exact h.h1)
  have H2 : Hid (∀ W, Below w.heap.size w W → Calls Try.prog 115 #[.agg #[.int .i64 c0, .int .i64 c1, .slice va sn vc]] W fun e w' => ∃ ga c, e = .returned (.agg #[.int .i64 c0, .int .i64 c1, .slice ga sn c]) ∧ OS w' W.heap.size (.slice ga sn c) sp ∧ Below W.heap.size W w') := fun W hW => iCopyCatch c0 c1 sp va sn vc W h.hsn (h.rc.below hW) h.nil (by have := h.h2; omega)
  have HN : Hid (fl.length = fn) := h.hfn
  have HW0 : Hid _ := h.w0
  have HW1 : Hid _ := h.w1
  clear h
  go_enter Try.func78, Try.ntmps78
  go_wp2_with fail
  refine (H1.out _ (by go_grown)).mono ?_
  rintro e w1 ⟨u1, rfl, ho, hb⟩
  have j0 : ∀ o, w1.cell? ⟨w.heap.size, o, none⟩ = (#[.int .i64 y0, .int .i64 y1, .bool y2, .int .i64 y3, .int .i64 y4, .int .i64 y5, .int .i64 s0, .int .i64 s1, .int .i64 s2, .slice ua fn uc, .int .i64 c0, .int .i64 c1, .slice va sn vc, .int .i64 k0, .int .i64 k1, .int .i64 k2] : Array Value)[o]? := fun o => by rw [hb.cell (p := ⟨w.heap.size, o, none⟩) (by simp <;> omega)]; simp [go_sem]
  have f0 : ∀ o, w1.frozen? ⟨w.heap.size, o, none⟩ = false := fun o => by rw [hb.frozen (p := ⟨w.heap.size, o, none⟩) (by simp <;> omega)]; simp [go_sem]
  obtain ⟨uu, eu, ru, -⟩ := rd_Sender (ho.rd (Nat.le_refl _))
  simp only [List.cons.injEq, and_true, true_and] at eu
  subst eu
  obtain ⟨qa, qc, eu⟩ := row_form ru
  rw [HN.out] at eu
  simp only [List.cons.injEq, and_true] at eu
  subst eu
  have HB : Hid (Below w.heap.size w w1) := Below.trans (by go_grown) (hb.mono (by simp))
  have HS : Hid (Own w1 (w.heap.size + 1) w1.heap.size shSender (s0, s1, s2, fl, ()) [.int .i64 s0, .int .i64 s1, .int .i64 s2, .slice qa fn qc]) := Own.mono ho (by simp) (Nat.le_refl _)
  have z1 : w.heap.size < w1.heap.size := by have := hb.size; simp at this; omega
  clear ho hb H1 ru
  go_wp2_with fail
  refine (H2.out _ (by have h := HB.out; clear j0 f0 HS; go_grown)).mono ?_
  rintro e w2 ⟨ra, rc, rfl, hos, hb⟩
  have z2 : w1.heap.size ≤ w2.heap.size := by have := hb.size; simpa using this
  replace j0 := bx_put (bx_put (bx_put (bx_put j0 (k := 6) (v := .int .i64 s0) (by simp)) (k := 7) (v := .int .i64 s1) (by simp)) (k := 8) (v := .int .i64 s2) (by simp)) (k := 9) (v := .slice qa fn qc) (by simp)
  simp only [List.setIfInBounds_toArray, List.set_cons_zero, List.set_cons_succ] at j0
  replace j0 : ∀ o, w2.cell? ⟨w.heap.size, o, none⟩ = _ := fun o => (hb.cell (p := ⟨w.heap.size, o, none⟩) (by simp; omega)).trans (j0 o)
  replace f0 : ∀ o, w2.frozen? ⟨w.heap.size, o, none⟩ = false := fun o => by rw [hb.frozen (p := ⟨w.heap.size, o, none⟩) (by simp; omega)]; simpa using f0 o
  replace HB : Hid (Below w.heap.size w w2) := (Below.setCell (Below.setCell (Below.setCell (Below.setCell HB.out (by dsimp only; omega) _) (by dsimp only; omega) _) (by dsimp only; omega) _) (by dsimp only; omega) _).trans (hb.mono (by simp; omega))
  replace HS : Hid (Own w2 (w.heap.size + 1) w1.heap.size shSender (s0, s1, s2, fl, ()) [.int .i64 s0, .int .i64 s1, .int .i64 s2, .slice qa fn qc]) := Own.keep HS.out (fun b h1 h2 => by rw [hb.block b (by simpa using h2)]; repeat rw [Below.heap_setCell _ _ _ _ (by dsimp only; omega)])
  have HC : Hid (Own w2 w1.heap.size w2.heap.size shCatchO (c0, c1, sp, ()) [.int .i64 c0, .int .i64 c1, .slice ra sn rc]) := own_catO HW0.out HW1.out (OS.ownAll (OS.mono hos (by simp)) (Nat.le_refl _)) z2
  clear hos hb H2
  go_wp2_with fail
  go_ret
  have j9 := bx_put (bx_put (bx_put j0 (k := 10) (v := .int .i64 c0) (by simp)) (k := 11) (v := .int .i64 c1) (by simp)) (k := 12) (v := .slice ra sn rc) (by simp)
  simp only [List.setIfInBounds_toArray, List.set_cons_zero, List.set_cons_succ] at j9
  have h2 : SubOw w2 (w.heap.size + 1) w2.heap.size fl sp s0 s1 s2 c0 c1 qa fn qc ra sn rc w1.heap.size := ⟨HS.out, HC.out, by omega, z2⟩
  refine ⟨qa, qc, ra, rc, w1.heap.size, rfl, j9, (fun o => by simpa using f0 o), SubOw.grow (SubOw.keep h2 (fun b h1 h2 => ?_)) (Nat.le_refl _) (by simp), by simp; omega, ?_⟩
  · repeat rw [Below.heap_setCell _ _ _ _ (by dsimp only; omega)]
  exact Below.setCell (Below.setCell (Below.setCell HB.out (by dsimp only; omega) _) (by dsimp only; omega) _) (by dsimp only; omega) _
end Go.Proofs.Ytebgibjokljlbaa
