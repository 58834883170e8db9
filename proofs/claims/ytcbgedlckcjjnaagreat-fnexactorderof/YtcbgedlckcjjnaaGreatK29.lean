/- What the model answers of a sender: its fault, what is on its way, the number of a place, a new one; nothing that was in memory turns; no condition but that loads are of at most a million bytes. -/
import Derived.Test.YtcbgedlckcjjnaaGreatRows
import Derived.Deep.DeepMust
import Derived.Deep.RegionHeld3
import Derived.Deep.RegionLaw
import Derived.Deep.CutRange
import Derived.Deep.DeepCutAuto
import Derived.Test.YtcbgedlckcjjnaaGreatK01
import Derived.Test.YtcbgedlckcjjnaaGreatK02
import Derived.Test.YtcbgedlckcjjnaaGreatK03
import Derived.Test.YtcbgedlckcjjnaaGreatK04
import Derived.Test.YtcbgedlckcjjnaaGreatK05
import Derived.Test.YtcbgedlckcjjnaaGreatK06
import Derived.Test.YtcbgedlckcjjnaaGreatK07
import Derived.Test.YtcbgedlckcjjnaaGreatK08
import Derived.Test.YtcbgedlckcjjnaaGreatK17
import Derived.Test.YtcbgedlckcjjnaaGreatK42
namespace Go.Proofs.YtcbgedlckcjjnaaGreat
open Go.RowKit
set_option linter.unusedVariables false

/-- Of a sender in a box that was just made. -/
theorem sL5Box (x : DSender) (a : Option Addr) (n cap : Nat) (w w0 : World) (t : TypeId) (B : Nat) (hn : x.2.2.2.1.length = n) (hr : shFlights.Rd w B x.2.2.2.1 [.slice a n cap]) (hB : B ≤ w.heap.size) (hT : totSender x ≤ 1048576) (sb : Nat)
    (hc : ∀ o, w.cell? ⟨sb, o, none⟩ = (#[.int .i64 x.1, .int .i64 x.2.1, .int .i64 x.2.2.1, .slice a n cap] : Array Value)[o]?) :
    Calls Tryz.prog 178 #[.pointer (some ⟨sb, 0, none⟩)] w fun e w' => e = .returned (.int .i64 (sndFault x)) ∧ Below w.heap.size w w' :=
  sL5Fault x a n cap sb w B hn (hc 0) (hc 1) (hc 2) (hc 3) hr hB (fun k hk => by have h : x.2.2.2.1[k].2.2.1.length ≤ fsum totFlight x.2.2.2.1 := fsum_at totFlight hk; unfold totSender totFlights at hT; omega)
end Go.Proofs.YtcbgedlckcjjnaaGreat

/- What the model answers of a sender that is new, or that is changed; nothing that was in memory turns; no condition but that loads are of at most a million bytes. -/
namespace Go.Proofs.YtcbgedlckcjjnaaGreat
open Go.RowKit
set_option linter.unusedVariables false

theorem own_snd0 (w : World) (lo hi : Nat) (h : lo ≤ hi) {y0 y1 y2 : Int} (w0 : (Lit.int .i64 y0).wf = true) (w1 : (Lit.int .i64 y1).wf = true) (w2 : (Lit.int .i64 y2).wf = true) : Own w lo hi shSender (y0, y1, y2, [], ()) [.int .i64 y0, .int .i64 y1, .int .i64 y2, .slice none 0 0] :=
  hOwnCons (hOwnInt w lo lo w0) (hOwnCons (hOwnInt w lo lo w1) (hOwnCons (hOwnInt w lo lo w2) (hOwnCons (⟨[], Or.inl ⟨rfl, rfl, rfl⟩, by simp, by simp⟩ : Own w lo hi shFlights [] [.slice none 0 0]) (hOwnNil w hi hi) h (Nat.le_refl _)) (Nat.le_refl _) h) (Nat.le_refl _) h) (Nat.le_refl _) h
theorem info_FlightS : (Tryz.prog.info? 192).map (fun i => (i.zero, i.size, i.bytes)) = some (some (.agg #[.int .i64 0, .int .i64 0, .slice none 0 0, .int .i64 0, .int .i64 0]), 5, 56) := by kernel_rfl
theorem ob_made0 (w : World) (base : Nat) (hb : base ≤ w.heap.size) : OB (w.alloc (.cells #[] 5)) base (.slice (some ⟨w.heap.size, 0, none⟩) 0 0) [] := ⟨World.ownsRow_made w #[] 0 hb (by decide) rfl, by simp⟩
theorem own_fls0 (w : World) (lo hi : Nat) : Own w lo hi shFlights [] [.slice none 0 0] := ⟨[], Or.inl ⟨rfl, rfl, rfl⟩, by simp, by simp⟩
theorem box_set3 {w : World} {b : Nat} {x0 x1 x2 x3 v : Value} (h : ∀ o, w.cell? ⟨b, o, none⟩ = (#[x0, x1, x2, x3] : Array Value)[o]?) : ∀ o, (w.setCell ⟨b, 3, none⟩ v).cell? ⟨b, o, none⟩ = (#[x0, x1, x2, v] : Array Value)[o]? := fun o => by
  by_cases e : o = 3
  · subst e; rw [World.cell?_setCell_same _ _ _ (h 3)]; rfl
  · rw [World.cell?_setCell_other _ _ _ _ (by intro e'; simp only [Addr.mk.injEq] at e'; omega), h o]
    match o, e with
    | 0, _ => rfl
    | 1, _ => rfl
    | 2, _ => rfl
    | o + 4, _ => rfl
theorem box_off {w : World} {b b' k : Nat} {v : Value} {A : Array Value} (h : ∀ o, w.cell? ⟨b, o, none⟩ = A[o]?) (hne : b ≠ b') : ∀ o, (w.setCell ⟨b', k, none⟩ v).cell? ⟨b, o, none⟩ = A[o]? := fun o => by
  rw [World.cell?_setCell_other _ _ _ _ (by intro e; simp only [Addr.mk.injEq] at e; exact hne e.1.symm)]; exact h o
theorem boxB {B : Nat} {w w' : World} {b : Nat} {cs : Array Value} (h : ∀ o, w.cell? ⟨b, o, none⟩ = cs[o]?) (k : Below B w w') (hb : b < B) : ∀ o, w'.cell? ⟨b, o, none⟩ = cs[o]? :=
  fun o => (k.cell (p := ⟨b, o, none⟩) hb).trans (h o)
theorem boxF {B : Nat} {w w' : World} {b : Nat} (h : ∀ o, w.frozen? ⟨b, o, none⟩ = false) (k : Below B w w') (hb : b < B) : ∀ o, w'.frozen? ⟨b, o, none⟩ = false :=
  fun o => (k.frozen (p := ⟨b, o, none⟩) hb).trans (h o)

set_option maxHeartbeats 8000000 in
theorem sL5Copy (x : DSender) (v : Value) (w : World) (B : Nat) (hr : shSender.Rd w B x [.int .i64 x.1, .int .i64 x.2.1, .int .i64 x.2.2.1, v]) (hB : B ≤ w.heap.size) (hT : totSender x ≤ 1048576) (hL : x.2.2.2.1.length ≤ 1000) :
    Calls Tryz.prog 199 #[.agg #[.int .i64 x.1, .int .i64 x.2.1, .int .i64 x.2.2.1, v]] w fun e w' => ∃ u, e = .returned (.agg #[.int .i64 x.1, .int .i64 x.2.1, .int .i64 x.2.2.1, u]) ∧ Own w' w.heap.size w'.heap.size shSender x [.int .i64 x.1, .int .i64 x.2.1, .int .i64 x.2.2.1, u] ∧ Below w.heap.size w w' := by
  obtain ⟨vv, ev, rk, wf0, wf1, wf2⟩ := rd_Sender hr
  simp only [List.cons.injEq, and_true, true_and] at ev
  subst ev
  obtain ⟨a, cap, ev2⟩ := row_form rk
  simp only [List.cons.injEq, and_true] at ev2
  subst ev2
  have HT : Hid (∀ k (hk : k < x.2.2.2.1.length), x.2.2.2.1[k].2.2.1.length ≤ 1048576) := fun k hk => by have h : x.2.2.2.1[k].2.2.1.length ≤ fsum totFlight x.2.2.2.1 := fsum_at totFlight hk; unfold totSender totFlights at hT; omega
  have hn1 : x.2.2.2.1.length ≤ 1000 := hL
  have W0 : Hid _ := wf0
  have W1 : Hid _ := wf1
  have W2 : Hid _ := wf2
  clear hr hT wf0 wf1 wf2 hL
  obtain ⟨y0, y1, y2, l, _⟩ := x
  simp only at *
  obtain ⟨n, hn⟩ : ∃ n, l.length = n := ⟨_, rfl⟩
  rw [hn] at rk hn1 ⊢
  have HRd : Hid (∀ W, Below w.heap.size w W → shFlights.Rd W B l [.slice a n cap]) := fun W hW => rk.below hB hW
  have HN : Hid (l.length = n) := hn
  clear rk hn
  go_enter Tryz.func199, Tryz.ntmps199
  go_wp2_with fail
  go_loopw [4] (fun i wr => ∃ (k : Nat) (va : Option Addr) (vc : Nat), k ≤ n ∧ i = .int .i64 k ∧ (∀ o, wr.cell? ⟨w.heap.size, o, none⟩ = (#[.int .i64 y0, .int .i64 y1, .int .i64 y2, .slice a n cap] : Array Value)[o]?) ∧ (∀ o, wr.cell? ⟨w.heap.size + 1, o, none⟩ = (#[.int .i64 0, .int .i64 0, .int .i64 0, .slice none 0 0] : Array Value)[o]?) ∧ (∀ o, wr.frozen? ⟨w.heap.size + 1, o, none⟩ = false) ∧ (∀ o, wr.cell? ⟨w.heap.size + 1 + 1, o, none⟩ = (#[.int .i64 y0, .int .i64 y1, .int .i64 y2, .slice va k vc] : Array Value)[o]?) ∧ (∀ o, wr.frozen? ⟨w.heap.size + 1 + 1, o, none⟩ = false) ∧ Hid (Own wr (w.heap.size + 1 + 1 + 1) wr.heap.size shFlights (l.take k) [.slice va k vc]) ∧ Hid (Below w.heap.size w wr) ∧ w.heap.size + 1 + 1 < wr.heap.size) (fun i _ => n - (intOf i).toNat)
  case atStart => exact ⟨0, none, 0, Nat.zero_le _, rfl, fun o => by simp [go_sem], fun o => by simp [go_sem], fun o => by simp [go_sem], fun o => by simp [go_sem], fun o => by simp [go_sem], own_fls0 _ _ _, (by show Below _ _ _; go_grown), by simp⟩
  case round =>
    obtain ⟨k, va, vc, hk, rfl, k0, k1, f1, k2, f2, HO, HB, hz⟩ := hrel
    by_cases hlt : k < n
    · have hkl : k < l.length := by have := HN.out; omega
      obtain ⟨b, off, v, ha, hb, q0, q1, q2, q3, q4, r3⟩ := at_Flights (HRd.out wr HB.out) k hkl
      subst ha
      obtain ⟨vv, ev, rk, w0, w1', w3, w4⟩ := rd_Flight r3
      simp only [List.cons.injEq, and_true, true_and] at ev
      subst ev
      obtain ⟨sa, sc, es, rb, hnil, -⟩ := rd_bytes rk
      simp only [List.cons.injEq, and_true] at es
      subst es
      have hnn := HT.out k hkl
      have HTK : Hid (l.take (k + 1) = l.take k ++ [(l[k].1, l[k].2.1, l[k].2.2.1, l[k].2.2.2.1, l[k].2.2.2.2.1, ())]) := List.take_succ_eq_append_getElem hkl
      have V0 : Hid _ := w0
      have V1 : Hid _ := w1'
      have V3 : Hid _ := w3
      have V4 : Hid _ := w4
      have HRB : Hid (∀ W, Below wr.heap.size wr W → RB W sa l[k].2.2.1) := fun W hW => rb.below (Nat.le_refl _) hW
      have HNI : Hid (sa = none → sc = 0) := hnil
      have HLL : Hid ((l.take k).length = k) := by show _ = _; simp; omega
      clear rk r3 rb hnil w0 w1' w3 w4
      generalize l[k].1 = z0 at *
      generalize l[k].2.1 = z1 at *
      generalize l[k].2.2.1 = d at *
      generalize l[k].2.2.2.1 = z3 at *
      generalize l[k].2.2.2.2.1 = z4 at *
      generalize hm : d.length = m at *
      have HM : Hid (d.length = m) := hm
      clear hm
      have M1 : True := trivial
      have M2 : True := trivial
      go_wp2_with (first
        | (at_builtin; clear M1; go_must (refine app_pl _ rfl _ _ 22 22 rfl Tryz.underlying22 Tryz.underlying22 (wr.heap.size + 1) (.slice (some ⟨wr.heap.size + 1, 0, none⟩) 0 0) [] (by rfl) (by simpa using ob_made0 (wr.alloc (.cells #[.int .i64 z0, .int .i64 z1, .slice sa m sc, .int .i64 z3, .int .i64 z4] 192)) (wr.heap.size + 1) (by simp)) sa d m sc HM.out (by rfl) (HRB.out _ (by go_grown)) HNI.out (by simp; omega) (by simp) ?_; intro v1 w1 ho1 hb1 hg1 hat1; obtain ⟨b1, c1, hv1, -, -⟩ := ho1.rbn; rw [List.nil_append, HM.out] at hv1; subst hv1; have O1 : Hid (Own w1 (wr.heap.size + 1) w1.heap.size u8s d [.slice b1 m c1]) := (by have h := own_bytes ho1 (Nat.le_refl _); rw [List.nil_append] at h; exact h); have p5 : ∀ o, w1.cell? ⟨wr.heap.size, o, none⟩ = (#[.int .i64 z0, .int .i64 z1, .slice sa m sc, .int .i64 z3, .int .i64 z4] : Array Value)[o]? := (fun o => (by rw [hb1.cell (p := ⟨wr.heap.size, o, none⟩) (by simp)]; simp [go_sem])); have f5 : ∀ o, w1.frozen? ⟨wr.heap.size, o, none⟩ = false := (fun o => (by rw [hb1.frozen (p := ⟨wr.heap.size, o, none⟩) (by simp)]; simp [go_sem])); have hbb : Below wr.heap.size wr w1 := Below.trans (by go_grown) (hb1.mono (by omega)); have zz : wr.heap.size + 1 < w1.heap.size := (by have := hb1.size; simp at this; omega); replace k0 := boxB k0 hbb (by omega); replace k1 := boxB k1 hbb (by omega); replace f1 := boxF f1 hbb (by omega); replace k2 := boxB k2 hbb (by omega); replace f2 := boxF f2 hbb (by omega); have HO1 : Hid (Own (w1.setCell ⟨wr.heap.size, 2, none⟩ (.slice b1 m c1)) (w.heap.size + 1 + 1 + 1) wr.heap.size shFlights (l.take k) [.slice va k vc]) := Own.keep (HO.out.below (Nat.le_refl _) hbb) (fun b h1 h2 => Below.heap_setCell _ _ _ _ (by dsimp only; omega)); have HE1 : Hid (Own (w1.setCell ⟨wr.heap.size, 2, none⟩ (.slice b1 m c1)) (wr.heap.size + 1) w1.heap.size shFlight (z0, z1, d, z3, z4, ()) [.int .i64 z0, .int .i64 z1, .slice b1 m c1, .int .i64 z3, .int .i64 z4]) := Own.keep (hOwnCons (hOwnInt w1 _ (wr.heap.size + 1) V0.out) (hOwnCons (hOwnInt w1 _ (wr.heap.size + 1) V1.out) (hOwnCons O1.out (hOwnCons (hOwnInt w1 _ w1.heap.size V3.out) (hOwnCons (hOwnInt w1 _ w1.heap.size V4.out) (hOwnNil _ _ _) (Nat.le_refl _) (Nat.le_refl _)) (Nat.le_refl _) (Nat.le_refl _)) (by omega) (Nat.le_refl _)) (Nat.le_refl _) (by omega)) (Nat.le_refl _) (by omega)) (fun b h1 h2 => Below.heap_setCell _ _ _ _ (by dsimp only; omega)); have HB1 : Hid (Below w.heap.size w (w1.setCell ⟨wr.heap.size, 2, none⟩ (.slice b1 m c1))) := (HB.out.trans (hbb.mono (by omega))).setCell (by simp; omega) _; clear ho1 hb1 hg1 hat1 hbb))
        | (at_builtin; clear M2; go_must (refine app_elem_at (w1.setCell ⟨wr.heap.size, 2, none⟩ (.slice b1 m c1)) w1.heap.size (by simp) rfl _ _ 137 192 rfl shFlight (.agg #[.int .i64 0, .int .i64 0, .slice none 0 0, .int .i64 0, .int .i64 0]) 56 Tryz.underlying137 info_FlightS rfl (by decide) (by decide) (w.heap.size + 1 + 1 + 1) wr.heap.size (wr.heap.size + 1) w1.heap.size (l.take k) (.slice va k vc) (by rfl) (by rfl) HO1.out (z0, z1, d, z3, z4, ()) [.int .i64 z0, .int .i64 z1, .slice b1 m c1, .int .i64 z3, .int .i64 z4] HE1.out (by omega) (by omega) (by simp) (by have := HLL.out; omega) (by simp; omega) ?_; intro v2 w2 ho2 hb2 hk2 hs2; obtain ⟨va2, vc2, hv2⟩ := row_form (ho2.rd (Nat.le_refl _)); simp only [List.cons.injEq, and_true, List.length_append, List.length_cons, List.length_nil, HLL.out] at hv2; subst hv2; have HO2 : Hid (Own w2 (w.heap.size + 1 + 1 + 1) w2.heap.size shFlights (l.take (k + 1)) [.slice va2 (k + 1) vc2]) := (by rw [HTK.out]; exact ho2); have HB2 : Hid (Below w.heap.size w w2) := HB1.out.trans (hb2.mono (by omega)); have zz2 : w.heap.size + 1 + 1 < w2.heap.size := (by simp at hs2; omega); replace k0 := boxB (box_off k0 (by omega)) hb2 (by omega); replace k1 := boxB (box_off k1 (by omega)) hb2 (by omega); replace f1 := boxF (fun o => (by rw [World.frozen?_setCell]; exact f1 o)) hb2 (by omega); replace k2 := boxB (box_off k2 (by omega)) hb2 (by omega); replace f2 := boxF (fun o => (by rw [World.frozen?_setCell]; exact f2 o)) hb2 (by omega); clear ho2 hb2 hk2 hs2 p5 f5)))
      go_roundw
      case rel => exact ⟨k + 1, va2, vc2, by omega, by go_num, box_off k0 (by omega), box_off k1 (by omega), (fun o => by rw [World.frozen?_setCell]; exact f1 o), box_set3 k2, (fun o => by rw [World.frozen?_setCell]; exact f2 o), Own.mono (Own.keep HO2.out fun b h1 h2 => Below.heap_setCell _ _ _ _ (by dsimp only; omega)) (Nat.le_refl _) (by simp), HB2.out.setCell (by simp; omega) _, by simpa using zz2⟩
      case measure => simp [intOf]; omega
    · obtain rfl : k = n := by omega
      have HO2 : Hid (Own wr (w.heap.size + 1 + 1 + 1) wr.heap.size shFlights l [.slice va k vc]) := by have h := HO.out; rw [← HN.out, List.take_length] at h; rw [← HN.out]; exact h
      go_wp2_with fail
      refine bodyPost_ret (v := .agg #[.int .i64 y0, .int .i64 y1, .int .i64 y2, .slice va k vc]) (by simp [results, Tryz.results199, go_sem, k1]) rfl ⟨_, rfl, ?_, ?_⟩
      · have h2 : Own wr (w.heap.size + 1 + 1 + 1) wr.heap.size shSender (y0, y1, y2, l, ()) [.int .i64 y0, .int .i64 y1, .int .i64 y2, .slice va k vc] := hOwnCons (hOwnInt wr _ (w.heap.size + 1 + 1 + 1) W0.out) (hOwnCons (hOwnInt wr _ (w.heap.size + 1 + 1 + 1) W1.out) (hOwnCons (hOwnInt wr _ (w.heap.size + 1 + 1 + 1) W2.out) (hOwnCons HO2.out (hOwnNil _ _ _) (by omega) (Nat.le_refl _)) (Nat.le_refl _) (by omega)) (Nat.le_refl _) (by omega)) (Nat.le_refl _) (by omega)
        refine Own.mono (Own.keep h2 fun b hb hlt => ?_) (by omega) (by simp)
        repeat rw [Below.heap_setCell _ _ _ _ (by dsimp only; omega)]
      · have hB1 := HB.out
        clear k0 k1 f1 k2 f2 HO HO2 HB
        go_grown
end Go.Proofs.YtcbgedlckcjjnaaGreat

/- What the program makes of a copy of a sender: it owns its memory; nothing that was in memory turns; no condition but that loads are of at most a million bytes. -/
namespace Go.Proofs.YtcbgedlckcjjnaaGreat
open Go.RowKit
set_option linter.unusedVariables false
set_option maxRecDepth 8000

theorem iCopyB (a : Option Addr) (n cap : Nat) (l : List Int) (w : World) (hl : l.length = n) (hr : RB w a l) (hnil : a = none → cap = 0) (hn : n ≤ 1048576) :
    Calls Tryz.prog 124 #[.slice a n cap] w fun e w' => ∃ b1 c1, e = .returned (.slice b1 n c1) ∧ OB w' w.heap.size (.slice b1 n c1) l ∧ Below w.heap.size w w' := by
  go_enter Tryz.func124, Tryz.ntmps124
  go_wp2_with (at_builtin; go_loud (refine app_pl w rfl _ _ 22 22 rfl Tryz.underlying22 Tryz.underlying22 w.heap.size (.slice none 0 0) [] (by rfl) ⟨⟨rfl, Or.inl ⟨rfl, rfl⟩⟩, by simp⟩ a l n cap hl (by rfl) hr hnil (by simp; omega) (Nat.le_refl _) ?_; intro v' w5 ho5 hb5 hg5 hat5; rw [List.nil_append] at ho5; obtain ⟨b1, c1, hv1, -, -⟩ := ho5.rbn; rw [hl] at hv1; subst hv1))
  go_ret
  exact ⟨_, _, rfl, ho5, hb5⟩
set_option maxHeartbeats 1000000 in
theorem iCopyFl (z0 z1 z3 z4 : Int) (d : List Int) (a : Option Addr) (n cap : Nat) (w : World) (hl : d.length = n) (hr : RB w a d) (hnil : a = none → cap = 0) (hn : n ≤ 1048576) (w0 : (Lit.int .i64 z0).wf = true) (w1 : (Lit.int .i64 z1).wf = true) (w3 : (Lit.int .i64 z3).wf = true) (w4 : (Lit.int .i64 z4).wf = true) :
    Calls Tryz.prog 225 #[.agg #[.int .i64 z0, .int .i64 z1, .slice a n cap, .int .i64 z3, .int .i64 z4]] w fun e w' => ∃ b1 c1, e = .returned (.agg #[.int .i64 z0, .int .i64 z1, .slice b1 n c1, .int .i64 z3, .int .i64 z4]) ∧ Own w' w.heap.size w'.heap.size shFlight (z0, z1, d, z3, z4, ()) [.int .i64 z0, .int .i64 z1, .slice b1 n c1, .int .i64 z3, .int .i64 z4] ∧ Below w.heap.size w w' := by
  have V0 : Hid _ := w0
  have V1 : Hid _ := w1
  have V3 : Hid _ := w3
  have V4 : Hid _ := w4
  have HR : Hid (∀ W, Below w.heap.size w W → RB W a d) := fun W h => hr.below (Nat.le_refl _) h
  have HN : Hid _ := hnil
  clear hr hnil w0 w1 w3 w4
  go_enter Tryz.func225, Tryz.ntmps225
  go_wp2_with fail
  refine (iCopyB a n cap d _ hl (HR.out _ (by go_grown)) HN.out hn).mono ?_
  rintro e w5 ⟨b1, c1, rfl, ho5, hb5⟩
  have k0 : ∀ o, w5.cell? ⟨w.heap.size, o, none⟩ = (#[.int .i64 z0, .int .i64 z1, .slice a n cap, .int .i64 z3, .int .i64 z4] : Array Value)[o]? := fun o => by rw [hb5.cell (p := ⟨w.heap.size, o, none⟩) (by simp; omega)]; simp [go_sem]
  have k1 : ∀ o, w5.cell? ⟨w.heap.size + 1, o, none⟩ = (#[.int .i64 0, .int .i64 0, .slice none 0 0, .int .i64 0, .int .i64 0] : Array Value)[o]? := fun o => by rw [hb5.cell (p := ⟨w.heap.size + 1, o, none⟩) (by simp)]; simp [go_sem]
  have f0 : ∀ o, w5.frozen? ⟨w.heap.size, o, none⟩ = false := fun o => by rw [hb5.frozen (p := ⟨w.heap.size, o, none⟩) (by simp; omega)]; simp [go_sem]
  have f1 : ∀ o, w5.frozen? ⟨w.heap.size + 1, o, none⟩ = false := fun o => by rw [hb5.frozen (p := ⟨w.heap.size + 1, o, none⟩) (by simp)]; simp [go_sem]
  have z1' : w.heap.size + 1 < w5.heap.size := by have := hb5.size; simp at this; omega
  have HB : Hid (Below w.heap.size w w5) := Below.trans (by go_grown) (hb5.mono (by simp; omega))
  have HO : Hid (Own w5 (w.heap.size + 1 + 1) w5.heap.size u8s d [.slice b1 n c1]) := by show Own _ _ _ _ _ _; have h := own_bytes ho5 (Nat.le_refl _); simpa using h
  clear hb5 ho5
  go_wp2_with fail
  refine bodyPost_ret (v := .agg #[.int .i64 z0, .int .i64 z1, .slice b1 n c1, .int .i64 z3, .int .i64 z4]) (by simp [results, Tryz.results225, go_sem, k1]) rfl ⟨_, _, rfl, ?_, ?_⟩
  · have h2 : Own w5 (w.heap.size + 1 + 1) w5.heap.size shFlight (z0, z1, d, z3, z4, ()) [.int .i64 z0, .int .i64 z1, .slice b1 n c1, .int .i64 z3, .int .i64 z4] := hOwnCons (hOwnInt w5 _ (w.heap.size + 1 + 1) V0.out) (hOwnCons (hOwnInt w5 _ (w.heap.size + 1 + 1) V1.out) (hOwnCons HO.out (hOwnCons (hOwnInt w5 _ w5.heap.size V3.out) (hOwnCons (hOwnInt w5 _ w5.heap.size V4.out) (hOwnNil _ _ _) (Nat.le_refl _) (Nat.le_refl _)) (Nat.le_refl _) (Nat.le_refl _)) (by omega) (Nat.le_refl _)) (Nat.le_refl _) (by omega)) (Nat.le_refl _) (by omega)
    refine Own.mono (Own.keep h2 fun b hb hlt => ?_) (by omega) (by simp)
    repeat rw [Below.heap_setCell _ _ _ _ (by dsimp only; omega)]
  · have hB1 := HB.out
    clear k0 k1 f0 f1 HO HB
    go_grown
set_option maxHeartbeats 8000000 in
theorem iCopyS (x : DSender) (v : Value) (w : World) (B : Nat) (hr : shSender.Rd w B x [.int .i64 x.1, .int .i64 x.2.1, .int .i64 x.2.2.1, v]) (hB : B ≤ w.heap.size) (hT : totSender x ≤ 1048576) (hL : x.2.2.2.1.length ≤ 1000) :
    Calls Tryz.prog 205 #[.agg #[.int .i64 x.1, .int .i64 x.2.1, .int .i64 x.2.2.1, v]] w fun e w' => ∃ u, e = .returned (.agg #[.int .i64 x.1, .int .i64 x.2.1, .int .i64 x.2.2.1, u]) ∧ Own w' w.heap.size w'.heap.size shSender x [.int .i64 x.1, .int .i64 x.2.1, .int .i64 x.2.2.1, u] ∧ Below w.heap.size w w' := by
  obtain ⟨vv, ev, rk, wf0, wf1, wf2⟩ := rd_Sender hr
  simp only [List.cons.injEq, and_true, true_and] at ev
  subst ev
  obtain ⟨a, cap, ev2⟩ := row_form rk
  simp only [List.cons.injEq, and_true] at ev2
  subst ev2
  have HT : Hid (∀ k (hk : k < x.2.2.2.1.length), x.2.2.2.1[k].2.2.1.length ≤ 1048576) := fun k hk => by have h : x.2.2.2.1[k].2.2.1.length ≤ fsum totFlight x.2.2.2.1 := fsum_at totFlight hk; unfold totSender totFlights at hT; omega
  have hn1 : x.2.2.2.1.length ≤ 1000 := hL
  have W0 : Hid _ := wf0
  have W1 : Hid _ := wf1
  have W2 : Hid _ := wf2
  clear hr hT wf0 wf1 wf2 hL
  obtain ⟨y0, y1, y2, l, _⟩ := x
  simp only at *
  obtain ⟨n, hn⟩ : ∃ n, l.length = n := ⟨_, rfl⟩
  rw [hn] at rk hn1 ⊢
  have HRd : Hid (∀ W, Below w.heap.size w W → shFlights.Rd W B l [.slice a n cap]) := fun W hW => rk.below hB hW
  have HN : Hid (l.length = n) := hn
  clear rk hn
  go_enter Tryz.func205, Tryz.ntmps205
  go_wp2_with fail
  go_loopw [11] (fun i wr => ∃ (k : Nat) (va : Option Addr) (vc : Nat), k ≤ n ∧ i = .int .i64 k ∧ (∀ o, wr.cell? ⟨w.heap.size + 1, o, none⟩ = (#[.int .i64 0, .int .i64 0, .int .i64 0, .slice none 0 0] : Array Value)[o]?) ∧ (∀ o, wr.frozen? ⟨w.heap.size + 1, o, none⟩ = false) ∧ (∀ o, wr.cell? ⟨w.heap.size + 1 + 1, o, none⟩ = (#[.int .i64 y0, .int .i64 y1, .int .i64 y2, .slice va k vc] : Array Value)[o]?) ∧ (∀ o, wr.frozen? ⟨w.heap.size + 1 + 1, o, none⟩ = false) ∧ Hid (Own wr (w.heap.size + 1 + 1 + 1) wr.heap.size shFlights (l.take k) [.slice va k vc]) ∧ Hid (Below w.heap.size w wr) ∧ w.heap.size + 1 + 1 < wr.heap.size) (fun i _ => n - (intOf i).toNat)
  case atStart => exact ⟨0, none, 0, Nat.zero_le _, rfl, fun o => by simp [go_sem], fun o => by simp [go_sem], (fun o => by match o with | 0 => simp [go_sem] | 1 => simp [go_sem] | 2 => simp [go_sem] | 3 => simp [go_sem] | o + 4 => simp [go_sem]), fun o => by simp [go_sem], own_fls0 _ _ _, (by show Below _ _ _; go_grown), by simp⟩
  case round =>
    obtain ⟨k, va, vc, hk, rfl, k1, f1, k2, f2, HO, HB, hz⟩ := hrel
    by_cases hlt : k < n
    · have hkl : k < l.length := by have := HN.out; omega
      obtain ⟨b, off, v, ha, hb, q0, q1, q2, q3, q4, r3⟩ := at_Flights (HRd.out wr HB.out) k hkl
      subst ha
      obtain ⟨vv, ev, rk, w0, w1', w3, w4⟩ := rd_Flight r3
      simp only [List.cons.injEq, and_true, true_and] at ev
      subst ev
      obtain ⟨sa, sc, es, rb, hnil, -⟩ := rd_bytes rk
      simp only [List.cons.injEq, and_true] at es
      subst es
      have hnn := HT.out k hkl
      have HTK : Hid (l.take (k + 1) = l.take k ++ [(l[k].1, l[k].2.1, l[k].2.2.1, l[k].2.2.2.1, l[k].2.2.2.2.1, ())]) := List.take_succ_eq_append_getElem hkl
      have HLL : Hid ((l.take k).length = k) := by show _ = _; simp; omega
      have HCF : Hid (∀ W, Below wr.heap.size wr W → Calls Tryz.prog 225 #[.agg #[.int .i64 l[k].1, .int .i64 l[k].2.1, .slice sa l[k].2.2.1.length sc, .int .i64 l[k].2.2.2.1, .int .i64 l[k].2.2.2.2.1]] W fun e w' => ∃ b1 c1, e = .returned (.agg #[.int .i64 l[k].1, .int .i64 l[k].2.1, .slice b1 l[k].2.2.1.length c1, .int .i64 l[k].2.2.2.1, .int .i64 l[k].2.2.2.2.1]) ∧ Own w' W.heap.size w'.heap.size shFlight (l[k].1, l[k].2.1, l[k].2.2.1, l[k].2.2.2.1, l[k].2.2.2.2.1, ()) [.int .i64 l[k].1, .int .i64 l[k].2.1, .slice b1 l[k].2.2.1.length c1, .int .i64 l[k].2.2.2.1, .int .i64 l[k].2.2.2.2.1] ∧ Below W.heap.size W w') :=
        fun W hW => iCopyFl _ _ _ _ _ sa _ sc W rfl (rb.below (Nat.le_refl _) hW) hnil hnn w0 w1' w3 w4
      clear rk r3 rb hnil w0 w1' w3 w4
      generalize l[k].1 = z0 at *
      generalize l[k].2.1 = z1 at *
      generalize l[k].2.2.1 = d at *
      generalize l[k].2.2.2.1 = z3 at *
      generalize l[k].2.2.2.2.1 = z4 at *
      generalize d.length = m at *
      go_upto_region 6 with fail
      obtain ⟨V, hV⟩ : ∃ V, V = wr.alloc (.cells #[.int .i64 z0, .int .i64 z1, .slice sa m sc, .int .i64 z3, .int .i64 z4] 192) := ⟨_, rfl⟩
      rw [← hV]
      have k5 : ∀ o, V.cell? ⟨wr.heap.size, o, none⟩ = (#[.int .i64 z0, .int .i64 z1, .slice sa m sc, .int .i64 z3, .int .i64 z4] : Array Value)[o]? := fun o => by rw [hV]; simp [go_sem]
      have HBV : Hid (Below wr.heap.size wr V) := by rw [hV]; exact (Below.refl _ _).alloc (Nat.le_refl _) _
      have hVz : V.heap.size = wr.heap.size + 1 := by rw [hV]; simp
      replace k1 := boxB k1 HBV.out (by omega)
      replace f1 := boxF f1 HBV.out (by omega)
      replace k2 := boxB k2 HBV.out (by omega)
      replace f2 := boxF f2 HBV.out (by omega)
      have HOV : Hid (Own V (w.heap.size + 1 + 1 + 1) wr.heap.size shFlights (l.take k) [.slice va k vc]) := HO.out.below (Nat.le_refl _) HBV.out
      have HBw : Hid (Below w.heap.size w V) := HB.out.trans (HBV.out.mono (by omega))
      clear hV q0 q1 q2 q3 q4 HO HB
      go_region_law ((first
        | (refine app_elem_st w1 (by rfl) _ _ 137 192 (by rfl) shFlight (.agg #[.int .i64 0, .int .i64 0, .slice none 0 0, .int .i64 0, .int .i64 0]) 56 Tryz.underlying137 info_FlightS rfl (by decide) (by decide) (w.heap.size + 1 + 1 + 1) wr.heap.size V.heap.size w1.heap.size (l.take k) (.slice va k vc) (by rfl) w1.heap.size rfl (by rfl) HO1.out (z0, z1, d, z3, z4, ()) [.int .i64 z0, .int .i64 z1, .slice b1 m c1, .int .i64 z3, .int .i64 z4] HE1.out (by omega) (by omega) (Nat.le_refl _) (by have := HLL.out; omega) (by omega) ?_; intro v2 w2 ho2 hb2 hk2 hs2; obtain ⟨va2, vc2, hv2⟩ := row_form (ho2.rd (Nat.le_refl _)); simp only [List.cons.injEq, and_true, List.length_append, List.length_cons, List.length_nil, HLL.out] at hv2; subst hv2; have HO2 : Hid (Own w2 (w.heap.size + 1 + 1 + 1) w2.heap.size shFlights (l.take (k + 1)) [.slice va2 (k + 1) vc2]) := (by rw [HTK.out]; exact ho2); have HB2 : Hid (Below w.heap.size w w2) := HB1.out.trans (hb2.mono (by omega)); have zz2 : w.heap.size + 1 + 1 < w2.heap.size := (by omega); replace k1 := boxB k1 hb2 (by omega); replace f1 := boxF f1 hb2 (by omega); replace k2 := boxB k2 hb2 (by omega); replace f2 := boxF f2 hb2 (by omega); clear ho2 hb2 hk2 hs2)
        | (go_simp; go_at_call 225; refine (HCF.out _ (HBV.out.drew)).mono ?_; rintro e w1 ⟨b1, c1, rfl, ho1, hb1⟩; have hbx : Below V.heap.size V w1 := (Below.drew (Below.refl _ _)).trans hb1; have zz : V.heap.size ≤ w1.heap.size := hbx.size; have zz3 : w.heap.size + 1 + 1 < w1.heap.size := (by omega); have HE1 : Hid (Own w1 V.heap.size w1.heap.size shFlight (z0, z1, d, z3, z4, ()) [.int .i64 z0, .int .i64 z1, .slice b1 m c1, .int .i64 z3, .int .i64 z4]) := ho1; have HO1 : Hid (Own w1 (w.heap.size + 1 + 1 + 1) wr.heap.size shFlights (l.take k) [.slice va k vc]) := HOV.out.below (by omega) hbx; replace k1 := boxB k1 hbx (by omega); replace f1 := boxF f1 hbx (by omega); replace k2 := boxB k2 hbx (by omega); replace f2 := boxF f2 hbx (by omega); have HB1 : Hid (Below w.heap.size w w1) := HBw.out.trans (hbx.mono (by omega)); clear ho1 hb1 hbx k5)))
      all_goals (go_wp2_with fail; go_roundw)
      all_goals first
        | (exact ⟨k + 1, va2, vc2, by omega, by go_num, box_off k1 (by omega), (fun o => by rw [World.frozen?_setCell]; exact f1 o), box_set3 k2, (fun o => by rw [World.frozen?_setCell]; exact f2 o), Own.mono (Own.keep HO2.out fun b h1 h2 => Below.heap_setCell _ _ _ _ (by dsimp only; omega)) (Nat.le_refl _) (by simp), HB2.out.setCell (by simp; omega) _, by simpa using zz2⟩)
        | (simp [intOf]; omega)
    · obtain rfl : k = n := by omega
      have HO2 : Hid (Own wr (w.heap.size + 1 + 1 + 1) wr.heap.size shFlights l [.slice va k vc]) := by have h := HO.out; rw [← HN.out, List.take_length] at h; rw [← HN.out]; exact h
      go_wp2_with fail
      refine bodyPost_ret (v := .agg #[.int .i64 y0, .int .i64 y1, .int .i64 y2, .slice va k vc]) (by simp [results, Tryz.results205, go_sem, k1]) rfl ⟨_, rfl, ?_, ?_⟩
      · have h2 : Own wr (w.heap.size + 1 + 1 + 1) wr.heap.size shSender (y0, y1, y2, l, ()) [.int .i64 y0, .int .i64 y1, .int .i64 y2, .slice va k vc] := hOwnCons (hOwnInt wr _ (w.heap.size + 1 + 1 + 1) W0.out) (hOwnCons (hOwnInt wr _ (w.heap.size + 1 + 1 + 1) W1.out) (hOwnCons (hOwnInt wr _ (w.heap.size + 1 + 1 + 1) W2.out) (hOwnCons HO2.out (hOwnNil _ _ _) (by omega) (Nat.le_refl _)) (Nat.le_refl _) (by omega)) (Nat.le_refl _) (by omega)) (Nat.le_refl _) (by omega)
        refine Own.mono (Own.keep h2 fun b hb hlt => ?_) (by omega) (by simp)
        repeat rw [Below.heap_setCell _ _ _ _ (by dsimp only; omega)]
      · have hB1 := HB.out
        clear k1 f1 k2 f2 HO HO2 HB
        go_grown
end Go.Proofs.YtcbgedlckcjjnaaGreat

/- Rows of spans: what a slice that is read holds, what a slice of the call's own holds, and what append makes of it; no condition but that there are at most a million. -/
namespace Go.Proofs.YtcbgedlckcjjnaaGreat
open Go.RowKit
set_option linter.unusedVariables false
set_option maxRecDepth 8000

/-- The cells of spans. -/
def cellsS : List DSpan → List Value
  | [] => []
  | s :: l => .int .i64 s.1 :: .int .i64 s.2.1 :: cellsS l
theorem cellsS_app : ∀ (l m : List DSpan), cellsS (l ++ m) = cellsS l ++ cellsS m
  | [], m => rfl
  | s :: l, m => by show _ :: _ :: cellsS (l ++ m) = _; rw [cellsS_app l m]; rfl
theorem cellsS_len : ∀ (l : List DSpan), (cellsS l).length = l.length * 2
  | [] => rfl
  | s :: l => by show (cellsS l).length + 1 + 1 = (l.length + 1) * 2; rw [cellsS_len l]; omega
theorem cellsS_get : ∀ {l : List DSpan} {i : Nat} (h : i < l.length), (cellsS l)[i * 2]? = some (.int .i64 l[i].1) ∧ (cellsS l)[i * 2 + 1]? = some (.int .i64 l[i].2.1)
  | s :: l, 0, _ => ⟨rfl, rfl⟩
  | s :: l, i + 1, h => by
    have := cellsS_get (l := l) (i := i) (by simpa using h)
    rw [show (i + 1) * 2 = i * 2 + 1 + 1 by omega]
    exact this
theorem cellsS_one (l : List DSpan) : ∀ u ∈ cellsS l, u.oneCell' = true := by
  induction l with
  | nil => simp [cellsS]
  | cons s l ih =>
    intro u hu
    simp only [cellsS, List.mem_cons] at hu
    rcases hu with rfl | rfl | hu
    · rfl
    · rfl
    · exact ih u hu
theorem cellsS_at {l : List DSpan} {j : Nat} {u : Value} (h : (cellsS l)[j]? = some u) : ∃ i, ∃ hi : i < l.length, (j = i * 2 ∧ u = .int .i64 l[i].1) ∨ (j = i * 2 + 1 ∧ u = .int .i64 l[i].2.1) := by
  have hj : j < (cellsS l).length := by
    apply Classical.byContradiction; intro hn
    rw [List.getElem?_eq_none (by omega)] at h; cases h
  rw [cellsS_len] at hj
  have hi : j / 2 < l.length := by omega
  obtain ⟨g1, g2⟩ := cellsS_get hi
  refine ⟨j / 2, hi, ?_⟩
  rcases Nat.mod_two_eq_zero_or_one j with e | e
  · left
    have e2 : j = j / 2 * 2 := by omega
    rw [← e2, h] at g1
    exact ⟨e2, Option.some.inj g1⟩
  · right
    have e2 : j = j / 2 * 2 + 1 := by omega
    rw [← e2, h] at g2
    exact ⟨e2, Option.some.inj g2⟩

def WfS (l : List DSpan) : Prop := ∀ s ∈ l, (Lit.int .i64 s.1).wf = true ∧ (Lit.int .i64 s.2.1).wf = true
theorem WfS.app {l m : List DSpan} (h : WfS l) (k : WfS m) : WfS (l ++ m) := fun s hs => by
  rcases List.mem_append.1 hs with hs | hs
  · exact h s hs
  · exact k s hs
theorem WfS.drop {l : List DSpan} (h : WfS l) (k : Nat) : WfS (l.drop k) := fun s hs => h s (List.mem_of_mem_drop hs)
theorem WfS.take {l : List DSpan} (h : WfS l) (k : Nat) : WfS (l.take k) := fun s hs => h s (List.mem_of_mem_take hs)
theorem wfS_of {l : List DSpan} (h : ∀ t ∈ l, -4611686018427387904 ≤ t.1 ∧ t.1 ≤ 4611686018427387904 ∧ -4611686018427387904 ≤ t.2.1 ∧ t.2.1 ≤ 4611686018427387904) : WfS l := fun s hs => by
  have := h s hs
  exact ⟨WalkArith.wf_i64 (by omega), WalkArith.wf_i64 (by omega)⟩

/-- The slice that begins at a reads as the spans l. -/
structure RS (w : World) (a : Option Addr) (l : List DSpan) : Prop where
  wf : WfS l
  mem : l = [] ∨ ∃ b off, a = some ⟨b, off, none⟩ ∧ ∀ i (h : i < l.length), w.cell? ⟨b, off + i * 2, none⟩ = some (.int .i64 l[i].1) ∧ w.cell? ⟨b, off + i * 2 + 1, none⟩ = some (.int .i64 l[i].2.1)
theorem RS.nil (w : World) (a : Option Addr) : RS w a [] := ⟨fun s hs => by simp at hs, Or.inl rfl⟩
theorem RS.below {w w' : World} {a : Option Addr} {l : List DSpan} (h : RS w a l) (hb : Below w.heap.size w w') : RS w' a l := by
  refine ⟨h.wf, ?_⟩
  rcases h.mem with e | ⟨b, off, rfl, hc⟩
  · exact Or.inl e
  · refine Or.inr ⟨b, off, rfl, fun i hi => ?_⟩
    have hlt := cell_lt (hc i hi).1
    exact ⟨(hb.cell (p := ⟨b, off + i * 2, none⟩) hlt).trans (hc i hi).1, (hb.cell (p := ⟨b, off + i * 2 + 1, none⟩) hlt).trans (hc i hi).2⟩
theorem RS.of_rd {w : World} {B : Nat} {l : List DSpan} {a : Option Addr} {n cap : Nat} (h : shSpans.Rd w B l [.slice a n cap]) : RS w a l := by
  by_cases hl : l = []
  · subst hl; exact RS.nil _ _
  · obtain ⟨b, off, ha, -⟩ := at_Spans h 0 (List.length_pos_iff.2 hl)
    refine ⟨fun s hs => ?_, Or.inr ⟨b, off, ha, fun i hi => ?_⟩⟩
    · obtain ⟨i, hi, rfl⟩ := List.getElem_of_mem hs
      obtain ⟨_, _, _, _, _, _, h1, h2⟩ := at_Spans h i hi
      exact ⟨h1, h2⟩
    · obtain ⟨b', off', ha', _, h1, h2, _⟩ := at_Spans h i hi
      rw [ha] at ha'
      simp only [Option.some.injEq, Addr.mk.injEq, and_true] at ha'
      obtain ⟨rfl, rfl⟩ := ha'
      exact ⟨h1, h2⟩
theorem RS.rd {w : World} {B : Nat} {l : List DSpan} {a : Option Addr} {cap : Nat} (h : RS w a l) (hn : a = none → cap = 0) (hm : l.length ≤ cap ∧ cap ≤ maxLen) (hB : w.heap.size ≤ B) : shSpans.Rd w B l [.slice a l.length cap] := by
  rcases h.mem with e | ⟨b, off, rfl, hc⟩
  · subst e
    exact ⟨a, cap, rfl, hm, hn, 0, 0, fun h => absurd rfl h, fun i hi => by simp at hi⟩
  · refine ⟨_, cap, rfl, hm, hn, b, off, fun hl => ⟨rfl, ?_⟩, fun i hi => ⟨[.int .i64 l[i].1, .int .i64 l[i].2.1], rfl, fun j hj => ?_, ?_⟩⟩
    · have := cell_lt (hc 0 (List.length_pos_iff.2 hl)).1
      simp at this; omega
    · have hj : j < 2 := hj
      have h2 : j = 0 ∨ j = 1 := by omega
      rcases h2 with rfl | rfl
      · exact (hc i hi).1
      · exact (hc i hi).2
    · have := h.wf _ (List.getElem_mem hi)
      exact ⟨_, _, rfl, ⟨rfl, this.1⟩, _, _, rfl, ⟨rfl, this.2⟩, rfl⟩
theorem RS.drop {w : World} {b off : Nat} {l : List DSpan} (h : RS w (some ⟨b, off, none⟩) l) (k : Nat) : RS w (some ⟨b, off + k * 2, none⟩) (l.drop k) := by
  refine ⟨h.wf.drop k, ?_⟩
  rcases h.mem with e | ⟨b', off', e, hc⟩
  · left; subst e; simp
  · right
    simp only [Option.some.injEq, Addr.mk.injEq, and_true] at e
    obtain ⟨rfl, rfl⟩ := e
    refine ⟨b, off + k * 2, rfl, fun i hi => ?_⟩
    have := hc (k + i) (by simp at hi; omega)
    rw [show off + (k + i) * 2 = off + k * 2 + i * 2 by omega] at this
    simpa using this
theorem RS.take {w : World} {a : Option Addr} {l : List DSpan} (h : RS w a l) (k : Nat) : RS w a (l.take k) := by
  refine ⟨h.wf.take k, ?_⟩
  rcases h.mem with e | ⟨b, off, rfl, hc⟩
  · left; subst e; simp
  · right
    refine ⟨b, off, rfl, fun i hi => ?_⟩
    have := hc i (by simp at hi; omega)
    simpa using this

/-- The slice v owns, from block base on, the spans l. -/
structure OS (w : World) (base : Nat) (v : Value) (l : List DSpan) : Prop where
  own : w.ownsRow base 214 2 v l.length (cellsS l)
  wf : WfS l
theorem OS.nil (w : World) (base : Nat) : OS w base (.slice none 0 0) [] := ⟨World.ownsRow_nil _ _ _ _, fun s hs => by simp at hs⟩
theorem OS.rs {w : World} {base : Nat} {v : Value} {l : List DSpan} (h : OS w base v l) : ∃ a cap, v = .slice a l.length cap ∧ RS w a l ∧ (a = none → cap = 0) ∧ l.length ≤ cap ∧ cap ≤ maxLen := by
  have h0 := h.own
  obtain ⟨h1, ⟨rfl, hz⟩ | ⟨g, cap, cur, rfl, hg, hh, hc, hm, hs, ht⟩⟩ := h.own
  · have : l = [] := List.length_eq_zero_iff.1 hz
    subst this
    exact ⟨none, 0, rfl, RS.nil _ _, fun _ => rfl, Nat.le_refl _, Nat.zero_le _⟩
  · refine ⟨_, cap, rfl, ⟨h.wf, Or.inr ⟨g, 0, rfl, fun i hi => ?_⟩⟩, by simp, hc, hm⟩
    rw [Nat.zero_add, h0.cellAt (i * 2) (by omega), h0.cellAt (i * 2 + 1) (by omega)]
    exact cellsS_get hi
theorem OS.mono {w : World} {base base' : Nat} {v : Value} {l : List DSpan} (h : OS w base v l) (hB : base' ≤ base) : OS w base' v l := by
  refine ⟨?_, h.wf⟩
  obtain ⟨h1, h2 | ⟨g, cap, cur, e, hg, r⟩⟩ := h.own
  · exact ⟨h1, Or.inl h2⟩
  · exact ⟨h1, Or.inr ⟨g, cap, cur, e, by omega, r⟩⟩
theorem OS.keeps {w w' : World} {base : Nat} {v : Value} {l : List DSpan} (h : OS w base v l) (hb : ∀ g, base ≤ g → g < w.heap.size → w'.heap[g]? = w.heap[g]?) : OS w' base v l := by
  refine ⟨?_, h.wf⟩
  obtain ⟨h1, h2 | ⟨g, cap, cur, e, hg, hh, r⟩⟩ := h.own
  · exact ⟨h1, Or.inl h2⟩
  · exact ⟨h1, Or.inr ⟨g, cap, cur, e, hg, by rw [hb g hg (heap_lt hh)]; exact hh, r⟩⟩
theorem OS.below {w w' : World} {base : Nat} {v : Value} {l : List DSpan} (h : OS w base v l) (hb : Below w.heap.size w w') : OS w' base v l := h.keeps fun g _ h2 => hb.block g h2
theorem OS.keep {w w' : World} {base : Nat} {v : Value} {l : List DSpan} (h : OS w base v l) (hb : ∀ g, v.ownBlock = some g → w'.heap[g]? = w.heap[g]?) : OS w' base v l := by
  refine ⟨?_, h.wf⟩
  obtain ⟨h1, h2 | ⟨g, cap, cur, e, hg, hh, r⟩⟩ := h.own
  · exact ⟨h1, Or.inl h2⟩
  · exact ⟨h1, Or.inr ⟨g, cap, cur, e, hg, by rw [hb g (by rw [e]; rfl)]; exact hh, r⟩⟩
/-- A literal of spans. -/
theorem OS.lit (w : World) (l : List DSpan) (hw : WfS l) (hn : l.length ≤ 1000000) : OS (w.alloc (.cells (cellsS l).toArray 214)) w.heap.size (.slice (some ⟨w.heap.size, 0, none⟩) l.length l.length) l := by
  refine ⟨?_, hw⟩
  refine ⟨cellsS_len l, Or.inr ⟨w.heap.size, l.length, (cellsS l).toArray, rfl, Nat.le_refl _, heap_alloc_new w _, Nat.le_refl _, by unfold maxLen; omega, by simp [cellsS_len], ?_⟩⟩
  rw [← cellsS_len]; simp
theorem chunk_cellsS {l : List DSpan} {i : Nat} (h : i < l.length) : ((cellsS l).drop (i * 2)).take 2 = [.int .i64 l[i].1, .int .i64 l[i].2.1] := by
  obtain ⟨g1, g2⟩ := cellsS_get h
  have hl := cellsS_len l
  have h1 : i * 2 < (cellsS l).length := by omega
  have h2 : i * 2 + 1 < (cellsS l).length := by omega
  rw [List.drop_eq_getElem_cons h1, List.drop_eq_getElem_cons h2]
  rw [List.getElem?_eq_getElem h1] at g1
  rw [List.getElem?_eq_getElem h2] at g2
  simp only [Option.some.injEq] at g1 g2
  simp [g1, g2]
/-- What is owned, from its element k on, as a row that begins at a place. -/
theorem OS.ownO {w : World} {base hi : Nat} {a : Option Addr} {n cap : Nat} {l : List DSpan} (h : OS w base (.slice a n cap) l) (hh : w.heap.size ≤ hi) (k : Nat) (hk : k ≤ l.length) :
    ∃ g, a = some ⟨g, 0, none⟩ ∧ Own w base hi shSpansO (l.drop k) [.slice (some ⟨g, k * 2, none⟩) (l.length - k) (cap - k)] ∨ (l = [] ∧ a = none ∧ n = 0 ∧ cap = 0) := by
  obtain ⟨h1, ⟨e, hz⟩ | ⟨g, cap', cur, e, hg, hhp, hc, hm, hs, ht⟩⟩ := h.own
  · simp only [Value.slice.injEq] at e
    obtain ⟨rfl, rfl, rfl⟩ := e
    exact ⟨0, Or.inr ⟨List.length_eq_zero_iff.1 hz, rfl, rfl, rfl⟩⟩
  · simp only [Value.slice.injEq] at e
    obtain ⟨rfl, rfl, rfl⟩ := e
    refine ⟨g, Or.inl ⟨rfl, ⟨[g], ?_, by simp, fun b hb => by simp at hb; subst hb; exact ⟨hg, Nat.lt_of_lt_of_le (heap_lt hhp) hh⟩⟩⟩⟩
    refine Or.inr ⟨g, k * 2, cap - k, cur, List.replicate (l.drop k).length [], ?_, ?_, hhp, ?_, by omega, ?_, by simp, fun i hi' => ?_⟩
    · simp
    · have : (List.replicate (l.drop k).length ([] : List Nat)).flatten = [] := by simp
      rw [this]
    · simp; omega
    · show k * 2 + (l.drop k).length * 2 ≤ cur.size
      rw [hs, List.length_drop]; omega
    · have hi2 : k + i < l.length := by simp at hi'; omega
      have e1 : (List.replicate (l.drop k).length ([] : List Nat)).getD i [] = [] := by
        rw [List.getD_eq_getElem?_getD, List.getElem?_replicate]; split <;> rfl
      rw [e1]
      show shSpan.Ow w [] _ ((cur.toList.drop (k * 2 + i * 2)).take 2)
      have e2 : (cur.toList.drop (k * 2 + i * 2)).take 2 = ((cellsS l).drop ((k + i) * 2)).take 2 := by
        rw [← ht, List.drop_take, List.take_take, show k * 2 + i * 2 = (k + i) * 2 by omega]
        congr 1
        omega
      rw [e2, chunk_cellsS hi2]
      have e3 : (l.drop k)[i] = l[k + i] := by simp
      rw [e3]
      have := h.wf _ (List.getElem_mem hi2)
      exact mk_Span this.1 this.2
theorem OS.ownAll {w : World} {base hi : Nat} {v : Value} {l : List DSpan} (h : OS w base v l) (hh : w.heap.size ≤ hi) : Own w base hi shSpansO l [v] := by
  obtain ⟨a, cap, rfl, _⟩ := h.rs
  obtain ⟨g, ⟨rfl, ho⟩ | ⟨rfl, rfl, _, rfl⟩⟩ := h.ownO hh 0 (Nat.zero_le _)
  · simpa using ho
  · exact ⟨[], Or.inl ⟨rfl, rfl, none, 0, rfl, Nat.zero_le _, fun _ => rfl⟩, by simp, by simp⟩

/-- What is appended. -/
theorem run_appS (ty : TypeId) (w : World) (base : Nat) (v : Value) (l : List DSpan) (hown : OS w base v l) (ad : Option Addr) (l2 : List DSpan) (n2 cap2 : Nat) (hn2 : l2.length = n2) (hr : RS w ad l2) (hnil : ad = none → cap2 = 0) (hn : l.length + n2 ≤ 1000000) (hb : base ≤ w.heap.size) :
    ∃ v' w', (Builtin.append_ #[140, 140] ty #[v, .slice ad n2 cap2]).run Tryz.prog w = .ok v' w' ∧ OS w' base v' (l ++ l2) ∧ Below base w w' ∧ w.grownBy w' v.ownBlock ∧ (v'.ownBlock = v.ownBlock ∨ v'.ownBlock = some w.heap.size) := by
  obtain ⟨i0, hi, hz0, hz1, hz2⟩ := info_parts info_Span
  cases ad with
  | none =>
    have e1 := hnil rfl
    have e2 : l2 = [] := by
      rcases hr.mem with e | ⟨b, off, e, _⟩
      · exact e
      · cases e
    subst e1 e2
    simp at hn2
    subst hn2
    have hrun := run_append_owned_none (P := Tryz.prog) w base 140 ty 214 i0 2 Tryz.underlying140 hi v l.length _ hown.own
    exact ⟨v, w, hrun, by rw [List.append_nil]; exact hown, Below.refl _ _, World.grownBy.refl _ _, Or.inl rfl⟩
  | some ad =>
    obtain ⟨v', w', hrun, h1, h2, _, h4⟩ := run_append_own_at (P := Tryz.prog) w base 140 ty 214 i0 (.agg #[.int .i64 0, .int .i64 0]) 2 16 Tryz.underlying140 hi hz0 hz1 hz2 rfl (by decide) v l.length _ hown.own ad n2 cap2 (cellsS l2) (by rw [cellsS_len, hn2]) (by
      intro j u hj
      obtain ⟨i, hi', hu⟩ := cellsS_at hj
      rcases hr.mem with e | ⟨b, off, e, hc⟩
      · rw [e] at hi'; simp at hi'
      · cases e
        rw [add_none]
        rcases hu with ⟨rfl, rfl⟩ | ⟨rfl, rfl⟩
        · exact (hc i hi').1
        · exact (hc i hi').2) (cellsS_one l2) (by unfold maxLen; omega) (by omega) hb
    refine ⟨v', w', hrun, ⟨?_, hown.wf.app hr.wf⟩, (Below.refl _ _).grown h2 hb (fun k hk => (hown.own.lt k hk).1), h2, h4⟩
    rw [List.length_append, hn2, cellsS_app]; exact h1

section
variable {ops : Array Oper} {rest : List Oper} {o : Oper} {a : Act} {Q : Exit → Act → World → Prop} {K : Act → World → Prop} {E : Prop}
/-- In a plain row of operations. -/
theorem app_plS (w : World) (hgd : o.guard = none) (s x : Operand) (ho : o.op = .call { callee := .builtin .append, args := #[s, x], argTypes := #[140, 140] })
    (base : Nat) (v : Value) (l : List DSpan) (hs : a.eval s = v) (hown : OS w base v l) (ad : Option Addr) (l2 : List DSpan) (n2 cap2 : Nat) (hn2 : l2.length = n2) (hx : a.eval x = .slice ad n2 cap2) (hr : RS w ad l2) (hnil : ad = none → cap2 = 0) (hn : l.length + n2 ≤ 1000000) (hb : base ≤ w.heap.size)
    (h : ∀ v' w', OS w' base v' (l ++ l2) → Below base w w' → w.grownBy w' v.ownBlock → (v'.ownBlock = v.ownBlock ∨ v'.ownBlock = some w.heap.size) → wpList Tryz.prog ops Q rest (a.put o.dst v') w') :
    wpList Tryz.prog ops Q (o :: rest) a w := by
  obtain ⟨v', w', hrun, h1, h2, h3, h4⟩ := run_appS o.type w base v l hown ad l2 n2 cap2 hn2 hr hnil hn hb
  refine wpList_plain hgd fun K hK => ?_
  unfold Oper.wp execOp
  simp only [ho, resolve, invoke, builtin, Sem.run_bind, Sem.run_pure, Result.andThen_ok, List.map_toArray, List.map_cons, List.map_nil, hs, hx, hrun]
  exact hK _ _ (h v' w' h1 h2 h3 h4)
/-- At a step of a region that draws its order. -/
theorem app_stS (w : World) (hgd : o.guard = none) (s x : Operand) (ho : o.op = .call { callee := .builtin .append, args := #[s, x], argTypes := #[140, 140] })
    (base : Nat) (v : Value) (l : List DSpan) (hs : a.eval s = v) (hown : OS w base v l) (ad : Option Addr) (l2 : List DSpan) (n2 cap2 : Nat) (hn2 : l2.length = n2) (hx : a.eval x = .slice ad n2 cap2) (hr : RS w ad l2) (hnil : ad = none → cap2 = 0) (hn : l.length + n2 ≤ 1000000) (hb : base ≤ w.heap.size)
    (h : ∀ v' w', OS w' base v' (l ++ l2) → Below base w w' → w.grownBy w' v.ownBlock → (v'.ownBlock = v.ownBlock ∨ v'.ownBlock = some w.heap.size) → K (a.put o.dst v') w') :
    if Region.wanted o (yielded ops a.tmps) = true then Oper.wp Tryz.prog o a w K Q else E := by
  have hw : Region.wanted o (yielded ops a.tmps) = true := by simp [Region.wanted, hgd]
  rw [if_pos hw]
  obtain ⟨v', w', hrun, h1, h2, h3, h4⟩ := run_appS o.type w base v l hown ad l2 n2 cap2 hn2 hr hnil hn hb
  unfold Oper.wp execOp
  simp only [ho, resolve, invoke, builtin, Sem.run_bind, Sem.run_pure, Result.andThen_ok, List.map_toArray, List.map_cons, List.map_nil, hs, hx, hrun]
  exact h v' w' h1 h2 h3 h4
end
end Go.Proofs.YtcbgedlckcjjnaaGreat

/- A catch that begins, and one that is copied, of both sides; nothing that was in memory turns; no condition but that there are at most a hundred thousand spans. -/
namespace Go.Proofs.YtcbgedlckcjjnaaGreat
open Go.RowKit
set_option linter.unusedVariables false
set_option maxRecDepth 8000

theorem os_none (w : World) (H : Nat) (hH : w.heap.size = H) : OS (w.alloc (.cells #[] 214)) H (.slice (some ⟨H, 0, none⟩) 0 0) [] := by
  subst hH
  exact OS.lit w [] (fun s hs => by simp at hs) (by simp)

theorem own_catO {w : World} {lo hi : Nat} {y0 y1 : Int} {l : List DSpan} {v : Value} (h0 : (Lit.int .i64 y0).wf = true) (h1 : (Lit.int .i64 y1).wf = true) (h : Own w lo hi shSpansO l [v]) (hh : lo ≤ hi) : Own w lo hi shCatchO (y0, y1, l, ()) [.int .i64 y0, .int .i64 y1, v] :=
  hOwnCons (hOwnInt w lo lo h0) (hOwnCons (hOwnInt w lo lo h1) (hOwnCons h (hOwnNil w hi hi) hh (Nat.le_refl _)) (Nat.le_refl _) hh) (Nat.le_refl _) hh
theorem own_spsNone (w : World) (lo hi : Nat) : Own w lo hi shSpansO [] [.slice none 0 0] := ⟨[], Or.inl ⟨rfl, rfl, none, 0, rfl, Nat.zero_le _, fun _ => rfl⟩, by simp, by simp⟩
theorem own_zcat (w : World) (lo hi : Nat) (hh : lo ≤ hi) : Own w lo hi shCatchO zCat [.int .i64 0, .int .i64 0, .slice none 0 0] := own_catO (WalkArith.wf_i64 (by omega)) (WalkArith.wf_i64 (by omega)) (own_spsNone w lo hi) hh
theorem own_stc (w : World) (lo hi : Nat) (n : Int) (hn : -9223372036854775808 ≤ n ∧ n ≤ 9223372036854775807) (hh : lo ≤ hi) : Own w lo hi shCatchO (n, 0, [], ()) [.int .i64 n, .int .i64 0, .slice none 0 0] := own_catO (WalkArith.wf_i64 hn) (WalkArith.wf_i64 (by omega)) (own_spsNone w lo hi) hh
set_option maxHeartbeats 2000000 in
theorem sL7Copy (y0 y1 : Int) (l : List DSpan) (a : Option Addr) (n cap : Nat) (w : World) (hn : l.length = n) (h : RS w a l) (hnil : a = none → cap = 0) (hm : n ≤ 100000) :
    Calls Tryz.prog 200 #[.agg #[.int .i64 y0, .int .i64 y1, .slice a n cap]] w fun e w' => ∃ ga c, e = .returned (.agg #[.int .i64 y0, .int .i64 y1, .slice ga n c]) ∧ OS w' w.heap.size (.slice ga n c) l ∧ Below w.heap.size w w' := by
  have HRS : Hid (∀ W, Below w.heap.size w W → RS W a l) := fun W hW => h.below hW
  have HN : Hid (l.length = n) := hn
  clear h hn
  go_enter Tryz.func200, Tryz.ntmps200
  go_wp2_with (at_builtin; refine app_plS _ rfl _ _ rfl (w.heap.size + 2) (.slice (some ⟨w.heap.size + 2, 0, none⟩) 0 0) [] (by rfl) (os_none _ _ (by simp)) a l n cap HN.out (by rfl) (HRS.out _ (by go_grown)) hnil (by simp; omega) (by simp) ?_; intro v' w1 ho1 hb1 hg1 hat1; obtain ⟨ga, c, ev, -⟩ := ho1.rs; rw [List.nil_append] at ho1 ev; rw [HN.out] at ev; subst ev; (have k0 : ∀ o, w1.cell? ⟨w.heap.size, o, none⟩ = (#[.int .i64 y0, .int .i64 y1, .slice a n cap] : Array Value)[o]? := (fun o => (by rw [hb1.cell (p := ⟨w.heap.size, o, none⟩) (by simp)]; simp [go_sem]))); (have k1 : ∀ o, w1.cell? ⟨w.heap.size + 1, o, none⟩ = (#[.int .i64 0, .int .i64 0, .slice none 0 0] : Array Value)[o]? := (fun o => (by rw [hb1.cell (p := ⟨w.heap.size + 1, o, none⟩) (by simp)]; simp [go_sem]))); (have f0 : ∀ o, w1.frozen? ⟨w.heap.size, o, none⟩ = false := (fun o => (by rw [hb1.frozen (p := ⟨w.heap.size, o, none⟩) (by simp)]; simp [go_sem]))); (have f1 : ∀ o, w1.frozen? ⟨w.heap.size + 1, o, none⟩ = false := (fun o => (by rw [hb1.frozen (p := ⟨w.heap.size + 1, o, none⟩) (by simp)]; simp [go_sem]))); (have HB1 : Hid (Below w.heap.size w w1) := Below.trans (by go_grown) (hb1.mono (by omega))); (have HO1 : Hid (OS w1 (w.heap.size + 2) (.slice ga n c) l) := ho1); (have z1 : w.heap.size + 2 < w1.heap.size := (by have := hb1.size; simp at this; omega)); clear ho1 hb1 hg1 hat1)
  refine bodyPost_ret (v := .agg #[.int .i64 y0, .int .i64 y1, .slice ga n c]) (by simp [results, Tryz.results200, go_sem, k1]) rfl ?_
  refine ⟨ga, c, rfl, ?_, ?_⟩
  · refine OS.mono (base := w.heap.size + 2) (HO1.out.keeps fun b hb1 _ => ?_) (by omega)
    have h1 : b ≠ w.heap.size := by omega
    have h2 : b ≠ w.heap.size + 1 := by omega
    repeat rw [Below.heap_setCell _ _ _ _ (by dsimp only; first | exact h1 | exact h2)]
  · have hB1 := HB1.out
    clear k0 k1 f0 f1 HB1
    go_grown
set_option maxHeartbeats 2000000 in
theorem iCopyCatch (y0 y1 : Int) (l : List DSpan) (a : Option Addr) (n cap : Nat) (w : World) (hn : l.length = n) (h : RS w a l) (hnil : a = none → cap = 0) (hm : n ≤ 100000) :
    Calls Tryz.prog 206 #[.agg #[.int .i64 y0, .int .i64 y1, .slice a n cap]] w fun e w' => ∃ ga c, e = .returned (.agg #[.int .i64 y0, .int .i64 y1, .slice ga n c]) ∧ OS w' w.heap.size (.slice ga n c) l ∧ Below w.heap.size w w' := by
  have HRS : Hid (∀ W, Below w.heap.size w W → RS W a l) := fun W hW => h.below hW
  have HN : Hid (l.length = n) := hn
  clear h hn
  go_enter Tryz.func206, Tryz.ntmps206
  go_wp2_with (at_builtin; refine app_plS _ rfl _ _ rfl (w.heap.size + 2) (.slice none 0 0) [] (by rfl) (OS.nil _ _) a l n cap HN.out (by rfl) (HRS.out _ (by go_grown)) hnil (by simp; omega) (by simp) ?_; intro v' w1 ho1 hb1 hg1 hat1; obtain ⟨ga, c, ev, -⟩ := ho1.rs; rw [List.nil_append] at ho1 ev; rw [HN.out] at ev; subst ev; (have k0 : ∀ o, w1.cell? ⟨w.heap.size, o, none⟩ = (#[.int .i64 y0, .int .i64 y1, .slice a n cap] : Array Value)[o]? := (fun o => (by rw [hb1.cell (p := ⟨w.heap.size, o, none⟩) (by simp)]; simp [go_sem]))); (have k1 : ∀ o, w1.cell? ⟨w.heap.size + 1, o, none⟩ = (#[.int .i64 0, .int .i64 0, .slice none 0 0] : Array Value)[o]? := (fun o => (by rw [hb1.cell (p := ⟨w.heap.size + 1, o, none⟩) (by simp)]; simp [go_sem]))); (have f0 : ∀ o, w1.frozen? ⟨w.heap.size, o, none⟩ = false := (fun o => (by rw [hb1.frozen (p := ⟨w.heap.size, o, none⟩) (by simp)]; simp [go_sem]))); (have f1 : ∀ o, w1.frozen? ⟨w.heap.size + 1, o, none⟩ = false := (fun o => (by rw [hb1.frozen (p := ⟨w.heap.size + 1, o, none⟩) (by simp)]; simp [go_sem]))); (have HB1 : Hid (Below w.heap.size w w1) := Below.trans (by go_grown) (hb1.mono (by omega))); (have HO1 : Hid (OS w1 (w.heap.size + 2) (.slice ga n c) l) := ho1); (have z1 : w.heap.size + 1 < w1.heap.size := (by have := hb1.size; simp at this; omega)); clear ho1 hb1 hg1 hat1)
  refine bodyPost_ret (v := .agg #[.int .i64 y0, .int .i64 y1, .slice ga n c]) (by simp [results, Tryz.results206, go_sem, k1]) rfl ?_
  refine ⟨ga, c, rfl, ?_, ?_⟩
  · refine OS.mono (base := w.heap.size + 2) (HO1.out.keeps fun b hb1 _ => ?_) (by omega)
    have h1 : b ≠ w.heap.size := by omega
    have h2 : b ≠ w.heap.size + 1 := by omega
    repeat rw [Below.heap_setCell _ _ _ _ (by dsimp only; first | exact h1 | exact h2)]
  · have hB1 := HB1.out
    clear k0 k1 f0 f1 HB1
    go_grown
end Go.Proofs.YtcbgedlckcjjnaaGreat

/- What program and model make of a sub that is copied and closed: the answer owns its memory; nothing that was in memory turns; no condition but that there are at most a million parts. -/
namespace Go.Proofs.YtcbgedlckcjjnaaGreat
open Go.RowKit
set_option linter.unusedVariables false
set_option maxRecDepth 8000

/-- What a sub's copy needs: its flights and spans can be read, and are few. -/
structure SubIn (w : World) (B : Nat) (fl : List DFlight) (sp : List DSpan) (s0 s1 s2 c0 c1 : Int) (ua : Option Addr) (fn uc : Nat) (va : Option Addr) (sn vc : Nat) : Prop where
  rs : shSender.Rd w B (s0, s1, s2, fl, ()) [.int .i64 s0, .int .i64 s1, .int .i64 s2, .slice ua fn uc]
  rc : RS w va sp
  nil : va = none → vc = 0
  hfn : fl.length = fn
  hsn : sp.length = sn
  w0 : (Lit.int .i64 c0).wf = true
  w1 : (Lit.int .i64 c1).wf = true
  hB : B ≤ w.heap.size
  ht : totSender (s0, s1, s2, fl, ()) ≤ 1048576
  h1 : fn ≤ 1000
  h2 : sn ≤ 1000
theorem SubIn.of {w : World} {B : Nat} {fl : List DFlight} {sp : List DSpan} {s0 s1 s2 c0 c1 : Int} {ua : Option Addr} {fn uc : Nat} {va : Option Addr} {sn vc : Nat} (rs : shSender.Rd w B (s0, s1, s2, fl, ()) [.int .i64 s0, .int .i64 s1, .int .i64 s2, .slice ua fn uc]) (rc : shCatch.Rd w B (c0, c1, sp, ()) [.int .i64 c0, .int .i64 c1, .slice va sn vc]) (hfn : fl.length = fn) (hsn : sp.length = sn) (hB : B ≤ w.heap.size) (h : sndFault (s0, s1, s2, fl, ()) = 0) (h' : caF (c0, c1, sp, ()) = 0) : SubIn w B fl sp s0 s1 s2 c0 c1 ua fn uc va sn vc := by
  have a1 : fl.length ≤ 12 := (snd_ok h).2.2.2
  have a2 : sp.length ≤ 20 := (ca_ok h').2.2.1
  have a3 : totSender (s0, s1, s2, fl, ()) ≤ 108 := snd_tot h
  obtain ⟨q, e, r, g0, g1⟩ := rd_Catch rc
  simp only [List.cons.injEq, and_true, true_and] at e
  subst e
  replace r : shSpans.Rd w B sp [.slice va sn vc] := r
  have rr := r
  obtain ⟨a', cap', e, -, hn, -⟩ := rr
  simp only [List.cons.injEq, Value.slice.injEq, and_true] at e
  obtain ⟨rfl, -, rfl⟩ := e
  exact ⟨rs, RS.of_rd r, hn, hfn, hsn, g0, g1, hB, by omega, by omega, by omega⟩
theorem SubIn.below {w W : World} {B : Nat} {fl : List DFlight} {sp : List DSpan} {s0 s1 s2 c0 c1 : Int} {ua : Option Addr} {fn uc : Nat} {va : Option Addr} {sn vc : Nat} (h : SubIn w B fl sp s0 s1 s2 c0 c1 ua fn uc va sn vc) (hW : Below w.heap.size w W) : SubIn W B fl sp s0 s1 s2 c0 c1 ua fn uc va sn vc :=
  ⟨h.rs.below h.hB hW, h.rc.below hW, h.nil, h.hfn, h.hsn, h.w0, h.w1, Nat.le_trans h.hB hW.size, h.ht, h.h1, h.h2⟩
/-- What a copy of a sub owns: its flights up to block m, its spans behind it. -/
structure SubOw (w : World) (lo hi : Nat) (fl : List DFlight) (sp : List DSpan) (s0 s1 s2 c0 c1 : Int) (qa : Option Addr) (fn qc : Nat) (ra : Option Addr) (sn rc m : Nat) : Prop where
  s : Own w lo m shSender (s0, s1, s2, fl, ()) [.int .i64 s0, .int .i64 s1, .int .i64 s2, .slice qa fn qc]
  c : Own w m hi shCatchO (c0, c1, sp, ()) [.int .i64 c0, .int .i64 c1, .slice ra sn rc]
  lm : lo ≤ m
  mh : m ≤ hi
theorem SubOw.keep {w w' : World} {lo hi : Nat} {fl : List DFlight} {sp : List DSpan} {s0 s1 s2 c0 c1 : Int} {qa : Option Addr} {fn qc : Nat} {ra : Option Addr} {sn rc m : Nat} (h : SubOw w lo hi fl sp s0 s1 s2 c0 c1 qa fn qc ra sn rc m) (hk : ∀ b, lo ≤ b → b < hi → w'.heap[b]? = w.heap[b]?) : SubOw w' lo hi fl sp s0 s1 s2 c0 c1 qa fn qc ra sn rc m :=
  ⟨Own.keep h.s (fun b h1 h2 => hk b h1 (Nat.lt_of_lt_of_le h2 h.mh)), Own.keep h.c (fun b h1 h2 => hk b (Nat.le_trans h.lm h1) h2), h.lm, h.mh⟩
theorem SubOw.grow {w : World} {lo hi lo' hi' : Nat} {fl : List DFlight} {sp : List DSpan} {s0 s1 s2 c0 c1 : Int} {qa : Option Addr} {fn qc : Nat} {ra : Option Addr} {sn rc m : Nat} (h : SubOw w lo hi fl sp s0 s1 s2 c0 c1 qa fn qc ra sn rc m) (h1 : lo' ≤ lo) (h2 : hi ≤ hi') : SubOw w lo' hi' fl sp s0 s1 s2 c0 c1 qa fn qc ra sn rc m :=
  ⟨Own.mono h.s h1 (Nat.le_refl _), Own.mono h.c (Nat.le_refl _) h2, Nat.le_trans h1 h.lm, Nat.le_trans h.mh h2⟩
set_option maxHeartbeats 4000000 in
theorem sL8Copy (y0 y1 : Int) (y2 : Bool) (y3 y4 y5 s0 s1 s2 c0 c1 k0 k1 k2 : Int) (fl : List DFlight) (sp : List DSpan) (ua : Option Addr) (fn uc : Nat) (va : Option Addr) (sn vc : Nat) (w : World) (B : Nat) (h : SubIn w B fl sp s0 s1 s2 c0 c1 ua fn uc va sn vc) :
    Calls Tryz.prog 163 #[.agg #[.int .i64 y0, .int .i64 y1, .bool y2, .int .i64 y3, .int .i64 y4, .int .i64 y5, .int .i64 s0, .int .i64 s1, .int .i64 s2, .slice ua fn uc, .int .i64 c0, .int .i64 c1, .slice va sn vc, .int .i64 k0, .int .i64 k1, .int .i64 k2]] w fun e w' => ∃ qa qc ra rc m, e = .returned (.agg #[.int .i64 y0, .int .i64 y1, .bool y2, .int .i64 y3, .int .i64 y4, .int .i64 y5, .int .i64 s0, .int .i64 s1, .int .i64 s2, .slice qa fn qc, .int .i64 c0, .int .i64 c1, .slice ra sn rc, .int .i64 k0, .int .i64 k1, .int .i64 k2]) ∧ SubOw w' w.heap.size w'.heap.size fl sp s0 s1 s2 c0 c1 qa fn qc ra sn rc m ∧ Below w.heap.size w w' := by
  have H1 : Hid (∀ W, Below w.heap.size w W → Calls Tryz.prog 199 #[.agg #[.int .i64 s0, .int .i64 s1, .int .i64 s2, .slice ua fn uc]] W fun e w' => ∃ u, e = .returned (.agg #[.int .i64 s0, .int .i64 s1, .int .i64 s2, u]) ∧ Own w' W.heap.size w'.heap.size shSender (s0, s1, s2, fl, ()) [.int .i64 s0, .int .i64 s1, .int .i64 s2, u] ∧ Below W.heap.size W w') := fun W hW => sL5Copy (s0, s1, s2, fl, ()) _ W B (h.below hW).rs (h.below hW).hB h.ht (by show fl.length ≤ 1000; rw [h.hfn]; exact h.h1)
  have H2 : Hid (∀ W, Below w.heap.size w W → Calls Tryz.prog 200 #[.agg #[.int .i64 c0, .int .i64 c1, .slice va sn vc]] W fun e w' => ∃ ga c, e = .returned (.agg #[.int .i64 c0, .int .i64 c1, .slice ga sn c]) ∧ OS w' W.heap.size (.slice ga sn c) sp ∧ Below W.heap.size W w') := fun W hW => sL7Copy c0 c1 sp va sn vc W h.hsn (h.rc.below hW) h.nil (by have := h.h2; omega)
  have HN : Hid (fl.length = fn) := h.hfn
  have HW0 : Hid _ := h.w0
  have HW1 : Hid _ := h.w1
  clear h
  go_enter Tryz.func163, Tryz.ntmps163
  go_wp2_with fail
  refine (H1.out _ (by go_grown)).mono ?_
  rintro e w1 ⟨u1, rfl, ho, hb⟩
  have j0 : ∀ o, w1.cell? ⟨w.heap.size, o, none⟩ = (#[.int .i64 y0, .int .i64 y1, .bool y2, .int .i64 y3, .int .i64 y4, .int .i64 y5, .int .i64 s0, .int .i64 s1, .int .i64 s2, .slice ua fn uc, .int .i64 c0, .int .i64 c1, .slice va sn vc, .int .i64 k0, .int .i64 k1, .int .i64 k2] : Array Value)[o]? := fun o => by rw [hb.cell (p := ⟨w.heap.size, o, none⟩) (by simp <;> omega)]; simp [go_sem]
  have f0 : ∀ o, w1.frozen? ⟨w.heap.size, o, none⟩ = false := fun o => by rw [hb.frozen (p := ⟨w.heap.size, o, none⟩) (by simp <;> omega)]; simp [go_sem]
  obtain ⟨uu, eu, ru, -⟩ := rd_Sender (ho.rd (Nat.le_refl _))
  simp only [List.cons.injEq, and_true, true_and] at eu
  subst eu
  obtain ⟨qa, qc, eu⟩ := row_form ru
  rw [HN.out] at eu
  simp only [List.cons.injEq, and_true] at eu
  subst eu
  have j1 : ∀ o, w1.cell? ⟨w.heap.size + 1, o, none⟩ = (#[.int .i64 0, .int .i64 0, .bool false, .int .i64 0, .int .i64 0, .int .i64 0, .int .i64 0, .int .i64 0, .int .i64 0, .slice none 0 0, .int .i64 0, .int .i64 0, .slice none 0 0, .int .i64 0, .int .i64 0, .int .i64 0] : Array Value)[o]? := fun o => by rw [hb.cell (p := ⟨w.heap.size + 1, o, none⟩) (by simp)]; simp [go_sem]
  have f1 : ∀ o, w1.frozen? ⟨w.heap.size + 1, o, none⟩ = false := fun o => by rw [hb.frozen (p := ⟨w.heap.size + 1, o, none⟩) (by simp)]; simp [go_sem]
  have HB : Hid (Below w.heap.size w w1) := Below.trans (by go_grown) (hb.mono (by simp; omega))
  have HS : Hid (Own w1 (w.heap.size + 1 + 1) w1.heap.size shSender (s0, s1, s2, fl, ()) [.int .i64 s0, .int .i64 s1, .int .i64 s2, .slice qa fn qc]) := Own.mono ho (by simp) (Nat.le_refl _)
  have z1 : w.heap.size + 1 < w1.heap.size := by have := hb.size; simp at this; omega
  clear ho hb H1 ru
  go_wp2_with fail
  refine (H2.out _ (by have h := HB.out; clear j0 j1 f0 f1 HS; go_grown)).mono ?_
  rintro e w2 ⟨ra, rc, rfl, hos, hb⟩
  have z2 : w1.heap.size ≤ w2.heap.size := by have := hb.size; simpa using this
  replace j0 := bx_put (bx_put (bx_put (bx_put j0 (k := 6) (v := .int .i64 s0) (by simp)) (k := 7) (v := .int .i64 s1) (by simp)) (k := 8) (v := .int .i64 s2) (by simp)) (k := 9) (v := .slice qa fn qc) (by simp)
  simp only [List.setIfInBounds_toArray, List.set_cons_zero, List.set_cons_succ] at j0
  replace j0 : ∀ o, w2.cell? ⟨w.heap.size, o, none⟩ = _ := fun o => (hb.cell (p := ⟨w.heap.size, o, none⟩) (by simp; omega)).trans (j0 o)
  replace f0 : ∀ o, w2.frozen? ⟨w.heap.size, o, none⟩ = false := fun o => by rw [hb.frozen (p := ⟨w.heap.size, o, none⟩) (by simp; omega)]; simpa using f0 o
  replace HB : Hid (Below w.heap.size w w2) := (Below.setCell (Below.setCell (Below.setCell (Below.setCell HB.out (by dsimp only; omega) _) (by dsimp only; omega) _) (by dsimp only; omega) _) (by dsimp only; omega) _).trans (hb.mono (by simp; omega))
  replace j1 : ∀ o, w2.cell? ⟨w.heap.size + 1, o, none⟩ = _ := fun o => (hb.cell (p := ⟨w.heap.size + 1, o, none⟩) (by simp; omega)).trans ((bx_off (bx_off (bx_off (bx_off j1 (by omega)) (by omega)) (by omega)) (by omega)) o)
  replace f1 : ∀ o, w2.frozen? ⟨w.heap.size + 1, o, none⟩ = false := fun o => by rw [hb.frozen (p := ⟨w.heap.size + 1, o, none⟩) (by simp; omega)]; simpa using f1 o
  replace HS : Hid (Own w2 (w.heap.size + 1 + 1) w1.heap.size shSender (s0, s1, s2, fl, ()) [.int .i64 s0, .int .i64 s1, .int .i64 s2, .slice qa fn qc]) := Own.keep HS.out (fun b h1 h2 => by rw [hb.block b (by simpa using h2)]; repeat rw [Below.heap_setCell _ _ _ _ (by dsimp only; omega)])
  have HC : Hid (Own w2 w1.heap.size w2.heap.size shCatchO (c0, c1, sp, ()) [.int .i64 c0, .int .i64 c1, .slice ra sn rc]) := own_catO HW0.out HW1.out (OS.ownAll (OS.mono hos (by simp)) (Nat.le_refl _)) z2
  clear hos hb H2
  go_wp2_with fail
  refine bodyPost_ret (v := .agg #[.int .i64 y0, .int .i64 y1, .bool y2, .int .i64 y3, .int .i64 y4, .int .i64 y5, .int .i64 s0, .int .i64 s1, .int .i64 s2, .slice qa fn qc, .int .i64 c0, .int .i64 c1, .slice ra sn rc, .int .i64 k0, .int .i64 k1, .int .i64 k2]) (by simp [results, Tryz.results163, go_sem, j1]) rfl ⟨qa, qc, ra, rc, w1.heap.size, rfl, ?_, ?_⟩
  · have h2 : SubOw w2 (w.heap.size + 1 + 1) w2.heap.size fl sp s0 s1 s2 c0 c1 qa fn qc ra sn rc w1.heap.size := ⟨HS.out, HC.out, by omega, z2⟩
    refine SubOw.grow (SubOw.keep h2 (fun b h1 h2 => ?_)) (by omega) (by simp)
    repeat rw [Below.heap_setCell _ _ _ _ (by dsimp only; omega)]
  · have hB1 := HB.out
    clear j0 j1 f0 f1 HS HC HB
    go_grown
set_option maxHeartbeats 4000000 in
theorem iCopySub (y0 y1 : Int) (y2 : Bool) (y3 y4 y5 s0 s1 s2 c0 c1 k0 k1 k2 : Int) (fl : List DFlight) (sp : List DSpan) (ua : Option Addr) (fn uc : Nat) (va : Option Addr) (sn vc : Nat) (w : World) (B : Nat) (h : SubIn w B fl sp s0 s1 s2 c0 c1 ua fn uc va sn vc) :
    Calls Tryz.prog 171 #[.agg #[.int .i64 y0, .int .i64 y1, .bool y2, .int .i64 y3, .int .i64 y4, .int .i64 y5, .int .i64 s0, .int .i64 s1, .int .i64 s2, .slice ua fn uc, .int .i64 c0, .int .i64 c1, .slice va sn vc, .int .i64 k0, .int .i64 k1, .int .i64 k2]] w fun e w' => ∃ qa qc ra rc m, e = .returned (.pointer (some ⟨w.heap.size, 0, none⟩)) ∧ (∀ o, w'.cell? ⟨w.heap.size, o, none⟩ = (#[.int .i64 y0, .int .i64 y1, .bool y2, .int .i64 y3, .int .i64 y4, .int .i64 y5, .int .i64 s0, .int .i64 s1, .int .i64 s2, .slice qa fn qc, .int .i64 c0, .int .i64 c1, .slice ra sn rc, .int .i64 k0, .int .i64 k1, .int .i64 k2] : Array Value)[o]?) ∧ (∀ o, w'.frozen? ⟨w.heap.size, o, none⟩ = false) ∧ SubOw w' (w.heap.size + 1) w'.heap.size fl sp s0 s1 s2 c0 c1 qa fn qc ra sn rc m ∧ w.heap.size < w'.heap.size ∧ Below w.heap.size w w' := by
  have H1 : Hid (∀ W, Below w.heap.size w W → Calls Tryz.prog 205 #[.agg #[.int .i64 s0, .int .i64 s1, .int .i64 s2, .slice ua fn uc]] W fun e w' => ∃ u, e = .returned (.agg #[.int .i64 s0, .int .i64 s1, .int .i64 s2, u]) ∧ Own w' W.heap.size w'.heap.size shSender (s0, s1, s2, fl, ()) [.int .i64 s0, .int .i64 s1, .int .i64 s2, u] ∧ Below W.heap.size W w') := fun W hW => iCopyS (s0, s1, s2, fl, ()) _ W B (h.below hW).rs (h.below hW).hB h.ht (by show fl.length ≤ 1000; rw [h.hfn]; exact h.h1)
  have H2 : Hid (∀ W, Below w.heap.size w W → Calls Tryz.prog 206 #[.agg #[.int .i64 c0, .int .i64 c1, .slice va sn vc]] W fun e w' => ∃ ga c, e = .returned (.agg #[.int .i64 c0, .int .i64 c1, .slice ga sn c]) ∧ OS w' W.heap.size (.slice ga sn c) sp ∧ Below W.heap.size W w') := fun W hW => iCopyCatch c0 c1 sp va sn vc W h.hsn (h.rc.below hW) h.nil (by have := h.h2; omega)
  have HN : Hid (fl.length = fn) := h.hfn
  have HW0 : Hid _ := h.w0
  have HW1 : Hid _ := h.w1
  clear h
  go_enter Tryz.func171, Tryz.ntmps171
  go_wp2_with fail
  refine (H1.out _ (by go_grown)).mono ?_
  rintro e w1 ⟨u1, rfl, ho, hb⟩
  have j0 : ∀ o, w1.cell? ⟨w.heap.size, o, none⟩ = (#[.int .i64 y0, .int .i64 y1, .bool y2, .int .i64 y3, .int .i64 y4, .int .i64 y5, .int .i64 s0, .int .i64 s1, .int .i64 s2, .slice ua fn uc, .int .i64 c0, .int .i64 c1, .slice va sn vc, .int .i64 k0, .int .i64 k1, .int .i64 k2] : Array Value)[o]? := fun o => by rw [hb.cell (p := ⟨w.heap.size, o, none⟩) (by simp <;> omega)]; simp [go_sem]
  have f0 : ∀ o, w1.frozen? ⟨w.heap.size, o, none⟩ = false := fun o => by rw [hb.frozen (p := ⟨w.heap.size, o, none⟩) (by simp <;> omega)]; simp [go_sem]
  obtain ⟨uu, eu, ru, -⟩ := rd_Sender (ho.rd (Nat.le_refl _))
  simp only [List.cons.injEq, and_true, true_and] at eu
  subst eu
  obtain ⟨qa, qc, eu⟩ := row_form ru
  rw [HN.out] at eu
  simp only [List.cons.injEq, and_true] at eu
  subst eu
  have HB : Hid (Below w.heap.size w w1) := Below.trans (by go_grown) (hb.mono (by simp))
  have HS : Hid (Own w1 (w.heap.size + 1) w1.heap.size shSender (s0, s1, s2, fl, ()) [.int .i64 s0, .int .i64 s1, .int .i64 s2, .slice qa fn qc]) := Own.mono ho (by simp) (Nat.le_refl _)
  have z1 : w.heap.size < w1.heap.size := by have := hb.size; simp at this; omega
  clear ho hb H1 ru
  go_wp2_with fail
  refine (H2.out _ (by have h := HB.out; clear j0 f0 HS; go_grown)).mono ?_
  rintro e w2 ⟨ra, rc, rfl, hos, hb⟩
  have z2 : w1.heap.size ≤ w2.heap.size := by have := hb.size; simpa using this
  replace j0 := bx_put (bx_put (bx_put (bx_put j0 (k := 6) (v := .int .i64 s0) (by simp)) (k := 7) (v := .int .i64 s1) (by simp)) (k := 8) (v := .int .i64 s2) (by simp)) (k := 9) (v := .slice qa fn qc) (by simp)
  simp only [List.setIfInBounds_toArray, List.set_cons_zero, List.set_cons_succ] at j0
  replace j0 : ∀ o, w2.cell? ⟨w.heap.size, o, none⟩ = _ := fun o => (hb.cell (p := ⟨w.heap.size, o, none⟩) (by simp; omega)).trans (j0 o)
  replace f0 : ∀ o, w2.frozen? ⟨w.heap.size, o, none⟩ = false := fun o => by rw [hb.frozen (p := ⟨w.heap.size, o, none⟩) (by simp; omega)]; simpa using f0 o
  replace HB : Hid (Below w.heap.size w w2) := (Below.setCell (Below.setCell (Below.setCell (Below.setCell HB.out (by dsimp only; omega) _) (by dsimp only; omega) _) (by dsimp only; omega) _) (by dsimp only; omega) _).trans (hb.mono (by simp; omega))
  replace HS : Hid (Own w2 (w.heap.size + 1) w1.heap.size shSender (s0, s1, s2, fl, ()) [.int .i64 s0, .int .i64 s1, .int .i64 s2, .slice qa fn qc]) := Own.keep HS.out (fun b h1 h2 => by rw [hb.block b (by simpa using h2)]; repeat rw [Below.heap_setCell _ _ _ _ (by dsimp only; omega)])
  have HC : Hid (Own w2 w1.heap.size w2.heap.size shCatchO (c0, c1, sp, ()) [.int .i64 c0, .int .i64 c1, .slice ra sn rc]) := own_catO HW0.out HW1.out (OS.ownAll (OS.mono hos (by simp)) (Nat.le_refl _)) z2
  clear hos hb H2
  go_wp2_with fail
  go_ret
  have j9 := bx_put (bx_put (bx_put j0 (k := 10) (v := .int .i64 c0) (by simp)) (k := 11) (v := .int .i64 c1) (by simp)) (k := 12) (v := .slice ra sn rc) (by simp)
  simp only [List.setIfInBounds_toArray, List.set_cons_zero, List.set_cons_succ] at j9
  have h2 : SubOw w2 (w.heap.size + 1) w2.heap.size fl sp s0 s1 s2 c0 c1 qa fn qc ra sn rc w1.heap.size := ⟨HS.out, HC.out, by omega, z2⟩
  refine ⟨qa, qc, ra, rc, w1.heap.size, rfl, j9, (fun o => by simpa using f0 o), SubOw.grow (SubOw.keep h2 (fun b h1 h2 => ?_)) (Nat.le_refl _) (by simp), by simp; omega, ?_⟩
  · repeat rw [Below.heap_setCell _ _ _ _ (by dsimp only; omega)]
  exact Below.setCell (Below.setCell (Below.setCell HB.out (by dsimp only; omega) _) (by dsimp only; omega) _) (by dsimp only; omega) _
end Go.Proofs.YtcbgedlckcjjnaaGreat
