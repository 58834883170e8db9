/- What the model says of a conn's fault, the whole of it; nothing that was in memory turns; no condition but that there are at most a million parts. -/
import Derived.Test.YtfpemobkkfobkaaGreatDoorRows
import Derived.Deep.RegionHeld3
import Derived.Deep.DeepCutAuto
import Derived.Deep.CutRange
import Derived.Deep.QuietTactic
import Derived.BigQuiet
import Derived.Test.YtfpemobkkfobkaaGreatDoorK01
import Derived.Test.YtfpemobkkfobkaaGreatDoorK02
import Derived.Test.YtfpemobkkfobkaaGreatDoorK03
import Derived.Test.YtfpemobkkfobkaaGreatDoorK04
import Derived.Test.YtfpemobkkfobkaaGreatDoorK05
import Derived.Test.YtfpemobkkfobkaaGreatDoorK07
import Derived.Test.YtfpemobkkfobkaaGreatDoorK09
import Derived.Test.YtfpemobkkfobkaaGreatDoorK10
import Derived.Test.YtfpemobkkfobkaaGreatDoorK11
import Derived.Test.YtfpemobkkfobkaaGreatDoorK12
namespace Go.Proofs.YtfpemobkkfobkaaGreatDoor
open Go.RowKit
set_option linter.unusedVariables false
set_option maxRecDepth 8000

/-- The cells of a conn behind a pointer. -/
structure CC (W : World) (cb of : Nat) (y0 y1 y2 : Int) (y3 y4 : Bool) (v5 : Value) (y6 : Bool) (y7 : Int) (y8 : Bool) (v9 v10 : Value) (y10 y11 : Int) (v13 : Value) : Prop where
  x0 : W.cell? ⟨cb, of, none⟩ = some (.int .i64 y0)
  x1 : W.cell? ⟨cb, of + 1, none⟩ = some (.int .i64 y1)
  x2 : W.cell? ⟨cb, of + 2, none⟩ = some (.int .i64 y2)
  x3 : W.cell? ⟨cb, of + 3, none⟩ = some (.bool y3)
  x4 : W.cell? ⟨cb, of + 4, none⟩ = some (.bool y4)
  x5 : W.cell? ⟨cb, of + 5, none⟩ = some v5
  x6 : W.cell? ⟨cb, of + 6, none⟩ = some (.bool y6)
  x7 : W.cell? ⟨cb, of + 7, none⟩ = some (.int .i64 y7)
  x8 : W.cell? ⟨cb, of + 8, none⟩ = some (.bool y8)
  x9 : W.cell? ⟨cb, of + 9, none⟩ = some v9
  x10 : W.cell? ⟨cb, of + 9 + 1, none⟩ = some v10
  x11 : W.cell? ⟨cb, of + 11, none⟩ = some (.int .i64 y10)
  x12 : W.cell? ⟨cb, of + 12, none⟩ = some (.int .i64 y11)
  x13 : W.cell? ⟨cb, of + 13, none⟩ = some v13
theorem CC.of {W : World} {cb of : Nat} {A : Array Value} {y0 y1 y2 : Int} {y3 y4 : Bool} {v5 : Value} {y6 : Bool} {y7 : Int} {y8 : Bool} {v9 v10 : Value} {y10 y11 : Int} {v13 : Value} (h : W.rangeAt cb of A.toList)
    (e : A.toList = [.int .i64 y0, .int .i64 y1, .int .i64 y2, .bool y3, .bool y4, v5, .bool y6, .int .i64 y7, .bool y8, v9, v10, .int .i64 y10, .int .i64 y11, v13]) : CC W cb of y0 y1 y2 y3 y4 v5 y6 y7 y8 v9 v10 y10 y11 v13 := by
  rw [e] at h
  exact ⟨h 0 _ rfl, h 1 _ rfl, h 2 _ rfl, h 3 _ rfl, h 4 _ rfl, h 5 _ rfl, h 6 _ rfl, h 7 _ rfl, h 8 _ rfl, h 9 _ rfl, h 10 _ rfl, h 11 _ rfl, h 12 _ rfl, h 13 _ rfl⟩
set_option maxHeartbeats 1500000 in
theorem sL9Fault (c : DConn) (A : Array Value) (cb of : Nat) (w : World) (B : Nat) (h : ConnAt w B c A cb of) :
    Calls Tryz.prog 30 #[.pointer (some ⟨cb, of, none⟩)] w fun e w' => e = .returned (.int .i64 (connF c)) ∧ Below w.heap.size w w' := by
  have HEND : Hid (gtFault c.inn = 0 → ∀ W, Below w.heap.size w W → Calls Tryz.prog 52 #[.pointer (some ⟨cb, of, none⟩)] W fun e w' => e = .returned (.bool (endsD c.finIn c.inn)) ∧ Below W.heap.size W w') := fun hg W hW => sL9Ends c A cb of W B (h.below hW) hg
  have HSUB : Hid (∀ W, Below w.heap.size w W → Calls Tryz.prog 53 #[.pointer (some ⟨cb, of, none⟩)] W fun e w' => e = .returned (.int .i64 (subsF c.subs)) ∧ Below W.heap.size W w') := fun W hW => sL9Subs c A cb of W B (h.below hW)
  obtain ⟨y0, y1, y2, y3, y4, d5, y6, y7, y8, ⟨dn, ps, ⟨⟩⟩, y10, y11, l, ⟨⟩⟩ := c
  have CB : Hid (∀ W, Below w.heap.size w W → W.rangeAt cb of A.toList) := fun W hW => (h.below hW).at_
  obtain ⟨a5, c5, a9, c9, a9', c9', a12, c12, eA, -, r9, r12, -⟩ := rd_Conn h.rd
  have hB := h.hB
  have hT : d5.length + (dn.length + pcsTot ps) + totSubs l ≤ 1048576 := h.tot
  have HX : Hid (∀ W, Below w.heap.size w W → CC W cb of y0 y1 y2 y3 y4 (.slice a5 d5.length c5) y6 y7 y8 (.slice a9 dn.length c9) (.slice a9' ps.length c9') y10 y11 (.slice a12 l.length c12)) := fun W hW => CC.of (CB.out W hW) eA
  have HRd : Hid (∀ W, Below w.heap.size w W → shSubs.Rd W B l [.slice a12 l.length c12]) := fun W hW => Sh.Rd.below (s := shSubs) r12 hB hW
  have HGT : Hid (∀ W, Below w.heap.size w W → Calls Tryz.prog 51 #[.pointer (some ⟨cb, of + 9, none⟩)] W fun e w' => e = .returned (.int .i64 (gtFault (dn, ps, ()))) ∧ Below W.heap.size W w') := fun W hW =>
    sL3FaultO (dn, ps, ()) _ _ cb (of + 9) W B (Sh.Rd.below (s := gtS) r9 hB hW) (Nat.le_trans hB hW.size) (fun k hk => by have hk' : k < ps.length := hk; have := dsum_at hk'; unfold pcsTot at hT; show ps[k].2.1.length ≤ 1048576; omega) (HX.out W hW).x9 (HX.out W hW).x10
  obtain ⟨R, hR⟩ : ∃ R, R = connF (y0, y1, y2, y3, y4, d5, y6, y7, y8, (dn, ps, ()), y10, y11, l, ()) := ⟨_, rfl⟩
  rw [← hR]
  have hR2 : R = if (inD y0 0 1 && keyD y1 && (decide (y2 = 0) || keyD y2)) = false then 3 else if 300 < d5.length then 2 else if inD y7 0 d5.length = false then 3 else if (y8 && (!y6 || !decide (y7 = (d5.length : Int)))) = true then 1 else if gtFault (dn, ps, ()) ≠ 0 then gtFault (dn, ps, ())
    else if (inD y10 (-1) 400 && inD y11 0 dn.length) = false then 3 else if endsD y10 (dn, ps, ()) = false then 1 else if subsF l ≠ 0 then subsF l else if ((decide (1 < l.length) && (y3 || decide ((l.head?.map fun x => x.2.1) = some 1))) || (y4 && decide (l.length < 2))) = true then 1 else if strD y0 l = true then 1 else 0 := hR
  clear hR h CB eA r9 r12
  replace HEND : Hid (gtFault (dn, ps, ()) = 0 → ∀ W, Below w.heap.size w W → Calls Tryz.prog 52 #[.pointer (some ⟨cb, of, none⟩)] W fun e w' => e = .returned (.bool (endsD y10 (dn, ps, ()))) ∧ Below W.heap.size W w') := HEND
  replace HSUB : Hid (∀ W, Below w.heap.size w W → Calls Tryz.prog 53 #[.pointer (some ⟨cb, of, none⟩)] W fun e w' => e = .returned (.int .i64 (subsF l)) ∧ Below W.heap.size W w') := HSUB
  have hm5 : d5.length ≤ 1048576 := by omega
  have hm9 : dn.length ≤ 1048576 := by omega
  have hm12 : l.length ≤ 1048576 := by unfold totSubs at hT; omega
  have HH : Hid (∀ b off W, a12 = some ⟨b, off, none⟩ → Below w.heap.size w W → ∀ k (hk : k < l.length), W.cell? ⟨b, off + k * 16 + 1, none⟩ = some (.int .i64 l[k].2.1)) := fun b off W e hW k hk => by
    have h2 := HRd.out W hW
    rw [e] at h2
    exact (sub_at2 h2 k hk).choose_spec.2.2.2.2.2.1
  have HSOME : Hid (0 < l.length → ∃ b off, a12 = some ⟨b, off, none⟩) := fun hk => by
    obtain ⟨b, off, _, ha, _⟩ := sub_at (HRd.out w (Below.refl _ _)) 0 hk
    exact ⟨b, off, ha⟩
  have HHD : Hid (∀ hk : 0 < l.length, l.head?.map (fun x => x.2.1) = some l[0].2.1) := fun hk => by
    rw [List.head?_eq_getElem?, List.getElem?_eq_getElem hk]; rfl
  have HST1 : Hid (∀ k (hk : k < l.length), l[k].2.1 = 2 - y0 → strD y0 l = true) := fun k hk e => List.any_eq_true.2 ⟨l[k], List.getElem_mem hk, by simpa using e⟩
  have HST0 : Hid ((∀ k (hk : k < l.length), l[k].2.1 ≠ 2 - y0) → strD y0 l = false) := fun hall => by
    apply Bool.eq_false_iff.2
    intro ha
    obtain ⟨x, hx, hp⟩ := List.any_eq_true.1 ha
    obtain ⟨k, hk, rfl⟩ := List.getElem_of_mem hx
    exact hall k hk (by simpa using hp)
  obtain ⟨K, hK⟩ : ∃ K, (inD y0 0 1 && keyD y1 && (decide (y2 = 0) || keyD y2)) = K := ⟨_, rfl⟩
  obtain ⟨OB, hOB⟩ : ∃ K, (y8 && (!y6 || !decide (y7 = (d5.length : Int)))) = K := ⟨_, rfl⟩
  obtain ⟨IN, hIN⟩ : ∃ K, (inD y10 (-1) 400 && inD y11 0 dn.length) = K := ⟨_, rfl⟩
  obtain ⟨FO, hFO⟩ : ∃ K, ((decide (1 < l.length) && (y3 || decide ((l.head?.map fun x => x.2.1) = some 1))) || (y4 && decide (l.length < 2))) = K := ⟨_, rfl⟩
  have HFO : Hid _ := hFO
  have HOB : Hid _ := hOB
  have HIN : Hid _ := hIN
  have HK : Hid _ := hK
  rw [hK, hOB, hIN, hFO] at hR2
  have HR : Hid _ := hR2
  clear hR2 hK hOB hIN hFO hT HRd
  generalize gtFault (dn, ps, ()) = G at *
  generalize endsD y10 (dn, ps, ()) = E at *
  generalize subsF l = SF at *
  generalize strD y0 l = ST at *
  obtain ⟨n, hn⟩ : ∃ n, l.length = n := ⟨_, rfl⟩
  have HN : Hid (l.length = n) := hn
  rw [hn] at HX HFO hm12
  clear hn
  obtain ⟨n5, hn5⟩ : ∃ n, d5.length = n := ⟨_, rfl⟩
  rw [hn5] at HX HOB HR hm5
  obtain ⟨n9, hn9⟩ : ∃ n, dn.length = n := ⟨_, rfl⟩
  rw [hn9] at HX HIN hm9
  obtain ⟨np, hnp⟩ : ∃ n, ps.length = n := ⟨_, rfl⟩
  rw [hnp] at HX
  clear hn5 hn9 hnp
  have hb0 : Below w.heap.size w w := Below.refl _ _
  have HB : Hid _ := hb0
  clear hb0
  obtain ⟨x0, x1, x2, -, -, x5, -, -, -, -, -, -, -, -⟩ := HX.out w HB.out
  go_enter Tryz.func30, Tryz.ntmps30
  go_upto_region 1 with fail
  go_cut [34] (fun u wx => u = .bool (!K) ∧ wx = w)
  case first =>
    as_aux_lemma =>
    have hK := HK.out
    clear HR HX HEND HSUB HGT HH HSOME HHD HST1 HST0 HFO HOB HIN HK
    cases h0 : inD y0 0 1 with
    | false =>
      rw [h0] at hK
      subst hK
      go_wp2_with (first | (go_at_call 29; refine (sInD _ _ _ _).mono ?_; rintro e w' ⟨rfl, hw⟩; subst w') | (go_at_call 50; refine (sKeyD _ _).mono ?_; rintro e w' ⟨rfl, hw⟩; subst w'))
      go_meet
      exact ⟨rfl, rfl⟩
    | true =>
      cases h1 : keyD y1 with
      | false =>
        rw [h0, h1] at hK
        subst hK
        go_wp2_with (first | (go_at_call 29; refine (sInD _ _ _ _).mono ?_; rintro e w' ⟨rfl, hw⟩; subst w') | (go_at_call 50; refine (sKeyD _ _).mono ?_; rintro e w' ⟨rfl, hw⟩; subst w'))
        go_meet
        exact ⟨rfl, rfl⟩
      | true =>
        rw [h0, h1] at hK
        by_cases h2 : y2 = 0
        · have h2' : (y2 != 0) = false := by simp [h2]
          rw [decide_eq_true h2] at hK
          subst hK
          clear h2
          go_wp2_with (first | (go_at_call 29; refine (sInD _ _ _ _).mono ?_; rintro e w' ⟨rfl, hw⟩; subst w') | (go_at_call 50; refine (sKeyD _ _).mono ?_; rintro e w' ⟨rfl, hw⟩; subst w'))
          go_meet
          exact ⟨rfl, rfl⟩
        · have h2' : (y2 != 0) = true := by simp [h2]
          rw [decide_eq_false h2] at hK
          clear h2
          cases h3 : keyD y2 with
          | false =>
            rw [h3] at hK
            subst hK
            go_wp2_with (first | (go_at_call 29; refine (sInD _ _ _ _).mono ?_; rintro e w' ⟨rfl, hw⟩; subst w') | (go_at_call 50; refine (sKeyD _ _).mono ?_; rintro e w' ⟨rfl, hw⟩; subst w'))
            go_meet
            exact ⟨rfl, rfl⟩
          | true =>
            rw [h3] at hK
            subst hK
            go_wp2_with (first | (go_at_call 29; refine (sInD _ _ _ _).mono ?_; rintro e w' ⟨rfl, hw⟩; subst w') | (go_at_call 50; refine (sKeyD _ _).mono ?_; rintro e w' ⟨rfl, hw⟩; subst w'))
            go_meet
            exact ⟨rfl, rfl⟩
  case rest =>
  rename World => wx
  obtain ⟨rfl, hw⟩ := hcut
  subst wx
  clear x0 x1 x2
  as_aux_lemma =>
  cases K with
  | false =>
    have hR : R = 3 := by rw [HR.out, if_pos rfl]
    subst hR
    go_wp2_with fail
    go_ret
    exact ⟨rfl, HB.out⟩
  | true =>
  have hI01 : inD y0 0 1 = true := by have h := HK.out; simp only [Bool.and_eq_true] at h; exact h.1.1
  have HI01 : Hid _ := inD_yes hI01
  have hRx := HR.out
  rw [if_neg (by simp)] at hRx
  replace HR : Hid _ := hRx
  clear hRx
  clear HK hI01
  by_cases h5 : 300 < n5
  · have hR : R = 2 := by rw [HR.out, if_pos h5]
    subst hR
    go_wp2_with fail
    go_ret
    exact ⟨rfl, HB.out⟩
  have hRx := HR.out
  rw [if_neg h5] at hRx
  replace HR : Hid _ := hRx
  clear hRx
  go_upto_region 5 with fail
  clear x5
  obtain ⟨-, -, -, -, -, x5, -, x7, -, -, -, -, -, -⟩ := HX.out w HB.out
  go_cut [51] (fun u wx => u = .bool (!inD y7 0 n5) ∧ Below w.heap.size w wx)
  case first =>
    as_aux_lemma =>
    clear HR HX HEND HSUB HGT HH HSOME HHD HST1 HST0 HFO HOB HIN HI01
    go_quiet ((first | (go_at_call 29; exact Calls.quiet_of_same (sInD _ _ _ _))))
    go_wp2_with fail
    go_meet
    exact ⟨rfl, by have h := HB.out; first | exact h | exact below_drewN h _ | go_grown⟩
  case rest =>
  rename World => w1
  obtain ⟨rfl, hb⟩ := hcut
  replace HB : Hid _ := hb
  clear hb x5 x7
  as_aux_lemma =>
  cases h7 : inD y7 0 n5 with
  | false =>
    have hR : R = 3 := by rw [HR.out, if_pos h7]
    subst hR
    go_wp2_with fail
    go_ret
    exact ⟨rfl, HB.out⟩
  | true =>
  have hRx := HR.out
  rw [if_neg (by simp [h7])] at hRx
  replace HR : Hid _ := hRx
  clear hRx
  go_upto_region 7 with fail
  obtain ⟨-, -, -, -, -, x5, x6, x7, x8, -, -, -, -, -⟩ := HX.out _ HB.out
  go_cut [74] (fun u wx => u = .bool OB ∧ Below w.heap.size w wx)
  case first =>
    as_aux_lemma =>
    have hOB := HOB.out
    clear HR HX HEND HSUB HGT HH HSOME HHD HST1 HST0 HFO HOB HIN HI01
    cases y8 with
    | false =>
      subst hOB
      go_quiet (fail)
      go_wp2_with fail
      go_meet
      exact ⟨rfl, by have h := HB.out; first | exact h | exact below_drewN h _ | go_grown⟩
    | true =>
      cases y6 with
      | false =>
        subst hOB
        go_quiet (fail)
        go_wp2_with fail
        go_meet
        exact ⟨rfl, by have h := HB.out; first | exact h | exact below_drewN h _ | go_grown⟩
      | true =>
        by_cases h8 : y7 = (n5 : Int)
        · have h8' : (y7 != (n5 : Int)) = false := by simp [h8]
          rw [decide_eq_true h8] at hOB
          subst hOB
          clear h8
          go_quiet (fail)
          go_wp2_with fail
          go_meet
          exact ⟨rfl, by have h := HB.out; first | exact h | exact below_drewN h _ | go_grown⟩
        · have h8' : (y7 != (n5 : Int)) = true := by simp [h8]
          rw [decide_eq_false h8] at hOB
          subst hOB
          clear h8
          go_quiet (fail)
          go_wp2_with fail
          go_meet
          exact ⟨rfl, by have h := HB.out; first | exact h | exact below_drewN h _ | go_grown⟩
  case rest =>
  rename World => w2
  obtain ⟨rfl, hb⟩ := hcut
  replace HB : Hid _ := hb
  clear hb x5 x6 x7 x8 HOB
  as_aux_lemma =>
  cases OB with
  | true =>
    have hR : R = 1 := by rw [HR.out, if_pos rfl]
    subst hR
    go_wp2_with fail
    go_ret
    exact ⟨rfl, HB.out⟩
  | false =>
  have hRx := HR.out
  rw [if_neg (by simp)] at hRx
  replace HR : Hid _ := hRx
  clear hRx
  go_wp2_with fail
  refine (HGT.out _ HB.out).mono ?_
  rintro e w3 ⟨rfl, hb⟩
  replace HB : Hid (Below w.heap.size w w3) := HB.out.trans (hb.mono HB.out.size)
  clear hb HGT
  as_aux_lemma =>
  by_cases hG : G = 0
  case neg =>
    have hR : G = R := by rw [HR.out, if_pos hG]
    subst hR
    have hG' : (G != 0) = true := by simp [hG]
    clear HEND hG
    go_wp2_with fail
    go_ret
    exact ⟨rfl, HB.out⟩
  subst hG
  have hRx := HR.out
  rw [if_neg (by simp)] at hRx
  replace HR : Hid _ := hRx
  clear hRx
  replace HEND : Hid _ := HEND.out rfl
  go_upto_region 12 with fail
  obtain ⟨-, -, -, -, -, -, -, -, -, x9, -, x11, x12, -⟩ := HX.out _ HB.out
  go_cut [101] (fun u wx => u = .bool (!IN) ∧ Below w.heap.size w wx)
  case first =>
    as_aux_lemma =>
    have hIN := HIN.out
    clear HR HX HEND HSUB HH HSOME HHD HST1 HST0 HFO HIN HI01
    cases ha : inD y10 (-1) 400 with
    | false =>
      rw [ha] at hIN
      subst hIN
      go_quiet ((first | (go_at_call 29; exact Calls.quiet_of_same (sInD _ _ _ _))))
      go_wp2_with fail
      go_meet
      exact ⟨rfl, by have h := HB.out; first | exact h | exact below_drewN h _ | go_grown⟩
    | true =>
      rw [ha] at hIN
      cases hb : inD y11 0 n9 with
      | false =>
        rw [hb] at hIN
        subst hIN
        go_quiet ((first | (go_at_call 29; exact Calls.quiet_of_same (sInD _ _ _ _))))
        go_wp2_with fail
        go_meet
        exact ⟨rfl, by have h := HB.out; first | exact h | exact below_drewN h _ | go_grown⟩
      | true =>
        rw [hb] at hIN
        subst hIN
        go_quiet ((first | (go_at_call 29; exact Calls.quiet_of_same (sInD _ _ _ _))))
        go_wp2_with fail
        go_meet
        exact ⟨rfl, by have h := HB.out; first | exact h | exact below_drewN h _ | go_grown⟩
  case rest =>
  rename World => w4
  obtain ⟨rfl, hb⟩ := hcut
  replace HB : Hid _ := hb
  clear hb x9 x11 x12 HIN
  as_aux_lemma =>
  cases IN with
  | false =>
    have hR : R = 3 := by rw [HR.out, if_pos rfl]
    subst hR
    go_wp2_with fail
    go_ret
    exact ⟨rfl, HB.out⟩
  | true =>
  have hRx := HR.out
  rw [if_neg (by simp)] at hRx
  replace HR : Hid _ := hRx
  clear hRx
  go_wp2_with fail
  refine (HEND.out _ HB.out).mono ?_
  rintro e w5 ⟨rfl, hb⟩
  replace HB : Hid (Below w.heap.size w w5) := HB.out.trans (hb.mono HB.out.size)
  clear hb HEND
  as_aux_lemma =>
  cases E with
  | false =>
    have hR : R = 1 := by rw [HR.out, if_pos rfl]
    subst hR
    go_wp2_with fail
    go_ret
    exact ⟨rfl, HB.out⟩
  | true =>
  have hRx := HR.out
  rw [if_neg (by simp)] at hRx
  replace HR : Hid _ := hRx
  clear hRx
  go_wp2_with fail
  refine (HSUB.out _ HB.out).mono ?_
  rintro e w6 ⟨rfl, hb⟩
  replace HB : Hid (Below w.heap.size w w6) := HB.out.trans (hb.mono HB.out.size)
  clear hb HSUB
  as_aux_lemma =>
  by_cases hS : SF = 0
  case neg =>
    have hR : SF = R := by rw [HR.out, if_pos hS]
    subst hR
    have hS' : (SF != 0) = true := by simp [hS]
    clear hS
    go_wp2_with fail
    go_ret
    exact ⟨rfl, HB.out⟩
  subst hS
  have hRx := HR.out
  rw [if_neg (by simp)] at hRx
  replace HR : Hid _ := hRx
  clear hRx
  go_upto_region 19 with fail
  obtain ⟨-, -, -, x3, x4, -, -, -, -, -, -, -, -, x13⟩ := HX.out _ HB.out
  go_cut [145] (fun u wx => u = .bool FO ∧ wx = w6)
  case first =>
    as_aux_lemma =>
    have hFO := HFO.out
    have hsome := HSOME.out
    have hhd := HHD.out
    rw [HN.out] at hsome
    clear HR HX HST1 HST0 HFO HSOME HHD HI01
    by_cases h1 : 1 < n
    · obtain ⟨b, off, rfl⟩ := hsome (by omega)
      have hl0 : 0 < l.length := by have := HN.out; omega
      have q0 := HH.out b off w6 rfl HB.out 0 hl0
      rw [hhd hl0] at hFO
      rw [Nat.zero_mul, Nat.add_zero] at q0
      have h2 : ¬ n < 2 := by omega
      rw [decide_eq_true h1, decide_eq_false h2] at hFO
      have h1i : (1 : Int) < (n : Int) := by omega
      have h0i : (0 : Int) < (n : Int) := by omega
      have h2i : decide ((n : Int) < 2) = false := by simp; omega
      clear HH hsome hhd
      generalize l[0].2.1 = st at *
      cases y3 with
      | true =>
        have hF : FO = true := by rw [← hFO]; simp
        subst hF
        clear hFO
        go_wp2_with fail
        go_meet
        exact ⟨rfl, rfl⟩
      | false =>
        by_cases h3 : st = 1
        · have hF : FO = true := by rw [← hFO, h3]; simp
          have h3' : (st == 1) = true := by simp [h3]
          subst hF
          clear hFO h3
          go_wp2_with fail
          go_meet
          exact ⟨rfl, rfl⟩
        · have hF : FO = false := by rw [← hFO]; simp [h3]
          have h3' : (st == 1) = false := by simp [h3]
          subst hF
          clear hFO h3
          cases y4 with
          | true =>
            go_wp2_with fail
            go_meet
            exact ⟨rfl, rfl⟩
          | false =>
            go_wp2_with fail
            go_meet
            exact ⟨rfl, rfl⟩
    · have h2 : n < 2 := by omega
      rw [decide_eq_false h1, decide_eq_true h2] at hFO
      have hF : y4 = FO := by rw [← hFO]; simp
      subst hF
      have h1i : decide ((1 : Int) < (n : Int)) = false := by simp; omega
      have h2i : decide ((n : Int) < 2) = true := by simp; omega
      clear hFO hsome hhd HH
      cases y4 with
      | true =>
        go_wp2_with fail
        go_meet
        exact ⟨rfl, rfl⟩
      | false =>
        go_wp2_with fail
        go_meet
        exact ⟨rfl, rfl⟩
  case rest =>
  rename World => w7
  obtain ⟨rfl, hw⟩ := hcut
  subst w7
  have HSOM2 : Hid (0 < n → ∃ b off, a12 = some ⟨b, off, none⟩) := fun hk => HSOME.out (by rw [HN.out]; exact hk)
  clear x3 x4 x13 HFO HHD HSOME
  as_aux_lemma =>
  cases FO with
  | true =>
    have hR : R = 1 := by rw [HR.out, if_pos rfl]
    subst hR
    go_wp2_with fail
    go_ret
    exact ⟨rfl, HB.out⟩
  | false =>
  have hRx := HR.out
  rw [if_neg (by simp)] at hRx
  replace HR : Hid _ := hRx
  clear hRx
  have x13 := (HX.out _ HB.out).x13
  go_wp2_with fail
  go_loopw [5] (fun i wr => ∃ (k : Nat), k ≤ n ∧ i = .int .i64 k ∧ Hid (∀ j (hj : j < l.length), j < k → l[j].2.1 ≠ 2 - y0) ∧ Below w.heap.size w wr) (fun i _ => n - (intOf i).toNat)
  case atStart => exact ⟨0, Nat.zero_le _, rfl, fun j' _ h => absurd h (Nat.not_lt_zero _), HB.out⟩
  case round =>
    clear x13 HB
    obtain ⟨k, hk, rfl, HP, hbl⟩ := hrel
    obtain ⟨x0, -, -, -, -, -, -, -, -, -, -, -, -, x13⟩ := HX.out wr hbl
    have HB : Hid _ := hbl
    have hy0 := HI01.out
    by_cases hlt : k < n
    · have hkl : k < l.length := by have := HN.out; omega
      obtain ⟨b, off, rfl⟩ := HSOM2.out (by omega)
      have q1 := HH.out b off wr rfl hbl k hkl
      have HST1k : Hid (l[k].2.1 = 2 - y0 → R = 1) := fun e => by rw [HR.out, if_pos (HST1.out k hkl e)]
      have hki : (k : Int) < (n : Int) := by omega
      have hk0 : (0 : Int) ≤ (k : Int) := by omega
      have hwr : IntKind.i64.wrap (2 - y0) = 2 - y0 := by simp only [IntKind.wrap, IntKind.bits, IntKind.signed]; simp; omega
      clear hbl
      by_cases he : l[k].2.1 = 2 - y0
      · have hR := HST1k.out he
        subst hR
        have he' : (l[k].2.1 == 2 - y0) = true := by simp [he]
        clear HP HST1k HST1 HST0 he HR
        generalize l[k].2.1 = st at *
        go_upto_region 24 with fail
        go_quiet (fail)
        go_wp2_with fail
        go_ret
        exact ⟨rfl, by have h := HB.out; first | exact h | exact below_drewN h _ | go_grown⟩
      · have HP2 : Hid (∀ j (hj : j < l.length), j < k + 1 → l[j].2.1 ≠ 2 - y0) := fun j hj hlt' => by
          by_cases e : j = k
          · subst e; exact he
          · exact HP.out j hj (by omega)
        have he' : (l[k].2.1 == 2 - y0) = false := by simp [he]
        clear HP HST1k he
        go_upto_region 24 with fail
        go_quiet (fail)
        go_wp2_with fail
        go_roundw
        case rel => exact ⟨k + 1, by omega, by go_num, HP2, by have h := HB.out; first | exact h | exact below_drewN h _ | go_grown⟩
        case measure => simp [intOf]; omega
    · obtain rfl : k = n := by omega
      have hR : R = 0 := by rw [HR.out, if_neg (by simp [HST0.out (fun j hj => HP.out j hj (by have := HN.out; omega))])]
      subst hR
      clear HP HR
      go_wp2_with fail
      go_ret
      exact ⟨rfl, hbl⟩
end Go.Proofs.YtfpemobkkfobkaaGreatDoor

/- What the model says of a conn: its fault, where a path stands, how far it has come; nothing that was in memory turns; no condition but that there are at most a million parts. -/
namespace Go.Proofs.YtfpemobkkfobkaaGreatDoor
open Go.RowKit
set_option linter.unusedVariables false
set_option maxRecDepth 8000

end Go.Proofs.YtfpemobkkfobkaaGreatDoor
