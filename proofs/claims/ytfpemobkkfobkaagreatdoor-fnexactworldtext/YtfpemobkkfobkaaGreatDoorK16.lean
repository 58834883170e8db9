/- What the program says of a conn's fault; nothing that was in memory turns; no condition but that there are at most a million parts. -/
import Derived.Test.YtfpemobkkfobkaaGreatDoorRows
import Derived.Deep.RegionHeld3
import Derived.Deep.DeepCutAuto
import Derived.Deep.CutRange
import Derived.Deep.QuietTactic
import Derived.BigQuiet
import Derived.Test.YtfpemobkkfobkaaGreatDoorK01
import Derived.Test.YtfpemobkkfobkaaGreatDoorK02
import Derived.Test.YtfpemobkkfobkaaGreatDoorK03
import Derived.Test.YtfpemobkkfobkaaGreatDoorK04
import Derived.Test.YtfpemobkkfobkaaGreatDoorK05
import Derived.Test.YtfpemobkkfobkaaGreatDoorK07
import Derived.Test.YtfpemobkkfobkaaGreatDoorK08
import Derived.Test.YtfpemobkkfobkaaGreatDoorK09
import Derived.Test.YtfpemobkkfobkaaGreatDoorK10
import Derived.Test.YtfpemobkkfobkaaGreatDoorK11
import Derived.Test.YtfpemobkkfobkaaGreatDoorK12
import Derived.Test.YtfpemobkkfobkaaGreatDoorK14
import Derived.Test.YtfpemobkkfobkaaGreatDoorK15
namespace Go.Proofs.YtfpemobkkfobkaaGreatDoor
open Go.RowKit
set_option linter.unusedVariables false
set_option maxRecDepth 8000

theorem iStrange (s : Int) (w : World) : Calls Tryz.prog 104 #[.int .i64 s] w fun e w' => e = .returned (.int .i64 (if s = 0 then 2 else 1)) ∧ w' = w := by
  by_cases h : s = 0
  · rw [if_pos h]
    have h' : (s == 0) = true := by simp [h]
    clear h
    go_enter Tryz.func104, Tryz.ntmps104
    go_wp2_with fail
    go_ret
    exact ⟨rfl, rfl⟩
  · rw [if_neg h]
    have h' : (s == 0) = false := by simp [h]
    clear h
    go_enter Tryz.func104, Tryz.ntmps104
    go_wp2_with fail
    go_ret
    exact ⟨rfl, rfl⟩
set_option maxHeartbeats 1000000 in
theorem iFits1 (A : Array Value) (st s : Int) (cb : Nat) (w : World) (a1 : A[1]? = some (.int .i64 st)) (hc : w.cell? ⟨cb, 0, none⟩ = some (.int .i64 s)) :
    Calls Tryz.prog 103 #[.agg A, .pointer (some ⟨cb, 0, none⟩)] w fun e w' => e = .returned (.bool (decide (st = if s = 0 then 2 else 1))) ∧ Below w.heap.size w w' := by
  have hlt : cb < w.heap.size := cell_lt hc
  have HC : Hid (∀ W, Calls Tryz.prog 104 #[.int .i64 s] W fun e w' => e = .returned (.int .i64 (if s = 0 then 2 else 1)) ∧ w' = W) := fun W => iStrange s W
  generalize (if s = 0 then (2 : Int) else 1) = t at *
  by_cases h : st = t
  · rw [decide_eq_true h]
    have h' : (st == t) = true := by simp [h]
    clear h
    go_enter Tryz.func103, Tryz.ntmps103
    go_upto_region 1 with fail
    go_quiet ((first | (go_at_call 104; exact Calls.quiet_of_same (HC.out _))))
    go_wp2_with fail
    go_ret
    exact ⟨rfl, below_drewN ((Below.refl _ _).alloc (Nat.le_refl _) _) _⟩
  · rw [decide_eq_false h]
    have h' : (st == t) = false := by simp [h]
    clear h
    go_enter Tryz.func103, Tryz.ntmps103
    go_upto_region 1 with fail
    go_quiet ((first | (go_at_call 104; exact Calls.quiet_of_same (HC.out _))))
    go_wp2_with fail
    go_ret
    exact ⟨rfl, below_drewN ((Below.refl _ _).alloc (Nat.le_refl _) _) _⟩
theorem sb_cells {w : World} {B : Nat} {l : List DSub} {a : Option Addr} {n cap : Nat} (h : shSubs.Rd w B l [.slice a n cap]) (hn : l.length = n) :
    ∃ VS : Fin n → List Value, SbCells w B a n VS ∧ ∀ k : Fin n, ∃ hk : k.1 < l.length, (VS k)[1]? = some (.int .i64 l[k.1].2.1) := by
  have h1 : ∀ k : Fin n, ∃ cs : List Value, (∃ b off, a = some ⟨b, off, none⟩ ∧ b < B ∧ w.rangeAt b (off + k.1 * 16) cs ∧ cs.length = 16 ∧ ∀ v ∈ cs, v.oneCell' = true) ∧ ∃ hk : k.1 < l.length, cs[1]? = some (.int .i64 l[k.1].2.1) := fun k => by
    have hk : k.1 < l.length := by have := k.2; omega
    obtain ⟨b, off, cs, ha, hb, hl, hrg, hr, -⟩ := sub_at h k.1 hk
    obtain ⟨u, v, e, -⟩ := rd_Sub hr
    exact ⟨cs, ⟨b, off, ha, hb, hrg, hl, rd_one _ _ _ hr⟩, hk, by rw [e]; rfl⟩
  obtain ⟨f, hf⟩ := Classical.axiomOfChoice h1
  exact ⟨f, ⟨fun k => (hf k).1⟩, fun k => (hf k).2⟩
theorem SbCells.mono {W : World} {n₀ n₁ : Nat} {a : Option Addr} {len : Nat} {VS : Fin len → List Value} (h : SbCells W n₀ a len VS) (hb : n₀ ≤ n₁) : SbCells W n₁ a len VS := ⟨fun k => by
  obtain ⟨b, off, ha, hlt, r⟩ := h.at_ k
  exact ⟨b, off, ha, Nat.lt_of_lt_of_le hlt hb, r⟩⟩
set_option maxHeartbeats 2000000 in
theorem iFitsSubs (A : Array Value) (y0 : Int) (y3 y4 : Bool) (l : List DSub) (a12 : Option Addr) (n c12 : Nat) (a0 : A[0]? = some (.int .i64 y0)) (a3 : A[3]? = some (.bool y3)) (a4 : A[4]? = some (.bool y4)) (a13 : A[13]? = some (.slice a12 n c12)) (w : World) (B : Nat)
    (hr : shSubs.Rd w B l [.slice a12 n c12]) (hB : B ≤ w.heap.size) (hn : l.length = n) (hm : n ≤ 1048576) (hs : inD y0 0 1 = true) :
    Calls Tryz.prog 78 #[.agg A] w fun e w' => e = .returned (.bool (!(((decide (1 < n) && (y3 || decide ((l.head?.map fun x => x.2.1) = some 1))) || (y4 && decide (n < 2))) || strD y0 l))) ∧ Below w.heap.size w w' := by
  have hs2 := inD_yes hs
  have hst : (if y0 = 0 then (2 : Int) else 1) = 2 - y0 := by split <;> omega
  have HHO : Hid (∀ W cb, Below w.heap.size w W → W.cell? ⟨cb, 0, none⟩ = some (.int .i64 y0) → Calls Tryz.prog 105 #[.slice a12 n c12, .func (.func 103) #[] #[.pointer (some ⟨cb, 0, none⟩)]] W fun e w' => e = .returned (.bool (strD y0 l)) ∧ Below W.heap.size W w') := fun W cb hW hc => by
    obtain ⟨VS, h1, h2⟩ := sb_cells (Sh.Rd.below (s := shSubs) hr hB hW) hn
    have hcb : cb < W.heap.size := cell_lt hc
    refine iHasOneS a12 n c12 hm VS 103 (enters_of Tryz.func103 (by kernel_rfl) rfl) #[.pointer (some ⟨cb, 0, none⟩)] (fun k => decide ((l[k.1]'(by have := k.2; omega)).2.1 = 2 - y0)) _ W (fun h => ?_) (fun h i => ?_) (h1.mono (Nat.le_trans hB hW.size)) (fun W' k hW' => ?_)
    · obtain ⟨x, hx, hp⟩ := List.any_eq_true.1 h
      obtain ⟨j, hj, rfl⟩ := List.getElem_of_mem hx
      exact ⟨⟨j, by omega⟩, hp⟩
    · have hi : i.1 < l.length := by have := i.2; omega
      cases hd : decide (l[i.1].2.1 = 2 - y0) with
      | false => rfl
      | true =>
        have : strD y0 l = true := List.any_eq_true.2 ⟨l[i.1], List.getElem_mem hi, hd⟩
        rw [this] at h; cases h
    · obtain ⟨hk, e⟩ := h2 k
      have := iFits1 (VS k).toArray l[k.1].2.1 y0 cb W' (by rw [List.getElem?_toArray]; exact e) ((hW'.cell (p := ⟨cb, 0, none⟩) hcb).trans hc)
      rw [hst] at this
      exact this
  have HH : Hid (∀ b off W, a12 = some ⟨b, off, none⟩ → Below w.heap.size w W → 0 < n → ∃ st, W.cell? ⟨b, off + 1, none⟩ = some (.int .i64 st) ∧ l.head?.map (fun x => x.2.1) = some st) := fun b off W e hW hk => by
    have hk' : 0 < l.length := by omega
    have h2 := Sh.Rd.below (s := shSubs) hr hB hW
    rw [e] at h2
    obtain ⟨cs, -, -, -, -, -, q, -⟩ := sub_at2 h2 0 hk'
    rw [Nat.zero_mul, Nat.add_zero] at q
    exact ⟨_, q, by rw [List.head?_eq_getElem?, List.getElem?_eq_getElem hk']; rfl⟩
  have HSOME : Hid (0 < n → ∃ b off, a12 = some ⟨b, off, none⟩) := fun hk => by
    obtain ⟨b, off, _, ha, _⟩ := sub_at hr 0 (by omega)
    exact ⟨b, off, ha⟩
  have hmf : ∀ (fn : Fn) (first cap : Array Value) (w : World), (Instr.makeFunc fn first cap).run Tryz.prog w = .ok (.func fn first cap) w := fun _ _ _ _ => rfl
  clear hr hst hs hs2 hn
  generalize strD y0 l = ST at *
  by_cases h1 : 1 < n
  · obtain ⟨b, off, rfl⟩ := HSOME.out (by omega)
    obtain ⟨st, q0, hhd⟩ := HH.out b off (w.alloc (.cells A 79)) rfl ((Below.refl _ _).alloc (Nat.le_refl _) _) (by omega)
    rw [hhd, decide_eq_true h1, decide_eq_false (by omega : ¬ n < 2)]
    have h1i : decide ((1 : Int) < (n : Int)) = true := by simp; omega
    have h0i : (0 : Int) < (n : Int) := by omega
    clear HH HSOME hhd
    cases y3 with
    | true =>
      simp only [Bool.true_or, Bool.and_self, Bool.not_true]
      go_enter Tryz.func78, Tryz.ntmps78
      go_wp2_with fail
      go_ret
      exact ⟨rfl, by go_grown⟩
    | false =>
      by_cases h3 : st = 1
      · have h3' : (st == 1) = true := by simp [h3]
        have hE : (!(true && (false || decide (some st = some 1)) || y4 && false || ST)) = false := by simp [h3]
        rw [hE]
        clear h3 hE
        go_enter Tryz.func78, Tryz.ntmps78
        go_wp2_with fail
        go_ret
        exact ⟨rfl, by go_grown⟩
      · have h3' : (st == 1) = false := by simp [h3]
        have hE : (!(true && (false || decide (some st = some 1)) || y4 && false || ST)) = !ST := by simp [h3]
        rw [hE]
        clear h3 hE
        cases y4 with
        | true =>
          go_enter Tryz.func78, Tryz.ntmps78
          go_wp2_with fail
          refine (HHO.out _ w.heap.size (by go_grown) (by simp [go_sem, a0])).mono ?_
          rintro e w1 ⟨rfl, hb⟩
          go_wp2_with fail
          go_ret
          exact ⟨rfl, (bl_new hb).1⟩
        | false =>
          go_enter Tryz.func78, Tryz.ntmps78
          go_wp2_with fail
          refine (HHO.out _ w.heap.size (by go_grown) (by simp [go_sem, a0])).mono ?_
          rintro e w1 ⟨rfl, hb⟩
          go_wp2_with fail
          go_ret
          exact ⟨rfl, (bl_new hb).1⟩
  · rw [decide_eq_false h1, decide_eq_true (by omega : n < 2)]
    have h1i : decide ((1 : Int) < (n : Int)) = false := by simp; omega
    clear HH HSOME
    cases y4 with
    | true =>
      simp only [Bool.false_and, Bool.false_or, Bool.true_and, Bool.true_or, Bool.not_true]
      go_enter Tryz.func78, Tryz.ntmps78
      go_wp2_with fail
      go_ret
      exact ⟨rfl, by go_grown⟩
    | false =>
      simp only [Bool.false_and, Bool.false_or]
      go_enter Tryz.func78, Tryz.ntmps78
      go_wp2_with fail
      refine (HHO.out _ w.heap.size (by go_grown) (by simp [go_sem, a0])).mono ?_
      rintro e w1 ⟨rfl, hb⟩
      go_wp2_with fail
      go_ret
      exact ⟨rfl, (bl_new hb).1⟩
set_option maxHeartbeats 2000000 in
theorem iConnFault (c : DConn) (A : Array Value) (w : World) (B : Nat) (hr : shConn.Rd w B c A.toList) (hB : B ≤ w.heap.size) (hT : totConn c ≤ 1048576) :
    Calls Tryz.prog 58 #[.agg A] w fun e w' => e = .returned (.int .i64 (connF c)) ∧ Below w.heap.size w w' := by
  have hz : A.size = 14 := rd_size hr
  obtain ⟨y0, y1, y2, y3, y4, d5, y6, y7, y8, ⟨dn, ps, ⟨⟩⟩, y10, y11, l, ⟨⟩⟩ := c
  obtain ⟨a5x, c5, a9x, c9, a9y, c9', a12, c12, eA, -, r9, r12, -⟩ := rd_Conn hr
  have hT2 : d5.length + (dn.length + pcsTot ps) + totSubs l ≤ 1048576 := hT
  have a0 : A[0]? = some (.int .i64 y0) := get_of eA 0
  have a1 : A[1]? = some (.int .i64 y1) := get_of eA 1
  have a2 : A[2]? = some (.int .i64 y2) := get_of eA 2
  have a3 : A[3]? = some (.bool y3) := get_of eA 3
  have a4 : A[4]? = some (.bool y4) := get_of eA 4
  have a5 : A[5]? = some (.slice a5x d5.length c5) := get_of eA 5
  have a6 : A[6]? = some (.bool y6) := get_of eA 6
  have a7 : A[7]? = some (.int .i64 y7) := get_of eA 7
  have a8 : A[8]? = some (.bool y8) := get_of eA 8
  have a9 : A[9]? = some (.slice a9x dn.length c9) := get_of eA 9
  have a10 : A[10]? = some (.slice a9y ps.length c9') := get_of eA 10
  have a11 : A[11]? = some (.int .i64 y10) := get_of eA 11
  have a12' : A[12]? = some (.int .i64 y11) := get_of eA 12
  have a13 : A[13]? = some (.slice a12 l.length c12) := get_of eA 13
  have hmp : ps.length ≤ 1048576 := by unfold pcsTot at hT2; omega
  have hml : l.length ≤ 1048576 := by unfold totSubs at hT2; omega
  have H1 : Hid (∀ W, Calls Tryz.prog 74 #[.agg A] W fun e w' => e = .returned (.int .i64 (if (inD y0 0 1 && keyD y1 && (decide (y2 = 0) || keyD y2)) = true then 0 else 3)) ∧ Below W.heap.size W w') := fun W => iKeysFault A y0 y1 y2 a0 a1 a2 W
  have H2 : Hid (∀ W, Calls Tryz.prog 75 #[.agg A] W fun e w' => e = .returned (.int .i64 (outF d5.length y6 y7 y8)) ∧ Below W.heap.size W w') := fun W => iOutFault A d5.length a5x c5 y6 y7 y8 a5 a6 a7 a8 (by omega) W
  have H3 : Hid (∀ W, Below w.heap.size w W → Calls Tryz.prog 76 #[.agg A] W fun e w' => e = .returned (.int .i64 (inF (dn, ps, ()) y10 y11)) ∧ Below W.heap.size W w') := fun W hW => iInFault A (dn, ps, ()) a9x dn.length c9 a9y ps.length c9' y10 y11 a9 a10 a11 a12' hz W B (Sh.Rd.below (s := gtS) r9 hB hW) (Nat.le_trans hB hW.size) rfl (by omega) hmp
  have H4 : Hid (∀ W, Below w.heap.size w W → Calls Tryz.prog 77 #[.slice a12 l.length c12] W fun e w' => e = .returned (.int .i64 (subsF l)) ∧ Below W.heap.size W w') := fun W hW => iSubsFault l a12 l.length c12 W B (Sh.Rd.below (s := shSubs) r12 hB hW) (Nat.le_trans hB hW.size) rfl (by omega)
  have H5 : Hid (inD y0 0 1 = true → ∀ W, Below w.heap.size w W → Calls Tryz.prog 78 #[.agg A] W fun e w' => e = .returned (.bool (!(((decide (1 < l.length) && (y3 || decide ((l.head?.map fun x => x.2.1) = some 1))) || (y4 && decide (l.length < 2))) || strD y0 l))) ∧ Below W.heap.size W w') := fun hs W hW => iFitsSubs A y0 y3 y4 l a12 l.length c12 a0 a3 a4 a13 W B (Sh.Rd.below (s := shSubs) r12 hB hW) (Nat.le_trans hB hW.size) rfl hml hs
  obtain ⟨R, hR⟩ : ∃ R, R = connF (y0, y1, y2, y3, y4, d5, y6, y7, y8, (dn, ps, ()), y10, y11, l, ()) := ⟨_, rfl⟩
  rw [← hR]
  have hR2 : R = if (inD y0 0 1 && keyD y1 && (decide (y2 = 0) || keyD y2)) = false then 3 else if 300 < d5.length then 2 else if inD y7 0 d5.length = false then 3 else if (y8 && (!y6 || !decide (y7 = (d5.length : Int)))) = true then 1 else if gtFault (dn, ps, ()) ≠ 0 then gtFault (dn, ps, ())
    else if (inD y10 (-1) 400 && inD y11 0 dn.length) = false then 3 else if endsD y10 (dn, ps, ()) = false then 1 else if subsF l ≠ 0 then subsF l else if ((decide (1 < l.length) && (y3 || decide ((l.head?.map fun x => x.2.1) = some 1))) || (y4 && decide (l.length < 2))) = true then 1 else if strD y0 l = true then 1 else 0 := hR
  have hR3 : R = if (inD y0 0 1 && keyD y1 && (decide (y2 = 0) || keyD y2)) = false then 3 else if outF d5.length y6 y7 y8 ≠ 0 then outF d5.length y6 y7 y8 else if inF (dn, ps, ()) y10 y11 ≠ 0 then inF (dn, ps, ()) y10 y11 else if subsF l ≠ 0 then subsF l
      else if (!(((decide (1 < l.length) && (y3 || decide ((l.head?.map fun x => x.2.1) = some 1))) || (y4 && decide (l.length < 2))) || strD y0 l)) = false then 1 else 0 := by
    rw [hR2]
    unfold outF inF
    generalize (inD y0 0 1 && keyD y1 && (decide (y2 = 0) || keyD y2)) = K
    generalize (y8 && (!y6 || !decide (y7 = (d5.length : Int)))) = OB
    generalize ((decide (1 < l.length) && (y3 || decide ((l.head?.map fun x => x.2.1) = some 1))) || (y4 && decide (l.length < 2))) = FO
    generalize strD y0 l = ST
    generalize inD y7 0 d5.length = I7
    show _ = if K = false then 3 else if (if 300 < d5.length then (2 : Int) else _) ≠ 0 then _ else if (if gtFault (dn, ps, ()) ≠ 0 then gtFault (dn, ps, ()) else if (inD y10 (-1) 400 && inD y11 0 dn.length) = false then 3 else if endsD y10 (dn, ps, ()) = false then 1 else 0) ≠ 0 then _ else _
    generalize gtFault (dn, ps, ()) = G
    generalize (inD y10 (-1) 400 && inD y11 0 dn.length) = IN
    generalize endsD y10 (dn, ps, ()) = E
    by_cases h5 : 300 < d5.length
    · cases K <;> simp [h5]
    · by_cases hG : G = 0
      · cases K <;> cases I7 <;> cases OB <;> cases IN <;> cases E <;> cases FO <;> cases ST <;> simp [h5, hG]
      · cases K <;> cases I7 <;> cases OB <;> simp [h5, hG]
  have HR : Hid _ := hR3
  have HK : Hid ((inD y0 0 1 && keyD y1 && (decide (y2 = 0) || keyD y2)) = true → inD y0 0 1 = true) := fun h => by simp only [Bool.and_eq_true] at h; exact h.1.1
  have HI : Hid ((Tryz.prog.info? 79).map (·.size) = some A.toList.length) := by show _ = _; rw [Array.length_toList, hz]; exact (by kernel_rfl : (Tryz.prog.info? 79).map (·.size) = some 14)
  have HRGX : Hid (∀ W : World, (∀ o, W.cell? ⟨w.heap.size, o, none⟩ = A[o]?) → Hid (W.rangeAt w.heap.size 0 A.toList)) := fun W hk => bx_range hk
  clear hr hR hR2 hR3 hT hT2 eA r9 r12 hz a0 a1 a2 a3 a4 a5 a6 a7 a8 a9 a10 a11 a12' hB hmp
  generalize (inD y0 0 1 && keyD y1 && (decide (y2 = 0) || keyD y2)) = K at *
  generalize outF d5.length y6 y7 y8 = FO at *
  generalize inF (dn, ps, ()) y10 y11 = FI at *
  generalize subsF l = FS at *
  generalize (((decide (1 < l.length) && (y3 || decide ((l.head?.map fun x => x.2.1) = some 1))) || (y4 && decide (l.length < 2))) || strD y0 l) = FF at *
  generalize l.length = n at *
  go_enter Tryz.func58, Tryz.ntmps58
  go_upto_region 1 with fail
  have k0 : ∀ o, (w.alloc (.cells A 79)).cell? ⟨w.heap.size, o, none⟩ = A[o]? := bx_al w A _
  have HRG := HRGX.out _ k0
  go_wp2_with (refine wpList_load_mid rfl 79 _ rfl _ _ (by rfl) A.toList _ HRG.out Tryz.underlying79 rfl HI.out ?_)
  refine (H1.out _).mono ?_
  rintro e w1 ⟨rfl, hb⟩
  replace k0 := bx_new hb
  obtain ⟨hb, z0⟩ := bl_new hb
  have HB : Hid (Below w.heap.size w w1) := hb
  replace HRG := HRGX.out _ k0
  clear hb H1
  cases K with
  | false =>
    have hR : R = 3 := by rw [HR.out, if_pos rfl]
    subst hR
    go_wp2_with fail
    go_ret
    exact ⟨rfl, HB.out⟩
  | true =>
  have hI := HK.out rfl
  have H6 : Hid _ := H5.out hI
  have hRx := HR.out
  rw [if_neg (by simp)] at hRx
  replace HR : Hid _ := hRx
  clear hI HK H5 hRx
  go_wp2_with (refine wpList_load_mid rfl 79 _ rfl _ _ (by rfl) A.toList _ HRG.out Tryz.underlying79 rfl HI.out ?_)
  refine (H2.out _).mono ?_
  rintro e w2 ⟨rfl, hb⟩
  replace k0 := bx_below k0 z0 hb
  replace z0 := Nat.lt_of_lt_of_le z0 hb.size
  replace HRG := HRGX.out _ k0
  replace HB : Hid _ := HB.out.trans (hb.mono HB.out.size)
  clear hb
  clear H2
  by_cases h2 : FO = 0
  case neg =>
    have hR : FO = R := by rw [HR.out, if_pos h2]
    subst hR
    have h2' : (FO != 0) = true := by simp [h2]
    clear h2
    go_wp2_with fail
    go_ret
    exact ⟨rfl, HB.out⟩
  subst h2
  have hRx := HR.out
  rw [if_neg (by simp)] at hRx
  replace HR : Hid _ := hRx
  clear hRx
  go_wp2_with (refine wpList_load_mid rfl 79 _ rfl _ _ (by rfl) A.toList _ HRG.out Tryz.underlying79 rfl HI.out ?_)
  refine (H3.out _ HB.out).mono ?_
  rintro e w3 ⟨rfl, hb⟩
  replace k0 := bx_below k0 z0 hb
  replace z0 := Nat.lt_of_lt_of_le z0 hb.size
  replace HRG := HRGX.out _ k0
  replace HB : Hid _ := HB.out.trans (hb.mono HB.out.size)
  clear hb
  clear H3
  by_cases h3 : FI = 0
  case neg =>
    have hR : FI = R := by rw [HR.out, if_pos h3]
    subst hR
    have h3' : (FI != 0) = true := by simp [h3]
    clear h3
    go_wp2_with fail
    go_ret
    exact ⟨rfl, HB.out⟩
  subst h3
  have hRx := HR.out
  rw [if_neg (by simp)] at hRx
  replace HR : Hid _ := hRx
  clear hRx
  go_wp2_with fail
  refine (H4.out _ HB.out).mono ?_
  rintro e w4 ⟨rfl, hb⟩
  replace k0 := bx_below k0 z0 hb
  replace z0 := Nat.lt_of_lt_of_le z0 hb.size
  replace HRG := HRGX.out _ k0
  replace HB : Hid _ := HB.out.trans (hb.mono HB.out.size)
  clear hb
  clear H4
  by_cases h4 : FS = 0
  case neg =>
    have hR : FS = R := by rw [HR.out, if_pos h4]
    subst hR
    have h4' : (FS != 0) = true := by simp [h4]
    clear h4
    go_wp2_with fail
    go_ret
    exact ⟨rfl, HB.out⟩
  subst h4
  have hRx := HR.out
  rw [if_neg (by simp)] at hRx
  replace HR : Hid _ := hRx
  clear hRx
  go_wp2_with (refine wpList_load_mid rfl 79 _ rfl _ _ (by rfl) A.toList _ HRG.out Tryz.underlying79 rfl HI.out ?_)
  refine (H6.out _ HB.out).mono ?_
  rintro e w5 ⟨rfl, hb⟩
  replace k0 := bx_below k0 z0 hb
  replace z0 := Nat.lt_of_lt_of_le z0 hb.size
  replace HRG := HRGX.out _ k0
  replace HB : Hid _ := HB.out.trans (hb.mono HB.out.size)
  clear hb
  clear H6
  cases FF with
  | true =>
    have hR : R = 1 := by rw [HR.out]; rfl
    subst hR
    go_wp2_with fail
    go_ret
    exact ⟨rfl, HB.out⟩
  | false =>
    have hR : R = 0 := by rw [HR.out]; rfl
    subst hR
    go_wp2_with fail
    go_ret
    exact ⟨rfl, HB.out⟩
end Go.Proofs.YtfpemobkkfobkaaGreatDoor
