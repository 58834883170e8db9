/- ReadConn by program and model; the answer owns its memory; nothing that was in memory turns; no condition but that there are at most a million parts and errors' own variable is as it is laid. Written by mkread9.py. -/
import Derived.Test.YtmpbejckggnfaaaGreatDoorRows
import Derived.Deep.RegionHeld3
import Derived.Deep.DeepCutAuto
import Derived.Deep.DeepMust
import Derived.Deep.MidRow
import Derived.Test.YtmpbejckggnfaaaGreatDoorK01
import Derived.Test.YtmpbejckggnfaaaGreatDoorK02
import Derived.Test.YtmpbejckggnfaaaGreatDoorK03
import Derived.Test.YtmpbejckggnfaaaGreatDoorK04
import Derived.Test.YtmpbejckggnfaaaGreatDoorK09
import Derived.Test.YtmpbejckggnfaaaGreatDoorK10
import Derived.Test.YtmpbejckggnfaaaGreatDoorK11
import Derived.Test.YtmpbejckggnfaaaGreatDoorK12
import Derived.Test.YtmpbejckggnfaaaGreatDoorK13
import Derived.Test.YtmpbejckggnfaaaGreatDoorK16
import Derived.Test.YtmpbejckggnfaaaGreatDoorK17
import Derived.Test.YtmpbejckggnfaaaGreatDoorK18
import Derived.Test.YtmpbejckggnfaaaGreatDoorK19
import Derived.Test.YtmpbejckggnfaaaGreatDoorK20
import Derived.Test.YtmpbejckggnfaaaGreatDoorK21
import Derived.Test.YtmpbejckggnfaaaGreatDoorK25
import Derived.Test.YtmpbejckggnfaaaGreatDoorK30
import Derived.Test.YtmpbejckggnfaaaGreatDoorK31
import Derived.Test.YtmpbejckggnfaaaGreatDoorK32
import Derived.Test.YtmpbejckggnfaaaGreatDoorK33
namespace Go.Proofs.YtmpbejckggnfaaaGreatDoor
open Go.RowKit
set_option linter.unusedVariables false
set_option maxRecDepth 8000

/-- Up to where is read. -/
def redE (c : DConn) (n : Int) : Int := if c.given + n ≤ (c.inn.1.length : Int) then c.given + n else (c.inn.1.length : Int)
def givC (c : DConn) (g : Int) : DConn := (c.1, c.2.1, c.2.2.1, c.2.2.2.1, c.2.2.2.2.1, c.2.2.2.2.2.1, c.2.2.2.2.2.2.1, c.2.2.2.2.2.2.2.1, c.2.2.2.2.2.2.2.2.1, c.2.2.2.2.2.2.2.2.2.1, c.2.2.2.2.2.2.2.2.2.2.1, g, c.2.2.2.2.2.2.2.2.2.2.2.2.1, ())
def redD (c : DConn) (n : Int) : List Int := (c.inn.1.take (redE c n).toNat).drop c.given.toNat
/-- What ReadConn answers. -/
def redV (c : DConn) (n : Int) : DCR := if connF c = 0 then (if inD n 0 1000 = true then (0, givC c (redE c n), [], redD c n, decide (c.finIn = redE c n), ()) else badR 3) else badR (connF c)
theorem redV_tot (c : DConn) (n : Int) : totCR (redV c n) ≤ 1048576 := by
  unfold redV
  split
  · rename_i h
    split
    · have e : totCR (0, givC c (redE c n), [], redD c n, decide (c.finIn = redE c n), ()) = totConn c + (redD c n).length := by unfold totCR totConn givC; simp [totSegms, fsum]
      have hs := conn_small h
      have hd : (redD c n).length ≤ c.inn.1.length := by unfold redD; simp; omega
      have hg := (gt_in (conn_ok h).2.2.2.2.1).1
      rw [e]; omega
    · rw [badR_tot]; omega
  · rw [badR_tot]; omega
/-- A conn that owns, by its cells; and the same with another Given. -/
theorem own_giv {w : World} {lo hi : Nat} {y0 y1 y2 : Int} {y3 y4 : Bool} {d5 : List Int} {y6 : Bool} {y7 : Int} {y8 : Bool} {d9 : Gt} {y10 y11 : Int} {d12 : List DSub} {cs : List Value} (h : Own w lo hi shConnO (y0, y1, y2, y3, y4, d5, y6, y7, y8, d9, y10, y11, d12, ()) cs) (hw : ConnWf (y0, y1, y2, y3, y4, d5, y6, y7, y8, d9, y10, y11, d12, ())) (g : Int) (hg : (Lit.int .i64 g).wf = true) : ∃ u v1 v2 s, cs = [.int .i64 y0, .int .i64 y1, .int .i64 y2, .bool y3, .bool y4, u, .bool y6, .int .i64 y7, .bool y8, v1, v2, .int .i64 y10, .int .i64 y11, s] ∧ Own w lo hi shConnO (y0, y1, y2, y3, y4, d5, y6, y7, y8, d9, y10, g, d12, ()) [.int .i64 y0, .int .i64 y1, .int .i64 y2, .bool y3, .bool y4, u, .bool y6, .int .i64 y7, .bool y8, v1, v2, .int .i64 y10, .int .i64 g, s] := by
  obtain ⟨bs, ho, hnd, hb⟩ := h
  obtain ⟨b1, b2, b3, u, v1, v2, s, e1, e2, h5, h9, h12, -⟩ := ow_ConnO ho
  obtain ⟨w0, w1, w2, w7, w10, w11⟩ := hw
  subst e1
  subst e2
  refine ⟨u, v1, v2, s, rfl, ⟨_, ?_, hnd, hb⟩⟩
  exact ⟨[], _, _, _, rfl, rfl, ⟨rfl, rfl, w0⟩, [], _, _, _, rfl, rfl, ⟨rfl, rfl, w1⟩, [], _, _, _, rfl, rfl, ⟨rfl, rfl, w2⟩, [], _, _, _, rfl, rfl, ⟨rfl, rfl⟩, [], _, _, _, rfl, rfl, ⟨rfl, rfl⟩, b1, _, [u], _, rfl, rfl, h5, [], _, _, _, rfl, rfl, ⟨rfl, rfl⟩, [], _, _, _, rfl, rfl, ⟨rfl, rfl, w7⟩, [], _, _, _, rfl, rfl, ⟨rfl, rfl⟩, b2, _, [v1, v2], _, rfl, rfl, h9, [], _, _, _, rfl, rfl, ⟨rfl, rfl, w10⟩, [], _, _, _, rfl, rfl, ⟨rfl, rfl, hg⟩, b3, [], [s], [], (List.append_nil _).symm, rfl, h12, rfl, rfl⟩
theorem own_CRd {w : World} {lo mi hi : Nat} {c : DConn} {C : List Value} {d : List Int} {v : Value} {b : Bool} (hl : lo ≤ mi) (hm : mi ≤ hi) (h : Own w lo mi shConnO c C) (hd : Own w mi hi u8s d [v]) : Own w lo hi shCR (0, c, [], d, b, ()) (.int .i64 0 :: (C ++ [.slice none 0 0, v, .bool b])) :=
  hOwnCons (hOwnInt w lo lo (by decide)) (hOwnCons h (hOwnCons (own_sg0 w mi mi) (hOwnCons hd (hOwnCons (hOwnBool w hi hi b) (hOwnNil w hi hi) (Nat.le_refl _) (Nat.le_refl _)) hm (Nat.le_refl _)) (Nat.le_refl _) hm) hl hm) (Nat.le_refl _) (Nat.le_trans hl hm)
theorem rb_cut {W : World} {a : Option Addr} {l : List Int} (h : RB W a l) (g e : Nat) (hge : g ≤ e) (hle : e ≤ l.length) : RB W (a.map fun x => x.add g) ((l.take e).drop g) := by
  refine ⟨fun x hx => h.bd x (List.mem_of_mem_take (List.mem_of_mem_drop hx)), ?_⟩
  rcases h.mem with e1 | ⟨b, off, rfl, hc⟩
  · subst e1; exact Or.inl (by simp)
  · refine Or.inr ⟨b, off + g, ?_, fun i hi => ?_⟩
    · simp only [Option.map, Addr.add]
      split
      · rename_i h0; subst h0; rfl
      · rfl
    · have hi2 : i + g < e := by simp at hi; omega
      rw [show off + g + i = off + (g + i) by omega, hc (g + i) (by omega), List.getD_eq_getElem?_getD, List.getD_eq_getElem?_getD, List.getElem?_drop, List.getElem?_take_of_lt (by omega)]
theorem cut_len (l : List Int) (g e : Nat) (hle : e ≤ l.length) : ((l.take e).drop g).length = e - g := by simp; omega
theorem cut_nil (l : List Int) (g e : Nat) (h : e ≤ g) : (l.take e).drop g = [] := by apply List.drop_eq_nil_of_le; simp; omega
theorem iMayReadC (A : Array Value) (n C : Int) (hC : C ≠ 0) (w : World) (hA : A.size = 14) (HF : ∀ W, Below w.heap.size w W → Calls Tryz.prog 48 #[.agg A] W fun e w' => e = .returned (.int .i64 C) ∧ Below W.heap.size W w') :
    Calls Tryz.prog 80 #[.agg A, .int .i64 n] w fun e w' => e = .returned (.iface 128 (.agg #[.int .i64 C])) ∧ Below w.heap.size w w' := by
  have hC' : (C != 0) = true := by simp [hC]
  have HFX : Hid _ := HF
  clear hC HF
  have HRGX : Hid (∀ W : World, (∀ o, W.cell? ⟨w.heap.size, o, none⟩ = A[o]?) → Hid (W.rangeAt w.heap.size 0 A.toList)) := fun W hk => bx_range hk
  have HI : Hid ((Tryz.prog.info? 29).map (·.size) = some A.toList.length) := by show _ = _; rw [Array.length_toList, hA]; exact (by kernel_rfl : (Tryz.prog.info? 29).map (·.size) = some 14)
  clear hA
  go_enter Tryz.func80, Tryz.ntmps80
  go_upto_region 1 with fail
  have HRG := HRGX.out (w.alloc (.cells A 29)) (bx_al _ _ _)
  go_wp2_with (refine wpList_load_mid rfl 29 _ rfl _ _ (by rfl) A.toList _ HRG.out Tryz.underlying29 rfl HI.out ?_)
  refine (HFX.out _ (by go_grown)).mono ?_
  rintro e w1 ⟨rfl, hb⟩
  have k0 := bx_new hb
  have HB : Hid (Below w.heap.size w w1) := (bl_new hb).1
  clear hb HRG HFX
  go_wp2_with fail
  go_ret
  exact ⟨rfl, HB.out⟩
theorem iMayRead0 (A : Array Value) (n : Int) (f : Bool) (hf : inD n 0 1000 = f) (w : World) (hA : A.size = 14) (HF : ∀ W, Below w.heap.size w W → Calls Tryz.prog 48 #[.agg A] W fun e w' => e = .returned (.int .i64 0) ∧ Below W.heap.size W w') :
    Calls Tryz.prog 80 #[.agg A, .int .i64 n] w fun e w' => e = .returned (if f = true then .nilIface else .iface 128 (.agg #[.int .i64 3])) ∧ Below w.heap.size w w' := by
  have HFX : Hid _ := HF
  have HIB : Hid (inD n 0 1000 = f) := hf
  clear HF hf
  have HRGX : Hid (∀ W : World, (∀ o, W.cell? ⟨w.heap.size, o, none⟩ = A[o]?) → Hid (W.rangeAt w.heap.size 0 A.toList)) := fun W hk => bx_range hk
  have HI : Hid ((Tryz.prog.info? 29).map (·.size) = some A.toList.length) := by show _ = _; rw [Array.length_toList, hA]; exact (by kernel_rfl : (Tryz.prog.info? 29).map (·.size) = some 14)
  clear hA
  cases f
  case false =>
    go_enter Tryz.func80, Tryz.ntmps80
    go_upto_region 1 with fail
    have HRG := HRGX.out (w.alloc (.cells A 29)) (bx_al _ _ _)
    go_wp2_with (refine wpList_load_mid rfl 29 _ rfl _ _ (by rfl) A.toList _ HRG.out Tryz.underlying29 rfl HI.out ?_)
    refine (HFX.out _ (by go_grown)).mono ?_
    rintro e w1 ⟨rfl, hb⟩
    have k0 := bx_new hb
    have HB : Hid (Below w.heap.size w w1) := (bl_new hb).1
    clear hb HRG HFX
    go_wp2_with (first | (go_at_call 57; refine (iInD _ _ _ _).mono ?_; rintro e w' ⟨rfl, hw⟩; subst w'; rw [HIB.out]))
    go_ret
    exact ⟨rfl, HB.out⟩
  case true =>
    go_enter Tryz.func80, Tryz.ntmps80
    go_upto_region 1 with fail
    have HRG := HRGX.out (w.alloc (.cells A 29)) (bx_al _ _ _)
    go_wp2_with (refine wpList_load_mid rfl 29 _ rfl _ _ (by rfl) A.toList _ HRG.out Tryz.underlying29 rfl HI.out ?_)
    refine (HFX.out _ (by go_grown)).mono ?_
    rintro e w1 ⟨rfl, hb⟩
    have k0 := bx_new hb
    have HB : Hid (Below w.heap.size w w1) := (bl_new hb).1
    clear hb HRG HFX
    go_wp2_with (first | (go_at_call 57; refine (iInD _ _ _ _).mono ?_; rintro e w' ⟨rfl, hw⟩; subst w'; rw [HIB.out]))
    go_ret
    exact ⟨rfl, HB.out⟩
set_option maxHeartbeats 2000000 in
theorem iReadBad (A : Array Value) (n C : Int) (w : World) (hA : A.size = 14) (hE : ErrLaid w) (hM : ∀ W, Below w.heap.size w W → Calls Tryz.prog 80 #[.agg A, .int .i64 n] W fun e w' => e = .returned (.iface 128 (.agg #[.int .i64 C])) ∧ Below W.heap.size W w') :
    Calls Tryz.prog 35 #[.agg A, .int .i64 n] w fun e w' => e = .returned (.agg (bad18 C)) ∧ Below w.heap.size w w' := by
  have HM : Hid _ := hM
  have HCO : Hid (∀ W, Below w.heap.size w W → Calls Tryz.prog 43 #[.iface 128 (.agg #[.int .i64 C])] W fun e w' => e = .returned (.int .i64 C) ∧ Below W.heap.size W w') := fun W hW => dCode C W (ErrLaid.below hE hW)
  clear hM hE
  have HRGX : Hid (∀ W : World, (∀ o, W.cell? ⟨w.heap.size, o, none⟩ = A[o]?) → Hid (W.rangeAt w.heap.size 0 A.toList)) := fun W hk => bx_range hk
  have HI : Hid ((Tryz.prog.info? 29).map (·.size) = some A.toList.length) := by show _ = _; rw [Array.length_toList, hA]; exact (by kernel_rfl : (Tryz.prog.info? 29).map (·.size) = some 14)
  clear hA
  obtain ⟨N, hN⟩ : ∃ N : Array Value, N = bad18 C := ⟨_, rfl⟩
  have HN : Hid _ := hN
  have hNz : N.size = 18 := by rw [hN]; rfl
  have HIN : Hid ((Tryz.prog.info? 63).map (·.size) = some N.size) := by show _ = _; rw [hNz]; exact info_R18
  have HONE : Hid (N.all (·.oneCell') = true) := by show _ = _; rw [hN]; exact bad_one _
  have HNZ : Hid _ := hNz
  rw [← hN]
  clear hN hNz
  go_enter Tryz.func35, Tryz.ntmps35
  go_upto_region 1 with fail
  have HRG := HRGX.out ((w.alloc (.cells A 29)).alloc (.cells #[.int .i64 0, .int .i64 0, .int .i64 0, .int .i64 0, .bool false, .bool false, .slice none 0 0, .bool false, .int .i64 0, .bool false, .slice none 0 0, .slice none 0 0, .int .i64 0, .int .i64 0, .slice none 0 0, .slice none 0 0, .slice none 0 0, .bool false] 63)) (fun o => by simp [go_sem])
  go_wp2_with (refine wpList_load_mid rfl 29 _ rfl _ _ (by rfl) A.toList _ HRG.out Tryz.underlying29 rfl HI.out ?_)
  refine (HM.out _ (by go_grown)).mono ?_
  rintro e w1 ⟨rfl, hb⟩
  obtain ⟨k0, kR, fR, hb1, z0⟩ := two_boxes hb
  have HB : Hid (Below w.heap.size w w1) := hb1
  clear hb hb1 HRG HM
  go_wp2_with fail
  refine (HCO.out _ HB.out).mono ?_
  rintro e W4 ⟨rfl, hb⟩
  replace kR := bx_below kR z0 hb
  replace fR := bxF fR hb z0
  replace HB : Hid (Below w.heap.size w W4) := HB.out.trans (hb.mono HB.out.size)
  clear hb HCO
  have HTH : Hid (W4.there (w.heap.size + 1) 0 N.size) := bx_there kR fR (by rw [HNZ.out]; rfl)
  have kF : Hid (∀ o, (W4.setCells (w.heap.size + 1) 0 N.toList).cell? ⟨w.heap.size + 1, o, none⟩ = N[o]?) := bx_setCells kR (by rw [HNZ.out]; rfl)
  go_wp2_with (refine wpList_store_mid rfl 63 _ _ rfl _ _ N (by rfl) (by rw [HN.out]; rfl) HTH.out HIN.out HONE.out ?_)
  refine bodyPost_ret (results_box Tryz.results35 _ _ _ N _ (by rfl) kF.out Tryz.underlying63 rfl HIN.out) rfl ⟨rfl, ?_⟩
  exact setCells_below (by omega) _ _ _ _ HB.out
set_option maxHeartbeats 4000000 in
theorem iReadOk (c : DConn) (A : Array Value) (n : Int) (w : World) (B : Nat) (hr : shConn.Rd w B c A.toList) (hB : B ≤ w.heap.size) (hT : totConn c ≤ 1048576) (hF : connF c = 0) (hn : inD n 0 1000 = true) (hM : ∀ W, Below w.heap.size w W → Calls Tryz.prog 80 #[.agg A, .int .i64 n] W fun e w' => e = .returned (.nilIface) ∧ Below W.heap.size W w') :
    Calls Tryz.prog 35 #[.agg A, .int .i64 n] w fun e w' => ∃ N : Array Value, e = .returned (.agg N) ∧ Own w' w.heap.size w'.heap.size shCR (0, givC c (redE c n), [], redD c n, decide (c.finIn = redE c n), ()) N.toList ∧ Below w.heap.size w w' := by
  have hgv : inD c.given 0 c.inn.1.length = true := (conn_ok hF).2.2.2.2.2.2.1
  have hm4 : c.inn.1.length ≤ 400 := (gt_in (conn_ok hF).2.2.2.2.1).1
  have hwf := (conn_fin hr).2
  have hA : A.size = 14 := rd_size hr
  obtain ⟨y0, y1, y2, y3, y4, d5, y6, y7, y8, ⟨dn, ps, ⟨⟩⟩, y10, y11, d12, ⟨⟩⟩ := c
  obtain ⟨a5, c5, a9, c9, a9', c9', a12, c12, eA, r5, r9, r12, -⟩ := rd_Conn hr
  obtain ⟨va, vc, va', vc', ev, r91, -⟩ := rd_gt r9
  obtain ⟨sa, sc, es, rb, hnil, hcap⟩ := rd_bytes r91
  simp only [List.cons.injEq, Value.slice.injEq, and_true, true_and] at ev
  obtain ⟨⟨rfl, rfl⟩, -⟩ := ev
  simp only [List.cons.injEq, Value.slice.injEq, and_true, true_and] at es
  obtain ⟨rfl, rfl⟩ := es
  replace hgv : inD y11 0 dn.length = true := hgv
  replace hm4 : dn.length ≤ 400 := hm4
  have hg0 : 0 ≤ y11 ∧ y11 ≤ (dn.length : Int) := by simpa [inD] using hgv
  have hn0 : 0 ≤ n ∧ n ≤ 1000 := by simpa [inD] using hn
  obtain ⟨gN, rfl⟩ : ∃ gN : Nat, y11 = gN := ⟨y11.toNat, by omega⟩
  obtain ⟨nN, rfl⟩ : ∃ nN : Nat, n = nN := ⟨n.toNat, by omega⟩
  obtain ⟨m, hm⟩ : ∃ m, dn.length = m := ⟨_, rfl⟩
  have HM9 : Hid (dn.length = m) := hm
  have x9 : A[9]? = some (.slice a9 m c9) := by rw [get_of eA 9, ← hm]; rfl
  have x11 : A[11]? = some (.int .i64 y10) := get_of eA 11
  have x12 : A[12]? = some (.int .i64 (gN : Int)) := get_of eA 12
  obtain ⟨eN, heN⟩ : ∃ eN : Nat, eN = if gN + nN ≤ m then gN + nN else m := ⟨_, rfl⟩
  have hge : gN ≤ eN ∧ eN ≤ m := by rw [heN]; split <;> omega
  have hRE : redE (y0, y1, y2, y3, y4, d5, y6, y7, y8, (dn, ps, PUnit.unit), y10, (gN : Int), d12, PUnit.unit) (nN : Int) = (eN : Int) := by show (if (gN : Int) + (nN : Int) ≤ ((dn.length : Nat) : Int) then (gN : Int) + (nN : Int) else ((dn.length : Nat) : Int)) = _; rw [heN, hm]; split <;> split <;> omega
  have hRD : redD (y0, y1, y2, y3, y4, d5, y6, y7, y8, (dn, ps, PUnit.unit), y10, (gN : Int), d12, PUnit.unit) (nN : Int) = (dn.take eN).drop gN := by unfold redD; rw [hRE]; rfl
  rw [hRE, hRD]
  have hnn : nN ≤ 1000 := by omega
  have hmc : m ≤ c9 ∧ c9 ≤ maxLen := by obtain ⟨a1, c1, e1, e2, -⟩ := r91; simp only [List.cons.injEq, Value.slice.injEq, and_true, true_and] at e1; obtain ⟨rfl, rfl⟩ := e1; rw [← hm]; exact e2
  have HRB : Hid (∀ W, Below w.heap.size w W → RB W a9 dn) := fun W hW => rb.below (Nat.le_refl _) hW
  have HNI : Hid _ := hnil
  have HWF : Hid _ := hwf
  have HEN : Hid _ := heN
  have HCP : Hid (∀ W, Below w.heap.size w W → Calls Tryz.prog 67 #[.agg A] W fun e w' => ∃ N : Array Value, e = .returned (.agg N) ∧ Own w' W.heap.size w'.heap.size shConnO (y0, y1, y2, y3, y4, d5, y6, y7, y8, (dn, ps, ()), y10, (gN : Int), d12, ()) N.toList ∧ Below W.heap.size W w') := fun W hW => iCopyConn _ A W B (Sh.Rd.below hr hB hW) (Nat.le_trans hB hW.size) hT hF
  have HM : Hid _ := hM
  have HDI : Hid (∀ W, Calls Tryz.prog 81 #[.agg A] W fun e w' => e = .returned (.int .i64 (m : Int)) ∧ Below W.heap.size W w') := fun W => iDoneIn A m a9 c9 x9 (by omega) W
  rw [hm] at hm4
  clear hM
  clear hr hF hT hgv hwf eA r5 r9 r12 r91 rb hnil hg0 hn0 hm hRE hRD heN hn
  have HRGX : Hid (∀ W : World, (∀ o, W.cell? ⟨w.heap.size, o, none⟩ = A[o]?) → Hid (W.rangeAt w.heap.size 0 A.toList)) := fun W hk => bx_range hk
  have HI : Hid ((Tryz.prog.info? 29).map (·.size) = some A.toList.length) := by show _ = _; rw [Array.length_toList, hA]; exact (by kernel_rfl : (Tryz.prog.info? 29).map (·.size) = some 14)
  clear hA
  show Calls _ _ _ _ fun e w' => ∃ N : Array Value, e = .returned (.agg N) ∧ Own w' w.heap.size w'.heap.size shCR (0, (y0, y1, y2, y3, y4, d5, y6, y7, y8, (dn, ps, ()), y10, (eN : Int), d12, ()), [], (dn.take eN).drop gN, decide (y10 = (eN : Int)), ()) N.toList ∧ _
  go_enter Tryz.func35, Tryz.ntmps35
  go_upto_region 1 with fail
  have HRG := HRGX.out ((w.alloc (.cells A 29)).alloc (.cells #[.int .i64 0, .int .i64 0, .int .i64 0, .int .i64 0, .bool false, .bool false, .slice none 0 0, .bool false, .int .i64 0, .bool false, .slice none 0 0, .slice none 0 0, .int .i64 0, .int .i64 0, .slice none 0 0, .slice none 0 0, .slice none 0 0, .bool false] 63)) (fun o => by simp [go_sem])
  go_wp2_with (refine wpList_load_mid rfl 29 _ rfl _ _ (by rfl) A.toList _ HRG.out Tryz.underlying29 rfl HI.out ?_)
  refine (HM.out _ (by go_grown)).mono ?_
  rintro e w1 ⟨rfl, hb⟩
  obtain ⟨k0, kR, fR, hb1, z0⟩ := two_boxes hb
  have HB : Hid (Below w.heap.size w w1) := hb1
  clear hb hb1 HRG HM
  have HRG2 : Hid (w1.rangeAt w.heap.size 0 A.toList) := bx_range k0
  go_wp2_with (refine wpList_load_mid rfl 29 _ rfl _ _ (by rfl) A.toList _ HRG2.out Tryz.underlying29 rfl HI.out ?_)
  refine (HCP.out _ HB.out).mono ?_
  rintro e w2 ⟨M, rfl, ho2, hb⟩
  have z2 : w.heap.size + 1 < w2.heap.size := Nat.lt_of_lt_of_le z0 hb.size
  replace k0 := bx_below k0 (by omega) hb
  replace kR := bx_below kR z0 hb
  replace fR := bxF fR hb z0
  replace ho2 : Own w2 (w.heap.size + 1 + 1) w2.heap.size shConnO (y0, y1, y2, y3, y4, d5, y6, y7, y8, (dn, ps, ()), y10, (gN : Int), d12, ()) M.toList := Own.mono ho2 z0 (Nat.le_refl _)
  replace HB : Hid (Below w.heap.size w w2) := HB.out.trans (hb.mono HB.out.size)
  clear hb HCP HRG2 z0
  have hEw : (Lit.int .i64 (eN : Int)).wf = true := wf_i64' (by omega)
  obtain ⟨u, v1, v2, s, hM, hoF⟩ := own_giv ho2 HWF.out (eN : Int) hEw
  have hMz : M.size = 14 := rd_size (s := shConnO) (ho2.rd (Nat.le_refl _))
  have HMN : Hid (M = #[.int .i64 y0, .int .i64 y1, .int .i64 y2, .bool y3, .bool y4, u, .bool y6, .int .i64 y7, .bool y8, v1, v2, .int .i64 y10, .int .i64 (gN : Int), s]) := arr_of hM
  have HIM : Hid ((Tryz.prog.info? 29).map (·.size) = some M.size) := by show _ = _; rw [hMz]; exact (by kernel_rfl : (Tryz.prog.info? 29).map (·.size) = some 14)
  have HONM : Hid (M.all (·.oneCell') = true) := rd_all (ho2.rd (Nat.le_refl _))
  have HTM : Hid ((w2.alloc (.cells #[.int .i64 0, .int .i64 0, .int .i64 0, .bool false, .bool false, .slice none 0 0, .bool false, .int .i64 0, .bool false, .slice none 0 0, .slice none 0 0, .int .i64 0, .int .i64 0, .slice none 0 0] 29)).there w2.heap.size 0 M.size) := bx_there (bx_al _ _ _) (fx_al _ _ _) (by rw [hMz]; rfl)
  have HW5 : Hid (Below w2.heap.size w2 ((w2.alloc (.cells #[.int .i64 0, .int .i64 0, .int .i64 0, .bool false, .bool false, .slice none 0 0, .bool false, .int .i64 0, .bool false, .slice none 0 0, .slice none 0 0, .int .i64 0, .int .i64 0, .slice none 0 0] 29)).setCells w2.heap.size 0 M.toList) ∧ w2.heap.size < ((w2.alloc (.cells #[.int .i64 0, .int .i64 0, .int .i64 0, .bool false, .bool false, .slice none 0 0, .bool false, .int .i64 0, .bool false, .slice none 0 0, .slice none 0 0, .int .i64 0, .int .i64 0, .slice none 0 0] 29)).setCells w2.heap.size 0 M.toList).heap.size ∧ (∀ o, ((w2.alloc (.cells #[.int .i64 0, .int .i64 0, .int .i64 0, .bool false, .bool false, .slice none 0 0, .bool false, .int .i64 0, .bool false, .slice none 0 0, .slice none 0 0, .int .i64 0, .int .i64 0, .slice none 0 0] 29)).setCells w2.heap.size 0 M.toList).cell? ⟨w2.heap.size, o, none⟩ = M[o]?) ∧ (∀ o, ((w2.alloc (.cells #[.int .i64 0, .int .i64 0, .int .i64 0, .bool false, .bool false, .slice none 0 0, .bool false, .int .i64 0, .bool false, .slice none 0 0, .slice none 0 0, .int .i64 0, .int .i64 0, .slice none 0 0] 29)).setCells w2.heap.size 0 M.toList).frozen? ⟨w2.heap.size, o, none⟩ = false)) := ⟨setCells_below (Nat.le_refl _) _ _ _ _ ((Below.refl _ _).alloc (Nat.le_refl _) _), by rw [setCells_size]; simp, bx_setCells (bx_al w2 _ _) (by rw [hMz]; rfl), fx_sets (fx_al _ _ _)⟩
  clear ho2 hM hMz hEw
  go_upto_region 5 with (refine wpList_store_mid rfl 29 _ _ rfl _ _ M (by rfl) (by rfl) HTM.out HIM.out HONM.out ?_)
  generalize hW5 : ((w2.alloc (.cells #[.int .i64 0, .int .i64 0, .int .i64 0, .bool false, .bool false, .slice none 0 0, .bool false, .int .i64 0, .bool false, .slice none 0 0, .slice none 0 0, .int .i64 0, .int .i64 0, .slice none 0 0] 29)).setCells w2.heap.size 0 M.toList) = W5 at HW5 ⊢
  clear hW5 HTM HIM HONM
  obtain ⟨hb5, z5, kM, fM⟩ := HW5.out
  clear HW5
  rw [HMN.out] at kM
  replace k0 := bx_below k0 (by omega) hb5
  replace kR := bx_below kR z2 hb5
  replace fR := bxF fR hb5 z2
  have HOF : Hid (Own W5 (w.heap.size + 1 + 1) w2.heap.size shConnO (y0, y1, y2, y3, y4, d5, y6, y7, y8, (dn, ps, ()), y10, (eN : Int), d12, ()) [.int .i64 y0, .int .i64 y1, .int .i64 y2, .bool y3, .bool y4, u, .bool y6, .int .i64 y7, .bool y8, v1, v2, .int .i64 y10, .int .i64 (eN : Int), s]) := hoF.below (Nat.le_refl _) hb5
  replace HB : Hid (Below w.heap.size w W5) := HB.out.trans (hb5.mono HB.out.size)
  obtain ⟨q, hq⟩ : ∃ q, q = w2.heap.size := ⟨_, rfl⟩
  rw [← hq] at z5 kM fM z2 HOF ⊢
  clear hq hb5 hoF HMN
  obtain ⟨mm, hmm⟩ : ∃ mm, w.heap.size + mm = q + 1 := ⟨q + 1 - w.heap.size, by omega⟩
  have HS : Hid (SB2 w mm w.heap.size q A #[.int .i64 y0, .int .i64 y1, .int .i64 y2, .bool y3, .bool y4, u, .bool y6, .int .i64 y7, .bool y8, v1, v2, .int .i64 y10, .int .i64 (gN : Int), s] W5) := ⟨HB.out, by omega, k0, kM⟩
  clear k0 kM
  refine wp_region_noPanic ?_
  refine Goes.start (S := SB2 w mm w.heap.size q A #[.int .i64 y0, .int .i64 y1, .int .i64 y2, .bool y3, .bool y4, u, .bool y6, .int .i64 y7, .bool y8, v1, v2, .int .i64 y10, .int .i64 (gN : Int), s]) (z := 8) (by kernel_rfl) ?_
  refine Goes.take (i := 0) (oi := ?oi11) (x := ?vx11) ?ho11 (by kernel_rfl) (by kernel_rfl) (by kernel_rfl) (by kernel_rfl) (fun _ _ _ h => h) (Or.inl ⟨?hw11, ?hy11⟩) HS.out.drew ?rest11
  case ho11 => (simp only [List.getElem?_toArray, List.getElem?_cons_zero]; rfl)
  case hw11 => rfl
  case hy11 => (intro w' hSw; have j0 := hSw.k0; have j1 := hSw.k1; go_simp; (try with_reducible rfl))
  case rest11 =>
  (try simp only [Act.put, List.setIfInBounds_toArray, List.set_cons_zero, List.set_cons_succ])
  refine Goes.take (i := 1) (oi := ?oi12) (x := ?vx12) ?ho12 (by kernel_rfl) (by kernel_rfl) (by kernel_rfl) (by kernel_rfl) (fun _ _ _ h => h) (Or.inl ⟨?hw12, ?hy12⟩) HS.out.drew ?rest12
  case ho12 => (simp only [List.getElem?_toArray, List.getElem?_cons_succ, List.getElem?_cons_zero]; rfl)
  case hw12 => rfl
  case hy12 => (intro w' hSw; have j0 := hSw.k0; have j1 := hSw.k1; go_simp; (try with_reducible rfl))
  case rest12 =>
  (try simp only [Act.put, List.setIfInBounds_toArray, List.set_cons_zero, List.set_cons_succ])
  refine Goes.take (i := 2) (oi := ?oi13) (x := ?vx13) ?ho13 (by kernel_rfl) (by kernel_rfl) (by kernel_rfl) (by kernel_rfl) (fun _ _ _ h => h) (Or.inl ⟨?hw13, ?hy13⟩) HS.out.drew ?rest13
  case ho13 => (simp only [List.getElem?_toArray, List.getElem?_cons_succ, List.getElem?_cons_zero]; rfl)
  case hw13 => rfl
  case hy13 => (intro w' hSw; have j0 := hSw.k0; have j1 := hSw.k1; go_simp; (try with_reducible rfl))
  case rest13 =>
  (try simp only [Act.put, List.setIfInBounds_toArray, List.set_cons_zero, List.set_cons_succ])
  refine Goes.take (i := 3) (oi := ?oi14) (x := ?vx14) ?ho14 (by kernel_rfl) (by kernel_rfl) (by kernel_rfl) (by kernel_rfl) (fun _ _ _ h => h) (Or.inl ⟨?hw14, ?hy14⟩) HS.out.drew ?rest14
  case ho14 => (simp only [List.getElem?_toArray, List.getElem?_cons_succ, List.getElem?_cons_zero]; rfl)
  case hw14 => rfl
  case hy14 => (intro w' hSw; have j0 := hSw.k0; have j1 := hSw.k1; go_simp; (try with_reducible rfl))
  case rest14 =>
  (try simp only [Act.put, List.setIfInBounds_toArray, List.set_cons_zero, List.set_cons_succ])
  refine Goes.take (i := 4) (oi := ?oi15) (x := .agg (A.toList).toArray) ?ho15 (by kernel_rfl) (by kernel_rfl) (by kernel_rfl) (by kernel_rfl) (fun _ _ _ h => h) ?hy15 HS.out.drew ?rest15
  case ho15 => (simp only [List.getElem?_toArray, List.getElem?_cons_succ, List.getElem?_cons_zero]; rfl)
  case hy15 => exact yieldsIf_load_mid (by rfl) 29 _ rfl (w.heap.size) (0) (by rfl) (A.toList) _ (fun w' hSw => bx_range hSw.k0) Tryz.underlying29 rfl HI.out
  case rest15 =>
  (try simp only [Act.put, List.setIfInBounds_toArray, List.set_cons_zero, List.set_cons_succ])
  refine Goes.all (rs := [5]) (by kernel_rfl) (by simp) ?_
  refine Ups.cons (i := 5) (o := ?oo16) ?ho16 (fun KK hKK => ?stp16) Ups.nil
  case ho16 => (simp only [List.getElem?_toArray, List.getElem?_cons_succ, List.getElem?_cons_zero]; rfl)
  case stp16 =>
  go_simp
  go_at_call 81
  refine (HDI.out _).mono ?_
  rintro e W6 ⟨rfl, hbq⟩
  have HS6 : Hid (SB2 w mm w.heap.size q A #[.int .i64 y0, .int .i64 y1, .int .i64 y2, .bool y3, .bool y4, u, .bool y6, .int .i64 y7, .bool y8, v1, v2, .int .i64 y10, .int .i64 (gN : Int), s] W6) := SB2.below HS.out.drew hbq (by omega) (by omega)
  replace hbq := (Below.drew (Below.refl W5.heap.size W5)).trans hbq
  replace kR := bx_below kR (by omega) hbq
  replace fR := bxF fR hbq (by omega)
  replace fM := bxF fM hbq (by omega)
  replace HOF : Hid (Own W6 (w.heap.size + 1 + 1) q shConnO (y0, y1, y2, y3, y4, d5, y6, y7, y8, (dn, ps, ()), y10, (eN : Int), d12, ()) [.int .i64 y0, .int .i64 y1, .int .i64 y2, .bool y3, .bool y4, u, .bool y6, .int .i64 y7, .bool y8, v1, v2, .int .i64 y10, .int .i64 (eN : Int), s]) := HOF.out.below (by omega) hbq
  replace z5 := Nat.lt_of_lt_of_le z5 hbq.size
  clear hbq
  dsimp only
  refine hKK.out _ _ (Or.inr HS6.out) ?_
  clear hKK KK
  (try simp only [Act.put, List.setIfInBounds_toArray, List.set_cons_zero, List.set_cons_succ])
  refine Goes.take (i := 6) (oi := ?oi17) (x := ?vx17) ?ho17 (by kernel_rfl) (by kernel_rfl) (by kernel_rfl) (by kernel_rfl) (fun _ _ _ h => h) (Or.inl ⟨?hw17, ?hy17⟩) HS6.out ?rest17
  case ho17 => (simp only [List.getElem?_toArray, List.getElem?_cons_succ, List.getElem?_cons_zero]; rfl)
  case hw17 => rfl
  case hy17 => (intro w' hSw; have j0 := hSw.k0; have j1 := hSw.k1; go_simp; (try with_reducible rfl))
  case rest17 =>
  (try simp only [Act.put, List.setIfInBounds_toArray, List.set_cons_zero, List.set_cons_succ])
  have hmin : (if (m : Int) < IntKind.i64.wrap ((gN : Int) + (nN : Int)) then (m : Int) else IntKind.i64.wrap ((gN : Int) + (nN : Int))) = (eN : Int) := by rw [show IntKind.i64.wrap ((gN : Int) + (nN : Int)) = (gN : Int) + (nN : Int) by simp only [IntKind.wrap, IntKind.bits, IntKind.signed]; simp; omega]; have h := HEN.out; split <;> split at h <;> omega
  rw [hmin]
  clear hmin
  refine Goes.take (i := 7) (oi := ?oi18) (x := ?vx18) ?ho18 (by kernel_rfl) (by kernel_rfl) (by kernel_rfl) (by kernel_rfl) (fun _ _ _ h => h) (Or.inl ⟨?hw18, ?hy18⟩) HS6.out ?rest18
  case ho18 => (simp only [List.getElem?_toArray, List.getElem?_cons_succ, List.getElem?_cons_zero]; rfl)
  case hw18 => rfl
  case hy18 => (intro w' hSw; have j0 := hSw.k0; have j1 := hSw.k1; go_simp; (try with_reducible rfl))
  case rest18 =>
  (try simp only [Act.put, List.setIfInBounds_toArray, List.set_cons_zero, List.set_cons_succ])
  refine Goes.all (rs := [8]) (by kernel_rfl) (by simp) ?_
  refine Ups.cons (i := 8) (o := ?oo19) ?ho19 (fun KK hKK => ?stp19) Ups.nil
  case ho19 => (simp only [List.getElem?_toArray, List.getElem?_cons_succ, List.getElem?_cons_zero]; rfl)
  case stp19 =>
  have kM := HS6.out.k1
  go_simp
  refine hKK.out _ _ (Or.inl rfl) ?_
  clear hKK KK
  (try simp only [Act.put])
  refine Goes.done (by kernel_rfl) ?_ _
  refine NoPanic.normal ?_
  have k0 := HS6.out.k0
  replace kM := bx_put kM (k := 12) (v := .int .i64 (eN : Int)) (by simp)
  simp only [List.setIfInBounds_toArray, List.set_cons_zero, List.set_cons_succ] at kM
  replace k0 : ∀ o, (W6.setCell ⟨q, 12, none⟩ (.int .i64 (eN : Int))).cell? ⟨w.heap.size, o, none⟩ = A[o]? := bx_setC k0 (by omega)
  replace kR : ∀ o, (W6.setCell ⟨q, 12, none⟩ (.int .i64 (eN : Int))).cell? ⟨w.heap.size + 1, o, none⟩ = (#[.int .i64 0, .int .i64 0, .int .i64 0, .int .i64 0, .bool false, .bool false, .slice none 0 0, .bool false, .int .i64 0, .bool false, .slice none 0 0, .slice none 0 0, .int .i64 0, .int .i64 0, .slice none 0 0, .slice none 0 0, .slice none 0 0, .bool false] : Array Value)[o]? := bx_setC kR (by omega)
  replace fR : ∀ o, (W6.setCell ⟨q, 12, none⟩ (.int .i64 (eN : Int))).frozen? ⟨w.heap.size + 1, o, none⟩ = false := fx_setC fR
  replace HOF : Hid (Own (W6.setCell ⟨q, 12, none⟩ (.int .i64 (eN : Int))) (w.heap.size + 1 + 1) q shConnO (y0, y1, y2, y3, y4, d5, y6, y7, y8, (dn, ps, ()), y10, (eN : Int), d12, ()) [.int .i64 y0, .int .i64 y1, .int .i64 y2, .bool y3, .bool y4, u, .bool y6, .int .i64 y7, .bool y8, v1, v2, .int .i64 y10, .int .i64 (eN : Int), s]) := Own.keep HOF.out (fun b h1 h2 => Below.heap_setCell _ _ _ _ (by dsimp only; omega))
  replace HB : Hid (Below w.heap.size w (W6.setCell ⟨q, 12, none⟩ (.int .i64 (eN : Int)))) := Below.setCell (p := ⟨q, 12, none⟩) HS6.out.bl (show w.heap.size ≤ q by omega) _
  have z6 : q < (W6.setCell ⟨q, 12, none⟩ (.int .i64 (eN : Int))).heap.size := by simpa using z5
  generalize hW7 : W6.setCell ⟨q, 12, none⟩ (.int .i64 (eN : Int)) = W7 at k0 kM kR fR HOF HB z6 ⊢
  clear hW7 fM z5 HS6 HS hmm HDI
  have hg0 : (0 : Int) ≤ (gN : Int) := by omega
  have he0 : (gN : Int) ≤ (eN : Int) := by omega
  have hec : (eN : Int) ≤ (c9 : Int) := by omega
  have hec2 : eN ≤ c9 := by omega
  have hge1 := hge.1
  by_cases hz : c9 - gN = 0
  case pos =>
    have HCA : Hid (∀ W, Below w.heap.size w W → Calls Tryz.prog 82 #[.slice a9 (eN - gN) 0] W fun e w' => ∃ b1 k1, e = .returned (.slice b1 (eN - gN) k1) ∧ Own w' W.heap.size w'.heap.size u8s ((dn.take eN).drop gN) [.slice b1 (eN - gN) k1] ∧ Below W.heap.size W w') := fun W hW => iCopyB9 _ (eN - gN) _ _ W (cut_len _ _ _ (by rw [HM9.out]; exact hge.2)) (by rw [cut_nil _ _ _ (by omega)]; exact RB.nil _ _) (fun _ => rfl) (by omega)
    go_wp2_with fail
    refine (HCA.out _ HB.out).mono ?_
    rintro e W8 ⟨b8, c8, rfl, ho8, hb8⟩
    replace k0 := bx_below k0 (by omega) hb8
    replace kM := bx_below kM z6 hb8
    replace kR := bx_below kR (by omega) hb8
    replace fR := bxF fR hb8 (by omega)
    replace HOF : Hid (Own W8 (w.heap.size + 1 + 1) q shConnO (y0, y1, y2, y3, y4, d5, y6, y7, y8, (dn, ps, ()), y10, (eN : Int), d12, ()) [.int .i64 y0, .int .i64 y1, .int .i64 y2, .bool y3, .bool y4, u, .bool y6, .int .i64 y7, .bool y8, v1, v2, .int .i64 y10, .int .i64 (eN : Int), s]) := HOF.out.below (by omega) hb8
    have HO8 : Hid (Own W8 q W8.heap.size u8s ((dn.take eN).drop gN) [.slice b8 (eN - gN) c8]) := Own.mono ho8 (by omega) (Nat.le_refl _)
    replace HB : Hid (Below w.heap.size w W8) := HB.out.trans (hb8.mono HB.out.size)
    replace z6 := Nat.lt_of_lt_of_le z6 hb8.size
    clear ho8 hb8
    have HKM : Hid (W8.rangeAt q 0 [.int .i64 y0, .int .i64 y1, .int .i64 y2, .bool y3, .bool y4, u, .bool y6, .int .i64 y7, .bool y8, v1, v2, .int .i64 y10, .int .i64 (eN : Int), s]) := bx_range kM
    have HIL : Hid ((Tryz.prog.info? 29).map (·.size) = some [.int .i64 y0, .int .i64 y1, .int .i64 y2, .bool y3, .bool y4, u, .bool y6, .int .i64 y7, .bool y8, v1, v2, .int .i64 y10, .int .i64 (eN : Int), s].length) := (by kernel_rfl : (Tryz.prog.info? 29).map (·.size) = some 14)
    obtain ⟨N, hN⟩ : ∃ N : Array Value, N = #[.int .i64 0, .int .i64 y0, .int .i64 y1, .int .i64 y2, .bool y3, .bool y4, u, .bool y6, .int .i64 y7, .bool y8, v1, v2, .int .i64 y10, .int .i64 (eN : Int), s, .slice none 0 0, .slice b8 (eN - gN) c8, .bool (decide (y10 = (eN : Int)))] := ⟨_, rfl⟩
    have HN : Hid _ := hN
    have hNz : N.size = 18 := by rw [hN]; rfl
    have HIN : Hid ((Tryz.prog.info? 63).map (·.size) = some N.size) := by show _ = _; rw [hNz]; exact info_R18
    have HNZ : Hid _ := hNz
    have HTH : Hid (W8.there (w.heap.size + 1) 0 N.size) := bx_there kR fR (by rw [HNZ.out]; rfl)
    have kF : Hid (∀ o, (W8.setCells (w.heap.size + 1) 0 N.toList).cell? ⟨w.heap.size + 1, o, none⟩ = N[o]?) := bx_setCells kR (by rw [HNZ.out]; rfl)
    have HRES : Hid (Own W8 (w.heap.size + 1 + 1) W8.heap.size shCR (0, (y0, y1, y2, y3, y4, d5, y6, y7, y8, (dn, ps, ()), y10, (eN : Int), d12, ()), [], (dn.take eN).drop gN, decide (y10 = (eN : Int)), ()) N.toList) := by show Own _ _ _ _ _ _; rw [hN]; exact own_CRd (by omega) (by omega) HOF.out HO8.out
    have HONE : Hid (N.all (·.oneCell') = true) := rd_all (s := shCR) (HRES.out.rd (Nat.le_refl _))
    clear hN hNz HOF HO8
    go_wp2_with (first | (refine wpList_load_mid rfl 29 _ rfl _ _ (by rfl) [.int .i64 y0, .int .i64 y1, .int .i64 y2, .bool y3, .bool y4, u, .bool y6, .int .i64 y7, .bool y8, v1, v2, .int .i64 y10, .int .i64 (eN : Int), s] _ HKM.out Tryz.underlying29 rfl HIL.out ?_) | (refine wpList_store_mid rfl 63 _ _ rfl _ _ N (by rfl) (by rw [HN.out]; rfl) HTH.out HIN.out HONE.out ?_))
    refine bodyPost_ret (results_box Tryz.results35 _ _ _ N _ (by rfl) kF.out Tryz.underlying63 rfl HIN.out) rfl ⟨N, rfl, ?_, ?_⟩
    · refine Own.mono (Own.keep HRES.out fun b hb hlt => setCells_block (by omega) _ _ _) (by omega) (by rw [setCells_size]; omega)
    · exact setCells_below (by omega) _ _ _ _ HB.out
  case neg =>
    have HCA : Hid (∀ W, Below w.heap.size w W → Calls Tryz.prog 82 #[.slice (a9.map fun x => x.add gN) (eN - gN) (c9 - gN)] W fun e w' => ∃ b1 k1, e = .returned (.slice b1 (eN - gN) k1) ∧ Own w' W.heap.size w'.heap.size u8s ((dn.take eN).drop gN) [.slice b1 (eN - gN) k1] ∧ Below W.heap.size W w') := fun W hW => iCopyB9 _ (eN - gN) _ _ W (cut_len _ _ _ (by rw [HM9.out]; exact hge.2)) (rb_cut (HRB.out W hW) _ _ hge.1 (by rw [HM9.out]; exact hge.2)) (fun e => by cases a9 with | none => (have := HNI.out rfl; omega) | some x => simp at e) (by omega)
    go_wp2_with fail
    refine (HCA.out _ HB.out).mono ?_
    rintro e W8 ⟨b8, c8, rfl, ho8, hb8⟩
    replace k0 := bx_below k0 (by omega) hb8
    replace kM := bx_below kM z6 hb8
    replace kR := bx_below kR (by omega) hb8
    replace fR := bxF fR hb8 (by omega)
    replace HOF : Hid (Own W8 (w.heap.size + 1 + 1) q shConnO (y0, y1, y2, y3, y4, d5, y6, y7, y8, (dn, ps, ()), y10, (eN : Int), d12, ()) [.int .i64 y0, .int .i64 y1, .int .i64 y2, .bool y3, .bool y4, u, .bool y6, .int .i64 y7, .bool y8, v1, v2, .int .i64 y10, .int .i64 (eN : Int), s]) := HOF.out.below (by omega) hb8
    have HO8 : Hid (Own W8 q W8.heap.size u8s ((dn.take eN).drop gN) [.slice b8 (eN - gN) c8]) := Own.mono ho8 (by omega) (Nat.le_refl _)
    replace HB : Hid (Below w.heap.size w W8) := HB.out.trans (hb8.mono HB.out.size)
    replace z6 := Nat.lt_of_lt_of_le z6 hb8.size
    clear ho8 hb8
    have HKM : Hid (W8.rangeAt q 0 [.int .i64 y0, .int .i64 y1, .int .i64 y2, .bool y3, .bool y4, u, .bool y6, .int .i64 y7, .bool y8, v1, v2, .int .i64 y10, .int .i64 (eN : Int), s]) := bx_range kM
    have HIL : Hid ((Tryz.prog.info? 29).map (·.size) = some [.int .i64 y0, .int .i64 y1, .int .i64 y2, .bool y3, .bool y4, u, .bool y6, .int .i64 y7, .bool y8, v1, v2, .int .i64 y10, .int .i64 (eN : Int), s].length) := (by kernel_rfl : (Tryz.prog.info? 29).map (·.size) = some 14)
    obtain ⟨N, hN⟩ : ∃ N : Array Value, N = #[.int .i64 0, .int .i64 y0, .int .i64 y1, .int .i64 y2, .bool y3, .bool y4, u, .bool y6, .int .i64 y7, .bool y8, v1, v2, .int .i64 y10, .int .i64 (eN : Int), s, .slice none 0 0, .slice b8 (eN - gN) c8, .bool (decide (y10 = (eN : Int)))] := ⟨_, rfl⟩
    have HN : Hid _ := hN
    have hNz : N.size = 18 := by rw [hN]; rfl
    have HIN : Hid ((Tryz.prog.info? 63).map (·.size) = some N.size) := by show _ = _; rw [hNz]; exact info_R18
    have HNZ : Hid _ := hNz
    have HTH : Hid (W8.there (w.heap.size + 1) 0 N.size) := bx_there kR fR (by rw [HNZ.out]; rfl)
    have kF : Hid (∀ o, (W8.setCells (w.heap.size + 1) 0 N.toList).cell? ⟨w.heap.size + 1, o, none⟩ = N[o]?) := bx_setCells kR (by rw [HNZ.out]; rfl)
    have HRES : Hid (Own W8 (w.heap.size + 1 + 1) W8.heap.size shCR (0, (y0, y1, y2, y3, y4, d5, y6, y7, y8, (dn, ps, ()), y10, (eN : Int), d12, ()), [], (dn.take eN).drop gN, decide (y10 = (eN : Int)), ()) N.toList) := by show Own _ _ _ _ _ _; rw [hN]; exact own_CRd (by omega) (by omega) HOF.out HO8.out
    have HONE : Hid (N.all (·.oneCell') = true) := rd_all (s := shCR) (HRES.out.rd (Nat.le_refl _))
    clear hN hNz HOF HO8
    go_wp2_with (first | (refine wpList_load_mid rfl 29 _ rfl _ _ (by rfl) [.int .i64 y0, .int .i64 y1, .int .i64 y2, .bool y3, .bool y4, u, .bool y6, .int .i64 y7, .bool y8, v1, v2, .int .i64 y10, .int .i64 (eN : Int), s] _ HKM.out Tryz.underlying29 rfl HIL.out ?_) | (refine wpList_store_mid rfl 63 _ _ rfl _ _ N (by rfl) (by rw [HN.out]; rfl) HTH.out HIN.out HONE.out ?_))
    refine bodyPost_ret (results_box Tryz.results35 _ _ _ N _ (by rfl) kF.out Tryz.underlying63 rfl HIN.out) rfl ⟨N, rfl, ?_, ?_⟩
    · refine Own.mono (Own.keep HRES.out fun b hb hlt => setCells_block (by omega) _ _ _) (by omega) (by rw [setCells_size]; omega)
    · exact setCells_below (by omega) _ _ _ _ HB.out
theorem iReadConn (c : DConn) (A : Array Value) (n : Int) (w : World) (B : Nat) (hr : shConn.Rd w B c A.toList) (hB : B ≤ w.heap.size) (hT : totConn c ≤ 1048576) (hE : ErrLaid w) :
    Calls Tryz.prog 35 #[.agg A, .int .i64 n] w fun e w' => ∃ N : Array Value, e = .returned (.agg N) ∧ Own w' w.heap.size w'.heap.size shCR (redV c n) N.toList ∧ Below w.heap.size w w' := by
  have hA : A.size = 14 := rd_size hr
  have HF : ∀ W, Below w.heap.size w W → Calls Tryz.prog 48 #[.agg A] W fun e w' => e = .returned (.int .i64 (connF c)) ∧ Below W.heap.size W w' := fun W hW => iConnFault c A W B (Sh.Rd.below hr hB hW) (Nat.le_trans hB hW.size) hT
  unfold redV
  by_cases hC : connF c = 0
  · rw [if_pos hC]
    rw [hC] at HF
    have HM := fun (f : Bool) (hf : inD n 0 1000 = f) W (hW : Below w.heap.size w W) => iMayRead0 A n f hf W hA (fun W' hW' => HF W' (hW.trans (hW'.mono hW.size)))
    split
    · rename_i hf
      exact iReadOk c A n w B hr hB hT hC hf (HM true hf)
    · rename_i hf
      exact (iReadBad A n 3 w hA hE (HM false (by simpa using hf))).mono (by rintro e w' ⟨rfl, hb⟩; exact ⟨_, rfl, own_bad w' _ _ hb.size (by decide), hb⟩)
  · rw [if_neg hC]
    exact (iReadBad A n _ w hA hE (fun W hW => iMayReadC A n _ hC W hA (fun W' hW' => HF W' (hW.trans (hW'.mono hW.size))))).mono (by rintro e w' ⟨rfl, hb⟩; exact ⟨_, rfl, own_bad w' _ _ hb.size (wf_i64' (by have := connF_bd c; unfold Small at this; omega)), hb⟩)
set_option maxHeartbeats 2000000 in
theorem sReadC (A : Array Value) (n C : Int) (hC : C ≠ 0) (w : World) (hF : ∀ W, Below w.heap.size w W → (∀ o, W.cell? ⟨w.heap.size, o, none⟩ = A[o]?) → Calls Tryz.prog 45 #[.pointer (some ⟨w.heap.size, 0, none⟩)] W fun e w' => e = .returned (.int .i64 C) ∧ Below W.heap.size W w') :
    Calls Tryz.prog 34 #[.agg A, .int .i64 n] w fun e w' => e = .returned (.agg (bad18 C)) ∧ Below w.heap.size w w' := by
  have hC' : (C != 0) = true := by simp [hC]
  have HF : Hid _ := hF
  clear hF hC
  obtain ⟨N, hN⟩ : ∃ N : Array Value, N = bad18 C := ⟨_, rfl⟩
  have HN : Hid _ := hN
  have hNz : N.size = 18 := by rw [hN]; rfl
  have HIN : Hid ((Tryz.prog.info? 63).map (·.size) = some N.size) := by show _ = _; rw [hNz]; exact info_R18
  have HONE : Hid (N.all (·.oneCell') = true) := by show _ = _; rw [hN]; exact bad_one _
  have HNZ : Hid _ := hNz
  rw [← hN]
  clear hN hNz
  go_enter Tryz.func34, Tryz.ntmps34
  go_wp2_with fail
  refine (HF.out _ (by go_grown) (fun o => by simp [go_sem])).mono ?_
  rintro e w1 ⟨rfl, hb⟩
  obtain ⟨k0, kR, fR, hb1, z0⟩ := two_boxes hb
  have HB : Hid (Below w.heap.size w w1) := hb1
  clear hb hb1 HF
  go_wp2_with fail
  refine (sBad9 C _).mono ?_
  rintro e W4 ⟨rfl, hb⟩
  rw [← HN.out]
  replace kR := bx_below kR z0 hb
  replace fR := bxF fR hb z0
  replace HB : Hid (Below w.heap.size w W4) := HB.out.trans (hb.mono HB.out.size)
  clear hb
  have HTH : Hid (W4.there (w.heap.size + 1) 0 N.size) := bx_there kR fR (by rw [HNZ.out]; rfl)
  have kF : Hid (∀ o, (W4.setCells (w.heap.size + 1) 0 N.toList).cell? ⟨w.heap.size + 1, o, none⟩ = N[o]?) := bx_setCells kR (by rw [HNZ.out]; rfl)
  go_wp2_with (refine wpList_store_mid rfl 63 _ _ rfl _ _ N (by rfl) (by rfl) HTH.out HIN.out HONE.out ?_)
  refine bodyPost_ret (results_box Tryz.results34 _ _ _ N _ (by rfl) kF.out Tryz.underlying63 rfl HIN.out) rfl ⟨rfl, ?_⟩
  exact setCells_below (by omega) _ _ _ _ HB.out
set_option maxHeartbeats 2000000 in
theorem sRead3 (A : Array Value) (n : Int) (w : World) (hn : inD n 0 1000 = false) (hF : ∀ W, Below w.heap.size w W → (∀ o, W.cell? ⟨w.heap.size, o, none⟩ = A[o]?) → Calls Tryz.prog 45 #[.pointer (some ⟨w.heap.size, 0, none⟩)] W fun e w' => e = .returned (.int .i64 0) ∧ Below W.heap.size W w') :
    Calls Tryz.prog 34 #[.agg A, .int .i64 n] w fun e w' => e = .returned (.agg (bad18 3)) ∧ Below w.heap.size w w' := by
  have HF : Hid _ := hF
  have HIB : Hid _ := hn
  clear hF hn
  obtain ⟨N, hN⟩ : ∃ N : Array Value, N = bad18 3 := ⟨_, rfl⟩
  have HN : Hid _ := hN
  have hNz : N.size = 18 := by rw [hN]; rfl
  have HIN : Hid ((Tryz.prog.info? 63).map (·.size) = some N.size) := by show _ = _; rw [hNz]; exact info_R18
  have HONE : Hid (N.all (·.oneCell') = true) := by show _ = _; rw [hN]; exact bad_one _
  have HNZ : Hid _ := hNz
  rw [← hN]
  clear hN hNz
  go_enter Tryz.func34, Tryz.ntmps34
  go_wp2_with fail
  refine (HF.out _ (by go_grown) (fun o => by simp [go_sem])).mono ?_
  rintro e w1 ⟨rfl, hb⟩
  obtain ⟨k0, kR, fR, hb1, z0⟩ := two_boxes hb
  have HB : Hid (Below w.heap.size w w1) := hb1
  clear hb hb1 HF
  go_wp2_with (first | (go_at_call 78; refine (sInD _ _ _ _).mono ?_; rintro e w' ⟨rfl, hw⟩; subst w'; rw [HIB.out]))
  refine (sBad9 3 _).mono ?_
  rintro e W4 ⟨rfl, hb⟩
  rw [← HN.out]
  replace kR := bx_below kR z0 hb
  replace fR := bxF fR hb z0
  replace HB : Hid (Below w.heap.size w W4) := HB.out.trans (hb.mono HB.out.size)
  clear hb
  have HTH : Hid (W4.there (w.heap.size + 1) 0 N.size) := bx_there kR fR (by rw [HNZ.out]; rfl)
  have kF : Hid (∀ o, (W4.setCells (w.heap.size + 1) 0 N.toList).cell? ⟨w.heap.size + 1, o, none⟩ = N[o]?) := bx_setCells kR (by rw [HNZ.out]; rfl)
  go_wp2_with (refine wpList_store_mid rfl 63 _ _ rfl _ _ N (by rfl) (by rfl) HTH.out HIN.out HONE.out ?_)
  refine bodyPost_ret (results_box Tryz.results34 _ _ _ N _ (by rfl) kF.out Tryz.underlying63 rfl HIN.out) rfl ⟨rfl, ?_⟩
  exact setCells_below (by omega) _ _ _ _ HB.out
set_option maxHeartbeats 8000000 in
theorem sReadOk (c : DConn) (A : Array Value) (n : Int) (w : World) (B : Nat) (hr : shConn.Rd w B c A.toList) (hB : B ≤ w.heap.size) (hT : totConn c ≤ 1048576) (hF : connF c = 0) (hn : inD n 0 1000 = true) (hG : ∀ W, Below w.heap.size w W → (∀ o, W.cell? ⟨w.heap.size, o, none⟩ = A[o]?) → Calls Tryz.prog 45 #[.pointer (some ⟨w.heap.size, 0, none⟩)] W fun e w' => e = .returned (.int .i64 0) ∧ Below W.heap.size W w') :
    Calls Tryz.prog 34 #[.agg A, .int .i64 n] w fun e w' => ∃ N : Array Value, e = .returned (.agg N) ∧ Own w' w.heap.size w'.heap.size shCR (0, givC c (redE c n), [], redD c n, decide (c.finIn = redE c n), ()) N.toList ∧ Below w.heap.size w w' := by
  have HIB : Hid _ := hn
  have hgv : inD c.given 0 c.inn.1.length = true := (conn_ok hF).2.2.2.2.2.2.1
  have hm4 : c.inn.1.length ≤ 400 := (gt_in (conn_ok hF).2.2.2.2.1).1
  have hwf := (conn_fin hr).2
  have hA : A.size = 14 := rd_size hr
  obtain ⟨y0, y1, y2, y3, y4, d5, y6, y7, y8, ⟨dn, ps, ⟨⟩⟩, y10, y11, d12, ⟨⟩⟩ := c
  obtain ⟨a5, c5, a9, c9, a9', c9', a12, c12, eA, r5, r9, r12, -⟩ := rd_Conn hr
  obtain ⟨va, vc, va', vc', ev, r91, -⟩ := rd_gt r9
  obtain ⟨sa, sc, es, rb, hnil, hcap⟩ := rd_bytes r91
  simp only [List.cons.injEq, Value.slice.injEq, and_true, true_and] at ev
  obtain ⟨⟨rfl, rfl⟩, -⟩ := ev
  simp only [List.cons.injEq, Value.slice.injEq, and_true, true_and] at es
  obtain ⟨rfl, rfl⟩ := es
  replace hgv : inD y11 0 dn.length = true := hgv
  replace hm4 : dn.length ≤ 400 := hm4
  have hg0 : 0 ≤ y11 ∧ y11 ≤ (dn.length : Int) := by simpa [inD] using hgv
  have hn0 : 0 ≤ n ∧ n ≤ 1000 := by simpa [inD] using hn
  obtain ⟨gN, rfl⟩ : ∃ gN : Nat, y11 = gN := ⟨y11.toNat, by omega⟩
  obtain ⟨nN, rfl⟩ : ∃ nN : Nat, n = nN := ⟨n.toNat, by omega⟩
  obtain ⟨m, hm⟩ : ∃ m, dn.length = m := ⟨_, rfl⟩
  have HM9 : Hid (dn.length = m) := hm
  have x9 : A[9]? = some (.slice a9 m c9) := by rw [get_of eA 9, ← hm]; rfl
  have x11 : A[11]? = some (.int .i64 y10) := get_of eA 11
  have x12 : A[12]? = some (.int .i64 (gN : Int)) := get_of eA 12
  obtain ⟨eN, heN⟩ : ∃ eN : Nat, eN = if gN + nN ≤ m then gN + nN else m := ⟨_, rfl⟩
  have hge : gN ≤ eN ∧ eN ≤ m := by rw [heN]; split <;> omega
  have hRE : redE (y0, y1, y2, y3, y4, d5, y6, y7, y8, (dn, ps, PUnit.unit), y10, (gN : Int), d12, PUnit.unit) (nN : Int) = (eN : Int) := by show (if (gN : Int) + (nN : Int) ≤ ((dn.length : Nat) : Int) then (gN : Int) + (nN : Int) else ((dn.length : Nat) : Int)) = _; rw [heN, hm]; split <;> split <;> omega
  have hRD : redD (y0, y1, y2, y3, y4, d5, y6, y7, y8, (dn, ps, PUnit.unit), y10, (gN : Int), d12, PUnit.unit) (nN : Int) = (dn.take eN).drop gN := by unfold redD; rw [hRE]; rfl
  rw [hRE, hRD]
  have hnn : nN ≤ 1000 := by omega
  have hmc : m ≤ c9 ∧ c9 ≤ maxLen := by obtain ⟨a1, c1, e1, e2, -⟩ := r91; simp only [List.cons.injEq, Value.slice.injEq, and_true, true_and] at e1; obtain ⟨rfl, rfl⟩ := e1; rw [← hm]; exact e2
  have HRB : Hid (∀ W, Below w.heap.size w W → RB W a9 dn) := fun W hW => rb.below (Nat.le_refl _) hW
  have HNI : Hid _ := hnil
  have HWF : Hid _ := hwf
  have HEN : Hid _ := heN
  have HCP : Hid (∀ W, Below w.heap.size w W → Calls Tryz.prog 63 #[.agg A] W fun e w' => ∃ N : Array Value, e = .returned (.agg N) ∧ Own w' W.heap.size w'.heap.size shConnO (y0, y1, y2, y3, y4, d5, y6, y7, y8, (dn, ps, ()), y10, (gN : Int), d12, ()) N.toList ∧ Below W.heap.size W w') := fun W hW => sL9Copy _ A W B (Sh.Rd.below hr hB hW) (Nat.le_trans hB hW.size) hT hF
  have HF : Hid _ := hG
  rw [hm] at hm4
  have HMI : Hid (∀ W, Calls Tryz.prog 79 #[.int .i64 (m : Int), .int .i64 ((gN : Int) + (nN : Int))] W fun e w' => e = .returned (.int .i64 (eN : Int)) ∧ w' = W) := fun W => by have h := sMin (m : Int) ((gN : Int) + (nN : Int)) W; rw [show min (m : Int) ((gN : Int) + (nN : Int)) = (eN : Int) by rw [heN]; split <;> omega] at h; exact h
  clear hG
  clear hr hF hT hgv hwf eA r5 r9 r12 r91 rb hnil hg0 hn0 hm hRE hRD heN hn
  have HRGX : Hid (∀ W : World, (∀ o, W.cell? ⟨w.heap.size, o, none⟩ = A[o]?) → Hid (W.rangeAt w.heap.size 0 A.toList)) := fun W hk => bx_range hk
  have HI : Hid ((Tryz.prog.info? 29).map (·.size) = some A.toList.length) := by show _ = _; rw [Array.length_toList, hA]; exact (by kernel_rfl : (Tryz.prog.info? 29).map (·.size) = some 14)
  clear hA
  show Calls _ _ _ _ fun e w' => ∃ N : Array Value, e = .returned (.agg N) ∧ Own w' w.heap.size w'.heap.size shCR (0, (y0, y1, y2, y3, y4, d5, y6, y7, y8, (dn, ps, ()), y10, (eN : Int), d12, ()), [], (dn.take eN).drop gN, decide (y10 = (eN : Int)), ()) N.toList ∧ _
  go_enter Tryz.func34, Tryz.ntmps34
  go_wp2_with fail
  refine (HF.out _ (by go_grown) (fun o => by simp [go_sem])).mono ?_
  rintro e w1 ⟨rfl, hb⟩
  obtain ⟨k0, kR, fR, hb1, z0⟩ := two_boxes hb
  have HB : Hid (Below w.heap.size w w1) := hb1
  clear hb hb1 HF
  go_upto_region 6 with (first | (go_at_call 78; refine (sInD _ _ _ _).mono ?_; rintro e w' ⟨rfl, hw⟩; subst w'; rw [HIB.out]))
  have HRG2 : Hid (w1.rangeAt w.heap.size 0 A.toList) := bx_range k0
  go_wp2_with (refine wpList_load_mid rfl 29 _ rfl _ _ (by rfl) A.toList _ HRG2.out Tryz.underlying29 rfl HI.out ?_)
  refine (HCP.out _ HB.out).mono ?_
  rintro e w2 ⟨M, rfl, ho2, hb⟩
  have z2 : w.heap.size + 1 < w2.heap.size := Nat.lt_of_lt_of_le z0 hb.size
  replace k0 := bx_below k0 (by omega) hb
  replace kR := bx_below kR z0 hb
  replace fR := bxF fR hb z0
  replace ho2 : Own w2 (w.heap.size + 1 + 1) w2.heap.size shConnO (y0, y1, y2, y3, y4, d5, y6, y7, y8, (dn, ps, ()), y10, (gN : Int), d12, ()) M.toList := Own.mono ho2 z0 (Nat.le_refl _)
  replace HB : Hid (Below w.heap.size w w2) := HB.out.trans (hb.mono HB.out.size)
  clear hb HCP HRG2 z0
  have hEw : (Lit.int .i64 (eN : Int)).wf = true := wf_i64' (by omega)
  obtain ⟨u, v1, v2, s, hM, hoF⟩ := own_giv ho2 HWF.out (eN : Int) hEw
  have hMz : M.size = 14 := rd_size (s := shConnO) (ho2.rd (Nat.le_refl _))
  have HMN : Hid (M = #[.int .i64 y0, .int .i64 y1, .int .i64 y2, .bool y3, .bool y4, u, .bool y6, .int .i64 y7, .bool y8, v1, v2, .int .i64 y10, .int .i64 (gN : Int), s]) := arr_of hM
  have HIM : Hid ((Tryz.prog.info? 29).map (·.size) = some M.size) := by show _ = _; rw [hMz]; exact (by kernel_rfl : (Tryz.prog.info? 29).map (·.size) = some 14)
  have HONM : Hid (M.all (·.oneCell') = true) := rd_all (ho2.rd (Nat.le_refl _))
  have HTM : Hid ((w2.alloc (.cells #[.int .i64 0, .int .i64 0, .int .i64 0, .bool false, .bool false, .slice none 0 0, .bool false, .int .i64 0, .bool false, .slice none 0 0, .slice none 0 0, .int .i64 0, .int .i64 0, .slice none 0 0] 29)).there w2.heap.size 0 M.size) := bx_there (bx_al _ _ _) (fx_al _ _ _) (by rw [hMz]; rfl)
  have HW5 : Hid (Below w2.heap.size w2 ((w2.alloc (.cells #[.int .i64 0, .int .i64 0, .int .i64 0, .bool false, .bool false, .slice none 0 0, .bool false, .int .i64 0, .bool false, .slice none 0 0, .slice none 0 0, .int .i64 0, .int .i64 0, .slice none 0 0] 29)).setCells w2.heap.size 0 M.toList) ∧ w2.heap.size < ((w2.alloc (.cells #[.int .i64 0, .int .i64 0, .int .i64 0, .bool false, .bool false, .slice none 0 0, .bool false, .int .i64 0, .bool false, .slice none 0 0, .slice none 0 0, .int .i64 0, .int .i64 0, .slice none 0 0] 29)).setCells w2.heap.size 0 M.toList).heap.size ∧ (∀ o, ((w2.alloc (.cells #[.int .i64 0, .int .i64 0, .int .i64 0, .bool false, .bool false, .slice none 0 0, .bool false, .int .i64 0, .bool false, .slice none 0 0, .slice none 0 0, .int .i64 0, .int .i64 0, .slice none 0 0] 29)).setCells w2.heap.size 0 M.toList).cell? ⟨w2.heap.size, o, none⟩ = M[o]?) ∧ (∀ o, ((w2.alloc (.cells #[.int .i64 0, .int .i64 0, .int .i64 0, .bool false, .bool false, .slice none 0 0, .bool false, .int .i64 0, .bool false, .slice none 0 0, .slice none 0 0, .int .i64 0, .int .i64 0, .slice none 0 0] 29)).setCells w2.heap.size 0 M.toList).frozen? ⟨w2.heap.size, o, none⟩ = false)) := ⟨setCells_below (Nat.le_refl _) _ _ _ _ ((Below.refl _ _).alloc (Nat.le_refl _) _), by rw [setCells_size]; simp, bx_setCells (bx_al w2 _ _) (by rw [hMz]; rfl), fx_sets (fx_al _ _ _)⟩
  clear ho2 hM hMz hEw
  go_upto_region 7 with (refine wpList_store_mid rfl 29 _ _ rfl _ _ M (by rfl) (by rfl) HTM.out HIM.out HONM.out ?_)
  generalize hW5 : ((w2.alloc (.cells #[.int .i64 0, .int .i64 0, .int .i64 0, .bool false, .bool false, .slice none 0 0, .bool false, .int .i64 0, .bool false, .slice none 0 0, .slice none 0 0, .int .i64 0, .int .i64 0, .slice none 0 0] 29)).setCells w2.heap.size 0 M.toList) = W5 at HW5 ⊢
  clear hW5 HTM HIM HONM
  obtain ⟨hb5, z5, kM, fM⟩ := HW5.out
  clear HW5
  rw [HMN.out] at kM
  replace k0 := bx_below k0 (by omega) hb5
  replace kR := bx_below kR z2 hb5
  replace fR := bxF fR hb5 z2
  have HOF : Hid (Own W5 (w.heap.size + 1 + 1) w2.heap.size shConnO (y0, y1, y2, y3, y4, d5, y6, y7, y8, (dn, ps, ()), y10, (eN : Int), d12, ()) [.int .i64 y0, .int .i64 y1, .int .i64 y2, .bool y3, .bool y4, u, .bool y6, .int .i64 y7, .bool y8, v1, v2, .int .i64 y10, .int .i64 (eN : Int), s]) := hoF.below (Nat.le_refl _) hb5
  replace HB : Hid (Below w.heap.size w W5) := HB.out.trans (hb5.mono HB.out.size)
  obtain ⟨q, hq⟩ : ∃ q, q = w2.heap.size := ⟨_, rfl⟩
  rw [← hq] at z5 kM fM z2 HOF ⊢
  clear hq hb5 hoF HMN
  have hw64 : IntKind.i64.wrap ((gN : Int) + (nN : Int)) = (gN : Int) + (nN : Int) := by simp only [IntKind.wrap, IntKind.bits, IntKind.signed]; simp; omega
  go_upto_region 8 with (first | (go_at_call 79; refine (HMI.out _).mono ?_; rintro e w' ⟨rfl, hw⟩; subst w'))
  clear HMI
  go_upto_region 9 with fail
  replace kM := bx_put kM (k := 12) (v := .int .i64 (eN : Int)) (by simp)
  simp only [List.setIfInBounds_toArray, List.set_cons_zero, List.set_cons_succ] at kM
  replace k0 : ∀ o, (W5.setCell ⟨q, 12, none⟩ (.int .i64 (eN : Int))).cell? ⟨w.heap.size, o, none⟩ = A[o]? := bx_setC k0 (by omega)
  replace kR : ∀ o, (W5.setCell ⟨q, 12, none⟩ (.int .i64 (eN : Int))).cell? ⟨w.heap.size + 1, o, none⟩ = (#[.int .i64 0, .int .i64 0, .int .i64 0, .int .i64 0, .bool false, .bool false, .slice none 0 0, .bool false, .int .i64 0, .bool false, .slice none 0 0, .slice none 0 0, .int .i64 0, .int .i64 0, .slice none 0 0, .slice none 0 0, .slice none 0 0, .bool false] : Array Value)[o]? := bx_setC kR (by omega)
  replace fR : ∀ o, (W5.setCell ⟨q, 12, none⟩ (.int .i64 (eN : Int))).frozen? ⟨w.heap.size + 1, o, none⟩ = false := fx_setC fR
  replace HOF : Hid (Own (W5.setCell ⟨q, 12, none⟩ (.int .i64 (eN : Int))) (w.heap.size + 1 + 1) q shConnO (y0, y1, y2, y3, y4, d5, y6, y7, y8, (dn, ps, ()), y10, (eN : Int), d12, ()) [.int .i64 y0, .int .i64 y1, .int .i64 y2, .bool y3, .bool y4, u, .bool y6, .int .i64 y7, .bool y8, v1, v2, .int .i64 y10, .int .i64 (eN : Int), s]) := Own.keep HOF.out (fun b h1 h2 => Below.heap_setCell _ _ _ _ (by dsimp only; omega))
  replace HB : Hid (Below w.heap.size w (W5.setCell ⟨q, 12, none⟩ (.int .i64 (eN : Int)))) := Below.setCell (p := ⟨q, 12, none⟩) HB.out (show w.heap.size ≤ q by omega) _
  have z6 : q < (W5.setCell ⟨q, 12, none⟩ (.int .i64 (eN : Int))).heap.size := by simpa using z5
  generalize hW7 : W5.setCell ⟨q, 12, none⟩ (.int .i64 (eN : Int)) = W7 at k0 kM kR fR HOF HB z6 ⊢
  clear hW7 fM z5
  have hg0 : (0 : Int) ≤ (gN : Int) := by omega
  have he0 : (gN : Int) ≤ (eN : Int) := by omega
  have hec : (eN : Int) ≤ (c9 : Int) := by omega
  have hec2 : eN ≤ c9 := by omega
  have hge1 := hge.1
  have HLN : Hid (((dn.take eN).drop gN).length = eN - gN) := cut_len _ _ _ (by rw [HM9.out]; exact hge.2)
  obtain ⟨mm, hmm⟩ : ∃ mm, w.heap.size + mm = q + 1 := ⟨q + 1 - w.heap.size, by omega⟩
  have HS : Hid (SB2 w mm w.heap.size q A #[.int .i64 y0, .int .i64 y1, .int .i64 y2, .bool y3, .bool y4, u, .bool y6, .int .i64 y7, .bool y8, v1, v2, .int .i64 y10, .int .i64 (eN : Int), s] W7.drew) := SB2.drew ⟨HB.out, by omega, k0, kM⟩
  have HIL : Hid ((Tryz.prog.info? 29).map (·.size) = some (#[.int .i64 y0, .int .i64 y1, .int .i64 y2, .bool y3, .bool y4, u, .bool y6, .int .i64 y7, .bool y8, v1, v2, .int .i64 y10, .int .i64 (eN : Int), s] : Array Value).toList.length) := (by kernel_rfl : (Tryz.prog.info? 29).map (·.size) = some 14)
  by_cases hz : c9 - gN = 0
  case pos =>
    refine wp_region_noPanic ?_
    refine Goes.start (S := SB2 w mm w.heap.size q A #[.int .i64 y0, .int .i64 y1, .int .i64 y2, .bool y3, .bool y4, u, .bool y6, .int .i64 y7, .bool y8, v1, v2, .int .i64 y10, .int .i64 (eN : Int), s]) (z := 15) (by kernel_rfl) ?_
    replace kR : ∀ o, W7.drew.cell? ⟨w.heap.size + 1, o, none⟩ = (#[.int .i64 0, .int .i64 0, .int .i64 0, .int .i64 0, .bool false, .bool false, .slice none 0 0, .bool false, .int .i64 0, .bool false, .slice none 0 0, .slice none 0 0, .int .i64 0, .int .i64 0, .slice none 0 0, .slice none 0 0, .slice none 0 0, .bool false] : Array Value)[o]? := kR
    replace fR : ∀ o, W7.drew.frozen? ⟨w.heap.size + 1, o, none⟩ = false := fR
    replace HOF : Hid (Own W7.drew (w.heap.size + 1 + 1) q shConnO (y0, y1, y2, y3, y4, d5, y6, y7, y8, (dn, ps, ()), y10, (eN : Int), d12, ()) [.int .i64 y0, .int .i64 y1, .int .i64 y2, .bool y3, .bool y4, u, .bool y6, .int .i64 y7, .bool y8, v1, v2, .int .i64 y10, .int .i64 (eN : Int), s]) := HOF.out.below (Nat.le_of_lt z6) (Below.refl _ _).drew
    replace z6 : q < W7.drew.heap.size := z6
    replace HB : Hid (Below w.heap.size w W7.drew) := HB.out.drew
    clear k0 kM
    generalize hV : W7.drew = V at HS kR fR HOF z6 HB ⊢
    clear hV W7
    refine Goes.take (i := 0) (oi := ?oi21) (x := .agg ((#[.int .i64 y0, .int .i64 y1, .int .i64 y2, .bool y3, .bool y4, u, .bool y6, .int .i64 y7, .bool y8, v1, v2, .int .i64 y10, .int .i64 (eN : Int), s] : Array Value).toList).toArray) ?ho21 (by kernel_rfl) (by kernel_rfl) (by kernel_rfl) (by kernel_rfl) (fun _ _ _ h => h) ?hy21 HS.out ?rest21
    case ho21 => (simp only [List.getElem?_toArray, List.getElem?_cons_zero]; rfl)
    case hy21 => exact yieldsIf_load_mid (by rfl) 29 _ rfl (q) (0) (by rfl) ((#[.int .i64 y0, .int .i64 y1, .int .i64 y2, .bool y3, .bool y4, u, .bool y6, .int .i64 y7, .bool y8, v1, v2, .int .i64 y10, .int .i64 (eN : Int), s] : Array Value).toList) _ (fun w' hSw => bx_range hSw.k1) Tryz.underlying29 rfl HIL.out
    case rest21 =>
    (try simp only [Act.put, List.setIfInBounds_toArray, List.set_cons_zero, List.set_cons_succ])
    refine Goes.take (i := 2) (oi := ?oi22) (x := ?vx22) ?ho22 (by kernel_rfl) (by kernel_rfl) (by kernel_rfl) (by kernel_rfl) (fun _ _ _ h => h) (Or.inl ⟨?hw22, ?hy22⟩) HS.out ?rest22
    case ho22 => (simp only [List.getElem?_toArray, List.getElem?_cons_succ, List.getElem?_cons_zero]; rfl)
    case hw22 => rfl
    case hy22 => (intro w' hSw; have j0 := hSw.k0; have j1 := hSw.k1; go_simp; (try with_reducible rfl))
    case rest22 =>
    (try simp only [Act.put, List.setIfInBounds_toArray, List.set_cons_zero, List.set_cons_succ])
    refine Goes.take (i := 3) (oi := ?oi23) (x := ?vx23) ?ho23 (by kernel_rfl) (by kernel_rfl) (by kernel_rfl) (by kernel_rfl) (fun _ _ _ h => h) (Or.inl ⟨?hw23, ?hy23⟩) HS.out ?rest23
    case ho23 => (simp only [List.getElem?_toArray, List.getElem?_cons_succ, List.getElem?_cons_zero]; rfl)
    case hw23 => rfl
    case hy23 => (intro w' hSw; have j0 := hSw.k0; have j1 := hSw.k1; go_simp; (try with_reducible rfl))
    case rest23 =>
    (try simp only [Act.put, List.setIfInBounds_toArray, List.set_cons_zero, List.set_cons_succ])
    refine Goes.take (i := 4) (oi := ?oi24) (x := ?vx24) ?ho24 (by kernel_rfl) (by kernel_rfl) (by kernel_rfl) (by kernel_rfl) (fun _ _ _ h => h) (Or.inl ⟨?hw24, ?hy24⟩) HS.out ?rest24
    case ho24 => (simp only [List.getElem?_toArray, List.getElem?_cons_succ, List.getElem?_cons_zero]; rfl)
    case hw24 => rfl
    case hy24 => (intro w' hSw; have j0 := hSw.k0; have j1 := hSw.k1; go_simp; (try with_reducible rfl))
    case rest24 =>
    (try simp only [Act.put, List.setIfInBounds_toArray, List.set_cons_zero, List.set_cons_succ])
    refine Goes.take (i := 5) (oi := ?oi25) (x := ?vx25) ?ho25 (by kernel_rfl) (by kernel_rfl) (by kernel_rfl) (by kernel_rfl) (fun _ _ _ h => h) (Or.inl ⟨?hw25, ?hy25⟩) HS.out ?rest25
    case ho25 => (simp only [List.getElem?_toArray, List.getElem?_cons_succ, List.getElem?_cons_zero]; rfl)
    case hw25 => rfl
    case hy25 => (intro w' hSw; have j0 := hSw.k0; have j1 := hSw.k1; go_simp; (try with_reducible rfl))
    case rest25 =>
    (try simp only [Act.put, List.setIfInBounds_toArray, List.set_cons_zero, List.set_cons_succ])
    refine Goes.take (i := 6) (oi := ?oi26) (x := ?vx26) ?ho26 (by kernel_rfl) (by kernel_rfl) (by kernel_rfl) (by kernel_rfl) (fun _ _ _ h => h) (Or.inl ⟨?hw26, ?hy26⟩) HS.out ?rest26
    case ho26 => (simp only [List.getElem?_toArray, List.getElem?_cons_succ, List.getElem?_cons_zero]; rfl)
    case hw26 => rfl
    case hy26 => (intro w' hSw; have j0 := hSw.k0; have j1 := hSw.k1; go_simp; (try with_reducible rfl))
    case rest26 =>
    (try simp only [Act.put, List.setIfInBounds_toArray, List.set_cons_zero, List.set_cons_succ])
    refine Goes.take (i := 7) (oi := ?oi27) (x := ?vx27) ?ho27 (by kernel_rfl) (by kernel_rfl) (by kernel_rfl) (by kernel_rfl) (fun _ _ _ h => h) (Or.inl ⟨?hw27, ?hy27⟩) HS.out ?rest27
    case ho27 => (simp only [List.getElem?_toArray, List.getElem?_cons_succ, List.getElem?_cons_zero]; rfl)
    case hw27 => rfl
    case hy27 => (intro w' hSw; have j0 := hSw.k0; have j1 := hSw.k1; go_simp; (try with_reducible rfl))
    case rest27 =>
    (try simp only [Act.put, List.setIfInBounds_toArray, List.set_cons_zero, List.set_cons_succ])
    refine Goes.take (i := 8) (oi := ?oi28) (x := ?vx28) ?ho28 (by kernel_rfl) (by kernel_rfl) (by kernel_rfl) (by kernel_rfl) (fun _ _ _ h => h) (Or.inl ⟨?hw28, ?hy28⟩) HS.out ?rest28
    case ho28 => (simp only [List.getElem?_toArray, List.getElem?_cons_succ, List.getElem?_cons_zero]; rfl)
    case hw28 => rfl
    case hy28 => (intro w' hSw; have j0 := hSw.k0; have j1 := hSw.k1; go_simp; (try with_reducible rfl))
    case rest28 =>
    (try simp only [Act.put, List.setIfInBounds_toArray, List.set_cons_zero, List.set_cons_succ])
    refine Goes.take (i := 10) (oi := ?oi29) (x := ?vx29) ?ho29 (by kernel_rfl) (by kernel_rfl) (by kernel_rfl) (by kernel_rfl) (fun _ _ _ h => h) (Or.inl ⟨?hw29, ?hy29⟩) HS.out ?rest29
    case ho29 => (simp only [List.getElem?_toArray, List.getElem?_cons_succ, List.getElem?_cons_zero]; rfl)
    case hw29 => rfl
    case hy29 => (intro w' hSw; have j0 := hSw.k0; have j1 := hSw.k1; go_simp; (try with_reducible rfl))
    case rest29 =>
    (try simp only [Act.put, List.setIfInBounds_toArray, List.set_cons_zero, List.set_cons_succ])
    refine Goes.take (i := 11) (oi := ?oi30) (x := ?vx30) ?ho30 (by kernel_rfl) (by kernel_rfl) (by kernel_rfl) (by kernel_rfl) (fun _ _ _ h => h) (Or.inl ⟨?hw30, ?hy30⟩) HS.out ?rest30
    case ho30 => (simp only [List.getElem?_toArray, List.getElem?_cons_succ, List.getElem?_cons_zero]; rfl)
    case hw30 => rfl
    case hy30 => (intro w' hSw; have j0 := hSw.k0; have j1 := hSw.k1; go_simp; (try with_reducible rfl))
    case rest30 =>
    (try simp only [Act.put, List.setIfInBounds_toArray, List.set_cons_zero, List.set_cons_succ])
    refine Goes.take (i := 12) (oi := ?oi31) (x := ?vx31) ?ho31 (by kernel_rfl) (by kernel_rfl) (by kernel_rfl) (by kernel_rfl) (fun _ _ _ h => h) (Or.inl ⟨?hw31, ?hy31⟩) HS.out ?rest31
    case ho31 => (simp only [List.getElem?_toArray, List.getElem?_cons_succ, List.getElem?_cons_zero]; rfl)
    case hw31 => rfl
    case hy31 => (intro w' hSw; have j0 := hSw.k0; have j1 := hSw.k1; go_simp; (try with_reducible rfl))
    case rest31 =>
    (try simp only [Act.put, List.setIfInBounds_toArray, List.set_cons_zero, List.set_cons_succ])
    refine Goes.take (i := 13) (oi := ?oi32) (x := ?vx32) ?ho32 (by kernel_rfl) (by kernel_rfl) (by kernel_rfl) (by kernel_rfl) (fun _ _ _ h => h) (Or.inl ⟨?hw32, ?hy32⟩) HS.out ?rest32
    case ho32 => (simp only [List.getElem?_toArray, List.getElem?_cons_succ, List.getElem?_cons_zero]; rfl)
    case hw32 => rfl
    case hy32 => (intro w' hSw; have j0 := hSw.k0; have j1 := hSw.k1; go_simp; (try with_reducible rfl))
    case rest32 =>
    (try simp only [Act.put, List.setIfInBounds_toArray, List.set_cons_zero, List.set_cons_succ])
    rw [if_pos (show c9 = gN by omega)]
    refine Goes.all (rs := [1]) (by kernel_rfl) (by simp) ?_
    refine Ups.cons (i := 1) (o := ?oo33) ?ho33 (fun KK hKK => ?stp33) Ups.nil
    case ho33 => (simp only [List.getElem?_toArray, List.getElem?_cons_succ, List.getElem?_cons_zero]; rfl)
    case stp33 =>
    go_simp
    have hb8 : Below V.heap.size V (V.alloc (.cells #[] 5)) := (Below.refl _ _).alloc (Nat.le_refl _) _
    have HS8 : Hid (SB2 w mm w.heap.size q A #[.int .i64 y0, .int .i64 y1, .int .i64 y2, .bool y3, .bool y4, u, .bool y6, .int .i64 y7, .bool y8, v1, v2, .int .i64 y10, .int .i64 (eN : Int), s] (V.alloc (.cells #[] 5))) := SB2.below HS.out hb8 (by omega) (by omega)
    refine hKK.out _ _ (Or.inr HS8.out) ?_
    clear hKK KK
    (try simp only [Act.put, List.setIfInBounds_toArray, List.set_cons_zero, List.set_cons_succ])
    refine Goes.all (rs := [9]) (by kernel_rfl) (by simp) ?_
    refine Ups.cons (i := 9) (o := ?oo34) ?ho34 (fun KK hKK => ?stp34) Ups.nil
    case ho34 => (simp only [List.getElem?_toArray, List.getElem?_cons_succ, List.getElem?_cons_zero]; rfl)
    case stp34 =>
    refine app_st (V.alloc (.cells #[] 5)) (by rfl) _ _ 22 22 (by rfl) Tryz.underlying22 Tryz.underlying22 V.heap.size (.slice (some ⟨V.heap.size, 0, none⟩) 0 0) [] (by rfl) (ob_made9 V V.heap.size (Nat.le_refl _)) a9 ((dn.take eN).drop gN) (eN - gN) 0 HLN.out (by rfl) (by rw [cut_nil _ _ _ (by omega)]; exact RB.nil _ _) (fun _ => rfl) (by simp; omega) (by simp) ?_
    intro v2 w9 ho9 hb9 hg9 hat9
    obtain ⟨b8, c8, hv2, -, -⟩ := ho9.rbn
    rw [List.nil_append, HLN.out] at hv2
    subst hv2
    have hbq : Below V.heap.size V w9 := hb8.trans hb9
    have HS9 : Hid (SB2 w mm w.heap.size q A #[.int .i64 y0, .int .i64 y1, .int .i64 y2, .bool y3, .bool y4, u, .bool y6, .int .i64 y7, .bool y8, v1, v2, .int .i64 y10, .int .i64 (eN : Int), s] w9) := SB2.below HS.out hbq (by omega) (by omega)
    have ho9' := own_bytes ho9 (Nat.le_refl _)
    rw [List.nil_append] at ho9'
    have HO8 : Hid (Own w9 q w9.heap.size u8s ((dn.take eN).drop gN) [.slice b8 (eN - gN) c8]) := Own.mono ho9' (by omega) (Nat.le_refl _)
    replace HOF : Hid (Own w9 (w.heap.size + 1 + 1) q shConnO (y0, y1, y2, y3, y4, d5, y6, y7, y8, (dn, ps, ()), y10, (eN : Int), d12, ()) [.int .i64 y0, .int .i64 y1, .int .i64 y2, .bool y3, .bool y4, u, .bool y6, .int .i64 y7, .bool y8, v1, v2, .int .i64 y10, .int .i64 (eN : Int), s]) := HOF.out.below (by omega) hbq
    replace kR := bx_below kR (by omega) hbq
    replace fR := bxF fR hbq (by omega)
    have hz9 := hbq.size
    replace HB : Hid (Below w.heap.size w w9) := HB.out.trans (hbq.mono HB.out.size)
    clear ho9 ho9' hbq hb9 hg9 hat9
    obtain ⟨N, hN⟩ : ∃ N : Array Value, N = #[.int .i64 0, .int .i64 y0, .int .i64 y1, .int .i64 y2, .bool y3, .bool y4, u, .bool y6, .int .i64 y7, .bool y8, v1, v2, .int .i64 y10, .int .i64 (eN : Int), s, .slice none 0 0, .slice b8 (eN - gN) c8, .bool (decide (y10 = (eN : Int)))] := ⟨_, rfl⟩
    have HN : Hid _ := hN
    have hNz : N.size = 18 := by rw [hN]; rfl
    have HIN : Hid ((Tryz.prog.info? 63).map (·.size) = some N.size) := by show _ = _; rw [hNz]; exact info_R18
    have HNZ : Hid _ := hNz
    have HTH : Hid (w9.there (w.heap.size + 1) 0 N.size) := bx_there kR fR (by rw [HNZ.out]; rfl)
    have kF : Hid (∀ o, (w9.setCells (w.heap.size + 1) 0 N.toList).cell? ⟨w.heap.size + 1, o, none⟩ = N[o]?) := bx_setCells kR (by rw [HNZ.out]; rfl)
    have HRES : Hid (Own w9 (w.heap.size + 1 + 1) w9.heap.size shCR (0, (y0, y1, y2, y3, y4, d5, y6, y7, y8, (dn, ps, ()), y10, (eN : Int), d12, ()), [], (dn.take eN).drop gN, decide (y10 = (eN : Int)), ()) N.toList) := by show Own _ _ _ _ _ _; rw [hN]; exact own_CRd (by omega) (by omega) HOF.out HO8.out
    have HONE : Hid (N.all (·.oneCell') = true) := rd_all (s := shCR) (HRES.out.rd (Nat.le_refl _))
    clear hN hNz HOF HO8
    refine hKK.out _ _ (Or.inr HS9.out) ?_
    clear hKK KK
    (try simp only [Act.put, List.setIfInBounds_toArray, List.set_cons_zero, List.set_cons_succ])
    refine Goes.take (i := 14) (oi := ?oi35) (x := ?vx35) ?ho35 (by kernel_rfl) (by kernel_rfl) (by kernel_rfl) (by kernel_rfl) (fun _ _ _ h => h) (Or.inl ⟨?hw35, ?hy35⟩) HS9.out ?rest35
    case ho35 => (simp only [List.getElem?_toArray, List.getElem?_cons_succ, List.getElem?_cons_zero]; rfl)
    case hw35 => rfl
    case hy35 => (intro w' hSw; have j0 := hSw.k0; have j1 := hSw.k1; go_simp; (try with_reducible rfl))
    case rest35 =>
    (try simp only [Act.put, List.setIfInBounds_toArray, List.set_cons_zero, List.set_cons_succ])
    refine Goes.all (rs := [15]) (by kernel_rfl) (by simp) ?_
    refine Ups.cons (i := 15) (o := ?oo36) ?ho36 (fun KK hKK => ?stp36) Ups.nil
    case ho36 => (simp only [List.getElem?_toArray, List.getElem?_cons_succ, List.getElem?_cons_zero]; rfl)
    case stp36 =>
    rw [if_pos (by rfl)]
    refine wp_store_mid 63 _ _ rfl _ _ N (by rfl) (by rw [HN.out]; rfl) HTH.out HIN.out HONE.out ?_
    refine hKK.out _ _ (Or.inl rfl) ?_
    clear hKK KK
    (try simp only [Act.put])
    refine Goes.done (by kernel_rfl) ?_ _
    refine NoPanic.normal ?_
    go_wp2_with fail
    refine bodyPost_ret (results_box Tryz.results34 _ _ _ N _ (by rfl) kF.out Tryz.underlying63 rfl HIN.out) rfl ⟨N, rfl, ?_, ?_⟩
    · refine Own.mono (Own.keep HRES.out fun b hb hlt => setCells_block (by omega) _ _ _) (by omega) (by rw [setCells_size]; omega)
    · exact setCells_below (by omega) _ _ _ _ HB.out
  case neg =>
    refine wp_region_noPanic ?_
    refine Goes.start (S := SB2 w mm w.heap.size q A #[.int .i64 y0, .int .i64 y1, .int .i64 y2, .bool y3, .bool y4, u, .bool y6, .int .i64 y7, .bool y8, v1, v2, .int .i64 y10, .int .i64 (eN : Int), s]) (z := 15) (by kernel_rfl) ?_
    replace kR : ∀ o, W7.drew.cell? ⟨w.heap.size + 1, o, none⟩ = (#[.int .i64 0, .int .i64 0, .int .i64 0, .int .i64 0, .bool false, .bool false, .slice none 0 0, .bool false, .int .i64 0, .bool false, .slice none 0 0, .slice none 0 0, .int .i64 0, .int .i64 0, .slice none 0 0, .slice none 0 0, .slice none 0 0, .bool false] : Array Value)[o]? := kR
    replace fR : ∀ o, W7.drew.frozen? ⟨w.heap.size + 1, o, none⟩ = false := fR
    replace HOF : Hid (Own W7.drew (w.heap.size + 1 + 1) q shConnO (y0, y1, y2, y3, y4, d5, y6, y7, y8, (dn, ps, ()), y10, (eN : Int), d12, ()) [.int .i64 y0, .int .i64 y1, .int .i64 y2, .bool y3, .bool y4, u, .bool y6, .int .i64 y7, .bool y8, v1, v2, .int .i64 y10, .int .i64 (eN : Int), s]) := HOF.out.below (Nat.le_of_lt z6) (Below.refl _ _).drew
    replace z6 : q < W7.drew.heap.size := z6
    replace HB : Hid (Below w.heap.size w W7.drew) := HB.out.drew
    clear k0 kM
    generalize hV : W7.drew = V at HS kR fR HOF z6 HB ⊢
    clear hV W7
    refine Goes.take (i := 0) (oi := ?oi61) (x := .agg ((#[.int .i64 y0, .int .i64 y1, .int .i64 y2, .bool y3, .bool y4, u, .bool y6, .int .i64 y7, .bool y8, v1, v2, .int .i64 y10, .int .i64 (eN : Int), s] : Array Value).toList).toArray) ?ho61 (by kernel_rfl) (by kernel_rfl) (by kernel_rfl) (by kernel_rfl) (fun _ _ _ h => h) ?hy61 HS.out ?rest61
    case ho61 => (simp only [List.getElem?_toArray, List.getElem?_cons_zero]; rfl)
    case hy61 => exact yieldsIf_load_mid (by rfl) 29 _ rfl (q) (0) (by rfl) ((#[.int .i64 y0, .int .i64 y1, .int .i64 y2, .bool y3, .bool y4, u, .bool y6, .int .i64 y7, .bool y8, v1, v2, .int .i64 y10, .int .i64 (eN : Int), s] : Array Value).toList) _ (fun w' hSw => bx_range hSw.k1) Tryz.underlying29 rfl HIL.out
    case rest61 =>
    (try simp only [Act.put, List.setIfInBounds_toArray, List.set_cons_zero, List.set_cons_succ])
    refine Goes.take (i := 2) (oi := ?oi62) (x := ?vx62) ?ho62 (by kernel_rfl) (by kernel_rfl) (by kernel_rfl) (by kernel_rfl) (fun _ _ _ h => h) (Or.inl ⟨?hw62, ?hy62⟩) HS.out ?rest62
    case ho62 => (simp only [List.getElem?_toArray, List.getElem?_cons_succ, List.getElem?_cons_zero]; rfl)
    case hw62 => rfl
    case hy62 => (intro w' hSw; have j0 := hSw.k0; have j1 := hSw.k1; go_simp; (try with_reducible rfl))
    case rest62 =>
    (try simp only [Act.put, List.setIfInBounds_toArray, List.set_cons_zero, List.set_cons_succ])
    refine Goes.take (i := 3) (oi := ?oi63) (x := ?vx63) ?ho63 (by kernel_rfl) (by kernel_rfl) (by kernel_rfl) (by kernel_rfl) (fun _ _ _ h => h) (Or.inl ⟨?hw63, ?hy63⟩) HS.out ?rest63
    case ho63 => (simp only [List.getElem?_toArray, List.getElem?_cons_succ, List.getElem?_cons_zero]; rfl)
    case hw63 => rfl
    case hy63 => (intro w' hSw; have j0 := hSw.k0; have j1 := hSw.k1; go_simp; (try with_reducible rfl))
    case rest63 =>
    (try simp only [Act.put, List.setIfInBounds_toArray, List.set_cons_zero, List.set_cons_succ])
    refine Goes.take (i := 4) (oi := ?oi64) (x := ?vx64) ?ho64 (by kernel_rfl) (by kernel_rfl) (by kernel_rfl) (by kernel_rfl) (fun _ _ _ h => h) (Or.inl ⟨?hw64, ?hy64⟩) HS.out ?rest64
    case ho64 => (simp only [List.getElem?_toArray, List.getElem?_cons_succ, List.getElem?_cons_zero]; rfl)
    case hw64 => rfl
    case hy64 => (intro w' hSw; have j0 := hSw.k0; have j1 := hSw.k1; go_simp; (try with_reducible rfl))
    case rest64 =>
    (try simp only [Act.put, List.setIfInBounds_toArray, List.set_cons_zero, List.set_cons_succ])
    refine Goes.take (i := 5) (oi := ?oi65) (x := ?vx65) ?ho65 (by kernel_rfl) (by kernel_rfl) (by kernel_rfl) (by kernel_rfl) (fun _ _ _ h => h) (Or.inl ⟨?hw65, ?hy65⟩) HS.out ?rest65
    case ho65 => (simp only [List.getElem?_toArray, List.getElem?_cons_succ, List.getElem?_cons_zero]; rfl)
    case hw65 => rfl
    case hy65 => (intro w' hSw; have j0 := hSw.k0; have j1 := hSw.k1; go_simp; (try with_reducible rfl))
    case rest65 =>
    (try simp only [Act.put, List.setIfInBounds_toArray, List.set_cons_zero, List.set_cons_succ])
    refine Goes.take (i := 6) (oi := ?oi66) (x := ?vx66) ?ho66 (by kernel_rfl) (by kernel_rfl) (by kernel_rfl) (by kernel_rfl) (fun _ _ _ h => h) (Or.inl ⟨?hw66, ?hy66⟩) HS.out ?rest66
    case ho66 => (simp only [List.getElem?_toArray, List.getElem?_cons_succ, List.getElem?_cons_zero]; rfl)
    case hw66 => rfl
    case hy66 => (intro w' hSw; have j0 := hSw.k0; have j1 := hSw.k1; go_simp; (try with_reducible rfl))
    case rest66 =>
    (try simp only [Act.put, List.setIfInBounds_toArray, List.set_cons_zero, List.set_cons_succ])
    refine Goes.take (i := 7) (oi := ?oi67) (x := ?vx67) ?ho67 (by kernel_rfl) (by kernel_rfl) (by kernel_rfl) (by kernel_rfl) (fun _ _ _ h => h) (Or.inl ⟨?hw67, ?hy67⟩) HS.out ?rest67
    case ho67 => (simp only [List.getElem?_toArray, List.getElem?_cons_succ, List.getElem?_cons_zero]; rfl)
    case hw67 => rfl
    case hy67 => (intro w' hSw; have j0 := hSw.k0; have j1 := hSw.k1; go_simp; (try with_reducible rfl))
    case rest67 =>
    (try simp only [Act.put, List.setIfInBounds_toArray, List.set_cons_zero, List.set_cons_succ])
    refine Goes.take (i := 8) (oi := ?oi68) (x := ?vx68) ?ho68 (by kernel_rfl) (by kernel_rfl) (by kernel_rfl) (by kernel_rfl) (fun _ _ _ h => h) (Or.inl ⟨?hw68, ?hy68⟩) HS.out ?rest68
    case ho68 => (simp only [List.getElem?_toArray, List.getElem?_cons_succ, List.getElem?_cons_zero]; rfl)
    case hw68 => rfl
    case hy68 => (intro w' hSw; have j0 := hSw.k0; have j1 := hSw.k1; go_simp; (try with_reducible rfl))
    case rest68 =>
    (try simp only [Act.put, List.setIfInBounds_toArray, List.set_cons_zero, List.set_cons_succ])
    refine Goes.take (i := 10) (oi := ?oi69) (x := ?vx69) ?ho69 (by kernel_rfl) (by kernel_rfl) (by kernel_rfl) (by kernel_rfl) (fun _ _ _ h => h) (Or.inl ⟨?hw69, ?hy69⟩) HS.out ?rest69
    case ho69 => (simp only [List.getElem?_toArray, List.getElem?_cons_succ, List.getElem?_cons_zero]; rfl)
    case hw69 => rfl
    case hy69 => (intro w' hSw; have j0 := hSw.k0; have j1 := hSw.k1; go_simp; (try with_reducible rfl))
    case rest69 =>
    (try simp only [Act.put, List.setIfInBounds_toArray, List.set_cons_zero, List.set_cons_succ])
    refine Goes.take (i := 11) (oi := ?oi70) (x := ?vx70) ?ho70 (by kernel_rfl) (by kernel_rfl) (by kernel_rfl) (by kernel_rfl) (fun _ _ _ h => h) (Or.inl ⟨?hw70, ?hy70⟩) HS.out ?rest70
    case ho70 => (simp only [List.getElem?_toArray, List.getElem?_cons_succ, List.getElem?_cons_zero]; rfl)
    case hw70 => rfl
    case hy70 => (intro w' hSw; have j0 := hSw.k0; have j1 := hSw.k1; go_simp; (try with_reducible rfl))
    case rest70 =>
    (try simp only [Act.put, List.setIfInBounds_toArray, List.set_cons_zero, List.set_cons_succ])
    refine Goes.take (i := 12) (oi := ?oi71) (x := ?vx71) ?ho71 (by kernel_rfl) (by kernel_rfl) (by kernel_rfl) (by kernel_rfl) (fun _ _ _ h => h) (Or.inl ⟨?hw71, ?hy71⟩) HS.out ?rest71
    case ho71 => (simp only [List.getElem?_toArray, List.getElem?_cons_succ, List.getElem?_cons_zero]; rfl)
    case hw71 => rfl
    case hy71 => (intro w' hSw; have j0 := hSw.k0; have j1 := hSw.k1; go_simp; (try with_reducible rfl))
    case rest71 =>
    (try simp only [Act.put, List.setIfInBounds_toArray, List.set_cons_zero, List.set_cons_succ])
    refine Goes.take (i := 13) (oi := ?oi72) (x := ?vx72) ?ho72 (by kernel_rfl) (by kernel_rfl) (by kernel_rfl) (by kernel_rfl) (fun _ _ _ h => h) (Or.inl ⟨?hw72, ?hy72⟩) HS.out ?rest72
    case ho72 => (simp only [List.getElem?_toArray, List.getElem?_cons_succ, List.getElem?_cons_zero]; rfl)
    case hw72 => rfl
    case hy72 => (intro w' hSw; have j0 := hSw.k0; have j1 := hSw.k1; go_simp; (try with_reducible rfl))
    case rest72 =>
    (try simp only [Act.put, List.setIfInBounds_toArray, List.set_cons_zero, List.set_cons_succ])
    rw [if_neg (show ¬ c9 = gN by omega)]
    refine Goes.all (rs := [1]) (by kernel_rfl) (by simp) ?_
    refine Ups.cons (i := 1) (o := ?oo73) ?ho73 (fun KK hKK => ?stp73) Ups.nil
    case ho73 => (simp only [List.getElem?_toArray, List.getElem?_cons_succ, List.getElem?_cons_zero]; rfl)
    case stp73 =>
    go_simp
    have hb8 : Below V.heap.size V (V.alloc (.cells #[] 5)) := (Below.refl _ _).alloc (Nat.le_refl _) _
    have HS8 : Hid (SB2 w mm w.heap.size q A #[.int .i64 y0, .int .i64 y1, .int .i64 y2, .bool y3, .bool y4, u, .bool y6, .int .i64 y7, .bool y8, v1, v2, .int .i64 y10, .int .i64 (eN : Int), s] (V.alloc (.cells #[] 5))) := SB2.below HS.out hb8 (by omega) (by omega)
    refine hKK.out _ _ (Or.inr HS8.out) ?_
    clear hKK KK
    (try simp only [Act.put, List.setIfInBounds_toArray, List.set_cons_zero, List.set_cons_succ])
    refine Goes.all (rs := [9]) (by kernel_rfl) (by simp) ?_
    refine Ups.cons (i := 9) (o := ?oo74) ?ho74 (fun KK hKK => ?stp74) Ups.nil
    case ho74 => (simp only [List.getElem?_toArray, List.getElem?_cons_succ, List.getElem?_cons_zero]; rfl)
    case stp74 =>
    refine app_st (V.alloc (.cells #[] 5)) (by rfl) _ _ 22 22 (by rfl) Tryz.underlying22 Tryz.underlying22 V.heap.size (.slice (some ⟨V.heap.size, 0, none⟩) 0 0) [] (by rfl) (ob_made9 V V.heap.size (Nat.le_refl _)) (a9.map fun x => x.add gN) ((dn.take eN).drop gN) (eN - gN) (c9 - gN) HLN.out (by rfl) (rb_cut (HRB.out _ (HB.out.trans (hb8.mono HB.out.size))) _ _ hge.1 (by rw [HM9.out]; exact hge.2)) (fun e => by cases a9 with | none => (have := HNI.out rfl; omega) | some x => simp at e) (by simp; omega) (by simp) ?_
    intro v2 w9 ho9 hb9 hg9 hat9
    obtain ⟨b8, c8, hv2, -, -⟩ := ho9.rbn
    rw [List.nil_append, HLN.out] at hv2
    subst hv2
    have hbq : Below V.heap.size V w9 := hb8.trans hb9
    have HS9 : Hid (SB2 w mm w.heap.size q A #[.int .i64 y0, .int .i64 y1, .int .i64 y2, .bool y3, .bool y4, u, .bool y6, .int .i64 y7, .bool y8, v1, v2, .int .i64 y10, .int .i64 (eN : Int), s] w9) := SB2.below HS.out hbq (by omega) (by omega)
    have ho9' := own_bytes ho9 (Nat.le_refl _)
    rw [List.nil_append] at ho9'
    have HO8 : Hid (Own w9 q w9.heap.size u8s ((dn.take eN).drop gN) [.slice b8 (eN - gN) c8]) := Own.mono ho9' (by omega) (Nat.le_refl _)
    replace HOF : Hid (Own w9 (w.heap.size + 1 + 1) q shConnO (y0, y1, y2, y3, y4, d5, y6, y7, y8, (dn, ps, ()), y10, (eN : Int), d12, ()) [.int .i64 y0, .int .i64 y1, .int .i64 y2, .bool y3, .bool y4, u, .bool y6, .int .i64 y7, .bool y8, v1, v2, .int .i64 y10, .int .i64 (eN : Int), s]) := HOF.out.below (by omega) hbq
    replace kR := bx_below kR (by omega) hbq
    replace fR := bxF fR hbq (by omega)
    have hz9 := hbq.size
    replace HB : Hid (Below w.heap.size w w9) := HB.out.trans (hbq.mono HB.out.size)
    clear ho9 ho9' hbq hb9 hg9 hat9
    obtain ⟨N, hN⟩ : ∃ N : Array Value, N = #[.int .i64 0, .int .i64 y0, .int .i64 y1, .int .i64 y2, .bool y3, .bool y4, u, .bool y6, .int .i64 y7, .bool y8, v1, v2, .int .i64 y10, .int .i64 (eN : Int), s, .slice none 0 0, .slice b8 (eN - gN) c8, .bool (decide (y10 = (eN : Int)))] := ⟨_, rfl⟩
    have HN : Hid _ := hN
    have hNz : N.size = 18 := by rw [hN]; rfl
    have HIN : Hid ((Tryz.prog.info? 63).map (·.size) = some N.size) := by show _ = _; rw [hNz]; exact info_R18
    have HNZ : Hid _ := hNz
    have HTH : Hid (w9.there (w.heap.size + 1) 0 N.size) := bx_there kR fR (by rw [HNZ.out]; rfl)
    have kF : Hid (∀ o, (w9.setCells (w.heap.size + 1) 0 N.toList).cell? ⟨w.heap.size + 1, o, none⟩ = N[o]?) := bx_setCells kR (by rw [HNZ.out]; rfl)
    have HRES : Hid (Own w9 (w.heap.size + 1 + 1) w9.heap.size shCR (0, (y0, y1, y2, y3, y4, d5, y6, y7, y8, (dn, ps, ()), y10, (eN : Int), d12, ()), [], (dn.take eN).drop gN, decide (y10 = (eN : Int)), ()) N.toList) := by show Own _ _ _ _ _ _; rw [hN]; exact own_CRd (by omega) (by omega) HOF.out HO8.out
    have HONE : Hid (N.all (·.oneCell') = true) := rd_all (s := shCR) (HRES.out.rd (Nat.le_refl _))
    clear hN hNz HOF HO8
    refine hKK.out _ _ (Or.inr HS9.out) ?_
    clear hKK KK
    (try simp only [Act.put, List.setIfInBounds_toArray, List.set_cons_zero, List.set_cons_succ])
    refine Goes.take (i := 14) (oi := ?oi75) (x := ?vx75) ?ho75 (by kernel_rfl) (by kernel_rfl) (by kernel_rfl) (by kernel_rfl) (fun _ _ _ h => h) (Or.inl ⟨?hw75, ?hy75⟩) HS9.out ?rest75
    case ho75 => (simp only [List.getElem?_toArray, List.getElem?_cons_succ, List.getElem?_cons_zero]; rfl)
    case hw75 => rfl
    case hy75 => (intro w' hSw; have j0 := hSw.k0; have j1 := hSw.k1; go_simp; (try with_reducible rfl))
    case rest75 =>
    (try simp only [Act.put, List.setIfInBounds_toArray, List.set_cons_zero, List.set_cons_succ])
    refine Goes.all (rs := [15]) (by kernel_rfl) (by simp) ?_
    refine Ups.cons (i := 15) (o := ?oo76) ?ho76 (fun KK hKK => ?stp76) Ups.nil
    case ho76 => (simp only [List.getElem?_toArray, List.getElem?_cons_succ, List.getElem?_cons_zero]; rfl)
    case stp76 =>
    rw [if_pos (by rfl)]
    refine wp_store_mid 63 _ _ rfl _ _ N (by rfl) (by rw [HN.out]; rfl) HTH.out HIN.out HONE.out ?_
    refine hKK.out _ _ (Or.inl rfl) ?_
    clear hKK KK
    (try simp only [Act.put])
    refine Goes.done (by kernel_rfl) ?_ _
    refine NoPanic.normal ?_
    go_wp2_with fail
    refine bodyPost_ret (results_box Tryz.results34 _ _ _ N _ (by rfl) kF.out Tryz.underlying63 rfl HIN.out) rfl ⟨N, rfl, ?_, ?_⟩
    · refine Own.mono (Own.keep HRES.out fun b hb hlt => setCells_block (by omega) _ _ _) (by omega) (by rw [setCells_size]; omega)
    · exact setCells_below (by omega) _ _ _ _ HB.out
theorem sReadConn (c : DConn) (A : Array Value) (n : Int) (w : World) (B : Nat) (hr : shConn.Rd w B c A.toList) (hB : B ≤ w.heap.size) (hT : totConn c ≤ 1048576) :
    Calls Tryz.prog 34 #[.agg A, .int .i64 n] w fun e w' => ∃ N : Array Value, e = .returned (.agg N) ∧ Own w' w.heap.size w'.heap.size shCR (redV c n) N.toList ∧ Below w.heap.size w w' := by
  have HF : ∀ W, Below w.heap.size w W → (∀ o, W.cell? ⟨w.heap.size, o, none⟩ = A[o]?) → Calls Tryz.prog 45 #[.pointer (some ⟨w.heap.size, 0, none⟩)] W fun e w' => e = .returned (.int .i64 (connF c)) ∧ Below W.heap.size W w' := fun W hW hk => sL9Fault c A w.heap.size 0 W B (ConnAt.of (bx_range hk) (Sh.Rd.below hr hB hW) (Nat.le_trans hB hW.size) hT)
  unfold redV
  by_cases hC : connF c = 0
  · rw [if_pos hC]
    rw [hC] at HF
    split
    · rename_i hf
      exact sReadOk c A n w B hr hB hT hC hf HF
    · rename_i hf
      exact (sRead3 A n w (by simpa using hf) HF).mono (by rintro e w' ⟨rfl, hb⟩; exact ⟨_, rfl, own_bad w' _ _ hb.size (by decide), hb⟩)
  · rw [if_neg hC]
    exact (sReadC A n _ hC w HF).mono (by rintro e w' ⟨rfl, hb⟩; exact ⟨_, rfl, own_bad w' _ _ hb.size (wf_i64' (by have := connF_bd c; unfold Small at this; omega)), hb⟩)
end Go.Proofs.YtmpbejckggnfaaaGreatDoor
