/- What a side answers who asks for a path, by program and model; the answer has no memory; nothing that was there turns; no condition but that there are at most a million parts. Written by mkhear.py. -/
import Derived.Test.YtmpbejckggnfaaaGreatDoorRows
import Derived.Deep.RegionHeld3
import Derived.Deep.DeepCutAuto
import Derived.Deep.MidRow
import Derived.Test.YtmpbejckggnfaaaGreatDoorK01
import Derived.Test.YtmpbejckggnfaaaGreatDoorK02
import Derived.Test.YtmpbejckggnfaaaGreatDoorK03
import Derived.Test.YtmpbejckggnfaaaGreatDoorK04
import Derived.Test.YtmpbejckggnfaaaGreatDoorK05
import Derived.Test.YtmpbejckggnfaaaGreatDoorK06
import Derived.Test.YtmpbejckggnfaaaGreatDoorK07
import Derived.Test.YtmpbejckggnfaaaGreatDoorK09
import Derived.Test.YtmpbejckggnfaaaGreatDoorK10
import Derived.Test.YtmpbejckggnfaaaGreatDoorK11
import Derived.Test.YtmpbejckggnfaaaGreatDoorK12
import Derived.Test.YtmpbejckggnfaaaGreatDoorK13
import Derived.Test.YtmpbejckggnfaaaGreatDoorK14
import Derived.Test.YtmpbejckggnfaaaGreatDoorK15
import Derived.Test.YtmpbejckggnfaaaGreatDoorK16
import Derived.Test.YtmpbejckggnfaaaGreatDoorK20
import Derived.Test.YtmpbejckggnfaaaGreatDoorK21
import Derived.Test.YtmpbejckggnfaaaGreatDoorK22
namespace Go.Proofs.YtmpbejckggnfaaaGreatDoor
open Go.RowKit
set_option linter.unusedVariables false
set_option maxRecDepth 8000

set_option maxHeartbeats 2000000 in
theorem iAnswerSegment (c : DConn) (A : Array Value) (p : Int) (w : World) (B : Nat) (hr : shConn.Rd w B c A.toList) (hB : B ≤ w.heap.size) (hT : totConn c ≤ 1048576) :
    Calls Tryz.prog 15 #[.agg A, .int .i64 p] w fun e w' => ∃ N : Array Value, e = .returned (.agg N) ∧ Own w' w.heap.size w'.heap.size shSR (ansV c p) N.toList ∧ Below w.heap.size w w' := by
  suffices H : Calls Tryz.prog 15 #[.agg A, .int .i64 p] w fun e w' => e = .returned (.agg (srA (ansV c p))) ∧ Below w.heap.size w w' from
    H.mono (by rintro e w' ⟨rfl, hb⟩; exact ⟨_, rfl, own_SR (ansV_wf hr) (ansV_nil c p), hb⟩)
  have HI : Hid ((Tryz.prog.info? 29).map (·.size) = some A.toList.length) := by show _ = _; rw [Array.length_toList, rd_size hr]; exact (by kernel_rfl : (Tryz.prog.info? 29).map (·.size) = some 14)
  have hzA : A.size = 14 := rd_size hr
  have HZA : Hid _ := hzA
  clear hzA
  have HRGX : Hid (∀ W : World, (∀ o, W.cell? ⟨w.heap.size, o, none⟩ = A[o]?) → Hid (W.rangeAt w.heap.size 0 A.toList)) := fun W hk => bx_range hk
  have HSO : Hid (∀ W, Below w.heap.size w W → Calls Tryz.prog 13 #[.agg A, .int .i64 p] W fun e w' => e = .returned (.agg #[.int .i64 (subOnC c p), .int .i64 (subOnV c p)]) ∧ Below W.heap.size W w') := fun W hW => iSubOn c A p W B (Sh.Rd.below hr hB hW) (Nat.le_trans hB hW.size) hT
  obtain ⟨N, hN⟩ : ∃ N : Array Value, N = srA (ansV c p) := ⟨_, rfl⟩
  rw [← hN]
  have hNz : N.size = 13 := by rw [hN]; rfl
  have HIN : Hid ((Tryz.prog.info? 35).map (·.size) = some N.size) := by show _ = _; rw [hNz]; exact (by kernel_rfl : (Tryz.prog.info? 35).map (·.size) = some 13)
  have HONE : Hid (N.all (·.oneCell') = true) := by show _ = _; rw [hN]; simp [srA, Value.oneCell']
  have HNZ : Hid _ := hNz
  clear hNz
  by_cases hC : subOnC c p = 0
  case neg =>
    have hNN : N = #[.int .i64 (subOnC c p), .int .i64 0, .int .i64 0, .bool false, .bool false, .bool false, .int .i64 0, .int .i64 0, .int .i64 0, .int .i64 0, .int .i64 0, .int .i64 0, .slice none 0 0] := by rw [hN, ansV_code hC]; rfl
    have HN : Hid _ := hNN
    have hC' : (subOnC c p != 0) = true := by simp [hC]
    clear hN hNN hr hC
    generalize subOnC c p = C at *
    generalize subOnV c p = V at *
    go_enter Tryz.func15, Tryz.ntmps15
    go_upto_region 1 with fail
    have HRG := HRGX.out ((w.alloc (.cells A 29)).alloc (.cells #[.int .i64 0, .int .i64 0, .int .i64 0, .bool false, .bool false, .bool false, .int .i64 0, .int .i64 0, .int .i64 0, .int .i64 0, .int .i64 0, .int .i64 0, .slice none 0 0] 35)) (fun o => by simp [go_sem])
    go_wp2_with (refine wpList_load_mid rfl 29 _ rfl _ _ (by rfl) A.toList _ HRG.out Tryz.underlying29 rfl HI.out ?_)
    refine (HSO.out _ (by go_grown)).mono ?_
    rintro e w1 ⟨rfl, hb⟩
    obtain ⟨k0, kR, fR, hb1, z0⟩ := two_boxes hb
    have HB : Hid (Below w.heap.size w w1) := hb1
    clear hb hb1 HRG HSO
    go_upto_region 2 with fail
    have kI : ∀ o, (w1.alloc (.cells #[.int .i64 C, .int .i64 V] 48)).cell? ⟨w1.heap.size, o, none⟩ = (#[.int .i64 C, .int .i64 V] : Array Value)[o]? := bx_al w1 _ _
    have hb2 : Below w1.heap.size w1 (w1.alloc (.cells #[.int .i64 C, .int .i64 V] 48)) := (Below.refl _ _).alloc (Nat.le_refl _) _
    have zI : w1.heap.size < (w1.alloc (.cells #[.int .i64 C, .int .i64 V] 48)).heap.size := by simp
    generalize hW2 : (w1.alloc (.cells #[.int .i64 C, .int .i64 V] 48)) = W2 at kI hb2 zI ⊢
    clear hW2
    replace k0 := bx_below k0 (by omega) hb2
    replace kR := bx_below kR z0 hb2
    replace fR := bxF fR hb2 z0
    replace HB : Hid (Below w.heap.size w W2) := HB.out.trans (hb2.mono HB.out.size)
    clear hb2
    obtain ⟨iB, hiB⟩ : ∃ iB, iB = w1.heap.size := ⟨_, rfl⟩
    rw [← hiB] at z0 zI kI ⊢
    clear hiB
    have HTH : Hid (W2.there (w.heap.size + 1) 0 N.size) := bx_there kR fR (by rw [HNZ.out]; rfl)
    have kF : Hid (∀ o, (W2.setCells (w.heap.size + 1) 0 N.toList).cell? ⟨w.heap.size + 1, o, none⟩ = N[o]?) := bx_setCells kR (by rw [HNZ.out]; rfl)
    go_wp2_with (refine wpList_store_mid rfl 35 _ _ rfl _ _ N (by rfl) (by rw [HN.out]; rfl) HTH.out HIN.out HONE.out ?_)
    refine bodyPost_ret (results_box Tryz.results15 _ _ _ N _ (by rfl) kF.out Tryz.underlying35 rfl HIN.out) rfl ⟨rfl, ?_⟩
    exact setCells_below (by omega) _ _ _ _ HB.out
  obtain ⟨k, hk, hkl, hV, hAV⟩ := ansV_at hC
  obtain ⟨cs16, b, off, n, cap, hsl, hbB, hlen, hrg, hrs, hln⟩ := sub_of hr hkl
  have hkn : (k : Int) < (n : Int) := by omega
  have hk0 : (0 : Int) ≤ (k : Int) := by omega
  obtain ⟨x0, x1, x2, x3, x4, x6, x10⟩ := sub_cells hrs
  obtain ⟨a0, a1, a2, a3, -⟩ := conn_cells hr
  obtain ⟨OP, hOP⟩ : ∃ x : Int, x = (if c.subs[k].2.2.1 then 3 else if c.2.2.2.1 then 0 else 1) := ⟨_, rfl⟩
  obtain ⟨OA, hOA⟩ : ∃ x : Int, x = (if c.subs[k].2.2.1 then mixV [c.2.1, c.2.2.1, c.subs[k].2.2.2.2.1] else if c.2.2.2.1 then 0 else c.2.1) := ⟨_, rfl⟩
  obtain ⟨OB, hOB⟩ : ∃ x : Int, x = (if c.subs[k].2.2.1 then c.subs[k].2.2.2.1 else 0) := ⟨_, rfl⟩
  have HAO : Hid (∀ W, Calls Tryz.prog 51 #[.agg A, .agg cs16.toArray] W fun e w' => e = .returned (.agg #[.int .i64 c.subs[k].1, .int .i64 c.1, .bool true, .bool true, .bool false, .int .i64 c.subs[k].2.2.2.2.2.2.1.1, .int .i64 c.subs[k].2.2.2.2.2.2.2.1.1, .int .i64 0, .int .i64 OP, .int .i64 OA, .int .i64 OB, .slice none 0 0]) ∧ Below W.heap.size W w') := fun W => by rw [hOP, hOA, hOB]; exact iAnswerOf A cs16.toArray _ _ _ _ _ _ _ _ _ _ HZA.out (by rw [List.size_toArray]; exact hlen) a0 a1 a2 a3 (by rw [List.getElem?_toArray]; exact x0) (by rw [List.getElem?_toArray]; exact x2) (by rw [List.getElem?_toArray]; exact x3) (by rw [List.getElem?_toArray]; exact x4) (by rw [List.getElem?_toArray]; exact x6) (by rw [List.getElem?_toArray]; exact x10) W
  have hNN : N = #[.int .i64 0, .int .i64 c.subs[k].1, .int .i64 c.1, .bool true, .bool true, .bool false, .int .i64 c.subs[k].2.2.2.2.2.2.1.1, .int .i64 c.subs[k].2.2.2.2.2.2.2.1.1, .int .i64 0, .int .i64 OP, .int .i64 OA, .int .i64 OB, .slice none 0 0] := by rw [hN, hAV, hOP, hOA, hOB]; rfl
  have HN : Hid _ := hNN
  have HIX : Hid ((Tryz.prog.info? 46).map (·.size) = some cs16.length) := by show _ = _; rw [hlen]; exact (by kernel_rfl : (Tryz.prog.info? 46).map (·.size) = some 16)
  have HSB : Hid (∀ W, Below w.heap.size w W → W.rangeAt b (off + k * 16) cs16) := fun W hW => range_below hrg hW (by omega)
  rw [hC, hV] at HSO
  clear hN hNN hr hC hV hAV hOP hOA hOB x0 x1 x2 x3 x4 x6 x10 a0 a1 a2 a3 hrg hrs hlen hln hk
  generalize c.subs[k].1 = pa at *
  generalize c.subs[k].2.2.2.2.2.2.1.1 = ss at *
  generalize c.subs[k].2.2.2.2.2.2.2.1.1 = cs at *
  generalize c.1 = sd at *
  clear hkl hT c
  go_enter Tryz.func15, Tryz.ntmps15
  go_upto_region 1 with fail
  have HRG := HRGX.out ((w.alloc (.cells A 29)).alloc (.cells #[.int .i64 0, .int .i64 0, .int .i64 0, .bool false, .bool false, .bool false, .int .i64 0, .int .i64 0, .int .i64 0, .int .i64 0, .int .i64 0, .int .i64 0, .slice none 0 0] 35)) (fun o => by simp [go_sem])
  go_wp2_with (refine wpList_load_mid rfl 29 _ rfl _ _ (by rfl) A.toList _ HRG.out Tryz.underlying29 rfl HI.out ?_)
  refine (HSO.out _ (by go_grown)).mono ?_
  rintro e w1 ⟨rfl, hb⟩
  obtain ⟨k0, kR, fR, hb1, z0⟩ := two_boxes hb
  have HB : Hid (Below w.heap.size w w1) := hb1
  clear hb hb1 HRG HSO
  go_upto_region 2 with fail
  have kI : ∀ o, (w1.alloc (.cells #[.int .i64 0, .int .i64 (k : Int)] 48)).cell? ⟨w1.heap.size, o, none⟩ = (#[.int .i64 0, .int .i64 (k : Int)] : Array Value)[o]? := bx_al w1 _ _
  have hb2 : Below w1.heap.size w1 (w1.alloc (.cells #[.int .i64 0, .int .i64 (k : Int)] 48)) := (Below.refl _ _).alloc (Nat.le_refl _) _
  have zI : w1.heap.size < (w1.alloc (.cells #[.int .i64 0, .int .i64 (k : Int)] 48)).heap.size := by simp
  generalize hW2 : (w1.alloc (.cells #[.int .i64 0, .int .i64 (k : Int)] 48)) = W2 at kI hb2 zI ⊢
  clear hW2
  replace k0 := bx_below k0 (by omega) hb2
  replace kR := bx_below kR z0 hb2
  replace fR := bxF fR hb2 z0
  replace HB : Hid (Below w.heap.size w W2) := HB.out.trans (hb2.mono HB.out.size)
  clear hb2
  obtain ⟨iB, hiB⟩ : ∃ iB, iB = w1.heap.size := ⟨_, rfl⟩
  rw [← hiB] at z0 zI kI ⊢
  clear hiB
  have HTH : Hid (W2.there (w.heap.size + 1) 0 N.size) := bx_there kR fR (by rw [HNZ.out]; rfl)
  have kF : Hid (∀ o, (W2.setCells (w.heap.size + 1) 0 N.toList).cell? ⟨w.heap.size + 1, o, none⟩ = N[o]?) := bx_setCells kR (by rw [HNZ.out]; rfl)
  obtain ⟨m, hm⟩ : ∃ m, w.heap.size + m = iB + 1 := ⟨iB + 1 - w.heap.size, by omega⟩
  have HS : Hid (SB2 w m w.heap.size iB A #[.int .i64 0, .int .i64 (k : Int)] W2) := ⟨HB.out, by omega, k0, kI⟩
  go_upto_region 4 with fail
  refine wp_region_noPanic ?_
  refine Goes.start (S := SB2 w m w.heap.size iB A #[.int .i64 0, .int .i64 (k : Int)]) (z := 100) (by kernel_rfl) ?_
  refine Goes.take (i := 0) (oi := ?oi11) (x := .agg (A.toList).toArray) ?ho11 (by kernel_rfl) (by kernel_rfl) (by kernel_rfl) (by kernel_rfl) (fun _ _ _ h => h) ?hy11 HS.out.drew ?rest11
  case ho11 => (simp only [List.getElem?_toArray, List.getElem?_cons_zero]; rfl)
  case hy11 => exact yieldsIf_load_mid (by rfl) 29 _ rfl (w.heap.size) (0) (by rfl) (A.toList) _ (fun w' hSw => bx_range hSw.k0) Tryz.underlying29 rfl HI.out
  case rest11 =>
  (try simp only [Act.put, List.setIfInBounds_toArray, List.set_cons_zero, List.set_cons_succ])
  refine Goes.take (i := 1) (oi := ?oi12) (x := ?vx12) ?ho12 (by kernel_rfl) (by kernel_rfl) (by kernel_rfl) (by kernel_rfl) (fun _ _ _ h => h) (Or.inl ⟨?hw12, ?hy12⟩) HS.out.drew ?rest12
  case ho12 => (simp only [List.getElem?_toArray, List.getElem?_cons_succ, List.getElem?_cons_zero]; rfl)
  case hw12 => rfl
  case hy12 => (intro w' hSw; have j0 := hSw.k0; have j1 := hSw.k1; go_simp; (try with_reducible rfl))
  case rest12 =>
  (try simp only [Act.put, List.setIfInBounds_toArray, List.set_cons_zero, List.set_cons_succ])
  refine Goes.take (i := 2) (oi := ?oi13) (x := ?vx13) ?ho13 (by kernel_rfl) (by kernel_rfl) (by kernel_rfl) (by kernel_rfl) (fun _ _ _ h => h) (Or.inl ⟨?hw13, ?hy13⟩) HS.out.drew ?rest13
  case ho13 => (simp only [List.getElem?_toArray, List.getElem?_cons_succ, List.getElem?_cons_zero]; rfl)
  case hw13 => rfl
  case hy13 => (intro w' hSw; have j0 := hSw.k0; have j1 := hSw.k1; go_simp; (try with_reducible rfl))
  case rest13 =>
  (try simp only [Act.put, List.setIfInBounds_toArray, List.set_cons_zero, List.set_cons_succ])
  refine Goes.take (i := 3) (oi := ?oi14) (x := ?vx14) ?ho14 (by kernel_rfl) (by kernel_rfl) (by kernel_rfl) (by kernel_rfl) (fun _ _ _ h => h) (Or.inl ⟨?hw14, ?hy14⟩) HS.out.drew ?rest14
  case ho14 => (simp only [List.getElem?_toArray, List.getElem?_cons_succ, List.getElem?_cons_zero]; rfl)
  case hw14 => rfl
  case hy14 => (intro w' hSw; have j0 := hSw.k0; have j1 := hSw.k1; go_simp; (try with_reducible rfl))
  case rest14 =>
  (try simp only [Act.put, List.setIfInBounds_toArray, List.set_cons_zero, List.set_cons_succ])
  refine Goes.take (i := 4) (oi := ?oi15) (x := ?vx15) ?ho15 (by kernel_rfl) (by kernel_rfl) (by kernel_rfl) (by kernel_rfl) (fun _ _ _ h => h) (Or.inl ⟨?hw15, ?hy15⟩) HS.out.drew ?rest15
  case ho15 => (simp only [List.getElem?_toArray, List.getElem?_cons_succ, List.getElem?_cons_zero]; rfl)
  case hw15 => rfl
  case hy15 => (intro w' hSw; have j0 := hSw.k0; have j1 := hSw.k1; go_simp; (try with_reducible rfl))
  case rest15 =>
  (try simp only [Act.put, List.setIfInBounds_toArray, List.set_cons_zero, List.set_cons_succ])
  refine Goes.take (i := 5) (oi := ?oi16) (x := ?vx16) ?ho16 (by kernel_rfl) (by kernel_rfl) (by kernel_rfl) (by kernel_rfl) (fun _ _ _ h => h) (Or.inl ⟨?hw16, ?hy16⟩) HS.out.drew ?rest16
  case ho16 => (simp only [List.getElem?_toArray, List.getElem?_cons_succ, List.getElem?_cons_zero]; rfl)
  case hw16 => rfl
  case hy16 => (intro w' hSw; have j0 := hSw.k0; have j1 := hSw.k1; go_simp; (try with_reducible rfl))
  case rest16 =>
  (try simp only [Act.put, List.setIfInBounds_toArray, List.set_cons_zero, List.set_cons_succ])
  refine Goes.take (i := 6) (oi := ?oi17) (x := .agg (cs16).toArray) ?ho17 (by kernel_rfl) (by kernel_rfl) (by kernel_rfl) (by kernel_rfl) (fun _ _ _ h => h) ?hy17 HS.out.drew ?rest17
  case ho17 => (simp only [List.getElem?_toArray, List.getElem?_cons_succ, List.getElem?_cons_zero]; rfl)
  case hy17 => exact yieldsIf_load_mid (by rfl) 46 _ rfl (b) (off + k * 16) (by rfl) (cs16) _ (fun w' hSw => HSB.out _ hSw.bl) Tryz.underlying46 rfl HIX.out
  case rest17 =>
  (try simp only [Act.put, List.setIfInBounds_toArray, List.set_cons_zero, List.set_cons_succ])
  refine Goes.all (rs := [7]) (by kernel_rfl) (by simp) ?_
  refine Ups.cons (i := 7) (o := ?oo18) ?ho18 (fun KK hKK => ?stp18) Ups.nil
  case ho18 => (simp only [List.getElem?_toArray, List.getElem?_cons_succ, List.getElem?_cons_zero]; rfl)
  case stp18 =>
  go_simp
  go_at_call 51
  refine (HAO.out _).mono ?_
  rintro e W3 ⟨rfl, hbq⟩
  have HS18 : Hid (SB2 w m w.heap.size iB A #[.int .i64 0, .int .i64 (k : Int)] W3) := SB2.below HS.out.drew hbq (by omega) (by omega)
  replace hbq := (Below.drew (Below.refl W2.heap.size W2)).trans hbq
  replace kR := bx_below kR (by omega) hbq
  replace fR := bxF fR hbq (by omega)
  clear HTH kF
  have HTH : Hid (W3.there (w.heap.size + 1) 0 N.size) := bx_there kR fR (by rw [HNZ.out]; rfl)
  have kF : Hid (∀ o, (W3.setCells (w.heap.size + 1) 0 N.toList).cell? ⟨w.heap.size + 1, o, none⟩ = N[o]?) := bx_setCells kR (by rw [HNZ.out]; rfl)
  clear hbq
  dsimp only
  refine hKK.out _ _ (Or.inr HS18.out) ?_
  clear hKK KK
  (try simp only [Act.put, List.setIfInBounds_toArray, List.set_cons_zero, List.set_cons_succ])
  refine Goes.take (i := 8) (oi := ?oi19) (x := ?vx19) ?ho19 (by kernel_rfl) (by kernel_rfl) (by kernel_rfl) (by kernel_rfl) (fun _ _ _ h => h) (Or.inl ⟨?hw19, ?hy19⟩) HS18.out ?rest19
  case ho19 => (simp only [List.getElem?_toArray, List.getElem?_cons_succ, List.getElem?_cons_zero]; rfl)
  case hw19 => rfl
  case hy19 => (intro w' hSw; have j0 := hSw.k0; have j1 := hSw.k1; go_simp; (try with_reducible rfl))
  case rest19 =>
  (try simp only [Act.put, List.setIfInBounds_toArray, List.set_cons_zero, List.set_cons_succ])
  refine Goes.all (rs := [9]) (by kernel_rfl) (by simp) ?_
  refine Ups.cons (i := 9) (o := ?oo20) ?ho20 (fun KK hKK => ?stp20) Ups.nil
  case ho20 => (simp only [List.getElem?_toArray, List.getElem?_cons_succ, List.getElem?_cons_zero]; rfl)
  case stp20 =>
  rw [if_pos (by rfl)]
  refine wp_store_mid 35 _ _ rfl _ _ N (by rfl) (by rw [HN.out]; rfl) HTH.out HIN.out HONE.out ?_
  refine hKK.out _ _ (Or.inr (SB2.sets (g := w.heap.size + 1) HS18.out (by omega) (by omega) (by omega))) ?_
  clear hKK KK
  (try simp only [Act.put])
  refine Goes.done (by kernel_rfl) ?_ _
  refine NoPanic.normal ?_
  replace HB : Hid (Below w.heap.size w W3) := SB2.bl HS18.out
  go_wp2_with fail
  refine bodyPost_ret (results_box Tryz.results15 _ _ _ N _ (by rfl) kF.out Tryz.underlying35 rfl HIN.out) rfl ⟨rfl, ?_⟩
  exact setCells_below (by omega) _ _ _ _ HB.out
end Go.Proofs.YtmpbejckggnfaaaGreatDoor
