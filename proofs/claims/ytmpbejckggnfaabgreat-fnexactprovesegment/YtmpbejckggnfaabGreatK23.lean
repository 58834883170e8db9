/- What a side answers who asks for a path, by program and model; the answer has no memory; nothing that was there turns; no condition but that there are at most a million parts. Written by mkhear.py. -/
import Derived.Test.YtmpbejckggnfaabGreatRows
import Derived.Deep.RegionHeld3
import Derived.Deep.DeepCutAuto
import Derived.Deep.MidRow
import Derived.Test.YtmpbejckggnfaabGreatK01
import Derived.Test.YtmpbejckggnfaabGreatK02
import Derived.Test.YtmpbejckggnfaabGreatK03
import Derived.Test.YtmpbejckggnfaabGreatK04
import Derived.Test.YtmpbejckggnfaabGreatK05
import Derived.Test.YtmpbejckggnfaabGreatK06
import Derived.Test.YtmpbejckggnfaabGreatK07
import Derived.Test.YtmpbejckggnfaabGreatK09
import Derived.Test.YtmpbejckggnfaabGreatK10
import Derived.Test.YtmpbejckggnfaabGreatK11
import Derived.Test.YtmpbejckggnfaabGreatK12
import Derived.Test.YtmpbejckggnfaabGreatK13
import Derived.Test.YtmpbejckggnfaabGreatK14
import Derived.Test.YtmpbejckggnfaabGreatK15
import Derived.Test.YtmpbejckggnfaabGreatK16
import Derived.Test.YtmpbejckggnfaabGreatK20
import Derived.Test.YtmpbejckggnfaabGreatK21
import Derived.Test.YtmpbejckggnfaabGreatK22
namespace Go.Proofs.YtmpbejckggnfaabGreat
open Go.RowKit
set_option linter.unusedVariables false
set_option maxRecDepth 8000

set_option maxHeartbeats 2000000 in
theorem iAnswerSegment (c : DConn) (A : Array Value) (p : Int) (w : World) (B : Nat) (hr : shConn.Rd w B c A.toList) (hB : B ≤ w.heap.size) (hT : totConn c ≤ 1048576) :
    Calls Tryz.prog 9 #[.agg A, .int .i64 p] w fun e w' => ∃ N : Array Value, e = .returned (.agg N) ∧ Own w' w.heap.size w'.heap.size shSR (ansV c p) N.toList ∧ Below w.heap.size w w' := by
  suffices H : Calls Tryz.prog 9 #[.agg A, .int .i64 p] w fun e w' => e = .returned (.agg (srA (ansV c p))) ∧ Below w.heap.size w w' from
    H.mono (by rintro e w' ⟨rfl, hb⟩; exact ⟨_, rfl, own_SR (ansV_wf hr) (ansV_nil c p), hb⟩)
  have HI : Hid ((Tryz.prog.info? 40).map (·.size) = some A.toList.length) := by show _ = _; rw [Array.length_toList, rd_size hr]; exact (by kernel_rfl : (Tryz.prog.info? 40).map (·.size) = some 14)
  have hzA : A.size = 14 := rd_size hr
  have HZA : Hid _ := hzA
  clear hzA
  have HRGX : Hid (∀ W : World, (∀ o, W.cell? ⟨w.heap.size, o, none⟩ = A[o]?) → Hid (W.rangeAt w.heap.size 0 A.toList)) := fun W hk => bx_range hk
  have HSO : Hid (∀ W, Below w.heap.size w W → Calls Tryz.prog 31 #[.agg A, .int .i64 p] W fun e w' => e = .returned (.agg #[.int .i64 (subOnC c p), .int .i64 (subOnV c p)]) ∧ Below W.heap.size W w') := fun W hW => iSubOn c A p W B (Sh.Rd.below hr hB hW) (Nat.le_trans hB hW.size) hT
  obtain ⟨N, hN⟩ : ∃ N : Array Value, N = srA (ansV c p) := ⟨_, rfl⟩
  rw [← hN]
  have hNz : N.size = 13 := by rw [hN]; rfl
  have HIN : Hid ((Tryz.prog.info? 33).map (·.size) = some N.size) := by show _ = _; rw [hNz]; exact (by kernel_rfl : (Tryz.prog.info? 33).map (·.size) = some 13)
  have HONE : Hid (N.all (·.oneCell') = true) := by show _ = _; rw [hN]; simp [srA, Value.oneCell']
  have HNZ : Hid _ := hNz
  clear hNz
  by_cases hC : subOnC c p = 0
  case neg =>
    have hNN : N = #[.int .i64 (subOnC c p), .int .i64 0, .int .i64 0, .bool false, .bool false, .bool false, .int .i64 0, .int .i64 0, .int .i64 0, .int .i64 0, .int .i64 0, .int .i64 0, .slice none 0 0] := by rw [hN, ansV_code hC]; rfl
    have HN : Hid _ := hNN
    have hC' : (subOnC c p != 0) = true := by simp [hC]
    clear hN hNN hr hC
    generalize subOnC c p = C at *
    generalize subOnV c p = V at *
    go_enter Tryz.func9, Tryz.ntmps9
    go_upto_region 1 with fail
    have HRG := HRGX.out ((w.alloc (.cells A 40)).alloc (.cells #[.int .i64 0, .int .i64 0, .int .i64 0, .bool false, .bool false, .bool false, .int .i64 0, .int .i64 0, .int .i64 0, .int .i64 0, .int .i64 0, .int .i64 0, .slice none 0 0] 33)) (fun o => by simp [go_sem])
    go_wp2_with (refine wpList_load_mid rfl 40 _ rfl _ _ (by rfl) A.toList _ HRG.out Tryz.underlying40 rfl HI.out ?_)
    refine (HSO.out _ (by go_grown)).mono ?_
    rintro e w1 ⟨rfl, hb⟩
    obtain ⟨k0, kR, fR, hb1, z0⟩ := two_boxes hb
    have HB : Hid (Below w.heap.size w w1) := hb1
    clear hb hb1 HRG HSO
    go_upto_region 2 with fail
    have kI : ∀ o, (w1.alloc (.cells #[.int .i64 C, .int .i64 V] 75)).cell? ⟨w1.heap.size, o, none⟩ = (#[.int .i64 C, .int .i64 V] : Array Value)[o]? := bx_al w1 _ _
    have hb2 : Below w1.heap.size w1 (w1.alloc (.cells #[.int .i64 C, .int .i64 V] 75)) := (Below.refl _ _).alloc (Nat.le_refl _) _
    have zI : w1.heap.size < (w1.alloc (.cells #[.int .i64 C, .int .i64 V] 75)).heap.size := by simp
    generalize hW2 : (w1.alloc (.cells #[.int .i64 C, .int .i64 V] 75)) = W2 at kI hb2 zI ⊢
    clear hW2
    replace k0 := bx_below k0 (by omega) hb2
    replace kR := bx_below kR z0 hb2
    replace fR := bxF fR hb2 z0
    replace HB : Hid (Below w.heap.size w W2) := HB.out.trans (hb2.mono HB.out.size)
    clear hb2
    obtain ⟨iB, hiB⟩ : ∃ iB, iB = w1.heap.size := ⟨_, rfl⟩
    rw [← hiB] at z0 zI kI ⊢
    clear hiB
    have HTH : Hid (W2.there (w.heap.size + 1) 0 N.size) := bx_there kR fR (by rw [HNZ.out]; rfl)
    have kF : Hid (∀ o, (W2.setCells (w.heap.size + 1) 0 N.toList).cell? ⟨w.heap.size + 1, o, none⟩ = N[o]?) := bx_setCells kR (by rw [HNZ.out]; rfl)
    go_wp2_with (refine wpList_store_mid rfl 33 _ _ rfl _ _ N (by rfl) (by rw [HN.out]; rfl) HTH.out HIN.out HONE.out ?_)
    refine bodyPost_ret (results_box Tryz.results9 _ _ _ N _ (by rfl) kF.out Tryz.underlying33 rfl HIN.out) rfl ⟨rfl, ?_⟩
    exact setCells_below (by omega) _ _ _ _ HB.out
  obtain ⟨k, hk, hkl, hV, hAV⟩ := ansV_at hC
  obtain ⟨cs16, b, off, n, cap, hsl, hbB, hlen, hrg, hrs, hln⟩ := sub_of hr hkl
  have hkn : (k : Int) < (n : Int) := by omega
  have hk0 : (0 : Int) ≤ (k : Int) := by omega
  obtain ⟨x0, x1, x2, x3, x4, x6, x10⟩ := sub_cells hrs
  obtain ⟨a0, a1, a2, a3, -⟩ := conn_cells hr
  obtain ⟨OP, hOP⟩ : ∃ x : Int, x = (if c.subs[k].2.2.1 then 3 else if c.2.2.2.1 then 0 else 1) := ⟨_, rfl⟩
  obtain ⟨OA, hOA⟩ : ∃ x : Int, x = (if c.subs[k].2.2.1 then mixV [c.2.1, c.2.2.1, c.subs[k].2.2.2.2.1] else if c.2.2.2.1 then 0 else c.2.1) := ⟨_, rfl⟩
  obtain ⟨OB, hOB⟩ : ∃ x : Int, x = (if c.subs[k].2.2.1 then c.subs[k].2.2.2.1 else 0) := ⟨_, rfl⟩
  have HAO : Hid (∀ W, Calls Tryz.prog 32 #[.agg A, .agg cs16.toArray] W fun e w' => e = .returned (.agg #[.int .i64 c.subs[k].1, .int .i64 c.1, .bool true, .bool true, .bool false, .int .i64 c.subs[k].2.2.2.2.2.2.1.1, .int .i64 c.subs[k].2.2.2.2.2.2.2.1.1, .int .i64 0, .int .i64 OP, .int .i64 OA, .int .i64 OB, .slice none 0 0]) ∧ Below W.heap.size W w') := fun W => by rw [hOP, hOA, hOB]; exact iAnswerOf A cs16.toArray _ _ _ _ _ _ _ _ _ _ HZA.out (by rw [List.size_toArray]; exact hlen) a0 a1 a2 a3 (by rw [List.getElem?_toArray]; exact x0) (by rw [List.getElem?_toArray]; exact x2) (by rw [List.getElem?_toArray]; exact x3) (by rw [List.getElem?_toArray]; exact x4) (by rw [List.getElem?_toArray]; exact x6) (by rw [List.getElem?_toArray]; exact x10) W
  have hNN : N = #[.int .i64 0, .int .i64 c.subs[k].1, .int .i64 c.1, .bool true, .bool true, .bool false, .int .i64 c.subs[k].2.2.2.2.2.2.1.1, .int .i64 c.subs[k].2.2.2.2.2.2.2.1.1, .int .i64 0, .int .i64 OP, .int .i64 OA, .int .i64 OB, .slice none 0 0] := by rw [hN, hAV, hOP, hOA, hOB]; rfl
  have HN : Hid _ := hNN
  have HIX : Hid ((Tryz.prog.info? 70).map (·.size) = some cs16.length) := by show _ = _; rw [hlen]; exact (by kernel_rfl : (Tryz.prog.info? 70).map (·.size) = some 16)
  have HSB : Hid (∀ W, Below w.heap.size w W → W.rangeAt b (off + k * 16) cs16) := fun W hW => range_below hrg hW (by omega)
  rw [hC, hV] at HSO
  clear hN hNN hr hC hV hAV hOP hOA hOB x0 x1 x2 x3 x4 x6 x10 a0 a1 a2 a3 hrg hrs hlen hln hk
  generalize c.subs[k].1 = pa at *
  generalize c.subs[k].2.2.2.2.2.2.1.1 = ss at *
  generalize c.subs[k].2.2.2.2.2.2.2.1.1 = cs at *
  generalize c.1 = sd at *
  clear hkl hT c
  go_enter Tryz.func9, Tryz.ntmps9
  go_upto_region 1 with fail
  have HRG := HRGX.out ((w.alloc (.cells A 40)).alloc (.cells #[.int .i64 0, .int .i64 0, .int .i64 0, .bool false, .bool false, .bool false, .int .i64 0, .int .i64 0, .int .i64 0, .int .i64 0, .int .i64 0, .int .i64 0, .slice none 0 0] 33)) (fun o => by simp [go_sem])
  go_wp2_with (refine wpList_load_mid rfl 40 _ rfl _ _ (by rfl) A.toList _ HRG.out Tryz.underlying40 rfl HI.out ?_)
  refine (HSO.out _ (by go_grown)).mono ?_
  rintro e w1 ⟨rfl, hb⟩
  obtain ⟨k0, kR, fR, hb1, z0⟩ := two_boxes hb
  have HB : Hid (Below w.heap.size w w1) := hb1
  clear hb hb1 HRG HSO
  go_upto_region 2 with fail
  have kI : ∀ o, (w1.alloc (.cells #[.int .i64 0, .int .i64 (k : Int)] 75)).cell? ⟨w1.heap.size, o, none⟩ = (#[.int .i64 0, .int .i64 (k : Int)] : Array Value)[o]? := bx_al w1 _ _
  have hb2 : Below w1.heap.size w1 (w1.alloc (.cells #[.int .i64 0, .int .i64 (k : Int)] 75)) := (Below.refl _ _).alloc (Nat.le_refl _) _
  have zI : w1.heap.size < (w1.alloc (.cells #[.int .i64 0, .int .i64 (k : Int)] 75)).heap.size := by simp
  generalize hW2 : (w1.alloc (.cells #[.int .i64 0, .int .i64 (k : Int)] 75)) = W2 at kI hb2 zI ⊢
  clear hW2
  replace k0 := bx_below k0 (by omega) hb2
  replace kR := bx_below kR z0 hb2
  replace fR := bxF fR hb2 z0
  replace HB : Hid (Below w.heap.size w W2) := HB.out.trans (hb2.mono HB.out.size)
  clear hb2
  obtain ⟨iB, hiB⟩ : ∃ iB, iB = w1.heap.size := ⟨_, rfl⟩
  rw [← hiB] at z0 zI kI ⊢
  clear hiB
  have HTH : Hid (W2.there (w.heap.size + 1) 0 N.size) := bx_there kR fR (by rw [HNZ.out]; rfl)
  have kF : Hid (∀ o, (W2.setCells (w.heap.size + 1) 0 N.toList).cell? ⟨w.heap.size + 1, o, none⟩ = N[o]?) := bx_setCells kR (by rw [HNZ.out]; rfl)
  obtain ⟨m, hm⟩ : ∃ m, w.heap.size + m = iB + 1 := ⟨iB + 1 - w.heap.size, by omega⟩
  have HS : Hid (SB2 w m w.heap.size iB A #[.int .i64 0, .int .i64 (k : Int)] W2) := ⟨HB.out, by omega, k0, kI⟩
  go_upto_region 4 with fail
  refine wp_region_noPanic ?_
  refine Goes.start (S := SB2 w m w.heap.size iB A #[.int .i64 0, .int .i64 (k : Int)]) (z := 100) (by kernel_rfl) ?_
  refine Goes.take (i := 0) (oi := ?oi11) (x := .agg (A.toList).toArray) ?ho11 (by kernel_rfl) (by kernel_rfl) (by kernel_rfl) (by kernel_rfl) (fun _ _ _ h => h) ?hy11 HS.out.drew ?rest11
  case ho11 => (simp only [List.getElem?_toArray, List.getElem?_cons_zero]; rfl)
  case hy11 => exact yieldsIf_load_mid (by rfl) 40 _ rfl (w.heap.size) (0) (by rfl) (A.toList) _ (fun w' hSw => bx_range hSw.k0) Tryz.underlying40 rfl HI.out
  case rest11 =>
  (try simp only [Act.put, List.setIfInBounds_toArray, List.set_cons_zero, List.set_cons_succ])
  refine Goes.take (i := 1) (oi := ?oi12) (x := ?vx12) ?ho12 (by kernel_rfl) (by kernel_rfl) (by kernel_rfl) (by kernel_rfl) (fun _ _ _ h => h) (Or.inl ⟨?hw12, ?hy12⟩) HS.out.drew ?rest12
  case ho12 => (simp only [List.getElem?_toArray, List.getElem?_cons_succ, List.getElem?_cons_zero]; rfl)
  case hw12 => rfl
  case hy12 => (intro w' hSw; have j0 := hSw.k0; have j1 := hSw.k1; go_simp; (try with_reducible rfl))
  case rest12 =>
  (try simp only [Act.put, List.setIfInBounds_toArray, List.set_cons_zero, List.set_cons_succ])
  refine Goes.take (i := 2) (oi := ?oi13) (x := ?vx13) ?ho13 (by kernel_rfl) (by kernel_rfl) (by kernel_rfl) (by kernel_rfl) (fun _ _ _ h => h) (Or.inl ⟨?hw13, ?hy13⟩) HS.out.drew ?rest13
  case ho13 => (simp only [List.getElem?_toArray, List.getElem?_cons_succ, List.getElem?_cons_zero]; rfl)
  case hw13 => rfl
  case hy13 => (intro w' hSw; have j0 := hSw.k0; have j1 := hSw.k1; go_simp; (try with_reducible rfl))
  case rest13 =>
  (try simp only [Act.put, List.setIfInBounds_toArray, List.set_cons_zero, List.set_cons_succ])
  refine Goes.take (i := 3) (oi := ?oi14) (x := ?vx14) ?ho14 (by kernel_rfl) (by kernel_rfl) (by kernel_rfl) (by kernel_rfl) (fun _ _ _ h => h) (Or.inl ⟨?hw14, ?hy14⟩) HS.out.drew ?rest14
  case ho14 => (simp only [List.getElem?_toArray, List.getElem?_cons_succ, List.getElem?_cons_zero]; rfl)
  case hw14 => rfl
  case hy14 => (intro w' hSw; have j0 := hSw.k0; have j1 := hSw.k1; go_simp; (try with_reducible rfl))
  case rest14 =>
  (try simp only [Act.put, List.setIfInBounds_toArray, List.set_cons_zero, List.set_cons_succ])
  refine Goes.take (i := 4) (oi := ?oi15) (x := ?vx15) ?ho15 (by kernel_rfl) (by kernel_rfl) (by kernel_rfl) (by kernel_rfl) (fun _ _ _ h => h) (Or.inl ⟨?hw15, ?hy15⟩) HS.out.drew ?rest15
  case ho15 => (simp only [List.getElem?_toArray, List.getElem?_cons_succ, List.getElem?_cons_zero]; rfl)
  case hw15 => rfl
  case hy15 => (intro w' hSw; have j0 := hSw.k0; have j1 := hSw.k1; go_simp; (try with_reducible rfl))
  case rest15 =>
  (try simp only [Act.put, List.setIfInBounds_toArray, List.set_cons_zero, List.set_cons_succ])
  refine Goes.take (i := 5) (oi := ?oi16) (x := ?vx16) ?ho16 (by kernel_rfl) (by kernel_rfl) (by kernel_rfl) (by kernel_rfl) (fun _ _ _ h => h) (Or.inl ⟨?hw16, ?hy16⟩) HS.out.drew ?rest16
  case ho16 => (simp only [List.getElem?_toArray, List.getElem?_cons_succ, List.getElem?_cons_zero]; rfl)
  case hw16 => rfl
  case hy16 => (intro w' hSw; have j0 := hSw.k0; have j1 := hSw.k1; go_simp; (try with_reducible rfl))
  case rest16 =>
  (try simp only [Act.put, List.setIfInBounds_toArray, List.set_cons_zero, List.set_cons_succ])
  refine Goes.take (i := 6) (oi := ?oi17) (x := .agg (cs16).toArray) ?ho17 (by kernel_rfl) (by kernel_rfl) (by kernel_rfl) (by kernel_rfl) (fun _ _ _ h => h) ?hy17 HS.out.drew ?rest17
  case ho17 => (simp only [List.getElem?_toArray, List.getElem?_cons_succ, List.getElem?_cons_zero]; rfl)
  case hy17 => exact yieldsIf_load_mid (by rfl) 70 _ rfl (b) (off + k * 16) (by rfl) (cs16) _ (fun w' hSw => HSB.out _ hSw.bl) Tryz.underlying70 rfl HIX.out
  case rest17 =>
  (try simp only [Act.put, List.setIfInBounds_toArray, List.set_cons_zero, List.set_cons_succ])
  refine Goes.all (rs := [7]) (by kernel_rfl) (by simp) ?_
  refine Ups.cons (i := 7) (o := ?oo18) ?ho18 (fun KK hKK => ?stp18) Ups.nil
  case ho18 => (simp only [List.getElem?_toArray, List.getElem?_cons_succ, List.getElem?_cons_zero]; rfl)
  case stp18 =>
  go_simp
  go_at_call 32
  refine (HAO.out _).mono ?_
  rintro e W3 ⟨rfl, hbq⟩
  have HS18 : Hid (SB2 w m w.heap.size iB A #[.int .i64 0, .int .i64 (k : Int)] W3) := SB2.below HS.out.drew hbq (by omega) (by omega)
  replace hbq := (Below.drew (Below.refl W2.heap.size W2)).trans hbq
  replace kR := bx_below kR (by omega) hbq
  replace fR := bxF fR hbq (by omega)
  clear HTH kF
  have HTH : Hid (W3.there (w.heap.size + 1) 0 N.size) := bx_there kR fR (by rw [HNZ.out]; rfl)
  have kF : Hid (∀ o, (W3.setCells (w.heap.size + 1) 0 N.toList).cell? ⟨w.heap.size + 1, o, none⟩ = N[o]?) := bx_setCells kR (by rw [HNZ.out]; rfl)
  clear hbq
  dsimp only
  refine hKK.out _ _ (Or.inr HS18.out) ?_
  clear hKK KK
  (try simp only [Act.put, List.setIfInBounds_toArray, List.set_cons_zero, List.set_cons_succ])
  refine Goes.take (i := 8) (oi := ?oi19) (x := ?vx19) ?ho19 (by kernel_rfl) (by kernel_rfl) (by kernel_rfl) (by kernel_rfl) (fun _ _ _ h => h) (Or.inl ⟨?hw19, ?hy19⟩) HS18.out ?rest19
  case ho19 => (simp only [List.getElem?_toArray, List.getElem?_cons_succ, List.getElem?_cons_zero]; rfl)
  case hw19 => rfl
  case hy19 => (intro w' hSw; have j0 := hSw.k0; have j1 := hSw.k1; go_simp; (try with_reducible rfl))
  case rest19 =>
  (try simp only [Act.put, List.setIfInBounds_toArray, List.set_cons_zero, List.set_cons_succ])
  refine Goes.all (rs := [9]) (by kernel_rfl) (by simp) ?_
  refine Ups.cons (i := 9) (o := ?oo20) ?ho20 (fun KK hKK => ?stp20) Ups.nil
  case ho20 => (simp only [List.getElem?_toArray, List.getElem?_cons_succ, List.getElem?_cons_zero]; rfl)
  case stp20 =>
  rw [if_pos (by rfl)]
  refine wp_store_mid 33 _ _ rfl _ _ N (by rfl) (by rw [HN.out]; rfl) HTH.out HIN.out HONE.out ?_
  refine hKK.out _ _ (Or.inr (SB2.sets (g := w.heap.size + 1) HS18.out (by omega) (by omega) (by omega))) ?_
  clear hKK KK
  (try simp only [Act.put])
  refine Goes.done (by kernel_rfl) ?_ _
  refine NoPanic.normal ?_
  replace HB : Hid (Below w.heap.size w W3) := SB2.bl HS18.out
  go_wp2_with fail
  refine bodyPost_ret (results_box Tryz.results9 _ _ _ N _ (by rfl) kF.out Tryz.underlying33 rfl HIN.out) rfl ⟨rfl, ?_⟩
  exact setCells_below (by omega) _ _ _ _ HB.out
set_option maxHeartbeats 4000000 in
theorem sL10Answer (cb of sb so : Nat) (sd ke pe : Int) (pl : Bool) (pa : Int) (jo : Bool) (no ot ss cs : Int) (w : World) (hcb : cb < w.heap.size) (hsb : sb < w.heap.size) (c0 : w.cell? ⟨cb, of, none⟩ = some (.int .i64 sd)) (c1 : w.cell? ⟨cb, of + 1, none⟩ = some (.int .i64 ke)) (c2 : w.cell? ⟨cb, of + 2, none⟩ = some (.int .i64 pe)) (c3 : w.cell? ⟨cb, of + 3, none⟩ = some (.bool pl)) (s0 : w.cell? ⟨sb, so, none⟩ = some (.int .i64 pa)) (s2 : w.cell? ⟨sb, so + 2, none⟩ = some (.bool jo)) (s3 : w.cell? ⟨sb, so + 3, none⟩ = some (.int .i64 no)) (s4 : w.cell? ⟨sb, so + 4, none⟩ = some (.int .i64 ot)) (s6 : w.cell? ⟨sb, so + 6, none⟩ = some (.int .i64 ss)) (s10 : w.cell? ⟨sb, so + 10, none⟩ = some (.int .i64 cs)) :
    Calls Tryz.prog 27 #[.pointer (some ⟨cb, of, none⟩), .pointer (some ⟨sb, so, none⟩)] w fun e w' => e = .returned (.agg #[.int .i64 pa, .int .i64 sd, .bool true, .bool true, .bool false, .int .i64 ss, .int .i64 cs, .int .i64 0, .int .i64 (if jo then 3 else if pl then 0 else 1), .int .i64 (if jo then mixV [ke, pe, ot] else if pl then 0 else ke), .int .i64 (if jo then no else 0), .slice none 0 0]) ∧ Below w.heap.size w w' := by
  have HC : Hid (∀ W, Below w.heap.size w W → W.cell? ⟨cb, of, none⟩ = some (.int .i64 sd) ∧ W.cell? ⟨cb, of + 1, none⟩ = some (.int .i64 ke) ∧ W.cell? ⟨cb, of + 2, none⟩ = some (.int .i64 pe) ∧ W.cell? ⟨cb, of + 3, none⟩ = some (.bool pl) ∧ W.cell? ⟨sb, so, none⟩ = some (.int .i64 pa) ∧ W.cell? ⟨sb, so + 2, none⟩ = some (.bool jo) ∧ W.cell? ⟨sb, so + 3, none⟩ = some (.int .i64 no) ∧ W.cell? ⟨sb, so + 4, none⟩ = some (.int .i64 ot) ∧ W.cell? ⟨sb, so + 6, none⟩ = some (.int .i64 ss) ∧ W.cell? ⟨sb, so + 10, none⟩ = some (.int .i64 cs)) := fun W hW => ⟨(hW.cell (p := ⟨cb, of, none⟩) (by assumption)).trans c0, (hW.cell (p := ⟨cb, of + 1, none⟩) (by assumption)).trans c1, (hW.cell (p := ⟨cb, of + 2, none⟩) (by assumption)).trans c2, (hW.cell (p := ⟨cb, of + 3, none⟩) (by assumption)).trans c3, (hW.cell (p := ⟨sb, so, none⟩) (by assumption)).trans s0, (hW.cell (p := ⟨sb, so + 2, none⟩) (by assumption)).trans s2, (hW.cell (p := ⟨sb, so + 3, none⟩) (by assumption)).trans s3, (hW.cell (p := ⟨sb, so + 4, none⟩) (by assumption)).trans s4, (hW.cell (p := ⟨sb, so + 6, none⟩) (by assumption)).trans s6, (hW.cell (p := ⟨sb, so + 10, none⟩) (by assumption)).trans s10⟩
  clear c0 c1 c2 c3 s0 s2 s3 s4 s6 s10
  have HO : Hid (∀ W, Calls Tryz.prog 57 #[.int .i64 ke, .int .i64 pe, .int .i64 ot] W fun e w' => e = .returned (.int .i64 (mixV [ke, pe, ot])) ∧ Below W.heap.size W w') := fun W => sL4Proof ke pe ot W
  generalize mixV [ke, pe, ot] = mx at *
  obtain ⟨OP, hOP⟩ : ∃ x : Int, x = (if jo then 3 else if pl then 0 else 1) := ⟨_, rfl⟩
  obtain ⟨OA, hOA⟩ : ∃ x : Int, x = (if jo then mx else if pl then 0 else ke) := ⟨_, rfl⟩
  obtain ⟨OB, hOB⟩ : ∃ x : Int, x = (if jo then no else 0) := ⟨_, rfl⟩
  rw [← hOP, ← hOA, ← hOB]
  have HOP : Hid _ := hOP
  have HOA : Hid _ := hOA
  have HOB : Hid _ := hOB
  clear hOP hOA hOB
  obtain ⟨G, hG⟩ : ∃ G : Array Value, G = #[.int .i64 pa, .int .i64 sd, .bool true, .bool true, .bool false, .int .i64 ss, .int .i64 cs, .int .i64 0, .int .i64 0, .int .i64 0, .int .i64 0, .slice none 0 0] := ⟨_, rfl⟩
  have HG : Hid _ := hG
  have hGz : G.size = 12 := by rw [hG]; rfl
  have HGZ : Hid _ := hGz
  have HIG : Hid ((Tryz.prog.info? 31).map (·.size) = some G.size) := by show _ = _; rw [hGz]; exact (by kernel_rfl : (Tryz.prog.info? 31).map (·.size) = some 12)
  have HONE : Hid (G.all (·.oneCell') = true) := by show _ = _; rw [hG]; simp [Value.oneCell']
  clear hG hGz
  go_enter Tryz.func27, Tryz.ntmps27
  go_upto_region 1 with fail
  have kR : ∀ o, (w.alloc (.cells #[.int .i64 0, .int .i64 0, .bool false, .bool false, .bool false, .int .i64 0, .int .i64 0, .int .i64 0, .int .i64 0, .int .i64 0, .int .i64 0, .slice none 0 0] 31)).cell? ⟨w.heap.size, o, none⟩ = (#[.int .i64 0, .int .i64 0, .bool false, .bool false, .bool false, .int .i64 0, .int .i64 0, .int .i64 0, .int .i64 0, .int .i64 0, .int .i64 0, .slice none 0 0] : Array Value)[o]? := bx_al w _ _
  have fR : ∀ o, (w.alloc (.cells #[.int .i64 0, .int .i64 0, .bool false, .bool false, .bool false, .int .i64 0, .int .i64 0, .int .i64 0, .int .i64 0, .int .i64 0, .int .i64 0, .slice none 0 0] 31)).frozen? ⟨w.heap.size, o, none⟩ = false := fx_al w _ _
  have HB : Hid (Below w.heap.size w (w.alloc (.cells #[.int .i64 0, .int .i64 0, .bool false, .bool false, .bool false, .int .i64 0, .int .i64 0, .int .i64 0, .int .i64 0, .int .i64 0, .int .i64 0, .slice none 0 0] 31))) := (Below.refl _ _).alloc (Nat.le_refl _) _
  have zR : w.heap.size < (w.alloc (.cells #[.int .i64 0, .int .i64 0, .bool false, .bool false, .bool false, .int .i64 0, .int .i64 0, .int .i64 0, .int .i64 0, .int .i64 0, .int .i64 0, .slice none 0 0] 31)).heap.size := by simp
  generalize hWA : (w.alloc (.cells #[.int .i64 0, .int .i64 0, .bool false, .bool false, .bool false, .int .i64 0, .int .i64 0, .int .i64 0, .int .i64 0, .int .i64 0, .int .i64 0, .slice none 0 0] 31)) = WA at kR fR HB zR ⊢
  clear hWA
  go_upto_region 1 with fail
  refine wp_region_noPanic ?_
  refine Goes.start (S := fun w' => Below w.heap.size w w') (z := 100) (by kernel_rfl) ?_
  replace kR : ∀ o, WA.drew.cell? ⟨w.heap.size, o, none⟩ = (#[.int .i64 0, .int .i64 0, .bool false, .bool false, .bool false, .int .i64 0, .int .i64 0, .int .i64 0, .int .i64 0, .int .i64 0, .int .i64 0, .slice none 0 0] : Array Value)[o]? := kR
  replace fR : ∀ o, WA.drew.frozen? ⟨w.heap.size, o, none⟩ = false := fR
  replace zR : w.heap.size < WA.drew.heap.size := zR
  replace HB : Hid (Below w.heap.size w WA.drew) := HB.out.drew
  generalize hD : WA.drew = WD at kR fR zR HB ⊢
  clear hD WA
  refine Goes.take (i := 0) (oi := ?oi11) (x := ?vx11) ?ho11 (by kernel_rfl) (by kernel_rfl) (by kernel_rfl) (by kernel_rfl) (fun _ _ _ h => h) (Or.inl ⟨?hw11, ?hy11⟩) HB.out ?rest11
  case ho11 => (simp only [List.getElem?_toArray, List.getElem?_cons_zero]; rfl)
  case hw11 => rfl
  case hy11 => (intro w' hSw; obtain ⟨jc0, jc1, jc2, jc3, js0, js2, js3, js4, js6, js10⟩ := HC.out _ hSw; go_simp; (try with_reducible rfl))
  case rest11 =>
  (try simp only [Act.put, List.setIfInBounds_toArray, List.set_cons_zero, List.set_cons_succ])
  refine Goes.take (i := 1) (oi := ?oi12) (x := ?vx12) ?ho12 (by kernel_rfl) (by kernel_rfl) (by kernel_rfl) (by kernel_rfl) (fun _ _ _ h => h) (Or.inl ⟨?hw12, ?hy12⟩) HB.out ?rest12
  case ho12 => (simp only [List.getElem?_toArray, List.getElem?_cons_succ, List.getElem?_cons_zero]; rfl)
  case hw12 => rfl
  case hy12 => (intro w' hSw; obtain ⟨jc0, jc1, jc2, jc3, js0, js2, js3, js4, js6, js10⟩ := HC.out _ hSw; go_simp; (try with_reducible rfl))
  case rest12 =>
  (try simp only [Act.put, List.setIfInBounds_toArray, List.set_cons_zero, List.set_cons_succ])
  refine Goes.take (i := 2) (oi := ?oi13) (x := ?vx13) ?ho13 (by kernel_rfl) (by kernel_rfl) (by kernel_rfl) (by kernel_rfl) (fun _ _ _ h => h) (Or.inl ⟨?hw13, ?hy13⟩) HB.out ?rest13
  case ho13 => (simp only [List.getElem?_toArray, List.getElem?_cons_succ, List.getElem?_cons_zero]; rfl)
  case hw13 => rfl
  case hy13 => (intro w' hSw; obtain ⟨jc0, jc1, jc2, jc3, js0, js2, js3, js4, js6, js10⟩ := HC.out _ hSw; go_simp; (try with_reducible rfl))
  case rest13 =>
  (try simp only [Act.put, List.setIfInBounds_toArray, List.set_cons_zero, List.set_cons_succ])
  refine Goes.take (i := 3) (oi := ?oi14) (x := ?vx14) ?ho14 (by kernel_rfl) (by kernel_rfl) (by kernel_rfl) (by kernel_rfl) (fun _ _ _ h => h) (Or.inl ⟨?hw14, ?hy14⟩) HB.out ?rest14
  case ho14 => (simp only [List.getElem?_toArray, List.getElem?_cons_succ, List.getElem?_cons_zero]; rfl)
  case hw14 => rfl
  case hy14 => (intro w' hSw; obtain ⟨jc0, jc1, jc2, jc3, js0, js2, js3, js4, js6, js10⟩ := HC.out _ hSw; go_simp; (try with_reducible rfl))
  case rest14 =>
  (try simp only [Act.put, List.setIfInBounds_toArray, List.set_cons_zero, List.set_cons_succ])
  refine Goes.take (i := 4) (oi := ?oi15) (x := ?vx15) ?ho15 (by kernel_rfl) (by kernel_rfl) (by kernel_rfl) (by kernel_rfl) (fun _ _ _ h => h) (Or.inl ⟨?hw15, ?hy15⟩) HB.out ?rest15
  case ho15 => (simp only [List.getElem?_toArray, List.getElem?_cons_succ, List.getElem?_cons_zero]; rfl)
  case hw15 => rfl
  case hy15 => (intro w' hSw; obtain ⟨jc0, jc1, jc2, jc3, js0, js2, js3, js4, js6, js10⟩ := HC.out _ hSw; go_simp; (try with_reducible rfl))
  case rest15 =>
  (try simp only [Act.put, List.setIfInBounds_toArray, List.set_cons_zero, List.set_cons_succ])
  refine Goes.take (i := 5) (oi := ?oi16) (x := ?vx16) ?ho16 (by kernel_rfl) (by kernel_rfl) (by kernel_rfl) (by kernel_rfl) (fun _ _ _ h => h) (Or.inl ⟨?hw16, ?hy16⟩) HB.out ?rest16
  case ho16 => (simp only [List.getElem?_toArray, List.getElem?_cons_succ, List.getElem?_cons_zero]; rfl)
  case hw16 => rfl
  case hy16 => (intro w' hSw; obtain ⟨jc0, jc1, jc2, jc3, js0, js2, js3, js4, js6, js10⟩ := HC.out _ hSw; go_simp; (try with_reducible rfl))
  case rest16 =>
  (try simp only [Act.put, List.setIfInBounds_toArray, List.set_cons_zero, List.set_cons_succ])
  refine Goes.take (i := 6) (oi := ?oi17) (x := ?vx17) ?ho17 (by kernel_rfl) (by kernel_rfl) (by kernel_rfl) (by kernel_rfl) (fun _ _ _ h => h) (Or.inl ⟨?hw17, ?hy17⟩) HB.out ?rest17
  case ho17 => (simp only [List.getElem?_toArray, List.getElem?_cons_succ, List.getElem?_cons_zero]; rfl)
  case hw17 => rfl
  case hy17 => (intro w' hSw; obtain ⟨jc0, jc1, jc2, jc3, js0, js2, js3, js4, js6, js10⟩ := HC.out _ hSw; go_simp; (try with_reducible rfl))
  case rest17 =>
  (try simp only [Act.put, List.setIfInBounds_toArray, List.set_cons_zero, List.set_cons_succ])
  refine Goes.take (i := 7) (oi := ?oi18) (x := ?vx18) ?ho18 (by kernel_rfl) (by kernel_rfl) (by kernel_rfl) (by kernel_rfl) (fun _ _ _ h => h) (Or.inl ⟨?hw18, ?hy18⟩) HB.out ?rest18
  case ho18 => (simp only [List.getElem?_toArray, List.getElem?_cons_succ, List.getElem?_cons_zero]; rfl)
  case hw18 => rfl
  case hy18 => (intro w' hSw; obtain ⟨jc0, jc1, jc2, jc3, js0, js2, js3, js4, js6, js10⟩ := HC.out _ hSw; go_simp; (try with_reducible rfl))
  case rest18 =>
  (try simp only [Act.put, List.setIfInBounds_toArray, List.set_cons_zero, List.set_cons_succ])
  refine Goes.take (i := 8) (oi := ?oi19) (x := ?vx19) ?ho19 (by kernel_rfl) (by kernel_rfl) (by kernel_rfl) (by kernel_rfl) (fun _ _ _ h => h) (Or.inl ⟨?hw19, ?hy19⟩) HB.out ?rest19
  case ho19 => (simp only [List.getElem?_toArray, List.getElem?_cons_succ, List.getElem?_cons_zero]; rfl)
  case hw19 => rfl
  case hy19 => (intro w' hSw; obtain ⟨jc0, jc1, jc2, jc3, js0, js2, js3, js4, js6, js10⟩ := HC.out _ hSw; go_simp; (try with_reducible rfl))
  case rest19 =>
  (try simp only [Act.put, List.setIfInBounds_toArray, List.set_cons_zero, List.set_cons_succ])
  refine Goes.take (i := 9) (oi := ?oi20) (x := ?vx20) ?ho20 (by kernel_rfl) (by kernel_rfl) (by kernel_rfl) (by kernel_rfl) (fun _ _ _ h => h) (Or.inl ⟨?hw20, ?hy20⟩) HB.out ?rest20
  case ho20 => (simp only [List.getElem?_toArray, List.getElem?_cons_succ, List.getElem?_cons_zero]; rfl)
  case hw20 => rfl
  case hy20 => (intro w' hSw; obtain ⟨jc0, jc1, jc2, jc3, js0, js2, js3, js4, js6, js10⟩ := HC.out _ hSw; go_simp; (try with_reducible rfl))
  case rest20 =>
  (try simp only [Act.put, List.setIfInBounds_toArray, List.set_cons_zero, List.set_cons_succ])
  refine Goes.take (i := 10) (oi := ?oi21) (x := ?vx21) ?ho21 (by kernel_rfl) (by kernel_rfl) (by kernel_rfl) (by kernel_rfl) (fun _ _ _ h => h) (Or.inl ⟨?hw21, ?hy21⟩) HB.out ?rest21
  case ho21 => (simp only [List.getElem?_toArray, List.getElem?_cons_succ, List.getElem?_cons_zero]; rfl)
  case hw21 => rfl
  case hy21 => (intro w' hSw; obtain ⟨jc0, jc1, jc2, jc3, js0, js2, js3, js4, js6, js10⟩ := HC.out _ hSw; go_simp; (try with_reducible rfl))
  case rest21 =>
  (try simp only [Act.put, List.setIfInBounds_toArray, List.set_cons_zero, List.set_cons_succ])
  refine Goes.take (i := 11) (oi := ?oi22) (x := ?vx22) ?ho22 (by kernel_rfl) (by kernel_rfl) (by kernel_rfl) (by kernel_rfl) (fun _ _ _ h => h) (Or.inl ⟨?hw22, ?hy22⟩) HB.out ?rest22
  case ho22 => (simp only [List.getElem?_toArray, List.getElem?_cons_succ, List.getElem?_cons_zero]; rfl)
  case hw22 => rfl
  case hy22 => (intro w' hSw; obtain ⟨jc0, jc1, jc2, jc3, js0, js2, js3, js4, js6, js10⟩ := HC.out _ hSw; go_simp; (try with_reducible rfl))
  case rest22 =>
  (try simp only [Act.put, List.setIfInBounds_toArray, List.set_cons_zero, List.set_cons_succ])
  refine Goes.take (i := 12) (oi := ?oi23) (x := ?vx23) ?ho23 (by kernel_rfl) (by kernel_rfl) (by kernel_rfl) (by kernel_rfl) (fun _ _ _ h => h) (Or.inl ⟨?hw23, ?hy23⟩) HB.out ?rest23
  case ho23 => (simp only [List.getElem?_toArray, List.getElem?_cons_succ, List.getElem?_cons_zero]; rfl)
  case hw23 => rfl
  case hy23 => (intro w' hSw; obtain ⟨jc0, jc1, jc2, jc3, js0, js2, js3, js4, js6, js10⟩ := HC.out _ hSw; go_simp; (try with_reducible rfl))
  case rest23 =>
  (try simp only [Act.put, List.setIfInBounds_toArray, List.set_cons_zero, List.set_cons_succ])
  refine Goes.take (i := 13) (oi := ?oi24) (x := ?vx24) ?ho24 (by kernel_rfl) (by kernel_rfl) (by kernel_rfl) (by kernel_rfl) (fun _ _ _ h => h) (Or.inl ⟨?hw24, ?hy24⟩) HB.out ?rest24
  case ho24 => (simp only [List.getElem?_toArray, List.getElem?_cons_succ, List.getElem?_cons_zero]; rfl)
  case hw24 => rfl
  case hy24 => (intro w' hSw; obtain ⟨jc0, jc1, jc2, jc3, js0, js2, js3, js4, js6, js10⟩ := HC.out _ hSw; go_simp; (try with_reducible rfl))
  case rest24 =>
  (try simp only [Act.put, List.setIfInBounds_toArray, List.set_cons_zero, List.set_cons_succ])
  refine Goes.take (i := 14) (oi := ?oi25) (x := ?vx25) ?ho25 (by kernel_rfl) (by kernel_rfl) (by kernel_rfl) (by kernel_rfl) (fun _ _ _ h => h) (Or.inl ⟨?hw25, ?hy25⟩) HB.out ?rest25
  case ho25 => (simp only [List.getElem?_toArray, List.getElem?_cons_succ, List.getElem?_cons_zero]; rfl)
  case hw25 => rfl
  case hy25 => (intro w' hSw; obtain ⟨jc0, jc1, jc2, jc3, js0, js2, js3, js4, js6, js10⟩ := HC.out _ hSw; go_simp; (try with_reducible rfl))
  case rest25 =>
  (try simp only [Act.put, List.setIfInBounds_toArray, List.set_cons_zero, List.set_cons_succ])
  refine Goes.take (i := 15) (oi := ?oi26) (x := ?vx26) ?ho26 (by kernel_rfl) (by kernel_rfl) (by kernel_rfl) (by kernel_rfl) (fun _ _ _ h => h) (Or.inl ⟨?hw26, ?hy26⟩) HB.out ?rest26
  case ho26 => (simp only [List.getElem?_toArray, List.getElem?_cons_succ, List.getElem?_cons_zero]; rfl)
  case hw26 => rfl
  case hy26 => (intro w' hSw; obtain ⟨jc0, jc1, jc2, jc3, js0, js2, js3, js4, js6, js10⟩ := HC.out _ hSw; go_simp; (try with_reducible rfl))
  case rest26 =>
  (try simp only [Act.put, List.setIfInBounds_toArray, List.set_cons_zero, List.set_cons_succ])
  refine Goes.take (i := 16) (oi := ?oi27) (x := ?vx27) ?ho27 (by kernel_rfl) (by kernel_rfl) (by kernel_rfl) (by kernel_rfl) (fun _ _ _ h => h) (Or.inl ⟨?hw27, ?hy27⟩) HB.out ?rest27
  case ho27 => (simp only [List.getElem?_toArray, List.getElem?_cons_succ, List.getElem?_cons_zero]; rfl)
  case hw27 => rfl
  case hy27 => (intro w' hSw; obtain ⟨jc0, jc1, jc2, jc3, js0, js2, js3, js4, js6, js10⟩ := HC.out _ hSw; go_simp; (try with_reducible rfl))
  case rest27 =>
  (try simp only [Act.put, List.setIfInBounds_toArray, List.set_cons_zero, List.set_cons_succ])
  refine Goes.take (i := 17) (oi := ?oi28) (x := ?vx28) ?ho28 (by kernel_rfl) (by kernel_rfl) (by kernel_rfl) (by kernel_rfl) (fun _ _ _ h => h) (Or.inl ⟨?hw28, ?hy28⟩) HB.out ?rest28
  case ho28 => (simp only [List.getElem?_toArray, List.getElem?_cons_succ, List.getElem?_cons_zero]; rfl)
  case hw28 => rfl
  case hy28 => (intro w' hSw; obtain ⟨jc0, jc1, jc2, jc3, js0, js2, js3, js4, js6, js10⟩ := HC.out _ hSw; go_simp; (try with_reducible rfl))
  case rest28 =>
  (try simp only [Act.put, List.setIfInBounds_toArray, List.set_cons_zero, List.set_cons_succ])
  refine Goes.take (i := 18) (oi := ?oi29) (x := ?vx29) ?ho29 (by kernel_rfl) (by kernel_rfl) (by kernel_rfl) (by kernel_rfl) (fun _ _ _ h => h) (Or.inl ⟨?hw29, ?hy29⟩) HB.out ?rest29
  case ho29 => (simp only [List.getElem?_toArray, List.getElem?_cons_succ, List.getElem?_cons_zero]; rfl)
  case hw29 => rfl
  case hy29 => (intro w' hSw; obtain ⟨jc0, jc1, jc2, jc3, js0, js2, js3, js4, js6, js10⟩ := HC.out _ hSw; go_simp; (try with_reducible rfl))
  case rest29 =>
  (try simp only [Act.put, List.setIfInBounds_toArray, List.set_cons_zero, List.set_cons_succ])
  refine Goes.all (rs := [19]) (by kernel_rfl) (by simp) ?_
  refine Ups.cons (i := 19) (o := ?oo30) ?ho30 (fun KK hKK => ?stp30) Ups.nil
  case ho30 => (simp only [List.getElem?_toArray, List.getElem?_cons_succ, List.getElem?_cons_zero]; rfl)
  case stp30 =>
  go_simp
  refine hKK.out _ _ (Or.inr (Below.alloc HB.out (Below.size HB.out) _)) ?_
  clear hKK KK
  (try simp only [Act.put, List.setIfInBounds_toArray, List.set_cons_zero, List.set_cons_succ])
  have kG : ∀ o, (WD.alloc (.cells #[.int .i64 0, .int .i64 0, .bool false, .bool false, .bool false, .int .i64 0, .int .i64 0, .int .i64 0, .int .i64 0, .int .i64 0, .int .i64 0, .slice none 0 0] 31)).cell? ⟨WD.heap.size, o, none⟩ = (#[.int .i64 0, .int .i64 0, .bool false, .bool false, .bool false, .int .i64 0, .int .i64 0, .int .i64 0, .int .i64 0, .int .i64 0, .int .i64 0, .slice none 0 0] : Array Value)[o]? := bx_al WD _ _
  have fG : ∀ o, (WD.alloc (.cells #[.int .i64 0, .int .i64 0, .bool false, .bool false, .bool false, .int .i64 0, .int .i64 0, .int .i64 0, .int .i64 0, .int .i64 0, .int .i64 0, .slice none 0 0] 31)).frozen? ⟨WD.heap.size, o, none⟩ = false := fx_al WD _ _
  have hbB : Below WD.heap.size WD (WD.alloc (.cells #[.int .i64 0, .int .i64 0, .bool false, .bool false, .bool false, .int .i64 0, .int .i64 0, .int .i64 0, .int .i64 0, .int .i64 0, .int .i64 0, .slice none 0 0] 31)) := (Below.refl _ _).alloc (Nat.le_refl _) _
  have zG : WD.heap.size < (WD.alloc (.cells #[.int .i64 0, .int .i64 0, .bool false, .bool false, .bool false, .int .i64 0, .int .i64 0, .int .i64 0, .int .i64 0, .int .i64 0, .int .i64 0, .slice none 0 0] 31)).heap.size := by simp
  generalize hWB : (WD.alloc (.cells #[.int .i64 0, .int .i64 0, .bool false, .bool false, .bool false, .int .i64 0, .int .i64 0, .int .i64 0, .int .i64 0, .int .i64 0, .int .i64 0, .slice none 0 0] 31)) = WB at kG fG hbB zG ⊢
  clear hWB
  replace kR := bx_below kR zR hbB
  replace fR := bxF fR hbB zR
  replace HB : Hid (Below w.heap.size w WB) := HB.out.trans (hbB.mono HB.out.size)
  clear hbB
  obtain ⟨g, hg⟩ : ∃ g, g = WD.heap.size := ⟨_, rfl⟩
  rw [← hg] at zR kG fG zG ⊢
  clear hg WD
  have HTH : Hid (WB.there g 0 G.size) := bx_there kG fG (by rw [HGZ.out]; rfl)
  refine Goes.all (rs := [20]) (by kernel_rfl) (by simp) ?_
  refine Ups.cons (i := 20) (o := ?oo31) ?ho31 (fun KK hKK => ?stp31) Ups.nil
  case ho31 => (simp only [List.getElem?_toArray, List.getElem?_cons_succ, List.getElem?_cons_zero]; rfl)
  case stp31 =>
  rw [if_pos (by rfl)]
  refine wp_store_mid 31 _ _ rfl _ _ G (by rfl) (by rw [HG.out]; rfl) HTH.out HIG.out HONE.out ?_
  refine hKK.out _ _ (Or.inr (setCells_below (show w.heap.size ≤ g by omega) _ _ _ _ HB.out)) ?_
  clear hKK KK
  (try simp only [Act.put])
  refine Goes.done (by kernel_rfl) ?_ _
  refine NoPanic.normal ?_
  replace kG : ∀ o, (WB.setCells g 0 G.toList).cell? ⟨g, o, none⟩ = G[o]? := bx_setCells kG (by rw [HGZ.out]; rfl)
  replace fG : ∀ o, (WB.setCells g 0 G.toList).frozen? ⟨g, o, none⟩ = false := fx_sets fG
  replace kR : ∀ o, (WB.setCells g 0 G.toList).cell? ⟨w.heap.size, o, none⟩ = (#[.int .i64 0, .int .i64 0, .bool false, .bool false, .bool false, .int .i64 0, .int .i64 0, .int .i64 0, .int .i64 0, .int .i64 0, .int .i64 0, .slice none 0 0] : Array Value)[o]? := bx_setOff kR (by omega)
  replace fR : ∀ o, (WB.setCells g 0 G.toList).frozen? ⟨w.heap.size, o, none⟩ = false := fx_sets fR
  replace HB : Hid (Below w.heap.size w (WB.setCells g 0 G.toList)) := setCells_below (show w.heap.size ≤ g by omega) _ _ _ _ HB.out
  replace zG : g < (WB.setCells g 0 G.toList).heap.size := by rw [setCells_size]; exact zG
  generalize hWC : (WB.setCells g 0 G.toList) = WC at kG fG kR fR HB zG ⊢
  clear hWC HTH
  have g8 : G[8]? = some (.int .i64 0) := by rw [HG.out]; rfl
  have g9 : G[9]? = some (.int .i64 0) := by rw [HG.out]; rfl
  have g10 : G[10]? = some (.int .i64 0) := by rw [HG.out]; rfl
  obtain ⟨jc0, jc1, jc2, jc3, js0, js2, js3, js4, js6, js10⟩ := HC.out _ HB.out
  cases jo
  case true =>
    go_upto_region 4 with fail
    have HB3 : Hid (Below w.heap.size w (WC.setCell ⟨g, 8, none⟩ (.int .i64 3))) := Below.setCell (p := ⟨g, 8, none⟩) HB.out (show w.heap.size ≤ g by omega) _
    refine wp_region_noPanic ?_
    refine Goes.start (S := fun w' => Below w.heap.size w w') (z := 100) (by kernel_rfl) ?_
    refine Goes.take (i := 0) (oi := ?oi61) (x := ?vx61) ?ho61 (by kernel_rfl) (by kernel_rfl) (by kernel_rfl) (by kernel_rfl) (fun _ _ _ h => h) (Or.inl ⟨?hw61, ?hy61⟩) HB3.out.drew ?rest61
    case ho61 => (simp only [List.getElem?_toArray, List.getElem?_cons_zero]; rfl)
    case hw61 => rfl
    case hy61 => (intro w' hSw; obtain ⟨jc0, jc1, jc2, jc3, js0, js2, js3, js4, js6, js10⟩ := HC.out _ hSw; go_simp; (try with_reducible rfl))
    case rest61 =>
    (try simp only [Act.put, List.setIfInBounds_toArray, List.set_cons_zero, List.set_cons_succ])
    refine Goes.take (i := 1) (oi := ?oi62) (x := ?vx62) ?ho62 (by kernel_rfl) (by kernel_rfl) (by kernel_rfl) (by kernel_rfl) (fun _ _ _ h => h) (Or.inl ⟨?hw62, ?hy62⟩) HB3.out.drew ?rest62
    case ho62 => (simp only [List.getElem?_toArray, List.getElem?_cons_succ, List.getElem?_cons_zero]; rfl)
    case hw62 => rfl
    case hy62 => (intro w' hSw; obtain ⟨jc0, jc1, jc2, jc3, js0, js2, js3, js4, js6, js10⟩ := HC.out _ hSw; go_simp; (try with_reducible rfl))
    case rest62 =>
    (try simp only [Act.put, List.setIfInBounds_toArray, List.set_cons_zero, List.set_cons_succ])
    refine Goes.take (i := 2) (oi := ?oi63) (x := ?vx63) ?ho63 (by kernel_rfl) (by kernel_rfl) (by kernel_rfl) (by kernel_rfl) (fun _ _ _ h => h) (Or.inl ⟨?hw63, ?hy63⟩) HB3.out.drew ?rest63
    case ho63 => (simp only [List.getElem?_toArray, List.getElem?_cons_succ, List.getElem?_cons_zero]; rfl)
    case hw63 => rfl
    case hy63 => (intro w' hSw; obtain ⟨jc0, jc1, jc2, jc3, js0, js2, js3, js4, js6, js10⟩ := HC.out _ hSw; go_simp; (try with_reducible rfl))
    case rest63 =>
    (try simp only [Act.put, List.setIfInBounds_toArray, List.set_cons_zero, List.set_cons_succ])
    refine Goes.take (i := 3) (oi := ?oi64) (x := ?vx64) ?ho64 (by kernel_rfl) (by kernel_rfl) (by kernel_rfl) (by kernel_rfl) (fun _ _ _ h => h) (Or.inl ⟨?hw64, ?hy64⟩) HB3.out.drew ?rest64
    case ho64 => (simp only [List.getElem?_toArray, List.getElem?_cons_succ, List.getElem?_cons_zero]; rfl)
    case hw64 => rfl
    case hy64 => (intro w' hSw; obtain ⟨jc0, jc1, jc2, jc3, js0, js2, js3, js4, js6, js10⟩ := HC.out _ hSw; go_simp; (try with_reducible rfl))
    case rest64 =>
    (try simp only [Act.put, List.setIfInBounds_toArray, List.set_cons_zero, List.set_cons_succ])
    refine Goes.take (i := 4) (oi := ?oi65) (x := ?vx65) ?ho65 (by kernel_rfl) (by kernel_rfl) (by kernel_rfl) (by kernel_rfl) (fun _ _ _ h => h) (Or.inl ⟨?hw65, ?hy65⟩) HB3.out.drew ?rest65
    case ho65 => (simp only [List.getElem?_toArray, List.getElem?_cons_succ, List.getElem?_cons_zero]; rfl)
    case hw65 => rfl
    case hy65 => (intro w' hSw; obtain ⟨jc0, jc1, jc2, jc3, js0, js2, js3, js4, js6, js10⟩ := HC.out _ hSw; go_simp; (try with_reducible rfl))
    case rest65 =>
    (try simp only [Act.put, List.setIfInBounds_toArray, List.set_cons_zero, List.set_cons_succ])
    refine Goes.take (i := 5) (oi := ?oi66) (x := ?vx66) ?ho66 (by kernel_rfl) (by kernel_rfl) (by kernel_rfl) (by kernel_rfl) (fun _ _ _ h => h) (Or.inl ⟨?hw66, ?hy66⟩) HB3.out.drew ?rest66
    case ho66 => (simp only [List.getElem?_toArray, List.getElem?_cons_succ, List.getElem?_cons_zero]; rfl)
    case hw66 => rfl
    case hy66 => (intro w' hSw; obtain ⟨jc0, jc1, jc2, jc3, js0, js2, js3, js4, js6, js10⟩ := HC.out _ hSw; go_simp; (try with_reducible rfl))
    case rest66 =>
    (try simp only [Act.put, List.setIfInBounds_toArray, List.set_cons_zero, List.set_cons_succ])
    refine Goes.take (i := 6) (oi := ?oi67) (x := ?vx67) ?ho67 (by kernel_rfl) (by kernel_rfl) (by kernel_rfl) (by kernel_rfl) (fun _ _ _ h => h) (Or.inl ⟨?hw67, ?hy67⟩) HB3.out.drew ?rest67
    case ho67 => (simp only [List.getElem?_toArray, List.getElem?_cons_succ, List.getElem?_cons_zero]; rfl)
    case hw67 => rfl
    case hy67 => (intro w' hSw; obtain ⟨jc0, jc1, jc2, jc3, js0, js2, js3, js4, js6, js10⟩ := HC.out _ hSw; go_simp; (try with_reducible rfl))
    case rest67 =>
    (try simp only [Act.put, List.setIfInBounds_toArray, List.set_cons_zero, List.set_cons_succ])
    refine Goes.take (i := 7) (oi := ?oi68) (x := ?vx68) ?ho68 (by kernel_rfl) (by kernel_rfl) (by kernel_rfl) (by kernel_rfl) (fun _ _ _ h => h) (Or.inl ⟨?hw68, ?hy68⟩) HB3.out.drew ?rest68
    case ho68 => (simp only [List.getElem?_toArray, List.getElem?_cons_succ, List.getElem?_cons_zero]; rfl)
    case hw68 => rfl
    case hy68 => (intro w' hSw; obtain ⟨jc0, jc1, jc2, jc3, js0, js2, js3, js4, js6, js10⟩ := HC.out _ hSw; go_simp; (try with_reducible rfl))
    case rest68 =>
    (try simp only [Act.put, List.setIfInBounds_toArray, List.set_cons_zero, List.set_cons_succ])
    refine Goes.take (i := 8) (oi := ?oi69) (x := ?vx69) ?ho69 (by kernel_rfl) (by kernel_rfl) (by kernel_rfl) (by kernel_rfl) (fun _ _ _ h => h) (Or.inl ⟨?hw69, ?hy69⟩) HB3.out.drew ?rest69
    case ho69 => (simp only [List.getElem?_toArray, List.getElem?_cons_succ, List.getElem?_cons_zero]; rfl)
    case hw69 => rfl
    case hy69 => (intro w' hSw; obtain ⟨jc0, jc1, jc2, jc3, js0, js2, js3, js4, js6, js10⟩ := HC.out _ hSw; go_simp; (try with_reducible rfl))
    case rest69 =>
    (try simp only [Act.put, List.setIfInBounds_toArray, List.set_cons_zero, List.set_cons_succ])
    refine Goes.take (i := 9) (oi := ?oi70) (x := ?vx70) ?ho70 (by kernel_rfl) (by kernel_rfl) (by kernel_rfl) (by kernel_rfl) (fun _ _ _ h => h) (Or.inl ⟨?hw70, ?hy70⟩) HB3.out.drew ?rest70
    case ho70 => (simp only [List.getElem?_toArray, List.getElem?_cons_succ, List.getElem?_cons_zero]; rfl)
    case hw70 => rfl
    case hy70 => (intro w' hSw; obtain ⟨jc0, jc1, jc2, jc3, js0, js2, js3, js4, js6, js10⟩ := HC.out _ hSw; go_simp; (try with_reducible rfl))
    case rest70 =>
    (try simp only [Act.put, List.setIfInBounds_toArray, List.set_cons_zero, List.set_cons_succ])
    refine Goes.take (i := 10) (oi := ?oi71) (x := ?vx71) ?ho71 (by kernel_rfl) (by kernel_rfl) (by kernel_rfl) (by kernel_rfl) (fun _ _ _ h => h) (Or.inl ⟨?hw71, ?hy71⟩) HB3.out.drew ?rest71
    case ho71 => (simp only [List.getElem?_toArray, List.getElem?_cons_succ, List.getElem?_cons_zero]; rfl)
    case hw71 => rfl
    case hy71 => (intro w' hSw; obtain ⟨jc0, jc1, jc2, jc3, js0, js2, js3, js4, js6, js10⟩ := HC.out _ hSw; go_simp; (try with_reducible rfl))
    case rest71 =>
    (try simp only [Act.put, List.setIfInBounds_toArray, List.set_cons_zero, List.set_cons_succ])
    refine Goes.take (i := 11) (oi := ?oi72) (x := ?vx72) ?ho72 (by kernel_rfl) (by kernel_rfl) (by kernel_rfl) (by kernel_rfl) (fun _ _ _ h => h) (Or.inl ⟨?hw72, ?hy72⟩) HB3.out.drew ?rest72
    case ho72 => (simp only [List.getElem?_toArray, List.getElem?_cons_succ, List.getElem?_cons_zero]; rfl)
    case hw72 => rfl
    case hy72 => (intro w' hSw; obtain ⟨jc0, jc1, jc2, jc3, js0, js2, js3, js4, js6, js10⟩ := HC.out _ hSw; go_simp; (try with_reducible rfl))
    case rest72 =>
    (try simp only [Act.put, List.setIfInBounds_toArray, List.set_cons_zero, List.set_cons_succ])
    refine Goes.all (rs := [12]) (by kernel_rfl) (by simp) ?_
    refine Ups.cons (i := 12) (o := ?oo73) ?ho73 (fun KK hKK => ?stp73) Ups.nil
    case ho73 => (simp only [List.getElem?_toArray, List.getElem?_cons_succ, List.getElem?_cons_zero]; rfl)
    case stp73 =>
    go_simp
    go_at_call 57
    refine (HO.out _).mono ?_
    rintro e W2 ⟨rfl, hbq⟩
    have HS73 : Hid (Below w.heap.size w W2) := Below.trans HB3.out.drew (hbq.mono (Below.size HB3.out.drew))
    replace hbq := (Below.drew (Below.refl (WC.setCell ⟨g, 8, none⟩ (.int .i64 3)).heap.size (WC.setCell ⟨g, 8, none⟩ (.int .i64 3)))).trans hbq
    have k8 : ∀ o, (WC.setCell ⟨g, 8, none⟩ (.int .i64 3)).cell? ⟨g, o, none⟩ = (G.setIfInBounds 8 (.int .i64 3))[o]? := bx_put kG (by rw [HGZ.out]; omega)
    replace k8 := bx_below k8 (by simpa using zG) hbq
    have f8 : ∀ o, (WC.setCell ⟨g, 8, none⟩ (.int .i64 3)).frozen? ⟨g, o, none⟩ = false := fx_setC fG
    replace f8 := bxF f8 hbq (by simpa using zG)
    replace kR := bx_below (bx_setC (k := 8) (v := .int .i64 3) kR (show w.heap.size ≠ g by omega)) (by simp; omega) hbq
    replace fR := bxF (fx_setC (g := g) (k := 8) (v := .int .i64 3) fR) hbq (by simp; omega)
    have m9 : (G.setIfInBounds 8 (.int .i64 3))[9]? = some (.int .i64 0) := by rw [HG.out]; rfl
    have m10 : (G.setIfInBounds 8 (.int .i64 3))[10]? = some (.int .i64 0) := by rw [HG.out]; rfl
    generalize hM : G.setIfInBounds 8 (.int .i64 3) = M at k8 m9 m10
    have HM : Hid _ := hM
    clear hM kG fG g8 g9 g10
    clear hbq
    dsimp only
    refine hKK.out _ _ (Or.inr HS73.out) ?_
    clear hKK KK
    (try simp only [Act.put, List.setIfInBounds_toArray, List.set_cons_zero, List.set_cons_succ])
    refine Goes.take (i := 13) (oi := ?oi74) (x := ?vx74) ?ho74 (by kernel_rfl) (by kernel_rfl) (by kernel_rfl) (by kernel_rfl) (fun _ _ _ h => h) (Or.inl ⟨?hw74, ?hy74⟩) HS73.out ?rest74
    case ho74 => (simp only [List.getElem?_toArray, List.getElem?_cons_succ, List.getElem?_cons_zero]; rfl)
    case hw74 => rfl
    case hy74 => (intro w' hSw; obtain ⟨jc0, jc1, jc2, jc3, js0, js2, js3, js4, js6, js10⟩ := HC.out _ hSw; go_simp; (try with_reducible rfl))
    case rest74 =>
    (try simp only [Act.put, List.setIfInBounds_toArray, List.set_cons_zero, List.set_cons_succ])
    refine Goes.all (rs := [14]) (by kernel_rfl) (by simp) ?_
    refine Ups.cons (i := 14) (o := ?oo75) ?ho75 (fun KK hKK => ?stp75) Ups.nil
    case ho75 => (simp only [List.getElem?_toArray, List.getElem?_cons_succ, List.getElem?_cons_zero]; rfl)
    case stp75 =>
    go_simp
    refine hKK.out _ _ (Or.inr (Below.setCell (p := ⟨g, 9, none⟩) HS73.out (show w.heap.size ≤ g by omega) _)) ?_
    clear hKK KK
    (try simp only [Act.put, List.setIfInBounds_toArray, List.set_cons_zero, List.set_cons_succ])
    refine Goes.done (by kernel_rfl) ?_ _
    refine NoPanic.normal ?_
    have HB4 : Hid (Below w.heap.size w W2) := HS73.out
    obtain ⟨ic0, ic1, ic2, ic3, is0, is2, is3, is4, is6, is10⟩ := HC.out _ (Below.setCell (p := ⟨g, 9, none⟩) HB4.out (show w.heap.size ≤ g by omega) (.int .i64 mx))
    go_upto_region 9 with fail
    obtain ⟨N, hN⟩ : ∃ N : Array Value, N = #[.int .i64 pa, .int .i64 sd, .bool true, .bool true, .bool false, .int .i64 ss, .int .i64 cs, .int .i64 0, .int .i64 3, .int .i64 mx, .int .i64 no, .slice none 0 0] := ⟨_, rfl⟩
    have HN : Hid _ := hN
    have hNz : N.size = 12 := by rw [hN]; rfl
    have HIN : Hid ((Tryz.prog.info? 31).map (·.size) = some N.size) := by show _ = _; rw [hNz]; exact (by kernel_rfl : (Tryz.prog.info? 31).map (·.size) = some 12)
    have HIN' : Hid ((Tryz.prog.info? 31).map (·.size) = some N.toList.length) := by show _ = _; rw [Array.length_toList]; exact HIN.out
    have HONEN : Hid (N.all (·.oneCell') = true) := by show _ = _; rw [hN]; simp [Value.oneCell']
    have kN : ∀ o, ((W2.setCell ⟨g, 9, none⟩ (.int .i64 mx)).setCell ⟨g, 10, none⟩ (.int .i64 no)).cell? ⟨g, o, none⟩ = N[o]? := by
      have h0 := k8
      rw [← HM.out, HG.out] at h0
      have h2 := (bx_put (bx_put h0 (k := 9) (v := .int .i64 mx) (by simp)) (k := 10) (v := .int .i64 no) (by simp))
      rw [hN]
      simpa using h2
    have kQ : ∀ o, ((W2.setCell ⟨g, 9, none⟩ (.int .i64 mx)).setCell ⟨g, 10, none⟩ (.int .i64 no)).cell? ⟨w.heap.size, o, none⟩ = (#[.int .i64 0, .int .i64 0, .bool false, .bool false, .bool false, .int .i64 0, .int .i64 0, .int .i64 0, .int .i64 0, .int .i64 0, .int .i64 0, .slice none 0 0] : Array Value)[o]? := (bx_setC (bx_setC kR (show w.heap.size ≠ g by omega)) (show w.heap.size ≠ g by omega))
    have fQ : ∀ o, ((W2.setCell ⟨g, 9, none⟩ (.int .i64 mx)).setCell ⟨g, 10, none⟩ (.int .i64 no)).frozen? ⟨w.heap.size, o, none⟩ = false := (fx_setC (fx_setC fR))
    have HBW : Hid (Below w.heap.size w ((W2.setCell ⟨g, 9, none⟩ (.int .i64 mx)).setCell ⟨g, 10, none⟩ (.int .i64 no))) := (Below.setCell (p := ⟨g, 10, none⟩) (Below.setCell (p := ⟨g, 9, none⟩) HB4.out (show w.heap.size ≤ g by omega) _) (show w.heap.size ≤ g by omega) _)
    clear k8 f8 kR fR
    generalize hWW : ((W2.setCell ⟨g, 9, none⟩ (.int .i64 mx)).setCell ⟨g, 10, none⟩ (.int .i64 no)) = W9 at kN kQ fQ HBW ⊢
    clear hWW
    have HTHN : Hid (W9.there w.heap.size 0 N.size) := bx_there kQ fQ (by rw [hNz]; rfl)
    have kF : Hid (∀ o, (W9.setCells w.heap.size 0 N.toList).cell? ⟨w.heap.size, o, none⟩ = N[o]?) := bx_setCells kQ (by rw [hNz]; rfl)
    clear hN hNz kQ fQ
    go_wp2_with (first | (refine wpList_load_mid rfl 31 _ rfl _ _ (by rfl) N.toList _ (bx_range kN) Tryz.underlying31 rfl HIN'.out ?_) | (refine wpList_store_mid rfl 31 _ _ rfl _ _ N (by rfl) (by rfl) HTHN.out HIN.out HONEN.out ?_))
    refine bodyPost_ret (results_box Tryz.results27 _ _ _ N _ (by rfl) kF.out Tryz.underlying31 rfl HIN.out) rfl ⟨?_, setCells_below (Nat.le_refl _) _ _ _ _ HBW.out⟩
    rw [HN.out, HOP.out, HOA.out, HOB.out]
    rfl
  case false =>
    cases pl
    case true =>
      go_upto_region 9 with fail
      obtain ⟨N, hN⟩ : ∃ N : Array Value, N = #[.int .i64 pa, .int .i64 sd, .bool true, .bool true, .bool false, .int .i64 ss, .int .i64 cs, .int .i64 0, .int .i64 0, .int .i64 0, .int .i64 0, .slice none 0 0] := ⟨_, rfl⟩
      have HN : Hid _ := hN
      have hNz : N.size = 12 := by rw [hN]; rfl
      have HIN : Hid ((Tryz.prog.info? 31).map (·.size) = some N.size) := by show _ = _; rw [hNz]; exact (by kernel_rfl : (Tryz.prog.info? 31).map (·.size) = some 12)
      have HIN' : Hid ((Tryz.prog.info? 31).map (·.size) = some N.toList.length) := by show _ = _; rw [Array.length_toList]; exact HIN.out
      have HONEN : Hid (N.all (·.oneCell') = true) := by show _ = _; rw [hN]; simp [Value.oneCell']
      have kN : ∀ o, WC.cell? ⟨g, o, none⟩ = N[o]? := by
        have h0 := kG
        rw [HG.out] at h0
        have h2 := h0
        rw [hN]
        simpa using h2
      have kQ : ∀ o, WC.cell? ⟨w.heap.size, o, none⟩ = (#[.int .i64 0, .int .i64 0, .bool false, .bool false, .bool false, .int .i64 0, .int .i64 0, .int .i64 0, .int .i64 0, .int .i64 0, .int .i64 0, .slice none 0 0] : Array Value)[o]? := kR
      have fQ : ∀ o, WC.frozen? ⟨w.heap.size, o, none⟩ = false := fR
      have HBW : Hid (Below w.heap.size w WC) := HB.out
      clear kG kR fG fR
      generalize hWW : WC = W9 at kN kQ fQ HBW ⊢
      clear hWW
      have HTHN : Hid (W9.there w.heap.size 0 N.size) := bx_there kQ fQ (by rw [hNz]; rfl)
      have kF : Hid (∀ o, (W9.setCells w.heap.size 0 N.toList).cell? ⟨w.heap.size, o, none⟩ = N[o]?) := bx_setCells kQ (by rw [hNz]; rfl)
      clear hN hNz kQ fQ
      go_wp2_with (first | (refine wpList_load_mid rfl 31 _ rfl _ _ (by rfl) N.toList _ (bx_range kN) Tryz.underlying31 rfl HIN'.out ?_) | (refine wpList_store_mid rfl 31 _ _ rfl _ _ N (by rfl) (by rfl) HTHN.out HIN.out HONEN.out ?_))
      refine bodyPost_ret (results_box Tryz.results27 _ _ _ N _ (by rfl) kF.out Tryz.underlying31 rfl HIN.out) rfl ⟨?_, setCells_below (Nat.le_refl _) _ _ _ _ HBW.out⟩
      rw [HN.out, HOP.out, HOA.out, HOB.out]
      rfl
    case false =>
      obtain ⟨ic0, ic1, ic2, ic3, is0, is2, is3, is4, is6, is10⟩ := HC.out _ (Below.setCell (p := ⟨g, 8, none⟩) HB.out (show w.heap.size ≤ g by omega) (.int .i64 1))
      go_upto_region 9 with fail
      obtain ⟨N, hN⟩ : ∃ N : Array Value, N = #[.int .i64 pa, .int .i64 sd, .bool true, .bool true, .bool false, .int .i64 ss, .int .i64 cs, .int .i64 0, .int .i64 1, .int .i64 ke, .int .i64 0, .slice none 0 0] := ⟨_, rfl⟩
      have HN : Hid _ := hN
      have hNz : N.size = 12 := by rw [hN]; rfl
      have HIN : Hid ((Tryz.prog.info? 31).map (·.size) = some N.size) := by show _ = _; rw [hNz]; exact (by kernel_rfl : (Tryz.prog.info? 31).map (·.size) = some 12)
      have HIN' : Hid ((Tryz.prog.info? 31).map (·.size) = some N.toList.length) := by show _ = _; rw [Array.length_toList]; exact HIN.out
      have HONEN : Hid (N.all (·.oneCell') = true) := by show _ = _; rw [hN]; simp [Value.oneCell']
      have kN : ∀ o, ((WC.setCell ⟨g, 8, none⟩ (.int .i64 1)).setCell ⟨g, 9, none⟩ (.int .i64 ke)).cell? ⟨g, o, none⟩ = N[o]? := by
        have h0 := kG
        rw [HG.out] at h0
        have h2 := (bx_put (bx_put h0 (k := 8) (v := .int .i64 1) (by simp)) (k := 9) (v := .int .i64 ke) (by simp))
        rw [hN]
        simpa using h2
      have kQ : ∀ o, ((WC.setCell ⟨g, 8, none⟩ (.int .i64 1)).setCell ⟨g, 9, none⟩ (.int .i64 ke)).cell? ⟨w.heap.size, o, none⟩ = (#[.int .i64 0, .int .i64 0, .bool false, .bool false, .bool false, .int .i64 0, .int .i64 0, .int .i64 0, .int .i64 0, .int .i64 0, .int .i64 0, .slice none 0 0] : Array Value)[o]? := (bx_setC (bx_setC kR (show w.heap.size ≠ g by omega)) (show w.heap.size ≠ g by omega))
      have fQ : ∀ o, ((WC.setCell ⟨g, 8, none⟩ (.int .i64 1)).setCell ⟨g, 9, none⟩ (.int .i64 ke)).frozen? ⟨w.heap.size, o, none⟩ = false := (fx_setC (fx_setC fR))
      have HBW : Hid (Below w.heap.size w ((WC.setCell ⟨g, 8, none⟩ (.int .i64 1)).setCell ⟨g, 9, none⟩ (.int .i64 ke))) := (Below.setCell (p := ⟨g, 9, none⟩) (Below.setCell (p := ⟨g, 8, none⟩) HB.out (show w.heap.size ≤ g by omega) _) (show w.heap.size ≤ g by omega) _)
      clear kG kR fG fR
      generalize hWW : ((WC.setCell ⟨g, 8, none⟩ (.int .i64 1)).setCell ⟨g, 9, none⟩ (.int .i64 ke)) = W9 at kN kQ fQ HBW ⊢
      clear hWW
      have HTHN : Hid (W9.there w.heap.size 0 N.size) := bx_there kQ fQ (by rw [hNz]; rfl)
      have kF : Hid (∀ o, (W9.setCells w.heap.size 0 N.toList).cell? ⟨w.heap.size, o, none⟩ = N[o]?) := bx_setCells kQ (by rw [hNz]; rfl)
      clear hN hNz kQ fQ
      go_wp2_with (first | (refine wpList_load_mid rfl 31 _ rfl _ _ (by rfl) N.toList _ (bx_range kN) Tryz.underlying31 rfl HIN'.out ?_) | (refine wpList_store_mid rfl 31 _ _ rfl _ _ N (by rfl) (by rfl) HTHN.out HIN.out HONEN.out ?_))
      refine bodyPost_ret (results_box Tryz.results27 _ _ _ N _ (by rfl) kF.out Tryz.underlying31 rfl HIN.out) rfl ⟨?_, setCells_below (Nat.le_refl _) _ _ _ _ HBW.out⟩
      rw [HN.out, HOP.out, HOA.out, HOB.out]
      rfl
set_option maxHeartbeats 2000000 in
theorem sAnswerSegment (c : DConn) (A : Array Value) (p : Int) (w : World) (B : Nat) (hr : shConn.Rd w B c A.toList) (hB : B ≤ w.heap.size) (hT : totConn c ≤ 1048576) :
    Calls Tryz.prog 7 #[.agg A, .int .i64 p] w fun e w' => ∃ N : Array Value, e = .returned (.agg N) ∧ Own w' w.heap.size w'.heap.size shSR (ansV c p) N.toList ∧ Below w.heap.size w w' := by
  suffices H : Calls Tryz.prog 7 #[.agg A, .int .i64 p] w fun e w' => e = .returned (.agg (srA (ansV c p))) ∧ Below w.heap.size w w' from
    H.mono (by rintro e w' ⟨rfl, hb⟩; exact ⟨_, rfl, own_SR (ansV_wf hr) (ansV_nil c p), hb⟩)
  have HAT : Hid (∀ W, Below w.heap.size w W → (∀ o, W.cell? ⟨w.heap.size, o, none⟩ = A[o]?) → ConnAt W B c A w.heap.size 0) := fun W hW hk => ConnAt.of (bx_range hk) (Sh.Rd.below hr hB hW) (Nat.le_trans hB hW.size) hT
  have HF : Hid (∀ W, Below w.heap.size w W → (∀ o, W.cell? ⟨w.heap.size, o, none⟩ = A[o]?) → Calls Tryz.prog 25 #[.pointer (some ⟨w.heap.size, 0, none⟩)] W fun e w' => e = .returned (.int .i64 (connF c)) ∧ Below W.heap.size W w') := fun W hW hk => sL9Fault c A w.heap.size 0 W B (HAT.out W hW hk)
  have H2 : Hid (∀ W, Below w.heap.size w W → (∀ o, W.cell? ⟨w.heap.size, o, none⟩ = A[o]?) → Calls Tryz.prog 26 #[.pointer (some ⟨w.heap.size, 0, none⟩), .int .i64 p] W fun e w' => e = .returned (.int .i64 (placeD c.subs p)) ∧ w' = W) := fun W hW hk => sL9On c A w.heap.size 0 p W B (HAT.out W hW hk)
  clear HAT
  obtain ⟨N, hN⟩ : ∃ N : Array Value, N = srA (ansV c p) := ⟨_, rfl⟩
  rw [← hN]
  have hNz : N.size = 13 := by rw [hN]; rfl
  have HIN : Hid ((Tryz.prog.info? 33).map (·.size) = some N.size) := by show _ = _; rw [hNz]; exact (by kernel_rfl : (Tryz.prog.info? 33).map (·.size) = some 13)
  have HONE : Hid (N.all (·.oneCell') = true) := by show _ = _; rw [hN]; simp [srA, Value.oneCell']
  have HNZ : Hid _ := hNz
  clear hNz
  by_cases hF : connF c = 0
  case neg =>
    have hNN : N = #[.int .i64 (connF c), .int .i64 0, .int .i64 0, .bool false, .bool false, .bool false, .int .i64 0, .int .i64 0, .int .i64 0, .int .i64 0, .int .i64 0, .int .i64 0, .slice none 0 0] := by rw [hN]; unfold ansV; rw [if_neg hF]; rfl
    have HN : Hid _ := hNN
    have hF' : (connF c != 0) = true := by simp [hF]
    clear hN hNN hr H2 hF
    generalize connF c = F at *
    go_enter Tryz.func7, Tryz.ntmps7
    go_wp2_with fail
    refine (HF.out _ (by go_grown) (fun o => by simp [go_sem])).mono ?_
    rintro e w1 ⟨rfl, hb⟩
    obtain ⟨k0, kR, fR, hb1, z0⟩ := two_boxes hb
    have HB : Hid (Below w.heap.size w w1) := hb1
    clear hb hb1 HF
    have HTH : Hid (w1.there (w.heap.size + 1) 0 N.size) := bx_there kR fR (by rw [HNZ.out]; rfl)
    have kF : Hid (∀ o, (w1.setCells (w.heap.size + 1) 0 N.toList).cell? ⟨w.heap.size + 1, o, none⟩ = N[o]?) := bx_setCells kR (by rw [HNZ.out]; rfl)
    go_wp2_with (refine wpList_store_mid rfl 33 _ _ rfl _ _ N (by rfl) (by rw [HN.out]; rfl) HTH.out HIN.out HONE.out ?_)
    refine bodyPost_ret (results_box Tryz.results7 _ _ _ N _ (by rfl) kF.out Tryz.underlying33 rfl HIN.out) rfl ⟨rfl, ?_⟩
    exact setCells_below (by omega) _ _ _ _ HB.out
  rcases place_bd c.subs p with hp | ⟨k, hk, hkl⟩
  case inl =>
    have hNN : N = #[.int .i64 4, .int .i64 0, .int .i64 0, .bool false, .bool false, .bool false, .int .i64 0, .int .i64 0, .int .i64 0, .int .i64 0, .int .i64 0, .int .i64 0, .slice none 0 0] := by rw [hN]; unfold ansV; rw [if_pos hF, hp, if_pos (by omega)]; rfl
    have HN : Hid _ := hNN
    rw [hF] at HF
    rw [hp] at H2
    clear hN hNN hr hF hp
    go_enter Tryz.func7, Tryz.ntmps7
    go_wp2_with fail
    refine (HF.out _ (by go_grown) (fun o => by simp [go_sem])).mono ?_
    rintro e w1 ⟨rfl, hb⟩
    obtain ⟨k0, kR, fR, hb1, z0⟩ := two_boxes hb
    have HB : Hid (Below w.heap.size w w1) := hb1
    clear hb hb1 HF
    have HTH : Hid (w1.there (w.heap.size + 1) 0 N.size) := bx_there kR fR (by rw [HNZ.out]; rfl)
    have kF : Hid (∀ o, (w1.setCells (w.heap.size + 1) 0 N.toList).cell? ⟨w.heap.size + 1, o, none⟩ = N[o]?) := bx_setCells kR (by rw [HNZ.out]; rfl)
    go_wp2_with fail
    refine (H2.out _ HB.out k0).mono ?_
    rintro e w2 ⟨rfl, hw⟩
    subst w2
    clear H2
    go_wp2_with (refine wpList_store_mid rfl 33 _ _ rfl _ _ N (by rfl) (by rw [HN.out]; rfl) HTH.out HIN.out HONE.out ?_)
    refine bodyPost_ret (results_box Tryz.results7 _ _ _ N _ (by rfl) kF.out Tryz.underlying33 rfl HIN.out) rfl ⟨rfl, ?_⟩
    exact setCells_below (by omega) _ _ _ _ HB.out
  have hAV : ansV c p = (0, ansS c c.subs[k], ()) := by unfold ansV; rw [if_pos hF, hk, if_neg (by omega), subD_at hk hkl]
  rw [hF] at HF
  rw [hk] at H2
  obtain ⟨cs16, b, off, n, cap, hsl, hbB, hlen, hrg, hrs, hln⟩ := sub_of hr hkl
  have hkn : (k : Int) < (n : Int) := by omega
  have hk0 : (0 : Int) ≤ (k : Int) := by omega
  have hkz : ¬ ((k : Int) < 0) := by omega
  obtain ⟨x0, x1, x2, x3, x4, x6, x10⟩ := sub_cells hrs
  obtain ⟨a0, a1, a2, a3, -⟩ := conn_cells hr
  obtain ⟨OP, hOP⟩ : ∃ x : Int, x = (if c.subs[k].2.2.1 then 3 else if c.2.2.2.1 then 0 else 1) := ⟨_, rfl⟩
  obtain ⟨OA, hOA⟩ : ∃ x : Int, x = (if c.subs[k].2.2.1 then mixV [c.2.1, c.2.2.1, c.subs[k].2.2.2.2.1] else if c.2.2.2.1 then 0 else c.2.1) := ⟨_, rfl⟩
  obtain ⟨OB, hOB⟩ : ∃ x : Int, x = (if c.subs[k].2.2.1 then c.subs[k].2.2.2.1 else 0) := ⟨_, rfl⟩
  have HAO : Hid (∀ W, Below w.heap.size w W → w.heap.size < W.heap.size → (∀ o, W.cell? ⟨w.heap.size, o, none⟩ = A[o]?) → Calls Tryz.prog 27 #[.pointer (some ⟨w.heap.size, 0, none⟩), .pointer (some ⟨b, off + k * 16, none⟩)] W fun e w' => e = .returned (.agg #[.int .i64 c.subs[k].1, .int .i64 c.1, .bool true, .bool true, .bool false, .int .i64 c.subs[k].2.2.2.2.2.2.1.1, .int .i64 c.subs[k].2.2.2.2.2.2.2.1.1, .int .i64 0, .int .i64 OP, .int .i64 OA, .int .i64 OB, .slice none 0 0]) ∧ Below W.heap.size W w') := fun W hW hz hk0 => by
    have hR := range_below hrg hW (show b < w.heap.size by omega)
    have hbW : b < W.heap.size := by have := hW.size; omega
    rw [hOP, hOA, hOB]
    exact sL10Answer w.heap.size 0 b (off + k * 16) _ _ _ _ _ _ _ _ _ _ W hz hbW ((hk0 0).trans a0) ((hk0 1).trans a1) ((hk0 2).trans a2) ((hk0 3).trans a3) (hR 0 _ x0) (hR 2 _ x2) (hR 3 _ x3) (hR 4 _ x4) (hR 6 _ x6) (hR 10 _ x10)
  have hNN : N = #[.int .i64 0, .int .i64 c.subs[k].1, .int .i64 c.1, .bool true, .bool true, .bool false, .int .i64 c.subs[k].2.2.2.2.2.2.1.1, .int .i64 c.subs[k].2.2.2.2.2.2.2.1.1, .int .i64 0, .int .i64 OP, .int .i64 OA, .int .i64 OB, .slice none 0 0] := by rw [hN, hAV, hOP, hOA, hOB]; rfl
  have HN : Hid _ := hNN
  clear hN hNN hr hF hAV hOP hOA hOB x0 x1 x2 x3 x4 x6 x10 a0 a1 a2 a3 hrg hrs hlen hln hk
  generalize c.subs[k].1 = pa at *
  generalize c.subs[k].2.2.2.2.2.2.1.1 = ss at *
  generalize c.subs[k].2.2.2.2.2.2.2.1.1 = cs at *
  generalize c.1 = sd at *
  clear hkl hT c
  go_enter Tryz.func7, Tryz.ntmps7
  go_wp2_with fail
  refine (HF.out _ (by go_grown) (fun o => by simp [go_sem])).mono ?_
  rintro e w1 ⟨rfl, hb⟩
  obtain ⟨k0, kR, fR, hb1, z0⟩ := two_boxes hb
  have HB : Hid (Below w.heap.size w w1) := hb1
  clear hb hb1 HF
  have HTH : Hid (w1.there (w.heap.size + 1) 0 N.size) := bx_there kR fR (by rw [HNZ.out]; rfl)
  have kF : Hid (∀ o, (w1.setCells (w.heap.size + 1) 0 N.toList).cell? ⟨w.heap.size + 1, o, none⟩ = N[o]?) := bx_setCells kR (by rw [HNZ.out]; rfl)
  go_wp2_with fail
  refine (H2.out _ HB.out k0).mono ?_
  rintro e w2 ⟨rfl, hw⟩
  subst w2
  clear H2
  go_wp2_with fail
  refine (HAO.out _ HB.out (by omega) k0).mono ?_
  rintro e w3 ⟨rfl, hb⟩
  replace kR := bx_below kR z0 hb
  replace fR := bxF fR hb z0
  replace HB : Hid (Below w.heap.size w w3) := HB.out.trans (hb.mono HB.out.size)
  clear hb HTH kF HAO
  have HTH : Hid (w3.there (w.heap.size + 1) 0 N.size) := bx_there kR fR (by rw [HNZ.out]; rfl)
  have kF : Hid (∀ o, (w3.setCells (w.heap.size + 1) 0 N.toList).cell? ⟨w.heap.size + 1, o, none⟩ = N[o]?) := bx_setCells kR (by rw [HNZ.out]; rfl)
  go_wp2_with (refine wpList_store_mid rfl 33 _ _ rfl _ _ N (by rfl) (by rw [HN.out]; rfl) HTH.out HIN.out HONE.out ?_)
  refine bodyPost_ret (results_box Tryz.results7 _ _ _ N _ (by rfl) kF.out Tryz.underlying33 rfl HIN.out) rfl ⟨rfl, ?_⟩
  exact setCells_below (by omega) _ _ _ _ HB.out
end Go.Proofs.YtmpbejckggnfaabGreat
