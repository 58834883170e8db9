/- What a side tells of a path, answers and proves, by the program, over conns and subs that stand as one value each; nothing that was in memory turns; no condition. Written by mktell.py. -/
import Derived.Test.YtmpbejckggnfaaaGreatDoorRows
import Derived.Deep.RegionHeld3
import Derived.Deep.DeepCutAuto
import Derived.Deep.MidRow
import Derived.Test.YtmpbejckggnfaaaGreatDoorK01
import Derived.Test.YtmpbejckggnfaaaGreatDoorK02
import Derived.Test.YtmpbejckggnfaaaGreatDoorK03
import Derived.Test.YtmpbejckggnfaaaGreatDoorK04
import Derived.Test.YtmpbejckggnfaaaGreatDoorK05
import Derived.Test.YtmpbejckggnfaaaGreatDoorK06
import Derived.Test.YtmpbejckggnfaaaGreatDoorK09
import Derived.Test.YtmpbejckggnfaaaGreatDoorK10
import Derived.Test.YtmpbejckggnfaaaGreatDoorK11
import Derived.Test.YtmpbejckggnfaaaGreatDoorK20
import Derived.Test.YtmpbejckggnfaaaGreatDoorK21
namespace Go.Proofs.YtmpbejckggnfaaaGreatDoor
open Go.RowKit
set_option linter.unusedVariables false
set_option maxRecDepth 8000

theorem iEndTold (A : Array Value) (fin : Bool) (a : Option Addr) (n cap : Nat) (x5 : A[5]? = some (.slice a n cap)) (x6 : A[6]? = some (.bool fin)) (hn : n ≤ 1048576) (w : World) :
    Calls Tryz.prog 98 #[.agg A] w fun e w' => e = .returned (.int .i64 (if fin then (n : Int) + 1 else 0)) ∧ Below w.heap.size w w' := by
  cases fin
  · go_enter Tryz.func98, Tryz.ntmps98
    go_wp2_with fail
    go_ret
    exact ⟨rfl, by go_grown⟩
  · go_enter Tryz.func98, Tryz.ntmps98
    go_wp2_with fail
    go_ret
    exact ⟨rfl, by go_grown⟩
set_option maxHeartbeats 400000 in
theorem iOwnProof (A X : Array Value) (ke pe ot : Int) (x1 : A[1]? = some (.int .i64 ke)) (x2 : A[2]? = some (.int .i64 pe)) (x4 : X[4]? = some (.int .i64 ot)) (w : World) :
    Calls Tryz.prog 113 #[.agg A, .agg X] w fun e w' => e = .returned (.int .i64 (mixV [ke, pe, ot])) ∧ Below w.heap.size w w' := by
  generalize hy : mixV [ke, pe, ot] = y
  have HY : Hid (mixV [ke, pe, ot] = y) := hy
  clear hy
  go_enter Tryz.func113, Tryz.ntmps113
  go_wp2_with fail
  refine (iMixOf (some ⟨w.heap.size + 2, 0, none⟩) 3 3 [ke, pe, ot] _ (by rfl) (ri_three _ _ _ _ _ _ (by simp)) (by omega)).mono ?_
  rintro e w1 ⟨rfl, hb⟩
  rw [HY.out]
  have HB : Hid (Below w.heap.size w w1) := Below.trans (by go_grown) (hb.mono (by simp; omega))
  clear hb
  go_wp2_with fail
  go_ret
  exact ⟨rfl, HB.out⟩
set_option maxHeartbeats 2000000 in
theorem iAnswerOf (A X : Array Value) (sd ke pe : Int) (pl : Bool) (pa : Int) (jo : Bool) (no ot ss cs : Int) (hA : A.size = 14) (hX : X.size = 16) (a0 : A[0]? = some (.int .i64 sd)) (a1 : A[1]? = some (.int .i64 ke)) (a2 : A[2]? = some (.int .i64 pe)) (a3 : A[3]? = some (.bool pl)) (x0 : X[0]? = some (.int .i64 pa)) (x2 : X[2]? = some (.bool jo)) (x3 : X[3]? = some (.int .i64 no)) (x4 : X[4]? = some (.int .i64 ot)) (x6 : X[6]? = some (.int .i64 ss)) (x10 : X[10]? = some (.int .i64 cs)) (w : World) :
    Calls Tryz.prog 51 #[.agg A, .agg X] w fun e w' => e = .returned (.agg #[.int .i64 pa, .int .i64 sd, .bool true, .bool true, .bool false, .int .i64 ss, .int .i64 cs, .int .i64 0, .int .i64 (if jo then 3 else if pl then 0 else 1), .int .i64 (if jo then mixV [ke, pe, ot] else if pl then 0 else ke), .int .i64 (if jo then no else 0), .slice none 0 0]) ∧ Below w.heap.size w w' := by
  have HIA : Hid ((Tryz.prog.info? 29).map (·.size) = some A.toList.length) := by show _ = _; rw [Array.length_toList, hA]; exact (by kernel_rfl : (Tryz.prog.info? 29).map (·.size) = some 14)
  have HIX : Hid ((Tryz.prog.info? 46).map (·.size) = some X.toList.length) := by show _ = _; rw [Array.length_toList, hX]; exact (by kernel_rfl : (Tryz.prog.info? 46).map (·.size) = some 16)
  clear hA hX
  have HO : Hid (∀ W, Calls Tryz.prog 113 #[.agg A, .agg X] W fun e w' => e = .returned (.int .i64 (mixV [ke, pe, ot])) ∧ Below W.heap.size W w') := fun W => iOwnProof A X ke pe ot a1 a2 x4 W
  generalize mixV [ke, pe, ot] = mx at *
  obtain ⟨OP, hOP⟩ : ∃ x : Int, x = (if jo then 3 else if pl then 0 else 1) := ⟨_, rfl⟩
  obtain ⟨OA, hOA⟩ : ∃ x : Int, x = (if jo then mx else if pl then 0 else ke) := ⟨_, rfl⟩
  obtain ⟨OB, hOB⟩ : ∃ x : Int, x = (if jo then no else 0) := ⟨_, rfl⟩
  rw [← hOP, ← hOA, ← hOB]
  have HOP : Hid _ := hOP
  have HOA : Hid _ := hOA
  have HOB : Hid _ := hOB
  clear hOP hOA hOB
  have z0 : w.heap.size < w.heap.size + 4 := by omega
  have z1 : w.heap.size + 1 < w.heap.size + 4 := by omega
  have HWA : Hid (SB2 w 3 w.heap.size (w.heap.size + 1) A X (((w.alloc (.cells A 29)).alloc (.cells X 46)).alloc (.cells #[.int .i64 0, .int .i64 0, .bool false, .bool false, .bool false, .int .i64 0, .int .i64 0, .int .i64 0, .int .i64 0, .int .i64 0, .int .i64 0, .slice none 0 0] 33)) ∧ (∀ o, (((w.alloc (.cells A 29)).alloc (.cells X 46)).alloc (.cells #[.int .i64 0, .int .i64 0, .bool false, .bool false, .bool false, .int .i64 0, .int .i64 0, .int .i64 0, .int .i64 0, .int .i64 0, .int .i64 0, .slice none 0 0] 33)).cell? ⟨w.heap.size + 2, o, none⟩ = (#[.int .i64 0, .int .i64 0, .bool false, .bool false, .bool false, .int .i64 0, .int .i64 0, .int .i64 0, .int .i64 0, .int .i64 0, .int .i64 0, .slice none 0 0] : Array Value)[o]?) ∧ (∀ o, (((w.alloc (.cells A 29)).alloc (.cells X 46)).alloc (.cells #[.int .i64 0, .int .i64 0, .bool false, .bool false, .bool false, .int .i64 0, .int .i64 0, .int .i64 0, .int .i64 0, .int .i64 0, .int .i64 0, .slice none 0 0] 33)).frozen? ⟨w.heap.size + 2, o, none⟩ = false)) := ⟨⟨(((Below.refl _ _).alloc (Nat.le_refl _) _).alloc (by simp) _).alloc (by simp; omega) _, by simp, fun o => by simp [go_sem], fun o => by simp [go_sem]⟩, fun o => by simp [go_sem], fun o => by simp [go_sem]⟩
  go_enter Tryz.func51, Tryz.ntmps51
  go_upto_region 1 with fail
  generalize hWA : (((w.alloc (.cells A 29)).alloc (.cells X 46)).alloc (.cells #[.int .i64 0, .int .i64 0, .bool false, .bool false, .bool false, .int .i64 0, .int .i64 0, .int .i64 0, .int .i64 0, .int .i64 0, .int .i64 0, .slice none 0 0] 33)) = WA at HWA ⊢
  clear hWA
  obtain ⟨HSA, kR, fR⟩ := HWA.out
  have k0 := HSA.k0
  have k1 := HSA.k1
  have hzA := HSA.sz
  have HS : Hid _ := HSA
  clear HSA HWA
  obtain ⟨G, hG⟩ : ∃ G : Array Value, G = #[.int .i64 pa, .int .i64 sd, .bool true, .bool true, .bool false, .int .i64 ss, .int .i64 cs, .int .i64 0, .int .i64 0, .int .i64 0, .int .i64 0, .slice none 0 0] := ⟨_, rfl⟩
  have HG : Hid _ := hG
  have hGz : G.size = 12 := by rw [hG]; rfl
  have HIG : Hid ((Tryz.prog.info? 33).map (·.size) = some G.size) := by show _ = _; rw [hGz]; exact (by kernel_rfl : (Tryz.prog.info? 33).map (·.size) = some 12)
  have HONE : Hid (G.all (·.oneCell') = true) := by show _ = _; rw [hG]; simp [Value.oneCell']
  have HTH : Hid ((WA.alloc (.cells #[.int .i64 0, .int .i64 0, .bool false, .bool false, .bool false, .int .i64 0, .int .i64 0, .int .i64 0, .int .i64 0, .int .i64 0, .int .i64 0, .slice none 0 0] 33)).there WA.heap.size 0 G.size) := bx_there (bx_al _ _ _) (fx_al _ _ _) (by rw [hGz]; rfl)
  have HWB : Hid (Below WA.heap.size WA ((WA.alloc (.cells #[.int .i64 0, .int .i64 0, .bool false, .bool false, .bool false, .int .i64 0, .int .i64 0, .int .i64 0, .int .i64 0, .int .i64 0, .int .i64 0, .slice none 0 0] 33)).setCells WA.heap.size 0 G.toList) ∧ WA.heap.size < ((WA.alloc (.cells #[.int .i64 0, .int .i64 0, .bool false, .bool false, .bool false, .int .i64 0, .int .i64 0, .int .i64 0, .int .i64 0, .int .i64 0, .int .i64 0, .slice none 0 0] 33)).setCells WA.heap.size 0 G.toList).heap.size ∧ (∀ o, ((WA.alloc (.cells #[.int .i64 0, .int .i64 0, .bool false, .bool false, .bool false, .int .i64 0, .int .i64 0, .int .i64 0, .int .i64 0, .int .i64 0, .int .i64 0, .slice none 0 0] 33)).setCells WA.heap.size 0 G.toList).cell? ⟨WA.heap.size, o, none⟩ = G[o]?) ∧ (∀ o, ((WA.alloc (.cells #[.int .i64 0, .int .i64 0, .bool false, .bool false, .bool false, .int .i64 0, .int .i64 0, .int .i64 0, .int .i64 0, .int .i64 0, .int .i64 0, .slice none 0 0] 33)).setCells WA.heap.size 0 G.toList).frozen? ⟨WA.heap.size, o, none⟩ = false)) := ⟨setCells_below (Nat.le_refl _) _ _ _ _ ((Below.refl _ _).alloc (Nat.le_refl _) _), by rw [setCells_size]; simp, bx_setCells (bx_al WA _ _) (by rw [hGz]; rfl), fx_sets (fx_al _ _ _)⟩
  clear hG hGz
  go_upto_region 2 with (refine wpList_store_mid rfl 33 _ _ rfl _ _ G (by rfl) (by rw [HG.out]; rfl) HTH.out HIG.out HONE.out ?_)
  clear HTH
  generalize hWB : ((WA.alloc (.cells #[.int .i64 0, .int .i64 0, .bool false, .bool false, .bool false, .int .i64 0, .int .i64 0, .int .i64 0, .int .i64 0, .int .i64 0, .int .i64 0, .slice none 0 0] 33)).setCells WA.heap.size 0 G.toList) = WB at HWB ⊢
  clear hWB
  obtain ⟨hbB, hzB, kG, fG⟩ := HWB.out
  replace kR := bx_below kR (by omega) hbB
  replace fR := bxF fR hbB (by omega)
  replace HS : Hid (SB2 w 3 w.heap.size (w.heap.size + 1) A X WB) := HS.out.below hbB (by omega) (by omega)
  replace k0 := HS.out.k0
  replace k1 := HS.out.k1
  obtain ⟨g, hg⟩ : ∃ g, g = WA.heap.size := ⟨_, rfl⟩
  rw [← hg] at hzA hzB kG fG ⊢
  clear hbB HWB hg
  have g8 : G[8]? = some (.int .i64 0) := by rw [HG.out]; rfl
  have g9 : G[9]? = some (.int .i64 0) := by rw [HG.out]; rfl
  have g10 : G[10]? = some (.int .i64 0) := by rw [HG.out]; rfl
  cases jo
  case true =>
    go_upto_region 3 with fail
    refine wp_region_noPanic ?_
    refine Goes.start (S := SB2 w 3 w.heap.size (w.heap.size + 1) A X) (z := 100) (by kernel_rfl) ?_
    refine Goes.take (i := 0) (oi := ?oi11) (x := .agg (A.toList).toArray) ?ho11 (by kernel_rfl) (by kernel_rfl) (by kernel_rfl) (by kernel_rfl) (fun _ _ _ h => h) ?hy11 HS.out.drew ?rest11
    case ho11 => (simp only [List.getElem?_toArray, List.getElem?_cons_zero]; rfl)
    case hy11 => exact yieldsIf_load_mid (by rfl) 29 _ rfl (w.heap.size) (0) (by rfl) (A.toList) _ (fun w' hSw => bx_range hSw.k0) Tryz.underlying29 rfl HIA.out
    case rest11 =>
    (try simp only [Act.put, List.setIfInBounds_toArray, List.set_cons_zero, List.set_cons_succ])
    refine Goes.take (i := 1) (oi := ?oi12) (x := .agg (X.toList).toArray) ?ho12 (by kernel_rfl) (by kernel_rfl) (by kernel_rfl) (by kernel_rfl) (fun _ _ _ h => h) ?hy12 HS.out.drew ?rest12
    case ho12 => (simp only [List.getElem?_toArray, List.getElem?_cons_succ, List.getElem?_cons_zero]; rfl)
    case hy12 => exact yieldsIf_load_mid (by rfl) 46 _ rfl (w.heap.size + 1) (0) (by rfl) (X.toList) _ (fun w' hSw => bx_range hSw.k1) Tryz.underlying46 rfl HIX.out
    case rest12 =>
    (try simp only [Act.put, List.setIfInBounds_toArray, List.set_cons_zero, List.set_cons_succ])
    refine Goes.take (i := 3) (oi := ?oi13) (x := ?vx13) ?ho13 (by kernel_rfl) (by kernel_rfl) (by kernel_rfl) (by kernel_rfl) (fun _ _ _ h => h) (Or.inl ⟨?hw13, ?hy13⟩) HS.out.drew ?rest13
    case ho13 => (simp only [List.getElem?_toArray, List.getElem?_cons_succ, List.getElem?_cons_zero]; rfl)
    case hw13 => rfl
    case hy13 => (intro w' hSw; have j0 := hSw.k0; have j1 := hSw.k1; go_simp; (try with_reducible rfl))
    case rest13 =>
    (try simp only [Act.put, List.setIfInBounds_toArray, List.set_cons_zero, List.set_cons_succ])
    refine Goes.take (i := 4) (oi := ?oi14) (x := ?vx14) ?ho14 (by kernel_rfl) (by kernel_rfl) (by kernel_rfl) (by kernel_rfl) (fun _ _ _ h => h) (Or.inl ⟨?hw14, ?hy14⟩) HS.out.drew ?rest14
    case ho14 => (simp only [List.getElem?_toArray, List.getElem?_cons_succ, List.getElem?_cons_zero]; rfl)
    case hw14 => rfl
    case hy14 => (intro w' hSw; have j0 := hSw.k0; have j1 := hSw.k1; go_simp; (try with_reducible rfl))
    case rest14 =>
    (try simp only [Act.put, List.setIfInBounds_toArray, List.set_cons_zero, List.set_cons_succ])
    refine Goes.take (i := 5) (oi := ?oi15) (x := ?vx15) ?ho15 (by kernel_rfl) (by kernel_rfl) (by kernel_rfl) (by kernel_rfl) (fun _ _ _ h => h) (Or.inl ⟨?hw15, ?hy15⟩) HS.out.drew ?rest15
    case ho15 => (simp only [List.getElem?_toArray, List.getElem?_cons_succ, List.getElem?_cons_zero]; rfl)
    case hw15 => rfl
    case hy15 => (intro w' hSw; have j0 := hSw.k0; have j1 := hSw.k1; go_simp; (try with_reducible rfl))
    case rest15 =>
    (try simp only [Act.put, List.setIfInBounds_toArray, List.set_cons_zero, List.set_cons_succ])
    refine Goes.all (rs := [2]) (by kernel_rfl) (by simp) ?_
    refine Ups.cons (i := 2) (o := ?oo16) ?ho16 (fun KK hKK => ?stp16) Ups.nil
    case ho16 => (simp only [List.getElem?_toArray, List.getElem?_cons_succ, List.getElem?_cons_zero]; rfl)
    case stp16 =>
    go_simp
    go_at_call 113
    refine (HO.out _).mono ?_
    rintro e W2 ⟨rfl, hbq⟩
    have HS16 : Hid (SB2 w 3 w.heap.size (w.heap.size + 1) A X W2) := SB2.below HS.out.drew hbq (by omega) (by omega)
    replace hbq := (Below.drew (Below.refl WB.heap.size WB)).trans hbq
    have hzq := hbq.size
    replace kG := bx_below kG (show g < _ from hzB) hbq
    replace kR := bx_below kR (show w.heap.size + 2 < _ by omega) hbq
    replace fG := bxF fG hbq hzB
    replace fR := bxF fR hbq (by omega)
    replace hzB := Nat.lt_of_lt_of_le hzB hzq
    clear hbq
    dsimp only
    refine hKK.out _ _ (Or.inr HS16.out) ?_
    clear hKK KK
    (try simp only [Act.put, List.setIfInBounds_toArray, List.set_cons_zero, List.set_cons_succ])
    refine Goes.all (rs := [6]) (by kernel_rfl) (by simp) ?_
    refine Ups.cons (i := 6) (o := ?oo17) ?ho17 (fun KK hKK => ?stp17) Ups.nil
    case ho17 => (simp only [List.getElem?_toArray, List.getElem?_cons_succ, List.getElem?_cons_zero]; rfl)
    case stp17 =>
    go_simp
    refine hKK.out _ _ (Or.inr (SB2.set (g := g) HS16.out (by omega) (by omega) (by omega))) ?_
    clear hKK KK
    (try simp only [Act.put, List.setIfInBounds_toArray, List.set_cons_zero, List.set_cons_succ])
    refine Goes.take (i := 7) (oi := ?oi18) (x := ?vx18) ?ho18 (by kernel_rfl) (by kernel_rfl) (by kernel_rfl) (by kernel_rfl) (fun _ _ _ h => h) (Or.inl ⟨?hw18, ?hy18⟩) (SB2.set (g := g) HS16.out (by omega) (by omega) (by omega)) ?rest18
    case ho18 => (simp only [List.getElem?_toArray, List.getElem?_cons_succ, List.getElem?_cons_zero]; rfl)
    case hw18 => rfl
    case hy18 => (intro w' hSw; have j0 := hSw.k0; have j1 := hSw.k1; go_simp; (try with_reducible rfl))
    case rest18 =>
    (try simp only [Act.put, List.setIfInBounds_toArray, List.set_cons_zero, List.set_cons_succ])
    refine Goes.all (rs := [8]) (by kernel_rfl) (by simp) ?_
    refine Ups.cons (i := 8) (o := ?oo19) ?ho19 (fun KK hKK => ?stp19) Ups.nil
    case ho19 => (simp only [List.getElem?_toArray, List.getElem?_cons_succ, List.getElem?_cons_zero]; rfl)
    case stp19 =>
    go_simp
    refine hKK.out _ _ (Or.inr (SB2.set (g := g) (SB2.set (g := g) HS16.out (by omega) (by omega) (by omega)) (by omega) (by omega) (by omega))) ?_
    clear hKK KK
    (try simp only [Act.put, List.setIfInBounds_toArray, List.set_cons_zero, List.set_cons_succ])
    refine Goes.take (i := 9) (oi := ?oi20) (x := ?vx20) ?ho20 (by kernel_rfl) (by kernel_rfl) (by kernel_rfl) (by kernel_rfl) (fun _ _ _ h => h) (Or.inl ⟨?hw20, ?hy20⟩) (SB2.set (g := g) (SB2.set (g := g) HS16.out (by omega) (by omega) (by omega)) (by omega) (by omega) (by omega)) ?rest20
    case ho20 => (simp only [List.getElem?_toArray, List.getElem?_cons_succ, List.getElem?_cons_zero]; rfl)
    case hw20 => rfl
    case hy20 => (intro w' hSw; have j0 := hSw.k0; have j1 := hSw.k1; go_simp; (try with_reducible rfl))
    case rest20 =>
    (try simp only [Act.put, List.setIfInBounds_toArray, List.set_cons_zero, List.set_cons_succ])
    refine Goes.all (rs := [10]) (by kernel_rfl) (by simp) ?_
    refine Ups.cons (i := 10) (o := ?oo21) ?ho21 (fun KK hKK => ?stp21) Ups.nil
    case ho21 => (simp only [List.getElem?_toArray, List.getElem?_cons_succ, List.getElem?_cons_zero]; rfl)
    case stp21 =>
    go_simp
    refine hKK.out _ _ (Or.inr (SB2.set (g := g) (SB2.set (g := g) (SB2.set (g := g) HS16.out (by omega) (by omega) (by omega)) (by omega) (by omega) (by omega)) (by omega) (by omega) (by omega))) ?_
    clear hKK KK
    (try simp only [Act.put, List.setIfInBounds_toArray, List.set_cons_zero, List.set_cons_succ])
    refine Goes.done (by kernel_rfl) ?_ _
    refine NoPanic.normal ?_
    obtain ⟨N, hN⟩ : ∃ N : Array Value, N = #[.int .i64 pa, .int .i64 sd, .bool true, .bool true, .bool false, .int .i64 ss, .int .i64 cs, .int .i64 0, .int .i64 3, .int .i64 mx, .int .i64 no, .slice none 0 0] := ⟨_, rfl⟩
    have HN : Hid _ := hN
    have hNz : N.size = 12 := by rw [hN]; rfl
    have HIN : Hid ((Tryz.prog.info? 33).map (·.size) = some N.size) := by show _ = _; rw [hNz]; exact (by kernel_rfl : (Tryz.prog.info? 33).map (·.size) = some 12)
    have HIN' : Hid ((Tryz.prog.info? 33).map (·.size) = some N.toList.length) := by show _ = _; rw [Array.length_toList]; exact HIN.out
    have HONEN : Hid (N.all (·.oneCell') = true) := by show _ = _; rw [hN]; simp [Value.oneCell']
    have kN : ∀ o, (((W2.setCell ⟨g, 8, none⟩ (.int .i64 3)).setCell ⟨g, 9, none⟩ (.int .i64 mx)).setCell ⟨g, 10, none⟩ (.int .i64 no)).cell? ⟨g, o, none⟩ = N[o]? := by
      have h0 := kG
      rw [HG.out] at h0
      have h2 := (bx_put (bx_put (bx_put h0 (k := 8) (v := .int .i64 3) (by simp)) (k := 9) (v := .int .i64 mx) (by simp)) (k := 10) (v := .int .i64 no) (by simp))
      rw [hN]
      simpa using h2
    have kQ : ∀ o, (((W2.setCell ⟨g, 8, none⟩ (.int .i64 3)).setCell ⟨g, 9, none⟩ (.int .i64 mx)).setCell ⟨g, 10, none⟩ (.int .i64 no)).cell? ⟨w.heap.size + 2, o, none⟩ = (#[.int .i64 0, .int .i64 0, .bool false, .bool false, .bool false, .int .i64 0, .int .i64 0, .int .i64 0, .int .i64 0, .int .i64 0, .int .i64 0, .slice none 0 0] : Array Value)[o]? := (bx_setC (bx_setC (bx_setC kR (show w.heap.size + 2 ≠ g by omega)) (show w.heap.size + 2 ≠ g by omega)) (show w.heap.size + 2 ≠ g by omega))
    have fQ : ∀ o, (((W2.setCell ⟨g, 8, none⟩ (.int .i64 3)).setCell ⟨g, 9, none⟩ (.int .i64 mx)).setCell ⟨g, 10, none⟩ (.int .i64 no)).frozen? ⟨w.heap.size + 2, o, none⟩ = false := (fx_setC (fx_setC (fx_setC fR)))
    have HBW : Hid (Below w.heap.size w (((W2.setCell ⟨g, 8, none⟩ (.int .i64 3)).setCell ⟨g, 9, none⟩ (.int .i64 mx)).setCell ⟨g, 10, none⟩ (.int .i64 no))) := (SB2.set (g := g) (SB2.set (g := g) (SB2.set (g := g) HS16.out (by omega) (by omega) (by omega)) (by omega) (by omega) (by omega)) (by omega) (by omega) (by omega)).bl
    clear k0 k1 kG kR fG fR
    generalize hWW : (((W2.setCell ⟨g, 8, none⟩ (.int .i64 3)).setCell ⟨g, 9, none⟩ (.int .i64 mx)).setCell ⟨g, 10, none⟩ (.int .i64 no)) = W9 at kN kQ fQ HBW ⊢
    clear hWW
    have HTHN : Hid (W9.there (w.heap.size + 2) 0 N.size) := bx_there kQ fQ (by rw [hNz]; rfl)
    have kF : Hid (∀ o, (W9.setCells (w.heap.size + 2) 0 N.toList).cell? ⟨w.heap.size + 2, o, none⟩ = N[o]?) := bx_setCells kQ (by rw [hNz]; rfl)
    clear hN hNz kQ fQ
    go_wp2_with (first | (refine wpList_load_mid rfl 33 _ rfl _ _ (by rfl) N.toList _ (bx_range kN) Tryz.underlying33 rfl HIN'.out ?_) | (refine wpList_store_mid rfl 33 _ _ rfl _ _ N (by rfl) (by rfl) HTHN.out HIN.out HONEN.out ?_))
    refine bodyPost_ret (results_box Tryz.results51 _ _ _ N _ (by rfl) kF.out Tryz.underlying33 rfl HIN.out) rfl ⟨?_, setCells_below (by omega) _ _ _ _ HBW.out⟩
    rw [HN.out, HOP.out, HOA.out, HOB.out]
    rfl
  case false =>
    cases pl
    case true =>
      go_upto_region 6 with fail
      obtain ⟨N, hN⟩ : ∃ N : Array Value, N = #[.int .i64 pa, .int .i64 sd, .bool true, .bool true, .bool false, .int .i64 ss, .int .i64 cs, .int .i64 0, .int .i64 0, .int .i64 0, .int .i64 0, .slice none 0 0] := ⟨_, rfl⟩
      have HN : Hid _ := hN
      have hNz : N.size = 12 := by rw [hN]; rfl
      have HIN : Hid ((Tryz.prog.info? 33).map (·.size) = some N.size) := by show _ = _; rw [hNz]; exact (by kernel_rfl : (Tryz.prog.info? 33).map (·.size) = some 12)
      have HIN' : Hid ((Tryz.prog.info? 33).map (·.size) = some N.toList.length) := by show _ = _; rw [Array.length_toList]; exact HIN.out
      have HONEN : Hid (N.all (·.oneCell') = true) := by show _ = _; rw [hN]; simp [Value.oneCell']
      have kN : ∀ o, WB.cell? ⟨g, o, none⟩ = N[o]? := by
        have h0 := kG
        rw [HG.out] at h0
        have h2 := h0
        rw [hN]
        simpa using h2
      have kQ : ∀ o, WB.cell? ⟨w.heap.size + 2, o, none⟩ = (#[.int .i64 0, .int .i64 0, .bool false, .bool false, .bool false, .int .i64 0, .int .i64 0, .int .i64 0, .int .i64 0, .int .i64 0, .int .i64 0, .slice none 0 0] : Array Value)[o]? := kR
      have fQ : ∀ o, WB.frozen? ⟨w.heap.size + 2, o, none⟩ = false := fR
      have HBW : Hid (Below w.heap.size w WB) := HS.out.bl
      clear k0 k1 kG kR fG fR
      generalize hWW : WB = W9 at kN kQ fQ HBW ⊢
      clear hWW
      have HTHN : Hid (W9.there (w.heap.size + 2) 0 N.size) := bx_there kQ fQ (by rw [hNz]; rfl)
      have kF : Hid (∀ o, (W9.setCells (w.heap.size + 2) 0 N.toList).cell? ⟨w.heap.size + 2, o, none⟩ = N[o]?) := bx_setCells kQ (by rw [hNz]; rfl)
      clear hN hNz kQ fQ
      go_wp2_with (first | (refine wpList_load_mid rfl 33 _ rfl _ _ (by rfl) N.toList _ (bx_range kN) Tryz.underlying33 rfl HIN'.out ?_) | (refine wpList_store_mid rfl 33 _ _ rfl _ _ N (by rfl) (by rfl) HTHN.out HIN.out HONEN.out ?_))
      refine bodyPost_ret (results_box Tryz.results51 _ _ _ N _ (by rfl) kF.out Tryz.underlying33 rfl HIN.out) rfl ⟨?_, setCells_below (by omega) _ _ _ _ HBW.out⟩
      rw [HN.out, HOP.out, HOA.out, HOB.out]
      rfl
    case false =>
      go_upto_region 5 with fail
      refine wp_region_noPanic ?_
      refine Goes.start (S := SB2 w 3 w.heap.size (w.heap.size + 1) A X) (z := 100) (by kernel_rfl) ?_
      replace kG : ∀ o, WB.drew.cell? ⟨g, o, none⟩ = G[o]? := kG
      replace fG : ∀ o, WB.drew.frozen? ⟨g, o, none⟩ = false := fG
      replace kR : ∀ o, WB.drew.cell? ⟨w.heap.size + 2, o, none⟩ = (#[.int .i64 0, .int .i64 0, .bool false, .bool false, .bool false, .int .i64 0, .int .i64 0, .int .i64 0, .int .i64 0, .int .i64 0, .int .i64 0, .slice none 0 0] : Array Value)[o]? := kR
      replace fR : ∀ o, WB.drew.frozen? ⟨w.heap.size + 2, o, none⟩ = false := fR
      have HSD : Hid (SB2 w 3 w.heap.size (w.heap.size + 1) A X WB.drew) := HS.out.drew
      clear k0 k1
      generalize hD : WB.drew = WD at kG fG kR fR HSD ⊢
      clear hD
      have k0 := HSD.out.k0
      have k1 := HSD.out.k1
      refine Goes.take (i := 0) (oi := ?oi41) (x := ?vx41) ?ho41 (by kernel_rfl) (by kernel_rfl) (by kernel_rfl) (by kernel_rfl) (fun _ _ _ h => h) (Or.inl ⟨?hw41, ?hy41⟩) HSD.out ?rest41
      case ho41 => (simp only [List.getElem?_toArray, List.getElem?_cons_zero]; rfl)
      case hw41 => rfl
      case hy41 => (intro w' hSw; have j0 := hSw.k0; have j1 := hSw.k1; go_simp; (try with_reducible rfl))
      case rest41 =>
      (try simp only [Act.put, List.setIfInBounds_toArray, List.set_cons_zero, List.set_cons_succ])
      refine Goes.take (i := 1) (oi := ?oi42) (x := ?vx42) ?ho42 (by kernel_rfl) (by kernel_rfl) (by kernel_rfl) (by kernel_rfl) (fun _ _ _ h => h) (Or.inl ⟨?hw42, ?hy42⟩) HSD.out ?rest42
      case ho42 => (simp only [List.getElem?_toArray, List.getElem?_cons_succ, List.getElem?_cons_zero]; rfl)
      case hw42 => rfl
      case hy42 => (intro w' hSw; have j0 := hSw.k0; have j1 := hSw.k1; go_simp; (try with_reducible rfl))
      case rest42 =>
      (try simp only [Act.put, List.setIfInBounds_toArray, List.set_cons_zero, List.set_cons_succ])
      refine Goes.take (i := 2) (oi := ?oi43) (x := ?vx43) ?ho43 (by kernel_rfl) (by kernel_rfl) (by kernel_rfl) (by kernel_rfl) (fun _ _ _ h => h) (Or.inl ⟨?hw43, ?hy43⟩) HSD.out ?rest43
      case ho43 => (simp only [List.getElem?_toArray, List.getElem?_cons_succ, List.getElem?_cons_zero]; rfl)
      case hw43 => rfl
      case hy43 => (intro w' hSw; have j0 := hSw.k0; have j1 := hSw.k1; go_simp; (try with_reducible rfl))
      case rest43 =>
      (try simp only [Act.put, List.setIfInBounds_toArray, List.set_cons_zero, List.set_cons_succ])
      refine Goes.all (rs := [3]) (by kernel_rfl) (by simp) ?_
      refine Ups.cons (i := 3) (o := ?oo44) ?ho44 (fun KK hKK => ?stp44) Ups.nil
      case ho44 => (simp only [List.getElem?_toArray, List.getElem?_cons_succ, List.getElem?_cons_zero]; rfl)
      case stp44 =>
      go_simp
      refine hKK.out _ _ (Or.inr (SB2.set (g := g) HSD.out (by omega) (by omega) (by omega))) ?_
      clear hKK KK
      (try simp only [Act.put, List.setIfInBounds_toArray, List.set_cons_zero, List.set_cons_succ])
      refine Goes.take (i := 4) (oi := ?oi45) (x := ?vx45) ?ho45 (by kernel_rfl) (by kernel_rfl) (by kernel_rfl) (by kernel_rfl) (fun _ _ _ h => h) (Or.inl ⟨?hw45, ?hy45⟩) (SB2.set (g := g) HSD.out (by omega) (by omega) (by omega)) ?rest45
      case ho45 => (simp only [List.getElem?_toArray, List.getElem?_cons_succ, List.getElem?_cons_zero]; rfl)
      case hw45 => rfl
      case hy45 => (intro w' hSw; have j0 := hSw.k0; have j1 := hSw.k1; go_simp; (try with_reducible rfl))
      case rest45 =>
      (try simp only [Act.put, List.setIfInBounds_toArray, List.set_cons_zero, List.set_cons_succ])
      refine Goes.all (rs := [5]) (by kernel_rfl) (by simp) ?_
      refine Ups.cons (i := 5) (o := ?oo46) ?ho46 (fun KK hKK => ?stp46) Ups.nil
      case ho46 => (simp only [List.getElem?_toArray, List.getElem?_cons_succ, List.getElem?_cons_zero]; rfl)
      case stp46 =>
      go_simp
      refine hKK.out _ _ (Or.inr (SB2.set (g := g) (SB2.set (g := g) HSD.out (by omega) (by omega) (by omega)) (by omega) (by omega) (by omega))) ?_
      clear hKK KK
      (try simp only [Act.put, List.setIfInBounds_toArray, List.set_cons_zero, List.set_cons_succ])
      refine Goes.done (by kernel_rfl) ?_ _
      refine NoPanic.normal ?_
      obtain ⟨N, hN⟩ : ∃ N : Array Value, N = #[.int .i64 pa, .int .i64 sd, .bool true, .bool true, .bool false, .int .i64 ss, .int .i64 cs, .int .i64 0, .int .i64 1, .int .i64 ke, .int .i64 0, .slice none 0 0] := ⟨_, rfl⟩
      have HN : Hid _ := hN
      have hNz : N.size = 12 := by rw [hN]; rfl
      have HIN : Hid ((Tryz.prog.info? 33).map (·.size) = some N.size) := by show _ = _; rw [hNz]; exact (by kernel_rfl : (Tryz.prog.info? 33).map (·.size) = some 12)
      have HIN' : Hid ((Tryz.prog.info? 33).map (·.size) = some N.toList.length) := by show _ = _; rw [Array.length_toList]; exact HIN.out
      have HONEN : Hid (N.all (·.oneCell') = true) := by show _ = _; rw [hN]; simp [Value.oneCell']
      have kN : ∀ o, ((WD.setCell ⟨g, 8, none⟩ (.int .i64 1)).setCell ⟨g, 9, none⟩ (.int .i64 ke)).cell? ⟨g, o, none⟩ = N[o]? := by
        have h0 := kG
        rw [HG.out] at h0
        have h2 := (bx_put (bx_put h0 (k := 8) (v := .int .i64 1) (by simp)) (k := 9) (v := .int .i64 ke) (by simp))
        rw [hN]
        simpa using h2
      have kQ : ∀ o, ((WD.setCell ⟨g, 8, none⟩ (.int .i64 1)).setCell ⟨g, 9, none⟩ (.int .i64 ke)).cell? ⟨w.heap.size + 2, o, none⟩ = (#[.int .i64 0, .int .i64 0, .bool false, .bool false, .bool false, .int .i64 0, .int .i64 0, .int .i64 0, .int .i64 0, .int .i64 0, .int .i64 0, .slice none 0 0] : Array Value)[o]? := (bx_setC (bx_setC kR (show w.heap.size + 2 ≠ g by omega)) (show w.heap.size + 2 ≠ g by omega))
      have fQ : ∀ o, ((WD.setCell ⟨g, 8, none⟩ (.int .i64 1)).setCell ⟨g, 9, none⟩ (.int .i64 ke)).frozen? ⟨w.heap.size + 2, o, none⟩ = false := (fx_setC (fx_setC fR))
      have HBW : Hid (Below w.heap.size w ((WD.setCell ⟨g, 8, none⟩ (.int .i64 1)).setCell ⟨g, 9, none⟩ (.int .i64 ke))) := (SB2.set (g := g) (SB2.set (g := g) HSD.out (by omega) (by omega) (by omega)) (by omega) (by omega) (by omega)).bl
      clear k0 k1 kG kR fG fR
      generalize hWW : ((WD.setCell ⟨g, 8, none⟩ (.int .i64 1)).setCell ⟨g, 9, none⟩ (.int .i64 ke)) = W9 at kN kQ fQ HBW ⊢
      clear hWW
      have HTHN : Hid (W9.there (w.heap.size + 2) 0 N.size) := bx_there kQ fQ (by rw [hNz]; rfl)
      have kF : Hid (∀ o, (W9.setCells (w.heap.size + 2) 0 N.toList).cell? ⟨w.heap.size + 2, o, none⟩ = N[o]?) := bx_setCells kQ (by rw [hNz]; rfl)
      clear hN hNz kQ fQ
      go_wp2_with (first | (refine wpList_load_mid rfl 33 _ rfl _ _ (by rfl) N.toList _ (bx_range kN) Tryz.underlying33 rfl HIN'.out ?_) | (refine wpList_store_mid rfl 33 _ _ rfl _ _ N (by rfl) (by rfl) HTHN.out HIN.out HONEN.out ?_))
      refine bodyPost_ret (results_box Tryz.results51 _ _ _ N _ (by rfl) kF.out Tryz.underlying33 rfl HIN.out) rfl ⟨?_, setCells_below (by omega) _ _ _ _ HBW.out⟩
      rw [HN.out, HOP.out, HOA.out, HOB.out]
      rfl
end Go.Proofs.YtmpbejckggnfaaaGreatDoor
