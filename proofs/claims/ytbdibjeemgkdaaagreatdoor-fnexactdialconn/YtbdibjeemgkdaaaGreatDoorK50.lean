/- Where a path begins and how it is asked for, by program and model; nothing that was in memory turns; no condition. Written by mkdial2.py. -/
import Derived.Test.YtbdibjeemgkdaaaGreatDoorRows
import Derived.Deep.RegionHeld3
import Derived.Deep.DeepCutAuto
import Derived.Deep.DeepMust
import Derived.Deep.MidRow
import Derived.Test.YtbdibjeemgkdaaaGreatDoorK01
import Derived.Test.YtbdibjeemgkdaaaGreatDoorK02
import Derived.Test.YtbdibjeemgkdaaaGreatDoorK03
import Derived.Test.YtbdibjeemgkdaaaGreatDoorK04
import Derived.Test.YtbdibjeemgkdaaaGreatDoorK05
import Derived.Test.YtbdibjeemgkdaaaGreatDoorK06
import Derived.Test.YtbdibjeemgkdaaaGreatDoorK09
import Derived.Test.YtbdibjeemgkdaaaGreatDoorK10
import Derived.Test.YtbdibjeemgkdaaaGreatDoorK11
import Derived.Test.YtbdibjeemgkdaaaGreatDoorK12
import Derived.Test.YtbdibjeemgkdaaaGreatDoorK13
import Derived.Test.YtbdibjeemgkdaaaGreatDoorK14
import Derived.Test.YtbdibjeemgkdaaaGreatDoorK15
import Derived.Test.YtbdibjeemgkdaaaGreatDoorK16
import Derived.Test.YtbdibjeemgkdaaaGreatDoorK20
import Derived.Test.YtbdibjeemgkdaaaGreatDoorK21
import Derived.Test.YtbdibjeemgkdaaaGreatDoorK25
namespace Go.Proofs.YtbdibjeemgkdaaaGreatDoor
open Go.RowKit
set_option linter.unusedVariables false
set_option maxRecDepth 8000

theorem iStartOn (k p : Int) (hp : 0 ≤ p ∧ p ≤ 2) (w : World) : Calls Tryz.prog 59 #[.int .i64 k, .int .i64 p] w fun e w' => e = .returned (.int .i64 (wrp (mixV [k, p + 2]))) ∧ Below w.heap.size w w' := by
  have hw64 : IntKind.i64.wrap (2 + p) = p + 2 := by simp only [IntKind.wrap, IntKind.bits, IntKind.signed]; simp; omega
  generalize hy : mixV [k, p + 2] = y
  have HY : Hid (mixV [k, p + 2] = y) := hy
  clear hy
  go_enter Tryz.func59, Tryz.ntmps59
  go_wp2_with fail
  refine (iMixOf (some ⟨w.heap.size, 0, none⟩) 2 2 [k, p + 2] _ (by rfl) (ri_two _ _ _ _ _ (by simp)) (by omega)).mono ?_
  rintro e w1 ⟨rfl, hb⟩
  rw [HY.out]
  have HB : Hid (Below w.heap.size w w1) := Below.trans (by go_grown) (hb.mono (by simp))
  clear hb
  go_wp2_with fail
  refine (iWrap _ _).mono ?_
  rintro e w' ⟨rfl, hw⟩
  subst w'
  go_wp2_with fail
  go_ret
  exact ⟨rfl, HB.out⟩
theorem sStartOn (k p : Int) (hp : 0 ≤ p ∧ p ≤ 2) (w : World) : Calls Tryz.prog 55 #[.int .i64 k, .int .i64 p] w fun e w' => e = .returned (.int .i64 (wrp (mixV [k, p + 2]))) ∧ Below w.heap.size w w' := by
  have hw64 : IntKind.i64.wrap (p + 2) = p + 2 := by simp only [IntKind.wrap, IntKind.bits, IntKind.signed]; simp; omega
  generalize hy : mixV [k, p + 2] = y
  have HY : Hid (mixV [k, p + 2] = y) := hy
  clear hy
  go_enter Tryz.func55, Tryz.ntmps55
  go_wp2_with fail
  refine (sMixOf (some ⟨w.heap.size, 0, none⟩) 2 2 [k, p + 2] _ (by rfl) (ri_two _ _ _ _ _ (by simp)) (by omega)).mono ?_
  rintro e w1 ⟨rfl, hb⟩
  rw [HY.out]
  have HB : Hid (Below w.heap.size w w1) := by show Below _ _ _; rw [hb]; exact (Below.refl _ _).alloc (Nat.le_refl _) _
  clear hb
  go_wp2_with fail
  refine (sWrap _ _).mono ?_
  rintro e w' ⟨rfl, hw⟩
  subst w'
  go_wp2_with fail
  go_ret
  exact ⟨rfl, HB.out⟩
set_option maxHeartbeats 2000000 in
theorem iAskSegment (A X : Array Value) (sd ke pe pa : Int) (jo : Bool) (no ss tc TK : Int) (hA : A.size = 14) (hX : X.size = 16) (a0 : A[0]? = some (.int .i64 sd)) (a1 : A[1]? = some (.int .i64 ke)) (a2 : A[2]? = some (.int .i64 pe)) (x0 : X[0]? = some (.int .i64 pa)) (x2 : X[2]? = some (.bool jo)) (x3 : X[3]? = some (.int .i64 no)) (x6 : X[6]? = some (.int .i64 ss)) (w : World) (hTO : ∀ W, Calls Tryz.prog 104 #[.int .i64 pe] W fun e w' => e = .returned (.agg #[.int .i64 tc, .int .i64 TK]) ∧ Below W.heap.size W w') :
    Calls Tryz.prog 60 #[.agg A, .agg X] w fun e w' => e = .returned (.agg #[.int .i64 pa, .int .i64 sd, .bool true, .bool false, .bool false, .int .i64 ss, .int .i64 0, .int .i64 0, .int .i64 (if jo then 2 else 1), .int .i64 (if jo then TK else ke), .int .i64 (if jo then no else 0), .slice none 0 0]) ∧ Below w.heap.size w w' := by
  have HIA : Hid ((Tryz.prog.info? 35).map (·.size) = some A.toList.length) := by show _ = _; rw [Array.length_toList, hA]; exact (by kernel_rfl : (Tryz.prog.info? 35).map (·.size) = some 14)
  have HIX : Hid ((Tryz.prog.info? 94).map (·.size) = some X.toList.length) := by show _ = _; rw [Array.length_toList, hX]; exact (by kernel_rfl : (Tryz.prog.info? 94).map (·.size) = some 16)
  clear hA hX
  have HO : Hid _ := hTO
  clear hTO
  have hfld := fldI
  obtain ⟨OP, hOP⟩ : ∃ x : Int, x = (if jo then 2 else 1) := ⟨_, rfl⟩
  obtain ⟨OA, hOA⟩ : ∃ x : Int, x = (if jo then TK else ke) := ⟨_, rfl⟩
  obtain ⟨OB, hOB⟩ : ∃ x : Int, x = (if jo then no else 0) := ⟨_, rfl⟩
  rw [← hOP, ← hOA, ← hOB]
  have HOP : Hid _ := hOP
  have HOA : Hid _ := hOA
  have HOB : Hid _ := hOB
  clear hOP hOA hOB
  have z0 : w.heap.size < w.heap.size + 4 := by omega
  have z1 : w.heap.size + 1 < w.heap.size + 4 := by omega
  have HWA : Hid (SB2 w 3 w.heap.size (w.heap.size + 1) A X (((w.alloc (.cells A 35)).alloc (.cells X 94)).alloc (.cells #[.int .i64 0, .int .i64 0, .bool false, .bool false, .bool false, .int .i64 0, .int .i64 0, .int .i64 0, .int .i64 0, .int .i64 0, .int .i64 0, .slice none 0 0] 55)) ∧ (∀ o, (((w.alloc (.cells A 35)).alloc (.cells X 94)).alloc (.cells #[.int .i64 0, .int .i64 0, .bool false, .bool false, .bool false, .int .i64 0, .int .i64 0, .int .i64 0, .int .i64 0, .int .i64 0, .int .i64 0, .slice none 0 0] 55)).cell? ⟨w.heap.size + 2, o, none⟩ = (#[.int .i64 0, .int .i64 0, .bool false, .bool false, .bool false, .int .i64 0, .int .i64 0, .int .i64 0, .int .i64 0, .int .i64 0, .int .i64 0, .slice none 0 0] : Array Value)[o]?) ∧ (∀ o, (((w.alloc (.cells A 35)).alloc (.cells X 94)).alloc (.cells #[.int .i64 0, .int .i64 0, .bool false, .bool false, .bool false, .int .i64 0, .int .i64 0, .int .i64 0, .int .i64 0, .int .i64 0, .int .i64 0, .slice none 0 0] 55)).frozen? ⟨w.heap.size + 2, o, none⟩ = false)) := ⟨⟨(((Below.refl _ _).alloc (Nat.le_refl _) _).alloc (by simp) _).alloc (by simp; omega) _, by simp, fun o => by simp [go_sem], fun o => by simp [go_sem]⟩, fun o => by simp [go_sem], fun o => by simp [go_sem]⟩
  go_enter Tryz.func60, Tryz.ntmps60
  go_upto_region 1 with fail
  generalize hWA : (((w.alloc (.cells A 35)).alloc (.cells X 94)).alloc (.cells #[.int .i64 0, .int .i64 0, .bool false, .bool false, .bool false, .int .i64 0, .int .i64 0, .int .i64 0, .int .i64 0, .int .i64 0, .int .i64 0, .slice none 0 0] 55)) = WA at HWA ⊢
  clear hWA
  obtain ⟨HSA, kR, fR⟩ := HWA.out
  have k0 := HSA.k0
  have k1 := HSA.k1
  have hzA := HSA.sz
  have HS : Hid _ := HSA
  clear HSA HWA
  obtain ⟨G, hG⟩ : ∃ G : Array Value, G = #[.int .i64 pa, .int .i64 sd, .bool true, .bool false, .bool false, .int .i64 ss, .int .i64 0, .int .i64 0, .int .i64 0, .int .i64 0, .int .i64 0, .slice none 0 0] := ⟨_, rfl⟩
  have HG : Hid _ := hG
  have hGz : G.size = 12 := by rw [hG]; rfl
  have HIG : Hid ((Tryz.prog.info? 55).map (·.size) = some G.size) := by show _ = _; rw [hGz]; exact (by kernel_rfl : (Tryz.prog.info? 55).map (·.size) = some 12)
  have HONE : Hid (G.all (·.oneCell') = true) := by show _ = _; rw [hG]; simp [Value.oneCell']
  have HTH : Hid ((WA.alloc (.cells #[.int .i64 0, .int .i64 0, .bool false, .bool false, .bool false, .int .i64 0, .int .i64 0, .int .i64 0, .int .i64 0, .int .i64 0, .int .i64 0, .slice none 0 0] 55)).there WA.heap.size 0 G.size) := bx_there (bx_al _ _ _) (fx_al _ _ _) (by rw [hGz]; rfl)
  have HWB : Hid (Below WA.heap.size WA ((WA.alloc (.cells #[.int .i64 0, .int .i64 0, .bool false, .bool false, .bool false, .int .i64 0, .int .i64 0, .int .i64 0, .int .i64 0, .int .i64 0, .int .i64 0, .slice none 0 0] 55)).setCells WA.heap.size 0 G.toList) ∧ WA.heap.size < ((WA.alloc (.cells #[.int .i64 0, .int .i64 0, .bool false, .bool false, .bool false, .int .i64 0, .int .i64 0, .int .i64 0, .int .i64 0, .int .i64 0, .int .i64 0, .slice none 0 0] 55)).setCells WA.heap.size 0 G.toList).heap.size ∧ (∀ o, ((WA.alloc (.cells #[.int .i64 0, .int .i64 0, .bool false, .bool false, .bool false, .int .i64 0, .int .i64 0, .int .i64 0, .int .i64 0, .int .i64 0, .int .i64 0, .slice none 0 0] 55)).setCells WA.heap.size 0 G.toList).cell? ⟨WA.heap.size, o, none⟩ = G[o]?) ∧ (∀ o, ((WA.alloc (.cells #[.int .i64 0, .int .i64 0, .bool false, .bool false, .bool false, .int .i64 0, .int .i64 0, .int .i64 0, .int .i64 0, .int .i64 0, .int .i64 0, .slice none 0 0] 55)).setCells WA.heap.size 0 G.toList).frozen? ⟨WA.heap.size, o, none⟩ = false)) := ⟨setCells_below (Nat.le_refl _) _ _ _ _ ((Below.refl _ _).alloc (Nat.le_refl _) _), by rw [setCells_size]; simp, bx_setCells (bx_al WA _ _) (by rw [hGz]; rfl), fx_sets (fx_al _ _ _)⟩
  clear hG hGz
  go_upto_region 2 with (refine wpList_store_mid rfl 55 _ _ rfl _ _ G (by rfl) (by rw [HG.out]; rfl) HTH.out HIG.out HONE.out ?_)
  clear HTH
  generalize hWB : ((WA.alloc (.cells #[.int .i64 0, .int .i64 0, .bool false, .bool false, .bool false, .int .i64 0, .int .i64 0, .int .i64 0, .int .i64 0, .int .i64 0, .int .i64 0, .slice none 0 0] 55)).setCells WA.heap.size 0 G.toList) = WB at HWB ⊢
  clear hWB
  obtain ⟨hbB, hzB, kG, fG⟩ := HWB.out
  replace kR := bx_below kR (by omega) hbB
  replace fR := bxF fR hbB (by omega)
  replace HS : Hid (SB2 w 3 w.heap.size (w.heap.size + 1) A X WB) := HS.out.below hbB (by omega) (by omega)
  replace k0 := HS.out.k0
  replace k1 := HS.out.k1
  obtain ⟨g, hg⟩ : ∃ g, g = WA.heap.size := ⟨_, rfl⟩
  rw [← hg] at hzA hzB kG fG ⊢
  clear hbB HWB hg
  have g8 : G[8]? = some (.int .i64 0) := by rw [HG.out]; rfl
  have g9 : G[9]? = some (.int .i64 0) := by rw [HG.out]; rfl
  have g10 : G[10]? = some (.int .i64 0) := by rw [HG.out]; rfl
  cases jo
  case true =>
    go_upto_region 3 with fail
    refine wp_region_noPanic ?_
    refine Goes.start (S := SB2 w 3 w.heap.size (w.heap.size + 1) A X) (z := 100) (by kernel_rfl) ?_
    refine Goes.take (i := 0) (oi := ?oi11) (x := ?vx11) ?ho11 (by kernel_rfl) (by kernel_rfl) (by kernel_rfl) (by kernel_rfl) (fun _ _ _ h => h) (Or.inl ⟨?hw11, ?hy11⟩) HS.out.drew ?rest11
    case ho11 => (simp only [List.getElem?_toArray, List.getElem?_cons_zero] <;> rfl)
    case hw11 => rfl
    case hy11 => (intro w' hSw; have j0 := hSw.k0; have j1 := hSw.k1; go_simp; (try with_reducible rfl))
    case rest11 =>
    (try simp only [Act.put, List.setIfInBounds_toArray, List.set_cons_zero, List.set_cons_succ])
    refine Goes.take (i := 1) (oi := ?oi12) (x := ?vx12) ?ho12 (by kernel_rfl) (by kernel_rfl) (by kernel_rfl) (by kernel_rfl) (fun _ _ _ h => h) (Or.inl ⟨?hw12, ?hy12⟩) HS.out.drew ?rest12
    case ho12 => (simp only [List.getElem?_toArray, List.getElem?_cons_succ, List.getElem?_cons_zero] <;> rfl)
    case hw12 => rfl
    case hy12 => (intro w' hSw; have j0 := hSw.k0; have j1 := hSw.k1; go_simp; (try with_reducible rfl))
    case rest12 =>
    (try simp only [Act.put, List.setIfInBounds_toArray, List.set_cons_zero, List.set_cons_succ])
    refine Goes.take (i := 4) (oi := ?oi13) (x := ?vx13) ?ho13 (by kernel_rfl) (by kernel_rfl) (by kernel_rfl) (by kernel_rfl) (fun _ _ _ h => h) (Or.inl ⟨?hw13, ?hy13⟩) HS.out.drew ?rest13
    case ho13 => (simp only [List.getElem?_toArray, List.getElem?_cons_succ, List.getElem?_cons_zero] <;> rfl)
    case hw13 => rfl
    case hy13 => (intro w' hSw; have j0 := hSw.k0; have j1 := hSw.k1; go_simp; (try with_reducible rfl))
    case rest13 =>
    (try simp only [Act.put, List.setIfInBounds_toArray, List.set_cons_zero, List.set_cons_succ])
    refine Goes.take (i := 5) (oi := ?oi14) (x := ?vx14) ?ho14 (by kernel_rfl) (by kernel_rfl) (by kernel_rfl) (by kernel_rfl) (fun _ _ _ h => h) (Or.inl ⟨?hw14, ?hy14⟩) HS.out.drew ?rest14
    case ho14 => (simp only [List.getElem?_toArray, List.getElem?_cons_succ, List.getElem?_cons_zero] <;> rfl)
    case hw14 => rfl
    case hy14 => (intro w' hSw; have j0 := hSw.k0; have j1 := hSw.k1; go_simp; (try with_reducible rfl))
    case rest14 =>
    (try simp only [Act.put, List.setIfInBounds_toArray, List.set_cons_zero, List.set_cons_succ])
    refine Goes.take (i := 6) (oi := ?oi15) (x := ?vx15) ?ho15 (by kernel_rfl) (by kernel_rfl) (by kernel_rfl) (by kernel_rfl) (fun _ _ _ h => h) (Or.inl ⟨?hw15, ?hy15⟩) HS.out.drew ?rest15
    case ho15 => (simp only [List.getElem?_toArray, List.getElem?_cons_succ, List.getElem?_cons_zero] <;> rfl)
    case hw15 => rfl
    case hy15 => (intro w' hSw; have j0 := hSw.k0; have j1 := hSw.k1; go_simp; (try with_reducible rfl))
    case rest15 =>
    (try simp only [Act.put, List.setIfInBounds_toArray, List.set_cons_zero, List.set_cons_succ])
    refine Goes.all (rs := [2]) (by kernel_rfl) (by simp) ?_
    refine Ups.cons (i := 2) (o := ?oo16) ?ho16 (fun KK hKK => ?stp16) Ups.nil
    case ho16 => (simp only [List.getElem?_toArray, List.getElem?_cons_succ, List.getElem?_cons_zero] <;> rfl)
    case stp16 =>
    go_simp
    go_at_call 104
    refine (HO.out _).mono ?_
    rintro e W2 ⟨rfl, hbq⟩
    have HS16 : Hid (SB2 w 3 w.heap.size (w.heap.size + 1) A X W2) := SB2.below HS.out.drew hbq (by omega) (by omega)
    replace hbq := (Below.drew (Below.refl WB.heap.size WB)).trans hbq
    have hzq := hbq.size
    replace kG := bx_below kG (show g < _ from hzB) hbq
    replace kR := bx_below kR (show w.heap.size + 2 < _ by omega) hbq
    replace fG := bxF fG hbq hzB
    replace fR := bxF fR hbq (by omega)
    replace hzB := Nat.lt_of_lt_of_le hzB hzq
    clear hbq
    dsimp only
    refine hKK.out _ _ (Or.inr HS16.out) ?_
    clear hKK KK
    (try simp only [Act.put, List.setIfInBounds_toArray, List.set_cons_zero, List.set_cons_succ])
    refine Goes.take (i := 3) (oi := ?oi17) (x := ?vx17) ?ho17 (by kernel_rfl) (by kernel_rfl) (by kernel_rfl) (by kernel_rfl) (fun _ _ _ h => h) (Or.inl ⟨?hw17, ?hy17⟩) HS16.out ?rest17
    case ho17 => (simp only [List.getElem?_toArray, List.getElem?_cons_succ, List.getElem?_cons_zero] <;> rfl)
    case hw17 => rfl
    case hy17 => (intro w' hSw; have j0 := hSw.k0; have j1 := hSw.k1; go_simp; (try with_reducible rfl))
    case rest17 =>
    (try simp only [Act.put, List.setIfInBounds_toArray, List.set_cons_zero, List.set_cons_succ])
    refine Goes.all (rs := [7]) (by kernel_rfl) (by simp) ?_
    refine Ups.cons (i := 7) (o := ?oo18) ?ho18 (fun KK hKK => ?stp18) Ups.nil
    case ho18 => (simp only [List.getElem?_toArray, List.getElem?_cons_succ, List.getElem?_cons_zero] <;> rfl)
    case stp18 =>
    go_simp
    refine hKK.out _ _ (Or.inr (SB2.set (g := g) HS16.out (by omega) (by omega) (by omega))) ?_
    clear hKK KK
    (try simp only [Act.put, List.setIfInBounds_toArray, List.set_cons_zero, List.set_cons_succ])
    refine Goes.take (i := 8) (oi := ?oi19) (x := ?vx19) ?ho19 (by kernel_rfl) (by kernel_rfl) (by kernel_rfl) (by kernel_rfl) (fun _ _ _ h => h) (Or.inl ⟨?hw19, ?hy19⟩) (SB2.set (g := g) HS16.out (by omega) (by omega) (by omega)) ?rest19
    case ho19 => (simp only [List.getElem?_toArray, List.getElem?_cons_succ, List.getElem?_cons_zero] <;> rfl)
    case hw19 => rfl
    case hy19 => (intro w' hSw; have j0 := hSw.k0; have j1 := hSw.k1; go_simp; (try with_reducible rfl))
    case rest19 =>
    (try simp only [Act.put, List.setIfInBounds_toArray, List.set_cons_zero, List.set_cons_succ])
    refine Goes.all (rs := [9]) (by kernel_rfl) (by simp) ?_
    refine Ups.cons (i := 9) (o := ?oo20) ?ho20 (fun KK hKK => ?stp20) Ups.nil
    case ho20 => (simp only [List.getElem?_toArray, List.getElem?_cons_succ, List.getElem?_cons_zero] <;> rfl)
    case stp20 =>
    go_simp
    refine hKK.out _ _ (Or.inr (SB2.set (g := g) (SB2.set (g := g) HS16.out (by omega) (by omega) (by omega)) (by omega) (by omega) (by omega))) ?_
    clear hKK KK
    (try simp only [Act.put, List.setIfInBounds_toArray, List.set_cons_zero, List.set_cons_succ])
    refine Goes.take (i := 10) (oi := ?oi21) (x := ?vx21) ?ho21 (by kernel_rfl) (by kernel_rfl) (by kernel_rfl) (by kernel_rfl) (fun _ _ _ h => h) (Or.inl ⟨?hw21, ?hy21⟩) (SB2.set (g := g) (SB2.set (g := g) HS16.out (by omega) (by omega) (by omega)) (by omega) (by omega) (by omega)) ?rest21
    case ho21 => (simp only [List.getElem?_toArray, List.getElem?_cons_succ, List.getElem?_cons_zero] <;> rfl)
    case hw21 => rfl
    case hy21 => (intro w' hSw; have j0 := hSw.k0; have j1 := hSw.k1; go_simp; (try with_reducible rfl))
    case rest21 =>
    (try simp only [Act.put, List.setIfInBounds_toArray, List.set_cons_zero, List.set_cons_succ])
    refine Goes.all (rs := [11]) (by kernel_rfl) (by simp) ?_
    refine Ups.cons (i := 11) (o := ?oo22) ?ho22 (fun KK hKK => ?stp22) Ups.nil
    case ho22 => (simp only [List.getElem?_toArray, List.getElem?_cons_succ, List.getElem?_cons_zero] <;> rfl)
    case stp22 =>
    go_simp
    refine hKK.out _ _ (Or.inr (SB2.set (g := g) (SB2.set (g := g) (SB2.set (g := g) HS16.out (by omega) (by omega) (by omega)) (by omega) (by omega) (by omega)) (by omega) (by omega) (by omega))) ?_
    clear hKK KK
    (try simp only [Act.put, List.setIfInBounds_toArray, List.set_cons_zero, List.set_cons_succ])
    refine Goes.done (by kernel_rfl) ?_ _
    refine NoPanic.normal ?_
    obtain ⟨N, hN⟩ : ∃ N : Array Value, N = #[.int .i64 pa, .int .i64 sd, .bool true, .bool false, .bool false, .int .i64 ss, .int .i64 0, .int .i64 0, .int .i64 2, .int .i64 TK, .int .i64 no, .slice none 0 0] := ⟨_, rfl⟩
    have HN : Hid _ := hN
    have hNz : N.size = 12 := by rw [hN]; rfl
    have HIN : Hid ((Tryz.prog.info? 55).map (·.size) = some N.size) := by show _ = _; rw [hNz]; exact (by kernel_rfl : (Tryz.prog.info? 55).map (·.size) = some 12)
    have HIN' : Hid ((Tryz.prog.info? 55).map (·.size) = some N.toList.length) := by show _ = _; rw [Array.length_toList]; exact HIN.out
    have HONEN : Hid (N.all (·.oneCell') = true) := by show _ = _; rw [hN]; simp [Value.oneCell']
    have kN : ∀ o, (((W2.setCell ⟨g, 8, none⟩ (.int .i64 2)).setCell ⟨g, 9, none⟩ (.int .i64 TK)).setCell ⟨g, 10, none⟩ (.int .i64 no)).cell? ⟨g, o, none⟩ = N[o]? := by
      have h0 := kG
      rw [HG.out] at h0
      have h2 := (bx_put (bx_put (bx_put h0 (k := 8) (v := .int .i64 2) (by simp)) (k := 9) (v := .int .i64 TK) (by simp)) (k := 10) (v := .int .i64 no) (by simp))
      rw [hN]
      simpa using h2
    have kQ : ∀ o, (((W2.setCell ⟨g, 8, none⟩ (.int .i64 2)).setCell ⟨g, 9, none⟩ (.int .i64 TK)).setCell ⟨g, 10, none⟩ (.int .i64 no)).cell? ⟨w.heap.size + 2, o, none⟩ = (#[.int .i64 0, .int .i64 0, .bool false, .bool false, .bool false, .int .i64 0, .int .i64 0, .int .i64 0, .int .i64 0, .int .i64 0, .int .i64 0, .slice none 0 0] : Array Value)[o]? := (bx_setC (bx_setC (bx_setC kR (show w.heap.size + 2 ≠ g by omega)) (show w.heap.size + 2 ≠ g by omega)) (show w.heap.size + 2 ≠ g by omega))
    have fQ : ∀ o, (((W2.setCell ⟨g, 8, none⟩ (.int .i64 2)).setCell ⟨g, 9, none⟩ (.int .i64 TK)).setCell ⟨g, 10, none⟩ (.int .i64 no)).frozen? ⟨w.heap.size + 2, o, none⟩ = false := (fx_setC (fx_setC (fx_setC fR)))
    have HBW : Hid (Below w.heap.size w (((W2.setCell ⟨g, 8, none⟩ (.int .i64 2)).setCell ⟨g, 9, none⟩ (.int .i64 TK)).setCell ⟨g, 10, none⟩ (.int .i64 no))) := (SB2.set (g := g) (SB2.set (g := g) (SB2.set (g := g) HS16.out (by omega) (by omega) (by omega)) (by omega) (by omega) (by omega)) (by omega) (by omega) (by omega)).bl
    clear k0 k1 kG kR fG fR
    generalize hWW : (((W2.setCell ⟨g, 8, none⟩ (.int .i64 2)).setCell ⟨g, 9, none⟩ (.int .i64 TK)).setCell ⟨g, 10, none⟩ (.int .i64 no)) = W9 at kN kQ fQ HBW ⊢
    clear hWW
    have HTHN : Hid (W9.there (w.heap.size + 2) 0 N.size) := bx_there kQ fQ (by rw [hNz]; rfl)
    have kF : Hid (∀ o, (W9.setCells (w.heap.size + 2) 0 N.toList).cell? ⟨w.heap.size + 2, o, none⟩ = N[o]?) := bx_setCells kQ (by rw [hNz]; rfl)
    clear hN hNz kQ fQ
    go_wp2_with (first | (refine wpList_load_mid rfl 55 _ rfl _ _ (by rfl) N.toList _ (bx_range kN) Tryz.underlying55 rfl HIN'.out ?_) | (refine wpList_store_mid rfl 55 _ _ rfl _ _ N (by rfl) (by rfl) HTHN.out HIN.out HONEN.out ?_))
    refine bodyPost_ret (results_box Tryz.results60 _ _ _ N _ (by rfl) kF.out Tryz.underlying55 rfl HIN.out) rfl ⟨?_, setCells_below (by omega) _ _ _ _ HBW.out⟩
    rw [HN.out, HOP.out, HOA.out, HOB.out]
    rfl
  case false =>
    go_upto_region 4 with fail
    refine wp_region_noPanic ?_
    refine Goes.start (S := SB2 w 3 w.heap.size (w.heap.size + 1) A X) (z := 100) (by kernel_rfl) ?_
    replace kG : ∀ o, WB.drew.cell? ⟨g, o, none⟩ = G[o]? := kG
    replace fG : ∀ o, WB.drew.frozen? ⟨g, o, none⟩ = false := fG
    replace kR : ∀ o, WB.drew.cell? ⟨w.heap.size + 2, o, none⟩ = (#[.int .i64 0, .int .i64 0, .bool false, .bool false, .bool false, .int .i64 0, .int .i64 0, .int .i64 0, .int .i64 0, .int .i64 0, .int .i64 0, .slice none 0 0] : Array Value)[o]? := kR
    replace fR : ∀ o, WB.drew.frozen? ⟨w.heap.size + 2, o, none⟩ = false := fR
    have HSD : Hid (SB2 w 3 w.heap.size (w.heap.size + 1) A X WB.drew) := HS.out.drew
    clear k0 k1
    generalize hD : WB.drew = WD at kG fG kR fR HSD ⊢
    clear hD
    have k0 := HSD.out.k0
    have k1 := HSD.out.k1
    refine Goes.take (i := 0) (oi := ?oi41) (x := ?vx41) ?ho41 (by kernel_rfl) (by kernel_rfl) (by kernel_rfl) (by kernel_rfl) (fun _ _ _ h => h) (Or.inl ⟨?hw41, ?hy41⟩) HSD.out ?rest41
    case ho41 => (simp only [List.getElem?_toArray, List.getElem?_cons_zero] <;> rfl)
    case hw41 => rfl
    case hy41 => (intro w' hSw; have j0 := hSw.k0; have j1 := hSw.k1; go_simp; (try with_reducible rfl))
    case rest41 =>
    (try simp only [Act.put, List.setIfInBounds_toArray, List.set_cons_zero, List.set_cons_succ])
    refine Goes.take (i := 1) (oi := ?oi42) (x := ?vx42) ?ho42 (by kernel_rfl) (by kernel_rfl) (by kernel_rfl) (by kernel_rfl) (fun _ _ _ h => h) (Or.inl ⟨?hw42, ?hy42⟩) HSD.out ?rest42
    case ho42 => (simp only [List.getElem?_toArray, List.getElem?_cons_succ, List.getElem?_cons_zero] <;> rfl)
    case hw42 => rfl
    case hy42 => (intro w' hSw; have j0 := hSw.k0; have j1 := hSw.k1; go_simp; (try with_reducible rfl))
    case rest42 =>
    (try simp only [Act.put, List.setIfInBounds_toArray, List.set_cons_zero, List.set_cons_succ])
    refine Goes.take (i := 2) (oi := ?oi43) (x := ?vx43) ?ho43 (by kernel_rfl) (by kernel_rfl) (by kernel_rfl) (by kernel_rfl) (fun _ _ _ h => h) (Or.inl ⟨?hw43, ?hy43⟩) HSD.out ?rest43
    case ho43 => (simp only [List.getElem?_toArray, List.getElem?_cons_succ, List.getElem?_cons_zero] <;> rfl)
    case hw43 => rfl
    case hy43 => (intro w' hSw; have j0 := hSw.k0; have j1 := hSw.k1; go_simp; (try with_reducible rfl))
    case rest43 =>
    (try simp only [Act.put, List.setIfInBounds_toArray, List.set_cons_zero, List.set_cons_succ])
    refine Goes.all (rs := [3]) (by kernel_rfl) (by simp) ?_
    refine Ups.cons (i := 3) (o := ?oo44) ?ho44 (fun KK hKK => ?stp44) Ups.nil
    case ho44 => (simp only [List.getElem?_toArray, List.getElem?_cons_succ, List.getElem?_cons_zero] <;> rfl)
    case stp44 =>
    go_simp
    refine hKK.out _ _ (Or.inr (SB2.set (g := g) HSD.out (by omega) (by omega) (by omega))) ?_
    clear hKK KK
    (try simp only [Act.put, List.setIfInBounds_toArray, List.set_cons_zero, List.set_cons_succ])
    refine Goes.take (i := 4) (oi := ?oi45) (x := ?vx45) ?ho45 (by kernel_rfl) (by kernel_rfl) (by kernel_rfl) (by kernel_rfl) (fun _ _ _ h => h) (Or.inl ⟨?hw45, ?hy45⟩) (SB2.set (g := g) HSD.out (by omega) (by omega) (by omega)) ?rest45
    case ho45 => (simp only [List.getElem?_toArray, List.getElem?_cons_succ, List.getElem?_cons_zero] <;> rfl)
    case hw45 => rfl
    case hy45 => (intro w' hSw; have j0 := hSw.k0; have j1 := hSw.k1; go_simp; (try with_reducible rfl))
    case rest45 =>
    (try simp only [Act.put, List.setIfInBounds_toArray, List.set_cons_zero, List.set_cons_succ])
    refine Goes.all (rs := [5]) (by kernel_rfl) (by simp) ?_
    refine Ups.cons (i := 5) (o := ?oo46) ?ho46 (fun KK hKK => ?stp46) Ups.nil
    case ho46 => (simp only [List.getElem?_toArray, List.getElem?_cons_succ, List.getElem?_cons_zero] <;> rfl)
    case stp46 =>
    go_simp
    refine hKK.out _ _ (Or.inr (SB2.set (g := g) (SB2.set (g := g) HSD.out (by omega) (by omega) (by omega)) (by omega) (by omega) (by omega))) ?_
    clear hKK KK
    (try simp only [Act.put, List.setIfInBounds_toArray, List.set_cons_zero, List.set_cons_succ])
    refine Goes.done (by kernel_rfl) ?_ _
    refine NoPanic.normal ?_
    obtain ⟨N, hN⟩ : ∃ N : Array Value, N = #[.int .i64 pa, .int .i64 sd, .bool true, .bool false, .bool false, .int .i64 ss, .int .i64 0, .int .i64 0, .int .i64 1, .int .i64 ke, .int .i64 0, .slice none 0 0] := ⟨_, rfl⟩
    have HN : Hid _ := hN
    have hNz : N.size = 12 := by rw [hN]; rfl
    have HIN : Hid ((Tryz.prog.info? 55).map (·.size) = some N.size) := by show _ = _; rw [hNz]; exact (by kernel_rfl : (Tryz.prog.info? 55).map (·.size) = some 12)
    have HIN' : Hid ((Tryz.prog.info? 55).map (·.size) = some N.toList.length) := by show _ = _; rw [Array.length_toList]; exact HIN.out
    have HONEN : Hid (N.all (·.oneCell') = true) := by show _ = _; rw [hN]; simp [Value.oneCell']
    have kN : ∀ o, ((WD.setCell ⟨g, 8, none⟩ (.int .i64 1)).setCell ⟨g, 9, none⟩ (.int .i64 ke)).cell? ⟨g, o, none⟩ = N[o]? := by
      have h0 := kG
      rw [HG.out] at h0
      have h2 := (bx_put (bx_put h0 (k := 8) (v := .int .i64 1) (by simp)) (k := 9) (v := .int .i64 ke) (by simp))
      rw [hN]
      simpa using h2
    have kQ : ∀ o, ((WD.setCell ⟨g, 8, none⟩ (.int .i64 1)).setCell ⟨g, 9, none⟩ (.int .i64 ke)).cell? ⟨w.heap.size + 2, o, none⟩ = (#[.int .i64 0, .int .i64 0, .bool false, .bool false, .bool false, .int .i64 0, .int .i64 0, .int .i64 0, .int .i64 0, .int .i64 0, .int .i64 0, .slice none 0 0] : Array Value)[o]? := (bx_setC (bx_setC kR (show w.heap.size + 2 ≠ g by omega)) (show w.heap.size + 2 ≠ g by omega))
    have fQ : ∀ o, ((WD.setCell ⟨g, 8, none⟩ (.int .i64 1)).setCell ⟨g, 9, none⟩ (.int .i64 ke)).frozen? ⟨w.heap.size + 2, o, none⟩ = false := (fx_setC (fx_setC fR))
    have HBW : Hid (Below w.heap.size w ((WD.setCell ⟨g, 8, none⟩ (.int .i64 1)).setCell ⟨g, 9, none⟩ (.int .i64 ke))) := (SB2.set (g := g) (SB2.set (g := g) HSD.out (by omega) (by omega) (by omega)) (by omega) (by omega) (by omega)).bl
    clear k0 k1 kG kR fG fR
    generalize hWW : ((WD.setCell ⟨g, 8, none⟩ (.int .i64 1)).setCell ⟨g, 9, none⟩ (.int .i64 ke)) = W9 at kN kQ fQ HBW ⊢
    clear hWW
    have HTHN : Hid (W9.there (w.heap.size + 2) 0 N.size) := bx_there kQ fQ (by rw [hNz]; rfl)
    have kF : Hid (∀ o, (W9.setCells (w.heap.size + 2) 0 N.toList).cell? ⟨w.heap.size + 2, o, none⟩ = N[o]?) := bx_setCells kQ (by rw [hNz]; rfl)
    clear hN hNz kQ fQ
    go_wp2_with (first | (refine wpList_load_mid rfl 55 _ rfl _ _ (by rfl) N.toList _ (bx_range kN) Tryz.underlying55 rfl HIN'.out ?_) | (refine wpList_store_mid rfl 55 _ _ rfl _ _ N (by rfl) (by rfl) HTHN.out HIN.out HONEN.out ?_))
    refine bodyPost_ret (results_box Tryz.results60 _ _ _ N _ (by rfl) kF.out Tryz.underlying55 rfl HIN.out) rfl ⟨?_, setCells_below (by omega) _ _ _ _ HBW.out⟩
    rw [HN.out, HOP.out, HOA.out, HOB.out]
    rfl
set_option maxHeartbeats 4000000 in
theorem sL9Syn (cb of sb so : Nat) (sd ke pe pa : Int) (jo : Bool) (no ss TK : Int) (w : World) (hcb : cb < w.heap.size) (hsb : sb < w.heap.size) (c0 : w.cell? ⟨cb, of, none⟩ = some (.int .i64 sd)) (c1 : w.cell? ⟨cb, of + 1, none⟩ = some (.int .i64 ke)) (c2 : w.cell? ⟨cb, of + 2, none⟩ = some (.int .i64 pe)) (s0 : w.cell? ⟨sb, so, none⟩ = some (.int .i64 pa)) (s2 : w.cell? ⟨sb, so + 2, none⟩ = some (.bool jo)) (s3 : w.cell? ⟨sb, so + 3, none⟩ = some (.int .i64 no)) (s6 : w.cell? ⟨sb, so + 6, none⟩ = some (.int .i64 ss)) (hTO : ∀ W, Calls Tryz.prog 95 #[.int .i64 pe] W fun e w' => e = .returned (.int .i64 TK) ∧ Below W.heap.size W w') :
    Calls Tryz.prog 56 #[.pointer (some ⟨cb, of, none⟩), .pointer (some ⟨sb, so, none⟩)] w fun e w' => e = .returned (.agg #[.int .i64 pa, .int .i64 sd, .bool true, .bool false, .bool false, .int .i64 ss, .int .i64 0, .int .i64 0, .int .i64 (if jo then 2 else 1), .int .i64 (if jo then TK else ke), .int .i64 (if jo then no else 0), .slice none 0 0]) ∧ Below w.heap.size w w' := by
  have HO : Hid _ := hTO
  clear hTO
  obtain ⟨OP, hOP⟩ : ∃ x : Int, x = (if jo then 2 else 1) := ⟨_, rfl⟩
  obtain ⟨OA, hOA⟩ : ∃ x : Int, x = (if jo then TK else ke) := ⟨_, rfl⟩
  obtain ⟨OB, hOB⟩ : ∃ x : Int, x = (if jo then no else 0) := ⟨_, rfl⟩
  rw [← hOP, ← hOA, ← hOB]
  have HOP : Hid _ := hOP
  have HOA : Hid _ := hOA
  have HOB : Hid _ := hOB
  clear hOP hOA hOB
  obtain ⟨G, hG⟩ : ∃ G : Array Value, G = #[.int .i64 pa, .int .i64 sd, .bool true, .bool false, .bool false, .int .i64 ss, .int .i64 0, .int .i64 0, .int .i64 1, .int .i64 ke, .int .i64 0, .slice none 0 0] := ⟨_, rfl⟩
  have HG : Hid _ := hG
  have HGZ : Hid (G.size = 12) := by show _ = _; rw [hG]; rfl
  have HIG : Hid ((Tryz.prog.info? 55).map (·.size) = some G.size) := by show _ = _; rw [HGZ.out]; exact (by kernel_rfl : (Tryz.prog.info? 55).map (·.size) = some 12)
  have HONG : Hid (G.all (·.oneCell') = true) := by show _ = _; rw [hG]; simp [Value.oneCell']
  clear hG
  have HWA : Hid (Below w.heap.size w (w.alloc (.cells #[.int .i64 0, .int .i64 0, .bool false, .bool false, .bool false, .int .i64 0, .int .i64 0, .int .i64 0, .int .i64 0, .int .i64 0, .int .i64 0, .slice none 0 0] 55)) ∧ (w.alloc (.cells #[.int .i64 0, .int .i64 0, .bool false, .bool false, .bool false, .int .i64 0, .int .i64 0, .int .i64 0, .int .i64 0, .int .i64 0, .int .i64 0, .slice none 0 0] 55)).heap.size = w.heap.size + 1 ∧ (∀ o, (w.alloc (.cells #[.int .i64 0, .int .i64 0, .bool false, .bool false, .bool false, .int .i64 0, .int .i64 0, .int .i64 0, .int .i64 0, .int .i64 0, .int .i64 0, .slice none 0 0] 55)).cell? ⟨w.heap.size, o, none⟩ = (#[.int .i64 0, .int .i64 0, .bool false, .bool false, .bool false, .int .i64 0, .int .i64 0, .int .i64 0, .int .i64 0, .int .i64 0, .int .i64 0, .slice none 0 0] : Array Value)[o]?) ∧ (∀ o, (w.alloc (.cells #[.int .i64 0, .int .i64 0, .bool false, .bool false, .bool false, .int .i64 0, .int .i64 0, .int .i64 0, .int .i64 0, .int .i64 0, .int .i64 0, .slice none 0 0] 55)).frozen? ⟨w.heap.size, o, none⟩ = false)) := ⟨((Below.refl _ _).alloc (Nat.le_refl _) _), by simp, fun o => by simp [go_sem], fun o => by simp [go_sem]⟩
  go_enter Tryz.func56, Tryz.ntmps56
  go_upto_region 1 with fail
  generalize hWW : (w.alloc (.cells #[.int .i64 0, .int .i64 0, .bool false, .bool false, .bool false, .int .i64 0, .int .i64 0, .int .i64 0, .int .i64 0, .int .i64 0, .int .i64 0, .slice none 0 0] 55)) = W1 at HWA ⊢
  clear hWW
  obtain ⟨hb, hsz, kR, fR⟩ := HWA.out
  clear HWA
  have HB : Hid (Below w.heap.size w W1) := hb
  have zR : w.heap.size < W1.heap.size := by omega
  clear hb hsz
  have HB0 : Hid (Below w.heap.size w W1) := HB.out
  refine wp_region_noPanic ?_
  refine Goes.start (S := fun w' => Below W1.heap.size W1 w') (z := 19) (by kernel_rfl) ?_
  have hb : Below W1.heap.size W1 W1.drew := Below.drew (Below.refl _ _)
  generalize hWW : W1.drew = W2 at hb ⊢
  clear hWW
  have HS0 : Hid (Below W1.heap.size W1 W2) := hb
  replace kR := bx_below kR zR hb
  replace fR := bxF fR hb zR
  replace zR := Nat.lt_of_lt_of_le zR hb.size
  replace HB : Hid (Below w.heap.size w W2) := HB.out.trans (hb.mono HB.out.size)
  clear hb
  refine Goes.take (i := 0) (oi := ?oi11) (x := ?vx11) ?ho11 (by kernel_rfl) (by kernel_rfl) (by kernel_rfl) (by kernel_rfl) (fun _ _ _ h => h) (Or.inl ⟨?hw11, ?hy11⟩) HS0.out ?rest11
  case ho11 => (simp only [List.getElem?_toArray, List.getElem?_cons_zero] <;> rfl)
  case hw11 => rfl
  case hy11 => (intro w' hSw; have jc0 := ((HB0.out.trans (hSw.mono HB0.out.size)).cell (p := ⟨cb, of, none⟩) hcb).trans c0; have jc1 := ((HB0.out.trans (hSw.mono HB0.out.size)).cell (p := ⟨cb, of + 1, none⟩) hcb).trans c1; have js0 := ((HB0.out.trans (hSw.mono HB0.out.size)).cell (p := ⟨sb, so, none⟩) hsb).trans s0; have js6 := ((HB0.out.trans (hSw.mono HB0.out.size)).cell (p := ⟨sb, so + 6, none⟩) hsb).trans s6; go_simp; (try with_reducible rfl))
  case rest11 =>
  (try simp only [Act.put, List.setIfInBounds_toArray, List.set_cons_zero, List.set_cons_succ])
  refine Goes.take (i := 1) (oi := ?oi12) (x := ?vx12) ?ho12 (by kernel_rfl) (by kernel_rfl) (by kernel_rfl) (by kernel_rfl) (fun _ _ _ h => h) (Or.inl ⟨?hw12, ?hy12⟩) HS0.out ?rest12
  case ho12 => (simp only [List.getElem?_toArray, List.getElem?_cons_succ, List.getElem?_cons_zero] <;> rfl)
  case hw12 => rfl
  case hy12 => (intro w' hSw; have jc0 := ((HB0.out.trans (hSw.mono HB0.out.size)).cell (p := ⟨cb, of, none⟩) hcb).trans c0; have jc1 := ((HB0.out.trans (hSw.mono HB0.out.size)).cell (p := ⟨cb, of + 1, none⟩) hcb).trans c1; have js0 := ((HB0.out.trans (hSw.mono HB0.out.size)).cell (p := ⟨sb, so, none⟩) hsb).trans s0; have js6 := ((HB0.out.trans (hSw.mono HB0.out.size)).cell (p := ⟨sb, so + 6, none⟩) hsb).trans s6; go_simp; (try with_reducible rfl))
  case rest12 =>
  (try simp only [Act.put, List.setIfInBounds_toArray, List.set_cons_zero, List.set_cons_succ])
  refine Goes.take (i := 2) (oi := ?oi13) (x := ?vx13) ?ho13 (by kernel_rfl) (by kernel_rfl) (by kernel_rfl) (by kernel_rfl) (fun _ _ _ h => h) (Or.inl ⟨?hw13, ?hy13⟩) HS0.out ?rest13
  case ho13 => (simp only [List.getElem?_toArray, List.getElem?_cons_succ, List.getElem?_cons_zero] <;> rfl)
  case hw13 => rfl
  case hy13 => (intro w' hSw; have jc0 := ((HB0.out.trans (hSw.mono HB0.out.size)).cell (p := ⟨cb, of, none⟩) hcb).trans c0; have jc1 := ((HB0.out.trans (hSw.mono HB0.out.size)).cell (p := ⟨cb, of + 1, none⟩) hcb).trans c1; have js0 := ((HB0.out.trans (hSw.mono HB0.out.size)).cell (p := ⟨sb, so, none⟩) hsb).trans s0; have js6 := ((HB0.out.trans (hSw.mono HB0.out.size)).cell (p := ⟨sb, so + 6, none⟩) hsb).trans s6; go_simp; (try with_reducible rfl))
  case rest13 =>
  (try simp only [Act.put, List.setIfInBounds_toArray, List.set_cons_zero, List.set_cons_succ])
  refine Goes.take (i := 3) (oi := ?oi14) (x := ?vx14) ?ho14 (by kernel_rfl) (by kernel_rfl) (by kernel_rfl) (by kernel_rfl) (fun _ _ _ h => h) (Or.inl ⟨?hw14, ?hy14⟩) HS0.out ?rest14
  case ho14 => (simp only [List.getElem?_toArray, List.getElem?_cons_succ, List.getElem?_cons_zero] <;> rfl)
  case hw14 => rfl
  case hy14 => (intro w' hSw; have jc0 := ((HB0.out.trans (hSw.mono HB0.out.size)).cell (p := ⟨cb, of, none⟩) hcb).trans c0; have jc1 := ((HB0.out.trans (hSw.mono HB0.out.size)).cell (p := ⟨cb, of + 1, none⟩) hcb).trans c1; have js0 := ((HB0.out.trans (hSw.mono HB0.out.size)).cell (p := ⟨sb, so, none⟩) hsb).trans s0; have js6 := ((HB0.out.trans (hSw.mono HB0.out.size)).cell (p := ⟨sb, so + 6, none⟩) hsb).trans s6; go_simp; (try with_reducible rfl))
  case rest14 =>
  (try simp only [Act.put, List.setIfInBounds_toArray, List.set_cons_zero, List.set_cons_succ])
  refine Goes.take (i := 4) (oi := ?oi15) (x := ?vx15) ?ho15 (by kernel_rfl) (by kernel_rfl) (by kernel_rfl) (by kernel_rfl) (fun _ _ _ h => h) (Or.inl ⟨?hw15, ?hy15⟩) HS0.out ?rest15
  case ho15 => (simp only [List.getElem?_toArray, List.getElem?_cons_succ, List.getElem?_cons_zero] <;> rfl)
  case hw15 => rfl
  case hy15 => (intro w' hSw; have jc0 := ((HB0.out.trans (hSw.mono HB0.out.size)).cell (p := ⟨cb, of, none⟩) hcb).trans c0; have jc1 := ((HB0.out.trans (hSw.mono HB0.out.size)).cell (p := ⟨cb, of + 1, none⟩) hcb).trans c1; have js0 := ((HB0.out.trans (hSw.mono HB0.out.size)).cell (p := ⟨sb, so, none⟩) hsb).trans s0; have js6 := ((HB0.out.trans (hSw.mono HB0.out.size)).cell (p := ⟨sb, so + 6, none⟩) hsb).trans s6; go_simp; (try with_reducible rfl))
  case rest15 =>
  (try simp only [Act.put, List.setIfInBounds_toArray, List.set_cons_zero, List.set_cons_succ])
  refine Goes.take (i := 5) (oi := ?oi16) (x := ?vx16) ?ho16 (by kernel_rfl) (by kernel_rfl) (by kernel_rfl) (by kernel_rfl) (fun _ _ _ h => h) (Or.inl ⟨?hw16, ?hy16⟩) HS0.out ?rest16
  case ho16 => (simp only [List.getElem?_toArray, List.getElem?_cons_succ, List.getElem?_cons_zero] <;> rfl)
  case hw16 => rfl
  case hy16 => (intro w' hSw; have jc0 := ((HB0.out.trans (hSw.mono HB0.out.size)).cell (p := ⟨cb, of, none⟩) hcb).trans c0; have jc1 := ((HB0.out.trans (hSw.mono HB0.out.size)).cell (p := ⟨cb, of + 1, none⟩) hcb).trans c1; have js0 := ((HB0.out.trans (hSw.mono HB0.out.size)).cell (p := ⟨sb, so, none⟩) hsb).trans s0; have js6 := ((HB0.out.trans (hSw.mono HB0.out.size)).cell (p := ⟨sb, so + 6, none⟩) hsb).trans s6; go_simp; (try with_reducible rfl))
  case rest16 =>
  (try simp only [Act.put, List.setIfInBounds_toArray, List.set_cons_zero, List.set_cons_succ])
  refine Goes.take (i := 6) (oi := ?oi17) (x := ?vx17) ?ho17 (by kernel_rfl) (by kernel_rfl) (by kernel_rfl) (by kernel_rfl) (fun _ _ _ h => h) (Or.inl ⟨?hw17, ?hy17⟩) HS0.out ?rest17
  case ho17 => (simp only [List.getElem?_toArray, List.getElem?_cons_succ, List.getElem?_cons_zero] <;> rfl)
  case hw17 => rfl
  case hy17 => (intro w' hSw; have jc0 := ((HB0.out.trans (hSw.mono HB0.out.size)).cell (p := ⟨cb, of, none⟩) hcb).trans c0; have jc1 := ((HB0.out.trans (hSw.mono HB0.out.size)).cell (p := ⟨cb, of + 1, none⟩) hcb).trans c1; have js0 := ((HB0.out.trans (hSw.mono HB0.out.size)).cell (p := ⟨sb, so, none⟩) hsb).trans s0; have js6 := ((HB0.out.trans (hSw.mono HB0.out.size)).cell (p := ⟨sb, so + 6, none⟩) hsb).trans s6; go_simp; (try with_reducible rfl))
  case rest17 =>
  (try simp only [Act.put, List.setIfInBounds_toArray, List.set_cons_zero, List.set_cons_succ])
  refine Goes.take (i := 7) (oi := ?oi18) (x := ?vx18) ?ho18 (by kernel_rfl) (by kernel_rfl) (by kernel_rfl) (by kernel_rfl) (fun _ _ _ h => h) (Or.inl ⟨?hw18, ?hy18⟩) HS0.out ?rest18
  case ho18 => (simp only [List.getElem?_toArray, List.getElem?_cons_succ, List.getElem?_cons_zero] <;> rfl)
  case hw18 => rfl
  case hy18 => (intro w' hSw; have jc0 := ((HB0.out.trans (hSw.mono HB0.out.size)).cell (p := ⟨cb, of, none⟩) hcb).trans c0; have jc1 := ((HB0.out.trans (hSw.mono HB0.out.size)).cell (p := ⟨cb, of + 1, none⟩) hcb).trans c1; have js0 := ((HB0.out.trans (hSw.mono HB0.out.size)).cell (p := ⟨sb, so, none⟩) hsb).trans s0; have js6 := ((HB0.out.trans (hSw.mono HB0.out.size)).cell (p := ⟨sb, so + 6, none⟩) hsb).trans s6; go_simp; (try with_reducible rfl))
  case rest18 =>
  (try simp only [Act.put, List.setIfInBounds_toArray, List.set_cons_zero, List.set_cons_succ])
  refine Goes.take (i := 8) (oi := ?oi19) (x := ?vx19) ?ho19 (by kernel_rfl) (by kernel_rfl) (by kernel_rfl) (by kernel_rfl) (fun _ _ _ h => h) (Or.inl ⟨?hw19, ?hy19⟩) HS0.out ?rest19
  case ho19 => (simp only [List.getElem?_toArray, List.getElem?_cons_succ, List.getElem?_cons_zero] <;> rfl)
  case hw19 => rfl
  case hy19 => (intro w' hSw; have jc0 := ((HB0.out.trans (hSw.mono HB0.out.size)).cell (p := ⟨cb, of, none⟩) hcb).trans c0; have jc1 := ((HB0.out.trans (hSw.mono HB0.out.size)).cell (p := ⟨cb, of + 1, none⟩) hcb).trans c1; have js0 := ((HB0.out.trans (hSw.mono HB0.out.size)).cell (p := ⟨sb, so, none⟩) hsb).trans s0; have js6 := ((HB0.out.trans (hSw.mono HB0.out.size)).cell (p := ⟨sb, so + 6, none⟩) hsb).trans s6; go_simp; (try with_reducible rfl))
  case rest19 =>
  (try simp only [Act.put, List.setIfInBounds_toArray, List.set_cons_zero, List.set_cons_succ])
  refine Goes.take (i := 9) (oi := ?oi20) (x := ?vx20) ?ho20 (by kernel_rfl) (by kernel_rfl) (by kernel_rfl) (by kernel_rfl) (fun _ _ _ h => h) (Or.inl ⟨?hw20, ?hy20⟩) HS0.out ?rest20
  case ho20 => (simp only [List.getElem?_toArray, List.getElem?_cons_succ, List.getElem?_cons_zero] <;> rfl)
  case hw20 => rfl
  case hy20 => (intro w' hSw; have jc0 := ((HB0.out.trans (hSw.mono HB0.out.size)).cell (p := ⟨cb, of, none⟩) hcb).trans c0; have jc1 := ((HB0.out.trans (hSw.mono HB0.out.size)).cell (p := ⟨cb, of + 1, none⟩) hcb).trans c1; have js0 := ((HB0.out.trans (hSw.mono HB0.out.size)).cell (p := ⟨sb, so, none⟩) hsb).trans s0; have js6 := ((HB0.out.trans (hSw.mono HB0.out.size)).cell (p := ⟨sb, so + 6, none⟩) hsb).trans s6; go_simp; (try with_reducible rfl))
  case rest20 =>
  (try simp only [Act.put, List.setIfInBounds_toArray, List.set_cons_zero, List.set_cons_succ])
  refine Goes.take (i := 10) (oi := ?oi21) (x := ?vx21) ?ho21 (by kernel_rfl) (by kernel_rfl) (by kernel_rfl) (by kernel_rfl) (fun _ _ _ h => h) (Or.inl ⟨?hw21, ?hy21⟩) HS0.out ?rest21
  case ho21 => (simp only [List.getElem?_toArray, List.getElem?_cons_succ, List.getElem?_cons_zero] <;> rfl)
  case hw21 => rfl
  case hy21 => (intro w' hSw; have jc0 := ((HB0.out.trans (hSw.mono HB0.out.size)).cell (p := ⟨cb, of, none⟩) hcb).trans c0; have jc1 := ((HB0.out.trans (hSw.mono HB0.out.size)).cell (p := ⟨cb, of + 1, none⟩) hcb).trans c1; have js0 := ((HB0.out.trans (hSw.mono HB0.out.size)).cell (p := ⟨sb, so, none⟩) hsb).trans s0; have js6 := ((HB0.out.trans (hSw.mono HB0.out.size)).cell (p := ⟨sb, so + 6, none⟩) hsb).trans s6; go_simp; (try with_reducible rfl))
  case rest21 =>
  (try simp only [Act.put, List.setIfInBounds_toArray, List.set_cons_zero, List.set_cons_succ])
  refine Goes.take (i := 11) (oi := ?oi22) (x := ?vx22) ?ho22 (by kernel_rfl) (by kernel_rfl) (by kernel_rfl) (by kernel_rfl) (fun _ _ _ h => h) (Or.inl ⟨?hw22, ?hy22⟩) HS0.out ?rest22
  case ho22 => (simp only [List.getElem?_toArray, List.getElem?_cons_succ, List.getElem?_cons_zero] <;> rfl)
  case hw22 => rfl
  case hy22 => (intro w' hSw; have jc0 := ((HB0.out.trans (hSw.mono HB0.out.size)).cell (p := ⟨cb, of, none⟩) hcb).trans c0; have jc1 := ((HB0.out.trans (hSw.mono HB0.out.size)).cell (p := ⟨cb, of + 1, none⟩) hcb).trans c1; have js0 := ((HB0.out.trans (hSw.mono HB0.out.size)).cell (p := ⟨sb, so, none⟩) hsb).trans s0; have js6 := ((HB0.out.trans (hSw.mono HB0.out.size)).cell (p := ⟨sb, so + 6, none⟩) hsb).trans s6; go_simp; (try with_reducible rfl))
  case rest22 =>
  (try simp only [Act.put, List.setIfInBounds_toArray, List.set_cons_zero, List.set_cons_succ])
  refine Goes.take (i := 12) (oi := ?oi23) (x := ?vx23) ?ho23 (by kernel_rfl) (by kernel_rfl) (by kernel_rfl) (by kernel_rfl) (fun _ _ _ h => h) (Or.inl ⟨?hw23, ?hy23⟩) HS0.out ?rest23
  case ho23 => (simp only [List.getElem?_toArray, List.getElem?_cons_succ, List.getElem?_cons_zero] <;> rfl)
  case hw23 => rfl
  case hy23 => (intro w' hSw; have jc0 := ((HB0.out.trans (hSw.mono HB0.out.size)).cell (p := ⟨cb, of, none⟩) hcb).trans c0; have jc1 := ((HB0.out.trans (hSw.mono HB0.out.size)).cell (p := ⟨cb, of + 1, none⟩) hcb).trans c1; have js0 := ((HB0.out.trans (hSw.mono HB0.out.size)).cell (p := ⟨sb, so, none⟩) hsb).trans s0; have js6 := ((HB0.out.trans (hSw.mono HB0.out.size)).cell (p := ⟨sb, so + 6, none⟩) hsb).trans s6; go_simp; (try with_reducible rfl))
  case rest23 =>
  (try simp only [Act.put, List.setIfInBounds_toArray, List.set_cons_zero, List.set_cons_succ])
  refine Goes.take (i := 13) (oi := ?oi24) (x := ?vx24) ?ho24 (by kernel_rfl) (by kernel_rfl) (by kernel_rfl) (by kernel_rfl) (fun _ _ _ h => h) (Or.inl ⟨?hw24, ?hy24⟩) HS0.out ?rest24
  case ho24 => (simp only [List.getElem?_toArray, List.getElem?_cons_succ, List.getElem?_cons_zero] <;> rfl)
  case hw24 => rfl
  case hy24 => (intro w' hSw; have jc0 := ((HB0.out.trans (hSw.mono HB0.out.size)).cell (p := ⟨cb, of, none⟩) hcb).trans c0; have jc1 := ((HB0.out.trans (hSw.mono HB0.out.size)).cell (p := ⟨cb, of + 1, none⟩) hcb).trans c1; have js0 := ((HB0.out.trans (hSw.mono HB0.out.size)).cell (p := ⟨sb, so, none⟩) hsb).trans s0; have js6 := ((HB0.out.trans (hSw.mono HB0.out.size)).cell (p := ⟨sb, so + 6, none⟩) hsb).trans s6; go_simp; (try with_reducible rfl))
  case rest24 =>
  (try simp only [Act.put, List.setIfInBounds_toArray, List.set_cons_zero, List.set_cons_succ])
  refine Goes.take (i := 14) (oi := ?oi25) (x := ?vx25) ?ho25 (by kernel_rfl) (by kernel_rfl) (by kernel_rfl) (by kernel_rfl) (fun _ _ _ h => h) (Or.inl ⟨?hw25, ?hy25⟩) HS0.out ?rest25
  case ho25 => (simp only [List.getElem?_toArray, List.getElem?_cons_succ, List.getElem?_cons_zero] <;> rfl)
  case hw25 => rfl
  case hy25 => (intro w' hSw; have jc0 := ((HB0.out.trans (hSw.mono HB0.out.size)).cell (p := ⟨cb, of, none⟩) hcb).trans c0; have jc1 := ((HB0.out.trans (hSw.mono HB0.out.size)).cell (p := ⟨cb, of + 1, none⟩) hcb).trans c1; have js0 := ((HB0.out.trans (hSw.mono HB0.out.size)).cell (p := ⟨sb, so, none⟩) hsb).trans s0; have js6 := ((HB0.out.trans (hSw.mono HB0.out.size)).cell (p := ⟨sb, so + 6, none⟩) hsb).trans s6; go_simp; (try with_reducible rfl))
  case rest25 =>
  (try simp only [Act.put, List.setIfInBounds_toArray, List.set_cons_zero, List.set_cons_succ])
  refine Goes.take (i := 15) (oi := ?oi26) (x := ?vx26) ?ho26 (by kernel_rfl) (by kernel_rfl) (by kernel_rfl) (by kernel_rfl) (fun _ _ _ h => h) (Or.inl ⟨?hw26, ?hy26⟩) HS0.out ?rest26
  case ho26 => (simp only [List.getElem?_toArray, List.getElem?_cons_succ, List.getElem?_cons_zero] <;> rfl)
  case hw26 => rfl
  case hy26 => (intro w' hSw; have jc0 := ((HB0.out.trans (hSw.mono HB0.out.size)).cell (p := ⟨cb, of, none⟩) hcb).trans c0; have jc1 := ((HB0.out.trans (hSw.mono HB0.out.size)).cell (p := ⟨cb, of + 1, none⟩) hcb).trans c1; have js0 := ((HB0.out.trans (hSw.mono HB0.out.size)).cell (p := ⟨sb, so, none⟩) hsb).trans s0; have js6 := ((HB0.out.trans (hSw.mono HB0.out.size)).cell (p := ⟨sb, so + 6, none⟩) hsb).trans s6; go_simp; (try with_reducible rfl))
  case rest26 =>
  (try simp only [Act.put, List.setIfInBounds_toArray, List.set_cons_zero, List.set_cons_succ])
  refine Goes.take (i := 16) (oi := ?oi27) (x := ?vx27) ?ho27 (by kernel_rfl) (by kernel_rfl) (by kernel_rfl) (by kernel_rfl) (fun _ _ _ h => h) (Or.inl ⟨?hw27, ?hy27⟩) HS0.out ?rest27
  case ho27 => (simp only [List.getElem?_toArray, List.getElem?_cons_succ, List.getElem?_cons_zero] <;> rfl)
  case hw27 => rfl
  case hy27 => (intro w' hSw; have jc0 := ((HB0.out.trans (hSw.mono HB0.out.size)).cell (p := ⟨cb, of, none⟩) hcb).trans c0; have jc1 := ((HB0.out.trans (hSw.mono HB0.out.size)).cell (p := ⟨cb, of + 1, none⟩) hcb).trans c1; have js0 := ((HB0.out.trans (hSw.mono HB0.out.size)).cell (p := ⟨sb, so, none⟩) hsb).trans s0; have js6 := ((HB0.out.trans (hSw.mono HB0.out.size)).cell (p := ⟨sb, so + 6, none⟩) hsb).trans s6; go_simp; (try with_reducible rfl))
  case rest27 =>
  (try simp only [Act.put, List.setIfInBounds_toArray, List.set_cons_zero, List.set_cons_succ])
  refine Goes.take (i := 17) (oi := ?oi28) (x := ?vx28) ?ho28 (by kernel_rfl) (by kernel_rfl) (by kernel_rfl) (by kernel_rfl) (fun _ _ _ h => h) (Or.inl ⟨?hw28, ?hy28⟩) HS0.out ?rest28
  case ho28 => (simp only [List.getElem?_toArray, List.getElem?_cons_succ, List.getElem?_cons_zero] <;> rfl)
  case hw28 => rfl
  case hy28 => (intro w' hSw; have jc0 := ((HB0.out.trans (hSw.mono HB0.out.size)).cell (p := ⟨cb, of, none⟩) hcb).trans c0; have jc1 := ((HB0.out.trans (hSw.mono HB0.out.size)).cell (p := ⟨cb, of + 1, none⟩) hcb).trans c1; have js0 := ((HB0.out.trans (hSw.mono HB0.out.size)).cell (p := ⟨sb, so, none⟩) hsb).trans s0; have js6 := ((HB0.out.trans (hSw.mono HB0.out.size)).cell (p := ⟨sb, so + 6, none⟩) hsb).trans s6; go_simp; (try with_reducible rfl))
  case rest28 =>
  (try simp only [Act.put, List.setIfInBounds_toArray, List.set_cons_zero, List.set_cons_succ])
  refine Goes.all (rs := [18]) (by kernel_rfl) (by simp) ?_
  refine Ups.cons (i := 18) (o := ?oo29) ?ho29 (fun KK hKK => ?stp29) Ups.nil
  case ho29 => (simp only [List.getElem?_toArray, List.getElem?_cons_succ, List.getElem?_cons_zero] <;> rfl)
  case stp29 =>
  go_simp
  have hb : Below W2.heap.size W2 (W2.alloc (.cells #[.int .i64 0, .int .i64 0, .bool false, .bool false, .bool false, .int .i64 0, .int .i64 0, .int .i64 0, .int .i64 0, .int .i64 0, .int .i64 0, .slice none 0 0] 55)) := (Below.refl _ _).alloc (Nat.le_refl _) _
  have HS1 : Hid (Below W1.heap.size W1 (W2.alloc (.cells #[.int .i64 0, .int .i64 0, .bool false, .bool false, .bool false, .int .i64 0, .int .i64 0, .int .i64 0, .int .i64 0, .int .i64 0, .int .i64 0, .slice none 0 0] 55))) := HS0.out.trans (hb.mono HS0.out.size)
  refine hKK.out _ _ (Or.inr HS1.out) ?_
  clear hKK KK
  (try simp only [Act.put, List.setIfInBounds_toArray, List.set_cons_zero, List.set_cons_succ])
  have kG : ∀ o, (W2.alloc (.cells #[.int .i64 0, .int .i64 0, .bool false, .bool false, .bool false, .int .i64 0, .int .i64 0, .int .i64 0, .int .i64 0, .int .i64 0, .int .i64 0, .slice none 0 0] 55)).cell? ⟨W2.heap.size, o, none⟩ = (#[.int .i64 0, .int .i64 0, .bool false, .bool false, .bool false, .int .i64 0, .int .i64 0, .int .i64 0, .int .i64 0, .int .i64 0, .int .i64 0, .slice none 0 0] : Array Value)[o]? := bx_al W2 _ _
  have fG : ∀ o, (W2.alloc (.cells #[.int .i64 0, .int .i64 0, .bool false, .bool false, .bool false, .int .i64 0, .int .i64 0, .int .i64 0, .int .i64 0, .int .i64 0, .int .i64 0, .slice none 0 0] 55)).frozen? ⟨W2.heap.size, o, none⟩ = false := fx_al W2 _ _
  have zG : W2.heap.size < (W2.alloc (.cells #[.int .i64 0, .int .i64 0, .bool false, .bool false, .bool false, .int .i64 0, .int .i64 0, .int .i64 0, .int .i64 0, .int .i64 0, .int .i64 0, .slice none 0 0] 55)).heap.size := by simp
  generalize hWW : (W2.alloc (.cells #[.int .i64 0, .int .i64 0, .bool false, .bool false, .bool false, .int .i64 0, .int .i64 0, .int .i64 0, .int .i64 0, .int .i64 0, .int .i64 0, .slice none 0 0] 55)) = W3 at hb kG fG zG HS1 ⊢
  clear hWW
  obtain ⟨bG, hq⟩ : ∃ q, q = W2.heap.size := ⟨_, rfl⟩
  rw [← hq] at kG fG zG ⊢
  have lRG : w.heap.size < bG := by rw [hq]; exact zR
  clear hq
  replace kR := bx_below kR zR hb
  replace fR := bxF fR hb zR
  replace zR := Nat.lt_of_lt_of_le zR hb.size
  replace HB : Hid (Below w.heap.size w W3) := HB.out.trans (hb.mono HB.out.size)
  clear hb
  refine Goes.all (rs := [19]) (by kernel_rfl) (by simp) ?_
  refine Ups.cons (i := 19) (o := ?oo30) ?ho30 (fun KK hKK => ?stp30) Ups.nil
  case ho30 => (simp only [List.getElem?_toArray, List.getElem?_cons_succ, List.getElem?_cons_zero] <;> rfl)
  case stp30 =>
  rw [if_pos (by rfl)]
  refine wp_store_mid 55 _ _ rfl _ _ G (by rfl) (by rw [HG.out]; rfl) (bx_there kG fG (by rw [HGZ.out]; rfl)) HIG.out HONG.out ?_
  refine hKK.out _ _ (Or.inl rfl) ?_
  clear hKK KK
  (try simp only [Act.put])
  refine Goes.done (by kernel_rfl) ?_ _
  refine NoPanic.normal ?_
  replace kR : ∀ o, (W3.setCells bG 0 G.toList).cell? ⟨w.heap.size, o, none⟩ = (#[.int .i64 0, .int .i64 0, .bool false, .bool false, .bool false, .int .i64 0, .int .i64 0, .int .i64 0, .int .i64 0, .int .i64 0, .int .i64 0, .slice none 0 0] : Array Value)[o]? := bx_setOff kR (by omega)
  replace fR : ∀ o, (W3.setCells bG 0 G.toList).frozen? ⟨w.heap.size, o, none⟩ = false := fx_sets fR
  replace zR : w.heap.size < (W3.setCells bG 0 G.toList).heap.size := by rw [setCells_size]; exact zR
  replace kG : ∀ o, (W3.setCells bG 0 G.toList).cell? ⟨bG, o, none⟩ = G[o]? := bx_setCells kG (by rw [HGZ.out]; rfl)
  replace fG : ∀ o, (W3.setCells bG 0 G.toList).frozen? ⟨bG, o, none⟩ = false := fx_sets fG
  replace zG : bG < (W3.setCells bG 0 G.toList).heap.size := by rw [setCells_size]; exact zG
  replace HB : Hid (Below w.heap.size w (W3.setCells bG 0 G.toList)) := setCells_below (by omega) _ _ _ _ HB.out
  generalize hWW : (W3.setCells bG 0 G.toList) = W4 at kR zR fR kG zG fG HB ⊢
  clear hWW
  rw [HG.out] at kG
  clear HS0 HS1 HB0 HG HGZ HIG HONG
  have ys2 : W4.cell? ⟨sb, so + 2, none⟩ = _ := (HB.out.cell (p := ⟨sb, so + 2, none⟩) hsb).trans s2
  cases jo
  case false =>
    obtain ⟨N, hN⟩ : ∃ N : Array Value, N = #[.int .i64 pa, .int .i64 sd, .bool true, .bool false, .bool false, .int .i64 ss, .int .i64 0, .int .i64 0, .int .i64 1, .int .i64 ke, .int .i64 0, .slice none 0 0] := ⟨_, rfl⟩
    rw [← hN] at kG
    have HN : Hid _ := hN
    have hNz : N.size = 12 := by rw [hN]; rfl
    have HIN : Hid ((Tryz.prog.info? 55).map (·.size) = some N.size) := by show _ = _; rw [hNz]; exact (by kernel_rfl : (Tryz.prog.info? 55).map (·.size) = some 12)
    have HIN' : Hid ((Tryz.prog.info? 55).map (·.size) = some N.toList.length) := by show _ = _; rw [Array.length_toList]; exact HIN.out
    have HONN : Hid (N.all (·.oneCell') = true) := by show _ = _; rw [hN]; simp [Value.oneCell']
    have HTHN : Hid (W4.there w.heap.size 0 N.size) := bx_there kR fR (by rw [hNz]; rfl)
    have kF : Hid (∀ o, (W4.setCells w.heap.size 0 N.toList).cell? ⟨w.heap.size, o, none⟩ = N[o]?) := bx_setCells kR (by rw [hNz]; rfl)
    clear hN hNz
    go_wp2_with (first | (refine wpList_load_mid rfl 55 _ rfl _ _ (by rfl) N.toList _ (bx_range kG) Tryz.underlying55 rfl HIN'.out ?_) | (refine wpList_store_mid rfl 55 _ _ rfl _ _ N (by rfl) (by rfl) HTHN.out HIN.out HONN.out ?_))
    refine bodyPost_ret (results_box Tryz.results56 _ _ _ N _ (by rfl) kF.out Tryz.underlying55 rfl HIN.out) rfl ⟨?_, setCells_below (Nat.le_refl _) _ _ _ _ HB.out⟩
    rw [HN.out, HOP.out, HOA.out, HOB.out]
    rfl
  case true =>
    go_upto_region 4 with fail
    replace kG := bx_put kG (k := 8) (v := .int .i64 2) (by simp)
    simp only [List.setIfInBounds_toArray, List.set_cons_zero, List.set_cons_succ] at kG
    replace kR : ∀ o, (W4.setCell ⟨bG, 8, none⟩ (.int .i64 2)).cell? ⟨w.heap.size, o, none⟩ = (#[.int .i64 0, .int .i64 0, .bool false, .bool false, .bool false, .int .i64 0, .int .i64 0, .int .i64 0, .int .i64 0, .int .i64 0, .int .i64 0, .slice none 0 0] : Array Value)[o]? := bx_setC kR (by omega)
    replace fR : ∀ o, (W4.setCell ⟨bG, 8, none⟩ (.int .i64 2)).frozen? ⟨w.heap.size, o, none⟩ = false := fx_setC fR
    replace zR : w.heap.size < (W4.setCell ⟨bG, 8, none⟩ (.int .i64 2)).heap.size := by have h : (W4.setCell ⟨bG, 8, none⟩ (.int .i64 2)).heap.size = W4.heap.size := (by simp); omega
    replace fG : ∀ o, (W4.setCell ⟨bG, 8, none⟩ (.int .i64 2)).frozen? ⟨bG, o, none⟩ = false := fx_setC fG
    replace zG : bG < (W4.setCell ⟨bG, 8, none⟩ (.int .i64 2)).heap.size := by have h : (W4.setCell ⟨bG, 8, none⟩ (.int .i64 2)).heap.size = W4.heap.size := (by simp); omega
    replace HB : Hid (Below w.heap.size w (W4.setCell ⟨bG, 8, none⟩ (.int .i64 2))) := Below.setCell (p := ⟨bG, 8, none⟩) HB.out (by dsimp only; omega) _
    generalize hWW : (W4.setCell ⟨bG, 8, none⟩ (.int .i64 2)) = W5 at kR zR fR kG zG fG HB ⊢
    clear hWW
    have yc2 : W5.cell? ⟨cb, of + 2, none⟩ = _ := (HB.out.cell (p := ⟨cb, of + 2, none⟩) hcb).trans c2
    go_wp2_with fail
    refine (HO.out _).mono ?_
    rintro e W6 ⟨rfl, hb⟩
    replace kR := bx_below kR zR hb
    replace fR := bxF fR hb zR
    replace zR := Nat.lt_of_lt_of_le zR hb.size
    replace kG := bx_below kG zG hb
    replace fG := bxF fG hb zG
    replace zG := Nat.lt_of_lt_of_le zG hb.size
    replace HB : Hid (Below w.heap.size w W6) := HB.out.trans (hb.mono HB.out.size)
    clear hb
    go_upto_region 5 with fail
    replace kG := bx_put kG (k := 9) (v := .int .i64 TK) (by simp)
    simp only [List.setIfInBounds_toArray, List.set_cons_zero, List.set_cons_succ] at kG
    replace kR : ∀ o, (W6.setCell ⟨bG, 9, none⟩ (.int .i64 TK)).cell? ⟨w.heap.size, o, none⟩ = (#[.int .i64 0, .int .i64 0, .bool false, .bool false, .bool false, .int .i64 0, .int .i64 0, .int .i64 0, .int .i64 0, .int .i64 0, .int .i64 0, .slice none 0 0] : Array Value)[o]? := bx_setC kR (by omega)
    replace fR : ∀ o, (W6.setCell ⟨bG, 9, none⟩ (.int .i64 TK)).frozen? ⟨w.heap.size, o, none⟩ = false := fx_setC fR
    replace zR : w.heap.size < (W6.setCell ⟨bG, 9, none⟩ (.int .i64 TK)).heap.size := by have h : (W6.setCell ⟨bG, 9, none⟩ (.int .i64 TK)).heap.size = W6.heap.size := (by simp); omega
    replace fG : ∀ o, (W6.setCell ⟨bG, 9, none⟩ (.int .i64 TK)).frozen? ⟨bG, o, none⟩ = false := fx_setC fG
    replace zG : bG < (W6.setCell ⟨bG, 9, none⟩ (.int .i64 TK)).heap.size := by have h : (W6.setCell ⟨bG, 9, none⟩ (.int .i64 TK)).heap.size = W6.heap.size := (by simp); omega
    replace HB : Hid (Below w.heap.size w (W6.setCell ⟨bG, 9, none⟩ (.int .i64 TK))) := Below.setCell (p := ⟨bG, 9, none⟩) HB.out (by dsimp only; omega) _
    generalize hWW : (W6.setCell ⟨bG, 9, none⟩ (.int .i64 TK)) = W7 at kR zR fR kG zG fG HB ⊢
    clear hWW
    have ys3 : W7.cell? ⟨sb, so + 3, none⟩ = _ := (HB.out.cell (p := ⟨sb, so + 3, none⟩) hsb).trans s3
    go_upto_region 6 with fail
    replace kG := bx_put kG (k := 10) (v := .int .i64 no) (by simp)
    simp only [List.setIfInBounds_toArray, List.set_cons_zero, List.set_cons_succ] at kG
    replace kR : ∀ o, (W7.setCell ⟨bG, 10, none⟩ (.int .i64 no)).cell? ⟨w.heap.size, o, none⟩ = (#[.int .i64 0, .int .i64 0, .bool false, .bool false, .bool false, .int .i64 0, .int .i64 0, .int .i64 0, .int .i64 0, .int .i64 0, .int .i64 0, .slice none 0 0] : Array Value)[o]? := bx_setC kR (by omega)
    replace fR : ∀ o, (W7.setCell ⟨bG, 10, none⟩ (.int .i64 no)).frozen? ⟨w.heap.size, o, none⟩ = false := fx_setC fR
    replace zR : w.heap.size < (W7.setCell ⟨bG, 10, none⟩ (.int .i64 no)).heap.size := by have h : (W7.setCell ⟨bG, 10, none⟩ (.int .i64 no)).heap.size = W7.heap.size := (by simp); omega
    replace fG : ∀ o, (W7.setCell ⟨bG, 10, none⟩ (.int .i64 no)).frozen? ⟨bG, o, none⟩ = false := fx_setC fG
    replace zG : bG < (W7.setCell ⟨bG, 10, none⟩ (.int .i64 no)).heap.size := by have h : (W7.setCell ⟨bG, 10, none⟩ (.int .i64 no)).heap.size = W7.heap.size := (by simp); omega
    replace HB : Hid (Below w.heap.size w (W7.setCell ⟨bG, 10, none⟩ (.int .i64 no))) := Below.setCell (p := ⟨bG, 10, none⟩) HB.out (by dsimp only; omega) _
    generalize hWW : (W7.setCell ⟨bG, 10, none⟩ (.int .i64 no)) = W8 at kR zR fR kG zG fG HB ⊢
    clear hWW
    obtain ⟨N, hN⟩ : ∃ N : Array Value, N = #[.int .i64 pa, .int .i64 sd, .bool true, .bool false, .bool false, .int .i64 ss, .int .i64 0, .int .i64 0, .int .i64 2, .int .i64 TK, .int .i64 no, .slice none 0 0] := ⟨_, rfl⟩
    rw [← hN] at kG
    have HN : Hid _ := hN
    have hNz : N.size = 12 := by rw [hN]; rfl
    have HIN : Hid ((Tryz.prog.info? 55).map (·.size) = some N.size) := by show _ = _; rw [hNz]; exact (by kernel_rfl : (Tryz.prog.info? 55).map (·.size) = some 12)
    have HIN' : Hid ((Tryz.prog.info? 55).map (·.size) = some N.toList.length) := by show _ = _; rw [Array.length_toList]; exact HIN.out
    have HONN : Hid (N.all (·.oneCell') = true) := by show _ = _; rw [hN]; simp [Value.oneCell']
    have HTHN : Hid (W8.there w.heap.size 0 N.size) := bx_there kR fR (by rw [hNz]; rfl)
    have kF : Hid (∀ o, (W8.setCells w.heap.size 0 N.toList).cell? ⟨w.heap.size, o, none⟩ = N[o]?) := bx_setCells kR (by rw [hNz]; rfl)
    clear hN hNz
    go_wp2_with (first | (refine wpList_load_mid rfl 55 _ rfl _ _ (by rfl) N.toList _ (bx_range kG) Tryz.underlying55 rfl HIN'.out ?_) | (refine wpList_store_mid rfl 55 _ _ rfl _ _ N (by rfl) (by rfl) HTHN.out HIN.out HONN.out ?_))
    refine bodyPost_ret (results_box Tryz.results56 _ _ _ N _ (by rfl) kF.out Tryz.underlying55 rfl HIN.out) rfl ⟨?_, setCells_below (Nat.le_refl _) _ _ _ _ HB.out⟩
    rw [HN.out, HOP.out, HOA.out, HOB.out]
    rfl
end Go.Proofs.YtbdibjeemgkdaaaGreatDoor
