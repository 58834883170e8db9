/- What the model asks of a side: l14Asked, l14Known, l14Held, l14Prefix; nothing that was in memory turns; no condition but that there are at most a million parts. Written by mkaud6.py. -/
import Derived.Test.YtnfkjdcnngoeiabGreatRows
import Derived.Recover
import Derived.Deep.RegionHeld3
import Derived.Deep.DeepCutAuto
import Derived.Deep.MidRow
import Derived.Deep.QuietTactic
import Derived.BigQuiet
import Derived.Test.YtnfkjdcnngoeiabGreatK01
import Derived.Test.YtnfkjdcnngoeiabGreatK02
import Derived.Test.YtnfkjdcnngoeiabGreatK03
import Derived.Test.YtnfkjdcnngoeiabGreatK04
import Derived.Test.YtnfkjdcnngoeiabGreatK05
import Derived.Test.YtnfkjdcnngoeiabGreatK06
import Derived.Test.YtnfkjdcnngoeiabGreatK10
import Derived.Test.YtnfkjdcnngoeiabGreatK11
import Derived.Test.YtnfkjdcnngoeiabGreatK12
import Derived.Test.YtnfkjdcnngoeiabGreatK14
import Derived.Test.YtnfkjdcnngoeiabGreatK58
import Derived.Test.YtnfkjdcnngoeiabGreatK59
import Derived.Test.YtnfkjdcnngoeiabGreatK60
import Derived.Test.YtnfkjdcnngoeiabGreatK61
import Derived.Test.YtnfkjdcnngoeiabGreatK62
import Derived.Test.YtnfkjdcnngoeiabGreatK64
import Derived.Test.YtnfkjdcnngoeiabGreatK78
import Derived.Test.YtnfkjdcnngoeiabGreatK79
import Derived.Test.YtnfkjdcnngoeiabGreatK80
import Derived.Test.YtnfkjdcnngoeiabGreatK81
namespace Go.Proofs.YtnfkjdcnngoeiabGreat
open Go.RowKit
set_option linter.unusedVariables false
set_option maxRecDepth 8000

set_option maxHeartbeats 2000000 in
theorem sL14Known0 (k k' p sb so sc : Nat) (ac : Int) (fd : Bool) (fi : Int) (b9 : Option Addr) (nd q9 : Nat) (w : World) (h1 : k + k' = 1) (x1 : w.cell? ⟨p, 1, none⟩ = some (.slice (some ⟨sb, so, none⟩) 2 sc)) (c7 : w.cell? ⟨sb, so + k * 14 + 7, none⟩ = some (.int .i64 ac)) (c8 : w.cell? ⟨sb, so + k * 14 + 8, none⟩ = some (.bool fd)) (o9 : w.cell? ⟨sb, so + k' * 14 + 9, none⟩ = some (.slice b9 nd q9)) (o11 : w.cell? ⟨sb, so + k' * 14 + 11, none⟩ = some (.int .i64 fi)) :
    Calls Tryz.prog 30 #[.pointer (some ⟨p, 0, none⟩), .int .i64 k] w fun e w' => e = .returned (.bool (decide (ac ≤ (nd : Int)) && (!fd || !decide (fi = -1)))) ∧ Below w.heap.size w w' := by
  have hk0 : (0 : Int) ≤ (k : Int) := by omega
  have hk1 : (k : Int) < 2 := by omega
  have hk2 : (0 : Int) ≤ (k' : Int) := by omega
  have hk3 : (k' : Int) < 2 := by omega
  have hw64 : IntKind.i64.wrap (1 - (k : Int)) = (k' : Int) := by simp only [IntKind.wrap, IntKind.bits, IntKind.signed]; simp; omega
  obtain ⟨R, hR⟩ : ∃ R, R = (decide (ac ≤ (nd : Int)) && (!fd || !decide (fi = -1))) := ⟨_, rfl⟩
  rw [← hR]
  by_cases g1 : ac ≤ (nd : Int)
  case neg =>
    have HR : Hid (R = false) := by show _ = _; rw [hR, decide_eq_false g1, Bool.false_and]
    have g1l : decide ((nd : Int) < ac) = true := decide_eq_true (by omega)
    have g1d : decide (ac ≤ (nd : Int)) = false := decide_eq_false g1
    clear g1 hR h1
    go_enter Tryz.func30, Tryz.ntmps30
    go_upto_region 3 with fail
    go_quiet (fail)
    go_wp2_with fail
    go_ret
    exact ⟨ret_bool (by rw [HR.out]), below_drewN (Below.refl _ _) _⟩
  have g1l : decide ((nd : Int) < ac) = false := decide_eq_false (by omega)
  have g1d : decide (ac ≤ (nd : Int)) = true := decide_eq_true g1
  rw [g1d, Bool.true_and] at hR
  clear h1
  cases fd
  case false =>
    have HR : Hid (R = true) := hR
    clear hR
    go_enter Tryz.func30, Tryz.ntmps30
    go_upto_region 3 with fail
    go_quiet (fail)
    go_wp2_with fail
    go_ret
    exact ⟨ret_bool (by rw [HR.out]), below_drewN (Below.refl _ _) _⟩
  by_cases g2 : fi = -1
  case pos =>
    have HR : Hid (R = false) := by show _ = _; rw [hR, decide_eq_true g2]; rfl
    have g2' : (fi != -1) = false := by simp [g2]
    clear hR g2
    go_enter Tryz.func30, Tryz.ntmps30
    go_upto_region 3 with fail
    go_quiet (fail)
    go_wp2_with fail
    go_ret
    exact ⟨ret_bool (by rw [HR.out]), below_drewN (Below.refl _ _) _⟩
  have HR : Hid (R = true) := by show _ = _; rw [hR, decide_eq_false g2]; rfl
  have g2' : (fi != -1) = true := by simp [g2]
  clear hR g2
  go_enter Tryz.func30, Tryz.ntmps30
  go_upto_region 3 with fail
  go_quiet (fail)
  go_wp2_with fail
  go_ret
  exact ⟨ret_bool (by rw [HR.out]), below_drewN (Below.refl _ _) _⟩
set_option maxHeartbeats 4000000 in
theorem sL14Held0 (k k' p sb so sc : Nat) (F fn : Bool) (fi : Int) (b5 : Option Addr) (wl p5 : Nat) (w : World) (h1 : k + k' = 1) (hsb : sb < w.heap.size) (x1 : w.cell? ⟨p, 1, none⟩ = some (.slice (some ⟨sb, so, none⟩) 2 sc)) (c11 : w.cell? ⟨sb, so + k * 14 + 11, none⟩ = some (.int .i64 fi)) (o5 : w.cell? ⟨sb, so + k' * 14 + 5, none⟩ = some (.slice b5 wl p5)) (o6 : w.cell? ⟨sb, so + k' * 14 + 6, none⟩ = some (.bool fn)) (hwl : wl ≤ 1048576)
    (hft : ∀ W, Below w.heap.size w W → Calls Tryz.prog 59 #[.pointer (some ⟨sb, so + k * 14 + 9, none⟩), .slice b5 wl p5] W fun e w' => e = .returned (.bool F) ∧ Below W.heap.size W w') :
    Calls Tryz.prog 28 #[.pointer (some ⟨p, 0, none⟩), .int .i64 k] w fun e w' => e = .returned (.bool (F && (decide (fi = -1) || (fn && decide ((wl : Int) = fi))))) ∧ Below w.heap.size w w' := by
  have hk0 : (0 : Int) ≤ (k : Int) := by omega
  have hk1 : (k : Int) < 2 := by omega
  have hk2 : (0 : Int) ≤ (k' : Int) := by omega
  have hk3 : (k' : Int) < 2 := by omega
  have hw64 : IntKind.i64.wrap (1 - (k : Int)) = (k' : Int) := by simp only [IntKind.wrap, IntKind.bits, IntKind.signed]; simp; omega
  obtain ⟨R, hR⟩ : ∃ R, R = (F && (decide (fi = -1) || (fn && decide ((wl : Int) = fi)))) := ⟨_, rfl⟩
  rw [← hR]
  have HR0 : Hid _ := hR
  have HFT : Hid _ := hft
  have HSB : Hid (sb < w.heap.size) := hsb
  have HWL : Hid (wl ≤ 1048576) := hwl
  clear h1 hR hft hsb hwl
  go_enter Tryz.func28, Tryz.ntmps28
  go_upto_region 3 with fail
  refine wp_region_noPanic ?_
  refine Goes.start (S := fun w' => Below w.heap.size w w') (z := 100) (by kernel_rfl) ?_
  refine Goes.take (i := 0) (oi := ?oi1) (x := ?vx1) ?ho1 (by kernel_rfl) (by kernel_rfl) (by kernel_rfl) (by kernel_rfl) (fun _ _ _ h => h) (Or.inl ⟨?hw1, ?hy1⟩) (Below.drew (Below.refl _ _)) ?rest1
  case ho1 => (simp only [List.getElem?_toArray, List.getElem?_cons_zero] <;> rfl)
  case hw1 => rfl
  case hy1 => (intro w' hSw; have j5 := (hSw.cell (p := ⟨sb, so + k' * 14 + 5, none⟩) HSB.out).trans o5; go_simp; (try with_reducible rfl))
  case rest1 =>
  (try simp only [Act.put, List.setIfInBounds_toArray, List.set_cons_zero, List.set_cons_succ])
  refine Goes.take (i := 1) (oi := ?oi2) (x := ?vx2) ?ho2 (by kernel_rfl) (by kernel_rfl) (by kernel_rfl) (by kernel_rfl) (fun _ _ _ h => h) (Or.inl ⟨?hw2, ?hy2⟩) (Below.drew (Below.refl _ _)) ?rest2
  case ho2 => (simp only [List.getElem?_toArray, List.getElem?_cons_succ, List.getElem?_cons_zero] <;> rfl)
  case hw2 => rfl
  case hy2 => (intro w' hSw; have j5 := (hSw.cell (p := ⟨sb, so + k' * 14 + 5, none⟩) HSB.out).trans o5; go_simp; (try with_reducible rfl))
  case rest2 =>
  (try simp only [Act.put, List.setIfInBounds_toArray, List.set_cons_zero, List.set_cons_succ])
  refine Goes.take (i := 2) (oi := ?oi3) (x := ?vx3) ?ho3 (by kernel_rfl) (by kernel_rfl) (by kernel_rfl) (by kernel_rfl) (fun _ _ _ h => h) (Or.inl ⟨?hw3, ?hy3⟩) (Below.drew (Below.refl _ _)) ?rest3
  case ho3 => (simp only [List.getElem?_toArray, List.getElem?_cons_succ, List.getElem?_cons_zero] <;> rfl)
  case hw3 => rfl
  case hy3 => (intro w' hSw; have j5 := (hSw.cell (p := ⟨sb, so + k' * 14 + 5, none⟩) HSB.out).trans o5; go_simp; (try with_reducible rfl))
  case rest3 =>
  (try simp only [Act.put, List.setIfInBounds_toArray, List.set_cons_zero, List.set_cons_succ])
  refine Goes.take (i := 3) (oi := ?oi4) (x := ?vx4) ?ho4 (by kernel_rfl) (by kernel_rfl) (by kernel_rfl) (by kernel_rfl) (fun _ _ _ h => h) (Or.inl ⟨?hw4, ?hy4⟩) (Below.drew (Below.refl _ _)) ?rest4
  case ho4 => (simp only [List.getElem?_toArray, List.getElem?_cons_succ, List.getElem?_cons_zero] <;> rfl)
  case hw4 => rfl
  case hy4 => (intro w' hSw; have j5 := (hSw.cell (p := ⟨sb, so + k' * 14 + 5, none⟩) HSB.out).trans o5; go_simp; (try with_reducible rfl))
  case rest4 =>
  (try simp only [Act.put, List.setIfInBounds_toArray, List.set_cons_zero, List.set_cons_succ])
  refine Goes.take (i := 4) (oi := ?oi5) (x := ?vx5) ?ho5 (by kernel_rfl) (by kernel_rfl) (by kernel_rfl) (by kernel_rfl) (fun _ _ _ h => h) (Or.inl ⟨?hw5, ?hy5⟩) (Below.drew (Below.refl _ _)) ?rest5
  case ho5 => (simp only [List.getElem?_toArray, List.getElem?_cons_succ, List.getElem?_cons_zero] <;> rfl)
  case hw5 => rfl
  case hy5 => (intro w' hSw; have j5 := (hSw.cell (p := ⟨sb, so + k' * 14 + 5, none⟩) HSB.out).trans o5; go_simp; (try with_reducible rfl))
  case rest5 =>
  (try simp only [Act.put, List.setIfInBounds_toArray, List.set_cons_zero, List.set_cons_succ])
  refine Goes.take (i := 5) (oi := ?oi6) (x := ?vx6) ?ho6 (by kernel_rfl) (by kernel_rfl) (by kernel_rfl) (by kernel_rfl) (fun _ _ _ h => h) (Or.inl ⟨?hw6, ?hy6⟩) (Below.drew (Below.refl _ _)) ?rest6
  case ho6 => (simp only [List.getElem?_toArray, List.getElem?_cons_succ, List.getElem?_cons_zero] <;> rfl)
  case hw6 => rfl
  case hy6 => (intro w' hSw; have j5 := (hSw.cell (p := ⟨sb, so + k' * 14 + 5, none⟩) HSB.out).trans o5; go_simp; (try with_reducible rfl))
  case rest6 =>
  (try simp only [Act.put, List.setIfInBounds_toArray, List.set_cons_zero, List.set_cons_succ])
  refine Goes.take (i := 6) (oi := ?oi7) (x := ?vx7) ?ho7 (by kernel_rfl) (by kernel_rfl) (by kernel_rfl) (by kernel_rfl) (fun _ _ _ h => h) (Or.inl ⟨?hw7, ?hy7⟩) (Below.drew (Below.refl _ _)) ?rest7
  case ho7 => (simp only [List.getElem?_toArray, List.getElem?_cons_succ, List.getElem?_cons_zero] <;> rfl)
  case hw7 => rfl
  case hy7 => (intro w' hSw; have j5 := (hSw.cell (p := ⟨sb, so + k' * 14 + 5, none⟩) HSB.out).trans o5; go_simp; (try with_reducible rfl))
  case rest7 =>
  (try simp only [Act.put, List.setIfInBounds_toArray, List.set_cons_zero, List.set_cons_succ])
  refine Goes.all (rs := [7]) (by kernel_rfl) (by simp) ?_
  refine Ups.cons (i := 7) (o := ?oo8) ?ho8 (fun KK hKK => ?stp8) Ups.nil
  case ho8 => (simp only [List.getElem?_toArray, List.getElem?_cons_succ, List.getElem?_cons_zero] <;> rfl)
  case stp8 =>
  go_simp
  go_at_call 59
  refine (HFT.out _ (Below.drew (Below.refl _ _))).mono ?_
  rintro e W2 ⟨rfl, hbq⟩
  replace hbq := (Below.drew (Below.refl w.heap.size w)).trans hbq
  have HS8 : Hid (Below w.heap.size w W2) := hbq
  clear hbq
  dsimp only
  refine hKK.out _ _ (Or.inr HS8.out) ?_
  clear hKK KK
  (try simp only [Act.put, List.setIfInBounds_toArray, List.set_cons_zero, List.set_cons_succ])
  refine Goes.take (i := 8) (oi := ?oi9) (x := ?vx9) ?ho9 (by kernel_rfl) (by kernel_rfl) (by kernel_rfl) (by kernel_rfl) (fun _ _ _ h => h) (Or.inl ⟨?hw9, ?hy9⟩) HS8.out ?rest9
  case ho9 => (simp only [List.getElem?_toArray, List.getElem?_cons_succ, List.getElem?_cons_zero] <;> rfl)
  case hw9 => rfl
  case hy9 => (intro w' hSw; have j5 := (hSw.cell (p := ⟨sb, so + k' * 14 + 5, none⟩) HSB.out).trans o5; go_simp; (try with_reducible rfl))
  case rest9 =>
  (try simp only [Act.put, List.setIfInBounds_toArray, List.set_cons_zero, List.set_cons_succ])
  refine Goes.done (by kernel_rfl) ?_ _
  refine NoPanic.normal ?_
  have HB : Hid (Below w.heap.size w W2) := HS8.out
  replace c11 := (HB.out.cell (p := ⟨sb, so + k * 14 + 11, none⟩) HSB.out).trans c11
  replace o5 := (HB.out.cell (p := ⟨sb, so + k' * 14 + 5, none⟩) HSB.out).trans o5
  replace o6 := (HB.out.cell (p := ⟨sb, so + k' * 14 + 6, none⟩) HSB.out).trans o6
  clear HFT x1 hw64 HS8
  cases F
  case false =>
    have HR : Hid (R = false) := HR0.out
    clear HR0 c11 o5 o6
    go_wp2_with fail
    go_ret
    exact ⟨ret_bool (by rw [HR.out]), HB.out⟩
  have HR1 : Hid (R = (decide (fi = -1) || (fn && decide ((wl : Int) = fi)))) := by show _ = _; rw [HR0.out, Bool.true_and]
  clear HR0
  by_cases g1 : fi = -1
  case pos =>
    have HR : Hid (R = true) := by show _ = _; rw [HR1.out, decide_eq_true g1]; rfl
    have g1' : (fi == -1) = true := by simp [g1]
    clear g1 HR1
    go_upto_region 5 with fail
    go_quiet (fail)
    go_wp2_with fail
    go_ret
    exact ⟨ret_bool (by rw [HR.out]), below_drewN HB.out _⟩
  have HR2 : Hid (R = (fn && decide ((wl : Int) = fi))) := by show _ = _; rw [HR1.out, decide_eq_false g1]; rfl
  have g1' : (fi == -1) = false := by simp [g1]
  clear g1 HR1
  cases fn
  case false =>
    have HR : Hid (R = false) := HR2.out
    clear HR2
    go_upto_region 5 with fail
    go_quiet (fail)
    go_wp2_with fail
    go_ret
    exact ⟨ret_bool (by rw [HR.out]), below_drewN HB.out _⟩
  by_cases g2 : (wl : Int) = fi
  case pos =>
    have HR : Hid (R = true) := by show _ = _; rw [HR2.out, decide_eq_true g2]; rfl
    have g2' : (fi == (wl : Int)) = true := by simp [g2]
    clear g2 HR2
    go_upto_region 5 with fail
    go_quiet (fail)
    go_wp2_with fail
    go_ret
    exact ⟨ret_bool (by rw [HR.out]), below_drewN HB.out _⟩
  have HR : Hid (R = false) := by show _ = _; rw [HR2.out, decide_eq_false g2]; rfl
  have g2' : (fi == (wl : Int)) = false := by simp; omega
  clear g2 HR2
  go_upto_region 5 with fail
  go_quiet (fail)
  go_wp2_with fail
  go_ret
  exact ⟨ret_bool (by rw [HR.out]), below_drewN HB.out _⟩
set_option maxHeartbeats 4000000 in
theorem sL14Prefix0 (k k' p sb so sc gb go gc eb eo ec : Nat) (fn e : Bool) (b5 gu : Option Addr) (p5 gq : Nat) (wr g : List Int) (w : World) (h1 : k + k' = 1) (x1 : w.cell? ⟨p, 1, none⟩ = some (.slice (some ⟨sb, so, none⟩) 2 sc)) (x4 : w.cell? ⟨p, 4, none⟩ = some (.slice (some ⟨gb, go, none⟩) 2 gc)) (x5 : w.cell? ⟨p, 5, none⟩ = some (.slice (some ⟨eb, eo, none⟩) 2 ec)) (o5 : w.cell? ⟨sb, so + k' * 14 + 5, none⟩ = some (.slice b5 wr.length p5)) (o6 : w.cell? ⟨sb, so + k' * 14 + 6, none⟩ = some (.bool fn))
    (cg : w.cell? ⟨gb, go + k, none⟩ = some (.slice gu g.length gq)) (ce : w.cell? ⟨eb, eo + k, none⟩ = some (.bool e)) (hw : RB w b5 wr) (hg : RB w gu g) (cp1 : wr.length ≤ p5) (cp2 : p5 ≤ 9223372036854775807) (cp3 : g.length ≤ 9223372036854775807) :
    Calls Tryz.prog 27 #[.pointer (some ⟨p, 0, none⟩), .int .i64 k] w fun e' w' => e' = .returned (.bool (decide (g.length ≤ wr.length ∧ wr.take g.length = g) && (!e || (fn && decide ((wr.length : Int) = (g.length : Int)))))) ∧ Below w.heap.size w w' := by
  have hk0 : (0 : Int) ≤ (k : Int) := by omega
  have hk1 : (k : Int) < 2 := by omega
  have hk2 : (0 : Int) ≤ (k' : Int) := by omega
  have hk3 : (k' : Int) < 2 := by omega
  have hw64 : IntKind.i64.wrap (1 - (k : Int)) = (k' : Int) := by simp only [IntKind.wrap, IntKind.bits, IntKind.signed]; simp; omega
  obtain ⟨R, hR⟩ : ∃ R, R = (decide (g.length ≤ wr.length ∧ wr.take g.length = g) && (!e || (fn && decide ((wr.length : Int) = (g.length : Int))))) := ⟨_, rfl⟩
  rw [← hR]
  have HR0 : Hid _ := hR
  clear hR h1
  by_cases g1 : g.length ≤ wr.length
  case neg =>
    have HR : Hid (R = false) := by show _ = _; rw [HR0.out, decide_eq_false (fun h => g1 h.1), Bool.false_and]
    have g1' : (wr.length : Int) < (g.length : Int) := by omega
    have g1n : wr.length < g.length := by omega
    clear g1 HR0 hw hg
    generalize wr.length = wl at *
    generalize g.length = gl at *
    go_enter Tryz.func27, Tryz.ntmps27
    go_upto_region 3 with fail
    go_quiet (fail)
    go_wp2_with fail
    go_ret
    exact ⟨ret_bool (by rw [HR.out]), below_drewN (Below.refl _ _) _⟩
  have g1' : decide ((wr.length : Int) < (g.length : Int)) = false := decide_eq_false (by omega)
  have g1n : decide (wr.length < g.length) = false := decide_eq_false (by omega)
  have g2' : (g.length : Int) ≤ (p5 : Int) := by omega
  have g3' : (0 : Int) ≤ (g.length : Int) := by omega
  obtain ⟨S1, hS1⟩ : ∃ S, S = strOfNums (wr.take g.length) := ⟨_, rfl⟩
  obtain ⟨S2, hS2⟩ : ∃ S, S = strOfNums g := ⟨_, rfl⟩
  have cv1 : ∀ N c, (convert 41 9 (.slice b5 g.length c)).run Tryz.prog (w.drewN N) = .ok (.string S1) (w.drewN N) := fun N c => by rw [hS1]; exact cv_str b5 g.length c _ _ (by simp; omega) ((rb_pre hw _).below (Nat.le_refl _) (below_drewN (Below.refl _ _) N))
  have cv2 : ∀ N, (convert 41 9 (.slice gu g.length gq)).run Tryz.prog (w.drewN N) = .ok (.string S2) (w.drewN N) := fun N => by rw [hS2]; exact cv_str gu g.length gq _ _ rfl (hg.below (Nat.le_refl _) (below_drewN (Below.refl _ _) N))
  have hEQ : (S1.toList == S2.toList) = decide (wr.take g.length = g) := by rw [hS1, hS2]; exact eqS_iff (rb_pre hw _).bd hg.bd
  have HEQ : Hid _ := hEQ
  have HD : Hid (decide (g.length ≤ wr.length ∧ wr.take g.length = g) = decide (wr.take g.length = g)) := by show _ = _; simp [g1]
  clear hEQ hS1 hS2 hw hg g1
  generalize decide (g.length ≤ wr.length ∧ wr.take g.length = g) = q0 at *
  generalize decide (wr.take g.length = g) = q1 at *
  generalize wr.length = wl at *
  generalize g.length = gl at *
  cases hq : (S1.toList == S2.toList) with
  | false =>
    have HR : Hid (R = false) := by show _ = _; rw [HR0.out, HD.out, ← HEQ.out, hq, Bool.false_and]
    clear HR0 HD HEQ
    go_enter Tryz.func27, Tryz.ntmps27
    go_upto_region 3 with fail
    go_quiet (fail)
    go_wp2_with fail
    go_ret
    exact ⟨ret_bool (by rw [HR.out]), below_drewN (Below.refl _ _) _⟩
  | true =>
    have HR1 : Hid (R = (!e || (fn && decide ((wl : Int) = (gl : Int))))) := by show _ = _; rw [HR0.out, HD.out, ← HEQ.out, hq, Bool.true_and]
    clear HR0 HD HEQ
    cases e
    case false =>
      have HR : Hid (R = true) := HR1.out
      clear HR1
      go_enter Tryz.func27, Tryz.ntmps27
      go_upto_region 3 with fail
      go_quiet (fail)
      go_wp2_with fail
      go_ret
      exact ⟨ret_bool (by rw [HR.out]), below_drewN (Below.refl _ _) _⟩
    cases fn
    case false =>
      have HR : Hid (R = false) := HR1.out
      clear HR1
      go_enter Tryz.func27, Tryz.ntmps27
      go_upto_region 3 with fail
      go_quiet (fail)
      go_wp2_with fail
      go_ret
      exact ⟨ret_bool (by rw [HR.out]), below_drewN (Below.refl _ _) _⟩
    by_cases g4 : (wl : Int) = (gl : Int)
    case pos =>
      have HR : Hid (R = true) := by show _ = _; rw [HR1.out, decide_eq_true g4]; rfl
      have g4' : ((gl : Int) == (wl : Int)) = true := by simp [g4]
      have g4n : (gl == wl) = true := by simp; omega
      clear HR1 g4
      go_enter Tryz.func27, Tryz.ntmps27
      go_upto_region 3 with fail
      go_quiet (fail)
      go_wp2_with fail
      go_ret
      exact ⟨ret_bool (by rw [HR.out]), below_drewN (Below.refl _ _) _⟩
    have HR : Hid (R = false) := by show _ = _; rw [HR1.out, decide_eq_false g4]; rfl
    have g4' : ((gl : Int) == (wl : Int)) = false := by simp; omega
    have g4n : (gl == wl) = false := by simp; omega
    clear HR1 g4
    go_enter Tryz.func27, Tryz.ntmps27
    go_upto_region 3 with fail
    go_quiet (fail)
    go_wp2_with fail
    go_ret
    exact ⟨ret_bool (by rw [HR.out]), below_drewN (Below.refl _ _) _⟩
end Go.Proofs.YtnfkjdcnngoeiabGreat

/- The model's l14Flights: whether the flights of a conn have the bytes of what was written; nothing that was in memory turns; for a conn without a fault. Written by mkaud7.py. -/
namespace Go.Proofs.YtnfkjdcnngoeiabGreat
open Go.RowKit
set_option linter.unusedVariables false
set_option maxRecDepth 8000

set_option maxHeartbeats 8000000 in
theorem sL14Flights (c : DConn) (A : Array Value) (cb of : Nat) (w : World) (B : Nat) (h : ConnAt w B c A cb of) (hF : connF c = 0) :
    Calls Tryz.prog 29 #[.pointer (some ⟨cb, of, none⟩)] w fun r w' => r = .returned (.bool (fliV c)) ∧ Below w.heap.size w w' := by
  obtain ⟨a5, q5, a9, q9, a10, q10, a13, q13, hC⟩ := cn_all h.rd
  have hB := h.hB
  have hat := h.at_
  rw [hC.eA] at hat
  have hcb := h.lt
  obtain ⟨-, cp1, cp2, -⟩ := rd_cap hC.wr
  have cp4 : q5 ≤ 9223372036854775807 := cp2
  have hms := row_max hC.subs
  have hwt := tot_wrote h.tot
  have HX : Hid (∀ W, Below w.heap.size w W → W.cell? ⟨cb, of + 5, none⟩ = some (.slice a5 c.wrote.length q5) ∧ W.cell? ⟨cb, of + 13, none⟩ = some (.slice a13 c.subs.length q13)) := fun W hW => ⟨(hW.cell (p := ⟨cb, of + 5, none⟩) hcb).trans (hat 5 _ rfl), (hW.cell (p := ⟨cb, of + 13, none⟩) hcb).trans (hat 13 _ rfl)⟩
  have HSB : Hid (∀ W, Below w.heap.size w W → ∀ k (hk : k < c.subs.length), ∃ b off, ∃ X : Array Value, a13 = some ⟨b, off, none⟩ ∧ b < B ∧ W.rangeAt b (off + k * 16) X.toList ∧ shSub.Rd W B c.subs[k] X.toList) := fun W hW k hk => by
    obtain ⟨b, off, cs, q1, q2, q3, q4, q5⟩ := row_at (Sh.Rd.below (s := shSubs) hC.subs hB hW) k hk
    exact ⟨b, off, cs.toArray, q1, q2, q4, q5⟩
  have HWR : Hid (∀ W, Below w.heap.size w W → RB W a5 c.wrote) := fun W hW => by
    obtain ⟨_, _, e1, q1, -, -⟩ := rd_bytes (hC.wr.below hB hW)
    simp only [List.cons.injEq, Value.slice.injEq, and_true, true_and] at e1
    obtain ⟨rfl, rfl⟩ := e1
    exact q1
  have HOK : Hid (connF c = 0) := hF
  obtain ⟨R, hR⟩ : ∃ R, R = fliV c := ⟨_, rfl⟩
  rw [← hR]
  have HR : Hid _ := hR
  have HBW : Hid (B ≤ w.heap.size) := hB
  have HRN : Hid (∀ k (hk : k < c.subs.length), flOk c.wrote c.subs[k] = false → fliV c = false) := fun k hk h => by
    unfold fliV; rw [List.all_eq_false]; exact ⟨_, List.getElem_mem hk, by simp [h]⟩
  have HRY : Hid ((∀ k (hk : k < c.subs.length), flOk c.wrote c.subs[k] = true) → fliV c = true) := fun h => by
    unfold fliV; rw [List.all_eq_true]; intro x hx; obtain ⟨k, hk, rfl⟩ := List.getElem_of_mem hx; exact h k hk
  have hsz : c.subs.length ≤ 9223372036854775807 := by omega
  have HSL : Hid (∀ k (hk : k < c.subs.length), (flsD c.subs[k]).length ≤ 12) := fun k hk => conn_snd hF hk hsz
  obtain ⟨sn, hsn⟩ : ∃ n, n = c.subs.length := ⟨_, rfl⟩
  rw [← hsn] at HX hms hsz
  have HSN : Hid (sn = c.subs.length) := hsn
  obtain ⟨wl, hwl⟩ : ∃ n, n = c.wrote.length := ⟨_, rfl⟩
  rw [← hwl] at HX cp1 hwt
  have HWL : Hid (wl = c.wrote.length) := hwl
  have HCP : Hid (wl ≤ q5 ∧ wl ≤ 1048576) := ⟨cp1, hwt⟩
  clear h hF hC hB hR hsn hwl cp1 cp2 hms hwt hat hcb
  go_enter Tryz.func29, Tryz.ntmps29
  go_wp2_with fail
  go_loopw [3] (fun i wr => ∃ k : Nat, k ≤ sn ∧ i = .int .i64 k ∧ Hid (∀ q (hq : q < c.subs.length), q < k → flOk c.wrote c.subs[q] = true) ∧ Hid (Below w.heap.size w wr)) (fun i _ => sn - (intOf i).toNat)
  case atStart => exact ⟨0, Nat.zero_le _, rfl, fun q _ hq => absurd hq (Nat.not_lt_zero _), Below.refl _ _⟩
  case round =>
    obtain ⟨k, hk, rfl, HQ, HB⟩ := hrel
    obtain ⟨x5, x13⟩ := HX.out wr HB.out
    by_cases hlt : k < sn
    · have hk0 : (0 : Int) ≤ (k : Int) := by omega
      have hkn : (k : Int) < (sn : Int) := by omega
      have hkl : k < c.subs.length := by rw [← HSN.out]; exact hlt
      have HKL : Hid (k < c.subs.length) := hkl
      obtain ⟨sb, so, X, rfl, hsb, hrg, hrx⟩ := HSB.out wr HB.out k hkl
      obtain ⟨xs, hxs⟩ : ∃ xs : DSub, xs = c.subs[k]'hkl := ⟨_, rfl⟩
      replace hrx : shSub.Rd wr B xs X.toList := by rw [hxs]; exact hrx
      obtain ⟨fa, fc, x9, hfl⟩ := sub_fl hrx
      have hq9 : wr.cell? ⟨sb, so + k * 16 + 9, none⟩ = some (.slice fa (flsD xs).length fc) := hrg 9 _ (by rw [Array.getElem?_toList]; exact x9)
      obtain ⟨fl, hfe⟩ : ∃ fl, fl = flsD xs := ⟨_, rfl⟩
      rw [← hfe] at hq9 hfl
      have hfn : fl.length ≤ 12 := by subst hfe; subst hxs; exact HSL.out k hkl
      have HFO : Hid (∀ i (hi : i < fl.length), 0 ≤ fl[i].2.1 ∧ fl[i].2.1 + (fl[i].2.2.1.length : Int) ≤ 400 ∧ 0 < fl[i].2.2.1.length) := fun i hi => by subst hfe; subst hxs; exact conn_fls HOK.out hkl hi
      have HFN : Hid (∀ i (hi : i < fl.length), stV c.wrote fl[i].2.1 fl[i].2.2.1 = false → fliV c = false) := fun i hi h => HRN.out k hkl ((congrArg (flOk c.wrote) hxs).symm.trans (by unfold flOk; rw [← hfe, List.all_eq_false]; exact ⟨_, List.getElem_mem hi, by simp [h]⟩))
      have HFY : Hid ((∀ i (hi : i < fl.length), stV c.wrote fl[i].2.1 fl[i].2.2.1 = true) → flOk c.wrote xs = true) := fun h => by unfold flOk; rw [← hfe, List.all_eq_true]; intro x hx; obtain ⟨i, hi, rfl⟩ := List.getElem_of_mem hx; exact h i hi
      have HFR : Hid (∀ W, Below wr.heap.size wr W → shFlights.Rd W B fl [.slice fa fl.length fc]) := fun W hW => Sh.Rd.below (s := shFlights) hfl (Nat.le_trans HBW.out HB.out.size) hW
      have HXS : Hid (∀ hk : k < c.subs.length, flOk c.wrote xs = flOk c.wrote (c.subs[k]'hk)) := fun _ => congrArg (flOk c.wrote) hxs
      have hsw : sb < wr.heap.size := Nat.lt_of_lt_of_le hsb (Nat.le_trans HBW.out HB.out.size)
      have H9 : Hid (∀ W, Below wr.heap.size wr W → W.cell? ⟨sb, so + k * 16 + 9, none⟩ = some (.slice fa fl.length fc)) := fun W hW => (hW.cell (p := ⟨sb, so + k * 16 + 9, none⟩) hsw).trans hq9
      have HBO : Hid (Below wr.heap.size wr wr) := Below.refl _ _
      clear hrg hrx hfe hfl hlt hkl hxs x9 hsb hsw
      obtain ⟨fn, hfe⟩ : ∃ n, n = fl.length := ⟨_, rfl⟩
      rw [← hfe] at hq9 hfn H9
      have HFL : Hid (fn = fl.length) := hfe
      clear hfe hq9
      go_wp2_with fail
      clear x5 x13
      have HB2 : Hid (Below w.heap.size w wr) := HB
      clear HB
      go_loopw [4] (fun i wq => ∃ j : Nat, j ≤ fn ∧ i = .int .i64 j ∧ Hid (∀ q (hq : q < fl.length), q < j → stV c.wrote fl[q].2.1 fl[q].2.2.1 = true) ∧ Hid (Below w.heap.size w wq) ∧ Hid (Below wr.heap.size wr wq)) (fun i _ => fn - (intOf i).toNat)
      case atStart => exact ⟨0, Nat.zero_le _, rfl, fun q _ hq => absurd hq (Nat.not_lt_zero _), HB2, HBO⟩
      case round =>
        clear HB2 HBO
        rename World => wq0
        obtain ⟨wq, hwq⟩ : ∃ x, x = wq0 := ⟨_, rfl⟩
        rw [← hwq] at hrel ⊢
        clear hwq wq0
        obtain ⟨j, hj, rfl, HQ2, HB, HBO⟩ := hrel
        obtain ⟨x5, x13⟩ := HX.out wq HB.out
        have hq9 := H9.out wq HBO.out
        by_cases hlt : j < fn
        · have hj0 : (0 : Int) ≤ (j : Int) := by omega
          have hjn : (j : Int) < (fn : Int) := by omega
          have hjl : j < fl.length := by rw [← HFL.out]; exact hlt
          have HJL : Hid (j < fl.length) := hjl
          obtain ⟨fb, fo, ys, rfl, hfb, hyl, hrg, hry⟩ := row_at (HFR.out wq HBO.out) j hjl
          replace hrg : wq.rangeAt fb (fo + j * 5) ys := hrg
          obtain ⟨Y, rfl⟩ : ∃ Y : Array Value, ys = Y.toList := ⟨ys.toArray, rfl⟩
          obtain ⟨ff, hff⟩ : ∃ ff : DFlight, ff = fl[j]'hjl := ⟨_, rfl⟩
          replace hry : shFlight.Rd wq B ff Y.toList := by rw [hff]; exact hry
          obtain ⟨la, lc, y1, y2, hld⟩ := fl_ld hry
          have hYz : Y.size = 5 := rd_size hry
          have HYZ : Hid (Y.size = 5) := hYz
          have HYI : Hid ((Tryz.prog.info? 108).map (·.size) = some Y.size) := by show _ = _; rw [hYz]; exact (by kernel_rfl : (Tryz.prog.info? 108).map (·.size) = some 5)
          have HYJ : Hid ((Tryz.prog.info? 108).map (·.size) = some Y.toList.length) := by show _ = _; rw [Array.length_toList]; exact HYI.out
          have HYO : Hid (Y.all (·.oneCell') = true) := rd_all hry
          have HRG : Hid (wq.rangeAt fb (fo + j * 5) Y.toList) := hrg
          obtain ⟨o1, o2, o3⟩ : 0 ≤ ff.2.1 ∧ ff.2.1 + (ff.2.2.1.length : Int) ≤ 400 ∧ 0 < ff.2.2.1.length := by subst hff; exact HFO.out j hjl
          obtain ⟨dt, hdt⟩ : ∃ x, x = ff.2.1 := ⟨_, rfl⟩
          obtain ⟨ld, hldd⟩ : ∃ x, x = ff.2.2.1 := ⟨_, rfl⟩
          rw [← hdt] at y1 o1 o2
          rw [← hldd] at y2 hld o2 o3
          have HRL : Hid (∀ W, Below wq.heap.size wq W → RB W la ld) := fun W hW => by
            obtain ⟨_, _, e1, q2, -, -⟩ := rd_bytes (hld.below (Nat.le_trans HBW.out HB.out.size) hW)
            simp only [List.cons.injEq, Value.slice.injEq, and_true, true_and] at e1
            obtain ⟨rfl, rfl⟩ := e1
            exact q2
          have HFN2 : Hid (stV c.wrote dt ld = false → fliV c = false) := fun h => HFN.out j hjl (by subst hdt; subst hldd; subst hff; exact h)
          have HQ3 : Hid (stV c.wrote dt ld = true → ∀ q (hq : q < fl.length), q < j + 1 → stV c.wrote fl[q].2.1 fl[q].2.2.1 = true) := fun h q hq hl => (Nat.lt_or_eq_of_le (Nat.le_of_lt_succ hl)).elim (fun h' => HQ2.out q hq h') (fun h' => by subst h'; subst hdt; subst hldd; subst hff; exact h)
          have HBO2 : Hid (Below wq.heap.size wq wq) := Below.refl _ _
          clear hrg hry hYz hyl hld hdt hldd hff hlt hjl HQ2 hfb
          obtain ⟨m, rfl⟩ : ∃ m : Nat, dt = (m : Int) := ⟨dt.toNat, by omega⟩
          obtain ⟨ln, hln⟩ : ∃ n, n = ld.length := ⟨_, rfl⟩
          rw [← hln] at y2 o2 o3
          have HLN : Hid (ln = ld.length) := hln
          have h64 : IntKind.i64.wrap ((m : Int) + (ln : Int)) = (m : Int) + (ln : Int) := by simp only [IntKind.wrap, IntKind.bits, IntKind.signed]; simp; omega
          clear hln o1
          have HTH : Hid ((wq.alloc (.cells #[.int .i64 0, .int .i64 0, .slice none 0 0, .int .i64 0, .int .i64 0] 108)).there wq.heap.size 0 Y.size) := bx_there (bx_al _ _ _) (fx_al _ _ _) (by rw [HYZ.out]; rfl)
          have HWN : Hid (Below wq.heap.size wq ((wq.alloc (.cells #[.int .i64 0, .int .i64 0, .slice none 0 0, .int .i64 0, .int .i64 0] 108)).setCells wq.heap.size 0 Y.toList) ∧ wq.heap.size < ((wq.alloc (.cells #[.int .i64 0, .int .i64 0, .slice none 0 0, .int .i64 0, .int .i64 0] 108)).setCells wq.heap.size 0 Y.toList).heap.size ∧ (∀ o, ((wq.alloc (.cells #[.int .i64 0, .int .i64 0, .slice none 0 0, .int .i64 0, .int .i64 0] 108)).setCells wq.heap.size 0 Y.toList).cell? ⟨wq.heap.size, o, none⟩ = Y[o]?) ∧ (∀ o, ((wq.alloc (.cells #[.int .i64 0, .int .i64 0, .slice none 0 0, .int .i64 0, .int .i64 0] 108)).setCells wq.heap.size 0 Y.toList).frozen? ⟨wq.heap.size, o, none⟩ = false)) := ⟨setCells_below (Nat.le_refl _) _ _ _ _ ((Below.refl _ _).alloc (Nat.le_refl _) _), by rw [setCells_size]; simp, bx_setCells (bx_al wq _ _) (by rw [HYZ.out]; rfl), fx_sets (fx_al _ _ _)⟩
          go_upto_region 8 with (first | (refine wpList_load_mid rfl 108 _ rfl _ _ (by rfl) Y.toList _ HRG.out Tryz.underlying108 rfl HYJ.out ?_) | (refine wpList_store_mid rfl 108 _ _ rfl _ _ Y (by rfl) (by rfl) HTH.out HYI.out HYO.out ?_))
          generalize hWW : ((wq.alloc (.cells #[.int .i64 0, .int .i64 0, .slice none 0 0, .int .i64 0, .int .i64 0] 108)).setCells wq.heap.size 0 Y.toList) = W3 at HWN ⊢
          clear hWW HTH
          obtain ⟨hb, zY, kY, fY⟩ := HWN.out
          replace HBO : Hid (Below wr.heap.size wr W3) := HBO.out.trans (hb.mono HBO.out.size)
          replace HBO2 : Hid (Below wq.heap.size wq W3) := hb
          clear HWN
          obtain ⟨bY, hq⟩ : ∃ q, q = wq.heap.size := ⟨_, rfl⟩
          rw [← hq] at zY kY fY ⊢
          have lwY : w.heap.size ≤ bY := by rw [hq]; exact HB.out.size
          clear hq
          replace HB : Hid (Below w.heap.size w W3) := HB.out.trans (hb.mono HB.out.size)
          clear hb
          clear fY HYZ HYI HYJ HYO HRG lwY x13 hq9
          replace x5 := (HX.out W3 HB.out).1
          by_cases hle : m + ln ≤ wl
          case neg =>
            have HR' : Hid (R = false) := by show _ = _; rw [HR.out]; refine HFN2.out ?_; unfold stV; rw [decide_eq_false]; intro hh; have := hh.1; rw [← HLN.out, ← HWL.out] at this; omega
            have g1 : decide ((wl : Int) < (m : Int) + (ln : Int)) = true := decide_eq_true (by omega)
            have g2 : decide (wl < m + ln) = true := decide_eq_true (by omega)
            clear hle HFN2 HQ3 HR HRL
            go_upto_region 9 with fail
            go_quiet (fail)
            have HBn := fun N => below_drewN HB.out N
            have HBm := fun N => below_drewN HBO.out N
            clear HB HBO
            go_wp2_with fail
            go_ret
            exact ⟨ret_bool (by rw [HR'.out]), HBn _⟩
          rcases (HWR.out W3 HB.out).mem with he | ⟨wb, wo, rfl, -⟩
          · rw [HWL.out, he] at hle; simp at hle; omega
          have g1 : decide ((wl : Int) < (m : Int) + (ln : Int)) = false := decide_eq_false (by omega)
          have g2 : decide (wl < m + ln) = false := decide_eq_false (by omega)
          have i1 : (m : Int) ≤ (m : Int) + (ln : Int) := by omega
          have i2 : (m : Int) + (ln : Int) ≤ (q5 : Int) := by have := HCP.out.1; omega
          have i3 : m + ln - m = ln := by omega
          have i4 : (0 : Int) ≤ (m : Int) := by omega
          obtain ⟨S1, hS1⟩ : ∃ S, S = strOfNums ((c.wrote.drop m).take ln) := ⟨_, rfl⟩
          obtain ⟨S2, hS2⟩ : ∃ S, S = strOfNums ld := ⟨_, rfl⟩
          have hrs := (HWR.out W3 HB.out).sub m ln (by rw [← HWL.out]; exact hle)
          have hrl := HRL.out W3 HBO2.out
          have cv1 : ∀ N C, (convert 41 9 (.slice (some ⟨wb, wo + m, none⟩) ln C)).run Tryz.prog (W3.drewN N) = .ok (.string S1) (W3.drewN N) := fun N C => by rw [hS1]; exact cv_str _ ln C _ _ (by simp; rw [← HWL.out]; omega) (hrs.below (Nat.le_refl _) (below_drewN (Below.refl _ _) N))
          have cv2 : ∀ N, (convert 41 9 (.slice la ln lc)).run Tryz.prog (W3.drewN N) = .ok (.string S2) (W3.drewN N) := fun N => by rw [hS2]; exact cv_str la ln lc _ _ HLN.out.symm (hrl.below (Nat.le_refl _) (below_drewN (Below.refl _ _) N))
          have HEQ : Hid ((S1.toList == S2.toList) = stV c.wrote (m : Int) ld) := by
            show _ = _
            rw [hS1, hS2]
            refine (eqS_iff hrs.bd hrl.bd).trans ?_
            unfold stV
            rw [Int.toNat_natCast, ← HLN.out, ← HWL.out]
            exact decide_eq_decide.2 ⟨fun h => ⟨by omega, h⟩, fun h => h.2⟩
          clear hS1 hS2 hrs hrl HRL hle
          cases hst : (S1.toList == S2.toList) with
          | false =>
            have HR' : Hid (R = false) := by show _ = _; rw [HR.out]; exact HFN2.out (HEQ.out.symm.trans hst)
            clear HFN2 HQ3 HR HEQ
            go_upto_region 9 with fail
            go_quiet (fail)
            have HBn := fun N => below_drewN HB.out N
            have HBm := fun N => below_drewN HBO.out N
            clear HB HBO
            go_wp2_with fail
            go_ret
            exact ⟨ret_bool (by rw [HR'.out]), HBn _⟩
          | true =>
            have HQ4 := HQ3.out (HEQ.out.symm.trans hst)
            have HQ5 : Hid _ := HQ4
            clear HFN2 HQ3 HQ4 HEQ
            go_upto_region 9 with fail
            go_quiet (fail)
            have HBn := fun N => below_drewN HB.out N
            have HBm := fun N => below_drewN HBO.out N
            clear HB HBO
            go_wp2_with fail
            go_roundw
            case rel => exact ⟨j + 1, by omega, by go_num, HQ5.out, HBn _, HBm _⟩
            case measure => simp [intOf]; omega
        · obtain rfl : j = fn := by omega
          have HKO : Hid (flOk c.wrote xs = true) := HFY.out fun i hi => HQ2.out i hi (by rw [HFL.out]; exact hi)
          have HQ3 : Hid (∀ q (hq : q < c.subs.length), q < k + 1 → flOk c.wrote c.subs[q] = true) := fun q hq hl => (Nat.lt_or_eq_of_le (Nat.le_of_lt_succ hl)).elim (fun h' => HQ.out q hq h') (fun h' => by subst h'; exact (HXS.out _).symm.trans HKO.out)
          clear HQ HQ2 HKO HFY HFN HFO HFR H9
          go_wp2_with fail
          go_roundw
          case rel => exact ⟨k + 1, by rw [HSN.out]; exact HKL.out, by go_num, HQ3.out, HB⟩
          case measure => simp [intOf]; have := HKL.out; have := HSN.out; omega
    · obtain rfl : k = sn := by omega
      have HR' : Hid (R = true) := by show _ = _; rw [HR.out]; exact HRY.out fun q hq => HQ.out q hq (by rw [HSN.out]; exact hq)
      clear HR HRY HRN HQ
      go_wp2_with fail
      go_ret
      exact ⟨ret_bool (by rw [HR'.out]), HB.out⟩
end Go.Proofs.YtnfkjdcnngoeiabGreat

/- The model's PrefixOf, HeldRight, FlightsRight, KnownRight; nothing that was in memory turns; no condition but that there are at most a million parts. Written by mkaud8.py. -/
namespace Go.Proofs.YtnfkjdcnngoeiabGreat
open Go.RowKit
set_option linter.unusedVariables false
set_option maxRecDepth 8000

theorem sKnownW (x : DWorld) (A : Array Value) (k k' p : Nat) (w : World) (B : Nat) (hr : shWorld.Rd w B x A.toList) (hp : ∀ o, w.cell? ⟨p, o, none⟩ = A[o]?) (hB : B ≤ w.heap.size) (hF : worldF x = 0) (hT : totWorld x ≤ 1048576) (h1 : k + k' = 1) :
    Calls Tryz.prog 30 #[.pointer (some ⟨p, 0, none⟩), .int .i64 k] w fun e w' => e = .returned (.bool (knoV (x.cn k) (x.cn k'))) ∧ Below w.heap.size w w' := by
  obtain ⟨sb, so, sc, na, nc, da, dc, gb, go, gc, eb, eo, ec, h⟩ := wo_all hr hF hT
  rw [h.eA] at hp
  obtain ⟨C, c0, rc⟩ := h.cs k (by omega)
  obtain ⟨O, c1, ro⟩ := h.cs k' (by omega)
  obtain ⟨a5, q5, a9, q9, a10, q10, a13, q13, hC⟩ := cn_all rc
  obtain ⟨b5, p5, b9, p9, b10, p10, b13, p13, hO⟩ := cn_all ro
  rw [hC.eA] at c0
  rw [hO.eA] at c1
  exact sL14Known0 k k' p sb so sc _ _ _ b9 _ p9 w h1 (hp 1) (c0 7 _ rfl) (c0 8 _ rfl) (c1 9 _ rfl) (c1 11 _ rfl)
theorem sHeldW (x : DWorld) (A : Array Value) (k k' p : Nat) (w : World) (B : Nat) (hr : shWorld.Rd w B x A.toList) (hp : ∀ o, w.cell? ⟨p, o, none⟩ = A[o]?) (hB : B ≤ w.heap.size) (hF : worldF x = 0) (hT : totWorld x ≤ 1048576) (h1 : k + k' = 1) :
    Calls Tryz.prog 28 #[.pointer (some ⟨p, 0, none⟩), .int .i64 k] w fun e w' => e = .returned (.bool (heldV (x.cn k) (x.cn k'))) ∧ Below w.heap.size w w' := by
  obtain ⟨sb, so, sc, na, nc, da, dc, gb, go, gc, eb, eo, ec, h⟩ := wo_all hr hF hT
  rw [h.eA] at hp
  obtain ⟨C, c0, rc⟩ := h.cs k (by omega)
  obtain ⟨O, c1, ro⟩ := h.cs k' (by omega)
  obtain ⟨a5, q5, a9, q9, a10, q10, a13, q13, hC⟩ := cn_all rc
  obtain ⟨b5, p5, b9, p9, b10, p10, b13, p13, hO⟩ := cn_all ro
  rw [hC.eA] at c0
  rw [hO.eA] at c1
  have hgf : gtFault (x.cn k).inn = 0 := (conn_ok (h.ok k (by omega))).2.2.2.2.1
  have hfv : fitsV (x.cn k).inn (x.cn k').wrote = fitAll (x.cn k).inn (x.cn k').wrote := by unfold fitsV; rw [if_neg (by simp [hgf])]
  have hsb := Nat.lt_of_lt_of_le h.sl hB
  have hwl := tot_wrote (h.tot k' (by omega))
  unfold heldV
  rw [hfv]
  exact sL14Held0 k k' p sb so sc _ _ _ b5 _ p5 w h1 hsb (hp 1) (c0 11 _ rfl) (c1 5 _ rfl) (c1 6 _ rfl) hwl (fun W hW => sL3FitsO _ _ _ _ b5 p5 sb (so + k * 14 + 9) W B (hC.inn.below hB hW) (hO.wr.below hB hW) (Nat.le_trans hB hW.size) hgf hwl ((hW.cell (p := ⟨sb, so + k * 14 + 9, none⟩) hsb).trans (c0 9 _ rfl)) ((hW.cell (p := ⟨sb, so + k * 14 + 9 + 1, none⟩) hsb).trans (c0 10 _ rfl)) (Nat.lt_of_lt_of_le hsb hW.size))
theorem sPrefixW (x : DWorld) (A : Array Value) (k k' p : Nat) (w : World) (B : Nat) (hr : shWorld.Rd w B x A.toList) (hp : ∀ o, w.cell? ⟨p, o, none⟩ = A[o]?) (hB : B ≤ w.heap.size) (hF : worldF x = 0) (hT : totWorld x ≤ 1048576) (h1 : k + k' = 1) :
    Calls Tryz.prog 27 #[.pointer (some ⟨p, 0, none⟩), .int .i64 k] w fun e w' => e = .returned (.bool (preV (x.cn k') (x.gt k) (x.en k))) ∧ Below w.heap.size w w' := by
  obtain ⟨sb, so, sc, na, nc, da, dc, gb, go, gc, eb, eo, ec, h⟩ := wo_all hr hF hT
  rw [h.eA] at hp
  obtain ⟨C, c0, rc⟩ := h.cs k (by omega)
  obtain ⟨O, c1, ro⟩ := h.cs k' (by omega)
  obtain ⟨a5, q5, a9, q9, a10, q10, a13, q13, hC⟩ := cn_all rc
  obtain ⟨b5, p5, b9, p9, b10, p10, b13, p13, hO⟩ := cn_all ro
  rw [hC.eA] at c0
  rw [hO.eA] at c1
  obtain ⟨gu, gq, cg, rg⟩ := h.gs k (by omega)
  have ce := h.es k (by omega)
  obtain ⟨-, cp1, cp2, -⟩ := rd_cap hO.wr
  have hmg := row_max rg
  obtain ⟨_, _, e1, r1, -, -⟩ := rd_bytes hO.wr
  simp only [List.cons.injEq, Value.slice.injEq, and_true, true_and] at e1
  obtain ⟨rfl, rfl⟩ := e1
  obtain ⟨_, _, e1, r2, -, -⟩ := rd_bytes rg
  simp only [List.cons.injEq, Value.slice.injEq, and_true, true_and] at e1
  obtain ⟨rfl, rfl⟩ := e1
  exact sL14Prefix0 k k' p sb so sc gb go gc eb eo ec _ _ _ _ _ _ _ _ w h1 (hp 1) (hp 4) (hp 5) (c1 5 _ rfl) (c1 6 _ rfl) cg ce r1 r2 cp1 cp2 (by omega)
end Go.Proofs.YtnfkjdcnngoeiabGreat
