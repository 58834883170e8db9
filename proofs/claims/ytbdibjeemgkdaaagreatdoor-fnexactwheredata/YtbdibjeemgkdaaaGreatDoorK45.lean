/- The model's WhereData, and what it and the program's answer; nothing that was in memory turns; no condition but that there are at most a million parts and errors' own variable is as it is laid. Written by mkwhere2.py. -/
import Derived.Test.YtbdibjeemgkdaaaGreatDoorRows
import Derived.Deep.RegionHeld3
import Derived.Deep.DeepCutAuto
import Derived.Deep.DeepMust
import Derived.Deep.CutRange
import Derived.Deep.MidRow
import Derived.Test.YtbdibjeemgkdaaaGreatDoorK01
import Derived.Test.YtbdibjeemgkdaaaGreatDoorK02
import Derived.Test.YtbdibjeemgkdaaaGreatDoorK03
import Derived.Test.YtbdibjeemgkdaaaGreatDoorK04
import Derived.Test.YtbdibjeemgkdaaaGreatDoorK05
import Derived.Test.YtbdibjeemgkdaaaGreatDoorK06
import Derived.Test.YtbdibjeemgkdaaaGreatDoorK09
import Derived.Test.YtbdibjeemgkdaaaGreatDoorK10
import Derived.Test.YtbdibjeemgkdaaaGreatDoorK11
import Derived.Test.YtbdibjeemgkdaaaGreatDoorK12
import Derived.Test.YtbdibjeemgkdaaaGreatDoorK13
import Derived.Test.YtbdibjeemgkdaaaGreatDoorK14
import Derived.Test.YtbdibjeemgkdaaaGreatDoorK15
import Derived.Test.YtbdibjeemgkdaaaGreatDoorK16
import Derived.Test.YtbdibjeemgkdaaaGreatDoorK17
import Derived.Test.YtbdibjeemgkdaaaGreatDoorK20
import Derived.Test.YtbdibjeemgkdaaaGreatDoorK21
import Derived.Test.YtbdibjeemgkdaaaGreatDoorK25
import Derived.Test.YtbdibjeemgkdaaaGreatDoorK39
import Derived.Test.YtbdibjeemgkdaaaGreatDoorK43
import Derived.Test.YtbdibjeemgkdaaaGreatDoorK44
namespace Go.Proofs.YtbdibjeemgkdaaaGreatDoor
open Go.RowKit
set_option linter.unusedVariables false
set_option maxRecDepth 8000

set_option maxHeartbeats 8000000 in
theorem sL10Where0 (cb of sb so : Nat) (SG : Array Value) (pl : Bool) (c0 c1 sq op a b uC uV SU : Int) (la : Option Addr) (ln lc : Nat) (a13 : Option Addr) (n c13 : Nat) (w : World) (hcb : cb < w.heap.size) (hsb : sb < w.heap.size) (x3 : w.cell? ⟨cb, of + 3, none⟩ = some (.bool pl)) (x13 : w.cell? ⟨cb, of + 13, none⟩ = some (.slice a13 n c13)) (s10 : w.cell? ⟨sb, so + 10, none⟩ = some (.int .i64 c0)) (s11 : w.cell? ⟨sb, so + 11, none⟩ = some (.int .i64 c1)) (g5 : SG[5]? = some (.int .i64 sq)) (g8 : SG[8]? = some (.int .i64 op)) (g9 : SG[9]? = some (.int .i64 a)) (g10 : SG[10]? = some (.int .i64 b)) (g11 : SG[11]? = some (.slice la ln lc)) (hn : n ≤ 1048576) (ha : 0 ≤ a ∧ a ≤ 1000000000) (hd : -1000000 ≤ sq - c0 ∧ sq - c0 ≤ 1000000) (hU : ∀ W, Below w.heap.size w W → Calls Tryz.prog 85 #[.int .i64 (a / 1000), .slice la ln lc] W fun e w' => e = .returned (.int .i64 SU) ∧ Below W.heap.size W w') (hUN : ∀ W, Calls Tryz.prog 84 #[.int .i64 (sq - c0), .int .i64 c1] W fun e w' => e = .returned (.agg #[.int .i64 uC, .int .i64 uV]) ∧ Below W.heap.size W w') :
    Calls Tryz.prog 48 #[.pointer (some ⟨cb, of, none⟩), .pointer (some ⟨sb, so, none⟩), .agg SG] w fun e w' => e = .returned (.tuple (if uC = 0 then (if pl = true then #[.int .i64 uV, .int .i64 0] else if op = 4 then (if b = SU then #[.int .i64 (a / 1000), .int .i64 0] else #[.int .i64 0, .int .i64 6]) else if n = 1 then #[.int .i64 uV, .int .i64 0] else #[.int .i64 0, .int .i64 10]) else #[.int .i64 0, .int .i64 4])) ∧ Below w.heap.size w w' := by
  have HU : Hid _ := hU
  have HUN : Hid _ := hUN
  clear hU hUN
  have hq1 : a.tdiv 1000 = a / 1000 := Int.tdiv_eq_ediv_of_nonneg ha.1
  have hq2 : IntKind.i64.wrap (a / 1000) = a / 1000 := by simp only [IntKind.wrap, IntKind.bits, IntKind.signed]; simp; omega
  have hq3 : IntKind.i64.wrap (a.tdiv 1000) = a / 1000 := by rw [hq1]; exact hq2
  have hw64 : IntKind.i64.wrap (sq - c0) = sq - c0 := by simp only [IntKind.wrap, IntKind.bits, IntKind.signed]; simp; omega
  obtain ⟨R, hR⟩ : ∃ R : Array Value, R = (if uC = 0 then (if pl = true then #[.int .i64 uV, .int .i64 0] else if op = 4 then (if b = SU then #[.int .i64 (a / 1000), .int .i64 0] else #[.int .i64 0, .int .i64 6]) else if n = 1 then #[.int .i64 uV, .int .i64 0] else #[.int .i64 0, .int .i64 10]) else #[.int .i64 0, .int .i64 4]) := ⟨_, rfl⟩
  rw [← hR]
  have HR : Hid _ := hR
  clear hR
  obtain ⟨Q, hQ⟩ : ∃ Q : Array Value, Q = #[.int .i64 uC, .int .i64 uV] := ⟨_, rfl⟩
  have HQE : Hid _ := hQ
  have HQZ : Hid (Q.size = 2) := by show _ = _; rw [hQ]; rfl
  have HIQ : Hid ((Tryz.prog.info? 53).map (·.size) = some Q.size) := by show _ = _; rw [HQZ.out]; exact info_IntR
  have HONQ : Hid (Q.all (·.oneCell') = true) := by show _ = _; rw [hQ]; simp [Value.oneCell']
  clear hQ
  have HWA : Hid (Below w.heap.size w (w.alloc (.cells SG 55)) ∧ (w.alloc (.cells SG 55)).heap.size = w.heap.size + 1 ∧ (∀ o, (w.alloc (.cells SG 55)).cell? ⟨w.heap.size, o, none⟩ = (SG : Array Value)[o]?)) := ⟨((Below.refl _ _).alloc (Nat.le_refl _) _), by simp, fun o => by simp [go_sem]⟩
  go_enter Tryz.func48, Tryz.ntmps48
  go_upto_region 1 with fail
  generalize hWW : (w.alloc (.cells SG 55)) = W1 at HWA ⊢
  clear hWW
  obtain ⟨hb, hsz, kS⟩ := HWA.out
  clear HWA
  have HB : Hid (Below w.heap.size w W1) := hb
  have zS : w.heap.size < W1.heap.size := by omega
  clear hb hsz
  have HB0 : Hid (Below w.heap.size w W1) := HB.out
  have kS0 := kS
  have zS0 := zS
  go_cut [8] (fun u wx => ∃ p, u = .pointer (some ⟨p, 0, none⟩) ∧ Hid (Below w.heap.size w wx ∧ (∀ o, wx.cell? ⟨w.heap.size, o, none⟩ = SG[o]?) ∧ w.heap.size < p ∧ p < wx.heap.size ∧ (∀ o, wx.cell? ⟨p, o, none⟩ = Q[o]?)))
  case first =>
    refine wp_region_noPanic ?_
    refine Goes.start (S := fun w' => Below W1.heap.size W1 w') (z := 15) (by kernel_rfl) ?_
    have hb : Below W1.heap.size W1 W1.drew := Below.drew (Below.refl _ _)
    generalize hWW : W1.drew = W2 at hb ⊢
    clear hWW
    have HS0 : Hid (Below W1.heap.size W1 W2) := hb
    replace kS := bx_below kS zS hb
    replace zS := Nat.lt_of_lt_of_le zS hb.size
    replace HB : Hid (Below w.heap.size w W2) := HB.out.trans (hb.mono HB.out.size)
    clear hb
    refine Goes.take (i := 0) (oi := ?oi11) (x := ?vx11) ?ho11 (by kernel_rfl) (by kernel_rfl) (by kernel_rfl) (by kernel_rfl) (fun _ _ _ h => h) (Or.inl ⟨?hw11, ?hy11⟩) HS0.out ?rest11
    case ho11 => (simp only [List.getElem?_toArray, List.getElem?_cons_zero] <;> rfl)
    case hw11 => rfl
    case hy11 => (intro w' hSw; have jS := fun o => (hSw.cell (p := ⟨w.heap.size, o, none⟩) zS0).trans (kS0 o); have j10 := ((HB0.out.trans (hSw.mono HB0.out.size)).cell (p := ⟨sb, so + 10, none⟩) hsb).trans s10; have j11 := ((HB0.out.trans (hSw.mono HB0.out.size)).cell (p := ⟨sb, so + 11, none⟩) hsb).trans s11; go_simp; (try with_reducible rfl))
    case rest11 =>
    (try simp only [Act.put, List.setIfInBounds_toArray, List.set_cons_zero, List.set_cons_succ])
    refine Goes.take (i := 1) (oi := ?oi12) (x := ?vx12) ?ho12 (by kernel_rfl) (by kernel_rfl) (by kernel_rfl) (by kernel_rfl) (fun _ _ _ h => h) (Or.inl ⟨?hw12, ?hy12⟩) HS0.out ?rest12
    case ho12 => (simp only [List.getElem?_toArray, List.getElem?_cons_succ, List.getElem?_cons_zero] <;> rfl)
    case hw12 => rfl
    case hy12 => (intro w' hSw; have jS := fun o => (hSw.cell (p := ⟨w.heap.size, o, none⟩) zS0).trans (kS0 o); have j10 := ((HB0.out.trans (hSw.mono HB0.out.size)).cell (p := ⟨sb, so + 10, none⟩) hsb).trans s10; have j11 := ((HB0.out.trans (hSw.mono HB0.out.size)).cell (p := ⟨sb, so + 11, none⟩) hsb).trans s11; go_simp; (try with_reducible rfl))
    case rest12 =>
    (try simp only [Act.put, List.setIfInBounds_toArray, List.set_cons_zero, List.set_cons_succ])
    refine Goes.take (i := 2) (oi := ?oi13) (x := ?vx13) ?ho13 (by kernel_rfl) (by kernel_rfl) (by kernel_rfl) (by kernel_rfl) (fun _ _ _ h => h) (Or.inl ⟨?hw13, ?hy13⟩) HS0.out ?rest13
    case ho13 => (simp only [List.getElem?_toArray, List.getElem?_cons_succ, List.getElem?_cons_zero] <;> rfl)
    case hw13 => rfl
    case hy13 => (intro w' hSw; have jS := fun o => (hSw.cell (p := ⟨w.heap.size, o, none⟩) zS0).trans (kS0 o); have j10 := ((HB0.out.trans (hSw.mono HB0.out.size)).cell (p := ⟨sb, so + 10, none⟩) hsb).trans s10; have j11 := ((HB0.out.trans (hSw.mono HB0.out.size)).cell (p := ⟨sb, so + 11, none⟩) hsb).trans s11; go_simp; (try with_reducible rfl))
    case rest13 =>
    (try simp only [Act.put, List.setIfInBounds_toArray, List.set_cons_zero, List.set_cons_succ])
    refine Goes.take (i := 3) (oi := ?oi14) (x := ?vx14) ?ho14 (by kernel_rfl) (by kernel_rfl) (by kernel_rfl) (by kernel_rfl) (fun _ _ _ h => h) (Or.inl ⟨?hw14, ?hy14⟩) HS0.out ?rest14
    case ho14 => (simp only [List.getElem?_toArray, List.getElem?_cons_succ, List.getElem?_cons_zero] <;> rfl)
    case hw14 => rfl
    case hy14 => (intro w' hSw; have jS := fun o => (hSw.cell (p := ⟨w.heap.size, o, none⟩) zS0).trans (kS0 o); have j10 := ((HB0.out.trans (hSw.mono HB0.out.size)).cell (p := ⟨sb, so + 10, none⟩) hsb).trans s10; have j11 := ((HB0.out.trans (hSw.mono HB0.out.size)).cell (p := ⟨sb, so + 11, none⟩) hsb).trans s11; go_simp; (try with_reducible rfl))
    case rest14 =>
    (try simp only [Act.put, List.setIfInBounds_toArray, List.set_cons_zero, List.set_cons_succ])
    refine Goes.take (i := 4) (oi := ?oi15) (x := ?vx15) ?ho15 (by kernel_rfl) (by kernel_rfl) (by kernel_rfl) (by kernel_rfl) (fun _ _ _ h => h) (Or.inl ⟨?hw15, ?hy15⟩) HS0.out ?rest15
    case ho15 => (simp only [List.getElem?_toArray, List.getElem?_cons_succ, List.getElem?_cons_zero] <;> rfl)
    case hw15 => rfl
    case hy15 => (intro w' hSw; have jS := fun o => (hSw.cell (p := ⟨w.heap.size, o, none⟩) zS0).trans (kS0 o); have j10 := ((HB0.out.trans (hSw.mono HB0.out.size)).cell (p := ⟨sb, so + 10, none⟩) hsb).trans s10; have j11 := ((HB0.out.trans (hSw.mono HB0.out.size)).cell (p := ⟨sb, so + 11, none⟩) hsb).trans s11; go_simp; (try with_reducible rfl))
    case rest15 =>
    (try simp only [Act.put, List.setIfInBounds_toArray, List.set_cons_zero, List.set_cons_succ])
    refine Goes.take (i := 5) (oi := ?oi16) (x := ?vx16) ?ho16 (by kernel_rfl) (by kernel_rfl) (by kernel_rfl) (by kernel_rfl) (fun _ _ _ h => h) (Or.inl ⟨?hw16, ?hy16⟩) HS0.out ?rest16
    case ho16 => (simp only [List.getElem?_toArray, List.getElem?_cons_succ, List.getElem?_cons_zero] <;> rfl)
    case hw16 => rfl
    case hy16 => (intro w' hSw; have jS := fun o => (hSw.cell (p := ⟨w.heap.size, o, none⟩) zS0).trans (kS0 o); have j10 := ((HB0.out.trans (hSw.mono HB0.out.size)).cell (p := ⟨sb, so + 10, none⟩) hsb).trans s10; have j11 := ((HB0.out.trans (hSw.mono HB0.out.size)).cell (p := ⟨sb, so + 11, none⟩) hsb).trans s11; go_simp; (try with_reducible rfl))
    case rest16 =>
    (try simp only [Act.put, List.setIfInBounds_toArray, List.set_cons_zero, List.set_cons_succ])
    refine Goes.take (i := 6) (oi := ?oi17) (x := ?vx17) ?ho17 (by kernel_rfl) (by kernel_rfl) (by kernel_rfl) (by kernel_rfl) (fun _ _ _ h => h) (Or.inl ⟨?hw17, ?hy17⟩) HS0.out ?rest17
    case ho17 => (simp only [List.getElem?_toArray, List.getElem?_cons_succ, List.getElem?_cons_zero] <;> rfl)
    case hw17 => rfl
    case hy17 => (intro w' hSw; have jS := fun o => (hSw.cell (p := ⟨w.heap.size, o, none⟩) zS0).trans (kS0 o); have j10 := ((HB0.out.trans (hSw.mono HB0.out.size)).cell (p := ⟨sb, so + 10, none⟩) hsb).trans s10; have j11 := ((HB0.out.trans (hSw.mono HB0.out.size)).cell (p := ⟨sb, so + 11, none⟩) hsb).trans s11; go_simp; (try with_reducible rfl))
    case rest17 =>
    (try simp only [Act.put, List.setIfInBounds_toArray, List.set_cons_zero, List.set_cons_succ])
    refine Goes.take (i := 7) (oi := ?oi18) (x := ?vx18) ?ho18 (by kernel_rfl) (by kernel_rfl) (by kernel_rfl) (by kernel_rfl) (fun _ _ _ h => h) (Or.inl ⟨?hw18, ?hy18⟩) HS0.out ?rest18
    case ho18 => (simp only [List.getElem?_toArray, List.getElem?_cons_succ, List.getElem?_cons_zero] <;> rfl)
    case hw18 => rfl
    case hy18 => (intro w' hSw; have jS := fun o => (hSw.cell (p := ⟨w.heap.size, o, none⟩) zS0).trans (kS0 o); have j10 := ((HB0.out.trans (hSw.mono HB0.out.size)).cell (p := ⟨sb, so + 10, none⟩) hsb).trans s10; have j11 := ((HB0.out.trans (hSw.mono HB0.out.size)).cell (p := ⟨sb, so + 11, none⟩) hsb).trans s11; go_simp; (try with_reducible rfl))
    case rest18 =>
    (try simp only [Act.put, List.setIfInBounds_toArray, List.set_cons_zero, List.set_cons_succ])
    refine Goes.take (i := 8) (oi := ?oi19) (x := ?vx19) ?ho19 (by kernel_rfl) (by kernel_rfl) (by kernel_rfl) (by kernel_rfl) (fun _ _ _ h => h) (Or.inl ⟨?hw19, ?hy19⟩) HS0.out ?rest19
    case ho19 => (simp only [List.getElem?_toArray, List.getElem?_cons_succ, List.getElem?_cons_zero] <;> rfl)
    case hw19 => rfl
    case hy19 => (intro w' hSw; have jS := fun o => (hSw.cell (p := ⟨w.heap.size, o, none⟩) zS0).trans (kS0 o); have j10 := ((HB0.out.trans (hSw.mono HB0.out.size)).cell (p := ⟨sb, so + 10, none⟩) hsb).trans s10; have j11 := ((HB0.out.trans (hSw.mono HB0.out.size)).cell (p := ⟨sb, so + 11, none⟩) hsb).trans s11; go_simp; (try with_reducible rfl))
    case rest19 =>
    (try simp only [Act.put, List.setIfInBounds_toArray, List.set_cons_zero, List.set_cons_succ])
    refine Goes.take (i := 9) (oi := ?oi20) (x := ?vx20) ?ho20 (by kernel_rfl) (by kernel_rfl) (by kernel_rfl) (by kernel_rfl) (fun _ _ _ h => h) (Or.inl ⟨?hw20, ?hy20⟩) HS0.out ?rest20
    case ho20 => (simp only [List.getElem?_toArray, List.getElem?_cons_succ, List.getElem?_cons_zero] <;> rfl)
    case hw20 => rfl
    case hy20 => (intro w' hSw; have jS := fun o => (hSw.cell (p := ⟨w.heap.size, o, none⟩) zS0).trans (kS0 o); have j10 := ((HB0.out.trans (hSw.mono HB0.out.size)).cell (p := ⟨sb, so + 10, none⟩) hsb).trans s10; have j11 := ((HB0.out.trans (hSw.mono HB0.out.size)).cell (p := ⟨sb, so + 11, none⟩) hsb).trans s11; go_simp; (try with_reducible rfl))
    case rest20 =>
    (try simp only [Act.put, List.setIfInBounds_toArray, List.set_cons_zero, List.set_cons_succ])
    refine Goes.take (i := 10) (oi := ?oi21) (x := ?vx21) ?ho21 (by kernel_rfl) (by kernel_rfl) (by kernel_rfl) (by kernel_rfl) (fun _ _ _ h => h) (Or.inl ⟨?hw21, ?hy21⟩) HS0.out ?rest21
    case ho21 => (simp only [List.getElem?_toArray, List.getElem?_cons_succ, List.getElem?_cons_zero] <;> rfl)
    case hw21 => rfl
    case hy21 => (intro w' hSw; have jS := fun o => (hSw.cell (p := ⟨w.heap.size, o, none⟩) zS0).trans (kS0 o); have j10 := ((HB0.out.trans (hSw.mono HB0.out.size)).cell (p := ⟨sb, so + 10, none⟩) hsb).trans s10; have j11 := ((HB0.out.trans (hSw.mono HB0.out.size)).cell (p := ⟨sb, so + 11, none⟩) hsb).trans s11; go_simp; (try with_reducible rfl))
    case rest21 =>
    (try simp only [Act.put, List.setIfInBounds_toArray, List.set_cons_zero, List.set_cons_succ])
    refine Goes.take (i := 11) (oi := ?oi22) (x := ?vx22) ?ho22 (by kernel_rfl) (by kernel_rfl) (by kernel_rfl) (by kernel_rfl) (fun _ _ _ h => h) (Or.inl ⟨?hw22, ?hy22⟩) HS0.out ?rest22
    case ho22 => (simp only [List.getElem?_toArray, List.getElem?_cons_succ, List.getElem?_cons_zero] <;> rfl)
    case hw22 => rfl
    case hy22 => (intro w' hSw; have jS := fun o => (hSw.cell (p := ⟨w.heap.size, o, none⟩) zS0).trans (kS0 o); have j10 := ((HB0.out.trans (hSw.mono HB0.out.size)).cell (p := ⟨sb, so + 10, none⟩) hsb).trans s10; have j11 := ((HB0.out.trans (hSw.mono HB0.out.size)).cell (p := ⟨sb, so + 11, none⟩) hsb).trans s11; go_simp; (try with_reducible rfl))
    case rest22 =>
    (try simp only [Act.put, List.setIfInBounds_toArray, List.set_cons_zero, List.set_cons_succ])
    refine Goes.take (i := 12) (oi := ?oi23) (x := ?vx23) ?ho23 (by kernel_rfl) (by kernel_rfl) (by kernel_rfl) (by kernel_rfl) (fun _ _ _ h => h) (Or.inl ⟨?hw23, ?hy23⟩) HS0.out ?rest23
    case ho23 => (simp only [List.getElem?_toArray, List.getElem?_cons_succ, List.getElem?_cons_zero] <;> rfl)
    case hw23 => rfl
    case hy23 => (intro w' hSw; have jS := fun o => (hSw.cell (p := ⟨w.heap.size, o, none⟩) zS0).trans (kS0 o); have j10 := ((HB0.out.trans (hSw.mono HB0.out.size)).cell (p := ⟨sb, so + 10, none⟩) hsb).trans s10; have j11 := ((HB0.out.trans (hSw.mono HB0.out.size)).cell (p := ⟨sb, so + 11, none⟩) hsb).trans s11; go_simp; (try with_reducible rfl))
    case rest23 =>
    (try simp only [Act.put, List.setIfInBounds_toArray, List.set_cons_zero, List.set_cons_succ])
    refine Goes.all (rs := [13, 14]) (by kernel_rfl) (by simp) ?_
    refine Ups.cons (i := 13) (o := ?oo24) ?ho24 (fun KK hKK => ?stp24) (Ups.cons (i := 14) (o := ?oo25) ?ho25 (fun KK hKK => ?stp25) Ups.nil)
    case ho24 => (simp only [List.getElem?_toArray, List.getElem?_cons_succ, List.getElem?_cons_zero] <;> rfl)
    case ho25 => (simp only [List.getElem?_toArray, List.getElem?_cons_succ, List.getElem?_cons_zero] <;> rfl)
    case stp24 =>
      go_simp
      go_at_call 84
      refine (HUN.out _).mono ?_
      rintro e V1 ⟨rfl, hb⟩
      have HSV1 : Hid (Below W1.heap.size W1 V1) := HS0.out.trans (hb.mono HS0.out.size)
      replace kS := bx_below kS zS hb
      replace zS := Nat.lt_of_lt_of_le zS hb.size
      replace HB : Hid (Below w.heap.size w V1) := HB.out.trans (hb.mono HB.out.size)
      clear hb
      dsimp only
      refine hKK.out _ _ (Or.inr HSV1.out) ?_
      clear hKK KK
      (try simp only [Act.put, List.setIfInBounds_toArray, List.set_cons_zero, List.set_cons_succ])
      refine Goes.all (rs := [14]) (by kernel_rfl) (by simp) ?_
      refine Ups.cons (i := 14) (o := ?oo61) ?ho61 (fun KK hKK => ?stp61) Ups.nil
      case ho61 => (simp only [List.getElem?_toArray, List.getElem?_cons_succ, List.getElem?_cons_zero] <;> rfl)
      case stp61 =>
      go_simp
      have hb : Below V1.heap.size V1 (V1.alloc (.cells #[.int .i64 0, .int .i64 0] 53)) := (Below.refl _ _).alloc (Nat.le_refl _) _
      have HSV2 : Hid (Below W1.heap.size W1 (V1.alloc (.cells #[.int .i64 0, .int .i64 0] 53))) := HSV1.out.trans (hb.mono HSV1.out.size)
      refine hKK.out _ _ (Or.inr HSV2.out) ?_
      clear hKK KK
      (try simp only [Act.put, List.setIfInBounds_toArray, List.set_cons_zero, List.set_cons_succ])
      have kP : ∀ o, (V1.alloc (.cells #[.int .i64 0, .int .i64 0] 53)).cell? ⟨V1.heap.size, o, none⟩ = (#[.int .i64 0, .int .i64 0] : Array Value)[o]? := bx_al V1 _ _
      have fP : ∀ o, (V1.alloc (.cells #[.int .i64 0, .int .i64 0] 53)).frozen? ⟨V1.heap.size, o, none⟩ = false := fx_al V1 _ _
      have zP : V1.heap.size < (V1.alloc (.cells #[.int .i64 0, .int .i64 0] 53)).heap.size := by simp
      generalize hWW : (V1.alloc (.cells #[.int .i64 0, .int .i64 0] 53)) = V2 at hb kP fP zP HSV2 ⊢
      clear hWW
      obtain ⟨bP, hq⟩ : ∃ q, q = V1.heap.size := ⟨_, rfl⟩
      rw [← hq] at kP fP zP ⊢
      have lSP : w.heap.size < bP := by rw [hq]; exact zS
      clear hq
      replace kS := bx_below kS zS hb
      replace zS := Nat.lt_of_lt_of_le zS hb.size
      replace HB : Hid (Below w.heap.size w V2) := HB.out.trans (hb.mono HB.out.size)
      clear hb
      refine Goes.all (rs := [15]) (by kernel_rfl) (by simp) ?_
      refine Ups.cons (i := 15) (o := ?oo62) ?ho62 (fun KK hKK => ?stp62) Ups.nil
      case ho62 => (simp only [List.getElem?_toArray, List.getElem?_cons_succ, List.getElem?_cons_zero] <;> rfl)
      case stp62 =>
      rw [if_pos (by rfl)]
      refine wp_store_mid 53 _ _ rfl _ _ Q (by rfl) (by rw [HQE.out]; rfl) (bx_there kP fP (by rw [HQZ.out]; rfl)) HIQ.out HONQ.out ?_
      refine hKK.out _ _ (Or.inl rfl) ?_
      clear hKK KK
      (try simp only [Act.put])
      refine Goes.done (by kernel_rfl) ?_ _
      refine NoPanic.normal ?_
      go_wp2_with fail
      go_meet
      exact ⟨bP, rfl, ⟨setCells_below (by omega) _ _ _ _ HB.out, bx_setOff kS (by omega), lSP, by rw [setCells_size]; exact zP, bx_setCells kP (by rw [HQZ.out]; rfl)⟩⟩
    case stp25 =>
      go_simp
      have hb : Below W2.heap.size W2 (W2.alloc (.cells #[.int .i64 0, .int .i64 0] 53)) := (Below.refl _ _).alloc (Nat.le_refl _) _
      have HSV3 : Hid (Below W1.heap.size W1 (W2.alloc (.cells #[.int .i64 0, .int .i64 0] 53))) := HS0.out.trans (hb.mono HS0.out.size)
      refine hKK.out _ _ (Or.inr HSV3.out) ?_
      clear hKK KK
      (try simp only [Act.put, List.setIfInBounds_toArray, List.set_cons_zero, List.set_cons_succ])
      have kP : ∀ o, (W2.alloc (.cells #[.int .i64 0, .int .i64 0] 53)).cell? ⟨W2.heap.size, o, none⟩ = (#[.int .i64 0, .int .i64 0] : Array Value)[o]? := bx_al W2 _ _
      have fP : ∀ o, (W2.alloc (.cells #[.int .i64 0, .int .i64 0] 53)).frozen? ⟨W2.heap.size, o, none⟩ = false := fx_al W2 _ _
      have zP : W2.heap.size < (W2.alloc (.cells #[.int .i64 0, .int .i64 0] 53)).heap.size := by simp
      generalize hWW : (W2.alloc (.cells #[.int .i64 0, .int .i64 0] 53)) = V3 at hb kP fP zP HSV3 ⊢
      clear hWW
      obtain ⟨bP, hq⟩ : ∃ q, q = W2.heap.size := ⟨_, rfl⟩
      rw [← hq] at kP fP zP ⊢
      have lSP : w.heap.size < bP := by rw [hq]; exact zS
      clear hq
      replace kS := bx_below kS zS hb
      replace zS := Nat.lt_of_lt_of_le zS hb.size
      replace HB : Hid (Below w.heap.size w V3) := HB.out.trans (hb.mono HB.out.size)
      clear hb
      refine Goes.all (rs := [13]) (by kernel_rfl) (by simp) ?_
      refine Ups.cons (i := 13) (o := ?oo81) ?ho81 (fun KK hKK => ?stp81) Ups.nil
      case ho81 => (simp only [List.getElem?_toArray, List.getElem?_cons_succ, List.getElem?_cons_zero] <;> rfl)
      case stp81 =>
      go_simp
      go_at_call 84
      refine (HUN.out _).mono ?_
      rintro e V4 ⟨rfl, hb⟩
      have HSV4 : Hid (Below W1.heap.size W1 V4) := HSV3.out.trans (hb.mono HSV3.out.size)
      replace kS := bx_below kS zS hb
      replace zS := Nat.lt_of_lt_of_le zS hb.size
      replace kP := bx_below kP zP hb
      replace fP := bxF fP hb zP
      replace zP := Nat.lt_of_lt_of_le zP hb.size
      replace HB : Hid (Below w.heap.size w V4) := HB.out.trans (hb.mono HB.out.size)
      clear hb
      dsimp only
      refine hKK.out _ _ (Or.inr HSV4.out) ?_
      clear hKK KK
      (try simp only [Act.put, List.setIfInBounds_toArray, List.set_cons_zero, List.set_cons_succ])
      refine Goes.all (rs := [15]) (by kernel_rfl) (by simp) ?_
      refine Ups.cons (i := 15) (o := ?oo82) ?ho82 (fun KK hKK => ?stp82) Ups.nil
      case ho82 => (simp only [List.getElem?_toArray, List.getElem?_cons_succ, List.getElem?_cons_zero] <;> rfl)
      case stp82 =>
      rw [if_pos (by rfl)]
      refine wp_store_mid 53 _ _ rfl _ _ Q (by rfl) (by rw [HQE.out]; rfl) (bx_there kP fP (by rw [HQZ.out]; rfl)) HIQ.out HONQ.out ?_
      refine hKK.out _ _ (Or.inl rfl) ?_
      clear hKK KK
      (try simp only [Act.put])
      refine Goes.done (by kernel_rfl) ?_ _
      refine NoPanic.normal ?_
      go_wp2_with fail
      go_meet
      exact ⟨bP, rfl, ⟨setCells_below (by omega) _ _ _ _ HB.out, bx_setOff kS (by omega), lSP, by rw [setCells_size]; exact zP, bx_setCells kP (by rw [HQZ.out]; rfl)⟩⟩
  case rest =>
  rename World => WX
  obtain ⟨p, rfl, hcut⟩ := hcut
  clear kS zS kS0 zS0 HB HB0 HUN
  obtain ⟨hb, kS, lp, zP, kP⟩ := hcut.out
  have HB : Hid (Below w.heap.size w WX) := hb
  clear hb hcut
  rw [HQE.out] at kP
  have zS : w.heap.size < WX.heap.size := by omega
  have y3 : WX.cell? ⟨cb, of + 3, none⟩ = some (.bool pl) := (HB.out.cell (p := ⟨cb, of + 3, none⟩) hcb).trans x3
  have y13 : WX.cell? ⟨cb, of + 13, none⟩ = some (.slice a13 n c13) := (HB.out.cell (p := ⟨cb, of + 13, none⟩) hcb).trans x13
  clear HQE HQZ HIQ HONQ
  by_cases h0 : uC = 0
  case neg =>
    have hR : R = #[.int .i64 0, .int .i64 4] := by rw [HR.out, if_neg h0]
    have h0' : (uC != 0) = true := by simp [h0]
    clear h0 HR
    have HRE : Hid _ := hR
    clear hR
    go_wp2_with fail
    have hR := HRE.out
    refine bodyPost_ret (v := .tuple R) (by rw [hR]; simp [results, Tryz.results48, go_sem]) rfl ⟨rfl, ?_⟩
    exact HB.out
  have h0' : (uC != 0) = false := by simp [h0]
  have hR1 := HR.out
  rw [if_pos h0] at hR1
  clear h0 HR
  cases pl
  case true =>
    rw [if_pos rfl] at hR1
    have HRE : Hid _ := hR1
    clear hR1
    go_wp2_with fail
    have hR := HRE.out
    refine bodyPost_ret (v := .tuple R) (by rw [hR]; simp [results, Tryz.results48, go_sem]) rfl ⟨rfl, ?_⟩
    exact HB.out
  rw [if_neg (by simp)] at hR1
  by_cases h4 : op = 4
  case neg =>
    rw [if_neg h4] at hR1
    have h4' : (op == 4) = false := by simp [h4]
    clear h4
    by_cases h1 : n = 1
    case pos =>
      rw [if_pos h1] at hR1
      have h1' : ((n : Int) == 1) = true := by simp; omega
      have HRE : Hid _ := hR1
      clear hR1 h1
      go_wp2_with fail
      have hR := HRE.out
      refine bodyPost_ret (v := .tuple R) (by rw [hR]; simp [results, Tryz.results48, go_sem]) rfl ⟨rfl, ?_⟩
      exact HB.out
    rw [if_neg h1] at hR1
    have h1' : ((n : Int) == 1) = false := by simp; omega
    have HRE : Hid _ := hR1
    clear hR1 h1
    go_wp2_with fail
    have hR := HRE.out
    refine bodyPost_ret (v := .tuple R) (by rw [hR]; simp [results, Tryz.results48, go_sem]) rfl ⟨rfl, ?_⟩
    exact HB.out
  rw [if_pos h4] at hR1
  have h4' : (op == 4) = true := by simp [h4]
  clear h4
  by_cases h5 : b = SU
  case pos =>
    rw [if_pos h5] at hR1
    have HH : Hid ((b != SU) = false) := by show _ = _; simp [h5]
    have HRE : Hid _ := hR1
    clear hR1 h5
    go_upto_region 7 with fail
    have HB0 : Hid (Below w.heap.size w WX) := HB.out
    have kS0 := kS
    have zS0 := zS
    refine wp_region_noPanic ?_
    refine Goes.start (S := fun w' => Below WX.heap.size WX w') (z := 100) (by kernel_rfl) ?_
    have hb : Below WX.heap.size WX WX.drew := Below.drew (Below.refl _ _)
    generalize hWW : WX.drew = V5 at hb ⊢
    clear hWW
    have HS0 : Hid (Below WX.heap.size WX V5) := hb
    replace kS := bx_below kS zS hb
    replace zS := Nat.lt_of_lt_of_le zS hb.size
    replace kP := bx_below kP zP hb
    replace zP := Nat.lt_of_lt_of_le zP hb.size
    replace HB : Hid (Below w.heap.size w V5) := HB.out.trans (hb.mono HB.out.size)
    clear hb
    refine Goes.take (i := 0) (oi := ?oi101) (x := ?vx101) ?ho101 (by kernel_rfl) (by kernel_rfl) (by kernel_rfl) (by kernel_rfl) (fun _ _ _ h => h) (Or.inl ⟨?hw101, ?hy101⟩) HS0.out ?rest101
    case ho101 => (simp only [List.getElem?_toArray, List.getElem?_cons_zero] <;> rfl)
    case hw101 => rfl
    case hy101 => (intro w' hSw; have jS := fun o => (hSw.cell (p := ⟨w.heap.size, o, none⟩) zS0).trans (kS0 o); go_simp; (try with_reducible rfl))
    case rest101 =>
    (try simp only [Act.put, List.setIfInBounds_toArray, List.set_cons_zero, List.set_cons_succ])
    refine Goes.take (i := 1) (oi := ?oi102) (x := ?vx102) ?ho102 (by kernel_rfl) (by kernel_rfl) (by kernel_rfl) (by kernel_rfl) (fun _ _ _ h => h) (Or.inl ⟨?hw102, ?hy102⟩) HS0.out ?rest102
    case ho102 => (simp only [List.getElem?_toArray, List.getElem?_cons_succ, List.getElem?_cons_zero] <;> rfl)
    case hw102 => rfl
    case hy102 => (intro w' hSw; have jS := fun o => (hSw.cell (p := ⟨w.heap.size, o, none⟩) zS0).trans (kS0 o); go_simp; (try with_reducible rfl))
    case rest102 =>
    (try simp only [Act.put, List.setIfInBounds_toArray, List.set_cons_zero, List.set_cons_succ])
    refine Goes.take (i := 2) (oi := ?oi103) (x := ?vx103) ?ho103 (by kernel_rfl) (by kernel_rfl) (by kernel_rfl) (by kernel_rfl) (fun _ _ _ h => h) (Or.inl ⟨?hw103, ?hy103⟩) HS0.out ?rest103
    case ho103 => (simp only [List.getElem?_toArray, List.getElem?_cons_succ, List.getElem?_cons_zero] <;> rfl)
    case hw103 => rfl
    case hy103 => (intro w' hSw; have jS := fun o => (hSw.cell (p := ⟨w.heap.size, o, none⟩) zS0).trans (kS0 o); go_simp; (try with_reducible rfl))
    case rest103 =>
    (try simp only [Act.put, List.setIfInBounds_toArray, List.set_cons_zero, List.set_cons_succ])
    refine Goes.take (i := 3) (oi := ?oi104) (x := ?vx104) ?ho104 (by kernel_rfl) (by kernel_rfl) (by kernel_rfl) (by kernel_rfl) (fun _ _ _ h => h) (Or.inl ⟨?hw104, ?hy104⟩) HS0.out ?rest104
    case ho104 => (simp only [List.getElem?_toArray, List.getElem?_cons_succ, List.getElem?_cons_zero] <;> rfl)
    case hw104 => rfl
    case hy104 => (intro w' hSw; have jS := fun o => (hSw.cell (p := ⟨w.heap.size, o, none⟩) zS0).trans (kS0 o); go_simp; (try with_reducible rfl))
    case rest104 =>
    (try simp only [Act.put, List.setIfInBounds_toArray, List.set_cons_zero, List.set_cons_succ])
    refine Goes.take (i := 4) (oi := ?oi105) (x := ?vx105) ?ho105 (by kernel_rfl) (by kernel_rfl) (by kernel_rfl) (by kernel_rfl) (fun _ _ _ h => h) (Or.inl ⟨?hw105, ?hy105⟩) HS0.out ?rest105
    case ho105 => (simp only [List.getElem?_toArray, List.getElem?_cons_succ, List.getElem?_cons_zero] <;> rfl)
    case hw105 => rfl
    case hy105 => (intro w' hSw; have jS := fun o => (hSw.cell (p := ⟨w.heap.size, o, none⟩) zS0).trans (kS0 o); go_simp; (try with_reducible rfl))
    case rest105 =>
    (try simp only [Act.put, List.setIfInBounds_toArray, List.set_cons_zero, List.set_cons_succ])
    refine Goes.take (i := 5) (oi := ?oi106) (x := ?vx106) ?ho106 (by kernel_rfl) (by kernel_rfl) (by kernel_rfl) (by kernel_rfl) (fun _ _ _ h => h) (Or.inl ⟨?hw106, ?hy106⟩) HS0.out ?rest106
    case ho106 => (simp only [List.getElem?_toArray, List.getElem?_cons_succ, List.getElem?_cons_zero] <;> rfl)
    case hw106 => rfl
    case hy106 => (intro w' hSw; have jS := fun o => (hSw.cell (p := ⟨w.heap.size, o, none⟩) zS0).trans (kS0 o); go_simp; (try with_reducible rfl))
    case rest106 =>
    (try simp only [Act.put, List.setIfInBounds_toArray, List.set_cons_zero, List.set_cons_succ])
    refine Goes.take (i := 6) (oi := ?oi107) (x := ?vx107) ?ho107 (by kernel_rfl) (by kernel_rfl) (by kernel_rfl) (by kernel_rfl) (fun _ _ _ h => h) (Or.inl ⟨?hw107, ?hy107⟩) HS0.out ?rest107
    case ho107 => (simp only [List.getElem?_toArray, List.getElem?_cons_succ, List.getElem?_cons_zero] <;> rfl)
    case hw107 => rfl
    case hy107 => (intro w' hSw; have jS := fun o => (hSw.cell (p := ⟨w.heap.size, o, none⟩) zS0).trans (kS0 o); go_simp; (try with_reducible rfl))
    case rest107 =>
    (try simp only [Act.put, List.setIfInBounds_toArray, List.set_cons_zero, List.set_cons_succ])
    refine Goes.all (rs := [7]) (by kernel_rfl) (by simp) ?_
    refine Ups.cons (i := 7) (o := ?oo108) ?ho108 (fun KK hKK => ?stp108) Ups.nil
    case ho108 => (simp only [List.getElem?_toArray, List.getElem?_cons_succ, List.getElem?_cons_zero] <;> rfl)
    case stp108 =>
    go_simp
    go_at_call 85
    refine (HU.out _ HB.out).mono ?_
    rintro e V6 ⟨rfl, hb⟩
    have HS1 : Hid (Below WX.heap.size WX V6) := HS0.out.trans (hb.mono HS0.out.size)
    replace kS := bx_below kS zS hb
    replace zS := Nat.lt_of_lt_of_le zS hb.size
    replace kP := bx_below kP zP hb
    replace zP := Nat.lt_of_lt_of_le zP hb.size
    replace HB : Hid (Below w.heap.size w V6) := HB.out.trans (hb.mono HB.out.size)
    clear hb
    dsimp only
    refine hKK.out _ _ (Or.inr HS1.out) ?_
    clear hKK KK
    (try simp only [Act.put, List.setIfInBounds_toArray, List.set_cons_zero, List.set_cons_succ])
    refine Goes.take (i := 8) (oi := ?oi109) (x := ?vx109) ?ho109 (by kernel_rfl) (by kernel_rfl) (by kernel_rfl) (by kernel_rfl) (fun _ _ _ h => h) (Or.inl ⟨?hw109, ?hy109⟩) HS1.out ?rest109
    case ho109 => (simp only [List.getElem?_toArray, List.getElem?_cons_succ, List.getElem?_cons_zero] <;> rfl)
    case hw109 => rfl
    case hy109 => (intro w' hSw; have jS := fun o => (hSw.cell (p := ⟨w.heap.size, o, none⟩) zS0).trans (kS0 o); go_simp; (try with_reducible rfl))
    case rest109 =>
    (try simp only [Act.put, List.setIfInBounds_toArray, List.set_cons_zero, List.set_cons_succ])
    refine Goes.done (by kernel_rfl) ?_ _
    refine NoPanic.normal ?_
    clear HS0 HS1 HB0 kS0 zS0 HU
    have h5' := HH.out
    go_wp2_with fail
    have hR := HRE.out
    refine bodyPost_ret (v := .tuple R) (by rw [hR]; simp [results, Tryz.results48, go_sem]) rfl ⟨rfl, ?_⟩
    exact HB.out
  case neg =>
    rw [if_neg h5] at hR1
    have HH : Hid ((b != SU) = true) := by show _ = _; simp [h5]
    have HRE : Hid _ := hR1
    clear hR1 h5
    go_upto_region 7 with fail
    have HB0 : Hid (Below w.heap.size w WX) := HB.out
    have kS0 := kS
    have zS0 := zS
    refine wp_region_noPanic ?_
    refine Goes.start (S := fun w' => Below WX.heap.size WX w') (z := 100) (by kernel_rfl) ?_
    have hb : Below WX.heap.size WX WX.drew := Below.drew (Below.refl _ _)
    generalize hWW : WX.drew = V5 at hb ⊢
    clear hWW
    have HS0 : Hid (Below WX.heap.size WX V5) := hb
    replace kS := bx_below kS zS hb
    replace zS := Nat.lt_of_lt_of_le zS hb.size
    replace kP := bx_below kP zP hb
    replace zP := Nat.lt_of_lt_of_le zP hb.size
    replace HB : Hid (Below w.heap.size w V5) := HB.out.trans (hb.mono HB.out.size)
    clear hb
    refine Goes.take (i := 0) (oi := ?oi141) (x := ?vx141) ?ho141 (by kernel_rfl) (by kernel_rfl) (by kernel_rfl) (by kernel_rfl) (fun _ _ _ h => h) (Or.inl ⟨?hw141, ?hy141⟩) HS0.out ?rest141
    case ho141 => (simp only [List.getElem?_toArray, List.getElem?_cons_zero] <;> rfl)
    case hw141 => rfl
    case hy141 => (intro w' hSw; have jS := fun o => (hSw.cell (p := ⟨w.heap.size, o, none⟩) zS0).trans (kS0 o); go_simp; (try with_reducible rfl))
    case rest141 =>
    (try simp only [Act.put, List.setIfInBounds_toArray, List.set_cons_zero, List.set_cons_succ])
    refine Goes.take (i := 1) (oi := ?oi142) (x := ?vx142) ?ho142 (by kernel_rfl) (by kernel_rfl) (by kernel_rfl) (by kernel_rfl) (fun _ _ _ h => h) (Or.inl ⟨?hw142, ?hy142⟩) HS0.out ?rest142
    case ho142 => (simp only [List.getElem?_toArray, List.getElem?_cons_succ, List.getElem?_cons_zero] <;> rfl)
    case hw142 => rfl
    case hy142 => (intro w' hSw; have jS := fun o => (hSw.cell (p := ⟨w.heap.size, o, none⟩) zS0).trans (kS0 o); go_simp; (try with_reducible rfl))
    case rest142 =>
    (try simp only [Act.put, List.setIfInBounds_toArray, List.set_cons_zero, List.set_cons_succ])
    refine Goes.take (i := 2) (oi := ?oi143) (x := ?vx143) ?ho143 (by kernel_rfl) (by kernel_rfl) (by kernel_rfl) (by kernel_rfl) (fun _ _ _ h => h) (Or.inl ⟨?hw143, ?hy143⟩) HS0.out ?rest143
    case ho143 => (simp only [List.getElem?_toArray, List.getElem?_cons_succ, List.getElem?_cons_zero] <;> rfl)
    case hw143 => rfl
    case hy143 => (intro w' hSw; have jS := fun o => (hSw.cell (p := ⟨w.heap.size, o, none⟩) zS0).trans (kS0 o); go_simp; (try with_reducible rfl))
    case rest143 =>
    (try simp only [Act.put, List.setIfInBounds_toArray, List.set_cons_zero, List.set_cons_succ])
    refine Goes.take (i := 3) (oi := ?oi144) (x := ?vx144) ?ho144 (by kernel_rfl) (by kernel_rfl) (by kernel_rfl) (by kernel_rfl) (fun _ _ _ h => h) (Or.inl ⟨?hw144, ?hy144⟩) HS0.out ?rest144
    case ho144 => (simp only [List.getElem?_toArray, List.getElem?_cons_succ, List.getElem?_cons_zero] <;> rfl)
    case hw144 => rfl
    case hy144 => (intro w' hSw; have jS := fun o => (hSw.cell (p := ⟨w.heap.size, o, none⟩) zS0).trans (kS0 o); go_simp; (try with_reducible rfl))
    case rest144 =>
    (try simp only [Act.put, List.setIfInBounds_toArray, List.set_cons_zero, List.set_cons_succ])
    refine Goes.take (i := 4) (oi := ?oi145) (x := ?vx145) ?ho145 (by kernel_rfl) (by kernel_rfl) (by kernel_rfl) (by kernel_rfl) (fun _ _ _ h => h) (Or.inl ⟨?hw145, ?hy145⟩) HS0.out ?rest145
    case ho145 => (simp only [List.getElem?_toArray, List.getElem?_cons_succ, List.getElem?_cons_zero] <;> rfl)
    case hw145 => rfl
    case hy145 => (intro w' hSw; have jS := fun o => (hSw.cell (p := ⟨w.heap.size, o, none⟩) zS0).trans (kS0 o); go_simp; (try with_reducible rfl))
    case rest145 =>
    (try simp only [Act.put, List.setIfInBounds_toArray, List.set_cons_zero, List.set_cons_succ])
    refine Goes.take (i := 5) (oi := ?oi146) (x := ?vx146) ?ho146 (by kernel_rfl) (by kernel_rfl) (by kernel_rfl) (by kernel_rfl) (fun _ _ _ h => h) (Or.inl ⟨?hw146, ?hy146⟩) HS0.out ?rest146
    case ho146 => (simp only [List.getElem?_toArray, List.getElem?_cons_succ, List.getElem?_cons_zero] <;> rfl)
    case hw146 => rfl
    case hy146 => (intro w' hSw; have jS := fun o => (hSw.cell (p := ⟨w.heap.size, o, none⟩) zS0).trans (kS0 o); go_simp; (try with_reducible rfl))
    case rest146 =>
    (try simp only [Act.put, List.setIfInBounds_toArray, List.set_cons_zero, List.set_cons_succ])
    refine Goes.take (i := 6) (oi := ?oi147) (x := ?vx147) ?ho147 (by kernel_rfl) (by kernel_rfl) (by kernel_rfl) (by kernel_rfl) (fun _ _ _ h => h) (Or.inl ⟨?hw147, ?hy147⟩) HS0.out ?rest147
    case ho147 => (simp only [List.getElem?_toArray, List.getElem?_cons_succ, List.getElem?_cons_zero] <;> rfl)
    case hw147 => rfl
    case hy147 => (intro w' hSw; have jS := fun o => (hSw.cell (p := ⟨w.heap.size, o, none⟩) zS0).trans (kS0 o); go_simp; (try with_reducible rfl))
    case rest147 =>
    (try simp only [Act.put, List.setIfInBounds_toArray, List.set_cons_zero, List.set_cons_succ])
    refine Goes.all (rs := [7]) (by kernel_rfl) (by simp) ?_
    refine Ups.cons (i := 7) (o := ?oo148) ?ho148 (fun KK hKK => ?stp148) Ups.nil
    case ho148 => (simp only [List.getElem?_toArray, List.getElem?_cons_succ, List.getElem?_cons_zero] <;> rfl)
    case stp148 =>
    go_simp
    go_at_call 85
    refine (HU.out _ HB.out).mono ?_
    rintro e V6 ⟨rfl, hb⟩
    have HS1 : Hid (Below WX.heap.size WX V6) := HS0.out.trans (hb.mono HS0.out.size)
    replace kS := bx_below kS zS hb
    replace zS := Nat.lt_of_lt_of_le zS hb.size
    replace kP := bx_below kP zP hb
    replace zP := Nat.lt_of_lt_of_le zP hb.size
    replace HB : Hid (Below w.heap.size w V6) := HB.out.trans (hb.mono HB.out.size)
    clear hb
    dsimp only
    refine hKK.out _ _ (Or.inr HS1.out) ?_
    clear hKK KK
    (try simp only [Act.put, List.setIfInBounds_toArray, List.set_cons_zero, List.set_cons_succ])
    refine Goes.take (i := 8) (oi := ?oi149) (x := ?vx149) ?ho149 (by kernel_rfl) (by kernel_rfl) (by kernel_rfl) (by kernel_rfl) (fun _ _ _ h => h) (Or.inl ⟨?hw149, ?hy149⟩) HS1.out ?rest149
    case ho149 => (simp only [List.getElem?_toArray, List.getElem?_cons_succ, List.getElem?_cons_zero] <;> rfl)
    case hw149 => rfl
    case hy149 => (intro w' hSw; have jS := fun o => (hSw.cell (p := ⟨w.heap.size, o, none⟩) zS0).trans (kS0 o); go_simp; (try with_reducible rfl))
    case rest149 =>
    (try simp only [Act.put, List.setIfInBounds_toArray, List.set_cons_zero, List.set_cons_succ])
    refine Goes.done (by kernel_rfl) ?_ _
    refine NoPanic.normal ?_
    clear HS0 HS1 HB0 kS0 zS0 HU
    have h5' := HH.out
    go_wp2_with fail
    have hR := HRE.out
    refine bodyPost_ret (v := .tuple R) (by rw [hR]; simp [results, Tryz.results48, go_sem]) rfl ⟨rfl, ?_⟩
    exact HB.out
set_option maxHeartbeats 2000000 in
theorem sWhereF (A SG : Array Value) (w : World) (hS : SG.size = 12) (C : Int) (hC : C ≠ 0) (hF : ∀ W, Below w.heap.size w W → (∀ o, W.cell? ⟨w.heap.size, o, none⟩ = A[o]?) → Calls Tryz.prog 29 #[.pointer (some ⟨w.heap.size, 0, none⟩)] W fun e w' => e = .returned (.int .i64 C) ∧ Below W.heap.size W w') :
    Calls Tryz.prog 19 #[.agg A, .agg SG] w fun e w' => e = .returned (.agg #[.int .i64 C, .int .i64 0]) ∧ Below w.heap.size w w' := by
  have HF : Hid _ := hF
  have hC' : (C != 0) = true := by simp [hC]
  clear hF hC hS
  have HWA : Hid (Below w.heap.size w (((w.alloc (.cells A 35)).alloc (.cells SG 55)).alloc (.cells #[.int .i64 0, .int .i64 0] 53)) ∧ (((w.alloc (.cells A 35)).alloc (.cells SG 55)).alloc (.cells #[.int .i64 0, .int .i64 0] 53)).heap.size = w.heap.size + 3 ∧ (∀ o, (((w.alloc (.cells A 35)).alloc (.cells SG 55)).alloc (.cells #[.int .i64 0, .int .i64 0] 53)).cell? ⟨w.heap.size, o, none⟩ = (A : Array Value)[o]?) ∧ (∀ o, (((w.alloc (.cells A 35)).alloc (.cells SG 55)).alloc (.cells #[.int .i64 0, .int .i64 0] 53)).cell? ⟨w.heap.size + 1, o, none⟩ = (SG : Array Value)[o]?) ∧ (∀ o, (((w.alloc (.cells A 35)).alloc (.cells SG 55)).alloc (.cells #[.int .i64 0, .int .i64 0] 53)).cell? ⟨w.heap.size + 2, o, none⟩ = (#[.int .i64 0, .int .i64 0] : Array Value)[o]?) ∧ (∀ o, (((w.alloc (.cells A 35)).alloc (.cells SG 55)).alloc (.cells #[.int .i64 0, .int .i64 0] 53)).frozen? ⟨w.heap.size + 2, o, none⟩ = false)) := ⟨((((Below.refl _ _).alloc (Nat.le_refl _) _).alloc (by simp) _).alloc (by simp; omega) _), by simp, fun o => by simp [go_sem], fun o => by simp [go_sem], fun o => by simp [go_sem], fun o => by simp [go_sem]⟩
  go_enter Tryz.func19, Tryz.ntmps19
  go_upto_region 1 with fail
  generalize hWW : (((w.alloc (.cells A 35)).alloc (.cells SG 55)).alloc (.cells #[.int .i64 0, .int .i64 0] 53)) = W1 at HWA ⊢
  clear hWW
  obtain ⟨hb, hsz, kA, kS, kR, fR⟩ := HWA.out
  clear HWA
  have HB : Hid (Below w.heap.size w W1) := hb
  have zA : w.heap.size < W1.heap.size := by omega
  have zS : w.heap.size + 1 < W1.heap.size := by omega
  have zR : w.heap.size + 2 < W1.heap.size := by omega
  clear hb hsz
  go_wp2_with fail
  refine (HF.out _ HB.out kA).mono ?_
  rintro e W2 ⟨rfl, hb⟩
  replace kA := bx_below kA zA hb
  replace zA := Nat.lt_of_lt_of_le zA hb.size
  replace kS := bx_below kS zS hb
  replace zS := Nat.lt_of_lt_of_le zS hb.size
  replace kR := bx_below kR zR hb
  replace fR := bxF fR hb zR
  replace zR := Nat.lt_of_lt_of_le zR hb.size
  replace HB : Hid (Below w.heap.size w W2) := HB.out.trans (hb.mono HB.out.size)
  clear hb
  go_wp2_with fail
  refine bodyPost_ret (results_box Tryz.results19 _ _ _ #[.int .i64 C, .int .i64 0] _ (by rfl) (bx2c kR) Tryz.underlying53 rfl info_IntR) rfl ⟨rfl, ?_⟩
  exact Below.setCell (Below.setCell HB.out (by dsimp only; omega) _) (by dsimp only; omega) _
set_option maxHeartbeats 2000000 in
theorem sWhereG (A SG : Array Value) (w : World) (hS : SG.size = 12) (C : Int) (hC : C ≠ 0) (hF : ∀ W, Below w.heap.size w W → (∀ o, W.cell? ⟨w.heap.size, o, none⟩ = A[o]?) → Calls Tryz.prog 29 #[.pointer (some ⟨w.heap.size, 0, none⟩)] W fun e w' => e = .returned (.int .i64 0) ∧ Below W.heap.size W w') (hG : ∀ W, Below w.heap.size w W → Calls Tryz.prog 46 #[.agg SG] W fun e w' => e = .returned (.int .i64 C) ∧ Below W.heap.size W w') :
    Calls Tryz.prog 19 #[.agg A, .agg SG] w fun e w' => e = .returned (.agg #[.int .i64 C, .int .i64 0]) ∧ Below w.heap.size w w' := by
  have HIS : Hid ((Tryz.prog.info? 55).map (·.size) = some SG.toList.length) := by show _ = _; rw [Array.length_toList, hS]; exact (by kernel_rfl : (Tryz.prog.info? 55).map (·.size) = some 12)
  have HF : Hid _ := hF
  have HG : Hid _ := hG
  have hC' : (C != 0) = true := by simp [hC]
  clear hF hC hG hS
  have HWA : Hid (Below w.heap.size w (((w.alloc (.cells A 35)).alloc (.cells SG 55)).alloc (.cells #[.int .i64 0, .int .i64 0] 53)) ∧ (((w.alloc (.cells A 35)).alloc (.cells SG 55)).alloc (.cells #[.int .i64 0, .int .i64 0] 53)).heap.size = w.heap.size + 3 ∧ (∀ o, (((w.alloc (.cells A 35)).alloc (.cells SG 55)).alloc (.cells #[.int .i64 0, .int .i64 0] 53)).cell? ⟨w.heap.size, o, none⟩ = (A : Array Value)[o]?) ∧ (∀ o, (((w.alloc (.cells A 35)).alloc (.cells SG 55)).alloc (.cells #[.int .i64 0, .int .i64 0] 53)).cell? ⟨w.heap.size + 1, o, none⟩ = (SG : Array Value)[o]?) ∧ (∀ o, (((w.alloc (.cells A 35)).alloc (.cells SG 55)).alloc (.cells #[.int .i64 0, .int .i64 0] 53)).cell? ⟨w.heap.size + 2, o, none⟩ = (#[.int .i64 0, .int .i64 0] : Array Value)[o]?) ∧ (∀ o, (((w.alloc (.cells A 35)).alloc (.cells SG 55)).alloc (.cells #[.int .i64 0, .int .i64 0] 53)).frozen? ⟨w.heap.size + 2, o, none⟩ = false)) := ⟨((((Below.refl _ _).alloc (Nat.le_refl _) _).alloc (by simp) _).alloc (by simp; omega) _), by simp, fun o => by simp [go_sem], fun o => by simp [go_sem], fun o => by simp [go_sem], fun o => by simp [go_sem]⟩
  go_enter Tryz.func19, Tryz.ntmps19
  go_upto_region 1 with fail
  generalize hWW : (((w.alloc (.cells A 35)).alloc (.cells SG 55)).alloc (.cells #[.int .i64 0, .int .i64 0] 53)) = W1 at HWA ⊢
  clear hWW
  obtain ⟨hb, hsz, kA, kS, kR, fR⟩ := HWA.out
  clear HWA
  have HB : Hid (Below w.heap.size w W1) := hb
  have zA : w.heap.size < W1.heap.size := by omega
  have zS : w.heap.size + 1 < W1.heap.size := by omega
  have zR : w.heap.size + 2 < W1.heap.size := by omega
  clear hb hsz
  go_wp2_with fail
  refine (HF.out _ HB.out kA).mono ?_
  rintro e W2 ⟨rfl, hb⟩
  replace kA := bx_below kA zA hb
  replace zA := Nat.lt_of_lt_of_le zA hb.size
  replace kS := bx_below kS zS hb
  replace zS := Nat.lt_of_lt_of_le zS hb.size
  replace kR := bx_below kR zR hb
  replace fR := bxF fR hb zR
  replace zR := Nat.lt_of_lt_of_le zR hb.size
  replace HB : Hid (Below w.heap.size w W2) := HB.out.trans (hb.mono HB.out.size)
  clear hb
  go_wp2_with (first | (refine wpList_load_mid rfl 55 _ rfl _ _ (by rfl) SG.toList _ (bx_range kS) Tryz.underlying55 rfl HIS.out ?_))
  refine (HG.out _ HB.out).mono ?_
  rintro e W3 ⟨rfl, hb⟩
  replace kA := bx_below kA zA hb
  replace zA := Nat.lt_of_lt_of_le zA hb.size
  replace kS := bx_below kS zS hb
  replace zS := Nat.lt_of_lt_of_le zS hb.size
  replace kR := bx_below kR zR hb
  replace fR := bxF fR hb zR
  replace zR := Nat.lt_of_lt_of_le zR hb.size
  replace HB : Hid (Below w.heap.size w W3) := HB.out.trans (hb.mono HB.out.size)
  clear hb
  go_wp2_with fail
  refine bodyPost_ret (results_box Tryz.results19 _ _ _ #[.int .i64 C, .int .i64 0] _ (by rfl) (bx2c kR) Tryz.underlying53 rfl info_IntR) rfl ⟨rfl, ?_⟩
  exact Below.setCell (Below.setCell HB.out (by dsimp only; omega) _) (by dsimp only; omega) _
set_option maxHeartbeats 2000000 in
theorem sWhere4 (A SG : Array Value) (w : World) (hS : SG.size = 12) (hF : ∀ W, Below w.heap.size w W → (∀ o, W.cell? ⟨w.heap.size, o, none⟩ = A[o]?) → Calls Tryz.prog 29 #[.pointer (some ⟨w.heap.size, 0, none⟩)] W fun e w' => e = .returned (.int .i64 0) ∧ Below W.heap.size W w') (hG : ∀ W, Below w.heap.size w W → Calls Tryz.prog 46 #[.agg SG] W fun e w' => e = .returned (.int .i64 0) ∧ Below W.heap.size W w') (pa PL : Int) (g0 : SG[0]? = some (.int .i64 pa)) (hO : ∀ W, Below w.heap.size w W → (∀ o, W.cell? ⟨w.heap.size, o, none⟩ = A[o]?) → Calls Tryz.prog 47 #[.pointer (some ⟨w.heap.size, 0, none⟩), .int .i64 pa] W fun e w' => e = .returned (.int .i64 PL) ∧ w' = W) (hp : PL < 0) :
    Calls Tryz.prog 19 #[.agg A, .agg SG] w fun e w' => e = .returned (.agg #[.int .i64 4, .int .i64 0]) ∧ Below w.heap.size w w' := by
  have HIS : Hid ((Tryz.prog.info? 55).map (·.size) = some SG.toList.length) := by show _ = _; rw [Array.length_toList, hS]; exact (by kernel_rfl : (Tryz.prog.info? 55).map (·.size) = some 12)
  have HF : Hid _ := hF
  have HG : Hid _ := hG
  have HO : Hid _ := hO
  have hp' : decide (PL < 0) = true := decide_eq_true hp
  clear hF hG hO hS
  have HWA : Hid (Below w.heap.size w (((w.alloc (.cells A 35)).alloc (.cells SG 55)).alloc (.cells #[.int .i64 0, .int .i64 0] 53)) ∧ (((w.alloc (.cells A 35)).alloc (.cells SG 55)).alloc (.cells #[.int .i64 0, .int .i64 0] 53)).heap.size = w.heap.size + 3 ∧ (∀ o, (((w.alloc (.cells A 35)).alloc (.cells SG 55)).alloc (.cells #[.int .i64 0, .int .i64 0] 53)).cell? ⟨w.heap.size, o, none⟩ = (A : Array Value)[o]?) ∧ (∀ o, (((w.alloc (.cells A 35)).alloc (.cells SG 55)).alloc (.cells #[.int .i64 0, .int .i64 0] 53)).cell? ⟨w.heap.size + 1, o, none⟩ = (SG : Array Value)[o]?) ∧ (∀ o, (((w.alloc (.cells A 35)).alloc (.cells SG 55)).alloc (.cells #[.int .i64 0, .int .i64 0] 53)).cell? ⟨w.heap.size + 2, o, none⟩ = (#[.int .i64 0, .int .i64 0] : Array Value)[o]?) ∧ (∀ o, (((w.alloc (.cells A 35)).alloc (.cells SG 55)).alloc (.cells #[.int .i64 0, .int .i64 0] 53)).frozen? ⟨w.heap.size + 2, o, none⟩ = false)) := ⟨((((Below.refl _ _).alloc (Nat.le_refl _) _).alloc (by simp) _).alloc (by simp; omega) _), by simp, fun o => by simp [go_sem], fun o => by simp [go_sem], fun o => by simp [go_sem], fun o => by simp [go_sem]⟩
  go_enter Tryz.func19, Tryz.ntmps19
  go_upto_region 1 with fail
  generalize hWW : (((w.alloc (.cells A 35)).alloc (.cells SG 55)).alloc (.cells #[.int .i64 0, .int .i64 0] 53)) = W1 at HWA ⊢
  clear hWW
  obtain ⟨hb, hsz, kA, kS, kR, fR⟩ := HWA.out
  clear HWA
  have HB : Hid (Below w.heap.size w W1) := hb
  have zA : w.heap.size < W1.heap.size := by omega
  have zS : w.heap.size + 1 < W1.heap.size := by omega
  have zR : w.heap.size + 2 < W1.heap.size := by omega
  clear hb hsz
  go_wp2_with fail
  refine (HF.out _ HB.out kA).mono ?_
  rintro e W2 ⟨rfl, hb⟩
  replace kA := bx_below kA zA hb
  replace zA := Nat.lt_of_lt_of_le zA hb.size
  replace kS := bx_below kS zS hb
  replace zS := Nat.lt_of_lt_of_le zS hb.size
  replace kR := bx_below kR zR hb
  replace fR := bxF fR hb zR
  replace zR := Nat.lt_of_lt_of_le zR hb.size
  replace HB : Hid (Below w.heap.size w W2) := HB.out.trans (hb.mono HB.out.size)
  clear hb
  go_wp2_with (first | (refine wpList_load_mid rfl 55 _ rfl _ _ (by rfl) SG.toList _ (bx_range kS) Tryz.underlying55 rfl HIS.out ?_))
  refine (HG.out _ HB.out).mono ?_
  rintro e W3 ⟨rfl, hb⟩
  replace kA := bx_below kA zA hb
  replace zA := Nat.lt_of_lt_of_le zA hb.size
  replace kS := bx_below kS zS hb
  replace zS := Nat.lt_of_lt_of_le zS hb.size
  replace kR := bx_below kR zR hb
  replace fR := bxF fR hb zR
  replace zR := Nat.lt_of_lt_of_le zR hb.size
  replace HB : Hid (Below w.heap.size w W3) := HB.out.trans (hb.mono HB.out.size)
  clear hb
  go_wp2_with fail
  refine (HO.out _ HB.out kA).mono ?_
  rintro e w' ⟨rfl, hw⟩
  subst w'
  go_wp2_with fail
  refine bodyPost_ret (results_box Tryz.results19 _ _ _ #[.int .i64 4, .int .i64 0] _ (by rfl) (bx2c kR) Tryz.underlying53 rfl info_IntR) rfl ⟨rfl, ?_⟩
  exact Below.setCell (Below.setCell HB.out (by dsimp only; omega) _) (by dsimp only; omega) _
set_option maxHeartbeats 4000000 in
theorem sWhereOk (A SG : Array Value) (w : World) (hS : SG.size = 12) (hF : ∀ W, Below w.heap.size w W → (∀ o, W.cell? ⟨w.heap.size, o, none⟩ = A[o]?) → Calls Tryz.prog 29 #[.pointer (some ⟨w.heap.size, 0, none⟩)] W fun e w' => e = .returned (.int .i64 0) ∧ Below W.heap.size W w') (hG : ∀ W, Below w.heap.size w W → Calls Tryz.prog 46 #[.agg SG] W fun e w' => e = .returned (.int .i64 0) ∧ Below W.heap.size W w') (pa PL : Int) (g0 : SG[0]? = some (.int .i64 pa)) (hO : ∀ W, Below w.heap.size w W → (∀ o, W.cell? ⟨w.heap.size, o, none⟩ = A[o]?) → Calls Tryz.prog 47 #[.pointer (some ⟨w.heap.size, 0, none⟩), .int .i64 pa] W fun e w' => e = .returned (.int .i64 PL) ∧ w' = W) (k b off n c13 : Nat) (x13 : A[13]? = some (.slice (some ⟨b, off, none⟩) n c13)) (hPL : PL = (k : Int)) (hk : k < n) (hn : n ≤ 1048576) (RV RC : Int) (hLW : ∀ W, Below w.heap.size w W → (∀ o, W.cell? ⟨w.heap.size, o, none⟩ = A[o]?) → Calls Tryz.prog 48 #[.pointer (some ⟨w.heap.size, 0, none⟩), .pointer (some ⟨b, off + k * 16, none⟩), .agg SG] W fun e w' => e = .returned (.tuple #[.int .i64 RV, .int .i64 RC]) ∧ Below W.heap.size W w') :
    Calls Tryz.prog 19 #[.agg A, .agg SG] w fun e w' => e = .returned (.agg (if RC = 0 then #[.int .i64 0, .int .i64 RV] else #[.int .i64 RC, .int .i64 0])) ∧ Below w.heap.size w w' := by
  have HIS : Hid ((Tryz.prog.info? 55).map (·.size) = some SG.toList.length) := by show _ = _; rw [Array.length_toList, hS]; exact (by kernel_rfl : (Tryz.prog.info? 55).map (·.size) = some 12)
  subst hPL
  have HF : Hid _ := hF
  have HG : Hid _ := hG
  have HO : Hid _ := hO
  have HLW : Hid _ := hLW
  have hkI : (k : Int) < (n : Int) := by omega
  have hk0 : (0 : Int) ≤ (k : Int) := by omega
  have hp' : decide ((k : Int) < 0) = false := decide_eq_false (by omega)
  have hp'' : ¬ ((k : Int) < 0) := by omega
  clear hF hG hO hLW hS
  by_cases hc : RC = 0
  case pos =>
    rw [if_pos hc]
    have HH : Hid ((RC != 0) = false) := by show _ = _; simp [hc]
    clear hc
    have HWA : Hid (Below w.heap.size w (((w.alloc (.cells A 35)).alloc (.cells SG 55)).alloc (.cells #[.int .i64 0, .int .i64 0] 53)) ∧ (((w.alloc (.cells A 35)).alloc (.cells SG 55)).alloc (.cells #[.int .i64 0, .int .i64 0] 53)).heap.size = w.heap.size + 3 ∧ (∀ o, (((w.alloc (.cells A 35)).alloc (.cells SG 55)).alloc (.cells #[.int .i64 0, .int .i64 0] 53)).cell? ⟨w.heap.size, o, none⟩ = (A : Array Value)[o]?) ∧ (∀ o, (((w.alloc (.cells A 35)).alloc (.cells SG 55)).alloc (.cells #[.int .i64 0, .int .i64 0] 53)).cell? ⟨w.heap.size + 1, o, none⟩ = (SG : Array Value)[o]?) ∧ (∀ o, (((w.alloc (.cells A 35)).alloc (.cells SG 55)).alloc (.cells #[.int .i64 0, .int .i64 0] 53)).cell? ⟨w.heap.size + 2, o, none⟩ = (#[.int .i64 0, .int .i64 0] : Array Value)[o]?) ∧ (∀ o, (((w.alloc (.cells A 35)).alloc (.cells SG 55)).alloc (.cells #[.int .i64 0, .int .i64 0] 53)).frozen? ⟨w.heap.size + 2, o, none⟩ = false)) := ⟨((((Below.refl _ _).alloc (Nat.le_refl _) _).alloc (by simp) _).alloc (by simp; omega) _), by simp, fun o => by simp [go_sem], fun o => by simp [go_sem], fun o => by simp [go_sem], fun o => by simp [go_sem]⟩
    go_enter Tryz.func19, Tryz.ntmps19
    go_upto_region 1 with fail
    generalize hWW : (((w.alloc (.cells A 35)).alloc (.cells SG 55)).alloc (.cells #[.int .i64 0, .int .i64 0] 53)) = W1 at HWA ⊢
    clear hWW
    obtain ⟨hb, hsz, kA, kS, kR, fR⟩ := HWA.out
    clear HWA
    have HB : Hid (Below w.heap.size w W1) := hb
    have zA : w.heap.size < W1.heap.size := by omega
    have zS : w.heap.size + 1 < W1.heap.size := by omega
    have zR : w.heap.size + 2 < W1.heap.size := by omega
    clear hb hsz
    go_wp2_with fail
    refine (HF.out _ HB.out kA).mono ?_
    rintro e W2 ⟨rfl, hb⟩
    replace kA := bx_below kA zA hb
    replace zA := Nat.lt_of_lt_of_le zA hb.size
    replace kS := bx_below kS zS hb
    replace zS := Nat.lt_of_lt_of_le zS hb.size
    replace kR := bx_below kR zR hb
    replace fR := bxF fR hb zR
    replace zR := Nat.lt_of_lt_of_le zR hb.size
    replace HB : Hid (Below w.heap.size w W2) := HB.out.trans (hb.mono HB.out.size)
    clear hb
    go_wp2_with (first | (refine wpList_load_mid rfl 55 _ rfl _ _ (by rfl) SG.toList _ (bx_range kS) Tryz.underlying55 rfl HIS.out ?_))
    refine (HG.out _ HB.out).mono ?_
    rintro e W3 ⟨rfl, hb⟩
    replace kA := bx_below kA zA hb
    replace zA := Nat.lt_of_lt_of_le zA hb.size
    replace kS := bx_below kS zS hb
    replace zS := Nat.lt_of_lt_of_le zS hb.size
    replace kR := bx_below kR zR hb
    replace fR := bxF fR hb zR
    replace zR := Nat.lt_of_lt_of_le zR hb.size
    replace HB : Hid (Below w.heap.size w W3) := HB.out.trans (hb.mono HB.out.size)
    clear hb
    go_wp2_with fail
    refine (HO.out _ HB.out kA).mono ?_
    rintro e w' ⟨rfl, hw⟩
    subst w'
    go_upto_region 10 with fail
    have HB0 : Hid (Below w.heap.size w W3) := HB.out
    have kA0 := kA
    have zA0 := zA
    have kS0 := kS
    have zS0 := zS
    refine wp_region_noPanic ?_
    refine Goes.start (S := fun w' => Below W3.heap.size W3 w') (z := 100) (by kernel_rfl) ?_
    have hb : Below W3.heap.size W3 W3.drew := Below.drew (Below.refl _ _)
    generalize hWW : W3.drew = W4 at hb ⊢
    clear hWW
    have HS0 : Hid (Below W3.heap.size W3 W4) := hb
    replace kA := bx_below kA zA hb
    replace zA := Nat.lt_of_lt_of_le zA hb.size
    replace kS := bx_below kS zS hb
    replace zS := Nat.lt_of_lt_of_le zS hb.size
    replace kR := bx_below kR zR hb
    replace fR := bxF fR hb zR
    replace zR := Nat.lt_of_lt_of_le zR hb.size
    replace HB : Hid (Below w.heap.size w W4) := HB.out.trans (hb.mono HB.out.size)
    clear hb
    refine Goes.take (i := 0) (oi := ?oi11) (x := ?vx11) ?ho11 (by kernel_rfl) (by kernel_rfl) (by kernel_rfl) (by kernel_rfl) (fun _ _ _ h => h) (Or.inl ⟨?hw11, ?hy11⟩) HS0.out ?rest11
    case ho11 => (simp only [List.getElem?_toArray, List.getElem?_cons_zero] <;> rfl)
    case hw11 => rfl
    case hy11 => (intro w' hSw; have jA := fun o => (hSw.cell (p := ⟨w.heap.size, o, none⟩) zA0).trans (kA0 o); go_simp; (try with_reducible rfl))
    case rest11 =>
    (try simp only [Act.put, List.setIfInBounds_toArray, List.set_cons_zero, List.set_cons_succ])
    refine Goes.take (i := 1) (oi := ?oi12) (x := ?vx12) ?ho12 (by kernel_rfl) (by kernel_rfl) (by kernel_rfl) (by kernel_rfl) (fun _ _ _ h => h) (Or.inl ⟨?hw12, ?hy12⟩) HS0.out ?rest12
    case ho12 => (simp only [List.getElem?_toArray, List.getElem?_cons_succ, List.getElem?_cons_zero] <;> rfl)
    case hw12 => rfl
    case hy12 => (intro w' hSw; have jA := fun o => (hSw.cell (p := ⟨w.heap.size, o, none⟩) zA0).trans (kA0 o); go_simp; (try with_reducible rfl))
    case rest12 =>
    (try simp only [Act.put, List.setIfInBounds_toArray, List.set_cons_zero, List.set_cons_succ])
    refine Goes.take (i := 2) (oi := ?oi13) (x := ?vx13) ?ho13 (by kernel_rfl) (by kernel_rfl) (by kernel_rfl) (by kernel_rfl) (fun _ _ _ h => h) (Or.inl ⟨?hw13, ?hy13⟩) HS0.out ?rest13
    case ho13 => (simp only [List.getElem?_toArray, List.getElem?_cons_succ, List.getElem?_cons_zero] <;> rfl)
    case hw13 => rfl
    case hy13 => (intro w' hSw; have jA := fun o => (hSw.cell (p := ⟨w.heap.size, o, none⟩) zA0).trans (kA0 o); go_simp; (try with_reducible rfl))
    case rest13 =>
    (try simp only [Act.put, List.setIfInBounds_toArray, List.set_cons_zero, List.set_cons_succ])
    refine Goes.take (i := 3) (oi := ?oi14) (x := ?vx14) ?ho14 (by kernel_rfl) (by kernel_rfl) (by kernel_rfl) (by kernel_rfl) (fun _ _ _ h => h) (Or.inl ⟨?hw14, ?hy14⟩) HS0.out ?rest14
    case ho14 => (simp only [List.getElem?_toArray, List.getElem?_cons_succ, List.getElem?_cons_zero] <;> rfl)
    case hw14 => rfl
    case hy14 => (intro w' hSw; have jA := fun o => (hSw.cell (p := ⟨w.heap.size, o, none⟩) zA0).trans (kA0 o); go_simp; (try with_reducible rfl))
    case rest14 =>
    (try simp only [Act.put, List.setIfInBounds_toArray, List.set_cons_zero, List.set_cons_succ])
    refine Goes.take (i := 4) (oi := ?oi15) (x := .agg (SG.toList).toArray) ?ho15 (by kernel_rfl) (by kernel_rfl) (by kernel_rfl) (by kernel_rfl) (fun _ _ _ h => h) ?hy15 HS0.out ?rest15
    case ho15 => (simp only [List.getElem?_toArray, List.getElem?_cons_succ, List.getElem?_cons_zero] <;> rfl)
    case hy15 => exact yieldsIf_load_mid (by rfl) 55 _ rfl (w.heap.size + 1) (0) (by rfl) (SG.toList) _ (fun w' hSw => bx_range (fun o => (hSw.cell (p := ⟨w.heap.size + 1, o, none⟩) zS0).trans (kS0 o))) Tryz.underlying55 rfl HIS.out
    case rest15 =>
    (try simp only [Act.put, List.setIfInBounds_toArray, List.set_cons_zero, List.set_cons_succ])
    refine Goes.all (rs := [5]) (by kernel_rfl) (by simp) ?_
    refine Ups.cons (i := 5) (o := ?oo16) ?ho16 (fun KK hKK => ?stp16) Ups.nil
    case ho16 => (simp only [List.getElem?_toArray, List.getElem?_cons_succ, List.getElem?_cons_zero] <;> rfl)
    case stp16 =>
    go_simp
    go_at_call 48
    refine (HLW.out _ HB.out kA).mono ?_
    rintro e W5 ⟨rfl, hb⟩
    have HS1 : Hid (Below W3.heap.size W3 W5) := HS0.out.trans (hb.mono HS0.out.size)
    replace kA := bx_below kA zA hb
    replace zA := Nat.lt_of_lt_of_le zA hb.size
    replace kS := bx_below kS zS hb
    replace zS := Nat.lt_of_lt_of_le zS hb.size
    replace kR := bx_below kR zR hb
    replace fR := bxF fR hb zR
    replace zR := Nat.lt_of_lt_of_le zR hb.size
    replace HB : Hid (Below w.heap.size w W5) := HB.out.trans (hb.mono HB.out.size)
    clear hb
    dsimp only
    refine hKK.out _ _ (Or.inr HS1.out) ?_
    clear hKK KK
    (try simp only [Act.put, List.setIfInBounds_toArray, List.set_cons_zero, List.set_cons_succ])
    refine Goes.take (i := 6) (oi := ?oi17) (x := ?vx17) ?ho17 (by kernel_rfl) (by kernel_rfl) (by kernel_rfl) (by kernel_rfl) (fun _ _ _ h => h) (Or.inl ⟨?hw17, ?hy17⟩) HS1.out ?rest17
    case ho17 => (simp only [List.getElem?_toArray, List.getElem?_cons_succ, List.getElem?_cons_zero] <;> rfl)
    case hw17 => rfl
    case hy17 => (intro w' hSw; have jA := fun o => (hSw.cell (p := ⟨w.heap.size, o, none⟩) zA0).trans (kA0 o); go_simp; (try with_reducible rfl))
    case rest17 =>
    (try simp only [Act.put, List.setIfInBounds_toArray, List.set_cons_zero, List.set_cons_succ])
    refine Goes.take (i := 7) (oi := ?oi18) (x := ?vx18) ?ho18 (by kernel_rfl) (by kernel_rfl) (by kernel_rfl) (by kernel_rfl) (fun _ _ _ h => h) (Or.inl ⟨?hw18, ?hy18⟩) HS1.out ?rest18
    case ho18 => (simp only [List.getElem?_toArray, List.getElem?_cons_succ, List.getElem?_cons_zero] <;> rfl)
    case hw18 => rfl
    case hy18 => (intro w' hSw; have jA := fun o => (hSw.cell (p := ⟨w.heap.size, o, none⟩) zA0).trans (kA0 o); go_simp; (try with_reducible rfl))
    case rest18 =>
    (try simp only [Act.put, List.setIfInBounds_toArray, List.set_cons_zero, List.set_cons_succ])
    refine Goes.take (i := 8) (oi := ?oi19) (x := ?vx19) ?ho19 (by kernel_rfl) (by kernel_rfl) (by kernel_rfl) (by kernel_rfl) (fun _ _ _ h => h) (Or.inl ⟨?hw19, ?hy19⟩) HS1.out ?rest19
    case ho19 => (simp only [List.getElem?_toArray, List.getElem?_cons_succ, List.getElem?_cons_zero] <;> rfl)
    case hw19 => rfl
    case hy19 => (intro w' hSw; have jA := fun o => (hSw.cell (p := ⟨w.heap.size, o, none⟩) zA0).trans (kA0 o); go_simp; (try with_reducible rfl))
    case rest19 =>
    (try simp only [Act.put, List.setIfInBounds_toArray, List.set_cons_zero, List.set_cons_succ])
    refine Goes.take (i := 9) (oi := ?oi20) (x := ?vx20) ?ho20 (by kernel_rfl) (by kernel_rfl) (by kernel_rfl) (by kernel_rfl) (fun _ _ _ h => h) (Or.inl ⟨?hw20, ?hy20⟩) HS1.out ?rest20
    case ho20 => (simp only [List.getElem?_toArray, List.getElem?_cons_succ, List.getElem?_cons_zero] <;> rfl)
    case hw20 => rfl
    case hy20 => (intro w' hSw; have jA := fun o => (hSw.cell (p := ⟨w.heap.size, o, none⟩) zA0).trans (kA0 o); go_simp; (try with_reducible rfl))
    case rest20 =>
    (try simp only [Act.put, List.setIfInBounds_toArray, List.set_cons_zero, List.set_cons_succ])
    refine Goes.take (i := 10) (oi := ?oi21) (x := ?vx21) ?ho21 (by kernel_rfl) (by kernel_rfl) (by kernel_rfl) (by kernel_rfl) (fun _ _ _ h => h) (Or.inl ⟨?hw21, ?hy21⟩) HS1.out ?rest21
    case ho21 => (simp only [List.getElem?_toArray, List.getElem?_cons_succ, List.getElem?_cons_zero] <;> rfl)
    case hw21 => rfl
    case hy21 => (intro w' hSw; have jA := fun o => (hSw.cell (p := ⟨w.heap.size, o, none⟩) zA0).trans (kA0 o); go_simp; (try with_reducible rfl))
    case rest21 =>
    (try simp only [Act.put, List.setIfInBounds_toArray, List.set_cons_zero, List.set_cons_succ])
    refine Goes.done (by kernel_rfl) ?_ _
    refine NoPanic.normal ?_
    clear HS0 HS1 HB0 kA0 zA0 kS0 zS0
    have h' := HH.out
    go_wp2_with fail
    refine bodyPost_ret (results_box Tryz.results19 _ _ _ #[.int .i64 0, .int .i64 RV] _ (by rfl) (bx2c kR) Tryz.underlying53 rfl info_IntR) rfl ⟨rfl, ?_⟩
    exact Below.setCell (Below.setCell HB.out (by dsimp only; omega) _) (by dsimp only; omega) _
  case neg =>
    rw [if_neg hc]
    have HH : Hid ((RC != 0) = true) := by show _ = _; simp [hc]
    clear hc
    have HWA : Hid (Below w.heap.size w (((w.alloc (.cells A 35)).alloc (.cells SG 55)).alloc (.cells #[.int .i64 0, .int .i64 0] 53)) ∧ (((w.alloc (.cells A 35)).alloc (.cells SG 55)).alloc (.cells #[.int .i64 0, .int .i64 0] 53)).heap.size = w.heap.size + 3 ∧ (∀ o, (((w.alloc (.cells A 35)).alloc (.cells SG 55)).alloc (.cells #[.int .i64 0, .int .i64 0] 53)).cell? ⟨w.heap.size, o, none⟩ = (A : Array Value)[o]?) ∧ (∀ o, (((w.alloc (.cells A 35)).alloc (.cells SG 55)).alloc (.cells #[.int .i64 0, .int .i64 0] 53)).cell? ⟨w.heap.size + 1, o, none⟩ = (SG : Array Value)[o]?) ∧ (∀ o, (((w.alloc (.cells A 35)).alloc (.cells SG 55)).alloc (.cells #[.int .i64 0, .int .i64 0] 53)).cell? ⟨w.heap.size + 2, o, none⟩ = (#[.int .i64 0, .int .i64 0] : Array Value)[o]?) ∧ (∀ o, (((w.alloc (.cells A 35)).alloc (.cells SG 55)).alloc (.cells #[.int .i64 0, .int .i64 0] 53)).frozen? ⟨w.heap.size + 2, o, none⟩ = false)) := ⟨((((Below.refl _ _).alloc (Nat.le_refl _) _).alloc (by simp) _).alloc (by simp; omega) _), by simp, fun o => by simp [go_sem], fun o => by simp [go_sem], fun o => by simp [go_sem], fun o => by simp [go_sem]⟩
    go_enter Tryz.func19, Tryz.ntmps19
    go_upto_region 1 with fail
    generalize hWW : (((w.alloc (.cells A 35)).alloc (.cells SG 55)).alloc (.cells #[.int .i64 0, .int .i64 0] 53)) = W1 at HWA ⊢
    clear hWW
    obtain ⟨hb, hsz, kA, kS, kR, fR⟩ := HWA.out
    clear HWA
    have HB : Hid (Below w.heap.size w W1) := hb
    have zA : w.heap.size < W1.heap.size := by omega
    have zS : w.heap.size + 1 < W1.heap.size := by omega
    have zR : w.heap.size + 2 < W1.heap.size := by omega
    clear hb hsz
    go_wp2_with fail
    refine (HF.out _ HB.out kA).mono ?_
    rintro e W2 ⟨rfl, hb⟩
    replace kA := bx_below kA zA hb
    replace zA := Nat.lt_of_lt_of_le zA hb.size
    replace kS := bx_below kS zS hb
    replace zS := Nat.lt_of_lt_of_le zS hb.size
    replace kR := bx_below kR zR hb
    replace fR := bxF fR hb zR
    replace zR := Nat.lt_of_lt_of_le zR hb.size
    replace HB : Hid (Below w.heap.size w W2) := HB.out.trans (hb.mono HB.out.size)
    clear hb
    go_wp2_with (first | (refine wpList_load_mid rfl 55 _ rfl _ _ (by rfl) SG.toList _ (bx_range kS) Tryz.underlying55 rfl HIS.out ?_))
    refine (HG.out _ HB.out).mono ?_
    rintro e W3 ⟨rfl, hb⟩
    replace kA := bx_below kA zA hb
    replace zA := Nat.lt_of_lt_of_le zA hb.size
    replace kS := bx_below kS zS hb
    replace zS := Nat.lt_of_lt_of_le zS hb.size
    replace kR := bx_below kR zR hb
    replace fR := bxF fR hb zR
    replace zR := Nat.lt_of_lt_of_le zR hb.size
    replace HB : Hid (Below w.heap.size w W3) := HB.out.trans (hb.mono HB.out.size)
    clear hb
    go_wp2_with fail
    refine (HO.out _ HB.out kA).mono ?_
    rintro e w' ⟨rfl, hw⟩
    subst w'
    go_upto_region 10 with fail
    have HB0 : Hid (Below w.heap.size w W3) := HB.out
    have kA0 := kA
    have zA0 := zA
    have kS0 := kS
    have zS0 := zS
    refine wp_region_noPanic ?_
    refine Goes.start (S := fun w' => Below W3.heap.size W3 w') (z := 100) (by kernel_rfl) ?_
    have hb : Below W3.heap.size W3 W3.drew := Below.drew (Below.refl _ _)
    generalize hWW : W3.drew = W4 at hb ⊢
    clear hWW
    have HS0 : Hid (Below W3.heap.size W3 W4) := hb
    replace kA := bx_below kA zA hb
    replace zA := Nat.lt_of_lt_of_le zA hb.size
    replace kS := bx_below kS zS hb
    replace zS := Nat.lt_of_lt_of_le zS hb.size
    replace kR := bx_below kR zR hb
    replace fR := bxF fR hb zR
    replace zR := Nat.lt_of_lt_of_le zR hb.size
    replace HB : Hid (Below w.heap.size w W4) := HB.out.trans (hb.mono HB.out.size)
    clear hb
    refine Goes.take (i := 0) (oi := ?oi51) (x := ?vx51) ?ho51 (by kernel_rfl) (by kernel_rfl) (by kernel_rfl) (by kernel_rfl) (fun _ _ _ h => h) (Or.inl ⟨?hw51, ?hy51⟩) HS0.out ?rest51
    case ho51 => (simp only [List.getElem?_toArray, List.getElem?_cons_zero] <;> rfl)
    case hw51 => rfl
    case hy51 => (intro w' hSw; have jA := fun o => (hSw.cell (p := ⟨w.heap.size, o, none⟩) zA0).trans (kA0 o); go_simp; (try with_reducible rfl))
    case rest51 =>
    (try simp only [Act.put, List.setIfInBounds_toArray, List.set_cons_zero, List.set_cons_succ])
    refine Goes.take (i := 1) (oi := ?oi52) (x := ?vx52) ?ho52 (by kernel_rfl) (by kernel_rfl) (by kernel_rfl) (by kernel_rfl) (fun _ _ _ h => h) (Or.inl ⟨?hw52, ?hy52⟩) HS0.out ?rest52
    case ho52 => (simp only [List.getElem?_toArray, List.getElem?_cons_succ, List.getElem?_cons_zero] <;> rfl)
    case hw52 => rfl
    case hy52 => (intro w' hSw; have jA := fun o => (hSw.cell (p := ⟨w.heap.size, o, none⟩) zA0).trans (kA0 o); go_simp; (try with_reducible rfl))
    case rest52 =>
    (try simp only [Act.put, List.setIfInBounds_toArray, List.set_cons_zero, List.set_cons_succ])
    refine Goes.take (i := 2) (oi := ?oi53) (x := ?vx53) ?ho53 (by kernel_rfl) (by kernel_rfl) (by kernel_rfl) (by kernel_rfl) (fun _ _ _ h => h) (Or.inl ⟨?hw53, ?hy53⟩) HS0.out ?rest53
    case ho53 => (simp only [List.getElem?_toArray, List.getElem?_cons_succ, List.getElem?_cons_zero] <;> rfl)
    case hw53 => rfl
    case hy53 => (intro w' hSw; have jA := fun o => (hSw.cell (p := ⟨w.heap.size, o, none⟩) zA0).trans (kA0 o); go_simp; (try with_reducible rfl))
    case rest53 =>
    (try simp only [Act.put, List.setIfInBounds_toArray, List.set_cons_zero, List.set_cons_succ])
    refine Goes.take (i := 3) (oi := ?oi54) (x := ?vx54) ?ho54 (by kernel_rfl) (by kernel_rfl) (by kernel_rfl) (by kernel_rfl) (fun _ _ _ h => h) (Or.inl ⟨?hw54, ?hy54⟩) HS0.out ?rest54
    case ho54 => (simp only [List.getElem?_toArray, List.getElem?_cons_succ, List.getElem?_cons_zero] <;> rfl)
    case hw54 => rfl
    case hy54 => (intro w' hSw; have jA := fun o => (hSw.cell (p := ⟨w.heap.size, o, none⟩) zA0).trans (kA0 o); go_simp; (try with_reducible rfl))
    case rest54 =>
    (try simp only [Act.put, List.setIfInBounds_toArray, List.set_cons_zero, List.set_cons_succ])
    refine Goes.take (i := 4) (oi := ?oi55) (x := .agg (SG.toList).toArray) ?ho55 (by kernel_rfl) (by kernel_rfl) (by kernel_rfl) (by kernel_rfl) (fun _ _ _ h => h) ?hy55 HS0.out ?rest55
    case ho55 => (simp only [List.getElem?_toArray, List.getElem?_cons_succ, List.getElem?_cons_zero] <;> rfl)
    case hy55 => exact yieldsIf_load_mid (by rfl) 55 _ rfl (w.heap.size + 1) (0) (by rfl) (SG.toList) _ (fun w' hSw => bx_range (fun o => (hSw.cell (p := ⟨w.heap.size + 1, o, none⟩) zS0).trans (kS0 o))) Tryz.underlying55 rfl HIS.out
    case rest55 =>
    (try simp only [Act.put, List.setIfInBounds_toArray, List.set_cons_zero, List.set_cons_succ])
    refine Goes.all (rs := [5]) (by kernel_rfl) (by simp) ?_
    refine Ups.cons (i := 5) (o := ?oo56) ?ho56 (fun KK hKK => ?stp56) Ups.nil
    case ho56 => (simp only [List.getElem?_toArray, List.getElem?_cons_succ, List.getElem?_cons_zero] <;> rfl)
    case stp56 =>
    go_simp
    go_at_call 48
    refine (HLW.out _ HB.out kA).mono ?_
    rintro e W5 ⟨rfl, hb⟩
    have HS1 : Hid (Below W3.heap.size W3 W5) := HS0.out.trans (hb.mono HS0.out.size)
    replace kA := bx_below kA zA hb
    replace zA := Nat.lt_of_lt_of_le zA hb.size
    replace kS := bx_below kS zS hb
    replace zS := Nat.lt_of_lt_of_le zS hb.size
    replace kR := bx_below kR zR hb
    replace fR := bxF fR hb zR
    replace zR := Nat.lt_of_lt_of_le zR hb.size
    replace HB : Hid (Below w.heap.size w W5) := HB.out.trans (hb.mono HB.out.size)
    clear hb
    dsimp only
    refine hKK.out _ _ (Or.inr HS1.out) ?_
    clear hKK KK
    (try simp only [Act.put, List.setIfInBounds_toArray, List.set_cons_zero, List.set_cons_succ])
    refine Goes.take (i := 6) (oi := ?oi57) (x := ?vx57) ?ho57 (by kernel_rfl) (by kernel_rfl) (by kernel_rfl) (by kernel_rfl) (fun _ _ _ h => h) (Or.inl ⟨?hw57, ?hy57⟩) HS1.out ?rest57
    case ho57 => (simp only [List.getElem?_toArray, List.getElem?_cons_succ, List.getElem?_cons_zero] <;> rfl)
    case hw57 => rfl
    case hy57 => (intro w' hSw; have jA := fun o => (hSw.cell (p := ⟨w.heap.size, o, none⟩) zA0).trans (kA0 o); go_simp; (try with_reducible rfl))
    case rest57 =>
    (try simp only [Act.put, List.setIfInBounds_toArray, List.set_cons_zero, List.set_cons_succ])
    refine Goes.take (i := 7) (oi := ?oi58) (x := ?vx58) ?ho58 (by kernel_rfl) (by kernel_rfl) (by kernel_rfl) (by kernel_rfl) (fun _ _ _ h => h) (Or.inl ⟨?hw58, ?hy58⟩) HS1.out ?rest58
    case ho58 => (simp only [List.getElem?_toArray, List.getElem?_cons_succ, List.getElem?_cons_zero] <;> rfl)
    case hw58 => rfl
    case hy58 => (intro w' hSw; have jA := fun o => (hSw.cell (p := ⟨w.heap.size, o, none⟩) zA0).trans (kA0 o); go_simp; (try with_reducible rfl))
    case rest58 =>
    (try simp only [Act.put, List.setIfInBounds_toArray, List.set_cons_zero, List.set_cons_succ])
    refine Goes.take (i := 8) (oi := ?oi59) (x := ?vx59) ?ho59 (by kernel_rfl) (by kernel_rfl) (by kernel_rfl) (by kernel_rfl) (fun _ _ _ h => h) (Or.inl ⟨?hw59, ?hy59⟩) HS1.out ?rest59
    case ho59 => (simp only [List.getElem?_toArray, List.getElem?_cons_succ, List.getElem?_cons_zero] <;> rfl)
    case hw59 => rfl
    case hy59 => (intro w' hSw; have jA := fun o => (hSw.cell (p := ⟨w.heap.size, o, none⟩) zA0).trans (kA0 o); go_simp; (try with_reducible rfl))
    case rest59 =>
    (try simp only [Act.put, List.setIfInBounds_toArray, List.set_cons_zero, List.set_cons_succ])
    refine Goes.take (i := 9) (oi := ?oi60) (x := ?vx60) ?ho60 (by kernel_rfl) (by kernel_rfl) (by kernel_rfl) (by kernel_rfl) (fun _ _ _ h => h) (Or.inl ⟨?hw60, ?hy60⟩) HS1.out ?rest60
    case ho60 => (simp only [List.getElem?_toArray, List.getElem?_cons_succ, List.getElem?_cons_zero] <;> rfl)
    case hw60 => rfl
    case hy60 => (intro w' hSw; have jA := fun o => (hSw.cell (p := ⟨w.heap.size, o, none⟩) zA0).trans (kA0 o); go_simp; (try with_reducible rfl))
    case rest60 =>
    (try simp only [Act.put, List.setIfInBounds_toArray, List.set_cons_zero, List.set_cons_succ])
    refine Goes.take (i := 10) (oi := ?oi61) (x := ?vx61) ?ho61 (by kernel_rfl) (by kernel_rfl) (by kernel_rfl) (by kernel_rfl) (fun _ _ _ h => h) (Or.inl ⟨?hw61, ?hy61⟩) HS1.out ?rest61
    case ho61 => (simp only [List.getElem?_toArray, List.getElem?_cons_succ, List.getElem?_cons_zero] <;> rfl)
    case hw61 => rfl
    case hy61 => (intro w' hSw; have jA := fun o => (hSw.cell (p := ⟨w.heap.size, o, none⟩) zA0).trans (kA0 o); go_simp; (try with_reducible rfl))
    case rest61 =>
    (try simp only [Act.put, List.setIfInBounds_toArray, List.set_cons_zero, List.set_cons_succ])
    refine Goes.done (by kernel_rfl) ?_ _
    refine NoPanic.normal ?_
    clear HS0 HS1 HB0 kA0 zA0 kS0 zS0
    have h' := HH.out
    go_wp2_with fail
    refine bodyPost_ret (results_box Tryz.results19 _ _ _ #[.int .i64 RC, .int .i64 0] _ (by rfl) (bx2c kR) Tryz.underlying53 rfl info_IntR) rfl ⟨rfl, ?_⟩
    exact Below.setCell (Below.setCell HB.out (by dsimp only; omega) _) (by dsimp only; omega) _
end Go.Proofs.YtbdibjeemgkdaaaGreatDoor
