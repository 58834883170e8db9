/- What is told of a path and how a join is proved, by program and model; nothing that was in memory turns; no condition. Written by mkknown.py. -/
import Derived.Test.YtbdibjeemgkdaaaGreatRows
import Derived.Deep.RegionHeld3
import Derived.Deep.DeepCutAuto
import Derived.Deep.MidRow
import Derived.Test.YtbdibjeemgkdaaaGreatK01
import Derived.Test.YtbdibjeemgkdaaaGreatK02
import Derived.Test.YtbdibjeemgkdaaaGreatK03
import Derived.Test.YtbdibjeemgkdaaaGreatK04
import Derived.Test.YtbdibjeemgkdaaaGreatK05
import Derived.Test.YtbdibjeemgkdaaaGreatK06
import Derived.Test.YtbdibjeemgkdaaaGreatK07
import Derived.Test.YtbdibjeemgkdaaaGreatK09
import Derived.Test.YtbdibjeemgkdaaaGreatK10
import Derived.Test.YtbdibjeemgkdaaaGreatK11
import Derived.Test.YtbdibjeemgkdaaaGreatK12
import Derived.Test.YtbdibjeemgkdaaaGreatK13
import Derived.Test.YtbdibjeemgkdaaaGreatK14
import Derived.Test.YtbdibjeemgkdaaaGreatK15
import Derived.Test.YtbdibjeemgkdaaaGreatK16
import Derived.Test.YtbdibjeemgkdaaaGreatK20
import Derived.Test.YtbdibjeemgkdaaaGreatK21
import Derived.Test.YtbdibjeemgkdaaaGreatK22
import Derived.Test.YtbdibjeemgkdaaaGreatK23
namespace Go.Proofs.YtbdibjeemgkdaaaGreat
open Go.RowKit
set_option linter.unusedVariables false
set_option maxRecDepth 8000

set_option maxHeartbeats 8000000 in
theorem iKnownOf0 (A X : Array Value) (sd pa : Int) (pl : Bool) (s0 s1 s2 : Int) (u : Value) (c0 c1 : Int) (v : Value) (q1 SQ q2 AK EN DA : Int) (w : World) (hA : A.size = 14) (hX : X.size = 16) (a0 : A[0]? = some (.int .i64 sd)) (a3 : A[3]? = some (.bool pl)) (x0 : X[0]? = some (.int .i64 pa)) (x6 : X[6]? = some (.int .i64 s0)) (x7 : X[7]? = some (.int .i64 s1)) (x8 : X[8]? = some (.int .i64 s2)) (x9 : X[9]? = some u) (x10 : X[10]? = some (.int .i64 c0)) (x11 : X[11]? = some (.int .i64 c1)) (x12 : X[12]? = some v)
    (HQ : ∀ W, Below w.heap.size w W → Calls Tryz.prog 60 #[.agg #[.int .i64 s0, .int .i64 s1, .int .i64 s2, u], .int .i64 s1] W fun e w' => e = .returned (.agg #[.int .i64 q1, .int .i64 SQ]) ∧ Below W.heap.size W w')
    (HK : ∀ W, Below w.heap.size w W → Calls Tryz.prog 98 #[.agg #[.int .i64 c0, .int .i64 c1, v]] W fun e w' => e = .returned (.agg #[.int .i64 q2, .int .i64 AK]) ∧ Below W.heap.size W w')
    (HE : ∀ W, Below w.heap.size w W → Calls Tryz.prog 99 #[.agg A] W fun e w' => e = .returned (.int .i64 EN) ∧ Below W.heap.size W w')
    (HD : ∀ W, Below w.heap.size w W → Calls Tryz.prog 100 #[.agg A] W fun e w' => e = .returned (.int .i64 DA) ∧ Below W.heap.size W w') :
    Calls Tryz.prog 59 #[.agg A, .agg X] w fun e w' => e = .returned (.agg #[.int .i64 pa, .int .i64 sd, .bool false, .bool true, .bool false, .int .i64 SQ, .int .i64 AK, .int .i64 EN, .int .i64 (if pl then 0 else 4), .int .i64 (if pl then 0 else DA), .int .i64 0, .slice none 0 0]) ∧ Below w.heap.size w w' := by
  have HIA : Hid ((Tryz.prog.info? 40).map (·.size) = some A.toList.length) := by show _ = _; rw [Array.length_toList, hA]; exact (by kernel_rfl : (Tryz.prog.info? 40).map (·.size) = some 14)
  have HIX : Hid ((Tryz.prog.info? 66).map (·.size) = some X.toList.length) := by show _ = _; rw [Array.length_toList, hX]; exact (by kernel_rfl : (Tryz.prog.info? 66).map (·.size) = some 16)
  clear hA hX
  have HIS : Hid ((Tryz.prog.info? 59).map (·.size) = some ([.int .i64 s0, .int .i64 s1, .int .i64 s2, u] : List Value).length) := (by kernel_rfl : (Tryz.prog.info? 59).map (·.size) = some 4)
  have HIC : Hid ((Tryz.prog.info? 62).map (·.size) = some ([.int .i64 c0, .int .i64 c1, v] : List Value).length) := (by kernel_rfl : (Tryz.prog.info? 62).map (·.size) = some 3)
  have HX4 := sub4 x6 x7 x8 x9
  have HX3 := sub3 x10 x11 x12
  have HXA : Hid _ := HX4
  have HXB : Hid _ := HX3
  clear HX4 HX3
  have hf1 := fldI
  obtain ⟨OP, hOP⟩ : ∃ x : Int, x = (if pl then 0 else 4) := ⟨_, rfl⟩
  obtain ⟨OA, hOA⟩ : ∃ x : Int, x = (if pl then 0 else DA) := ⟨_, rfl⟩
  rw [← hOP, ← hOA]
  have HOP : Hid _ := hOP
  have HOA : Hid _ := hOA
  clear hOP hOA
  obtain ⟨G, hG⟩ : ∃ G : Array Value, G = #[.int .i64 pa, .int .i64 sd, .bool false, .bool true, .bool false, .int .i64 SQ, .int .i64 AK, .int .i64 EN, .int .i64 0, .int .i64 0, .int .i64 0, .slice none 0 0] := ⟨_, rfl⟩
  have HG : Hid _ := hG
  have hGz : G.size = 12 := by rw [hG]; rfl
  have HGZ : Hid _ := hGz
  have HIG : Hid ((Tryz.prog.info? 31).map (·.size) = some G.size) := by show _ = _; rw [hGz]; exact (by kernel_rfl : (Tryz.prog.info? 31).map (·.size) = some 12)
  have HONE : Hid (G.all (·.oneCell') = true) := by show _ = _; rw [hG]; simp [Value.oneCell']
  clear hG hGz
  have HWA : Hid (SB2 w 3 w.heap.size (w.heap.size + 1) A X (((w.alloc (.cells A 40)).alloc (.cells X 66)).alloc (.cells #[.int .i64 0, .int .i64 0, .bool false, .bool false, .bool false, .int .i64 0, .int .i64 0, .int .i64 0, .int .i64 0, .int .i64 0, .int .i64 0, .slice none 0 0] 31)) ∧ (∀ o, (((w.alloc (.cells A 40)).alloc (.cells X 66)).alloc (.cells #[.int .i64 0, .int .i64 0, .bool false, .bool false, .bool false, .int .i64 0, .int .i64 0, .int .i64 0, .int .i64 0, .int .i64 0, .int .i64 0, .slice none 0 0] 31)).cell? ⟨w.heap.size + 2, o, none⟩ = (#[.int .i64 0, .int .i64 0, .bool false, .bool false, .bool false, .int .i64 0, .int .i64 0, .int .i64 0, .int .i64 0, .int .i64 0, .int .i64 0, .slice none 0 0] : Array Value)[o]?) ∧ (∀ o, (((w.alloc (.cells A 40)).alloc (.cells X 66)).alloc (.cells #[.int .i64 0, .int .i64 0, .bool false, .bool false, .bool false, .int .i64 0, .int .i64 0, .int .i64 0, .int .i64 0, .int .i64 0, .int .i64 0, .slice none 0 0] 31)).frozen? ⟨w.heap.size + 2, o, none⟩ = false)) := ⟨⟨(((Below.refl _ _).alloc (Nat.le_refl _) _).alloc (by simp) _).alloc (by simp; omega) _, by simp, fun o => by simp [go_sem], fun o => by simp [go_sem]⟩, fun o => by simp [go_sem], fun o => by simp [go_sem]⟩
  go_enter Tryz.func59, Tryz.ntmps59
  go_upto_region 1 with fail
  generalize hWA : (((w.alloc (.cells A 40)).alloc (.cells X 66)).alloc (.cells #[.int .i64 0, .int .i64 0, .bool false, .bool false, .bool false, .int .i64 0, .int .i64 0, .int .i64 0, .int .i64 0, .int .i64 0, .int .i64 0, .slice none 0 0] 31)) = WA at HWA ⊢
  clear hWA
  obtain ⟨HSA, kR, fR⟩ := HWA.out
  have k0 := HSA.k0
  have k1 := HSA.k1
  have hzA := HSA.sz
  have HS : Hid _ := HSA
  clear HSA HWA
  go_cut [5] (fun u wx => ∃ g, u = .pointer (some ⟨g, 0, none⟩) ∧ KB w A X #[.int .i64 0, .int .i64 0, .bool false, .bool false, .bool false, .int .i64 0, .int .i64 0, .int .i64 0, .int .i64 0, .int .i64 0, .int .i64 0, .slice none 0 0] G g wx)
  case first =>
    refine wp_region_noPanic ?_
    refine Goes.start (S := SB2 w 3 w.heap.size (w.heap.size + 1) A X) (z := 100) (by kernel_rfl) ?_
    replace kR : ∀ o, WA.drew.cell? ⟨w.heap.size + 2, o, none⟩ = (#[.int .i64 0, .int .i64 0, .bool false, .bool false, .bool false, .int .i64 0, .int .i64 0, .int .i64 0, .int .i64 0, .int .i64 0, .int .i64 0, .slice none 0 0] : Array Value)[o]? := kR
    replace fR : ∀ o, WA.drew.frozen? ⟨w.heap.size + 2, o, none⟩ = false := fR
    have HSD : Hid (SB2 w 3 w.heap.size (w.heap.size + 1) A X WA.drew) := HS.out.drew
    clear k0 k1 hzA HS
    generalize hD : WA.drew = WD at kR fR HSD ⊢
    clear hD WA
    refine Goes.take (i := 0) (oi := ?oi11) (x := ?vx11) ?ho11 (by kernel_rfl) (by kernel_rfl) (by kernel_rfl) (by kernel_rfl) (fun _ _ _ h => h) (Or.inl ⟨?hw11, ?hy11⟩) HSD.out ?rest11
    case ho11 => (simp only [List.getElem?_toArray, List.getElem?_cons_zero]; rfl)
    case hw11 => rfl
    case hy11 => (intro w' hSw; have j0 := hSw.k0; have j1 := hSw.k1; go_simp; (try with_reducible rfl))
    case rest11 =>
    (try simp only [Act.put, List.setIfInBounds_toArray, List.set_cons_zero, List.set_cons_succ])
    refine Goes.take (i := 1) (oi := ?oi12) (x := ?vx12) ?ho12 (by kernel_rfl) (by kernel_rfl) (by kernel_rfl) (by kernel_rfl) (fun _ _ _ h => h) (Or.inl ⟨?hw12, ?hy12⟩) HSD.out ?rest12
    case ho12 => (simp only [List.getElem?_toArray, List.getElem?_cons_succ, List.getElem?_cons_zero]; rfl)
    case hw12 => rfl
    case hy12 => (intro w' hSw; have j0 := hSw.k0; have j1 := hSw.k1; go_simp; (try with_reducible rfl))
    case rest12 =>
    (try simp only [Act.put, List.setIfInBounds_toArray, List.set_cons_zero, List.set_cons_succ])
    refine Goes.take (i := 2) (oi := ?oi13) (x := ?vx13) ?ho13 (by kernel_rfl) (by kernel_rfl) (by kernel_rfl) (by kernel_rfl) (fun _ _ _ h => h) (Or.inl ⟨?hw13, ?hy13⟩) HSD.out ?rest13
    case ho13 => (simp only [List.getElem?_toArray, List.getElem?_cons_succ, List.getElem?_cons_zero]; rfl)
    case hw13 => rfl
    case hy13 => (intro w' hSw; have j0 := hSw.k0; have j1 := hSw.k1; go_simp; (try with_reducible rfl))
    case rest13 =>
    (try simp only [Act.put, List.setIfInBounds_toArray, List.set_cons_zero, List.set_cons_succ])
    refine Goes.take (i := 3) (oi := ?oi14) (x := ?vx14) ?ho14 (by kernel_rfl) (by kernel_rfl) (by kernel_rfl) (by kernel_rfl) (fun _ _ _ h => h) (Or.inl ⟨?hw14, ?hy14⟩) HSD.out ?rest14
    case ho14 => (simp only [List.getElem?_toArray, List.getElem?_cons_succ, List.getElem?_cons_zero]; rfl)
    case hw14 => rfl
    case hy14 => (intro w' hSw; have j0 := hSw.k0; have j1 := hSw.k1; go_simp; (try with_reducible rfl))
    case rest14 =>
    (try simp only [Act.put, List.setIfInBounds_toArray, List.set_cons_zero, List.set_cons_succ])
    refine Goes.take (i := 4) (oi := ?oi15) (x := ?vx15) ?ho15 (by kernel_rfl) (by kernel_rfl) (by kernel_rfl) (by kernel_rfl) (fun _ _ _ h => h) (Or.inl ⟨?hw15, ?hy15⟩) HSD.out ?rest15
    case ho15 => (simp only [List.getElem?_toArray, List.getElem?_cons_succ, List.getElem?_cons_zero]; rfl)
    case hw15 => rfl
    case hy15 => (intro w' hSw; have j0 := hSw.k0; have j1 := hSw.k1; go_simp; (try with_reducible rfl))
    case rest15 =>
    (try simp only [Act.put, List.setIfInBounds_toArray, List.set_cons_zero, List.set_cons_succ])
    refine Goes.take (i := 5) (oi := ?oi16) (x := .agg ([.int .i64 s0, .int .i64 s1, .int .i64 s2, u]).toArray) ?ho16 (by kernel_rfl) (by kernel_rfl) (by kernel_rfl) (by kernel_rfl) (fun _ _ _ h => h) ?hy16 HSD.out ?rest16
    case ho16 => (simp only [List.getElem?_toArray, List.getElem?_cons_succ, List.getElem?_cons_zero]; rfl)
    case hy16 => exact yieldsIf_load_mid (by rfl) 59 _ rfl (w.heap.size + 1) (6) (by rfl) ([.int .i64 s0, .int .i64 s1, .int .i64 s2, u]) _ (fun w' hSw => bx_sub hSw.k1 HXA.out) Tryz.underlying59 rfl HIS.out
    case rest16 =>
    (try simp only [Act.put, List.setIfInBounds_toArray, List.set_cons_zero, List.set_cons_succ])
    refine Goes.take (i := 6) (oi := ?oi17) (x := ?vx17) ?ho17 (by kernel_rfl) (by kernel_rfl) (by kernel_rfl) (by kernel_rfl) (fun _ _ _ h => h) (Or.inl ⟨?hw17, ?hy17⟩) HSD.out ?rest17
    case ho17 => (simp only [List.getElem?_toArray, List.getElem?_cons_succ, List.getElem?_cons_zero]; rfl)
    case hw17 => rfl
    case hy17 => (intro w' hSw; have j0 := hSw.k0; have j1 := hSw.k1; go_simp; (try with_reducible rfl))
    case rest17 =>
    (try simp only [Act.put, List.setIfInBounds_toArray, List.set_cons_zero, List.set_cons_succ])
    refine Goes.take (i := 7) (oi := ?oi18) (x := ?vx18) ?ho18 (by kernel_rfl) (by kernel_rfl) (by kernel_rfl) (by kernel_rfl) (fun _ _ _ h => h) (Or.inl ⟨?hw18, ?hy18⟩) HSD.out ?rest18
    case ho18 => (simp only [List.getElem?_toArray, List.getElem?_cons_succ, List.getElem?_cons_zero]; rfl)
    case hw18 => rfl
    case hy18 => (intro w' hSw; have j0 := hSw.k0; have j1 := hSw.k1; go_simp; (try with_reducible rfl))
    case rest18 =>
    (try simp only [Act.put, List.setIfInBounds_toArray, List.set_cons_zero, List.set_cons_succ])
    refine Goes.take (i := 8) (oi := ?oi19) (x := ?vx19) ?ho19 (by kernel_rfl) (by kernel_rfl) (by kernel_rfl) (by kernel_rfl) (fun _ _ _ h => h) (Or.inl ⟨?hw19, ?hy19⟩) HSD.out ?rest19
    case ho19 => (simp only [List.getElem?_toArray, List.getElem?_cons_succ, List.getElem?_cons_zero]; rfl)
    case hw19 => rfl
    case hy19 => (intro w' hSw; have j0 := hSw.k0; have j1 := hSw.k1; go_simp; (try with_reducible rfl))
    case rest19 =>
    (try simp only [Act.put, List.setIfInBounds_toArray, List.set_cons_zero, List.set_cons_succ])
    refine Goes.take (i := 11) (oi := ?oi20) (x := ?vx20) ?ho20 (by kernel_rfl) (by kernel_rfl) (by kernel_rfl) (by kernel_rfl) (fun _ _ _ h => h) (Or.inl ⟨?hw20, ?hy20⟩) HSD.out ?rest20
    case ho20 => (simp only [List.getElem?_toArray, List.getElem?_cons_succ, List.getElem?_cons_zero]; rfl)
    case hw20 => rfl
    case hy20 => (intro w' hSw; have j0 := hSw.k0; have j1 := hSw.k1; go_simp; (try with_reducible rfl))
    case rest20 =>
    (try simp only [Act.put, List.setIfInBounds_toArray, List.set_cons_zero, List.set_cons_succ])
    refine Goes.take (i := 12) (oi := ?oi21) (x := .agg ([.int .i64 c0, .int .i64 c1, v]).toArray) ?ho21 (by kernel_rfl) (by kernel_rfl) (by kernel_rfl) (by kernel_rfl) (fun _ _ _ h => h) ?hy21 HSD.out ?rest21
    case ho21 => (simp only [List.getElem?_toArray, List.getElem?_cons_succ, List.getElem?_cons_zero]; rfl)
    case hy21 => exact yieldsIf_load_mid (by rfl) 62 _ rfl (w.heap.size + 1) (10) (by rfl) ([.int .i64 c0, .int .i64 c1, v]) _ (fun w' hSw => bx_sub hSw.k1 HXB.out) Tryz.underlying62 rfl HIC.out
    case rest21 =>
    (try simp only [Act.put, List.setIfInBounds_toArray, List.set_cons_zero, List.set_cons_succ])
    refine Goes.take (i := 15) (oi := ?oi22) (x := .agg (A.toList).toArray) ?ho22 (by kernel_rfl) (by kernel_rfl) (by kernel_rfl) (by kernel_rfl) (fun _ _ _ h => h) ?hy22 HSD.out ?rest22
    case ho22 => (simp only [List.getElem?_toArray, List.getElem?_cons_succ, List.getElem?_cons_zero]; rfl)
    case hy22 => exact yieldsIf_load_mid (by rfl) 40 _ rfl (w.heap.size) (0) (by rfl) (A.toList) _ (fun w' hSw => bx_range hSw.k0) Tryz.underlying40 rfl HIA.out
    case rest22 =>
    (try simp only [Act.put, List.setIfInBounds_toArray, List.set_cons_zero, List.set_cons_succ])
    refine Goes.all (rs := [9, 18]) (by kernel_rfl) (by simp) ?_
    refine Ups.cons (i := 9) (o := ?oo23) ?ho23 (fun KK hKK => ?stp23) (Ups.cons (i := 18) (o := ?oo24) ?ho24 (fun KK hKK => ?stp24) Ups.nil)
    case ho23 => (simp only [List.getElem?_toArray, List.getElem?_cons_succ, List.getElem?_cons_zero]; rfl)
    case ho24 => (simp only [List.getElem?_toArray, List.getElem?_cons_succ, List.getElem?_cons_zero]; rfl)
    case stp23 =>
      go_simp
      go_at_call 60
      refine (HQ _ HSD.out.bl).mono ?_
      rintro e V1 ⟨rfl, hbq⟩
      have HSV1 : Hid (SB2 w 3 w.heap.size (w.heap.size + 1) A X V1) := SB2.below HSD.out hbq (by omega) (by omega)
      replace kR := bx_below kR (by have := HSD.out.sz; omega) hbq
      replace fR := bxF fR hbq (by have := HSD.out.sz; omega)
      clear hbq
      dsimp only
      refine hKK.out _ _ (Or.inr HSV1.out) ?_
      clear hKK KK
      (try simp only [Act.put, List.setIfInBounds_toArray, List.set_cons_zero, List.set_cons_succ])
      refine Goes.take (i := 10) (oi := ?oi25) (x := ?vx25) ?ho25 (by kernel_rfl) (by kernel_rfl) (by kernel_rfl) (by kernel_rfl) (fun _ _ _ h => h) (Or.inl ⟨?hw25, ?hy25⟩) HSV1.out ?rest25
      case ho25 => (simp only [List.getElem?_toArray, List.getElem?_cons_succ, List.getElem?_cons_zero]; rfl)
      case hw25 => rfl
      case hy25 => (intro w' hSw; have j0 := hSw.k0; have j1 := hSw.k1; go_simp; (try with_reducible rfl))
      case rest25 =>
      (try simp only [Act.put, List.setIfInBounds_toArray, List.set_cons_zero, List.set_cons_succ])
      refine Goes.all (rs := [13, 18]) (by kernel_rfl) (by simp) ?_
      refine Ups.cons (i := 13) (o := ?oo26) ?ho26 (fun KK hKK => ?stp26) (Ups.cons (i := 18) (o := ?oo27) ?ho27 (fun KK hKK => ?stp27) Ups.nil)
      case ho26 => (simp only [List.getElem?_toArray, List.getElem?_cons_succ, List.getElem?_cons_zero]; rfl)
      case ho27 => (simp only [List.getElem?_toArray, List.getElem?_cons_succ, List.getElem?_cons_zero]; rfl)
      case stp26 =>
        go_simp
        go_at_call 98
        refine (HK _ HSV1.out.bl).mono ?_
        rintro e V3 ⟨rfl, hbq⟩
        have HSV3 : Hid (SB2 w 3 w.heap.size (w.heap.size + 1) A X V3) := SB2.below HSV1.out hbq (by omega) (by omega)
        replace kR := bx_below kR (by have := HSV1.out.sz; omega) hbq
        replace fR := bxF fR hbq (by have := HSV1.out.sz; omega)
        clear hbq
        dsimp only
        refine hKK.out _ _ (Or.inr HSV3.out) ?_
        clear hKK KK
        (try simp only [Act.put, List.setIfInBounds_toArray, List.set_cons_zero, List.set_cons_succ])
        refine Goes.take (i := 14) (oi := ?oi28) (x := ?vx28) ?ho28 (by kernel_rfl) (by kernel_rfl) (by kernel_rfl) (by kernel_rfl) (fun _ _ _ h => h) (Or.inl ⟨?hw28, ?hy28⟩) HSV3.out ?rest28
        case ho28 => (simp only [List.getElem?_toArray, List.getElem?_cons_succ, List.getElem?_cons_zero]; rfl)
        case hw28 => rfl
        case hy28 => (intro w' hSw; have j0 := hSw.k0; have j1 := hSw.k1; go_simp; (try with_reducible rfl))
        case rest28 =>
        (try simp only [Act.put, List.setIfInBounds_toArray, List.set_cons_zero, List.set_cons_succ])
        refine Goes.all (rs := [16, 18]) (by kernel_rfl) (by simp) ?_
        refine Ups.cons (i := 16) (o := ?oo29) ?ho29 (fun KK hKK => ?stp29) (Ups.cons (i := 18) (o := ?oo30) ?ho30 (fun KK hKK => ?stp30) Ups.nil)
        case ho29 => (simp only [List.getElem?_toArray, List.getElem?_cons_succ, List.getElem?_cons_zero]; rfl)
        case ho30 => (simp only [List.getElem?_toArray, List.getElem?_cons_succ, List.getElem?_cons_zero]; rfl)
        case stp29 =>
          go_simp
          go_at_call 99
          refine (HE _ HSV3.out.bl).mono ?_
          rintro e V5 ⟨rfl, hbq⟩
          have HSV5 : Hid (SB2 w 3 w.heap.size (w.heap.size + 1) A X V5) := SB2.below HSV3.out hbq (by omega) (by omega)
          replace kR := bx_below kR (by have := HSV3.out.sz; omega) hbq
          replace fR := bxF fR hbq (by have := HSV3.out.sz; omega)
          clear hbq
          dsimp only
          refine hKK.out _ _ (Or.inr HSV5.out) ?_
          clear hKK KK
          (try simp only [Act.put, List.setIfInBounds_toArray, List.set_cons_zero, List.set_cons_succ])
          refine Goes.take (i := 17) (oi := ?oi31) (x := ?vx31) ?ho31 (by kernel_rfl) (by kernel_rfl) (by kernel_rfl) (by kernel_rfl) (fun _ _ _ h => h) (Or.inl ⟨?hw31, ?hy31⟩) HSV5.out ?rest31
          case ho31 => (simp only [List.getElem?_toArray, List.getElem?_cons_succ, List.getElem?_cons_zero]; rfl)
          case hw31 => rfl
          case hy31 => (intro w' hSw; have j0 := hSw.k0; have j1 := hSw.k1; go_simp; (try with_reducible rfl))
          case rest31 =>
          (try simp only [Act.put, List.setIfInBounds_toArray, List.set_cons_zero, List.set_cons_succ])
          refine Goes.all (rs := [18]) (by kernel_rfl) (by simp) ?_
          refine Ups.cons (i := 18) (o := ?oo32) ?ho32 (fun KK hKK => ?stp32) Ups.nil
          case ho32 => (simp only [List.getElem?_toArray, List.getElem?_cons_succ, List.getElem?_cons_zero]; rfl)
          case stp32 =>
          go_simp
          refine hKK.out _ _ (Or.inr (SB2.alloc HSV5.out _ (by omega) (by omega))) ?_
          clear hKK KK
          (try simp only [Act.put, List.setIfInBounds_toArray, List.set_cons_zero, List.set_cons_succ])
          have kG : ∀ o, (V5.alloc (.cells #[.int .i64 0, .int .i64 0, .bool false, .bool false, .bool false, .int .i64 0, .int .i64 0, .int .i64 0, .int .i64 0, .int .i64 0, .int .i64 0, .slice none 0 0] 31)).cell? ⟨V5.heap.size, o, none⟩ = (#[.int .i64 0, .int .i64 0, .bool false, .bool false, .bool false, .int .i64 0, .int .i64 0, .int .i64 0, .int .i64 0, .int .i64 0, .int .i64 0, .slice none 0 0] : Array Value)[o]? := bx_al V5 _ _
          have fG : ∀ o, (V5.alloc (.cells #[.int .i64 0, .int .i64 0, .bool false, .bool false, .bool false, .int .i64 0, .int .i64 0, .int .i64 0, .int .i64 0, .int .i64 0, .int .i64 0, .slice none 0 0] 31)).frozen? ⟨V5.heap.size, o, none⟩ = false := fx_al V5 _ _
          have hbq : Below V5.heap.size V5 (V5.alloc (.cells #[.int .i64 0, .int .i64 0, .bool false, .bool false, .bool false, .int .i64 0, .int .i64 0, .int .i64 0, .int .i64 0, .int .i64 0, .int .i64 0, .slice none 0 0] 31)) := (Below.refl _ _).alloc (Nat.le_refl _) _
          have zG : V5.heap.size < (V5.alloc (.cells #[.int .i64 0, .int .i64 0, .bool false, .bool false, .bool false, .int .i64 0, .int .i64 0, .int .i64 0, .int .i64 0, .int .i64 0, .int .i64 0, .slice none 0 0] 31)).heap.size := by simp
          have HSV7 : Hid (SB2 w 3 w.heap.size (w.heap.size + 1) A X (V5.alloc (.cells #[.int .i64 0, .int .i64 0, .bool false, .bool false, .bool false, .int .i64 0, .int .i64 0, .int .i64 0, .int .i64 0, .int .i64 0, .int .i64 0, .slice none 0 0] 31))) := SB2.below HSV5.out hbq (by omega) (by omega)
          have hlo : w.heap.size + 3 ≤ V5.heap.size := HSV5.out.sz
          generalize hWB : (V5.alloc (.cells #[.int .i64 0, .int .i64 0, .bool false, .bool false, .bool false, .int .i64 0, .int .i64 0, .int .i64 0, .int .i64 0, .int .i64 0, .int .i64 0, .slice none 0 0] 31)) = V7 at kG fG hbq zG HSV7 ⊢
          clear hWB
          replace kR := bx_below kR (by omega) hbq
          replace fR := bxF fR hbq (by omega)
          clear hbq
          obtain ⟨g, hg⟩ : ∃ g, g = V5.heap.size := ⟨_, rfl⟩
          rw [← hg] at kG fG zG hlo ⊢
          clear hg
          refine Goes.all (rs := [19]) (by kernel_rfl) (by simp) ?_
          refine Ups.cons (i := 19) (o := ?oo33) ?ho33 (fun KK hKK => ?stp33) Ups.nil
          case ho33 => (simp only [List.getElem?_toArray, List.getElem?_cons_succ, List.getElem?_cons_zero]; rfl)
          case stp33 =>
          rw [if_pos (by rfl)]
          refine wp_store_mid 31 _ _ rfl _ _ G (by rfl) (by rw [HG.out]; rfl) (bx_there kG fG (by rw [HGZ.out]; rfl)) HIG.out HONE.out ?_
          refine hKK.out _ _ (Or.inr (SB2.sets (g := g) HSV7.out (by omega) (by omega) (by omega))) ?_
          clear hKK KK
          (try simp only [Act.put])
          refine Goes.done (by kernel_rfl) ?_ _
          refine NoPanic.normal ?_
          go_wp2_with fail
          go_meet
          exact ⟨g, rfl, ⟨(SB2.sets (g := g) HSV7.out (by omega) (by omega) (by omega)), hlo, by rw [setCells_size]; exact zG, bx_setCells kG (by rw [HGZ.out]; rfl), fx_sets fG, bx_setOff kR (by omega), fx_sets fR⟩⟩
        case stp30 =>
          go_simp
          refine hKK.out _ _ (Or.inr (SB2.alloc HSV3.out _ (by omega) (by omega))) ?_
          clear hKK KK
          (try simp only [Act.put, List.setIfInBounds_toArray, List.set_cons_zero, List.set_cons_succ])
          have kG : ∀ o, (V3.alloc (.cells #[.int .i64 0, .int .i64 0, .bool false, .bool false, .bool false, .int .i64 0, .int .i64 0, .int .i64 0, .int .i64 0, .int .i64 0, .int .i64 0, .slice none 0 0] 31)).cell? ⟨V3.heap.size, o, none⟩ = (#[.int .i64 0, .int .i64 0, .bool false, .bool false, .bool false, .int .i64 0, .int .i64 0, .int .i64 0, .int .i64 0, .int .i64 0, .int .i64 0, .slice none 0 0] : Array Value)[o]? := bx_al V3 _ _
          have fG : ∀ o, (V3.alloc (.cells #[.int .i64 0, .int .i64 0, .bool false, .bool false, .bool false, .int .i64 0, .int .i64 0, .int .i64 0, .int .i64 0, .int .i64 0, .int .i64 0, .slice none 0 0] 31)).frozen? ⟨V3.heap.size, o, none⟩ = false := fx_al V3 _ _
          have hbq : Below V3.heap.size V3 (V3.alloc (.cells #[.int .i64 0, .int .i64 0, .bool false, .bool false, .bool false, .int .i64 0, .int .i64 0, .int .i64 0, .int .i64 0, .int .i64 0, .int .i64 0, .slice none 0 0] 31)) := (Below.refl _ _).alloc (Nat.le_refl _) _
          have zG : V3.heap.size < (V3.alloc (.cells #[.int .i64 0, .int .i64 0, .bool false, .bool false, .bool false, .int .i64 0, .int .i64 0, .int .i64 0, .int .i64 0, .int .i64 0, .int .i64 0, .slice none 0 0] 31)).heap.size := by simp
          have HSV6 : Hid (SB2 w 3 w.heap.size (w.heap.size + 1) A X (V3.alloc (.cells #[.int .i64 0, .int .i64 0, .bool false, .bool false, .bool false, .int .i64 0, .int .i64 0, .int .i64 0, .int .i64 0, .int .i64 0, .int .i64 0, .slice none 0 0] 31))) := SB2.below HSV3.out hbq (by omega) (by omega)
          have hlo : w.heap.size + 3 ≤ V3.heap.size := HSV3.out.sz
          generalize hWB : (V3.alloc (.cells #[.int .i64 0, .int .i64 0, .bool false, .bool false, .bool false, .int .i64 0, .int .i64 0, .int .i64 0, .int .i64 0, .int .i64 0, .int .i64 0, .slice none 0 0] 31)) = V6 at kG fG hbq zG HSV6 ⊢
          clear hWB
          replace kR := bx_below kR (by omega) hbq
          replace fR := bxF fR hbq (by omega)
          clear hbq
          obtain ⟨g, hg⟩ : ∃ g, g = V3.heap.size := ⟨_, rfl⟩
          rw [← hg] at kG fG zG hlo ⊢
          clear hg
          refine Goes.all (rs := [16]) (by kernel_rfl) (by simp) ?_
          refine Ups.cons (i := 16) (o := ?oo34) ?ho34 (fun KK hKK => ?stp34) Ups.nil
          case ho34 => (simp only [List.getElem?_toArray, List.getElem?_cons_succ, List.getElem?_cons_zero]; rfl)
          case stp34 =>
          go_simp
          go_at_call 99
          refine (HE _ HSV6.out.bl).mono ?_
          rintro e V8 ⟨rfl, hbq⟩
          have HSV8 : Hid (SB2 w 3 w.heap.size (w.heap.size + 1) A X V8) := SB2.below HSV6.out hbq (by omega) (by omega)
          replace kR := bx_below kR (by have := HSV6.out.sz; omega) hbq
          replace fR := bxF fR hbq (by have := HSV6.out.sz; omega)
          replace kG := bx_below kG zG hbq
          replace fG := bxF fG hbq zG
          replace zG := Nat.lt_of_lt_of_le zG hbq.size
          clear hbq
          dsimp only
          refine hKK.out _ _ (Or.inr HSV8.out) ?_
          clear hKK KK
          (try simp only [Act.put, List.setIfInBounds_toArray, List.set_cons_zero, List.set_cons_succ])
          refine Goes.take (i := 17) (oi := ?oi36) (x := ?vx36) ?ho36 (by kernel_rfl) (by kernel_rfl) (by kernel_rfl) (by kernel_rfl) (fun _ _ _ h => h) (Or.inl ⟨?hw36, ?hy36⟩) HSV8.out ?rest36
          case ho36 => (simp only [List.getElem?_toArray, List.getElem?_cons_succ, List.getElem?_cons_zero]; rfl)
          case hw36 => rfl
          case hy36 => (intro w' hSw; have j0 := hSw.k0; have j1 := hSw.k1; go_simp; (try with_reducible rfl))
          case rest36 =>
          (try simp only [Act.put, List.setIfInBounds_toArray, List.set_cons_zero, List.set_cons_succ])
          refine Goes.all (rs := [19]) (by kernel_rfl) (by simp) ?_
          refine Ups.cons (i := 19) (o := ?oo37) ?ho37 (fun KK hKK => ?stp37) Ups.nil
          case ho37 => (simp only [List.getElem?_toArray, List.getElem?_cons_succ, List.getElem?_cons_zero]; rfl)
          case stp37 =>
          rw [if_pos (by rfl)]
          refine wp_store_mid 31 _ _ rfl _ _ G (by rfl) (by rw [HG.out]; rfl) (bx_there kG fG (by rw [HGZ.out]; rfl)) HIG.out HONE.out ?_
          refine hKK.out _ _ (Or.inr (SB2.sets (g := g) HSV8.out (by omega) (by omega) (by omega))) ?_
          clear hKK KK
          (try simp only [Act.put])
          refine Goes.done (by kernel_rfl) ?_ _
          refine NoPanic.normal ?_
          go_wp2_with fail
          go_meet
          exact ⟨g, rfl, ⟨(SB2.sets (g := g) HSV8.out (by omega) (by omega) (by omega)), hlo, by rw [setCells_size]; exact zG, bx_setCells kG (by rw [HGZ.out]; rfl), fx_sets fG, bx_setOff kR (by omega), fx_sets fR⟩⟩
      case stp27 =>
        go_simp
        refine hKK.out _ _ (Or.inr (SB2.alloc HSV1.out _ (by omega) (by omega))) ?_
        clear hKK KK
        (try simp only [Act.put, List.setIfInBounds_toArray, List.set_cons_zero, List.set_cons_succ])
        have kG : ∀ o, (V1.alloc (.cells #[.int .i64 0, .int .i64 0, .bool false, .bool false, .bool false, .int .i64 0, .int .i64 0, .int .i64 0, .int .i64 0, .int .i64 0, .int .i64 0, .slice none 0 0] 31)).cell? ⟨V1.heap.size, o, none⟩ = (#[.int .i64 0, .int .i64 0, .bool false, .bool false, .bool false, .int .i64 0, .int .i64 0, .int .i64 0, .int .i64 0, .int .i64 0, .int .i64 0, .slice none 0 0] : Array Value)[o]? := bx_al V1 _ _
        have fG : ∀ o, (V1.alloc (.cells #[.int .i64 0, .int .i64 0, .bool false, .bool false, .bool false, .int .i64 0, .int .i64 0, .int .i64 0, .int .i64 0, .int .i64 0, .int .i64 0, .slice none 0 0] 31)).frozen? ⟨V1.heap.size, o, none⟩ = false := fx_al V1 _ _
        have hbq : Below V1.heap.size V1 (V1.alloc (.cells #[.int .i64 0, .int .i64 0, .bool false, .bool false, .bool false, .int .i64 0, .int .i64 0, .int .i64 0, .int .i64 0, .int .i64 0, .int .i64 0, .slice none 0 0] 31)) := (Below.refl _ _).alloc (Nat.le_refl _) _
        have zG : V1.heap.size < (V1.alloc (.cells #[.int .i64 0, .int .i64 0, .bool false, .bool false, .bool false, .int .i64 0, .int .i64 0, .int .i64 0, .int .i64 0, .int .i64 0, .int .i64 0, .slice none 0 0] 31)).heap.size := by simp
        have HSV4 : Hid (SB2 w 3 w.heap.size (w.heap.size + 1) A X (V1.alloc (.cells #[.int .i64 0, .int .i64 0, .bool false, .bool false, .bool false, .int .i64 0, .int .i64 0, .int .i64 0, .int .i64 0, .int .i64 0, .int .i64 0, .slice none 0 0] 31))) := SB2.below HSV1.out hbq (by omega) (by omega)
        have hlo : w.heap.size + 3 ≤ V1.heap.size := HSV1.out.sz
        generalize hWB : (V1.alloc (.cells #[.int .i64 0, .int .i64 0, .bool false, .bool false, .bool false, .int .i64 0, .int .i64 0, .int .i64 0, .int .i64 0, .int .i64 0, .int .i64 0, .slice none 0 0] 31)) = V4 at kG fG hbq zG HSV4 ⊢
        clear hWB
        replace kR := bx_below kR (by omega) hbq
        replace fR := bxF fR hbq (by omega)
        clear hbq
        obtain ⟨g, hg⟩ : ∃ g, g = V1.heap.size := ⟨_, rfl⟩
        rw [← hg] at kG fG zG hlo ⊢
        clear hg
        refine Goes.all (rs := [13]) (by kernel_rfl) (by simp) ?_
        refine Ups.cons (i := 13) (o := ?oo38) ?ho38 (fun KK hKK => ?stp38) Ups.nil
        case ho38 => (simp only [List.getElem?_toArray, List.getElem?_cons_succ, List.getElem?_cons_zero]; rfl)
        case stp38 =>
        go_simp
        go_at_call 98
        refine (HK _ HSV4.out.bl).mono ?_
        rintro e V10 ⟨rfl, hbq⟩
        have HSV10 : Hid (SB2 w 3 w.heap.size (w.heap.size + 1) A X V10) := SB2.below HSV4.out hbq (by omega) (by omega)
        replace kR := bx_below kR (by have := HSV4.out.sz; omega) hbq
        replace fR := bxF fR hbq (by have := HSV4.out.sz; omega)
        replace kG := bx_below kG zG hbq
        replace fG := bxF fG hbq zG
        replace zG := Nat.lt_of_lt_of_le zG hbq.size
        clear hbq
        dsimp only
        refine hKK.out _ _ (Or.inr HSV10.out) ?_
        clear hKK KK
        (try simp only [Act.put, List.setIfInBounds_toArray, List.set_cons_zero, List.set_cons_succ])
        refine Goes.take (i := 14) (oi := ?oi40) (x := ?vx40) ?ho40 (by kernel_rfl) (by kernel_rfl) (by kernel_rfl) (by kernel_rfl) (fun _ _ _ h => h) (Or.inl ⟨?hw40, ?hy40⟩) HSV10.out ?rest40
        case ho40 => (simp only [List.getElem?_toArray, List.getElem?_cons_succ, List.getElem?_cons_zero]; rfl)
        case hw40 => rfl
        case hy40 => (intro w' hSw; have j0 := hSw.k0; have j1 := hSw.k1; go_simp; (try with_reducible rfl))
        case rest40 =>
        (try simp only [Act.put, List.setIfInBounds_toArray, List.set_cons_zero, List.set_cons_succ])
        refine Goes.all (rs := [16]) (by kernel_rfl) (by simp) ?_
        refine Ups.cons (i := 16) (o := ?oo41) ?ho41 (fun KK hKK => ?stp41) Ups.nil
        case ho41 => (simp only [List.getElem?_toArray, List.getElem?_cons_succ, List.getElem?_cons_zero]; rfl)
        case stp41 =>
        go_simp
        go_at_call 99
        refine (HE _ HSV10.out.bl).mono ?_
        rintro e V12 ⟨rfl, hbq⟩
        have HSV12 : Hid (SB2 w 3 w.heap.size (w.heap.size + 1) A X V12) := SB2.below HSV10.out hbq (by omega) (by omega)
        replace kR := bx_below kR (by have := HSV10.out.sz; omega) hbq
        replace fR := bxF fR hbq (by have := HSV10.out.sz; omega)
        replace kG := bx_below kG zG hbq
        replace fG := bxF fG hbq zG
        replace zG := Nat.lt_of_lt_of_le zG hbq.size
        clear hbq
        dsimp only
        refine hKK.out _ _ (Or.inr HSV12.out) ?_
        clear hKK KK
        (try simp only [Act.put, List.setIfInBounds_toArray, List.set_cons_zero, List.set_cons_succ])
        refine Goes.take (i := 17) (oi := ?oi43) (x := ?vx43) ?ho43 (by kernel_rfl) (by kernel_rfl) (by kernel_rfl) (by kernel_rfl) (fun _ _ _ h => h) (Or.inl ⟨?hw43, ?hy43⟩) HSV12.out ?rest43
        case ho43 => (simp only [List.getElem?_toArray, List.getElem?_cons_succ, List.getElem?_cons_zero]; rfl)
        case hw43 => rfl
        case hy43 => (intro w' hSw; have j0 := hSw.k0; have j1 := hSw.k1; go_simp; (try with_reducible rfl))
        case rest43 =>
        (try simp only [Act.put, List.setIfInBounds_toArray, List.set_cons_zero, List.set_cons_succ])
        refine Goes.all (rs := [19]) (by kernel_rfl) (by simp) ?_
        refine Ups.cons (i := 19) (o := ?oo44) ?ho44 (fun KK hKK => ?stp44) Ups.nil
        case ho44 => (simp only [List.getElem?_toArray, List.getElem?_cons_succ, List.getElem?_cons_zero]; rfl)
        case stp44 =>
        rw [if_pos (by rfl)]
        refine wp_store_mid 31 _ _ rfl _ _ G (by rfl) (by rw [HG.out]; rfl) (bx_there kG fG (by rw [HGZ.out]; rfl)) HIG.out HONE.out ?_
        refine hKK.out _ _ (Or.inr (SB2.sets (g := g) HSV12.out (by omega) (by omega) (by omega))) ?_
        clear hKK KK
        (try simp only [Act.put])
        refine Goes.done (by kernel_rfl) ?_ _
        refine NoPanic.normal ?_
        go_wp2_with fail
        go_meet
        exact ⟨g, rfl, ⟨(SB2.sets (g := g) HSV12.out (by omega) (by omega) (by omega)), hlo, by rw [setCells_size]; exact zG, bx_setCells kG (by rw [HGZ.out]; rfl), fx_sets fG, bx_setOff kR (by omega), fx_sets fR⟩⟩
    case stp24 =>
      go_simp
      refine hKK.out _ _ (Or.inr (SB2.alloc HSD.out _ (by omega) (by omega))) ?_
      clear hKK KK
      (try simp only [Act.put, List.setIfInBounds_toArray, List.set_cons_zero, List.set_cons_succ])
      have kG : ∀ o, (WD.alloc (.cells #[.int .i64 0, .int .i64 0, .bool false, .bool false, .bool false, .int .i64 0, .int .i64 0, .int .i64 0, .int .i64 0, .int .i64 0, .int .i64 0, .slice none 0 0] 31)).cell? ⟨WD.heap.size, o, none⟩ = (#[.int .i64 0, .int .i64 0, .bool false, .bool false, .bool false, .int .i64 0, .int .i64 0, .int .i64 0, .int .i64 0, .int .i64 0, .int .i64 0, .slice none 0 0] : Array Value)[o]? := bx_al WD _ _
      have fG : ∀ o, (WD.alloc (.cells #[.int .i64 0, .int .i64 0, .bool false, .bool false, .bool false, .int .i64 0, .int .i64 0, .int .i64 0, .int .i64 0, .int .i64 0, .int .i64 0, .slice none 0 0] 31)).frozen? ⟨WD.heap.size, o, none⟩ = false := fx_al WD _ _
      have hbq : Below WD.heap.size WD (WD.alloc (.cells #[.int .i64 0, .int .i64 0, .bool false, .bool false, .bool false, .int .i64 0, .int .i64 0, .int .i64 0, .int .i64 0, .int .i64 0, .int .i64 0, .slice none 0 0] 31)) := (Below.refl _ _).alloc (Nat.le_refl _) _
      have zG : WD.heap.size < (WD.alloc (.cells #[.int .i64 0, .int .i64 0, .bool false, .bool false, .bool false, .int .i64 0, .int .i64 0, .int .i64 0, .int .i64 0, .int .i64 0, .int .i64 0, .slice none 0 0] 31)).heap.size := by simp
      have HSV2 : Hid (SB2 w 3 w.heap.size (w.heap.size + 1) A X (WD.alloc (.cells #[.int .i64 0, .int .i64 0, .bool false, .bool false, .bool false, .int .i64 0, .int .i64 0, .int .i64 0, .int .i64 0, .int .i64 0, .int .i64 0, .slice none 0 0] 31))) := SB2.below HSD.out hbq (by omega) (by omega)
      have hlo : w.heap.size + 3 ≤ WD.heap.size := HSD.out.sz
      generalize hWB : (WD.alloc (.cells #[.int .i64 0, .int .i64 0, .bool false, .bool false, .bool false, .int .i64 0, .int .i64 0, .int .i64 0, .int .i64 0, .int .i64 0, .int .i64 0, .slice none 0 0] 31)) = V2 at kG fG hbq zG HSV2 ⊢
      clear hWB
      replace kR := bx_below kR (by omega) hbq
      replace fR := bxF fR hbq (by omega)
      clear hbq
      obtain ⟨g, hg⟩ : ∃ g, g = WD.heap.size := ⟨_, rfl⟩
      rw [← hg] at kG fG zG hlo ⊢
      clear hg
      refine Goes.all (rs := [9]) (by kernel_rfl) (by simp) ?_
      refine Ups.cons (i := 9) (o := ?oo45) ?ho45 (fun KK hKK => ?stp45) Ups.nil
      case ho45 => (simp only [List.getElem?_toArray, List.getElem?_cons_succ, List.getElem?_cons_zero]; rfl)
      case stp45 =>
      go_simp
      go_at_call 60
      refine (HQ _ HSV2.out.bl).mono ?_
      rintro e V14 ⟨rfl, hbq⟩
      have HSV14 : Hid (SB2 w 3 w.heap.size (w.heap.size + 1) A X V14) := SB2.below HSV2.out hbq (by omega) (by omega)
      replace kR := bx_below kR (by have := HSV2.out.sz; omega) hbq
      replace fR := bxF fR hbq (by have := HSV2.out.sz; omega)
      replace kG := bx_below kG zG hbq
      replace fG := bxF fG hbq zG
      replace zG := Nat.lt_of_lt_of_le zG hbq.size
      clear hbq
      dsimp only
      refine hKK.out _ _ (Or.inr HSV14.out) ?_
      clear hKK KK
      (try simp only [Act.put, List.setIfInBounds_toArray, List.set_cons_zero, List.set_cons_succ])
      refine Goes.take (i := 10) (oi := ?oi47) (x := ?vx47) ?ho47 (by kernel_rfl) (by kernel_rfl) (by kernel_rfl) (by kernel_rfl) (fun _ _ _ h => h) (Or.inl ⟨?hw47, ?hy47⟩) HSV14.out ?rest47
      case ho47 => (simp only [List.getElem?_toArray, List.getElem?_cons_succ, List.getElem?_cons_zero]; rfl)
      case hw47 => rfl
      case hy47 => (intro w' hSw; have j0 := hSw.k0; have j1 := hSw.k1; go_simp; (try with_reducible rfl))
      case rest47 =>
      (try simp only [Act.put, List.setIfInBounds_toArray, List.set_cons_zero, List.set_cons_succ])
      refine Goes.all (rs := [13]) (by kernel_rfl) (by simp) ?_
      refine Ups.cons (i := 13) (o := ?oo48) ?ho48 (fun KK hKK => ?stp48) Ups.nil
      case ho48 => (simp only [List.getElem?_toArray, List.getElem?_cons_succ, List.getElem?_cons_zero]; rfl)
      case stp48 =>
      go_simp
      go_at_call 98
      refine (HK _ HSV14.out.bl).mono ?_
      rintro e V16 ⟨rfl, hbq⟩
      have HSV16 : Hid (SB2 w 3 w.heap.size (w.heap.size + 1) A X V16) := SB2.below HSV14.out hbq (by omega) (by omega)
      replace kR := bx_below kR (by have := HSV14.out.sz; omega) hbq
      replace fR := bxF fR hbq (by have := HSV14.out.sz; omega)
      replace kG := bx_below kG zG hbq
      replace fG := bxF fG hbq zG
      replace zG := Nat.lt_of_lt_of_le zG hbq.size
      clear hbq
      dsimp only
      refine hKK.out _ _ (Or.inr HSV16.out) ?_
      clear hKK KK
      (try simp only [Act.put, List.setIfInBounds_toArray, List.set_cons_zero, List.set_cons_succ])
      refine Goes.take (i := 14) (oi := ?oi50) (x := ?vx50) ?ho50 (by kernel_rfl) (by kernel_rfl) (by kernel_rfl) (by kernel_rfl) (fun _ _ _ h => h) (Or.inl ⟨?hw50, ?hy50⟩) HSV16.out ?rest50
      case ho50 => (simp only [List.getElem?_toArray, List.getElem?_cons_succ, List.getElem?_cons_zero]; rfl)
      case hw50 => rfl
      case hy50 => (intro w' hSw; have j0 := hSw.k0; have j1 := hSw.k1; go_simp; (try with_reducible rfl))
      case rest50 =>
      (try simp only [Act.put, List.setIfInBounds_toArray, List.set_cons_zero, List.set_cons_succ])
      refine Goes.all (rs := [16]) (by kernel_rfl) (by simp) ?_
      refine Ups.cons (i := 16) (o := ?oo51) ?ho51 (fun KK hKK => ?stp51) Ups.nil
      case ho51 => (simp only [List.getElem?_toArray, List.getElem?_cons_succ, List.getElem?_cons_zero]; rfl)
      case stp51 =>
      go_simp
      go_at_call 99
      refine (HE _ HSV16.out.bl).mono ?_
      rintro e V18 ⟨rfl, hbq⟩
      have HSV18 : Hid (SB2 w 3 w.heap.size (w.heap.size + 1) A X V18) := SB2.below HSV16.out hbq (by omega) (by omega)
      replace kR := bx_below kR (by have := HSV16.out.sz; omega) hbq
      replace fR := bxF fR hbq (by have := HSV16.out.sz; omega)
      replace kG := bx_below kG zG hbq
      replace fG := bxF fG hbq zG
      replace zG := Nat.lt_of_lt_of_le zG hbq.size
      clear hbq
      dsimp only
      refine hKK.out _ _ (Or.inr HSV18.out) ?_
      clear hKK KK
      (try simp only [Act.put, List.setIfInBounds_toArray, List.set_cons_zero, List.set_cons_succ])
      refine Goes.take (i := 17) (oi := ?oi53) (x := ?vx53) ?ho53 (by kernel_rfl) (by kernel_rfl) (by kernel_rfl) (by kernel_rfl) (fun _ _ _ h => h) (Or.inl ⟨?hw53, ?hy53⟩) HSV18.out ?rest53
      case ho53 => (simp only [List.getElem?_toArray, List.getElem?_cons_succ, List.getElem?_cons_zero]; rfl)
      case hw53 => rfl
      case hy53 => (intro w' hSw; have j0 := hSw.k0; have j1 := hSw.k1; go_simp; (try with_reducible rfl))
      case rest53 =>
      (try simp only [Act.put, List.setIfInBounds_toArray, List.set_cons_zero, List.set_cons_succ])
      refine Goes.all (rs := [19]) (by kernel_rfl) (by simp) ?_
      refine Ups.cons (i := 19) (o := ?oo54) ?ho54 (fun KK hKK => ?stp54) Ups.nil
      case ho54 => (simp only [List.getElem?_toArray, List.getElem?_cons_succ, List.getElem?_cons_zero]; rfl)
      case stp54 =>
      rw [if_pos (by rfl)]
      refine wp_store_mid 31 _ _ rfl _ _ G (by rfl) (by rw [HG.out]; rfl) (bx_there kG fG (by rw [HGZ.out]; rfl)) HIG.out HONE.out ?_
      refine hKK.out _ _ (Or.inr (SB2.sets (g := g) HSV18.out (by omega) (by omega) (by omega))) ?_
      clear hKK KK
      (try simp only [Act.put])
      refine Goes.done (by kernel_rfl) ?_ _
      refine NoPanic.normal ?_
      go_wp2_with fail
      go_meet
      exact ⟨g, rfl, ⟨(SB2.sets (g := g) HSV18.out (by omega) (by omega) (by omega)), hlo, by rw [setCells_size]; exact zG, bx_setCells kG (by rw [HGZ.out]; rfl), fx_sets fG, bx_setOff kR (by omega), fx_sets fR⟩⟩
  case rest =>
  rename World => WB
  obtain ⟨g, rfl, hkb⟩ := hcut
  clear k0 k1 kR fR hzA HS
  have HS : Hid _ := hkb.sb
  have k0 := hkb.sb.k0
  have k1 := hkb.sb.k1
  have kG := hkb.kg
  have fG := hkb.fg
  have kR := hkb.kr
  have fR := hkb.fr
  have hlo := hkb.lo
  have hlt := hkb.lt
  clear hkb
  have g8 : G[8]? = some (.int .i64 0) := by rw [HG.out]; rfl
  have g9 : G[9]? = some (.int .i64 0) := by rw [HG.out]; rfl
  cases pl
  case true =>
    go_upto_region 4 with fail
    obtain ⟨N, hN⟩ : ∃ N : Array Value, N = #[.int .i64 pa, .int .i64 sd, .bool false, .bool true, .bool false, .int .i64 SQ, .int .i64 AK, .int .i64 EN, .int .i64 0, .int .i64 0, .int .i64 0, .slice none 0 0] := ⟨_, rfl⟩
    have HN : Hid _ := hN
    have hNz : N.size = 12 := by rw [hN]; rfl
    have HIN : Hid ((Tryz.prog.info? 31).map (·.size) = some N.size) := by show _ = _; rw [hNz]; exact (by kernel_rfl : (Tryz.prog.info? 31).map (·.size) = some 12)
    have HIN' : Hid ((Tryz.prog.info? 31).map (·.size) = some N.toList.length) := by show _ = _; rw [Array.length_toList]; exact HIN.out
    have HONEN : Hid (N.all (·.oneCell') = true) := by show _ = _; rw [hN]; simp [Value.oneCell']
    have kN : ∀ o, WB.cell? ⟨g, o, none⟩ = N[o]? := by
      have h0 := kG
      rw [HG.out] at h0
      have h2 := h0
      rw [hN]
      simpa using h2
    have kQ : ∀ o, WB.cell? ⟨w.heap.size + 2, o, none⟩ = (#[.int .i64 0, .int .i64 0, .bool false, .bool false, .bool false, .int .i64 0, .int .i64 0, .int .i64 0, .int .i64 0, .int .i64 0, .int .i64 0, .slice none 0 0] : Array Value)[o]? := kR
    have fQ : ∀ o, WB.frozen? ⟨w.heap.size + 2, o, none⟩ = false := fR
    have HBW : Hid (Below w.heap.size w WB) := HS.out.bl
    clear k0 k1 kG kR fG fR
    generalize hWW : WB = W9 at kN kQ fQ HBW ⊢
    clear hWW
    have HTHN : Hid (W9.there (w.heap.size + 2) 0 N.size) := bx_there kQ fQ (by rw [hNz]; rfl)
    have kF : Hid (∀ o, (W9.setCells (w.heap.size + 2) 0 N.toList).cell? ⟨w.heap.size + 2, o, none⟩ = N[o]?) := bx_setCells kQ (by rw [hNz]; rfl)
    clear hN hNz kQ fQ
    go_wp2_with (first | (refine wpList_load_mid rfl 31 _ rfl _ _ (by rfl) N.toList _ (bx_range kN) Tryz.underlying31 rfl HIN'.out ?_) | (refine wpList_store_mid rfl 31 _ _ rfl _ _ N (by rfl) (by rfl) HTHN.out HIN.out HONEN.out ?_))
    refine bodyPost_ret (results_box Tryz.results59 _ _ _ N _ (by rfl) kF.out Tryz.underlying31 rfl HIN.out) rfl ⟨?_, setCells_below (by omega) _ _ _ _ HBW.out⟩
    rw [HN.out, HOP.out, HOA.out]
    rfl
  case false =>
    have HRG : Hid (WB.rangeAt w.heap.size 0 A.toList) := bx_range k0
    go_wp2_with (refine wpList_load_mid rfl 40 _ rfl _ _ (by rfl) A.toList _ HRG.out Tryz.underlying40 rfl HIA.out ?_)
    refine (HD _ HS.out.bl).mono ?_
    rintro e W2 ⟨rfl, hbq⟩
    have hszz := HS.out.sz
    replace kG := bx_below kG hlt hbq
    replace fG := bxF fG hbq hlt
    replace kR := bx_below kR (by omega) hbq
    replace fR := bxF fR hbq (by omega)
    replace HS : Hid (SB2 w 3 w.heap.size (w.heap.size + 1) A X W2) := SB2.below HS.out hbq (by omega) (by omega)
    replace hlt := Nat.lt_of_lt_of_le hlt hbq.size
    replace k0 := HS.out.k0
    replace k1 := HS.out.k1
    clear hbq HRG
    go_upto_region 4 with fail
    obtain ⟨N, hN⟩ : ∃ N : Array Value, N = #[.int .i64 pa, .int .i64 sd, .bool false, .bool true, .bool false, .int .i64 SQ, .int .i64 AK, .int .i64 EN, .int .i64 4, .int .i64 DA, .int .i64 0, .slice none 0 0] := ⟨_, rfl⟩
    have HN : Hid _ := hN
    have hNz : N.size = 12 := by rw [hN]; rfl
    have HIN : Hid ((Tryz.prog.info? 31).map (·.size) = some N.size) := by show _ = _; rw [hNz]; exact (by kernel_rfl : (Tryz.prog.info? 31).map (·.size) = some 12)
    have HIN' : Hid ((Tryz.prog.info? 31).map (·.size) = some N.toList.length) := by show _ = _; rw [Array.length_toList]; exact HIN.out
    have HONEN : Hid (N.all (·.oneCell') = true) := by show _ = _; rw [hN]; simp [Value.oneCell']
    have kN : ∀ o, ((W2.setCell ⟨g, 8, none⟩ (.int .i64 4)).setCell ⟨g, 9, none⟩ (.int .i64 DA)).cell? ⟨g, o, none⟩ = N[o]? := by
      have h0 := kG
      rw [HG.out] at h0
      have h2 := (bx_put (bx_put h0 (k := 8) (v := .int .i64 4) (by simp)) (k := 9) (v := .int .i64 DA) (by simp))
      rw [hN]
      simpa using h2
    have kQ : ∀ o, ((W2.setCell ⟨g, 8, none⟩ (.int .i64 4)).setCell ⟨g, 9, none⟩ (.int .i64 DA)).cell? ⟨w.heap.size + 2, o, none⟩ = (#[.int .i64 0, .int .i64 0, .bool false, .bool false, .bool false, .int .i64 0, .int .i64 0, .int .i64 0, .int .i64 0, .int .i64 0, .int .i64 0, .slice none 0 0] : Array Value)[o]? := (bx_setC (bx_setC kR (show w.heap.size + 2 ≠ g by omega)) (show w.heap.size + 2 ≠ g by omega))
    have fQ : ∀ o, ((W2.setCell ⟨g, 8, none⟩ (.int .i64 4)).setCell ⟨g, 9, none⟩ (.int .i64 DA)).frozen? ⟨w.heap.size + 2, o, none⟩ = false := (fx_setC (fx_setC fR))
    have HBW : Hid (Below w.heap.size w ((W2.setCell ⟨g, 8, none⟩ (.int .i64 4)).setCell ⟨g, 9, none⟩ (.int .i64 DA))) := SB2.bl (SB2.set (g := g) (SB2.set (g := g) HS.out (by omega) (by omega) (by omega)) (by omega) (by omega) (by omega))
    clear k0 k1 kG kR fG fR
    generalize hWW : ((W2.setCell ⟨g, 8, none⟩ (.int .i64 4)).setCell ⟨g, 9, none⟩ (.int .i64 DA)) = W9 at kN kQ fQ HBW ⊢
    clear hWW
    have HTHN : Hid (W9.there (w.heap.size + 2) 0 N.size) := bx_there kQ fQ (by rw [hNz]; rfl)
    have kF : Hid (∀ o, (W9.setCells (w.heap.size + 2) 0 N.toList).cell? ⟨w.heap.size + 2, o, none⟩ = N[o]?) := bx_setCells kQ (by rw [hNz]; rfl)
    clear hN hNz kQ fQ
    go_wp2_with (first | (refine wpList_load_mid rfl 31 _ rfl _ _ (by rfl) N.toList _ (bx_range kN) Tryz.underlying31 rfl HIN'.out ?_) | (refine wpList_store_mid rfl 31 _ _ rfl _ _ N (by rfl) (by rfl) HTHN.out HIN.out HONEN.out ?_))
    refine bodyPost_ret (results_box Tryz.results59 _ _ _ N _ (by rfl) kF.out Tryz.underlying31 rfl HIN.out) rfl ⟨?_, setCells_below (by omega) _ _ _ _ HBW.out⟩
    rw [HN.out, HOP.out, HOA.out]
    rfl
end Go.Proofs.YtbdibjeemgkdaaaGreat
