/- What the program answers of a sub: its room, what is stale; nothing that was in memory turns; no condition but that there are at most a million parts. -/
import Derived.RangeFuncNested
import Derived.RangeFuncBound
import Derived.RangeFuncCalls
import Derived.RangeFuncLeaves
import Derived.RangeFuncBox
import Derived.Shelf.Abstract
import Derived.Shelf.RegionOpen
import Derived.WalkKit
import Derived.OwnWalkIn
import Derived.TacticsInMore
import Derived.LoopNIn
import Derived.LoopIn
import Derived.Test.YtebgibjokljlbaaRows
import Derived.Deep.RegionHeld3
import Derived.Test.YtebgibjokljlbaaS01
import Derived.Test.YtebgibjokljlbaaS03
import Derived.Test.YtebgibjokljlbaaS04
import Derived.Test.YtebgibjokljlbaaS05
import Derived.Test.YtebgibjokljlbaaS11
import Derived.Test.YtebgibjokljlbaaS18
import Derived.Test.YtebgibjokljlbaaS20
import Derived.Test.YtebgibjokljlbaaS21
import Derived.Test.YtebgibjokljlbaaS24
import Derived.Test.YtebgibjokljlbaaS29
namespace Go.Proofs.Ytebgibjokljlbaa
open Go.RowKit Go.Shelf
set_option linter.unusedVariables false
set_option maxRecDepth 8000
attribute [local go_sem] Oper.semAt_some
theorem bx2 {w : World} {b : Nat} {x0 x1 u v : Value} (h : ∀ o, w.cell? ⟨b, o, none⟩ = (#[x0, x1] : Array Value)[o]?) : ∀ o, ((w.setCell ⟨b, 0, none⟩ u).setCell ⟨b, 1, none⟩ v).cell? ⟨b, o, none⟩ = (#[u, v] : Array Value)[o]? := fun o => by
  have j := bx_put (bx_put h (k := 0) (v := u) (by simp)) (k := 1) (v := v) (by simp)
  simp only [List.setIfInBounds_toArray, List.set_cons_zero, List.set_cons_succ] at j
  exact j o
theorem fldI (c0 c1 : Value) (w : World) : Sem.run Try.prog (Instr.field 35 (.agg #[c0, c1]) 1) w = .ok c1 w := by
  simp [Instr.field, asAgg, part, go_sem]
set_option maxHeartbeats 2000000 in
theorem iRoomOf (x : DSub) (u v : Value) (w : World) (B : Nat) (hr : shSub.Rd w B x [.int .i64 x.1, .int .i64 x.2.1, .bool x.2.2.1, .int .i64 x.2.2.2.1, .int .i64 x.2.2.2.2.1, .int .i64 x.2.2.2.2.2.1, .int .i64 x.2.2.2.2.2.2.1.1, .int .i64 x.2.2.2.2.2.2.1.2.1, .int .i64 x.2.2.2.2.2.2.1.2.2.1, u, .int .i64 x.2.2.2.2.2.2.2.1.1, .int .i64 x.2.2.2.2.2.2.2.1.2.1, v, .int .i64 x.2.2.2.2.2.2.2.2.1.1, .int .i64 x.2.2.2.2.2.2.2.2.1.2.1, .int .i64 x.2.2.2.2.2.2.2.2.1.2.2.1]) (hB : B ≤ w.heap.size) (hT : totSub x ≤ 1048576) :
    Calls Try.prog 34 #[.agg #[.int .i64 x.1, .int .i64 x.2.1, .bool x.2.2.1, .int .i64 x.2.2.2.1, .int .i64 x.2.2.2.2.1, .int .i64 x.2.2.2.2.2.1, .int .i64 x.2.2.2.2.2.2.1.1, .int .i64 x.2.2.2.2.2.2.1.2.1, .int .i64 x.2.2.2.2.2.2.1.2.2.1, u, .int .i64 x.2.2.2.2.2.2.2.1.1, .int .i64 x.2.2.2.2.2.2.2.1.2.1, v, .int .i64 x.2.2.2.2.2.2.2.2.1.1, .int .i64 x.2.2.2.2.2.2.2.2.1.2.1, .int .i64 x.2.2.2.2.2.2.2.2.1.2.2.1]] w fun e w' => e = .returned (.agg #[.int .i64 (subF x), .int .i64 (roomV x)]) ∧ Below w.heap.size w w' := by
  obtain ⟨y0, y1, y2, y3, y4, y5, ⟨s0, s1, s2, fl, ⟨⟩⟩, ⟨c0, c1, sp, ⟨⟩⟩, ⟨k0, k1, k2, ⟨⟩⟩, ⟨⟩⟩ := x
  simp only at *
  obtain ⟨ua, uc, va, vc, rfl, rfl, rs0, rc0, hwf⟩ := rd_SubF hr
  obtain ⟨q1, e1, rs, -⟩ := rd_Sender rs0
  simp only [List.cons.injEq, and_true, true_and] at e1
  subst e1
  replace rs : shFlights.Rd w B fl [.slice ua fl.length uc] := rs
  have ht : totSender (s0, s1, s2, fl, ()) + totCatch (c0, c1, sp, ()) ≤ 1048576 := hT
  have HC : Hid (∀ W, Below w.heap.size w W → Calls Try.prog 33 #[.agg #[.int .i64 y0, .int .i64 y1, .bool y2, .int .i64 y3, .int .i64 y4, .int .i64 y5, .int .i64 s0, .int .i64 s1, .int .i64 s2, .slice ua fl.length uc, .int .i64 c0, .int .i64 c1, .slice va sp.length vc, .int .i64 k0, .int .i64 k1, .int .i64 k2]] W fun e w' => e = .returned (.int .i64 (subF (y0, y1, y2, y3, y4, y5, (s0, s1, s2, fl, ()), (c0, c1, sp, ()), (k0, k1, k2, ()), ()))) ∧ Below W.heap.size W w') := fun W hW => iSubFault (y0, y1, y2, y3, y4, y5, (s0, s1, s2, fl, ()), (c0, c1, sp, ()), (k0, k1, k2, ()), ()) _ _ W B (hr.below hB hW) (Nat.le_trans hB hW.size) hT
  have HV : Hid (roomV (y0, y1, y2, y3, y4, y5, (s0, s1, s2, fl, ()), (c0, c1, sp, ()), (k0, k1, k2, ()), ()) = if subF (y0, y1, y2, y3, y4, y5, (s0, s1, s2, fl, ()), (c0, c1, sp, ()), (k0, k1, k2, ()), ()) = 0 then (if y1 = 3 ∧ fl.length < 12 then max 0 (k0 - (s1 - s2)) else 0) else 0) := rfl
  have HO : Hid (subF (y0, y1, y2, y3, y4, y5, (s0, s1, s2, fl, ()), (c0, c1, sp, ()), (k0, k1, k2, ()), ()) = 0 → 0 ≤ s2 ∧ s2 ≤ s1 ∧ s1 ≤ 1000000 ∧ 8 ≤ k0 ∧ k0 ≤ 64 ∧ fl.length ≤ 12 ∧ sndFault (s0, s1, s2, fl, ()) = 0) := fun h => by
    obtain ⟨-, h1, -, h3, -⟩ := sub_ok h
    obtain ⟨-, g2, g3, g4⟩ := snd_ok h1
    have g2' : 0 ≤ s1 ∧ s1 ≤ 1000000 := inD_yes g2
    have g3' : 0 ≤ s2 ∧ s2 ≤ s1 := inD_yes g3
    have g5 : (8 ≤ k0 ∧ k0 ≤ 64) ∧ _ := ctF_ok h3
    have g4' : fl.length ≤ 12 := g4
    exact ⟨g3'.1, g3'.2, g2'.2, g5.1.1, g5.1.2, g4', h1⟩
  have HW : Hid (∀ W, Below w.heap.size w W → sndFault (s0, s1, s2, fl, ()) = 0 → Calls Try.prog 90 #[.agg #[.int .i64 s0, .int .i64 s1, .int .i64 s2, .slice ua fl.length uc]] W fun e w' => e = .returned (.agg #[.int .i64 0, .int .i64 (s1 - s2)]) ∧ Below W.heap.size W w') := fun W hW h0 => by
    have h := iOnWay (s0, s1, s2, fl, ()) _ W B (rs0.below hB hW) (Nat.le_trans hB hW.size) (by omega)
    unfold onwV at h
    rw [if_pos h0, h0] at h
    exact h
  clear hr rs rc0 rs0 hT hwf ht
  generalize roomV (y0, y1, y2, y3, y4, y5, (s0, s1, s2, fl, ()), (c0, c1, sp, ()), (k0, k1, k2, ()), ()) = V at *
  generalize subF (y0, y1, y2, y3, y4, y5, (s0, s1, s2, fl, ()), (c0, c1, sp, ()), (k0, k1, k2, ()), ()) = F at *
  generalize sndFault (s0, s1, s2, fl, ()) = FS at *
  generalize fl.length = fn at *
  generalize sp.length = sn at *
  by_cases hF : F = 0
  · obtain ⟨p0, p1, p2, p3, p4, p5, p6⟩ := HO.out hF
    have hv := HV.out
    rw [if_pos hF] at hv
    have hF' : (F != 0) = false := by simp [hF]
    subst hF
    by_cases a : y1 = 3
    · have a' : (y1 != 3) = false := by simp [a]
      by_cases b : fn < 12
      · rw [if_pos ⟨a, b⟩] at hv
        have b' : ((fn : Int) == 12) = false := by simp; omega
        have HW2 : Hid (∀ W, Below w.heap.size w W → Calls Try.prog 90 #[.agg #[.int .i64 s0, .int .i64 s1, .int .i64 s2, .slice ua fn uc]] W fun e w' => e = .returned (.agg #[.int .i64 0, .int .i64 (s1 - s2)]) ∧ Below W.heap.size W w') := fun W hW => HW.out W hW p6
        have HVV : Hid (V = max 0 (k0 - (s1 - s2))) := hv
        clear HO HV a b HW p6 hv
        generalize hq : s1 - s2 = q at *
        have q0 : 0 ≤ q := by omega
        have q1 : q ≤ 1000000 := by omega
        clear hq
        go_enter Try.func34, Try.ntmps34
        go_wp2_with fail
        refine (HC.out _ (by go_grown)).mono ?_
        rintro e w1 ⟨rfl, hb⟩
        have j0 : ∀ o, w1.cell? ⟨w.heap.size, o, none⟩ = (#[.int .i64 y0, .int .i64 y1, .bool y2, .int .i64 y3, .int .i64 y4, .int .i64 y5, .int .i64 s0, .int .i64 s1, .int .i64 s2, .slice ua fn uc, .int .i64 c0, .int .i64 c1, .slice va sn vc, .int .i64 k0, .int .i64 k1, .int .i64 k2] : Array Value)[o]? := fun o => by rw [hb.cell (p := ⟨w.heap.size, o, none⟩) (by simp; omega)]; simp [go_sem]
        have j1 : ∀ o, w1.cell? ⟨w.heap.size + 1, o, none⟩ = (#[.int .i64 0, .int .i64 0] : Array Value)[o]? := fun o => by rw [hb.cell (p := ⟨w.heap.size + 1, o, none⟩) (by simp)]; simp [go_sem]
        have f1 : ∀ o, w1.frozen? ⟨w.heap.size + 1, o, none⟩ = false := fun o => by rw [hb.frozen (p := ⟨w.heap.size + 1, o, none⟩) (by simp)]; simp [go_sem]
        have z1 : w.heap.size + 1 < w1.heap.size := by have := hb.size; simp at this; omega
        have HB : Hid (Below w.heap.size w w1) := Below.trans (by go_grown) (hb.mono (by simp; omega))
        clear hb HC
        have hfl := fldI
        go_wp2_with fail
        have x6 := j0 6
        have x7 := j0 7
        have x8 := j0 8
        have x9 := j0 9
        have x13 := j0 13
        simp only [List.getElem?_toArray, List.getElem?_cons_succ, List.getElem?_cons_zero] at x6 x7 x8 x9 x13
        have z0 : w.heap.size < w1.heap.size := by omega
        go_region_held3 (fun w' => w'.cell? ⟨w.heap.size, 6, none⟩ = some (.int .i64 s0) ∧ w'.cell? ⟨w.heap.size, 7, none⟩ = some (.int .i64 s1) ∧ w'.cell? ⟨w.heap.size, 8, none⟩ = some (.int .i64 s2) ∧ w'.cell? ⟨w.heap.size, 9, none⟩ = some (.slice ua fn uc) ∧ w'.cell? ⟨w.heap.size, 13, none⟩ = some (.int .i64 k0)) (first | go_keep)
          (first | (go_at_call 90; refine (HW2.out _ (HB.out.drew)).mono ?_; rintro e w2 ⟨rfl, hb⟩; replace hb := bl_drew hb; replace j1 := bx_below j1 z1 hb; replace f1 := bxF f1 hb z1; replace x6 := (hb.cell (p := ⟨w.heap.size, 6, none⟩) z0).trans x6; replace x7 := (hb.cell (p := ⟨w.heap.size, 7, none⟩) z0).trans x7; replace x8 := (hb.cell (p := ⟨w.heap.size, 8, none⟩) z0).trans x8; replace x9 := (hb.cell (p := ⟨w.heap.size, 9, none⟩) z0).trans x9; replace x13 := (hb.cell (p := ⟨w.heap.size, 13, none⟩) z0).trans x13; replace HB : Hid (Below w.heap.size w w2) := HB.out.trans (hb.mono HB.out.size); clear hb))
        all_goals (go_wp2_with fail)
        all_goals have hwr : IntKind.i64.wrap (k0 - q) = k0 - q := IntWalk.i64_in _ (by omega)
        · refine bodyPost_ret (v := .agg #[.int .i64 0, .int .i64 (IntKind.i64.wrap (k0 - q))]) (by simp [results, Try.results34, go_sem, j1]) rfl ⟨?_, ?_⟩
          · rw [hwr] at h ⊢
            have hV : V = k0 - q := by rw [HVV.out]; omega
            rw [hV]
          · have hB1 := HB.out
            clear j0 j1 f1 HB
            go_grown
        · refine bodyPost_ret (v := .agg #[.int .i64 0, .int .i64 0]) (by simp [results, Try.results34, go_sem, j1]) rfl ⟨?_, ?_⟩
          · rw [hwr] at h
            have hV : V = 0 := by rw [HVV.out]; omega
            rw [hV]
          · have hB1 := HB.out
            clear j0 j1 f1 HB
            go_grown
      · rw [if_neg (by omega)] at hv
        have b' : ((fn : Int) == 12) = true := by simp; omega
        subst hv
        clear HO HV a b HW
        go_enter Try.func34, Try.ntmps34
        go_wp2_with fail
        refine (HC.out _ (by go_grown)).mono ?_
        rintro e w1 ⟨rfl, hb⟩
        have j0 : ∀ o, w1.cell? ⟨w.heap.size, o, none⟩ = (#[.int .i64 y0, .int .i64 y1, .bool y2, .int .i64 y3, .int .i64 y4, .int .i64 y5, .int .i64 s0, .int .i64 s1, .int .i64 s2, .slice ua fn uc, .int .i64 c0, .int .i64 c1, .slice va sn vc, .int .i64 k0, .int .i64 k1, .int .i64 k2] : Array Value)[o]? := fun o => by rw [hb.cell (p := ⟨w.heap.size, o, none⟩) (by simp; omega)]; simp [go_sem]
        have j1 : ∀ o, w1.cell? ⟨w.heap.size + 1, o, none⟩ = (#[.int .i64 0, .int .i64 0] : Array Value)[o]? := fun o => by rw [hb.cell (p := ⟨w.heap.size + 1, o, none⟩) (by simp)]; simp [go_sem]
        have f1 : ∀ o, w1.frozen? ⟨w.heap.size + 1, o, none⟩ = false := fun o => by rw [hb.frozen (p := ⟨w.heap.size + 1, o, none⟩) (by simp)]; simp [go_sem]
        have z1 : w.heap.size + 1 < w1.heap.size := by have := hb.size; simp at this; omega
        have HB : Hid (Below w.heap.size w w1) := Below.trans (by go_grown) (hb.mono (by simp; omega))
        clear hb HC
        go_wp2_with fail
        refine bodyPost_ret (v := .agg #[.int .i64 0, .int .i64 0]) (by simp [results, Try.results34, go_sem, j1]) rfl ⟨rfl, ?_⟩
        have hB1 := HB.out
        clear j0 j1 f1 HB
        go_grown
    · rw [if_neg (by omega)] at hv
      have a' : (y1 != 3) = true := by simp [a]
      subst hv
      clear HO HV a HW
      go_enter Try.func34, Try.ntmps34
      go_wp2_with fail
      refine (HC.out _ (by go_grown)).mono ?_
      rintro e w1 ⟨rfl, hb⟩
      have j0 : ∀ o, w1.cell? ⟨w.heap.size, o, none⟩ = (#[.int .i64 y0, .int .i64 y1, .bool y2, .int .i64 y3, .int .i64 y4, .int .i64 y5, .int .i64 s0, .int .i64 s1, .int .i64 s2, .slice ua fn uc, .int .i64 c0, .int .i64 c1, .slice va sn vc, .int .i64 k0, .int .i64 k1, .int .i64 k2] : Array Value)[o]? := fun o => by rw [hb.cell (p := ⟨w.heap.size, o, none⟩) (by simp; omega)]; simp [go_sem]
      have j1 : ∀ o, w1.cell? ⟨w.heap.size + 1, o, none⟩ = (#[.int .i64 0, .int .i64 0] : Array Value)[o]? := fun o => by rw [hb.cell (p := ⟨w.heap.size + 1, o, none⟩) (by simp)]; simp [go_sem]
      have f1 : ∀ o, w1.frozen? ⟨w.heap.size + 1, o, none⟩ = false := fun o => by rw [hb.frozen (p := ⟨w.heap.size + 1, o, none⟩) (by simp)]; simp [go_sem]
      have z1 : w.heap.size + 1 < w1.heap.size := by have := hb.size; simp at this; omega
      have HB : Hid (Below w.heap.size w w1) := Below.trans (by go_grown) (hb.mono (by simp; omega))
      clear hb HC
      go_wp2_with fail
      refine bodyPost_ret (v := .agg #[.int .i64 0, .int .i64 0]) (by simp [results, Try.results34, go_sem, j1]) rfl ⟨rfl, ?_⟩
      have hB1 := HB.out
      clear j0 j1 f1 HB
      go_grown
  · have hv := HV.out
    rw [if_neg hF] at hv
    have hF' : (F != 0) = true := by simp [hF]
    subst hv
    clear HO HV hF HW
    go_enter Try.func34, Try.ntmps34
    go_wp2_with fail
    refine (HC.out _ (by go_grown)).mono ?_
    rintro e w1 ⟨rfl, hb⟩
    have j0 : ∀ o, w1.cell? ⟨w.heap.size, o, none⟩ = (#[.int .i64 y0, .int .i64 y1, .bool y2, .int .i64 y3, .int .i64 y4, .int .i64 y5, .int .i64 s0, .int .i64 s1, .int .i64 s2, .slice ua fn uc, .int .i64 c0, .int .i64 c1, .slice va sn vc, .int .i64 k0, .int .i64 k1, .int .i64 k2] : Array Value)[o]? := fun o => by rw [hb.cell (p := ⟨w.heap.size, o, none⟩) (by simp; omega)]; simp [go_sem]
    have j1 : ∀ o, w1.cell? ⟨w.heap.size + 1, o, none⟩ = (#[.int .i64 0, .int .i64 0] : Array Value)[o]? := fun o => by rw [hb.cell (p := ⟨w.heap.size + 1, o, none⟩) (by simp)]; simp [go_sem]
    have f1 : ∀ o, w1.frozen? ⟨w.heap.size + 1, o, none⟩ = false := fun o => by rw [hb.frozen (p := ⟨w.heap.size + 1, o, none⟩) (by simp)]; simp [go_sem]
    have z1 : w.heap.size + 1 < w1.heap.size := by have := hb.size; simp at this; omega
    have HB : Hid (Below w.heap.size w w1) := Below.trans (by go_grown) (hb.mono (by simp; omega))
    clear hb HC
    go_wp2_with fail
    refine bodyPost_ret (v := .agg #[.int .i64 F, .int .i64 0]) (by simp [results, Try.results34, go_sem, j1]) rfl ⟨rfl, ?_⟩
    have hB1 := HB.out
    clear j0 j1 f1 HB
    go_grown
theorem iStale1 (z0 z1 z3 z4 : Int) (va : Option Addr) (vn vc : Nat) (w : World) :
    Calls Try.prog 91 #[.agg #[.int .i64 z0, .int .i64 z1, .slice va vn vc, .int .i64 z3, .int .i64 z4]] w fun e w' => e = .returned (.bool (decide (3 ≤ z4))) ∧ Below w.heap.size w w' := by
  go_enter Try.func91, Try.ntmps91
  go_wp2_with fail
  go_ret
  exact ⟨rfl, by go_grown⟩
theorem stl_so (l : List DFlight) : ∀ k, k ≤ l.length → (soUp (fun i : Fin l.length => decide (3 ≤ l[i].2.2.2.2.1)) k).length = stlL (l.take k)
  | 0, _ => by simp [soUp, stlL]
  | k + 1, h => by
    have hk : k < l.length := h
    have ih := stl_so l k (Nat.le_of_lt hk)
    rw [stlL_step hk]
    by_cases hp : 3 ≤ l[k].2.2.2.2.1
    · rw [if_pos hp, soUp_yes _ hk (by simpa using hp), List.length_append, ih]; rfl
    · rw [if_neg hp, soUp_no _ hk (by simpa using hp), ih]
set_option maxRecDepth 100000 in
set_option maxHeartbeats 4000000 in
theorem iStaleOk (x : DSub) (u v : Value) (w : World) (B : Nat) (hr : shSub.Rd w B x [.int .i64 x.1, .int .i64 x.2.1, .bool x.2.2.1, .int .i64 x.2.2.2.1, .int .i64 x.2.2.2.2.1, .int .i64 x.2.2.2.2.2.1, .int .i64 x.2.2.2.2.2.2.1.1, .int .i64 x.2.2.2.2.2.2.1.2.1, .int .i64 x.2.2.2.2.2.2.1.2.2.1, u, .int .i64 x.2.2.2.2.2.2.2.1.1, .int .i64 x.2.2.2.2.2.2.2.1.2.1, v, .int .i64 x.2.2.2.2.2.2.2.2.1.1, .int .i64 x.2.2.2.2.2.2.2.2.1.2.1, .int .i64 x.2.2.2.2.2.2.2.2.1.2.2.1]) (hB : B ≤ w.heap.size) (hT : totSub x ≤ 1048576) (hF : subF x = 0) :
    Calls Try.prog 35 #[.agg #[.int .i64 x.1, .int .i64 x.2.1, .bool x.2.2.1, .int .i64 x.2.2.2.1, .int .i64 x.2.2.2.2.1, .int .i64 x.2.2.2.2.2.1, .int .i64 x.2.2.2.2.2.2.1.1, .int .i64 x.2.2.2.2.2.2.1.2.1, .int .i64 x.2.2.2.2.2.2.1.2.2.1, u, .int .i64 x.2.2.2.2.2.2.2.1.1, .int .i64 x.2.2.2.2.2.2.2.1.2.1, v, .int .i64 x.2.2.2.2.2.2.2.2.1.1, .int .i64 x.2.2.2.2.2.2.2.2.1.2.1, .int .i64 x.2.2.2.2.2.2.2.2.1.2.2.1]] w fun e w' => e = .returned (.agg #[.int .i64 0, .int .i64 (stlL x.2.2.2.2.2.2.1.2.2.2.1 : Nat)]) ∧ Below w.heap.size w w' := by
  obtain ⟨y0, y1, y2, y3, y4, y5, ⟨s0, s1, s2, fl, ⟨⟩⟩, ⟨c0, c1, sp, ⟨⟩⟩, ⟨k0, k1, k2, ⟨⟩⟩, ⟨⟩⟩ := x
  simp only at *
  obtain ⟨ua, uc, va, vc, rfl, rfl, rs0, rc0, hwf⟩ := rd_SubF hr
  obtain ⟨q1, e1, rs, -⟩ := rd_Sender rs0
  simp only [List.cons.injEq, and_true, true_and] at e1
  subst e1
  replace rs : shFlights.Rd w B fl [.slice ua fl.length uc] := rs
  have ht : totSender (s0, s1, s2, fl, ()) + totCatch (c0, c1, sp, ()) ≤ 1048576 := hT
  have HC : Hid (∀ W, Below w.heap.size w W → Calls Try.prog 33 #[.agg #[.int .i64 y0, .int .i64 y1, .bool y2, .int .i64 y3, .int .i64 y4, .int .i64 y5, .int .i64 s0, .int .i64 s1, .int .i64 s2, .slice ua fl.length uc, .int .i64 c0, .int .i64 c1, .slice va sp.length vc, .int .i64 k0, .int .i64 k1, .int .i64 k2]] W fun e w' => e = .returned (.int .i64 (subF (y0, y1, y2, y3, y4, y5, (s0, s1, s2, fl, ()), (c0, c1, sp, ()), (k0, k1, k2, ()), ()))) ∧ Below W.heap.size W w') := fun W hW => iSubFault (y0, y1, y2, y3, y4, y5, (s0, s1, s2, fl, ()), (c0, c1, sp, ()), (k0, k1, k2, ()), ()) _ _ W B (hr.below hB hW) (Nat.le_trans hB hW.size) hT
  rw [hF] at HC
  obtain ⟨VA, VN, VC, hcs, -, -⟩ := fl_cellsS rs
  have HCS : Hid (∀ W, Below w.heap.size w W → FlCells W B ua fl.length (fun k => fl[k].1) (fun k => fl[k].2.1) (fun k => fl[k].2.2.2.1) (fun k => fl[k].2.2.2.2.1) VA VN VC) := fun W hW => hcs.below (hW.mono hB)
  have h12 : fl.length ≤ 12 := (snd_ok (sub_ok hF).2.1).2.2.2
  clear hr rs0 rs rc0 hT hwf ht hF hcs
  refine (callsIn_wide (n := 6)).1 ?_
  refine callsIn_of_wp_marks Try.func35 rfl trivial ?_ rfl
  simp only [Try.ntmps35, List.size_toArray, List.length_cons, List.length_nil, Nat.reduceAdd, Nat.reduceSub, Array.replicate_succ, Array.replicate_zero, List.push_toArray, List.append_toArray, List.nil_append, List.cons_append]
  gi_wp2_with fail
  refine ⟨trivial, ?_⟩
  refine (callsIn_wide.2 (HC.out _ (by go_grown))).mono ?_
  rintro e w1 ⟨rfl, hb⟩
  have j0 : ∀ o, w1.cell? ⟨w.heap.size, o, none⟩ = (#[.int .i64 y0, .int .i64 y1, .bool y2, .int .i64 y3, .int .i64 y4, .int .i64 y5, .int .i64 s0, .int .i64 s1, .int .i64 s2, .slice ua fl.length uc, .int .i64 c0, .int .i64 c1, .slice va sp.length vc, .int .i64 k0, .int .i64 k1, .int .i64 k2] : Array Value)[o]? := fun o => by rw [hb.cell (p := ⟨w.heap.size, o, none⟩) (by simp; omega)]; simp [go_sem]
  have j1 : ∀ o, w1.cell? ⟨w.heap.size + 1, o, none⟩ = (#[.int .i64 0, .int .i64 0] : Array Value)[o]? := fun o => by rw [hb.cell (p := ⟨w.heap.size + 1, o, none⟩) (by simp)]; simp [go_sem]
  have f1 : ∀ o, w1.frozen? ⟨w.heap.size + 1, o, none⟩ = false := fun o => by rw [hb.frozen (p := ⟨w.heap.size + 1, o, none⟩) (by simp)]; simp [go_sem]
  have z1 : w.heap.size + 1 < w1.heap.size := by have := hb.size; simp at this; omega
  have z0 : w.heap.size < w1.heap.size := by omega
  have HB1 : Hid (Below w.heap.size w w1) := Below.trans (by go_grown) (hb.mono (by simp; omega))
  clear hb HC
  gi_wp2_with (refine ⟨trivial, ?_⟩; gi_at_call 92; refine (those_in _ _ _ _ _ _ _).mono ?_; rintro e w' ⟨rfl, rfl⟩)
  have bO := ((Boxed.new w1 2 (.int .i64 0)).alloc (.cells #[.slice ua fl.length uc] 134)).alloc (.cells #[(.func (.func 91) #[] #[])] 131)
  have bL := (Boxed.new (w1.alloc (.cells #[.int .i64 0] 2)) 134 (.slice ua fl.length uc)).alloc (.cells #[(.func (.func 91) #[] #[])] 131)
  have bF := Boxed.new ((w1.alloc (.cells #[.int .i64 0] 2)).alloc (.cells #[.slice ua fl.length uc] 134)) 131 (.func (.func 91) #[] #[])
  rw [World.size_alloc] at bL
  rw [World.size_alloc, World.size_alloc] at bF
  have hB5 : Below w1.heap.size w1 (((w1.alloc (.cells #[.int .i64 0] 2)).alloc (.cells #[.slice ua fl.length uc] 134)).alloc (.cells #[(.func (.func 91) #[] #[])] 131)) := (((Below.refl _ w1).alloc (Nat.le_refl _) _).alloc (by simp) _).alloc (by simp; omega) _
  obtain ⟨W5, hW5⟩ : ∃ W5, W5 = ((w1.alloc (.cells #[.int .i64 0] 2)).alloc (.cells #[.slice ua fl.length uc] 134)).alloc (.cells #[(.func (.func 91) #[] #[])] 131) := ⟨_, rfl⟩
  have hz5 : W5.heap.size = w1.heap.size + 1 + 1 + 1 := by rw [hW5]; simp
  rw [← hW5] at bO bL bF hB5 ⊢
  clear hW5
  have hI : OwnFrom W5.heap.size (fun (pre : List (Fin fl.length)) (W : World) => (Boxed W w1.heap.size 2 (.int .i64 (pre.length : Int)) ∧ Boxed W (w1.heap.size + 1 + 1) 131 (.func (.func 91) #[] #[])) ∧ Below w1.heap.size w1 W) :=
    OwnFrom.and (OwnFrom.and (Go.Own.from (boxed_own _ _ _) _) (Go.Own.from (boxed_own _ _ _) _)) (ownFrom_below (Nat.le_refl _) (by omega))
  refine wpIn_rangeFunc_ownG rfl (by decide) (gf := 130) (lb := #[.pointer (some ⟨w1.heap.size + 1, 0, none⟩), .pointer (some ⟨w1.heap.size + 1 + 1, 0, none⟩)]) rfl trivial (enters_of Try.func130 (by kernel_rfl) rfl)
    (those_stops _ (by decide) (w1.heap.size + 1) (w1.heap.size + 1 + 1) w1.heap.size ua fl.length uc (by omega) (fun k => fl[k].1) (fun k => fl[k].2.1) (fun k => fl[k].2.2.2.1) (fun k => fl[k].2.2.2.2.1) VA VN VC 91 (enters_of Try.func91 (by kernel_rfl) rfl) #[] (fun k => decide (3 ≤ fl[k].2.2.2.2.1)) W5 (by omega) (by omega) (by omega) bL.cell bF.cell
      ((HCS.out W5 (HB1.out.trans (hB5.mono HB1.out.size))).monoS (by omega))
      (fun W' k hW' => callsIn_wide.2 (iStale1 _ _ _ _ _ _ _ W')))
    KpF.trans (kpF_bS (by omega) (by omega)) (Below.refl _ _) (fun _ => rfl)
    (fun pre W => (Boxed W w1.heap.size 2 (.int .i64 (pre.length : Int)) ∧ Boxed W (w1.heap.size + 1 + 1) 131 (.func (.func 91) #[] #[])) ∧ Below w1.heap.size w1 W)
    (fun _ _ _ => False) hI (fun _ _ _ _ _ hs _ _ => hs) ⟨⟨bO, bF⟩, hB5⟩ ?a1 ?assign ?body ?done ?stop
  case assign =>
    intro l x W K hK
    gi_wp2
    exact hK
  case body =>
    rintro lr pre x W ⟨⟨hv, hbf⟩, hB⟩ hlt
    have hc := hv.cell
    have hfz := hv.frozen
    have hpl : (pre.length : Int) ≤ 12 := by omega
    gi_wp2
    have hbf' := fun u => hbf.other (B' := w1.heap.size) (by omega) u
    have e2 : ((pre ++ [x]).length : Int) = (pre.length : Int) + 1 := by simp
    have hb2 : Below w1.heap.size W (W.setCell ⟨w1.heap.size, 0, none⟩ (.int .i64 ((pre.length : Int) + 1))) := (Below.refl _ W).setCell (p := ⟨w1.heap.size, 0, none⟩) (Nat.le_refl _) _
    exact ⟨(KeepsOthers.setCell W ⟨w1.heap.size, 0, none⟩ _).from _, ⟨hb2, (show _ = _ from hbf' _).trans (show _ = _ from hbf).symm⟩, ⟨by rw [e2]; exact hv.set _, hbf' _⟩, hB.trans hb2⟩
  case done =>
    rintro D ys W hD rfl ⟨⟨hv, hbf⟩, hB⟩ hK
    have hc := hv.cell
    have k6' : ∀ o, W.cell? ⟨w.heap.size + 1, o, none⟩ = (#[.int .i64 0, .int .i64 0] : Array Value)[o]? := fun o => (hB.cell (p := ⟨w.heap.size + 1, o, none⟩) (by dsimp only; omega)).trans (j1 o)
    have f6' : ∀ o, W.frozen? ⟨w.heap.size + 1, o, none⟩ = false := fun o => (hB.frozen (p := ⟨w.heap.size + 1, o, none⟩) (by dsimp only; omega)).trans (f1 o)
    have hdl : (soUp (fun k : Fin fl.length => decide (3 ≤ fl[k].2.2.2.2.1)) fl.length).length = stlL fl := by have h := stl_so fl fl.length (Nat.le_refl _); rw [List.take_length] at h; exact h
    rw [hdl] at hc
    clear hv hbf hI hdl
    obtain ⟨dn, hdn⟩ : ∃ dn, dn = stlL fl := ⟨_, rfl⟩
    rw [← hdn] at hc
    have HDN : Hid (dn = stlL fl) := hdn
    clear hdn
    gi_wp2
    have kX := bx2 (u := .int .i64 0) (v := .int .i64 (dn : Int)) k6'
    have hBX : Below w.heap.size w ((W.setCell ⟨w.heap.size + 1, 0, none⟩ (.int .i64 0)).setCell ⟨w.heap.size + 1, 1, none⟩ (.int .i64 (dn : Int))) := ((HB1.out.trans (hB.mono HB1.out.size)).setCell (by dsimp only; omega) _).setCell (by dsimp only; omega) _
    have hK' := ((KeepsOthers.setCell W ⟨w.heap.size + 1, 0, none⟩ (.int .i64 0)).trans (KeepsOthers.setCell _ ⟨w.heap.size + 1, 1, none⟩ (.int .i64 (dn : Int)))).same D _ hK rfl
    have hXz : W.heap.size ≤ ((W.setCell ⟨w.heap.size + 1, 0, none⟩ (.int .i64 0)).setCell ⟨w.heap.size + 1, 1, none⟩ (.int .i64 (dn : Int))).heap.size := by simp
    generalize (W.setCell ⟨w.heap.size + 1, 0, none⟩ (.int .i64 0)).setCell ⟨w.heap.size + 1, 1, none⟩ (.int .i64 (dn : Int)) = X at *
    refine ⟨by simp, .inl ⟨_, _, rfl, run_takeDeferred hK', ?_⟩⟩
    have hW1 := hB.size
    have kP : ∀ o, (X.putObj D (.deferred none)).cell? ⟨w.heap.size + 1, o, none⟩ = (#[.int .i64 0, .int .i64 (dn : Int)] : Array Value)[o]? := fun o => (World.cell?_of_block (w := X) (a := ⟨w.heap.size + 1, o, none⟩) ((grownBy_putObj' X D (.deferred none)).block _ (by dsimp only; omega) (fun e => by simp at e; omega))).trans (kX o)
    exact ⟨.agg #[.int .i64 0, .int .i64 (dn : Int)], by simp [results, Try.results35, go_sem, kP], by rw [HDN.out], hBX.trans (belowK_b (w := w) (Nat.le_refl _) X D _ _ (by omega) hK' rfl rfl)⟩
  case stop =>
    rintro D c pre W _ _ h _
    exact h.elim
set_option maxHeartbeats 2000000 in
theorem iStaleOf (x : DSub) (u v : Value) (w : World) (B : Nat) (hr : shSub.Rd w B x [.int .i64 x.1, .int .i64 x.2.1, .bool x.2.2.1, .int .i64 x.2.2.2.1, .int .i64 x.2.2.2.2.1, .int .i64 x.2.2.2.2.2.1, .int .i64 x.2.2.2.2.2.2.1.1, .int .i64 x.2.2.2.2.2.2.1.2.1, .int .i64 x.2.2.2.2.2.2.1.2.2.1, u, .int .i64 x.2.2.2.2.2.2.2.1.1, .int .i64 x.2.2.2.2.2.2.2.1.2.1, v, .int .i64 x.2.2.2.2.2.2.2.2.1.1, .int .i64 x.2.2.2.2.2.2.2.2.1.2.1, .int .i64 x.2.2.2.2.2.2.2.2.1.2.2.1]) (hB : B ≤ w.heap.size) (hT : totSub x ≤ 1048576) :
    Calls Try.prog 35 #[.agg #[.int .i64 x.1, .int .i64 x.2.1, .bool x.2.2.1, .int .i64 x.2.2.2.1, .int .i64 x.2.2.2.2.1, .int .i64 x.2.2.2.2.2.1, .int .i64 x.2.2.2.2.2.2.1.1, .int .i64 x.2.2.2.2.2.2.1.2.1, .int .i64 x.2.2.2.2.2.2.1.2.2.1, u, .int .i64 x.2.2.2.2.2.2.2.1.1, .int .i64 x.2.2.2.2.2.2.2.1.2.1, v, .int .i64 x.2.2.2.2.2.2.2.2.1.1, .int .i64 x.2.2.2.2.2.2.2.2.1.2.1, .int .i64 x.2.2.2.2.2.2.2.2.1.2.2.1]] w fun e w' => e = .returned (.agg #[.int .i64 (subF x), .int .i64 (stlV x)]) ∧ Below w.heap.size w w' := by
  by_cases hF : subF x = 0
  · have e : stlV x = (stlL x.2.2.2.2.2.2.1.2.2.2.1 : Int) := by unfold stlV; rw [if_pos hF]
    rw [hF, e]
    exact iStaleOk x u v w B hr hB hT hF
  · have e : stlV x = 0 := by unfold stlV; rw [if_neg hF]
    rw [e]
    clear e
    obtain ⟨y0, y1, y2, y3, y4, y5, ⟨s0, s1, s2, fl, ⟨⟩⟩, ⟨c0, c1, sp, ⟨⟩⟩, ⟨k0, k1, k2, ⟨⟩⟩, ⟨⟩⟩ := x
    simp only at *
    obtain ⟨ua, uc, va, vc, rfl, rfl, rs0, rc0, hwf⟩ := rd_SubF hr
    obtain ⟨q1, e1, rs, -⟩ := rd_Sender rs0
    simp only [List.cons.injEq, and_true, true_and] at e1
    subst e1
    replace rs : shFlights.Rd w B fl [.slice ua fl.length uc] := rs
    have ht : totSender (s0, s1, s2, fl, ()) + totCatch (c0, c1, sp, ()) ≤ 1048576 := hT
    have HC : Hid (∀ W, Below w.heap.size w W → Calls Try.prog 33 #[.agg #[.int .i64 y0, .int .i64 y1, .bool y2, .int .i64 y3, .int .i64 y4, .int .i64 y5, .int .i64 s0, .int .i64 s1, .int .i64 s2, .slice ua fl.length uc, .int .i64 c0, .int .i64 c1, .slice va sp.length vc, .int .i64 k0, .int .i64 k1, .int .i64 k2]] W fun e w' => e = .returned (.int .i64 (subF (y0, y1, y2, y3, y4, y5, (s0, s1, s2, fl, ()), (c0, c1, sp, ()), (k0, k1, k2, ()), ()))) ∧ Below W.heap.size W w') := fun W hW => iSubFault (y0, y1, y2, y3, y4, y5, (s0, s1, s2, fl, ()), (c0, c1, sp, ()), (k0, k1, k2, ()), ()) _ _ W B (hr.below hB hW) (Nat.le_trans hB hW.size) hT
    clear hr rs rc0 rs0 hT hwf ht
    generalize subF (y0, y1, y2, y3, y4, y5, (s0, s1, s2, fl, ()), (c0, c1, sp, ()), (k0, k1, k2, ()), ()) = F at *
    generalize fl.length = fn at *
    generalize sp.length = sn at *
    have hF' : (F != 0) = true := by simp [hF]
    clear hF
    go_enter Try.func35, Try.ntmps35
    go_wp2_with fail
    refine (HC.out _ (by go_grown)).mono ?_
    rintro e w1 ⟨rfl, hb⟩
    have j0 : ∀ o, w1.cell? ⟨w.heap.size, o, none⟩ = (#[.int .i64 y0, .int .i64 y1, .bool y2, .int .i64 y3, .int .i64 y4, .int .i64 y5, .int .i64 s0, .int .i64 s1, .int .i64 s2, .slice ua fn uc, .int .i64 c0, .int .i64 c1, .slice va sn vc, .int .i64 k0, .int .i64 k1, .int .i64 k2] : Array Value)[o]? := fun o => by rw [hb.cell (p := ⟨w.heap.size, o, none⟩) (by simp; omega)]; simp [go_sem]
    have j1 : ∀ o, w1.cell? ⟨w.heap.size + 1, o, none⟩ = (#[.int .i64 0, .int .i64 0] : Array Value)[o]? := fun o => by rw [hb.cell (p := ⟨w.heap.size + 1, o, none⟩) (by simp)]; simp [go_sem]
    have f1 : ∀ o, w1.frozen? ⟨w.heap.size + 1, o, none⟩ = false := fun o => by rw [hb.frozen (p := ⟨w.heap.size + 1, o, none⟩) (by simp)]; simp [go_sem]
    have z1 : w.heap.size + 1 < w1.heap.size := by have := hb.size; simp at this; omega
    have HB : Hid (Below w.heap.size w w1) := Below.trans (by go_grown) (hb.mono (by simp; omega))
    clear hb HC
    go_wp2_with fail
    refine bodyPost_ret (v := .agg #[.int .i64 F, .int .i64 0]) (by simp [results, Try.results35, go_sem, j1]) rfl ⟨rfl, ?_⟩
    have hB1 := HB.out
    clear j0 j1 f1 HB
    go_grown
end Go.Proofs.Ytebgibjokljlbaa
