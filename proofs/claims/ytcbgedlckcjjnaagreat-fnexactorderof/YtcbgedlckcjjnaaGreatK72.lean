/- The cells of a row of flights that can be read; no condition. -/
import Derived.RangeFuncNested
import Derived.RangeFuncBound
import Derived.RangeFuncCalls
import Derived.RangeFuncLeaves
import Derived.RangeFuncBox
import Derived.Shelf.Abstract
import Derived.Shelf.RegionOpen
import Derived.WalkKit
import Derived.OwnWalkIn
import Derived.TacticsInMore
import Derived.LoopNIn
import Derived.LoopIn
import Derived.Maps.AppendAt
import Derived.Test.YtcbgedlckcjjnaaGreatRows
import Derived.Deep.RegionHeld3
import Derived.Test.YtcbgedlckcjjnaaGreatK01
import Derived.Test.YtcbgedlckcjjnaaGreatK02
import Derived.Test.YtcbgedlckcjjnaaGreatK03
import Derived.Test.YtcbgedlckcjjnaaGreatK04
import Derived.Test.YtcbgedlckcjjnaaGreatK05
import Derived.Test.YtcbgedlckcjjnaaGreatK08
import Derived.Test.YtcbgedlckcjjnaaGreatK15
namespace Go.Proofs.YtcbgedlckcjjnaaGreat
open Go.RowKit Go.Shelf
set_option linter.unusedVariables false
attribute [local go_sem] Oper.semAt_some

/-- A row of flights that can be read has its cells. -/
theorem fl_cellsS {w : World} {B : Nat} {l : List DFlight} {a : Option Addr} {n cap : Nat} (h : shFlights.Rd w B l [.slice a n cap]) :
    ∃ (VA : Fin l.length → Option Addr) (VN VC : Fin l.length → Nat), FlCells w B a l.length (fun k => l[k].1) (fun k => l[k].2.1) (fun k => l[k].2.2.2.1) (fun k => l[k].2.2.2.2.1) VA VN VC ∧ (∀ k, VN k = l[k].2.2.1.length) ∧
      (∀ k, shFlight.Rd w B l[k] [.int .i64 l[k].1, .int .i64 l[k].2.1, .slice (VA k) (VN k) (VC k), .int .i64 l[k].2.2.2.1, .int .i64 l[k].2.2.2.2.1]) := by
  have h1 : ∀ k : Fin l.length, ∃ t : Option Addr × Nat × Nat, (∃ b off, a = some ⟨b, off, none⟩ ∧ b < B ∧ w.cell? ⟨b, off + k.1 * 5, none⟩ = some (.int .i64 l[k].1) ∧ w.cell? ⟨b, off + k.1 * 5 + 1, none⟩ = some (.int .i64 l[k].2.1) ∧ w.cell? ⟨b, off + k.1 * 5 + 2, none⟩ = some (.slice t.1 t.2.1 t.2.2) ∧ w.cell? ⟨b, off + k.1 * 5 + 3, none⟩ = some (.int .i64 l[k].2.2.2.1) ∧ w.cell? ⟨b, off + k.1 * 5 + 4, none⟩ = some (.int .i64 l[k].2.2.2.2.1)) ∧ t.2.1 = l[k].2.2.1.length ∧ shFlight.Rd w B l[k] [.int .i64 l[k].1, .int .i64 l[k].2.1, .slice t.1 t.2.1 t.2.2, .int .i64 l[k].2.2.2.1, .int .i64 l[k].2.2.2.2.1] := fun k => by
    obtain ⟨b, off, v, ha, hb, q0, q1, q2, q3, q4, r3⟩ := at_Flights h k.1 k.2
    obtain ⟨vv, ev, rk, -⟩ := rd_Flight r3
    simp only [List.cons.injEq, and_true, true_and] at ev
    subst ev
    obtain ⟨va, vc, ev2⟩ := row_form rk
    simp only [List.cons.injEq, and_true] at ev2
    subst ev2
    exact ⟨(va, _, vc), ⟨b, off, ha, hb, q0, q1, q2, q3, q4⟩, rfl, r3⟩
  obtain ⟨f, hf⟩ := Classical.axiomOfChoice h1
  exact ⟨fun k => (f k).1, fun k => (f k).2.1, fun k => (f k).2.2, ⟨fun k => (hf k).1⟩, fun k => (hf k).2.1, fun k => (hf k).2.2⟩

theorem FlCells.monoS {W : World} {n₀ n₁ : Nat} {a : Option Addr} {len : Nat} {Z0 Z1 Z3 Z4 : Fin len → Int} {VA : Fin len → Option Addr} {VN VC : Fin len → Nat} (h : FlCells W n₀ a len Z0 Z1 Z3 Z4 VA VN VC) (hb : n₀ ≤ n₁) : FlCells W n₁ a len Z0 Z1 Z3 Z4 VA VN VC := ⟨fun k => by
  obtain ⟨b, off, ha, hlt, h⟩ := h.at_ k
  exact ⟨b, off, ha, Nat.lt_of_lt_of_le hlt hb, h⟩⟩
theorem kpF_bS {n₀ Bf : Nat} {w : World} (hn : n₀ ≤ w.heap.size) (hf : Bf < w.heap.size) (W : World) (l : Nat) (o o' : Obj) (hl : w.heap.size ≤ l) (h : W.heap[l]? = some o) (h1 : o.isCells = false) (h2 : o.isWalk = false) : KpF n₀ Bf W (W.putObj l o') :=
  ⟨belowK_b hn W l o o' hl h h1 h2, (grownBy_putObj' W l o').block Bf (by have := (Array.getElem?_eq_some_iff.1 h).1; omega) (fun e => by cases e; omega)⟩
end Go.Proofs.YtcbgedlckcjjnaaGreat

/- What the program answers of a sub: its room, what is stale; nothing that was in memory turns; no condition but that there are at most a million parts. -/
namespace Go.Proofs.YtcbgedlckcjjnaaGreat
open Go.RowKit Go.Shelf
set_option linter.unusedVariables false
set_option maxRecDepth 8000
attribute [local go_sem] Oper.semAt_some

theorem bx2 {w : World} {b : Nat} {x0 x1 u v : Value} (h : ∀ o, w.cell? ⟨b, o, none⟩ = (#[x0, x1] : Array Value)[o]?) : ∀ o, ((w.setCell ⟨b, 0, none⟩ u).setCell ⟨b, 1, none⟩ v).cell? ⟨b, o, none⟩ = (#[u, v] : Array Value)[o]? := fun o => by
  have j := bx_put (bx_put h (k := 0) (v := u) (by simp)) (k := 1) (v := v) (by simp)
  simp only [List.setIfInBounds_toArray, List.set_cons_zero, List.set_cons_succ] at j
  exact j o
theorem iStale1 (z0 z1 z3 z4 : Int) (va : Option Addr) (vn vc : Nat) (w : World) :
    Calls Tryz.prog 151 #[.agg #[.int .i64 z0, .int .i64 z1, .slice va vn vc, .int .i64 z3, .int .i64 z4]] w fun e w' => e = .returned (.bool (decide (3 ≤ z4))) ∧ Below w.heap.size w w' := by
  go_enter Tryz.func151, Tryz.ntmps151
  go_wp2_with fail
  go_ret
  exact ⟨rfl, by go_grown⟩
theorem stl_so (l : List DFlight) : ∀ k, k ≤ l.length → (soUp (fun i : Fin l.length => decide (3 ≤ l[i].2.2.2.2.1)) k).length = stlL (l.take k)
  | 0, _ => by simp [soUp, stlL]
  | k + 1, h => by
    have hk : k < l.length := h
    have ih := stl_so l k (Nat.le_of_lt hk)
    rw [stlL_step hk]
    by_cases hp : 3 ≤ l[k].2.2.2.2.1
    · rw [if_pos hp, soUp_yes _ hk (by simpa using hp), List.length_append, ih]; rfl
    · rw [if_neg hp, soUp_no _ hk (by simpa using hp), ih]
set_option maxRecDepth 100000 in
set_option maxHeartbeats 4000000 in
theorem iStaleOk (x : DSub) (u v : Value) (w : World) (B : Nat) (hr : shSub.Rd w B x [.int .i64 x.1, .int .i64 x.2.1, .bool x.2.2.1, .int .i64 x.2.2.2.1, .int .i64 x.2.2.2.2.1, .int .i64 x.2.2.2.2.2.1, .int .i64 x.2.2.2.2.2.2.1.1, .int .i64 x.2.2.2.2.2.2.1.2.1, .int .i64 x.2.2.2.2.2.2.1.2.2.1, u, .int .i64 x.2.2.2.2.2.2.2.1.1, .int .i64 x.2.2.2.2.2.2.2.1.2.1, v, .int .i64 x.2.2.2.2.2.2.2.2.1.1, .int .i64 x.2.2.2.2.2.2.2.2.1.2.1, .int .i64 x.2.2.2.2.2.2.2.2.1.2.2.1]) (hB : B ≤ w.heap.size) (hT : totSub x ≤ 1048576) (hF : subF x = 0) :
    Calls Tryz.prog 98 #[.agg #[.int .i64 x.1, .int .i64 x.2.1, .bool x.2.2.1, .int .i64 x.2.2.2.1, .int .i64 x.2.2.2.2.1, .int .i64 x.2.2.2.2.2.1, .int .i64 x.2.2.2.2.2.2.1.1, .int .i64 x.2.2.2.2.2.2.1.2.1, .int .i64 x.2.2.2.2.2.2.1.2.2.1, u, .int .i64 x.2.2.2.2.2.2.2.1.1, .int .i64 x.2.2.2.2.2.2.2.1.2.1, v, .int .i64 x.2.2.2.2.2.2.2.2.1.1, .int .i64 x.2.2.2.2.2.2.2.2.1.2.1, .int .i64 x.2.2.2.2.2.2.2.2.1.2.2.1]] w fun e w' => e = .returned (.agg #[.int .i64 0, .int .i64 (stlL x.2.2.2.2.2.2.1.2.2.2.1 : Nat)]) ∧ Below w.heap.size w w' := by
  obtain ⟨y0, y1, y2, y3, y4, y5, ⟨s0, s1, s2, fl, ⟨⟩⟩, ⟨c0, c1, sp, ⟨⟩⟩, ⟨k0, k1, k2, ⟨⟩⟩, ⟨⟩⟩ := x
  simp only at *
  obtain ⟨ua, uc, va, vc, rfl, rfl, rs0, rc0, hwf⟩ := rd_SubF hr
  obtain ⟨q1, e1, rs, -⟩ := rd_Sender rs0
  simp only [List.cons.injEq, and_true, true_and] at e1
  subst e1
  replace rs : shFlights.Rd w B fl [.slice ua fl.length uc] := rs
  have ht : totSender (s0, s1, s2, fl, ()) + totCatch (c0, c1, sp, ()) ≤ 1048576 := hT
  have HC : Hid (∀ W, Below w.heap.size w W → Calls Tryz.prog 143 #[.agg #[.int .i64 y0, .int .i64 y1, .bool y2, .int .i64 y3, .int .i64 y4, .int .i64 y5, .int .i64 s0, .int .i64 s1, .int .i64 s2, .slice ua fl.length uc, .int .i64 c0, .int .i64 c1, .slice va sp.length vc, .int .i64 k0, .int .i64 k1, .int .i64 k2]] W fun e w' => e = .returned (.int .i64 (subF (y0, y1, y2, y3, y4, y5, (s0, s1, s2, fl, ()), (c0, c1, sp, ()), (k0, k1, k2, ()), ()))) ∧ Below W.heap.size W w') := fun W hW => iSubFault (y0, y1, y2, y3, y4, y5, (s0, s1, s2, fl, ()), (c0, c1, sp, ()), (k0, k1, k2, ()), ()) _ _ W B (hr.below hB hW) (Nat.le_trans hB hW.size) hT
  rw [hF] at HC
  obtain ⟨VA, VN, VC, hcs, -, -⟩ := fl_cellsS rs
  have HCS : Hid (∀ W, Below w.heap.size w W → FlCells W B ua fl.length (fun k => fl[k].1) (fun k => fl[k].2.1) (fun k => fl[k].2.2.2.1) (fun k => fl[k].2.2.2.2.1) VA VN VC) := fun W hW => hcs.below (hW.mono hB)
  have h12 : fl.length ≤ 12 := (snd_ok (sub_ok hF).2.1).2.2.2
  clear hr rs0 rs rc0 hT hwf ht hF hcs
  refine (callsIn_wide (n := 6)).1 ?_
  refine callsIn_of_wp_marks Tryz.func98 rfl trivial ?_ rfl
  simp only [Tryz.ntmps98, List.size_toArray, List.length_cons, List.length_nil, Nat.reduceAdd, Nat.reduceSub, Array.replicate_succ, Array.replicate_zero, List.push_toArray, List.append_toArray, List.nil_append, List.cons_append]
  gi_wp2_with fail
  refine ⟨trivial, ?_⟩
  refine (callsIn_wide.2 (HC.out _ (by go_grown))).mono ?_
  rintro e w1 ⟨rfl, hb⟩
  have j0 : ∀ o, w1.cell? ⟨w.heap.size, o, none⟩ = (#[.int .i64 y0, .int .i64 y1, .bool y2, .int .i64 y3, .int .i64 y4, .int .i64 y5, .int .i64 s0, .int .i64 s1, .int .i64 s2, .slice ua fl.length uc, .int .i64 c0, .int .i64 c1, .slice va sp.length vc, .int .i64 k0, .int .i64 k1, .int .i64 k2] : Array Value)[o]? := fun o => by rw [hb.cell (p := ⟨w.heap.size, o, none⟩) (by simp; omega)]; simp [go_sem]
  have j1 : ∀ o, w1.cell? ⟨w.heap.size + 1, o, none⟩ = (#[.int .i64 0, .int .i64 0] : Array Value)[o]? := fun o => by rw [hb.cell (p := ⟨w.heap.size + 1, o, none⟩) (by simp)]; simp [go_sem]
  have f1 : ∀ o, w1.frozen? ⟨w.heap.size + 1, o, none⟩ = false := fun o => by rw [hb.frozen (p := ⟨w.heap.size + 1, o, none⟩) (by simp)]; simp [go_sem]
  have z1 : w.heap.size + 1 < w1.heap.size := by have := hb.size; simp at this; omega
  have z0 : w.heap.size < w1.heap.size := by omega
  have HB1 : Hid (Below w.heap.size w w1) := Below.trans (by go_grown) (hb.mono (by simp; omega))
  clear hb HC
  gi_wp2_with (refine ⟨trivial, ?_⟩; gi_at_call 152; refine (those_in _ _ _ _ _ _ _).mono ?_; rintro e w' ⟨rfl, rfl⟩)
  have bO := ((Boxed.new w1 2 (.int .i64 0)).alloc (.cells #[.slice ua fl.length uc] 207)).alloc (.cells #[(.func (.func 151) #[] #[])] 204)
  have bL := (Boxed.new (w1.alloc (.cells #[.int .i64 0] 2)) 207 (.slice ua fl.length uc)).alloc (.cells #[(.func (.func 151) #[] #[])] 204)
  have bF := Boxed.new ((w1.alloc (.cells #[.int .i64 0] 2)).alloc (.cells #[.slice ua fl.length uc] 207)) 204 (.func (.func 151) #[] #[])
  rw [World.size_alloc] at bL
  rw [World.size_alloc, World.size_alloc] at bF
  have hB5 : Below w1.heap.size w1 (((w1.alloc (.cells #[.int .i64 0] 2)).alloc (.cells #[.slice ua fl.length uc] 207)).alloc (.cells #[(.func (.func 151) #[] #[])] 204)) := (((Below.refl _ w1).alloc (Nat.le_refl _) _).alloc (by simp) _).alloc (by simp; omega) _
  obtain ⟨W5, hW5⟩ : ∃ W5, W5 = ((w1.alloc (.cells #[.int .i64 0] 2)).alloc (.cells #[.slice ua fl.length uc] 207)).alloc (.cells #[(.func (.func 151) #[] #[])] 204) := ⟨_, rfl⟩
  have hz5 : W5.heap.size = w1.heap.size + 1 + 1 + 1 := by rw [hW5]; simp
  rw [← hW5] at bO bL bF hB5 ⊢
  clear hW5
  have hI : OwnFrom W5.heap.size (fun (pre : List (Fin fl.length)) (W : World) => (Boxed W w1.heap.size 2 (.int .i64 (pre.length : Int)) ∧ Boxed W (w1.heap.size + 1 + 1) 204 (.func (.func 151) #[] #[])) ∧ Below w1.heap.size w1 W) :=
    OwnFrom.and (OwnFrom.and (Go.Own.from (boxed_own _ _ _) _) (Go.Own.from (boxed_own _ _ _) _)) (ownFrom_below (Nat.le_refl _) (by omega))
  refine wpIn_rangeFunc_ownG rfl (by decide) (gf := 193) (lb := #[.pointer (some ⟨w1.heap.size + 1, 0, none⟩), .pointer (some ⟨w1.heap.size + 1 + 1, 0, none⟩)]) rfl trivial (enters_of Tryz.func193 (by kernel_rfl) rfl)
    (those_stops _ (by decide) (w1.heap.size + 1) (w1.heap.size + 1 + 1) w1.heap.size ua fl.length uc (by omega) (fun k => fl[k].1) (fun k => fl[k].2.1) (fun k => fl[k].2.2.2.1) (fun k => fl[k].2.2.2.2.1) VA VN VC 151 (enters_of Tryz.func151 (by kernel_rfl) rfl) #[] (fun k => decide (3 ≤ fl[k].2.2.2.2.1)) W5 (by omega) (by omega) (by omega) bL.cell bF.cell
      ((HCS.out W5 (HB1.out.trans (hB5.mono HB1.out.size))).monoS (by omega))
      (fun W' k hW' => callsIn_wide.2 (iStale1 _ _ _ _ _ _ _ W')))
    KpF.trans (kpF_bS (by omega) (by omega)) (Below.refl _ _) (fun _ => rfl)
    (fun pre W => (Boxed W w1.heap.size 2 (.int .i64 (pre.length : Int)) ∧ Boxed W (w1.heap.size + 1 + 1) 204 (.func (.func 151) #[] #[])) ∧ Below w1.heap.size w1 W)
    (fun _ _ _ => False) hI (fun _ _ _ _ _ hs _ _ => hs) ⟨⟨bO, bF⟩, hB5⟩ ?a1 ?assign ?body ?done ?stop
  case assign =>
    intro l x W K hK
    gi_wp2
    exact hK
  case body =>
    rintro lr pre x W ⟨⟨hv, hbf⟩, hB⟩ hlt
    have hc := hv.cell
    have hfz := hv.frozen
    have hpl : (pre.length : Int) ≤ 12 := by omega
    gi_wp2
    have hbf' := fun u => hbf.other (B' := w1.heap.size) (by omega) u
    have e2 : ((pre ++ [x]).length : Int) = (pre.length : Int) + 1 := by simp
    have hb2 : Below w1.heap.size W (W.setCell ⟨w1.heap.size, 0, none⟩ (.int .i64 ((pre.length : Int) + 1))) := (Below.refl _ W).setCell (p := ⟨w1.heap.size, 0, none⟩) (Nat.le_refl _) _
    exact ⟨(KeepsOthers.setCell W ⟨w1.heap.size, 0, none⟩ _).from _, ⟨hb2, (show _ = _ from hbf' _).trans (show _ = _ from hbf).symm⟩, ⟨by rw [e2]; exact hv.set _, hbf' _⟩, hB.trans hb2⟩
  case done =>
    rintro D ys W hD rfl ⟨⟨hv, hbf⟩, hB⟩ hK
    have hc := hv.cell
    have k6' : ∀ o, W.cell? ⟨w.heap.size + 1, o, none⟩ = (#[.int .i64 0, .int .i64 0] : Array Value)[o]? := fun o => (hB.cell (p := ⟨w.heap.size + 1, o, none⟩) (by dsimp only; omega)).trans (j1 o)
    have f6' : ∀ o, W.frozen? ⟨w.heap.size + 1, o, none⟩ = false := fun o => (hB.frozen (p := ⟨w.heap.size + 1, o, none⟩) (by dsimp only; omega)).trans (f1 o)
    have hdl : (soUp (fun k : Fin fl.length => decide (3 ≤ fl[k].2.2.2.2.1)) fl.length).length = stlL fl := by have h := stl_so fl fl.length (Nat.le_refl _); rw [List.take_length] at h; exact h
    rw [hdl] at hc
    clear hv hbf hI hdl
    obtain ⟨dn, hdn⟩ : ∃ dn, dn = stlL fl := ⟨_, rfl⟩
    rw [← hdn] at hc
    have HDN : Hid (dn = stlL fl) := hdn
    clear hdn
    gi_wp2
    have kX := bx2 (u := .int .i64 0) (v := .int .i64 (dn : Int)) k6'
    have hBX : Below w.heap.size w ((W.setCell ⟨w.heap.size + 1, 0, none⟩ (.int .i64 0)).setCell ⟨w.heap.size + 1, 1, none⟩ (.int .i64 (dn : Int))) := ((HB1.out.trans (hB.mono HB1.out.size)).setCell (by dsimp only; omega) _).setCell (by dsimp only; omega) _
    have hK' := ((KeepsOthers.setCell W ⟨w.heap.size + 1, 0, none⟩ (.int .i64 0)).trans (KeepsOthers.setCell _ ⟨w.heap.size + 1, 1, none⟩ (.int .i64 (dn : Int)))).same D _ hK rfl
    have hXz : W.heap.size ≤ ((W.setCell ⟨w.heap.size + 1, 0, none⟩ (.int .i64 0)).setCell ⟨w.heap.size + 1, 1, none⟩ (.int .i64 (dn : Int))).heap.size := by simp
    generalize (W.setCell ⟨w.heap.size + 1, 0, none⟩ (.int .i64 0)).setCell ⟨w.heap.size + 1, 1, none⟩ (.int .i64 (dn : Int)) = X at *
    refine ⟨by simp, .inl ⟨_, _, rfl, run_takeDeferred hK', ?_⟩⟩
    have hW1 := hB.size
    have kP : ∀ o, (X.putObj D (.deferred none)).cell? ⟨w.heap.size + 1, o, none⟩ = (#[.int .i64 0, .int .i64 (dn : Int)] : Array Value)[o]? := fun o => (World.cell?_of_block (w := X) (a := ⟨w.heap.size + 1, o, none⟩) ((grownBy_putObj' X D (.deferred none)).block _ (by dsimp only; omega) (fun e => by simp at e; omega))).trans (kX o)
    exact ⟨.agg #[.int .i64 0, .int .i64 (dn : Int)], by simp [results, Tryz.results98, go_sem, kP], by rw [HDN.out], hBX.trans (belowK_b (w := w) (Nat.le_refl _) X D _ _ (by omega) hK' rfl rfl)⟩
  case stop =>
    rintro D c pre W _ _ h _
    exact h.elim
set_option maxHeartbeats 2000000 in
theorem iStaleOf (x : DSub) (u v : Value) (w : World) (B : Nat) (hr : shSub.Rd w B x [.int .i64 x.1, .int .i64 x.2.1, .bool x.2.2.1, .int .i64 x.2.2.2.1, .int .i64 x.2.2.2.2.1, .int .i64 x.2.2.2.2.2.1, .int .i64 x.2.2.2.2.2.2.1.1, .int .i64 x.2.2.2.2.2.2.1.2.1, .int .i64 x.2.2.2.2.2.2.1.2.2.1, u, .int .i64 x.2.2.2.2.2.2.2.1.1, .int .i64 x.2.2.2.2.2.2.2.1.2.1, v, .int .i64 x.2.2.2.2.2.2.2.2.1.1, .int .i64 x.2.2.2.2.2.2.2.2.1.2.1, .int .i64 x.2.2.2.2.2.2.2.2.1.2.2.1]) (hB : B ≤ w.heap.size) (hT : totSub x ≤ 1048576) :
    Calls Tryz.prog 98 #[.agg #[.int .i64 x.1, .int .i64 x.2.1, .bool x.2.2.1, .int .i64 x.2.2.2.1, .int .i64 x.2.2.2.2.1, .int .i64 x.2.2.2.2.2.1, .int .i64 x.2.2.2.2.2.2.1.1, .int .i64 x.2.2.2.2.2.2.1.2.1, .int .i64 x.2.2.2.2.2.2.1.2.2.1, u, .int .i64 x.2.2.2.2.2.2.2.1.1, .int .i64 x.2.2.2.2.2.2.2.1.2.1, v, .int .i64 x.2.2.2.2.2.2.2.2.1.1, .int .i64 x.2.2.2.2.2.2.2.2.1.2.1, .int .i64 x.2.2.2.2.2.2.2.2.1.2.2.1]] w fun e w' => e = .returned (.agg #[.int .i64 (subF x), .int .i64 (stlV x)]) ∧ Below w.heap.size w w' := by
  by_cases hF : subF x = 0
  · have e : stlV x = (stlL x.2.2.2.2.2.2.1.2.2.2.1 : Int) := by unfold stlV; rw [if_pos hF]
    rw [hF, e]
    exact iStaleOk x u v w B hr hB hT hF
  · have e : stlV x = 0 := by unfold stlV; rw [if_neg hF]
    rw [e]
    clear e
    obtain ⟨y0, y1, y2, y3, y4, y5, ⟨s0, s1, s2, fl, ⟨⟩⟩, ⟨c0, c1, sp, ⟨⟩⟩, ⟨k0, k1, k2, ⟨⟩⟩, ⟨⟩⟩ := x
    simp only at *
    obtain ⟨ua, uc, va, vc, rfl, rfl, rs0, rc0, hwf⟩ := rd_SubF hr
    obtain ⟨q1, e1, rs, -⟩ := rd_Sender rs0
    simp only [List.cons.injEq, and_true, true_and] at e1
    subst e1
    replace rs : shFlights.Rd w B fl [.slice ua fl.length uc] := rs
    have ht : totSender (s0, s1, s2, fl, ()) + totCatch (c0, c1, sp, ()) ≤ 1048576 := hT
    have HC : Hid (∀ W, Below w.heap.size w W → Calls Tryz.prog 143 #[.agg #[.int .i64 y0, .int .i64 y1, .bool y2, .int .i64 y3, .int .i64 y4, .int .i64 y5, .int .i64 s0, .int .i64 s1, .int .i64 s2, .slice ua fl.length uc, .int .i64 c0, .int .i64 c1, .slice va sp.length vc, .int .i64 k0, .int .i64 k1, .int .i64 k2]] W fun e w' => e = .returned (.int .i64 (subF (y0, y1, y2, y3, y4, y5, (s0, s1, s2, fl, ()), (c0, c1, sp, ()), (k0, k1, k2, ()), ()))) ∧ Below W.heap.size W w') := fun W hW => iSubFault (y0, y1, y2, y3, y4, y5, (s0, s1, s2, fl, ()), (c0, c1, sp, ()), (k0, k1, k2, ()), ()) _ _ W B (hr.below hB hW) (Nat.le_trans hB hW.size) hT
    clear hr rs rc0 rs0 hT hwf ht
    generalize subF (y0, y1, y2, y3, y4, y5, (s0, s1, s2, fl, ()), (c0, c1, sp, ()), (k0, k1, k2, ()), ()) = F at *
    generalize fl.length = fn at *
    generalize sp.length = sn at *
    have hF' : (F != 0) = true := by simp [hF]
    clear hF
    go_enter Tryz.func98, Tryz.ntmps98
    go_wp2_with fail
    refine (HC.out _ (by go_grown)).mono ?_
    rintro e w1 ⟨rfl, hb⟩
    have j0 : ∀ o, w1.cell? ⟨w.heap.size, o, none⟩ = (#[.int .i64 y0, .int .i64 y1, .bool y2, .int .i64 y3, .int .i64 y4, .int .i64 y5, .int .i64 s0, .int .i64 s1, .int .i64 s2, .slice ua fn uc, .int .i64 c0, .int .i64 c1, .slice va sn vc, .int .i64 k0, .int .i64 k1, .int .i64 k2] : Array Value)[o]? := fun o => by rw [hb.cell (p := ⟨w.heap.size, o, none⟩) (by simp; omega)]; simp [go_sem]
    have j1 : ∀ o, w1.cell? ⟨w.heap.size + 1, o, none⟩ = (#[.int .i64 0, .int .i64 0] : Array Value)[o]? := fun o => by rw [hb.cell (p := ⟨w.heap.size + 1, o, none⟩) (by simp)]; simp [go_sem]
    have f1 : ∀ o, w1.frozen? ⟨w.heap.size + 1, o, none⟩ = false := fun o => by rw [hb.frozen (p := ⟨w.heap.size + 1, o, none⟩) (by simp)]; simp [go_sem]
    have z1 : w.heap.size + 1 < w1.heap.size := by have := hb.size; simp at this; omega
    have HB : Hid (Below w.heap.size w w1) := Below.trans (by go_grown) (hb.mono (by simp; omega))
    clear hb HC
    go_wp2_with fail
    refine bodyPost_ret (v := .agg #[.int .i64 F, .int .i64 0]) (by simp [results, Tryz.results98, go_sem, j1]) rfl ⟨rfl, ?_⟩
    have hB1 := HB.out
    clear j0 j1 f1 HB
    go_grown
end Go.Proofs.YtcbgedlckcjjnaaGreat
