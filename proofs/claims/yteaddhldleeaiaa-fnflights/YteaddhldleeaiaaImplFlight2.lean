/- What the program tells of what is due; nothing that was in memory turns; no condition but that loads are of at most a million bytes. -/
import Derived.RangeFuncNested
import Derived.RangeFuncBound
import Derived.RangeFuncCalls
import Derived.RangeFuncLeaves
import Derived.RangeFuncBox
import Derived.Shelf.Abstract
import Derived.Shelf.RegionOpen
import Derived.WalkKit
import Derived.OwnWalkIn
import Derived.TacticsInMore
import Derived.LoopNIn
import Derived.LoopIn
import Derived.Maps.AppendAt
import Derived.Test.YteaddhldleeaiaaRows
import Derived.Test.YteaddhldleeaiaaBase
import Derived.Test.YteaddhldleeaiaaMem
import Derived.Test.YteaddhldleeaiaaHBase
import Derived.Test.YteaddhldleeaiaaHFlight
import Derived.Test.YteaddhldleeaiaaHSender
import Derived.Test.YteaddhldleeaiaaFlightDef
import Derived.Test.YteaddhldleeaiaaImplFlight
import Derived.Test.YteaddhldleeaiaaIter
import Derived.Test.YteaddhldleeaiaaInts
import Derived.Test.YteaddhldleeaiaaIntsOwn
import Derived.Test.YteaddhldleeaiaaSpecFlight5
import Derived.Test.YteaddhldleeaiaaBox
namespace Go.Proofs.Yteaddhldleeaiaa
open Go.RowKit Go.Shelf
set_option linter.unusedVariables false
attribute [local go_sem] Oper.semAt_some

/-- A row of flights that can be read has its cells. -/
theorem fl_cells {w : World} {B : Nat} {l : List DFlight} {a : Option Addr} {n cap : Nat} (h : shFlights.Rd w B l [.slice a n cap]) :
    ∃ (VA : Fin l.length → Option Addr) (VN VC : Fin l.length → Nat), FlCells w B a l.length (fun k => l[k].1) (fun k => l[k].2.1) (fun k => l[k].2.2.2.1) (fun k => l[k].2.2.2.2.1) VA VN VC ∧ (∀ k, VN k = l[k].2.2.1.length) ∧
      (∀ k, shFlight.Rd w B l[k] [.int .i64 l[k].1, .int .i64 l[k].2.1, .slice (VA k) (VN k) (VC k), .int .i64 l[k].2.2.2.1, .int .i64 l[k].2.2.2.2.1]) := by
  have h1 : ∀ k : Fin l.length, ∃ t : Option Addr × Nat × Nat, (∃ b off, a = some ⟨b, off, none⟩ ∧ b < B ∧ w.cell? ⟨b, off + k.1 * 5, none⟩ = some (.int .i64 l[k].1) ∧ w.cell? ⟨b, off + k.1 * 5 + 1, none⟩ = some (.int .i64 l[k].2.1) ∧ w.cell? ⟨b, off + k.1 * 5 + 2, none⟩ = some (.slice t.1 t.2.1 t.2.2) ∧ w.cell? ⟨b, off + k.1 * 5 + 3, none⟩ = some (.int .i64 l[k].2.2.2.1) ∧ w.cell? ⟨b, off + k.1 * 5 + 4, none⟩ = some (.int .i64 l[k].2.2.2.2.1)) ∧ t.2.1 = l[k].2.2.1.length ∧ shFlight.Rd w B l[k] [.int .i64 l[k].1, .int .i64 l[k].2.1, .slice t.1 t.2.1 t.2.2, .int .i64 l[k].2.2.2.1, .int .i64 l[k].2.2.2.2.1] := fun k => by
    obtain ⟨b, off, v, ha, hb, q0, q1, q2, q3, q4, r3⟩ := at_Flights h k.1 k.2
    obtain ⟨vv, ev, rk, -⟩ := rd_Flight r3
    simp only [List.cons.injEq, and_true, true_and] at ev
    subst ev
    obtain ⟨va, vc, ev2⟩ := row_form rk
    simp only [List.cons.injEq, and_true] at ev2
    subst ev2
    exact ⟨(va, _, vc), ⟨b, off, ha, hb, q0, q1, q2, q3, q4⟩, rfl, r3⟩
  obtain ⟨f, hf⟩ := Classical.axiomOfChoice h1
  exact ⟨fun k => (f k).1, fun k => (f k).2.1, fun k => (f k).2.2, ⟨fun k => (hf k).1⟩, fun k => (hf k).2.1, fun k => (hf k).2.2⟩

theorem own_intsN (w : World) (lo hi : Nat) : Own w lo hi i64s [] [.slice none 0 0] := ⟨[], Or.inl ⟨rfl, rfl, rfl⟩, by simp, by simp⟩
theorem iDue1 (z0 z1 z3 z4 : Int) (va : Option Addr) (vn vc b1 b2 : Nat) (now wait : Int) (w : World) (c1 : w.cell? ⟨b1, 0, none⟩ = some (.int .i64 now)) (c2 : w.cell? ⟨b2, 0, none⟩ = some (.int .i64 wait)) (h0 : 0 ≤ now) (h1 : now ≤ 1000000) (h2 : 0 ≤ z3) (h3 : z3 ≤ 1000000) :
    Calls Try.prog 36 #[.agg #[.int .i64 z0, .int .i64 z1, .slice va vn vc, .int .i64 z3, .int .i64 z4], .pointer (some ⟨b1, 0, none⟩), .pointer (some ⟨b2, 0, none⟩)] w fun e w' => e = .returned (.bool (decide (wait ≤ now - z3))) ∧ Below w.heap.size w w' := by
  have l1 := cell_lt c1
  have l2 := cell_lt c2
  go_enter Try.func36, Try.ntmps36
  go_wp2_with fail
  go_ret
  exact ⟨rfl, by go_grown⟩
theorem ownsRow_blk {W W' : World} {base : Nat} {t : TypeId} {sz : Nat} {v : Value} {n : Nat} {xs : List Value} (h : W.ownsRow base t sz v n xs) (hb : ∀ g, base ≤ g → W'.heap[g]? = W.heap[g]?) : W'.ownsRow base t sz v n xs := by
  obtain ⟨h1, h2 | ⟨g, cap, cur, rfl, hg, hh, r⟩⟩ := h
  · exact ⟨h1, Or.inl h2⟩
  · exact ⟨h1, Or.inr ⟨g, cap, cur, rfl, hg, by rw [hb g hg]; exact hh, r⟩⟩
theorem bx_two {w : World} {b : Nat} {x0 x1 u v : Value} (h : ∀ o, w.cell? ⟨b, o, none⟩ = (#[x0, x1] : Array Value)[o]?) : ∀ o, ((w.setCell ⟨b, 0, none⟩ u).setCell ⟨b, 1, none⟩ v).cell? ⟨b, o, none⟩ = (#[u, v] : Array Value)[o]? := fun o => by
  have h0 : w.cell? ⟨b, 0, none⟩ = some x0 := h 0
  have h1 : (w.setCell ⟨b, 0, none⟩ u).cell? ⟨b, 1, none⟩ = some x1 := by rw [World.cell?_setCell_other _ _ _ _ (by simp)]; exact h 1
  match o with
  | 0 => rw [World.cell?_setCell_other _ _ _ _ (by simp), World.cell?_setCell_same _ _ _ h0]; rfl
  | 1 => rw [World.cell?_setCell_same _ _ _ h1]; rfl
  | o + 2 => rw [World.cell?_setCell_other _ _ _ _ (by simp), World.cell?_setCell_other _ _ _ _ (by simp), h]; simp
theorem FlCells.mono {W : World} {n₀ n₁ : Nat} {a : Option Addr} {len : Nat} {Z0 Z1 Z3 Z4 : Fin len → Int} {VA : Fin len → Option Addr} {VN VC : Fin len → Nat} (h : FlCells W n₀ a len Z0 Z1 Z3 Z4 VA VN VC) (hb : n₀ ≤ n₁) : FlCells W n₁ a len Z0 Z1 Z3 Z4 VA VN VC := ⟨fun k => by
  obtain ⟨b, off, ha, hlt, h⟩ := h.at_ k
  exact ⟨b, off, ha, Nat.lt_of_lt_of_le hlt hb, h⟩⟩
theorem kpF_b {n₀ Bf : Nat} {w : World} (hn : n₀ ≤ w.heap.size) (hf : Bf < w.heap.size) (W : World) (l : Nat) (o o' : Obj) (hl : w.heap.size ≤ l) (h : W.heap[l]? = some o) (h1 : o.isCells = false) (h2 : o.isWalk = false) : KpF n₀ Bf W (W.putObj l o') :=
  ⟨belowK_b hn W l o o' hl h h1 h2, (grownBy_putObj' W l o').block Bf (by have := (Array.getElem?_eq_some_iff.1 h).1; omega) (fun e => by cases e; omega)⟩
theorem due_so (now wait : Int) (l : List DFlight) : ∀ k, k ≤ l.length → (soUp (fun i : Fin l.length => decide (wait ≤ now - l[i].2.2.2.1)) k).map (fun i => (i.1 : Int)) = dueL now wait 0 (l.take k)
  | 0, _ => by simp [soUp, dueL]
  | k + 1, h => by
    have hk : k < l.length := by omega
    rw [dueL_step now wait hk, ← due_so now wait l k (by omega)]
    by_cases hq : wait ≤ now - l[k].2.2.2.1
    · rw [if_pos hq, soUp_yes _ hk (by simpa using hq)]; simp
    · rw [if_neg hq, soUp_no _ hk (by simpa using hq)]
theorem infoI64 : (Try.prog.info? 2).map (fun i => (i.zero, i.size, i.bytes)) = some (some (.int .i64 0), 1, 8) := by kernel_rfl
set_option maxRecDepth 100000 in
set_option maxHeartbeats 4000000 in
theorem iDueOk (x : DSender) (a : Option Addr) (cap : Nat) (now wait : Int) (w : World) (B : Nat) (hr : shSender.Rd w B x [.int .i64 x.1, .int .i64 x.2.1, .int .i64 x.2.2.1, .slice a x.2.2.2.1.length cap]) (hB : B ≤ w.heap.size) (hT : totSender x ≤ 1048576) (hF : sndFault x = 0) (t1 : inD now 0 1000000 = true) (t2 : inD wait 0 1000000 = true) :
    Calls Try.prog 12 #[.agg #[.int .i64 x.1, .int .i64 x.2.1, .int .i64 x.2.2.1, .slice a x.2.2.2.1.length cap], .int .i64 now, .int .i64 wait] w fun e w' => ∃ u, e = .returned (.agg #[.int .i64 0, u]) ∧ Own w' w.heap.size w'.heap.size i64s (dueL now wait 0 x.2.2.2.1) [u] ∧ Below w.heap.size w w' := by
  obtain ⟨vv, ev, rk, -⟩ := rd_Sender hr
  simp only [List.cons.injEq, and_true, true_and] at ev
  subst ev
  have HC : Hid (∀ W, Below w.heap.size w W → Calls Try.prog 10 #[.agg #[.int .i64 x.1, .int .i64 x.2.1, .int .i64 x.2.2.1, .slice a x.2.2.2.1.length cap]] W fun e w' => e = .returned (.int .i64 0) ∧ Below W.heap.size W w') :=
    fun W hW => by have h := iSenderFault x _ W B (Sh.Rd.below hr hB hW) (Nat.le_trans hB hW.size) hT; rw [hF] at h; exact h
  obtain ⟨VA, VN, VC, hcs, -, -⟩ := fl_cells rk
  have HS : Hid (∀ k (hk : k < x.2.2.2.1.length), 0 ≤ x.2.2.2.1[k].2.2.2.1 ∧ x.2.2.2.1[k].2.2.2.1 ≤ 1000000) := fls_sent hF
  have HCS : Hid (∀ W, Below w.heap.size w W → FlCells W B a x.2.2.2.1.length (fun k => x.2.2.2.1[k].1) (fun k => x.2.2.2.1[k].2.1) (fun k => x.2.2.2.1[k].2.2.2.1) (fun k => x.2.2.2.1[k].2.2.2.2.1) VA VN VC) := fun W hW => hcs.below (hW.mono hB)
  have h12 := (snd_ok hF).2.2.2
  obtain ⟨p0, p1⟩ := inD_yes t1
  clear rk hcs hF hT hr
  obtain ⟨y0, y1, y2, l, _⟩ := x
  simp only at *
  refine (callsIn_wide (n := 6)).1 ?_
  refine callsIn_of_wp_marks Try.func12 rfl trivial ?_ rfl
  simp only [Try.ntmps12, List.size_toArray, List.length_cons, List.length_nil, Nat.reduceAdd, Nat.reduceSub, Array.replicate_succ, Array.replicate_zero, List.push_toArray, List.append_toArray, List.nil_append, List.cons_append]
  gi_wp2_with fail
  refine ⟨trivial, ?_⟩
  refine (callsIn_wide.2 (HC.out _ (by go_grown))).mono ?_
  rintro e w1 ⟨rfl, hb⟩
  have k3 : ∀ o, w1.cell? ⟨w.heap.size, o, none⟩ = (#[.int .i64 y0, .int .i64 y1, .int .i64 y2, .slice a l.length cap] : Array Value)[o]? := fun o => by rw [hb.cell (p := ⟨w.heap.size, o, none⟩) (by simp <;> omega)]; simp [go_sem]
  have c1 : w1.cell? ⟨w.heap.size + 1, 0, none⟩ = some (.int .i64 now) := by rw [hb.cell (p := ⟨w.heap.size + 1, 0, none⟩) (by simp <;> omega)]; simp [go_sem]
  have c2 : w1.cell? ⟨w.heap.size + 1 + 1, 0, none⟩ = some (.int .i64 wait) := by rw [hb.cell (p := ⟨w.heap.size + 1 + 1, 0, none⟩) (by simp)]; simp [go_sem]
  have k6 : ∀ o, w1.cell? ⟨w.heap.size + 1 + 1 + 1, o, none⟩ = (#[.int .i64 0, .slice none 0 0] : Array Value)[o]? := fun o => by rw [hb.cell (p := ⟨w.heap.size + 1 + 1 + 1, o, none⟩) (by simp)]; simp [go_sem]
  have f6 : ∀ o, w1.frozen? ⟨w.heap.size + 1 + 1 + 1, o, none⟩ = false := fun o => by rw [hb.frozen (p := ⟨w.heap.size + 1 + 1 + 1, o, none⟩) (by simp)]; simp [go_sem]
  have HB1 : Hid (Below w.heap.size w w1) := Below.trans (by go_grown) (hb.mono (by simp; omega))
  have z1 : w.heap.size + 1 + 1 + 1 < w1.heap.size := by have := hb.size; simp at this; omega
  have z0 : w.heap.size < w1.heap.size := by omega
  clear hb HC
  gi_wp2_with (first | (refine ⟨trivial, ?_⟩; gi_at_call 28; refine (callsIn_wide.2 (iInD _ _ _ _)).mono ?_; rintro e w' ⟨rfl, hw⟩; subst w') | (refine ⟨trivial, ?_⟩; gi_at_call 37; refine (those_in _ _ _ _ _ _ _).mono ?_; rintro e w' ⟨rfl, rfl⟩))
  have bO := ((Boxed.new w1 40 (.slice none 0 0)).alloc (.cells #[.slice a l.length cap] 64)).alloc (.cells #[(.func (.func 36) #[] #[.pointer (some ⟨w.heap.size + 1, 0, none⟩), .pointer (some ⟨w.heap.size + 1 + 1, 0, none⟩)])] 63)
  have bL := (Boxed.new (w1.alloc (.cells #[.slice none 0 0] 40)) 64 (.slice a l.length cap)).alloc (.cells #[(.func (.func 36) #[] #[.pointer (some ⟨w.heap.size + 1, 0, none⟩), .pointer (some ⟨w.heap.size + 1 + 1, 0, none⟩)])] 63)
  have bF := Boxed.new ((w1.alloc (.cells #[.slice none 0 0] 40)).alloc (.cells #[.slice a l.length cap] 64)) 63 (.func (.func 36) #[] #[.pointer (some ⟨w.heap.size + 1, 0, none⟩), .pointer (some ⟨w.heap.size + 1 + 1, 0, none⟩)])
  rw [World.size_alloc] at bL
  rw [World.size_alloc, World.size_alloc] at bF
  have hB5 : Below w1.heap.size w1 (((w1.alloc (.cells #[.slice none 0 0] 40)).alloc (.cells #[.slice a l.length cap] 64)).alloc (.cells #[(.func (.func 36) #[] #[.pointer (some ⟨w.heap.size + 1, 0, none⟩), .pointer (some ⟨w.heap.size + 1 + 1, 0, none⟩)])] 63)) := (((Below.refl _ w1).alloc (Nat.le_refl _) _).alloc (by simp) _).alloc (by simp; omega) _
  obtain ⟨W5, hW5⟩ : ∃ W5, W5 = ((w1.alloc (.cells #[.slice none 0 0] 40)).alloc (.cells #[.slice a l.length cap] 64)).alloc (.cells #[(.func (.func 36) #[] #[.pointer (some ⟨w.heap.size + 1, 0, none⟩), .pointer (some ⟨w.heap.size + 1 + 1, 0, none⟩)])] 63) := ⟨_, rfl⟩
  have hz5 : W5.heap.size = w1.heap.size + 1 + 1 + 1 := by rw [hW5]; simp
  rw [← hW5] at bO bL bF hB5 ⊢
  clear hW5
  have hI : OwnFrom W5.heap.size (fun (pre : List (Fin l.length)) (W : World) => ((∃ v, Boxed W w1.heap.size 40 v ∧ W.ownsRow w1.heap.size 2 1 v pre.length (pre.map (fun i => Value.int .i64 (i.1 : Int))) ∧ True) ∧ Boxed W (w1.heap.size + 1 + 1) 63 (.func (.func 36) #[] #[.pointer (some ⟨w.heap.size + 1, 0, none⟩), .pointer (some ⟨w.heap.size + 1 + 1, 0, none⟩)])) ∧ Below w1.heap.size w1 W) :=
    OwnFrom.and (OwnFrom.and (Go.Own.from (holdsRow_own w1.heap.size w1.heap.size 40 2 1 (fun pre : List (Fin l.length) => pre.length) (fun pre => pre.map (fun i => Value.int .i64 (i.1 : Int))) (fun _ _ => True)) _) (Go.Own.from (boxed_own _ _ _) _)) (ownFrom_below (Nat.le_refl _) (by omega))
  obtain ⟨i0, hi, hz0, hz1, hz2⟩ := info_parts infoI64
  refine wpIn_rangeFunc_ownG rfl (by decide) (gf := 49) (lb := #[.pointer (some ⟨w1.heap.size + 1, 0, none⟩), .pointer (some ⟨w1.heap.size + 1 + 1, 0, none⟩)]) rfl trivial (enters_of Try.func49 (by kernel_rfl) rfl)
    (those_stops _ (by decide) (w1.heap.size + 1) (w1.heap.size + 1 + 1) w1.heap.size a l.length cap (by omega) (fun k => l[k].1) (fun k => l[k].2.1) (fun k => l[k].2.2.2.1) (fun k => l[k].2.2.2.2.1) VA VN VC 36 (enters_of Try.func36 (by kernel_rfl) rfl) #[.pointer (some ⟨w.heap.size + 1, 0, none⟩), .pointer (some ⟨w.heap.size + 1 + 1, 0, none⟩)] (fun k => decide (wait ≤ now - l[k].2.2.2.1)) W5 (by omega) (by omega) (by omega) bL.cell bF.cell
      ((HCS.out W5 (HB1.out.trans (hB5.mono HB1.out.size))).mono (by omega))
      (fun W' k hW' => callsIn_wide.2 (iDue1 _ _ _ _ _ _ _ _ _ now wait W' (((hB5.trans hW').cell (p := ⟨w.heap.size + 1, 0, none⟩) (by dsimp only; omega)).trans c1) (((hB5.trans hW').cell (p := ⟨w.heap.size + 1 + 1, 0, none⟩) (by dsimp only; omega)).trans c2) p0 p1 (HS.out k.1 k.2).1 (HS.out k.1 k.2).2)))
    KpF.trans (kpF_b (by omega) (by omega)) (Below.refl _ _) (fun _ => rfl)
    (fun pre W => ((∃ v, Boxed W w1.heap.size 40 v ∧ W.ownsRow w1.heap.size 2 1 v pre.length (pre.map (fun i => Value.int .i64 (i.1 : Int))) ∧ True) ∧ Boxed W (w1.heap.size + 1 + 1) 63 (.func (.func 36) #[] #[.pointer (some ⟨w.heap.size + 1, 0, none⟩), .pointer (some ⟨w.heap.size + 1 + 1, 0, none⟩)])) ∧ Below w1.heap.size w1 W)
    (fun _ _ _ => False) hI (fun _ _ _ _ _ hs _ _ => hs) ⟨⟨⟨_, bO, World.ownsRow_nil _ _ _ _, trivial⟩, bF⟩, hB5⟩ ?a1 ?assign ?body ?done ?stop
  case assign =>
    intro l x W K hK
    gi_wp2
    exact hK
  case body =>
    rintro lr pre x W ⟨⟨⟨v, hv, hrow, -⟩, hbf⟩, hB⟩ hlt
    have hc := hv.cell
    gi_wp2_with (gi_at_builtin; refine wpListIn_append_own _ rfl _ _ 40 rfl w1.heap.size 2 i0 (.int .i64 0) 1 8 Try.underlying40 hi hz0 hz1 hz2 rfl (by decide) _ _ _ rfl (hrow.alloc _) ⟨W.heap.size, 0, none⟩ 1 1 [.int .i64 (x.1 : Int)] rfl rfl (cell_one_new _ _ _) (by simp [Value.oneCell']) (by unfold maxLen; omega) (by omega) (by have := hB.size; simp; omega) ?_; intro v' w3 hown' hgrow _; obtain ⟨g', cap', rfl⟩ := ownsRow_succ hown'; obtain ⟨hv1, hv2, hr2, hk2, hb2⟩ := hv.appended (by decide) hrow hB.size (Nat.le_refl _) hown' hgrow; have hc1 := hv1.cell; have hf1 := hv1.frozen)
    have hnr : some (w1.heap.size + 1 + 1) ≠ v.ownBlock := hbf.not_row (by decide) hrow
    have hbf3 : Boxed w3 (w1.heap.size + 1 + 1) 63 (.func (.func 36) #[] #[.pointer (some ⟨w.heap.size + 1, 0, none⟩), .pointer (some ⟨w.heap.size + 1 + 1, 0, none⟩)]) := (hbf.alloc (.cells #[.int .i64 (x.1 : Int)] 2)).kept hgrow hnr
    have hbf' := fun u => hbf3.other (B' := w1.heap.size) (by omega) u
    exact ⟨hk2.from _, ⟨hb2, (show _ = _ from hbf' _).trans (show _ = _ from hbf).symm⟩, ⟨⟨_, hv2, by simpa using hr2, trivial⟩, hbf' _⟩, hB.trans hb2⟩
  case done =>
    rintro D ys W hD rfl ⟨⟨⟨v, hv, hrow, -⟩, hbf⟩, hB⟩ hK
    obtain ⟨va, vc, hvf⟩ := own_form hrow
    subst hvf
    have hc := hv.cell
    have k6' : ∀ o, W.cell? ⟨w.heap.size + 1 + 1 + 1, o, none⟩ = (#[.int .i64 0, .slice none 0 0] : Array Value)[o]? := fun o => (hB.cell (p := ⟨w.heap.size + 1 + 1 + 1, o, none⟩) (by dsimp only; omega)).trans (k6 o)
    have f6' : ∀ o, W.frozen? ⟨w.heap.size + 1 + 1 + 1, o, none⟩ = false := fun o => (hB.frozen (p := ⟨w.heap.size + 1 + 1 + 1, o, none⟩) (by dsimp only; omega)).trans (f6 o)
    have hdl : (soUp (fun k : Fin l.length => decide (wait ≤ now - l[k].2.2.2.1)) l.length).map (fun i => (i.1 : Int)) = dueL now wait 0 l := by have h := due_so now wait l l.length (Nat.le_refl _); rw [List.take_length] at h; exact h
    have HR : Hid (W.ownsRow w1.heap.size 2 1 (.slice va (soUp (fun k : Fin l.length => decide (wait ≤ now - l[k].2.2.2.1)) l.length).length vc) (dueL now wait 0 l).length ((dueL now wait 0 l).map (Value.int .i64))) := by
      rw [← hdl, List.length_map, List.map_map]; exact hrow
    have HWF : Hid (∀ y ∈ dueL now wait 0 l, (Lit.int .i64 y).wf = true) := fun y hy => by have := dueL_mem now wait l 0 y hy; exact WalkArith.wf_i64 (by omega)
    clear hrow hdl hbf hI
    generalize (soUp (fun k : Fin l.length => decide (wait ≤ now - l[k].2.2.2.1)) l.length).length = dn at *
    gi_wp2
    have hDl : w1.heap.size ≤ D := by omega
    have kX := bx_two (u := .int .i64 0) (v := .slice va dn vc) k6'
    have HX : Hid (((W.setCell ⟨w.heap.size + 1 + 1 + 1, 0, none⟩ (.int .i64 0)).setCell ⟨w.heap.size + 1 + 1 + 1, 1, none⟩ (.slice va dn vc)).ownsRow w1.heap.size 2 1 (.slice va dn vc) (dueL now wait 0 l).length ((dueL now wait 0 l).map (Value.int .i64))) :=
      ownsRow_blk HR.out (fun g hg => by repeat rw [Below.heap_setCell _ _ _ _ (by dsimp only; omega)])
    have hBX : Below w.heap.size w ((W.setCell ⟨w.heap.size + 1 + 1 + 1, 0, none⟩ (.int .i64 0)).setCell ⟨w.heap.size + 1 + 1 + 1, 1, none⟩ (.slice va dn vc)) := ((HB1.out.trans (hB.mono HB1.out.size)).setCell (by dsimp only; omega) _).setCell (by dsimp only; omega) _
    have hK' := ((KeepsOthers.setCell W ⟨w.heap.size + 1 + 1 + 1, 0, none⟩ (.int .i64 0)).trans (KeepsOthers.setCell _ ⟨w.heap.size + 1 + 1 + 1, 1, none⟩ (.slice va dn vc))).same D _ hK rfl
    have hXz : W.heap.size ≤ ((W.setCell ⟨w.heap.size + 1 + 1 + 1, 0, none⟩ (.int .i64 0)).setCell ⟨w.heap.size + 1 + 1 + 1, 1, none⟩ (.slice va dn vc)).heap.size := by simp
    generalize (W.setCell ⟨w.heap.size + 1 + 1 + 1, 0, none⟩ (.int .i64 0)).setCell ⟨w.heap.size + 1 + 1 + 1, 1, none⟩ (.slice va dn vc) = X at *
    refine ⟨by simp, .inl ⟨_, _, rfl, run_takeDeferred hK', ?_⟩⟩
    have hW1 := hB.size
    have kP : ∀ o, (X.putObj D (.deferred none)).cell? ⟨w.heap.size + 1 + 1 + 1, o, none⟩ = (#[.int .i64 0, .slice va dn vc] : Array Value)[o]? := fun o => (World.cell?_of_block (w := X) (a := ⟨w.heap.size + 1 + 1 + 1, o, none⟩) ((grownBy_putObj' X D (.deferred none)).block _ (by dsimp only; omega) (fun e => by simp at e; omega))).trans (kX o)
    refine ⟨.agg #[.int .i64 0, .slice va dn vc], by simp [results, Try.results12, go_sem, kP], _, rfl, ?_, hBX.trans (belowK_b (w := w) (Nat.le_refl _) X D _ _ (by omega) hK' rfl rfl)⟩
    exact Own.mono (own_ints ⟨ownsRow_putObj HX.out _ hK' rfl, HWF.out⟩ (Nat.le_refl _)) (by omega) (Nat.le_refl _)
  case stop =>
    rintro D c pre W _ _ h _
    exact h.elim
set_option maxHeartbeats 4000000 in
theorem iDueFlights (x : DSender) (v : Value) (now wait : Int) (w : World) (B : Nat) (hr : shSender.Rd w B x [.int .i64 x.1, .int .i64 x.2.1, .int .i64 x.2.2.1, v]) (hB : B ≤ w.heap.size) (hT : totSender x ≤ 1048576) :
    Calls Try.prog 12 #[.agg #[.int .i64 x.1, .int .i64 x.2.1, .int .i64 x.2.2.1, v], .int .i64 now, .int .i64 wait] w fun e w' => ∃ u, e = .returned (.agg #[.int .i64 (dueC x now wait), u]) ∧ Own w' w.heap.size w'.heap.size i64s (dueV x now wait) [u] ∧ Below w.heap.size w w' := by
  obtain ⟨vv, ev, rk, -⟩ := rd_Sender hr
  simp only [List.cons.injEq, and_true, true_and] at ev
  subst ev
  obtain ⟨a, cap, ev2⟩ := row_form rk
  simp only [List.cons.injEq, and_true] at ev2
  subst ev2
  obtain ⟨F, hFx⟩ : ∃ F, F = sndFault x := ⟨_, rfl⟩
  have HC : Hid (∀ W, Below w.heap.size w W → Calls Try.prog 10 #[.agg #[.int .i64 x.1, .int .i64 x.2.1, .int .i64 x.2.2.1, .slice a x.2.2.2.1.length cap]] W fun e w' => e = .returned (.int .i64 F) ∧ Below W.heap.size W w') :=
    fun W hW => by rw [hFx]; exact iSenderFault x _ W B (Sh.Rd.below hr hB hW) (Nat.le_trans hB hW.size) hT
  by_cases hF : sndFault x = 0
  · have hF' : F = 0 := by rw [hFx]; exact hF
    subst hF'
    by_cases t1 : inD now 0 1000000 = true
    · by_cases t2 : inD wait 0 1000000 = true
      · have e1 : dueC x now wait = 0 := by unfold dueC; rw [if_pos hF, if_pos (by simp [t1, t2])]
        have e2 : dueV x now wait = dueL now wait 0 x.2.2.2.1 := by unfold dueV; rw [e1, if_pos rfl]
        rw [e1, e2]
        exact iDueOk x a cap now wait w B hr hB hT hF t1 t2
      · replace t2 : inD wait 0 1000000 = false := by simpa using t2
        have e1 : dueC x now wait = 3 := by unfold dueC; rw [if_pos hF, if_neg (by simp [t2])]
        have e2 : dueV x now wait = [] := by unfold dueV; rw [e1, if_neg (by decide)]
        rw [e1, e2]
        clear hr rk hT hFx hF e1 e2
        generalize x.1 = y0 at *
        generalize x.2.1 = y1 at *
        generalize x.2.2.1 = y2 at *
        generalize x.2.2.2.1.length = n at *
        go_enter Try.func12, Try.ntmps12
        go_wp2_with fail
        refine (HC.out _ (by go_grown)).mono ?_
        rintro e w1 ⟨rfl, hb⟩
        have k3 : ∀ o, w1.cell? ⟨w.heap.size, o, none⟩ = (#[.int .i64 y0, .int .i64 y1, .int .i64 y2, .slice a n cap] : Array Value)[o]? := fun o => by rw [hb.cell (p := ⟨w.heap.size, o, none⟩) (by simp <;> omega)]; simp [go_sem]
        have c1 : w1.cell? ⟨w.heap.size + 1, 0, none⟩ = some (.int .i64 now) := by rw [hb.cell (p := ⟨w.heap.size + 1, 0, none⟩) (by simp <;> omega)]; simp [go_sem]
        have c2 : w1.cell? ⟨w.heap.size + 1 + 1, 0, none⟩ = some (.int .i64 wait) := by rw [hb.cell (p := ⟨w.heap.size + 1 + 1, 0, none⟩) (by simp)]; simp [go_sem]
        have k6 : ∀ o, w1.cell? ⟨w.heap.size + 1 + 1 + 1, o, none⟩ = (#[.int .i64 0, .slice none 0 0] : Array Value)[o]? := fun o => by rw [hb.cell (p := ⟨w.heap.size + 1 + 1 + 1, o, none⟩) (by simp)]; simp [go_sem]
        have f6 : ∀ o, w1.frozen? ⟨w.heap.size + 1 + 1 + 1, o, none⟩ = false := fun o => by rw [hb.frozen (p := ⟨w.heap.size + 1 + 1 + 1, o, none⟩) (by simp)]; simp [go_sem]
        have HB : Hid (Below w.heap.size w w1) := Below.trans (by go_grown) (hb.mono (by simp; omega))
        have z1 : w.heap.size + 1 + 1 + 1 < w1.heap.size := by have := hb.size; simp at this; omega
        have z0 : w.heap.size < w1.heap.size := by omega
        clear hb HC
        go_wp2_with (go_at_call 28; refine (iInD _ _ _ _).mono ?_; rintro e w' ⟨rfl, hw⟩; subst w')
        refine bodyPost_ret (v := .agg #[.int .i64 3, .slice none 0 0]) (by simp [results, Try.results12, go_sem, k6]) rfl ⟨_, rfl, own_intsN _ _ _, ?_⟩
        have hB1 := HB.out
        clear k3 c1 c2 k6 f6 HB
        go_grown
    · replace t1 : inD now 0 1000000 = false := by simpa using t1
      have e1 : dueC x now wait = 3 := by unfold dueC; rw [if_pos hF, if_neg (by simp [t1])]
      have e2 : dueV x now wait = [] := by unfold dueV; rw [e1, if_neg (by decide)]
      rw [e1, e2]
      clear hr rk hT hFx hF e1 e2
      generalize x.1 = y0 at *
      generalize x.2.1 = y1 at *
      generalize x.2.2.1 = y2 at *
      generalize x.2.2.2.1.length = n at *
      go_enter Try.func12, Try.ntmps12
      go_wp2_with fail
      refine (HC.out _ (by go_grown)).mono ?_
      rintro e w1 ⟨rfl, hb⟩
      have k3 : ∀ o, w1.cell? ⟨w.heap.size, o, none⟩ = (#[.int .i64 y0, .int .i64 y1, .int .i64 y2, .slice a n cap] : Array Value)[o]? := fun o => by rw [hb.cell (p := ⟨w.heap.size, o, none⟩) (by simp <;> omega)]; simp [go_sem]
      have c1 : w1.cell? ⟨w.heap.size + 1, 0, none⟩ = some (.int .i64 now) := by rw [hb.cell (p := ⟨w.heap.size + 1, 0, none⟩) (by simp <;> omega)]; simp [go_sem]
      have c2 : w1.cell? ⟨w.heap.size + 1 + 1, 0, none⟩ = some (.int .i64 wait) := by rw [hb.cell (p := ⟨w.heap.size + 1 + 1, 0, none⟩) (by simp)]; simp [go_sem]
      have k6 : ∀ o, w1.cell? ⟨w.heap.size + 1 + 1 + 1, o, none⟩ = (#[.int .i64 0, .slice none 0 0] : Array Value)[o]? := fun o => by rw [hb.cell (p := ⟨w.heap.size + 1 + 1 + 1, o, none⟩) (by simp)]; simp [go_sem]
      have f6 : ∀ o, w1.frozen? ⟨w.heap.size + 1 + 1 + 1, o, none⟩ = false := fun o => by rw [hb.frozen (p := ⟨w.heap.size + 1 + 1 + 1, o, none⟩) (by simp)]; simp [go_sem]
      have HB : Hid (Below w.heap.size w w1) := Below.trans (by go_grown) (hb.mono (by simp; omega))
      have z1 : w.heap.size + 1 + 1 + 1 < w1.heap.size := by have := hb.size; simp at this; omega
      have z0 : w.heap.size < w1.heap.size := by omega
      clear hb HC
      go_wp2_with (go_at_call 28; refine (iInD _ _ _ _).mono ?_; rintro e w' ⟨rfl, hw⟩; subst w')
      refine bodyPost_ret (v := .agg #[.int .i64 3, .slice none 0 0]) (by simp [results, Try.results12, go_sem, k6]) rfl ⟨_, rfl, own_intsN _ _ _, ?_⟩
      have hB1 := HB.out
      clear k3 c1 c2 k6 f6 HB
      go_grown
  · have e1 : dueC x now wait = F := by unfold dueC; rw [if_neg hF, hFx]
    have e2 : dueV x now wait = [] := by unfold dueV; rw [e1, if_neg (by rw [hFx]; exact hF)]
    have hF' : (F != 0) = true := by rw [hFx]; simp [hF]
    rw [e1, e2]
    clear hr rk hT hFx hF e1 e2
    generalize x.1 = y0 at *
    generalize x.2.1 = y1 at *
    generalize x.2.2.1 = y2 at *
    generalize x.2.2.2.1.length = n at *
    go_enter Try.func12, Try.ntmps12
    go_wp2_with fail
    refine (HC.out _ (by go_grown)).mono ?_
    rintro e w1 ⟨rfl, hb⟩
    have k3 : ∀ o, w1.cell? ⟨w.heap.size, o, none⟩ = (#[.int .i64 y0, .int .i64 y1, .int .i64 y2, .slice a n cap] : Array Value)[o]? := fun o => by rw [hb.cell (p := ⟨w.heap.size, o, none⟩) (by simp <;> omega)]; simp [go_sem]
    have c1 : w1.cell? ⟨w.heap.size + 1, 0, none⟩ = some (.int .i64 now) := by rw [hb.cell (p := ⟨w.heap.size + 1, 0, none⟩) (by simp <;> omega)]; simp [go_sem]
    have c2 : w1.cell? ⟨w.heap.size + 1 + 1, 0, none⟩ = some (.int .i64 wait) := by rw [hb.cell (p := ⟨w.heap.size + 1 + 1, 0, none⟩) (by simp)]; simp [go_sem]
    have k6 : ∀ o, w1.cell? ⟨w.heap.size + 1 + 1 + 1, o, none⟩ = (#[.int .i64 0, .slice none 0 0] : Array Value)[o]? := fun o => by rw [hb.cell (p := ⟨w.heap.size + 1 + 1 + 1, o, none⟩) (by simp)]; simp [go_sem]
    have f6 : ∀ o, w1.frozen? ⟨w.heap.size + 1 + 1 + 1, o, none⟩ = false := fun o => by rw [hb.frozen (p := ⟨w.heap.size + 1 + 1 + 1, o, none⟩) (by simp)]; simp [go_sem]
    have HB : Hid (Below w.heap.size w w1) := Below.trans (by go_grown) (hb.mono (by simp; omega))
    have z1 : w.heap.size + 1 + 1 + 1 < w1.heap.size := by have := hb.size; simp at this; omega
    have z0 : w.heap.size < w1.heap.size := by omega
    clear hb HC
    go_wp2_with (go_at_call 28; refine (iInD _ _ _ _).mono ?_; rintro e w' ⟨rfl, hw⟩; subst w')
    refine bodyPost_ret (v := .agg #[.int .i64 F, .slice none 0 0]) (by simp [results, Try.results12, go_sem, k6]) rfl ⟨_, rfl, own_intsN _ _ _, ?_⟩
    have hB1 := HB.out
    clear k3 c1 c2 k6 f6 HB
    go_grown
end Go.Proofs.Yteaddhldleeaiaa
