/- What the program makes of a sender that is told up to where all came; nothing that was in memory turns; no condition but that loads are of at most a million bytes. -/
import Derived.RangeFuncNested
import Derived.RangeFuncBound
import Derived.RangeFuncCalls
import Derived.RangeFuncLeaves
import Derived.RangeFuncBox
import Derived.Shelf.Abstract
import Derived.Shelf.RegionOpen
import Derived.WalkKit
import Derived.OwnWalkIn
import Derived.TacticsInMore
import Derived.LoopNIn
import Derived.LoopIn
import Derived.Maps.AppendAt
import Derived.Deep.RegionHeld3
import Derived.Deep.RegionLaw
import Derived.Test.YtebgibjokljlbaaRows
import Derived.Test.YtebgibjokljlbaaS01
import Derived.Test.YtebgibjokljlbaaS03
import Derived.Test.YtebgibjokljlbaaS04
import Derived.Test.YtebgibjokljlbaaS05
import Derived.Test.YtebgibjokljlbaaS06
import Derived.Test.YtebgibjokljlbaaS20
import Derived.Test.YtebgibjokljlbaaS25
import Derived.Test.YtebgibjokljlbaaS29
import Derived.Test.YtebgibjokljlbaaS31
import Derived.Test.YtebgibjokljlbaaS32
namespace Go.Proofs.Ytebgibjokljlbaa
open Go.RowKit Go.Shelf
set_option linter.unusedVariables false
attribute [local go_sem] Oper.semAt_some
theorem bx_four {w : World} {b : Nat} {x0 x1 x2 x3 u0 u1 u2 u3 : Value} (h : ∀ o, w.cell? ⟨b, o, none⟩ = (#[x0, x1, x2, x3] : Array Value)[o]?) : ∀ o, ((((w.setCell ⟨b, 0, none⟩ u0).setCell ⟨b, 1, none⟩ u1).setCell ⟨b, 2, none⟩ u2).setCell ⟨b, 3, none⟩ u3).cell? ⟨b, o, none⟩ = (#[u0, u1, u2, u3] : Array Value)[o]? := fun o => by
  have h0 : w.cell? ⟨b, 0, none⟩ = some x0 := h 0
  have h1 : (w.setCell ⟨b, 0, none⟩ u0).cell? ⟨b, 1, none⟩ = some x1 := by rw [World.cell?_setCell_other _ _ _ _ (by simp)]; exact h 1
  have h2 : ((w.setCell ⟨b, 0, none⟩ u0).setCell ⟨b, 1, none⟩ u1).cell? ⟨b, 2, none⟩ = some x2 := by rw [World.cell?_setCell_other _ _ _ _ (by simp), World.cell?_setCell_other _ _ _ _ (by simp)]; exact h 2
  have h3 : (((w.setCell ⟨b, 0, none⟩ u0).setCell ⟨b, 1, none⟩ u1).setCell ⟨b, 2, none⟩ u2).cell? ⟨b, 3, none⟩ = some x3 := by rw [World.cell?_setCell_other _ _ _ _ (by simp), World.cell?_setCell_other _ _ _ _ (by simp), World.cell?_setCell_other _ _ _ _ (by simp)]; exact h 3
  match o with
  | 0 => rw [World.cell?_setCell_other _ _ _ _ (by simp), World.cell?_setCell_other _ _ _ _ (by simp), World.cell?_setCell_other _ _ _ _ (by simp), World.cell?_setCell_same _ _ _ h0]; rfl
  | 1 => rw [World.cell?_setCell_other _ _ _ _ (by simp), World.cell?_setCell_other _ _ _ _ (by simp), World.cell?_setCell_same _ _ _ h1]; rfl
  | 2 => rw [World.cell?_setCell_other _ _ _ _ (by simp), World.cell?_setCell_same _ _ _ h2]; rfl
  | 3 => rw [World.cell?_setCell_same _ _ _ h3]; rfl
  | o + 4 => rw [World.cell?_setCell_other _ _ _ _ (by simp), World.cell?_setCell_other _ _ _ _ (by simp), World.cell?_setCell_other _ _ _ _ (by simp), World.cell?_setCell_other _ _ _ _ (by simp), h]; simp
theorem own_cells {w : World} {lo hi : Nat} {t : TypeId} {e : Sh} {l : List e.El} {v : Value} (h : Own w lo hi (.row t e) l [v]) {b : Nat} (hb : v.ownBlock = some b) : ∃ c t', w.heap[b]? = some (.cells c t' (0, 0)) := by
  obtain ⟨v', xs, F, e1, ho, _⟩ := h.row_to
  simp only [List.cons.injEq, and_true] at e1
  subst e1
  obtain ⟨_, ⟨rfl, _⟩ | ⟨g, cap, cur, rfl, hg, hh, _⟩⟩ := ho
  · simp [Value.ownBlock] at hb
  · simp [Value.ownBlock] at hb
    subst hb
    exact ⟨_, _, hh⟩
set_option maxRecDepth 100000 in
set_option maxHeartbeats 8000000 in
theorem iAckedUp (x : DSender) (a : Option Addr) (cap : Nat) (P : Int) (w : World) (B : Nat) (hr : shSender.Rd w B x [.int .i64 x.1, .int .i64 x.2.1, .int .i64 x.2.2.1, .slice a x.2.2.2.1.length cap]) (hB : B ≤ w.heap.size) (hT : totSender x ≤ 1048576) (hF : sndFault x = 0) (hP0 : 0 ≤ P) (hP1 : P ≤ 1000000) :
    Calls Try.prog 139 #[.agg #[.int .i64 x.1, .int .i64 x.2.1, .int .i64 x.2.2.1, .slice a x.2.2.2.1.length cap], .int .i64 P] w fun e w' => ∃ u, e = .returned (.agg #[.int .i64 x.1, .int .i64 x.2.1, .int .i64 (if x.2.2.1 < P then P else x.2.2.1), u]) ∧ Own w' w.heap.size w'.heap.size shFlights (x.2.2.2.1.filter (ackKeep P)) [u] ∧ Below w.heap.size w w' := by
  obtain ⟨vv, ev, rk, -⟩ := rd_Sender hr
  simp only [List.cons.injEq, and_true, true_and] at ev
  subst ev
  obtain ⟨VA, VN, VC, hcs, hvn, hrf⟩ := fl_cells rk
  have HBD : Hid (∀ y ∈ x.2.2.2.1, x.2.2.1 ≤ y.1 ∧ 1 ≤ y.2.2.1.length ∧ y.2.2.1.length ≤ 8 ∧ y.1 + y.2.2.1.length ≤ x.2.1) := snd_bd hF
  have HCS : Hid (∀ W, Below w.heap.size w W → FlCells W B a x.2.2.2.1.length (fun k => x.2.2.2.1[k].1) (fun k => x.2.2.2.1[k].2.1) (fun k => x.2.2.2.1[k].2.2.2.1) (fun k => x.2.2.2.1[k].2.2.2.2.1) VA VN VC) := fun W hW => hcs.below (hW.mono hB)
  have HRF : Hid (∀ W, Below w.heap.size w W → ∀ k, shFlight.Rd W B x.2.2.2.1[k] [.int .i64 x.2.2.2.1[k].1, .int .i64 x.2.2.2.1[k].2.1, .slice (VA k) (VN k) (VC k), .int .i64 x.2.2.2.1[k].2.2.2.1, .int .i64 x.2.2.2.1[k].2.2.2.2.1]) := fun W hW k => (hrf k).below hB hW
  have HVN : Hid (∀ k, VN k = x.2.2.2.1[k].2.2.1.length) := hvn
  obtain ⟨o1, o2, o3, h12⟩ := snd_ok hF
  obtain ⟨b10, b11⟩ := inD_yes o1
  obtain ⟨b20, b21⟩ := inD_yes o2
  obtain ⟨b30, b31⟩ := inD_yes o3
  clear rk hcs hvn hrf hF hT hr o1 o2 o3
  obtain ⟨y0, y1, y2, l, _⟩ := x
  simp only at *
  refine (callsIn_wide (n := 6)).1 ?_
  refine callsIn_of_wp_marks Try.func139 rfl trivial ?_ rfl
  simp only [Try.ntmps139, List.size_toArray, List.length_cons, List.length_nil, Nat.reduceAdd, Nat.reduceSub, Array.replicate_succ, Array.replicate_zero, List.push_toArray, List.append_toArray, List.nil_append, List.cons_append]
  by_cases hy : y2 < P
  · rw [if_pos hy]
    gi_wp2_with (refine ⟨trivial, ?_⟩; gi_at_call 92; refine (those_in _ _ _ _ _ _ _).mono ?_; rintro e w' ⟨rfl, rfl⟩)
    obtain ⟨W5, hW5⟩ : ∃ W5, W5 = (((((w.alloc (.cells #[.int .i64 y0, .int .i64 y1, .int .i64 y2, .slice a l.length cap] 57)).alloc (.cells #[.int .i64 P] 2)).alloc (.cells #[.int .i64 0, .int .i64 0, .int .i64 0, .slice none 0 0] 57)).alloc (.cells #[.int .i64 y0, .int .i64 y1, .int .i64 P, .slice none 0 0] 57)).alloc (.cells #[.slice a l.length cap] 134)).alloc (.cells #[(.func (.func 153) #[] #[.pointer (some ⟨w.heap.size + 1, 0, none⟩)])] 131) := ⟨_, rfl⟩
    have hz5 : W5.heap.size = w.heap.size + 1 + 1 + 1 + 1 + 1 + 1 := by rw [hW5]; simp
    have hB5 : Below w.heap.size w W5 := by rw [hW5]; exact ((((((Below.refl _ w).alloc (Nat.le_refl _) _).alloc (by simp) _).alloc (by simp; omega) _).alloc (by simp; omega) _).alloc (by simp; omega) _).alloc (by simp; omega) _
    have cP : W5.cell? ⟨w.heap.size + 1, 0, none⟩ = some (.int .i64 P) := by rw [hW5]; simp [go_sem]
    have kR : ∀ o, W5.cell? ⟨w.heap.size + 1 + 1, o, none⟩ = (#[.int .i64 0, .int .i64 0, .int .i64 0, .slice none 0 0] : Array Value)[o]? := fun o => by rw [hW5]; simp [go_sem]
    have fR : ∀ o, W5.frozen? ⟨w.heap.size + 1 + 1, o, none⟩ = false := fun o => by rw [hW5]; simp [go_sem]
    have qA : W5.heap[w.heap.size + 1 + 1 + 1]? = some (.cells #[.int .i64 y0, .int .i64 y1, .int .i64 P, .slice none 0 0] 57 (0, 0)) := by
      rw [hW5, Below.heap_alloc _ _ _ (by simp), Below.heap_alloc _ _ _ (by simp)]
      have h := World.alloc_heap_new (((w.alloc (.cells #[.int .i64 y0, .int .i64 y1, .int .i64 y2, .slice a l.length cap] 57)).alloc (.cells #[.int .i64 P] 2)).alloc (.cells #[.int .i64 0, .int .i64 0, .int .i64 0, .slice none 0 0] 57)) (.cells #[.int .i64 y0, .int .i64 y1, .int .i64 P, .slice none 0 0] 57)
      simpa using h
    have bL : Boxed W5 (w.heap.size + 1 + 1 + 1 + 1) 134 (.slice a l.length cap) := by
      rw [hW5]
      have h := (Boxed.new ((((w.alloc (.cells #[.int .i64 y0, .int .i64 y1, .int .i64 y2, .slice a l.length cap] 57)).alloc (.cells #[.int .i64 P] 2)).alloc (.cells #[.int .i64 0, .int .i64 0, .int .i64 0, .slice none 0 0] 57)).alloc (.cells #[.int .i64 y0, .int .i64 y1, .int .i64 P, .slice none 0 0] 57)) 134 (.slice a l.length cap)).alloc (.cells #[(.func (.func 153) #[] #[.pointer (some ⟨w.heap.size + 1, 0, none⟩)])] 131)
      simpa using h
    have bF : Boxed W5 (w.heap.size + 1 + 1 + 1 + 1 + 1) 131 (.func (.func 153) #[] #[.pointer (some ⟨w.heap.size + 1, 0, none⟩)]) := by
      rw [hW5]
      have h := Boxed.new (((((w.alloc (.cells #[.int .i64 y0, .int .i64 y1, .int .i64 y2, .slice a l.length cap] 57)).alloc (.cells #[.int .i64 P] 2)).alloc (.cells #[.int .i64 0, .int .i64 0, .int .i64 0, .slice none 0 0] 57)).alloc (.cells #[.int .i64 y0, .int .i64 y1, .int .i64 P, .slice none 0 0] 57)).alloc (.cells #[.slice a l.length cap] 134)) 131 (.func (.func 153) #[] #[.pointer (some ⟨w.heap.size + 1, 0, none⟩)])
      simpa using h
    rw [← hW5]
    clear hW5
    refine wpIn_rangeFunc_ownH rfl (by decide) (gf := 130) (lb := #[.pointer (some ⟨w.heap.size + 1 + 1 + 1 + 1, 0, none⟩), .pointer (some ⟨w.heap.size + 1 + 1 + 1 + 1 + 1, 0, none⟩)]) rfl trivial (enters_of Try.func130 (by kernel_rfl) rfl)
      (those_stops _ (by decide) (w.heap.size + 1 + 1 + 1 + 1) (w.heap.size + 1 + 1 + 1 + 1 + 1) (w.heap.size + 1 + 1 + 1) a l.length cap (by omega) (fun k => l[k].1) (fun k => l[k].2.1) (fun k => l[k].2.2.2.1) (fun k => l[k].2.2.2.2.1) VA VN VC 153 (enters_of Try.func153 (by kernel_rfl) rfl) #[.pointer (some ⟨w.heap.size + 1, 0, none⟩)] (fun k => decide (P < l[k].1 + (l[k].2.2.1.length : Int))) W5 (by omega) (by omega) (by omega) bL.cell bF.cell
        ((HCS.out W5 hB5).mono (by omega))
        (fun W' k hW' => callsIn_wide.2 (by
          have hm := HBD.out l[k] (List.getElem_mem _)
          have h := iKeep1 l[k].1 l[k].2.1 l[k].2.2.2.1 l[k].2.2.2.2.1 (VA k) (VN k) (VC k) (w.heap.size + 1) P W' ((hW'.cell (p := ⟨w.heap.size + 1, 0, none⟩) (by dsimp only; omega)).trans cP) (by omega) (by omega) (by rw [HVN.out k]; omega)
          rw [HVN.out k] at h ⊢
          exact h)))
      KpF.trans (kpF_b (by omega) (by omega)) (Below.refl _ _) (fun _ => rfl)
      (fun pre W => ((AckI y0 y1 P (w.heap.size + 1 + 1 + 1) (w.heap.size + 1 + 1 + 1 + 1 + 1 + 1) (pre.map (fun i => l[i])) W ∧ Boxed W (w.heap.size + 1 + 1 + 1 + 1 + 1) 131 (.func (.func 153) #[] #[.pointer (some ⟨w.heap.size + 1, 0, none⟩)])) ∧ Below (w.heap.size + 1 + 1 + 1) W5 W))
      (fun _ _ _ => False)
      (OwnFrom.and (OwnFrom.and (Go.Own.from (ackI_own y0 y1 P (w.heap.size + 1 + 1 + 1) (w.heap.size + 1 + 1 + 1 + 1 + 1 + 1) (fun pre : List (Fin l.length) => pre.map (fun i => l[i]))) _) (Go.Own.from (boxed_own _ _ _) _)) (ownFrom_below (by omega) (by omega)))
      (fun _ _ _ _ _ hs _ _ => hs)
      ⟨⟨⟨none, 0, qA, own_fls0 _ _ _⟩, bF⟩, Below.refl _ _⟩
      (fun x a' W => ∃ Bx, (w.heap.size + 1 + 1 + 1 + 1 + 1 + 1) ≤ Bx ∧ W.heap[Bx]? = some (.cells #[.int .i64 l[x].1, .int .i64 l[x].2.1, .slice (VA x) (VN x) (VC x), .int .i64 l[x].2.2.2.1, .int .i64 l[x].2.2.2.2.1] 118 (0, 0)) ∧ a' = (?faP : Fin l.length → Nat → Act) x Bx)
      ?hax ?assign ?body ?done ?stop
    case assign =>
      intro lr pre x W K hi hK
      obtain ⟨⟨hAI, hbf⟩, hBl⟩ := hi
      have hWz := hBl.size
      gi_wp2
      refine hK _ _ ((KeepsOthers.alloc _ _).from _) ⟨(Below.refl _ W).alloc (by omega) _, Below.heap_alloc _ _ _ hbf.lt⟩ ⟨⟨?_, hbf.alloc _⟩, hBl.alloc (by omega) _⟩ ⟨W.heap.size, by omega, World.alloc_heap_new W _, ?_⟩
      · obtain ⟨va, vc, h1, h2⟩ := hAI
        exact ⟨va, vc, (Below.heap_alloc _ _ _ (Array.getElem?_eq_some_iff.1 h1).1).trans h1, Own.mono (h2.below (Nat.le_refl _) ((Below.refl _ _).alloc (Nat.le_refl _) _)) (Nat.le_refl _) (by simp)⟩
      · generalize W.heap.size = Bx
        rfl
    case hax =>
      intro x a' s W W' row hs hg hr
      obtain ⟨Bx, h1, h2, h3⟩ := hs
      exact ⟨Bx, h1, blk_grown h2 hg (fun r e => (hr r e).2), h3⟩
    case body =>
      rintro lr pre x a' W hlr ⟨r, hrr⟩ ⟨⟨⟨va, vc, hqa, hO⟩, hbf⟩, hBl⟩ ⟨Bx, hBx, hqx, rfl⟩ hlt
      have hBxW : Bx < W.heap.size := (Array.getElem?_eq_some_iff.1 hqx).1
      have hWz := hBl.size
      have HBw : Hid (Below w.heap.size w W) := hB5.trans (hBl.mono (by omega))
      have HCF : Hid (∀ W', Below w.heap.size w W' → Calls Try.prog 135 #[.agg #[.int .i64 l[x].1, .int .i64 l[x].2.1, .slice (VA x) (VN x) (VC x), .int .i64 l[x].2.2.2.1, .int .i64 l[x].2.2.2.2.1]] W' fun e w' => ∃ b1 c1, e = .returned (.agg #[.int .i64 l[x].1, .int .i64 l[x].2.1, .slice b1 (VN x) c1, .int .i64 l[x].2.2.2.1, .int .i64 l[x].2.2.2.2.1]) ∧ Own w' W'.heap.size w'.heap.size shFlight (l[x].1, l[x].2.1, l[x].2.2.1, l[x].2.2.2.1, l[x].2.2.2.2.1, ()) [.int .i64 l[x].1, .int .i64 l[x].2.1, .slice b1 (VN x) c1, .int .i64 l[x].2.2.2.1, .int .i64 l[x].2.2.2.2.1] ∧ Below W'.heap.size W' w') := fun W' hW' => by
        obtain ⟨vv, ev, rk, wf0, wf1, wf3, wf4⟩ := rd_Flight (HRF.out W' hW' x)
        simp only [List.cons.injEq, and_true, true_and] at ev
        subst ev
        obtain ⟨sa, sc, es, rb, hnil, -⟩ := rd_bytes rk
        simp only [List.cons.injEq, and_true, Value.slice.injEq] at es
        obtain ⟨e1, e2, e3⟩ := es
        have hm := HBD.out l[x] (List.getElem_mem _)
        refine iCopyFl _ _ _ _ _ (VA x) (VN x) (VC x) W' e2.symm (by rw [e1]; exact rb) (by rw [e1, e3]; exact hnil) (by rw [e2]; omega) wf0 wf1 wf3 wf4
      have k5 : ∀ o, W.cell? ⟨Bx, o, none⟩ = (#[.int .i64 l[x].1, .int .i64 l[x].2.1, .slice (VA x) (VN x) (VC x), .int .i64 l[x].2.2.2.1, .int .i64 l[x].2.2.2.2.1] : Array Value)[o]? := fun o => cell_of_heap hqx o
      have HFE : Hid ((pre ++ [x]).map (fun i => l[i]) = pre.map (fun i => l[i]) ++ [(l[x].1, l[x].2.1, l[x].2.2.1, l[x].2.2.2.1, l[x].2.2.2.2.1, ())]) := by show _ = _; rw [List.map_append]; rfl
      have HFN : Hid ((pre.map (fun i => l[i])).length ≤ 1000000) := by show _ ≤ _; rw [List.length_map]; omega
      have hqA : Hid _ := hqa
      have HO : Hid _ := hO
      have HBF : Hid _ := hbf
      have HBl : Hid _ := hBl
      clear hqa hO hbf hBl hqx hrr
      generalize hfl : pre.map (fun i => l[i]) = FL at *
      have HPE : Hid ((pre ++ [x]).map (fun i => l[i]) = FL ++ [(l[x].1, l[x].2.1, l[x].2.2.1, l[x].2.2.2.1, l[x].2.2.2.2.1, ())]) := HFE
      clear hfl
      obtain ⟨fn, hfn⟩ : ∃ fn, FL.length = fn := ⟨_, rfl⟩
      rw [hfn] at hqA HO
      have HFL : Hid (FL.length = fn) := hfn
      clear hfn HFE
      have kA : ∀ o, W.cell? ⟨(w.heap.size + 1 + 1 + 1), o, none⟩ = (#[.int .i64 y0, .int .i64 y1, .int .i64 P, .slice va fn vc] : Array Value)[o]? := fun o => cell_of_heap hqA.out o
      have hAW : (w.heap.size + 1 + 1 + 1) < W.heap.size := by omega
      have hLW : (w.heap.size + 1 + 1 + 1 + 1 + 1 + 1) ≤ W.heap.size := by omega
      generalize hz0 : l[x].1 = z0 at *
      generalize hz1 : l[x].2.1 = z1 at *
      generalize hzd : l[x].2.2.1 = d at *
      generalize hz3 : l[x].2.2.2.1 = z3 at *
      generalize hz4 : l[x].2.2.2.2.1 = z4 at *
      generalize hvm : VN x = m at *
      generalize hva : VA x = xa at *
      generalize hvc : VC x = xc at *
      clear hz0 hz1 hzd hz3 hz4 hvm hva hvc HCS HRF
      have HEND : Hid (∀ (va4 : Option Addr) (vc4 : Nat) (w3 w4 : World), Below W.heap.size W w3 → Own w3 (w.heap.size + 1 + 1 + 1 + 1 + 1 + 1) W.heap.size shFlights FL [.slice va fn vc] → Own w4 (w.heap.size + 1 + 1 + 1 + 1 + 1 + 1) w4.heap.size shFlights (FL ++ [(z0, z1, d, z3, z4, ())]) [.slice va4 (fn + 1) vc4] → Below (w.heap.size + 1 + 1 + 1 + 1 + 1 + 1) w3 w4 → (∀ b, b < w3.heap.size → (Value.slice va fn vc).ownBlock ≠ some b → w4.heap[b]? = w3.heap[b]?) → w4.heap[(w.heap.size + 1 + 1 + 1)]? = some (.cells #[.int .i64 y0, .int .i64 y1, .int .i64 P, .slice va fn vc] 57 (0, 0)) → w3.heap.size < w4.heap.size →
          KeepsFrom W5.heap.size W (w4.setCell ⟨(w.heap.size + 1 + 1 + 1), 3, none⟩ (.slice va4 (fn + 1) vc4)) ∧ KpF (w.heap.size + 1 + 1 + 1) (w.heap.size + 1 + 1 + 1 + 1 + 1) W (w4.setCell ⟨(w.heap.size + 1 + 1 + 1), 3, none⟩ (.slice va4 (fn + 1) vc4)) ∧ ((AckI y0 y1 P (w.heap.size + 1 + 1 + 1) (w.heap.size + 1 + 1 + 1 + 1 + 1 + 1) ((pre ++ [x]).map (fun i => l[i])) (w4.setCell ⟨(w.heap.size + 1 + 1 + 1), 3, none⟩ (.slice va4 (fn + 1) vc4)) ∧ Boxed (w4.setCell ⟨(w.heap.size + 1 + 1 + 1), 3, none⟩ (.slice va4 (fn + 1) vc4)) (w.heap.size + 1 + 1 + 1 + 1 + 1) 131 (.func (.func 153) #[] #[.pointer (some ⟨w.heap.size + 1, 0, none⟩)])) ∧ Below (w.heap.size + 1 + 1 + 1) W5 (w4.setCell ⟨(w.heap.size + 1 + 1 + 1), 3, none⟩ (.slice va4 (fn + 1) vc4)))) := by
        intro va4 vc4 w3 w4 hb3 ho3 ho4 hb4 hk4 hq4 hz4
        have hs3 := hb3.size
        have hB31 : Below (w.heap.size + 1 + 1 + 1) W w3 := hb3.mono (by omega)
        have hB41 : Below (w.heap.size + 1 + 1 + 1) w3 w4 := hb4.mono (by omega)
        have hBW : Below (w.heap.size + 1 + 1 + 1) W (w4.setCell ⟨(w.heap.size + 1 + 1 + 1), 3, none⟩ (.slice va4 (fn + 1) vc4)) := (hB31.trans hB41).setCell (p := ⟨(w.heap.size + 1 + 1 + 1), 3, none⟩) (Nat.le_refl _) _
        have hbF : (w4.setCell ⟨(w.heap.size + 1 + 1 + 1), 3, none⟩ (.slice va4 (fn + 1) vc4)).heap[(w.heap.size + 1 + 1 + 1 + 1 + 1)]? = W.heap[(w.heap.size + 1 + 1 + 1 + 1 + 1)]? := by
          rw [Below.heap_setCell _ _ _ _ (by dsimp only; omega), hb4.block (w.heap.size + 1 + 1 + 1 + 1 + 1) (by omega), hb3.block (w.heap.size + 1 + 1 + 1 + 1 + 1) (by omega)]
        refine ⟨⟨by simp; omega, fun k o hBk hk ho => ?_⟩, ⟨hBW, hbF⟩, ⟨⟨⟨va4, vc4, ?_, ?_⟩, (show _ = _ from hbF).trans HBF.out⟩, HBl.out.trans hBW⟩⟩
        · have hkW : k < W.heap.size := (Array.getElem?_eq_some_iff.1 hk).1
          have hk3 : w3.heap[k]? = some o := (hb3.block k hkW).trans hk
          rw [Below.heap_setCell _ _ _ _ (by dsimp only; omega), hk4 k (by omega) (fun e => ?_)]
          · exact hk3
          · obtain ⟨c, t', hc⟩ := own_cells ho3 e
            rw [hc] at hk3; cases hk3; cases ho
        · rw [heap_set hq4, HPE.out, List.length_append, HFL.out]; simp
        · rw [HPE.out, List.length_append, HFL.out]
          exact Own.mono (Own.keep ho4 (fun b h1 h2 => Below.heap_setCell _ _ _ _ (by dsimp only; omega))) (Nat.le_refl _) (by simp)
      refine wpIn_block ?_
      refine region_round lr (by kernel_rfl) (fun o ho => by
        simp only [List.mem_cons, List.not_mem_nil, or_false] at ho
        rcases ho with rfl | rfl | rfl | rfl | rfl | rfl | rfl | rfl <;> (intro c h; cases h)) ?_
      refine wpAnyIn_take (i := 0) (v := .pointer (some ⟨(w.heap.size + 1 + 1 + 1), 3, none⟩)) rfl rfl (by kernel_rfl) (by kernel_rfl) (by kernel_rfl) (fun _ _ _ h => h) ⟨Or.inl ⟨by rfl, ?_⟩, fun _ => rfl⟩ ?_
      · intro wq
        go_simp
      simp only [Act.put, List.setIfInBounds_toArray]
      refine wpAnyIn_ready (rs := [1, 2]) (by kernel_rfl) (by simp) ?_
      refine AllReadyIn.cons rfl (fun K hK => ?_) ?_
      · go_simp
        refine hK _ _ ?_
        clear hK K
        refine wpAnyIn_ready (rs := [2]) (by kernel_rfl) (by simp) ?_
        refine AllReadyIn.cons rfl (fun K hK => ?_) ?_
        · go_simp
          refine hK _ _ ?_
          clear hK K
          refine wpAnyIn_ready (rs := [3]) (by kernel_rfl) (by simp) ?_
          refine AllReadyIn.cons rfl (fun K hK => ?_) ?_
          · go_simp
            (first | refine ⟨trivial, ?_⟩ | skip)
            refine (callsIn_wide.2 (HCF.out _ (HBw.out.drew))).mono ?_
            rintro e w3 ⟨b3, c3, rfl, ho3, hb3⟩
            have hbb : Below W.heap.size W w3 := (Below.drew (Below.refl _ _)).trans hb3
            have z3' : W.heap.size ≤ w3.heap.size := hbb.size
            have HE3 : Hid (Own w3 W.heap.size w3.heap.size shFlight (z0, z1, d, z3, z4, ()) [.int .i64 z0, .int .i64 z1, .slice b3 m c3, .int .i64 z3, .int .i64 z4]) := ho3
            have HO3 : Hid (Own w3 (w.heap.size + 1 + 1 + 1 + 1 + 1 + 1) W.heap.size shFlights FL [.slice va fn vc]) := HO.out.below (Nat.le_refl _) hbb
            replace kA := boxB kA hbb hAW
            have hA3 : (w.heap.size + 1 + 1 + 1) < w3.heap.size := Nat.lt_of_lt_of_le hAW z3'
            have hqA3 : Hid _ := (hbb.block (w.heap.size + 1 + 1 + 1) hAW).trans hqA.out
            have HB3 : Hid _ := hbb
            clear ho3 hb3 hbb
            refine hK _ _ ?_
            clear hK K
            refine wpAnyIn_ready (rs := [4]) (by kernel_rfl) (by simp) ?_
            refine AllReadyIn.cons rfl (fun K hK => ?_) ?_
            · go_simp
              refine hK _ _ ?_
              clear hK K
              refine wpAnyIn_ready (rs := [5]) (by kernel_rfl) (by simp) ?_
              refine AllReadyIn.cons rfl (fun K hK => ?_) ?_
              · refine app_elem_in w3 (by rfl) _ _ 55 118 (by rfl) shFlight (.agg #[.int .i64 0, .int .i64 0, .slice none 0 0, .int .i64 0, .int .i64 0]) 56 Try.underlying55 info_FlightS rfl (by decide) (by decide) (w.heap.size + 1 + 1 + 1 + 1 + 1 + 1) W.heap.size W.heap.size w3.heap.size FL (.slice va fn vc) (by rfl) w3.heap.size rfl (by rfl) HO3.out (z0, z1, d, z3, z4, ()) [.int .i64 z0, .int .i64 z1, .slice b3 m c3, .int .i64 z3, .int .i64 z4] HE3.out hLW (Nat.le_refl _) (Nat.le_refl _) HFN.out (by omega) ?_
                intro v4 w4 ho4 hb4 hk4 hs4
                obtain ⟨va4, vc4, hv4⟩ := row_form (ho4.rd (Nat.le_refl _))
                simp only [List.cons.injEq, and_true, List.length_append, List.length_cons, List.length_nil, HFL.out] at hv4
                subst hv4
                have hqA4 : Hid _ := (hk4 (w.heap.size + 1 + 1 + 1) (by omega) (fun e => by have := (HO3.out.blk e).1; omega)).trans hqA3.out
                have HO4 : Hid (Own w4 (w.heap.size + 1 + 1 + 1 + 1 + 1 + 1) w4.heap.size shFlights (FL ++ [(z0, z1, d, z3, z4, ())]) [.slice va4 (fn + 1) vc4]) := ho4
                have HB4 : Hid _ := hb4
                have HK4 : Hid _ := hk4
                replace kA : ∀ o, w4.cell? ⟨(w.heap.size + 1 + 1 + 1), o, none⟩ = (#[.int .i64 y0, .int .i64 y1, .int .i64 P, .slice va fn vc] : Array Value)[o]? := fun o => cell_of_heap hqA4.out o
                have fA : ∀ o, w4.frozen? ⟨(w.heap.size + 1 + 1 + 1), o, none⟩ = false := fun o => by simp [World.frozen?, hqA4.out]
                have z4' : w3.heap.size < w4.heap.size := hs4
                clear ho4 hb4 hk4 hs4
                refine hK _ _ ?_
                clear hK K
                refine wpAnyIn_ready (rs := [6]) (by kernel_rfl) (by simp) ?_
                refine AllReadyIn.cons rfl (fun K hK => ?_) ?_
                · go_simp
                  refine hK _ _ ?_
                  clear hK K
                  refine wpAnyIn_ready (rs := [7]) (by kernel_rfl) (by simp) ?_
                  refine AllReadyIn.cons rfl (fun K hK => ?_) ?_
                  · go_simp
                    refine hK _ _ ?_
                    clear hK K
                    refine wpAnyIn_done (by kernel_rfl) ?_ _
                    exact HEND.out va4 vc4 w3 w4 HB3.out HO3.out HO4.out HB4.out HK4.out hqA4.out z4'
                  exact AllReadyIn.nil
                exact AllReadyIn.nil
              exact AllReadyIn.nil
            exact AllReadyIn.nil
          exact AllReadyIn.nil
        exact AllReadyIn.nil
      refine AllReadyIn.cons rfl (fun K hK => ?_) ?_
      · go_simp
        refine hK _ _ ?_
        clear hK K
        refine wpAnyIn_ready (rs := [1, 3]) (by kernel_rfl) (by simp) ?_
        refine AllReadyIn.cons rfl (fun K hK => ?_) ?_
        · go_simp
          refine hK _ _ ?_
          clear hK K
          refine wpAnyIn_ready (rs := [3]) (by kernel_rfl) (by simp) ?_
          refine AllReadyIn.cons rfl (fun K hK => ?_) ?_
          · go_simp
            (first | refine ⟨trivial, ?_⟩ | skip)
            refine (callsIn_wide.2 (HCF.out _ (HBw.out.drew))).mono ?_
            rintro e w3 ⟨b3, c3, rfl, ho3, hb3⟩
            have hbb : Below W.heap.size W w3 := (Below.drew (Below.refl _ _)).trans hb3
            have z3' : W.heap.size ≤ w3.heap.size := hbb.size
            have HE3 : Hid (Own w3 W.heap.size w3.heap.size shFlight (z0, z1, d, z3, z4, ()) [.int .i64 z0, .int .i64 z1, .slice b3 m c3, .int .i64 z3, .int .i64 z4]) := ho3
            have HO3 : Hid (Own w3 (w.heap.size + 1 + 1 + 1 + 1 + 1 + 1) W.heap.size shFlights FL [.slice va fn vc]) := HO.out.below (Nat.le_refl _) hbb
            replace kA := boxB kA hbb hAW
            have hA3 : (w.heap.size + 1 + 1 + 1) < w3.heap.size := Nat.lt_of_lt_of_le hAW z3'
            have hqA3 : Hid _ := (hbb.block (w.heap.size + 1 + 1 + 1) hAW).trans hqA.out
            have HB3 : Hid _ := hbb
            clear ho3 hb3 hbb
            refine hK _ _ ?_
            clear hK K
            refine wpAnyIn_ready (rs := [4]) (by kernel_rfl) (by simp) ?_
            refine AllReadyIn.cons rfl (fun K hK => ?_) ?_
            · go_simp
              refine hK _ _ ?_
              clear hK K
              refine wpAnyIn_ready (rs := [5]) (by kernel_rfl) (by simp) ?_
              refine AllReadyIn.cons rfl (fun K hK => ?_) ?_
              · refine app_elem_in w3 (by rfl) _ _ 55 118 (by rfl) shFlight (.agg #[.int .i64 0, .int .i64 0, .slice none 0 0, .int .i64 0, .int .i64 0]) 56 Try.underlying55 info_FlightS rfl (by decide) (by decide) (w.heap.size + 1 + 1 + 1 + 1 + 1 + 1) W.heap.size W.heap.size w3.heap.size FL (.slice va fn vc) (by rfl) w3.heap.size rfl (by rfl) HO3.out (z0, z1, d, z3, z4, ()) [.int .i64 z0, .int .i64 z1, .slice b3 m c3, .int .i64 z3, .int .i64 z4] HE3.out hLW (Nat.le_refl _) (Nat.le_refl _) HFN.out (by omega) ?_
                intro v4 w4 ho4 hb4 hk4 hs4
                obtain ⟨va4, vc4, hv4⟩ := row_form (ho4.rd (Nat.le_refl _))
                simp only [List.cons.injEq, and_true, List.length_append, List.length_cons, List.length_nil, HFL.out] at hv4
                subst hv4
                have hqA4 : Hid _ := (hk4 (w.heap.size + 1 + 1 + 1) (by omega) (fun e => by have := (HO3.out.blk e).1; omega)).trans hqA3.out
                have HO4 : Hid (Own w4 (w.heap.size + 1 + 1 + 1 + 1 + 1 + 1) w4.heap.size shFlights (FL ++ [(z0, z1, d, z3, z4, ())]) [.slice va4 (fn + 1) vc4]) := ho4
                have HB4 : Hid _ := hb4
                have HK4 : Hid _ := hk4
                replace kA : ∀ o, w4.cell? ⟨(w.heap.size + 1 + 1 + 1), o, none⟩ = (#[.int .i64 y0, .int .i64 y1, .int .i64 P, .slice va fn vc] : Array Value)[o]? := fun o => cell_of_heap hqA4.out o
                have fA : ∀ o, w4.frozen? ⟨(w.heap.size + 1 + 1 + 1), o, none⟩ = false := fun o => by simp [World.frozen?, hqA4.out]
                have z4' : w3.heap.size < w4.heap.size := hs4
                clear ho4 hb4 hk4 hs4
                refine hK _ _ ?_
                clear hK K
                refine wpAnyIn_ready (rs := [6]) (by kernel_rfl) (by simp) ?_
                refine AllReadyIn.cons rfl (fun K hK => ?_) ?_
                · go_simp
                  refine hK _ _ ?_
                  clear hK K
                  refine wpAnyIn_ready (rs := [7]) (by kernel_rfl) (by simp) ?_
                  refine AllReadyIn.cons rfl (fun K hK => ?_) ?_
                  · go_simp
                    refine hK _ _ ?_
                    clear hK K
                    refine wpAnyIn_done (by kernel_rfl) ?_ _
                    exact HEND.out va4 vc4 w3 w4 HB3.out HO3.out HO4.out HB4.out HK4.out hqA4.out z4'
                  exact AllReadyIn.nil
                exact AllReadyIn.nil
              exact AllReadyIn.nil
            exact AllReadyIn.nil
          exact AllReadyIn.nil
        refine AllReadyIn.cons rfl (fun K hK => ?_) ?_
        · go_simp
          (first | refine ⟨trivial, ?_⟩ | skip)
          refine (callsIn_wide.2 (HCF.out _ (HBw.out.drew))).mono ?_
          rintro e w3 ⟨b3, c3, rfl, ho3, hb3⟩
          have hbb : Below W.heap.size W w3 := (Below.drew (Below.refl _ _)).trans hb3
          have z3' : W.heap.size ≤ w3.heap.size := hbb.size
          have HE3 : Hid (Own w3 W.heap.size w3.heap.size shFlight (z0, z1, d, z3, z4, ()) [.int .i64 z0, .int .i64 z1, .slice b3 m c3, .int .i64 z3, .int .i64 z4]) := ho3
          have HO3 : Hid (Own w3 (w.heap.size + 1 + 1 + 1 + 1 + 1 + 1) W.heap.size shFlights FL [.slice va fn vc]) := HO.out.below (Nat.le_refl _) hbb
          replace kA := boxB kA hbb hAW
          have hA3 : (w.heap.size + 1 + 1 + 1) < w3.heap.size := Nat.lt_of_lt_of_le hAW z3'
          have hqA3 : Hid _ := (hbb.block (w.heap.size + 1 + 1 + 1) hAW).trans hqA.out
          have HB3 : Hid _ := hbb
          clear ho3 hb3 hbb
          refine hK _ _ ?_
          clear hK K
          refine wpAnyIn_ready (rs := [1, 4]) (by kernel_rfl) (by simp) ?_
          refine AllReadyIn.cons rfl (fun K hK => ?_) ?_
          · go_simp
            refine hK _ _ ?_
            clear hK K
            refine wpAnyIn_ready (rs := [4]) (by kernel_rfl) (by simp) ?_
            refine AllReadyIn.cons rfl (fun K hK => ?_) ?_
            · go_simp
              refine hK _ _ ?_
              clear hK K
              refine wpAnyIn_ready (rs := [5]) (by kernel_rfl) (by simp) ?_
              refine AllReadyIn.cons rfl (fun K hK => ?_) ?_
              · refine app_elem_in w3 (by rfl) _ _ 55 118 (by rfl) shFlight (.agg #[.int .i64 0, .int .i64 0, .slice none 0 0, .int .i64 0, .int .i64 0]) 56 Try.underlying55 info_FlightS rfl (by decide) (by decide) (w.heap.size + 1 + 1 + 1 + 1 + 1 + 1) W.heap.size W.heap.size w3.heap.size FL (.slice va fn vc) (by rfl) w3.heap.size rfl (by rfl) HO3.out (z0, z1, d, z3, z4, ()) [.int .i64 z0, .int .i64 z1, .slice b3 m c3, .int .i64 z3, .int .i64 z4] HE3.out hLW (Nat.le_refl _) (Nat.le_refl _) HFN.out (by omega) ?_
                intro v4 w4 ho4 hb4 hk4 hs4
                obtain ⟨va4, vc4, hv4⟩ := row_form (ho4.rd (Nat.le_refl _))
                simp only [List.cons.injEq, and_true, List.length_append, List.length_cons, List.length_nil, HFL.out] at hv4
                subst hv4
                have hqA4 : Hid _ := (hk4 (w.heap.size + 1 + 1 + 1) (by omega) (fun e => by have := (HO3.out.blk e).1; omega)).trans hqA3.out
                have HO4 : Hid (Own w4 (w.heap.size + 1 + 1 + 1 + 1 + 1 + 1) w4.heap.size shFlights (FL ++ [(z0, z1, d, z3, z4, ())]) [.slice va4 (fn + 1) vc4]) := ho4
                have HB4 : Hid _ := hb4
                have HK4 : Hid _ := hk4
                replace kA : ∀ o, w4.cell? ⟨(w.heap.size + 1 + 1 + 1), o, none⟩ = (#[.int .i64 y0, .int .i64 y1, .int .i64 P, .slice va fn vc] : Array Value)[o]? := fun o => cell_of_heap hqA4.out o
                have fA : ∀ o, w4.frozen? ⟨(w.heap.size + 1 + 1 + 1), o, none⟩ = false := fun o => by simp [World.frozen?, hqA4.out]
                have z4' : w3.heap.size < w4.heap.size := hs4
                clear ho4 hb4 hk4 hs4
                refine hK _ _ ?_
                clear hK K
                refine wpAnyIn_ready (rs := [6]) (by kernel_rfl) (by simp) ?_
                refine AllReadyIn.cons rfl (fun K hK => ?_) ?_
                · go_simp
                  refine hK _ _ ?_
                  clear hK K
                  refine wpAnyIn_ready (rs := [7]) (by kernel_rfl) (by simp) ?_
                  refine AllReadyIn.cons rfl (fun K hK => ?_) ?_
                  · go_simp
                    refine hK _ _ ?_
                    clear hK K
                    refine wpAnyIn_done (by kernel_rfl) ?_ _
                    exact HEND.out va4 vc4 w3 w4 HB3.out HO3.out HO4.out HB4.out HK4.out hqA4.out z4'
                  exact AllReadyIn.nil
                exact AllReadyIn.nil
              exact AllReadyIn.nil
            exact AllReadyIn.nil
          refine AllReadyIn.cons rfl (fun K hK => ?_) ?_
          · go_simp
            refine hK _ _ ?_
            clear hK K
            refine wpAnyIn_ready (rs := [1]) (by kernel_rfl) (by simp) ?_
            refine AllReadyIn.cons rfl (fun K hK => ?_) ?_
            · go_simp
              refine hK _ _ ?_
              clear hK K
              refine wpAnyIn_ready (rs := [5]) (by kernel_rfl) (by simp) ?_
              refine AllReadyIn.cons rfl (fun K hK => ?_) ?_
              · refine app_elem_in w3 (by rfl) _ _ 55 118 (by rfl) shFlight (.agg #[.int .i64 0, .int .i64 0, .slice none 0 0, .int .i64 0, .int .i64 0]) 56 Try.underlying55 info_FlightS rfl (by decide) (by decide) (w.heap.size + 1 + 1 + 1 + 1 + 1 + 1) W.heap.size W.heap.size w3.heap.size FL (.slice va fn vc) (by rfl) w3.heap.size rfl (by rfl) HO3.out (z0, z1, d, z3, z4, ()) [.int .i64 z0, .int .i64 z1, .slice b3 m c3, .int .i64 z3, .int .i64 z4] HE3.out hLW (Nat.le_refl _) (Nat.le_refl _) HFN.out (by omega) ?_
                intro v4 w4 ho4 hb4 hk4 hs4
                obtain ⟨va4, vc4, hv4⟩ := row_form (ho4.rd (Nat.le_refl _))
                simp only [List.cons.injEq, and_true, List.length_append, List.length_cons, List.length_nil, HFL.out] at hv4
                subst hv4
                have hqA4 : Hid _ := (hk4 (w.heap.size + 1 + 1 + 1) (by omega) (fun e => by have := (HO3.out.blk e).1; omega)).trans hqA3.out
                have HO4 : Hid (Own w4 (w.heap.size + 1 + 1 + 1 + 1 + 1 + 1) w4.heap.size shFlights (FL ++ [(z0, z1, d, z3, z4, ())]) [.slice va4 (fn + 1) vc4]) := ho4
                have HB4 : Hid _ := hb4
                have HK4 : Hid _ := hk4
                replace kA : ∀ o, w4.cell? ⟨(w.heap.size + 1 + 1 + 1), o, none⟩ = (#[.int .i64 y0, .int .i64 y1, .int .i64 P, .slice va fn vc] : Array Value)[o]? := fun o => cell_of_heap hqA4.out o
                have fA : ∀ o, w4.frozen? ⟨(w.heap.size + 1 + 1 + 1), o, none⟩ = false := fun o => by simp [World.frozen?, hqA4.out]
                have z4' : w3.heap.size < w4.heap.size := hs4
                clear ho4 hb4 hk4 hs4
                refine hK _ _ ?_
                clear hK K
                refine wpAnyIn_ready (rs := [6]) (by kernel_rfl) (by simp) ?_
                refine AllReadyIn.cons rfl (fun K hK => ?_) ?_
                · go_simp
                  refine hK _ _ ?_
                  clear hK K
                  refine wpAnyIn_ready (rs := [7]) (by kernel_rfl) (by simp) ?_
                  refine AllReadyIn.cons rfl (fun K hK => ?_) ?_
                  · go_simp
                    refine hK _ _ ?_
                    clear hK K
                    refine wpAnyIn_done (by kernel_rfl) ?_ _
                    exact HEND.out va4 vc4 w3 w4 HB3.out HO3.out HO4.out HB4.out HK4.out hqA4.out z4'
                  exact AllReadyIn.nil
                exact AllReadyIn.nil
              exact AllReadyIn.nil
            exact AllReadyIn.nil
          exact AllReadyIn.nil
        exact AllReadyIn.nil
      exact AllReadyIn.nil
    case done =>
      rintro D ys W hD hys ⟨⟨⟨va, vc, hqa, hO⟩, hbf⟩, hBl⟩ hK
      have hWz := hBl.size
      have hdl : ys.map (fun i => l[i]) = l.filter (ackKeep P) := by
        have h := so_map P l l.length (Nat.le_refl _)
        rw [List.take_length] at h
        rw [hys]; exact h
      rw [hdl] at hqa hO
      have kA : ∀ o, W.cell? ⟨(w.heap.size + 1 + 1 + 1), o, none⟩ = (#[.int .i64 y0, .int .i64 y1, .int .i64 P, .slice va (l.filter (ackKeep P)).length vc] : Array Value)[o]? := fun o => cell_of_heap hqa o
      have kR' : ∀ o, W.cell? ⟨w.heap.size + 1 + 1, o, none⟩ = (#[.int .i64 0, .int .i64 0, .int .i64 0, .slice none 0 0] : Array Value)[o]? := fun o => (hBl.cell (p := ⟨w.heap.size + 1 + 1, o, none⟩) (by dsimp only; omega)).trans (kR o)
      have fR' : ∀ o, W.frozen? ⟨w.heap.size + 1 + 1, o, none⟩ = false := fun o => (hBl.frozen (p := ⟨w.heap.size + 1 + 1, o, none⟩) (by dsimp only; omega)).trans (fR o)
      have HO : Hid _ := hO
      have HBw : Hid (Below w.heap.size w W) := hB5.trans (hBl.mono (by omega))
      clear hqa hO hbf hBl hys hdl kR fR
      generalize (l.filter (ackKeep P)).length = fn at *
      gi_wp2
      have kX := bx_four (u0 := .int .i64 y0) (u1 := .int .i64 y1) (u2 := .int .i64 P) (u3 := .slice va fn vc) kR'
      have HX : Hid (Own ((((W.setCell ⟨w.heap.size + 1 + 1, 0, none⟩ (.int .i64 y0)).setCell ⟨w.heap.size + 1 + 1, 1, none⟩ (.int .i64 y1)).setCell ⟨w.heap.size + 1 + 1, 2, none⟩ (.int .i64 P)).setCell ⟨w.heap.size + 1 + 1, 3, none⟩ (.slice va fn vc)) (w.heap.size + 1 + 1 + 1 + 1 + 1 + 1) W.heap.size shFlights (l.filter (ackKeep P)) [.slice va fn vc]) := Own.keep HO.out (fun b h1 h2 => by repeat rw [Below.heap_setCell _ _ _ _ (by dsimp only; omega)])
      have hBX : Below w.heap.size w ((((W.setCell ⟨w.heap.size + 1 + 1, 0, none⟩ (.int .i64 y0)).setCell ⟨w.heap.size + 1 + 1, 1, none⟩ (.int .i64 y1)).setCell ⟨w.heap.size + 1 + 1, 2, none⟩ (.int .i64 P)).setCell ⟨w.heap.size + 1 + 1, 3, none⟩ (.slice va fn vc)) := (((HBw.out.setCell (by dsimp only; omega) _).setCell (by dsimp only; omega) _).setCell (by dsimp only; omega) _).setCell (by dsimp only; omega) _
      have hK' := ((((KeepsOthers.setCell W ⟨w.heap.size + 1 + 1, 0, none⟩ (.int .i64 y0)).trans (KeepsOthers.setCell _ ⟨w.heap.size + 1 + 1, 1, none⟩ (.int .i64 y1))).trans (KeepsOthers.setCell _ ⟨w.heap.size + 1 + 1, 2, none⟩ (.int .i64 P))).trans (KeepsOthers.setCell _ ⟨w.heap.size + 1 + 1, 3, none⟩ (.slice va fn vc))).same D _ hK rfl
      have hXz : W.heap.size = ((((W.setCell ⟨w.heap.size + 1 + 1, 0, none⟩ (.int .i64 y0)).setCell ⟨w.heap.size + 1 + 1, 1, none⟩ (.int .i64 y1)).setCell ⟨w.heap.size + 1 + 1, 2, none⟩ (.int .i64 P)).setCell ⟨w.heap.size + 1 + 1, 3, none⟩ (.slice va fn vc)).heap.size := by simp
      generalize ((((W.setCell ⟨w.heap.size + 1 + 1, 0, none⟩ (.int .i64 y0)).setCell ⟨w.heap.size + 1 + 1, 1, none⟩ (.int .i64 y1)).setCell ⟨w.heap.size + 1 + 1, 2, none⟩ (.int .i64 P)).setCell ⟨w.heap.size + 1 + 1, 3, none⟩ (.slice va fn vc)) = X at *
      rw [hXz] at HX
      refine ⟨by simp, .inl ⟨_, _, rfl, run_takeDeferred hK', ?_⟩⟩
      have kP : ∀ o, (X.putObj D (.deferred none)).cell? ⟨w.heap.size + 1 + 1, o, none⟩ = (#[.int .i64 y0, .int .i64 y1, .int .i64 P, .slice va fn vc] : Array Value)[o]? := fun o => (World.cell?_of_block (w := X) (a := ⟨w.heap.size + 1 + 1, o, none⟩) ((grownBy_putObj' X D (.deferred none)).block _ (by dsimp only; omega) (fun e => by simp at e; omega))).trans (kX o)
      refine ⟨.agg #[.int .i64 y0, .int .i64 y1, .int .i64 P, .slice va fn vc], by simp [results, Try.results139, go_sem, kP], _, rfl, ?_, hBX.trans (belowK_b (w := w) (Nat.le_refl _) X D _ _ (by omega) hK' rfl rfl)⟩
      exact Own.mono (own_grown HX.out (grownBy_putObj' X D (.deferred none)) (fun r e => by cases e; exact ⟨_, hK', rfl⟩)) (by omega) (Nat.le_refl _)
    case stop =>
      rintro D c pre W _ _ h _
      exact h.elim
  · rw [if_neg hy]
    gi_wp2_with (refine ⟨trivial, ?_⟩; gi_at_call 92; refine (those_in _ _ _ _ _ _ _).mono ?_; rintro e w' ⟨rfl, rfl⟩)
    obtain ⟨W5, hW5⟩ : ∃ W5, W5 = (((((w.alloc (.cells #[.int .i64 y0, .int .i64 y1, .int .i64 y2, .slice a l.length cap] 57)).alloc (.cells #[.int .i64 P] 2)).alloc (.cells #[.int .i64 0, .int .i64 0, .int .i64 0, .slice none 0 0] 57)).alloc (.cells #[.int .i64 y0, .int .i64 y1, .int .i64 y2, .slice none 0 0] 57)).alloc (.cells #[.slice a l.length cap] 134)).alloc (.cells #[(.func (.func 153) #[] #[.pointer (some ⟨w.heap.size + 1, 0, none⟩)])] 131) := ⟨_, rfl⟩
    have hz5 : W5.heap.size = w.heap.size + 1 + 1 + 1 + 1 + 1 + 1 := by rw [hW5]; simp
    have hB5 : Below w.heap.size w W5 := by rw [hW5]; exact ((((((Below.refl _ w).alloc (Nat.le_refl _) _).alloc (by simp) _).alloc (by simp; omega) _).alloc (by simp; omega) _).alloc (by simp; omega) _).alloc (by simp; omega) _
    have cP : W5.cell? ⟨w.heap.size + 1, 0, none⟩ = some (.int .i64 P) := by rw [hW5]; simp [go_sem]
    have kR : ∀ o, W5.cell? ⟨w.heap.size + 1 + 1, o, none⟩ = (#[.int .i64 0, .int .i64 0, .int .i64 0, .slice none 0 0] : Array Value)[o]? := fun o => by rw [hW5]; simp [go_sem]
    have fR : ∀ o, W5.frozen? ⟨w.heap.size + 1 + 1, o, none⟩ = false := fun o => by rw [hW5]; simp [go_sem]
    have qA : W5.heap[w.heap.size + 1 + 1 + 1]? = some (.cells #[.int .i64 y0, .int .i64 y1, .int .i64 y2, .slice none 0 0] 57 (0, 0)) := by
      rw [hW5, Below.heap_alloc _ _ _ (by simp), Below.heap_alloc _ _ _ (by simp)]
      have h := World.alloc_heap_new (((w.alloc (.cells #[.int .i64 y0, .int .i64 y1, .int .i64 y2, .slice a l.length cap] 57)).alloc (.cells #[.int .i64 P] 2)).alloc (.cells #[.int .i64 0, .int .i64 0, .int .i64 0, .slice none 0 0] 57)) (.cells #[.int .i64 y0, .int .i64 y1, .int .i64 y2, .slice none 0 0] 57)
      simpa using h
    have bL : Boxed W5 (w.heap.size + 1 + 1 + 1 + 1) 134 (.slice a l.length cap) := by
      rw [hW5]
      have h := (Boxed.new ((((w.alloc (.cells #[.int .i64 y0, .int .i64 y1, .int .i64 y2, .slice a l.length cap] 57)).alloc (.cells #[.int .i64 P] 2)).alloc (.cells #[.int .i64 0, .int .i64 0, .int .i64 0, .slice none 0 0] 57)).alloc (.cells #[.int .i64 y0, .int .i64 y1, .int .i64 y2, .slice none 0 0] 57)) 134 (.slice a l.length cap)).alloc (.cells #[(.func (.func 153) #[] #[.pointer (some ⟨w.heap.size + 1, 0, none⟩)])] 131)
      simpa using h
    have bF : Boxed W5 (w.heap.size + 1 + 1 + 1 + 1 + 1) 131 (.func (.func 153) #[] #[.pointer (some ⟨w.heap.size + 1, 0, none⟩)]) := by
      rw [hW5]
      have h := Boxed.new (((((w.alloc (.cells #[.int .i64 y0, .int .i64 y1, .int .i64 y2, .slice a l.length cap] 57)).alloc (.cells #[.int .i64 P] 2)).alloc (.cells #[.int .i64 0, .int .i64 0, .int .i64 0, .slice none 0 0] 57)).alloc (.cells #[.int .i64 y0, .int .i64 y1, .int .i64 y2, .slice none 0 0] 57)).alloc (.cells #[.slice a l.length cap] 134)) 131 (.func (.func 153) #[] #[.pointer (some ⟨w.heap.size + 1, 0, none⟩)])
      simpa using h
    rw [← hW5]
    clear hW5
    refine wpIn_rangeFunc_ownH rfl (by decide) (gf := 130) (lb := #[.pointer (some ⟨w.heap.size + 1 + 1 + 1 + 1, 0, none⟩), .pointer (some ⟨w.heap.size + 1 + 1 + 1 + 1 + 1, 0, none⟩)]) rfl trivial (enters_of Try.func130 (by kernel_rfl) rfl)
      (those_stops _ (by decide) (w.heap.size + 1 + 1 + 1 + 1) (w.heap.size + 1 + 1 + 1 + 1 + 1) (w.heap.size + 1 + 1 + 1) a l.length cap (by omega) (fun k => l[k].1) (fun k => l[k].2.1) (fun k => l[k].2.2.2.1) (fun k => l[k].2.2.2.2.1) VA VN VC 153 (enters_of Try.func153 (by kernel_rfl) rfl) #[.pointer (some ⟨w.heap.size + 1, 0, none⟩)] (fun k => decide (P < l[k].1 + (l[k].2.2.1.length : Int))) W5 (by omega) (by omega) (by omega) bL.cell bF.cell
        ((HCS.out W5 hB5).mono (by omega))
        (fun W' k hW' => callsIn_wide.2 (by
          have hm := HBD.out l[k] (List.getElem_mem _)
          have h := iKeep1 l[k].1 l[k].2.1 l[k].2.2.2.1 l[k].2.2.2.2.1 (VA k) (VN k) (VC k) (w.heap.size + 1) P W' ((hW'.cell (p := ⟨w.heap.size + 1, 0, none⟩) (by dsimp only; omega)).trans cP) (by omega) (by omega) (by rw [HVN.out k]; omega)
          rw [HVN.out k] at h ⊢
          exact h)))
      KpF.trans (kpF_b (by omega) (by omega)) (Below.refl _ _) (fun _ => rfl)
      (fun pre W => ((AckI y0 y1 y2 (w.heap.size + 1 + 1 + 1) (w.heap.size + 1 + 1 + 1 + 1 + 1 + 1) (pre.map (fun i => l[i])) W ∧ Boxed W (w.heap.size + 1 + 1 + 1 + 1 + 1) 131 (.func (.func 153) #[] #[.pointer (some ⟨w.heap.size + 1, 0, none⟩)])) ∧ Below (w.heap.size + 1 + 1 + 1) W5 W))
      (fun _ _ _ => False)
      (OwnFrom.and (OwnFrom.and (Go.Own.from (ackI_own y0 y1 y2 (w.heap.size + 1 + 1 + 1) (w.heap.size + 1 + 1 + 1 + 1 + 1 + 1) (fun pre : List (Fin l.length) => pre.map (fun i => l[i]))) _) (Go.Own.from (boxed_own _ _ _) _)) (ownFrom_below (by omega) (by omega)))
      (fun _ _ _ _ _ hs _ _ => hs)
      ⟨⟨⟨none, 0, qA, own_fls0 _ _ _⟩, bF⟩, Below.refl _ _⟩
      (fun x a' W => ∃ Bx, (w.heap.size + 1 + 1 + 1 + 1 + 1 + 1) ≤ Bx ∧ W.heap[Bx]? = some (.cells #[.int .i64 l[x].1, .int .i64 l[x].2.1, .slice (VA x) (VN x) (VC x), .int .i64 l[x].2.2.2.1, .int .i64 l[x].2.2.2.2.1] 118 (0, 0)) ∧ a' = (?fay2 : Fin l.length → Nat → Act) x Bx)
      ?hax ?assign ?body ?done ?stop
    case assign =>
      intro lr pre x W K hi hK
      obtain ⟨⟨hAI, hbf⟩, hBl⟩ := hi
      have hWz := hBl.size
      gi_wp2
      refine hK _ _ ((KeepsOthers.alloc _ _).from _) ⟨(Below.refl _ W).alloc (by omega) _, Below.heap_alloc _ _ _ hbf.lt⟩ ⟨⟨?_, hbf.alloc _⟩, hBl.alloc (by omega) _⟩ ⟨W.heap.size, by omega, World.alloc_heap_new W _, ?_⟩
      · obtain ⟨va, vc, h1, h2⟩ := hAI
        exact ⟨va, vc, (Below.heap_alloc _ _ _ (Array.getElem?_eq_some_iff.1 h1).1).trans h1, Own.mono (h2.below (Nat.le_refl _) ((Below.refl _ _).alloc (Nat.le_refl _) _)) (Nat.le_refl _) (by simp)⟩
      · generalize W.heap.size = Bx
        rfl
    case hax =>
      intro x a' s W W' row hs hg hr
      obtain ⟨Bx, h1, h2, h3⟩ := hs
      exact ⟨Bx, h1, blk_grown h2 hg (fun r e => (hr r e).2), h3⟩
    case body =>
      rintro lr pre x a' W hlr ⟨r, hrr⟩ ⟨⟨⟨va, vc, hqa, hO⟩, hbf⟩, hBl⟩ ⟨Bx, hBx, hqx, rfl⟩ hlt
      have hBxW : Bx < W.heap.size := (Array.getElem?_eq_some_iff.1 hqx).1
      have hWz := hBl.size
      have HBw : Hid (Below w.heap.size w W) := hB5.trans (hBl.mono (by omega))
      have HCF : Hid (∀ W', Below w.heap.size w W' → Calls Try.prog 135 #[.agg #[.int .i64 l[x].1, .int .i64 l[x].2.1, .slice (VA x) (VN x) (VC x), .int .i64 l[x].2.2.2.1, .int .i64 l[x].2.2.2.2.1]] W' fun e w' => ∃ b1 c1, e = .returned (.agg #[.int .i64 l[x].1, .int .i64 l[x].2.1, .slice b1 (VN x) c1, .int .i64 l[x].2.2.2.1, .int .i64 l[x].2.2.2.2.1]) ∧ Own w' W'.heap.size w'.heap.size shFlight (l[x].1, l[x].2.1, l[x].2.2.1, l[x].2.2.2.1, l[x].2.2.2.2.1, ()) [.int .i64 l[x].1, .int .i64 l[x].2.1, .slice b1 (VN x) c1, .int .i64 l[x].2.2.2.1, .int .i64 l[x].2.2.2.2.1] ∧ Below W'.heap.size W' w') := fun W' hW' => by
        obtain ⟨vv, ev, rk, wf0, wf1, wf3, wf4⟩ := rd_Flight (HRF.out W' hW' x)
        simp only [List.cons.injEq, and_true, true_and] at ev
        subst ev
        obtain ⟨sa, sc, es, rb, hnil, -⟩ := rd_bytes rk
        simp only [List.cons.injEq, and_true, Value.slice.injEq] at es
        obtain ⟨e1, e2, e3⟩ := es
        have hm := HBD.out l[x] (List.getElem_mem _)
        refine iCopyFl _ _ _ _ _ (VA x) (VN x) (VC x) W' e2.symm (by rw [e1]; exact rb) (by rw [e1, e3]; exact hnil) (by rw [e2]; omega) wf0 wf1 wf3 wf4
      have k5 : ∀ o, W.cell? ⟨Bx, o, none⟩ = (#[.int .i64 l[x].1, .int .i64 l[x].2.1, .slice (VA x) (VN x) (VC x), .int .i64 l[x].2.2.2.1, .int .i64 l[x].2.2.2.2.1] : Array Value)[o]? := fun o => cell_of_heap hqx o
      have HFE : Hid ((pre ++ [x]).map (fun i => l[i]) = pre.map (fun i => l[i]) ++ [(l[x].1, l[x].2.1, l[x].2.2.1, l[x].2.2.2.1, l[x].2.2.2.2.1, ())]) := by show _ = _; rw [List.map_append]; rfl
      have HFN : Hid ((pre.map (fun i => l[i])).length ≤ 1000000) := by show _ ≤ _; rw [List.length_map]; omega
      have hqA : Hid _ := hqa
      have HO : Hid _ := hO
      have HBF : Hid _ := hbf
      have HBl : Hid _ := hBl
      clear hqa hO hbf hBl hqx hrr
      generalize hfl : pre.map (fun i => l[i]) = FL at *
      have HPE : Hid ((pre ++ [x]).map (fun i => l[i]) = FL ++ [(l[x].1, l[x].2.1, l[x].2.2.1, l[x].2.2.2.1, l[x].2.2.2.2.1, ())]) := HFE
      clear hfl
      obtain ⟨fn, hfn⟩ : ∃ fn, FL.length = fn := ⟨_, rfl⟩
      rw [hfn] at hqA HO
      have HFL : Hid (FL.length = fn) := hfn
      clear hfn HFE
      have kA : ∀ o, W.cell? ⟨(w.heap.size + 1 + 1 + 1), o, none⟩ = (#[.int .i64 y0, .int .i64 y1, .int .i64 y2, .slice va fn vc] : Array Value)[o]? := fun o => cell_of_heap hqA.out o
      have hAW : (w.heap.size + 1 + 1 + 1) < W.heap.size := by omega
      have hLW : (w.heap.size + 1 + 1 + 1 + 1 + 1 + 1) ≤ W.heap.size := by omega
      generalize hz0 : l[x].1 = z0 at *
      generalize hz1 : l[x].2.1 = z1 at *
      generalize hzd : l[x].2.2.1 = d at *
      generalize hz3 : l[x].2.2.2.1 = z3 at *
      generalize hz4 : l[x].2.2.2.2.1 = z4 at *
      generalize hvm : VN x = m at *
      generalize hva : VA x = xa at *
      generalize hvc : VC x = xc at *
      clear hz0 hz1 hzd hz3 hz4 hvm hva hvc HCS HRF
      have HEND : Hid (∀ (va4 : Option Addr) (vc4 : Nat) (w3 w4 : World), Below W.heap.size W w3 → Own w3 (w.heap.size + 1 + 1 + 1 + 1 + 1 + 1) W.heap.size shFlights FL [.slice va fn vc] → Own w4 (w.heap.size + 1 + 1 + 1 + 1 + 1 + 1) w4.heap.size shFlights (FL ++ [(z0, z1, d, z3, z4, ())]) [.slice va4 (fn + 1) vc4] → Below (w.heap.size + 1 + 1 + 1 + 1 + 1 + 1) w3 w4 → (∀ b, b < w3.heap.size → (Value.slice va fn vc).ownBlock ≠ some b → w4.heap[b]? = w3.heap[b]?) → w4.heap[(w.heap.size + 1 + 1 + 1)]? = some (.cells #[.int .i64 y0, .int .i64 y1, .int .i64 y2, .slice va fn vc] 57 (0, 0)) → w3.heap.size < w4.heap.size →
          KeepsFrom W5.heap.size W (w4.setCell ⟨(w.heap.size + 1 + 1 + 1), 3, none⟩ (.slice va4 (fn + 1) vc4)) ∧ KpF (w.heap.size + 1 + 1 + 1) (w.heap.size + 1 + 1 + 1 + 1 + 1) W (w4.setCell ⟨(w.heap.size + 1 + 1 + 1), 3, none⟩ (.slice va4 (fn + 1) vc4)) ∧ ((AckI y0 y1 y2 (w.heap.size + 1 + 1 + 1) (w.heap.size + 1 + 1 + 1 + 1 + 1 + 1) ((pre ++ [x]).map (fun i => l[i])) (w4.setCell ⟨(w.heap.size + 1 + 1 + 1), 3, none⟩ (.slice va4 (fn + 1) vc4)) ∧ Boxed (w4.setCell ⟨(w.heap.size + 1 + 1 + 1), 3, none⟩ (.slice va4 (fn + 1) vc4)) (w.heap.size + 1 + 1 + 1 + 1 + 1) 131 (.func (.func 153) #[] #[.pointer (some ⟨w.heap.size + 1, 0, none⟩)])) ∧ Below (w.heap.size + 1 + 1 + 1) W5 (w4.setCell ⟨(w.heap.size + 1 + 1 + 1), 3, none⟩ (.slice va4 (fn + 1) vc4)))) := by
        intro va4 vc4 w3 w4 hb3 ho3 ho4 hb4 hk4 hq4 hz4
        have hs3 := hb3.size
        have hB31 : Below (w.heap.size + 1 + 1 + 1) W w3 := hb3.mono (by omega)
        have hB41 : Below (w.heap.size + 1 + 1 + 1) w3 w4 := hb4.mono (by omega)
        have hBW : Below (w.heap.size + 1 + 1 + 1) W (w4.setCell ⟨(w.heap.size + 1 + 1 + 1), 3, none⟩ (.slice va4 (fn + 1) vc4)) := (hB31.trans hB41).setCell (p := ⟨(w.heap.size + 1 + 1 + 1), 3, none⟩) (Nat.le_refl _) _
        have hbF : (w4.setCell ⟨(w.heap.size + 1 + 1 + 1), 3, none⟩ (.slice va4 (fn + 1) vc4)).heap[(w.heap.size + 1 + 1 + 1 + 1 + 1)]? = W.heap[(w.heap.size + 1 + 1 + 1 + 1 + 1)]? := by
          rw [Below.heap_setCell _ _ _ _ (by dsimp only; omega), hb4.block (w.heap.size + 1 + 1 + 1 + 1 + 1) (by omega), hb3.block (w.heap.size + 1 + 1 + 1 + 1 + 1) (by omega)]
        refine ⟨⟨by simp; omega, fun k o hBk hk ho => ?_⟩, ⟨hBW, hbF⟩, ⟨⟨⟨va4, vc4, ?_, ?_⟩, (show _ = _ from hbF).trans HBF.out⟩, HBl.out.trans hBW⟩⟩
        · have hkW : k < W.heap.size := (Array.getElem?_eq_some_iff.1 hk).1
          have hk3 : w3.heap[k]? = some o := (hb3.block k hkW).trans hk
          rw [Below.heap_setCell _ _ _ _ (by dsimp only; omega), hk4 k (by omega) (fun e => ?_)]
          · exact hk3
          · obtain ⟨c, t', hc⟩ := own_cells ho3 e
            rw [hc] at hk3; cases hk3; cases ho
        · rw [heap_set hq4, HPE.out, List.length_append, HFL.out]; simp
        · rw [HPE.out, List.length_append, HFL.out]
          exact Own.mono (Own.keep ho4 (fun b h1 h2 => Below.heap_setCell _ _ _ _ (by dsimp only; omega))) (Nat.le_refl _) (by simp)
      refine wpIn_block ?_
      refine region_round lr (by kernel_rfl) (fun o ho => by
        simp only [List.mem_cons, List.not_mem_nil, or_false] at ho
        rcases ho with rfl | rfl | rfl | rfl | rfl | rfl | rfl | rfl <;> (intro c h; cases h)) ?_
      refine wpAnyIn_take (i := 0) (v := .pointer (some ⟨(w.heap.size + 1 + 1 + 1), 3, none⟩)) rfl rfl (by kernel_rfl) (by kernel_rfl) (by kernel_rfl) (fun _ _ _ h => h) ⟨Or.inl ⟨by rfl, ?_⟩, fun _ => rfl⟩ ?_
      · intro wq
        go_simp
      simp only [Act.put, List.setIfInBounds_toArray]
      refine wpAnyIn_ready (rs := [1, 2]) (by kernel_rfl) (by simp) ?_
      refine AllReadyIn.cons rfl (fun K hK => ?_) ?_
      · go_simp
        refine hK _ _ ?_
        clear hK K
        refine wpAnyIn_ready (rs := [2]) (by kernel_rfl) (by simp) ?_
        refine AllReadyIn.cons rfl (fun K hK => ?_) ?_
        · go_simp
          refine hK _ _ ?_
          clear hK K
          refine wpAnyIn_ready (rs := [3]) (by kernel_rfl) (by simp) ?_
          refine AllReadyIn.cons rfl (fun K hK => ?_) ?_
          · go_simp
            (first | refine ⟨trivial, ?_⟩ | skip)
            refine (callsIn_wide.2 (HCF.out _ (HBw.out.drew))).mono ?_
            rintro e w3 ⟨b3, c3, rfl, ho3, hb3⟩
            have hbb : Below W.heap.size W w3 := (Below.drew (Below.refl _ _)).trans hb3
            have z3' : W.heap.size ≤ w3.heap.size := hbb.size
            have HE3 : Hid (Own w3 W.heap.size w3.heap.size shFlight (z0, z1, d, z3, z4, ()) [.int .i64 z0, .int .i64 z1, .slice b3 m c3, .int .i64 z3, .int .i64 z4]) := ho3
            have HO3 : Hid (Own w3 (w.heap.size + 1 + 1 + 1 + 1 + 1 + 1) W.heap.size shFlights FL [.slice va fn vc]) := HO.out.below (Nat.le_refl _) hbb
            replace kA := boxB kA hbb hAW
            have hA3 : (w.heap.size + 1 + 1 + 1) < w3.heap.size := Nat.lt_of_lt_of_le hAW z3'
            have hqA3 : Hid _ := (hbb.block (w.heap.size + 1 + 1 + 1) hAW).trans hqA.out
            have HB3 : Hid _ := hbb
            clear ho3 hb3 hbb
            refine hK _ _ ?_
            clear hK K
            refine wpAnyIn_ready (rs := [4]) (by kernel_rfl) (by simp) ?_
            refine AllReadyIn.cons rfl (fun K hK => ?_) ?_
            · go_simp
              refine hK _ _ ?_
              clear hK K
              refine wpAnyIn_ready (rs := [5]) (by kernel_rfl) (by simp) ?_
              refine AllReadyIn.cons rfl (fun K hK => ?_) ?_
              · refine app_elem_in w3 (by rfl) _ _ 55 118 (by rfl) shFlight (.agg #[.int .i64 0, .int .i64 0, .slice none 0 0, .int .i64 0, .int .i64 0]) 56 Try.underlying55 info_FlightS rfl (by decide) (by decide) (w.heap.size + 1 + 1 + 1 + 1 + 1 + 1) W.heap.size W.heap.size w3.heap.size FL (.slice va fn vc) (by rfl) w3.heap.size rfl (by rfl) HO3.out (z0, z1, d, z3, z4, ()) [.int .i64 z0, .int .i64 z1, .slice b3 m c3, .int .i64 z3, .int .i64 z4] HE3.out hLW (Nat.le_refl _) (Nat.le_refl _) HFN.out (by omega) ?_
                intro v4 w4 ho4 hb4 hk4 hs4
                obtain ⟨va4, vc4, hv4⟩ := row_form (ho4.rd (Nat.le_refl _))
                simp only [List.cons.injEq, and_true, List.length_append, List.length_cons, List.length_nil, HFL.out] at hv4
                subst hv4
                have hqA4 : Hid _ := (hk4 (w.heap.size + 1 + 1 + 1) (by omega) (fun e => by have := (HO3.out.blk e).1; omega)).trans hqA3.out
                have HO4 : Hid (Own w4 (w.heap.size + 1 + 1 + 1 + 1 + 1 + 1) w4.heap.size shFlights (FL ++ [(z0, z1, d, z3, z4, ())]) [.slice va4 (fn + 1) vc4]) := ho4
                have HB4 : Hid _ := hb4
                have HK4 : Hid _ := hk4
                replace kA : ∀ o, w4.cell? ⟨(w.heap.size + 1 + 1 + 1), o, none⟩ = (#[.int .i64 y0, .int .i64 y1, .int .i64 y2, .slice va fn vc] : Array Value)[o]? := fun o => cell_of_heap hqA4.out o
                have fA : ∀ o, w4.frozen? ⟨(w.heap.size + 1 + 1 + 1), o, none⟩ = false := fun o => by simp [World.frozen?, hqA4.out]
                have z4' : w3.heap.size < w4.heap.size := hs4
                clear ho4 hb4 hk4 hs4
                refine hK _ _ ?_
                clear hK K
                refine wpAnyIn_ready (rs := [6]) (by kernel_rfl) (by simp) ?_
                refine AllReadyIn.cons rfl (fun K hK => ?_) ?_
                · go_simp
                  refine hK _ _ ?_
                  clear hK K
                  refine wpAnyIn_ready (rs := [7]) (by kernel_rfl) (by simp) ?_
                  refine AllReadyIn.cons rfl (fun K hK => ?_) ?_
                  · go_simp
                    refine hK _ _ ?_
                    clear hK K
                    refine wpAnyIn_done (by kernel_rfl) ?_ _
                    exact HEND.out va4 vc4 w3 w4 HB3.out HO3.out HO4.out HB4.out HK4.out hqA4.out z4'
                  exact AllReadyIn.nil
                exact AllReadyIn.nil
              exact AllReadyIn.nil
            exact AllReadyIn.nil
          exact AllReadyIn.nil
        exact AllReadyIn.nil
      refine AllReadyIn.cons rfl (fun K hK => ?_) ?_
      · go_simp
        refine hK _ _ ?_
        clear hK K
        refine wpAnyIn_ready (rs := [1, 3]) (by kernel_rfl) (by simp) ?_
        refine AllReadyIn.cons rfl (fun K hK => ?_) ?_
        · go_simp
          refine hK _ _ ?_
          clear hK K
          refine wpAnyIn_ready (rs := [3]) (by kernel_rfl) (by simp) ?_
          refine AllReadyIn.cons rfl (fun K hK => ?_) ?_
          · go_simp
            (first | refine ⟨trivial, ?_⟩ | skip)
            refine (callsIn_wide.2 (HCF.out _ (HBw.out.drew))).mono ?_
            rintro e w3 ⟨b3, c3, rfl, ho3, hb3⟩
            have hbb : Below W.heap.size W w3 := (Below.drew (Below.refl _ _)).trans hb3
            have z3' : W.heap.size ≤ w3.heap.size := hbb.size
            have HE3 : Hid (Own w3 W.heap.size w3.heap.size shFlight (z0, z1, d, z3, z4, ()) [.int .i64 z0, .int .i64 z1, .slice b3 m c3, .int .i64 z3, .int .i64 z4]) := ho3
            have HO3 : Hid (Own w3 (w.heap.size + 1 + 1 + 1 + 1 + 1 + 1) W.heap.size shFlights FL [.slice va fn vc]) := HO.out.below (Nat.le_refl _) hbb
            replace kA := boxB kA hbb hAW
            have hA3 : (w.heap.size + 1 + 1 + 1) < w3.heap.size := Nat.lt_of_lt_of_le hAW z3'
            have hqA3 : Hid _ := (hbb.block (w.heap.size + 1 + 1 + 1) hAW).trans hqA.out
            have HB3 : Hid _ := hbb
            clear ho3 hb3 hbb
            refine hK _ _ ?_
            clear hK K
            refine wpAnyIn_ready (rs := [4]) (by kernel_rfl) (by simp) ?_
            refine AllReadyIn.cons rfl (fun K hK => ?_) ?_
            · go_simp
              refine hK _ _ ?_
              clear hK K
              refine wpAnyIn_ready (rs := [5]) (by kernel_rfl) (by simp) ?_
              refine AllReadyIn.cons rfl (fun K hK => ?_) ?_
              · refine app_elem_in w3 (by rfl) _ _ 55 118 (by rfl) shFlight (.agg #[.int .i64 0, .int .i64 0, .slice none 0 0, .int .i64 0, .int .i64 0]) 56 Try.underlying55 info_FlightS rfl (by decide) (by decide) (w.heap.size + 1 + 1 + 1 + 1 + 1 + 1) W.heap.size W.heap.size w3.heap.size FL (.slice va fn vc) (by rfl) w3.heap.size rfl (by rfl) HO3.out (z0, z1, d, z3, z4, ()) [.int .i64 z0, .int .i64 z1, .slice b3 m c3, .int .i64 z3, .int .i64 z4] HE3.out hLW (Nat.le_refl _) (Nat.le_refl _) HFN.out (by omega) ?_
                intro v4 w4 ho4 hb4 hk4 hs4
                obtain ⟨va4, vc4, hv4⟩ := row_form (ho4.rd (Nat.le_refl _))
                simp only [List.cons.injEq, and_true, List.length_append, List.length_cons, List.length_nil, HFL.out] at hv4
                subst hv4
                have hqA4 : Hid _ := (hk4 (w.heap.size + 1 + 1 + 1) (by omega) (fun e => by have := (HO3.out.blk e).1; omega)).trans hqA3.out
                have HO4 : Hid (Own w4 (w.heap.size + 1 + 1 + 1 + 1 + 1 + 1) w4.heap.size shFlights (FL ++ [(z0, z1, d, z3, z4, ())]) [.slice va4 (fn + 1) vc4]) := ho4
                have HB4 : Hid _ := hb4
                have HK4 : Hid _ := hk4
                replace kA : ∀ o, w4.cell? ⟨(w.heap.size + 1 + 1 + 1), o, none⟩ = (#[.int .i64 y0, .int .i64 y1, .int .i64 y2, .slice va fn vc] : Array Value)[o]? := fun o => cell_of_heap hqA4.out o
                have fA : ∀ o, w4.frozen? ⟨(w.heap.size + 1 + 1 + 1), o, none⟩ = false := fun o => by simp [World.frozen?, hqA4.out]
                have z4' : w3.heap.size < w4.heap.size := hs4
                clear ho4 hb4 hk4 hs4
                refine hK _ _ ?_
                clear hK K
                refine wpAnyIn_ready (rs := [6]) (by kernel_rfl) (by simp) ?_
                refine AllReadyIn.cons rfl (fun K hK => ?_) ?_
                · go_simp
                  refine hK _ _ ?_
                  clear hK K
                  refine wpAnyIn_ready (rs := [7]) (by kernel_rfl) (by simp) ?_
                  refine AllReadyIn.cons rfl (fun K hK => ?_) ?_
                  · go_simp
                    refine hK _ _ ?_
                    clear hK K
                    refine wpAnyIn_done (by kernel_rfl) ?_ _
                    exact HEND.out va4 vc4 w3 w4 HB3.out HO3.out HO4.out HB4.out HK4.out hqA4.out z4'
                  exact AllReadyIn.nil
                exact AllReadyIn.nil
              exact AllReadyIn.nil
            exact AllReadyIn.nil
          exact AllReadyIn.nil
        refine AllReadyIn.cons rfl (fun K hK => ?_) ?_
        · go_simp
          (first | refine ⟨trivial, ?_⟩ | skip)
          refine (callsIn_wide.2 (HCF.out _ (HBw.out.drew))).mono ?_
          rintro e w3 ⟨b3, c3, rfl, ho3, hb3⟩
          have hbb : Below W.heap.size W w3 := (Below.drew (Below.refl _ _)).trans hb3
          have z3' : W.heap.size ≤ w3.heap.size := hbb.size
          have HE3 : Hid (Own w3 W.heap.size w3.heap.size shFlight (z0, z1, d, z3, z4, ()) [.int .i64 z0, .int .i64 z1, .slice b3 m c3, .int .i64 z3, .int .i64 z4]) := ho3
          have HO3 : Hid (Own w3 (w.heap.size + 1 + 1 + 1 + 1 + 1 + 1) W.heap.size shFlights FL [.slice va fn vc]) := HO.out.below (Nat.le_refl _) hbb
          replace kA := boxB kA hbb hAW
          have hA3 : (w.heap.size + 1 + 1 + 1) < w3.heap.size := Nat.lt_of_lt_of_le hAW z3'
          have hqA3 : Hid _ := (hbb.block (w.heap.size + 1 + 1 + 1) hAW).trans hqA.out
          have HB3 : Hid _ := hbb
          clear ho3 hb3 hbb
          refine hK _ _ ?_
          clear hK K
          refine wpAnyIn_ready (rs := [1, 4]) (by kernel_rfl) (by simp) ?_
          refine AllReadyIn.cons rfl (fun K hK => ?_) ?_
          · go_simp
            refine hK _ _ ?_
            clear hK K
            refine wpAnyIn_ready (rs := [4]) (by kernel_rfl) (by simp) ?_
            refine AllReadyIn.cons rfl (fun K hK => ?_) ?_
            · go_simp
              refine hK _ _ ?_
              clear hK K
              refine wpAnyIn_ready (rs := [5]) (by kernel_rfl) (by simp) ?_
              refine AllReadyIn.cons rfl (fun K hK => ?_) ?_
              · refine app_elem_in w3 (by rfl) _ _ 55 118 (by rfl) shFlight (.agg #[.int .i64 0, .int .i64 0, .slice none 0 0, .int .i64 0, .int .i64 0]) 56 Try.underlying55 info_FlightS rfl (by decide) (by decide) (w.heap.size + 1 + 1 + 1 + 1 + 1 + 1) W.heap.size W.heap.size w3.heap.size FL (.slice va fn vc) (by rfl) w3.heap.size rfl (by rfl) HO3.out (z0, z1, d, z3, z4, ()) [.int .i64 z0, .int .i64 z1, .slice b3 m c3, .int .i64 z3, .int .i64 z4] HE3.out hLW (Nat.le_refl _) (Nat.le_refl _) HFN.out (by omega) ?_
                intro v4 w4 ho4 hb4 hk4 hs4
                obtain ⟨va4, vc4, hv4⟩ := row_form (ho4.rd (Nat.le_refl _))
                simp only [List.cons.injEq, and_true, List.length_append, List.length_cons, List.length_nil, HFL.out] at hv4
                subst hv4
                have hqA4 : Hid _ := (hk4 (w.heap.size + 1 + 1 + 1) (by omega) (fun e => by have := (HO3.out.blk e).1; omega)).trans hqA3.out
                have HO4 : Hid (Own w4 (w.heap.size + 1 + 1 + 1 + 1 + 1 + 1) w4.heap.size shFlights (FL ++ [(z0, z1, d, z3, z4, ())]) [.slice va4 (fn + 1) vc4]) := ho4
                have HB4 : Hid _ := hb4
                have HK4 : Hid _ := hk4
                replace kA : ∀ o, w4.cell? ⟨(w.heap.size + 1 + 1 + 1), o, none⟩ = (#[.int .i64 y0, .int .i64 y1, .int .i64 y2, .slice va fn vc] : Array Value)[o]? := fun o => cell_of_heap hqA4.out o
                have fA : ∀ o, w4.frozen? ⟨(w.heap.size + 1 + 1 + 1), o, none⟩ = false := fun o => by simp [World.frozen?, hqA4.out]
                have z4' : w3.heap.size < w4.heap.size := hs4
                clear ho4 hb4 hk4 hs4
                refine hK _ _ ?_
                clear hK K
                refine wpAnyIn_ready (rs := [6]) (by kernel_rfl) (by simp) ?_
                refine AllReadyIn.cons rfl (fun K hK => ?_) ?_
                · go_simp
                  refine hK _ _ ?_
                  clear hK K
                  refine wpAnyIn_ready (rs := [7]) (by kernel_rfl) (by simp) ?_
                  refine AllReadyIn.cons rfl (fun K hK => ?_) ?_
                  · go_simp
                    refine hK _ _ ?_
                    clear hK K
                    refine wpAnyIn_done (by kernel_rfl) ?_ _
                    exact HEND.out va4 vc4 w3 w4 HB3.out HO3.out HO4.out HB4.out HK4.out hqA4.out z4'
                  exact AllReadyIn.nil
                exact AllReadyIn.nil
              exact AllReadyIn.nil
            exact AllReadyIn.nil
          refine AllReadyIn.cons rfl (fun K hK => ?_) ?_
          · go_simp
            refine hK _ _ ?_
            clear hK K
            refine wpAnyIn_ready (rs := [1]) (by kernel_rfl) (by simp) ?_
            refine AllReadyIn.cons rfl (fun K hK => ?_) ?_
            · go_simp
              refine hK _ _ ?_
              clear hK K
              refine wpAnyIn_ready (rs := [5]) (by kernel_rfl) (by simp) ?_
              refine AllReadyIn.cons rfl (fun K hK => ?_) ?_
              · refine app_elem_in w3 (by rfl) _ _ 55 118 (by rfl) shFlight (.agg #[.int .i64 0, .int .i64 0, .slice none 0 0, .int .i64 0, .int .i64 0]) 56 Try.underlying55 info_FlightS rfl (by decide) (by decide) (w.heap.size + 1 + 1 + 1 + 1 + 1 + 1) W.heap.size W.heap.size w3.heap.size FL (.slice va fn vc) (by rfl) w3.heap.size rfl (by rfl) HO3.out (z0, z1, d, z3, z4, ()) [.int .i64 z0, .int .i64 z1, .slice b3 m c3, .int .i64 z3, .int .i64 z4] HE3.out hLW (Nat.le_refl _) (Nat.le_refl _) HFN.out (by omega) ?_
                intro v4 w4 ho4 hb4 hk4 hs4
                obtain ⟨va4, vc4, hv4⟩ := row_form (ho4.rd (Nat.le_refl _))
                simp only [List.cons.injEq, and_true, List.length_append, List.length_cons, List.length_nil, HFL.out] at hv4
                subst hv4
                have hqA4 : Hid _ := (hk4 (w.heap.size + 1 + 1 + 1) (by omega) (fun e => by have := (HO3.out.blk e).1; omega)).trans hqA3.out
                have HO4 : Hid (Own w4 (w.heap.size + 1 + 1 + 1 + 1 + 1 + 1) w4.heap.size shFlights (FL ++ [(z0, z1, d, z3, z4, ())]) [.slice va4 (fn + 1) vc4]) := ho4
                have HB4 : Hid _ := hb4
                have HK4 : Hid _ := hk4
                replace kA : ∀ o, w4.cell? ⟨(w.heap.size + 1 + 1 + 1), o, none⟩ = (#[.int .i64 y0, .int .i64 y1, .int .i64 y2, .slice va fn vc] : Array Value)[o]? := fun o => cell_of_heap hqA4.out o
                have fA : ∀ o, w4.frozen? ⟨(w.heap.size + 1 + 1 + 1), o, none⟩ = false := fun o => by simp [World.frozen?, hqA4.out]
                have z4' : w3.heap.size < w4.heap.size := hs4
                clear ho4 hb4 hk4 hs4
                refine hK _ _ ?_
                clear hK K
                refine wpAnyIn_ready (rs := [6]) (by kernel_rfl) (by simp) ?_
                refine AllReadyIn.cons rfl (fun K hK => ?_) ?_
                · go_simp
                  refine hK _ _ ?_
                  clear hK K
                  refine wpAnyIn_ready (rs := [7]) (by kernel_rfl) (by simp) ?_
                  refine AllReadyIn.cons rfl (fun K hK => ?_) ?_
                  · go_simp
                    refine hK _ _ ?_
                    clear hK K
                    refine wpAnyIn_done (by kernel_rfl) ?_ _
                    exact HEND.out va4 vc4 w3 w4 HB3.out HO3.out HO4.out HB4.out HK4.out hqA4.out z4'
                  exact AllReadyIn.nil
                exact AllReadyIn.nil
              exact AllReadyIn.nil
            exact AllReadyIn.nil
          exact AllReadyIn.nil
        exact AllReadyIn.nil
      exact AllReadyIn.nil
    case done =>
      rintro D ys W hD hys ⟨⟨⟨va, vc, hqa, hO⟩, hbf⟩, hBl⟩ hK
      have hWz := hBl.size
      have hdl : ys.map (fun i => l[i]) = l.filter (ackKeep P) := by
        have h := so_map P l l.length (Nat.le_refl _)
        rw [List.take_length] at h
        rw [hys]; exact h
      rw [hdl] at hqa hO
      have kA : ∀ o, W.cell? ⟨(w.heap.size + 1 + 1 + 1), o, none⟩ = (#[.int .i64 y0, .int .i64 y1, .int .i64 y2, .slice va (l.filter (ackKeep P)).length vc] : Array Value)[o]? := fun o => cell_of_heap hqa o
      have kR' : ∀ o, W.cell? ⟨w.heap.size + 1 + 1, o, none⟩ = (#[.int .i64 0, .int .i64 0, .int .i64 0, .slice none 0 0] : Array Value)[o]? := fun o => (hBl.cell (p := ⟨w.heap.size + 1 + 1, o, none⟩) (by dsimp only; omega)).trans (kR o)
      have fR' : ∀ o, W.frozen? ⟨w.heap.size + 1 + 1, o, none⟩ = false := fun o => (hBl.frozen (p := ⟨w.heap.size + 1 + 1, o, none⟩) (by dsimp only; omega)).trans (fR o)
      have HO : Hid _ := hO
      have HBw : Hid (Below w.heap.size w W) := hB5.trans (hBl.mono (by omega))
      clear hqa hO hbf hBl hys hdl kR fR
      generalize (l.filter (ackKeep P)).length = fn at *
      gi_wp2
      have kX := bx_four (u0 := .int .i64 y0) (u1 := .int .i64 y1) (u2 := .int .i64 y2) (u3 := .slice va fn vc) kR'
      have HX : Hid (Own ((((W.setCell ⟨w.heap.size + 1 + 1, 0, none⟩ (.int .i64 y0)).setCell ⟨w.heap.size + 1 + 1, 1, none⟩ (.int .i64 y1)).setCell ⟨w.heap.size + 1 + 1, 2, none⟩ (.int .i64 y2)).setCell ⟨w.heap.size + 1 + 1, 3, none⟩ (.slice va fn vc)) (w.heap.size + 1 + 1 + 1 + 1 + 1 + 1) W.heap.size shFlights (l.filter (ackKeep P)) [.slice va fn vc]) := Own.keep HO.out (fun b h1 h2 => by repeat rw [Below.heap_setCell _ _ _ _ (by dsimp only; omega)])
      have hBX : Below w.heap.size w ((((W.setCell ⟨w.heap.size + 1 + 1, 0, none⟩ (.int .i64 y0)).setCell ⟨w.heap.size + 1 + 1, 1, none⟩ (.int .i64 y1)).setCell ⟨w.heap.size + 1 + 1, 2, none⟩ (.int .i64 y2)).setCell ⟨w.heap.size + 1 + 1, 3, none⟩ (.slice va fn vc)) := (((HBw.out.setCell (by dsimp only; omega) _).setCell (by dsimp only; omega) _).setCell (by dsimp only; omega) _).setCell (by dsimp only; omega) _
      have hK' := ((((KeepsOthers.setCell W ⟨w.heap.size + 1 + 1, 0, none⟩ (.int .i64 y0)).trans (KeepsOthers.setCell _ ⟨w.heap.size + 1 + 1, 1, none⟩ (.int .i64 y1))).trans (KeepsOthers.setCell _ ⟨w.heap.size + 1 + 1, 2, none⟩ (.int .i64 y2))).trans (KeepsOthers.setCell _ ⟨w.heap.size + 1 + 1, 3, none⟩ (.slice va fn vc))).same D _ hK rfl
      have hXz : W.heap.size = ((((W.setCell ⟨w.heap.size + 1 + 1, 0, none⟩ (.int .i64 y0)).setCell ⟨w.heap.size + 1 + 1, 1, none⟩ (.int .i64 y1)).setCell ⟨w.heap.size + 1 + 1, 2, none⟩ (.int .i64 y2)).setCell ⟨w.heap.size + 1 + 1, 3, none⟩ (.slice va fn vc)).heap.size := by simp
      generalize ((((W.setCell ⟨w.heap.size + 1 + 1, 0, none⟩ (.int .i64 y0)).setCell ⟨w.heap.size + 1 + 1, 1, none⟩ (.int .i64 y1)).setCell ⟨w.heap.size + 1 + 1, 2, none⟩ (.int .i64 y2)).setCell ⟨w.heap.size + 1 + 1, 3, none⟩ (.slice va fn vc)) = X at *
      rw [hXz] at HX
      refine ⟨by simp, .inl ⟨_, _, rfl, run_takeDeferred hK', ?_⟩⟩
      have kP : ∀ o, (X.putObj D (.deferred none)).cell? ⟨w.heap.size + 1 + 1, o, none⟩ = (#[.int .i64 y0, .int .i64 y1, .int .i64 y2, .slice va fn vc] : Array Value)[o]? := fun o => (World.cell?_of_block (w := X) (a := ⟨w.heap.size + 1 + 1, o, none⟩) ((grownBy_putObj' X D (.deferred none)).block _ (by dsimp only; omega) (fun e => by simp at e; omega))).trans (kX o)
      refine ⟨.agg #[.int .i64 y0, .int .i64 y1, .int .i64 y2, .slice va fn vc], by simp [results, Try.results139, go_sem, kP], _, rfl, ?_, hBX.trans (belowK_b (w := w) (Nat.le_refl _) X D _ _ (by omega) hK' rfl rfl)⟩
      exact Own.mono (own_grown HX.out (grownBy_putObj' X D (.deferred none)) (fun r e => by cases e; exact ⟨_, hK', rfl⟩)) (by omega) (Nat.le_refl _)
    case stop =>
      rintro D c pre W _ _ h _
      exact h.elim
end Go.Proofs.Ytebgibjokljlbaa
