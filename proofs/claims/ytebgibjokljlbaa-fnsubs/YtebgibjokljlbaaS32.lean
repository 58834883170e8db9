/- What the program makes of a sender that is told up to where all came; nothing that was in memory turns; no condition but that loads are of at most a million bytes. -/
import Derived.RangeFuncNested
import Derived.RangeFuncBound
import Derived.RangeFuncCalls
import Derived.RangeFuncLeaves
import Derived.RangeFuncBox
import Derived.Shelf.Abstract
import Derived.Shelf.RegionOpen
import Derived.WalkKit
import Derived.OwnWalkIn
import Derived.TacticsInMore
import Derived.LoopNIn
import Derived.LoopIn
import Derived.Maps.AppendAt
import Derived.Deep.RegionHeld3
import Derived.Deep.RegionLaw
import Derived.Test.YtebgibjokljlbaaRows
import Derived.Test.YtebgibjokljlbaaS01
import Derived.Test.YtebgibjokljlbaaS03
import Derived.Test.YtebgibjokljlbaaS04
import Derived.Test.YtebgibjokljlbaaS05
import Derived.Test.YtebgibjokljlbaaS06
import Derived.Test.YtebgibjokljlbaaS20
import Derived.Test.YtebgibjokljlbaaS25
import Derived.Test.YtebgibjokljlbaaS29
import Derived.Test.YtebgibjokljlbaaS31
namespace Go.Proofs.Ytebgibjokljlbaa
open Go.RowKit Go.Shelf
set_option linter.unusedVariables false
attribute [local go_sem] Oper.semAt_some
set_option maxHeartbeats 2000000 in
theorem iKeep1 (z0 z1 z3 z4 : Int) (va : Option Addr) (vn vc pb : Nat) (P : Int) (w : World) (cp : w.cell? ⟨pb, 0, none⟩ = some (.int .i64 P)) (h0 : 0 ≤ z0) (h1 : z0 ≤ 1000000) (hn : vn ≤ 8) :
    Calls Try.prog 153 #[.agg #[.int .i64 z0, .int .i64 z1, .slice va vn vc, .int .i64 z3, .int .i64 z4], .pointer (some ⟨pb, 0, none⟩)] w fun e w' => e = .returned (.bool (decide (P < z0 + (vn : Int)))) ∧ Below w.heap.size w w' := by
  have l1 := cell_lt cp
  go_enter Try.func153, Try.ntmps153
  go_upto_region 1 with fail
  obtain ⟨V, hV⟩ : ∃ V, V = w.alloc (.cells #[.int .i64 z0, .int .i64 z1, .slice va vn vc, .int .i64 z3, .int .i64 z4] 118) := ⟨_, rfl⟩
  rw [← hV]
  have hb : Below w.heap.size w V := by rw [hV]; exact (Below.refl _ _).alloc (Nat.le_refl _) _
  have cp' := (hb.cell (p := ⟨pb, 0, none⟩) l1).trans cp
  have k5 : ∀ o, V.cell? ⟨w.heap.size, o, none⟩ = (#[.int .i64 z0, .int .i64 z1, .slice va vn vc, .int .i64 z3, .int .i64 z4] : Array Value)[o]? := fun o => by rw [hV]; simp [go_sem]
  have q0 := k5 0
  have q1 := k5 1
  have q2 := k5 2
  have q3 := k5 3
  have q4 := k5 4
  simp only [List.getElem?_toArray, List.getElem?_cons_succ, List.getElem?_cons_zero] at q0 q1 q2 q3 q4
  have hVz : V.heap.size = w.heap.size + 1 := by rw [hV]; simp
  have HB : Hid _ := hb
  clear hV hb cp k5
  go_region_held3 (fun w' => w'.cell? ⟨w.heap.size, 0, none⟩ = some (.int .i64 z0) ∧ w'.cell? ⟨w.heap.size, 1, none⟩ = some (.int .i64 z1) ∧ w'.cell? ⟨w.heap.size, 2, none⟩ = some (.slice va vn vc) ∧ w'.cell? ⟨w.heap.size, 3, none⟩ = some (.int .i64 z3) ∧ w'.cell? ⟨w.heap.size, 4, none⟩ = some (.int .i64 z4) ∧ w'.cell? ⟨pb, 0, none⟩ = some (.int .i64 P)) (first | go_keep) ((first | (go_at_call 127; refine (iFlEnd _ _ _ _ _ _ _ _ (by omega) (by omega) (by omega)).mono ?_; rintro e w2 ⟨rfl, hb2⟩; have HB2 : Hid (Below V.heap.size V w2) := (Below.drew (Below.refl _ _)).trans hb2; have r0 := (HB2.out.cell (p := ⟨w.heap.size, 0, none⟩) (by dsimp only; omega)).trans q0; have r1 := (HB2.out.cell (p := ⟨w.heap.size, 1, none⟩) (by dsimp only; omega)).trans q1; have r2 := (HB2.out.cell (p := ⟨w.heap.size, 2, none⟩) (by dsimp only; omega)).trans q2; have r3 := (HB2.out.cell (p := ⟨w.heap.size, 3, none⟩) (by dsimp only; omega)).trans q3; have r4 := (HB2.out.cell (p := ⟨w.heap.size, 4, none⟩) (by dsimp only; omega)).trans q4; have r5 := (HB2.out.cell (p := ⟨pb, 0, none⟩) (by dsimp only at l1 ⊢; omega)).trans cp'; clear hb2)))
  all_goals (go_wp2_with fail; go_ret; exact ⟨rfl, HB.out.trans (HB2.out.mono (by omega))⟩)
set_option maxHeartbeats 2000000 in
theorem iCut1 (z0 z1 z3 z4 : Int) (va : Option Addr) (vn vc rb : Nat) (P : Int) (w : World) (cp : w.cell? ⟨rb, 1, none⟩ = some (.int .i64 P)) (h0 : 0 ≤ z0) (h1 : z0 ≤ 1000000) (hn : vn ≤ 8) :
    Calls Try.prog 138 #[.agg #[.int .i64 z0, .int .i64 z1, .slice va vn vc, .int .i64 z3, .int .i64 z4], .pointer (some ⟨rb, 0, none⟩)] w fun e w' => e = .returned (.bool (decide (z0 < P) && decide (P < z0 + (vn : Int)))) ∧ Below w.heap.size w w' := by
  have l1 := cell_lt cp
  by_cases hz : z0 < P
  · have hz2 := hz
    go_enter Try.func138, Try.ntmps138
    go_upto_region 1 with fail
    obtain ⟨V, hV⟩ : ∃ V, V = w.alloc (.cells #[.int .i64 z0, .int .i64 z1, .slice va vn vc, .int .i64 z3, .int .i64 z4] 118) := ⟨_, rfl⟩
    rw [← hV]
    have hb : Below w.heap.size w V := by rw [hV]; exact (Below.refl _ _).alloc (Nat.le_refl _) _
    have cp' := (hb.cell (p := ⟨rb, 1, none⟩) l1).trans cp
    have k5 : ∀ o, V.cell? ⟨w.heap.size, o, none⟩ = (#[.int .i64 z0, .int .i64 z1, .slice va vn vc, .int .i64 z3, .int .i64 z4] : Array Value)[o]? := fun o => by rw [hV]; simp [go_sem]
    have q0 := k5 0
    have q1 := k5 1
    have q2 := k5 2
    have q3 := k5 3
    have q4 := k5 4
    simp only [List.getElem?_toArray, List.getElem?_cons_succ, List.getElem?_cons_zero] at q0 q1 q2 q3 q4
    have hVz : V.heap.size = w.heap.size + 1 := by rw [hV]; simp
    have HB : Hid _ := hb
    clear hV hb cp k5
    go_region_held3 (fun w' => w'.cell? ⟨w.heap.size, 0, none⟩ = some (.int .i64 z0) ∧ w'.cell? ⟨w.heap.size, 1, none⟩ = some (.int .i64 z1) ∧ w'.cell? ⟨w.heap.size, 2, none⟩ = some (.slice va vn vc) ∧ w'.cell? ⟨w.heap.size, 3, none⟩ = some (.int .i64 z3) ∧ w'.cell? ⟨w.heap.size, 4, none⟩ = some (.int .i64 z4) ∧ w'.cell? ⟨rb, 1, none⟩ = some (.int .i64 P)) (first | go_keep) ((first | (go_at_call 127; refine (iFlEnd _ _ _ _ _ _ _ _ (by omega) (by omega) (by omega)).mono ?_; rintro e w2 ⟨rfl, hb2⟩; have HB2 : Hid (Below V.heap.size V w2) := (Below.drew (Below.refl _ _)).trans hb2; have r0 := (HB2.out.cell (p := ⟨w.heap.size, 0, none⟩) (by dsimp only; omega)).trans q0; have r1 := (HB2.out.cell (p := ⟨w.heap.size, 1, none⟩) (by dsimp only; omega)).trans q1; have r2 := (HB2.out.cell (p := ⟨w.heap.size, 2, none⟩) (by dsimp only; omega)).trans q2; have r3 := (HB2.out.cell (p := ⟨w.heap.size, 3, none⟩) (by dsimp only; omega)).trans q3; have r4 := (HB2.out.cell (p := ⟨w.heap.size, 4, none⟩) (by dsimp only; omega)).trans q4; have r5 := (HB2.out.cell (p := ⟨rb, 1, none⟩) (by dsimp only at l1 ⊢; omega)).trans cp'; clear hb2)))
    all_goals (go_wp2_with fail; go_ret; exact ⟨ret_bool (by simp [hz]), HB.out.trans (HB2.out.mono (by omega))⟩)
  · have hz' : decide (z0 < P) = false := decide_eq_false hz
    go_enter Try.func138, Try.ntmps138
    go_upto_region 1 with fail
    obtain ⟨V, hV⟩ : ∃ V, V = w.alloc (.cells #[.int .i64 z0, .int .i64 z1, .slice va vn vc, .int .i64 z3, .int .i64 z4] 118) := ⟨_, rfl⟩
    rw [← hV]
    have hb : Below w.heap.size w V := by rw [hV]; exact (Below.refl _ _).alloc (Nat.le_refl _) _
    have cp' := (hb.cell (p := ⟨rb, 1, none⟩) l1).trans cp
    have k5 : ∀ o, V.cell? ⟨w.heap.size, o, none⟩ = (#[.int .i64 z0, .int .i64 z1, .slice va vn vc, .int .i64 z3, .int .i64 z4] : Array Value)[o]? := fun o => by rw [hV]; simp [go_sem]
    have q0 := k5 0
    have q1 := k5 1
    have q2 := k5 2
    have q3 := k5 3
    have q4 := k5 4
    simp only [List.getElem?_toArray, List.getElem?_cons_succ, List.getElem?_cons_zero] at q0 q1 q2 q3 q4
    have hVz : V.heap.size = w.heap.size + 1 := by rw [hV]; simp
    have HB : Hid _ := hb
    clear hV hb cp k5
    go_region
    all_goals (go_wp2_with fail; go_ret; exact ⟨ret_bool (by simp), HB.out.drew⟩)
theorem so_none {n : Nat} (p : Fin n → Bool) : ∀ k, k ≤ n → soUp p k = [] → ∀ i : Fin n, i.1 < k → p i = false
  | 0, _, _, i, hi => by omega
  | k + 1, h, hs, i, hi => by
    have hk : k < n := by omega
    cases hp : p ⟨k, hk⟩ with
    | true => rw [soUp_yes p hk hp] at hs; simp at hs
    | false =>
      rw [soUp_no p hk hp] at hs
      by_cases he : i.1 = k
      · have : i = ⟨k, hk⟩ := Fin.ext he
        rw [this]; exact hp
      · exact so_none p k (by omega) hs i (by omega)
set_option maxRecDepth 100000 in
set_option maxHeartbeats 4000000 in
theorem iHasOne (a : Option Addr) (len cap : Nat) (hl : len ≤ 1000000) (Z0 Z1 Z3 Z4 : Fin len → Int) (VA : Fin len → Option Addr) (VN VC : Fin len → Nat) (fs : Nat) (eg : ∀ args w, (callFunc fs args).run Try.prog w = .ok (.enter fs args) w) (lb : Array Value) (p : Fin len → Bool) (R : Bool) (w : World)
    (hR1 : R = true → ∃ i, p i = true) (hR2 : R = false → ∀ i, p i = false) (hc : FlCells w w.heap.size a len Z0 Z1 Z3 Z4 VA VN VC)
    (hS : ∀ W' (k : Fin len), Below w.heap.size w W' → Calls Try.prog fs (#[.agg #[.int .i64 (Z0 k), .int .i64 (Z1 k), .slice (VA k) (VN k) (VC k), .int .i64 (Z3 k), .int .i64 (Z4 k)]] ++ lb) W' fun e W'' => e = .returned (.bool (p k)) ∧ Below W'.heap.size W' W'') :
    Calls Try.prog 94 #[.slice a len cap, .func (.func fs) #[] lb] w fun e w' => e = .returned (.bool R) ∧ Below w.heap.size w w' := by
  refine (callsIn_wide (n := 6)).1 ?_
  refine callsIn_of_wp_marks Try.func94 rfl trivial ?_ rfl
  simp only [Try.ntmps94, List.size_toArray, List.length_cons, List.length_nil, Nat.reduceAdd, Nat.reduceSub, Array.replicate_succ, Array.replicate_zero, List.push_toArray, List.append_toArray, List.nil_append, List.cons_append]
  gi_wp2_with (refine ⟨trivial, ?_⟩; gi_at_call 92; refine (those_in _ _ _ _ _ _ _).mono ?_; rintro e w' ⟨rfl, rfl⟩)
  have bO := ((Boxed.new w 4 (.bool false)).alloc (.cells #[.slice a len cap] 134)).alloc (.cells #[.func (.func fs) #[] lb] 131)
  have bL := (Boxed.new (w.alloc (.cells #[.bool false] 4)) 134 (.slice a len cap)).alloc (.cells #[.func (.func fs) #[] lb] 131)
  have bF := Boxed.new ((w.alloc (.cells #[.bool false] 4)).alloc (.cells #[.slice a len cap] 134)) 131 (.func (.func fs) #[] lb)
  rw [World.size_alloc] at bL
  rw [World.size_alloc, World.size_alloc] at bF
  have hB5 : Below w.heap.size w (((w.alloc (.cells #[.bool false] 4)).alloc (.cells #[.slice a len cap] 134)).alloc (.cells #[.func (.func fs) #[] lb] 131)) := (((Below.refl _ w).alloc (Nat.le_refl _) _).alloc (by simp) _).alloc (by simp; omega) _
  obtain ⟨W5, hW5⟩ : ∃ W5, W5 = ((w.alloc (.cells #[.bool false] 4)).alloc (.cells #[.slice a len cap] 134)).alloc (.cells #[.func (.func fs) #[] lb] 131) := ⟨_, rfl⟩
  have hz5 : W5.heap.size = w.heap.size + 1 + 1 + 1 := by rw [hW5]; simp
  rw [← hW5] at bO bL bF hB5 ⊢
  clear hW5
  refine wpIn_rangeFunc_ownG rfl (by decide) (gf := 130) (lb := #[.pointer (some ⟨w.heap.size + 1, 0, none⟩), .pointer (some ⟨w.heap.size + 1 + 1, 0, none⟩)]) rfl trivial (enters_of Try.func130 (by kernel_rfl) rfl)
    (those_stops _ (by decide) (w.heap.size + 1) (w.heap.size + 1 + 1) w.heap.size a len cap hl Z0 Z1 Z3 Z4 VA VN VC fs eg lb p W5 (by omega) (by omega) (by omega) bL.cell bF.cell (hc.below hB5) (fun W' k hW' => callsIn_wide.2 (hS W' k (hB5.trans hW'))))
    KpF.trans (kpF_b (by omega) (by omega)) (Below.refl _ _) (fun _ => rfl)
    (fun pre W => (pre = [] ∧ Boxed W w.heap.size 4 (.bool false)) ∧ Below w.heap.size w W)
    (fun c pre W => (c = .ret ∧ Boxed W w.heap.size 4 (.bool true)) ∧ Below w.heap.size w W)
    (OwnFrom.and (OwnFrom.and (ownFrom_pure _ _) (Go.Own.from (boxed_own _ _ _) _)) (ownFrom_below (Nat.le_refl _) (by omega)))
    (fun c => OwnFrom.and (OwnFrom.and (ownFrom_pure _ _) (Go.Own.from (boxed_own _ _ _) _)) (ownFrom_below (Nat.le_refl _) (by omega)))
    ⟨⟨rfl, bO⟩, hB5⟩ ?a1 ?assign ?body ?done ?stop
  case assign =>
    intro l x W K hK
    gi_wp2
    exact hK
  case body =>
    rintro lr pre x W ⟨⟨hp, hv⟩, hB⟩ hlt
    have hcc := hv.cell
    have hff := hv.frozen
    gi_wp2
    exact ⟨(KeepsOthers.setCell _ _ _).from _, ⟨rfl, hv.set _⟩, hB.setCell (p := ⟨w.heap.size, 0, none⟩) (Nat.le_refl _) _⟩
  case done =>
    rintro D ys W hD hys ⟨⟨hp, hv⟩, hB⟩ hK
    have hcc := hv.cell
    have hff := hv.frozen
    have hR : R = false := by
      cases R with
      | false => rfl
      | true =>
        obtain ⟨i, hi⟩ := hR1 rfl
        have := so_none p len (Nat.le_refl _) (by rw [← hys]; exact hp) i i.2
        rw [this] at hi; cases hi
    subst hR
    gi_wp2
    have hK' := (KeepsOthers.setCell W ⟨w.heap.size, 0, none⟩ (.bool false)).same D _ hK rfl
    refine ⟨by simp, .inl ⟨_, _, rfl, run_takeDeferred hK', ?_⟩⟩
    have hc5 := cell_kept (hv.set (.bool false)).cell (grownBy_putObj' _ D (.deferred none)) (fun r e => by cases e; exact ⟨_, hK', rfl⟩)
    refine ⟨.bool false, by simp [results, Try.results94, go_sem, hc5], rfl, (hB.setCell (p := ⟨w.heap.size, 0, none⟩) (Nat.le_refl _) _).trans (belowK_b (w := w) (Nat.le_refl _) _ D _ _ (by omega) hK' rfl rfl)⟩
  case stop =>
    rintro D c pre W hD ⟨k, hk, hpk, -⟩ ⟨⟨rfl, hv⟩, hB⟩ hK
    have hR : R = true := by
      cases R with
      | true => rfl
      | false => have := hR2 rfl ⟨k, hk⟩; rw [this] at hpk; cases hpk
    subst hR
    gi_wp2
    refine ⟨by simp, .inl ⟨_, _, rfl, run_takeDeferred hK, ?_⟩⟩
    have hc5 := cell_kept hv.cell (grownBy_putObj' _ D (.deferred none)) (fun r e => by cases e; exact ⟨_, hK, rfl⟩)
    refine ⟨.bool true, by simp [results, Try.results94, go_sem, hc5], rfl, hB.trans (belowK_b (w := w) (Nat.le_refl _) W D _ _ (by omega) hK rfl rfl)⟩
theorem uponIn_round {F : Fence} {n : Nat} {P : Program} {o : Oper} {a : Act} {K K' : Act → World → Prop} {Q : Exit → Act → World → Prop} (l : Nat) (hK : ∀ a w, K a w → K' a w) : ∀ r : Result Next, o.uponIn F n P a K Q r → o.uponIn (F.inRound l) n P a K' Q r
  | .ok (.value v) w', h => hK _ _ h
  | .ok .skip w', h => hK _ _ h
  | .ok (.defer d) w', h => hK _ _ h
  | .ok (.enter f args) w', h => ⟨h.1, CallsIn.inRound l (CallsIn.mono h.2 fun e w'' he => by
      cases e with
      | returned v => exact hK _ _ he
      | panicked c => exact he
      | outgrown => exact he)⟩
  | .ok (.row row args) w', h => ⟨h.1, (h.2 : RowsIn F (n - 1) P row args w' _).mono fun v w'' he => hK _ _ he⟩
  | .ok (.round l' f tmps assign body) w', h => ⟨h.1, (h.2 : RoundIn F (n - 1) P l' f tmps assign body w' _).mono fun e w'' he => by
      cases e with
      | returned v => exact hK _ _ he
      | panicked c => exact he
      | outgrown => exact he⟩
  | .halt (.panic v) w', h => h
theorem wpAnyIn_round {F : Fence} {n : Nat} {P : Program} {md : Region.Mode} {ops : Array Oper} {Q : Exit → Act → World → Prop} (l : Nat) (hro : F.round = none) (hd : ∀ (i : Nat) (o : Oper), ops[i]? = some o → ∀ c, o.op ≠ .defer c) : ∀ (fuel : Nat) (listed : Array Bool) (a : Act) (w : World), wpAnyIn F n P md ops Q fuel listed a w → wpAnyIn (F.inRound l) n P md ops Q fuel listed a w
  | 0, _, _, _, h => h
  | fuel + 1, listed, a, w, h => ⟨h.1, fun i hi => by
      have h2 := h.2 i hi
      unfold wpOpIn at h2 ⊢
      cases ho : ops[i]? with
      | none => simp only [ho] at h2 ⊢; exact wpAnyIn_round l hro hd _ _ _ _ h2
      | some o =>
        simp only [ho] at h2 ⊢
        split
        · rename_i hw
          rw [if_pos hw] at h2
          obtain ⟨g1, g2⟩ := h2
          refine ⟨g1, ?_⟩
          rw [hro, Oper.semAt_none] at g2
          show o.uponIn _ _ _ _ _ _ ((o.semAt (some l) a.eval).run P w)
          rw [Oper.semAt_some l _ o (hd i o ho)]
          exact uponIn_round l (fun a w h => wpAnyIn_round l hro hd _ _ _ _ h) _ g2
        · rename_i hw
          rw [if_neg hw] at h2
          exact ⟨h2.1, wpAnyIn_round l hro hd _ _ _ _ h2.2⟩⟩
theorem region_round {n : Nat} {id : Nat} {lo : List Oper} {Q : Exit → Act → World → Prop} {a : Act} {w : World} (l : Nat) (hm : Try.prog.follows .mixedOrders = true) (hd : ∀ o ∈ lo, ∀ c, o.op ≠ .defer c)
    (h : wpAnyIn Fence.wide n Try.prog .any lo.toArray Q lo.toArray.size (Array.replicate lo.toArray.size false) a w.drew) : (Code.region id lo.toArray true).wpIn (Fence.wide.inRound l) n Try.prog Q a w :=
  wpIn_region_any hm (wpAnyIn_round l rfl (fun i o ho => hd o (by simpa using List.mem_of_getElem? (by simpa using ho))) _ _ _ _ h)
theorem app_elem_in {n : Nat} {ops : Array Oper} {o : Oper} {a : Act} {Q : Exit → Act → World → Prop} {K : Act → World → Prop} {E : Prop} (w : World) (hgd : o.guard = none) (s x : Operand) (T t : TypeId) (ho : o.op = .call { callee := .builtin .append, args := #[s, x], argTypes := #[T, T] })
    (e : Sh) (z : Value) (bytes : Nat) (hT : Try.prog.underlying T = some (.slice t)) (hinfo : (Try.prog.info? t).map (fun i => (i.zero, i.size, i.bytes)) = some (some z, e.sz, bytes)) (hzs : z.cells.size = e.sz) (hsz : 0 < e.sz) (hby : bytes ≤ 1000)
    (lo hi lo2 hi2 : Nat) (l : List e.El) (v : Value) (hs : a.eval s = v) (nb : Nat) (hnb : nb = w.heap.size) (hx : a.eval x = .slice (some ⟨nb, 0, none⟩) 1 1) (h : Own w lo hi (.row t e) l [v]) (d : e.El) (cs : List Value) (hd : Own w lo2 hi2 e d cs) (h1 : lo ≤ hi) (h2 : hi ≤ lo2) (h3 : hi2 ≤ w.heap.size) (hn : l.length ≤ 1000000) (hlo : lo ≤ w.heap.size)
    (hK : ∀ v' w', Own w' lo w'.heap.size (.row t e) (l ++ [d]) [v'] → Below lo w w' → (∀ b, b < w.heap.size → v.ownBlock ≠ some b → w'.heap[b]? = w.heap[b]?) → w.heap.size < w'.heap.size → K (a.put o.dst v') w') :
    if Region.wanted o (yielded ops a.tmps) = true then Oper.wpIn Fence.wide n Try.prog o a (w.alloc (.cells cs.toArray t)) K Q else E := by
  subst hnb
  have hw : Region.wanted o (yielded ops a.tmps) = true := by simp [Region.wanted, hgd]
  rw [if_pos hw]
  obtain ⟨v', w', hrun, r1, r2, r3, r4⟩ := run_app_elem T t e z bytes hT hinfo hzs hsz hby o.type w lo hi lo2 hi2 l v h d cs hd h1 h2 h3 (Nat.le_trans hn (by omega)) hlo
  refine ⟨fun f _ => trivial, ?_⟩
  show o.uponIn _ _ _ _ _ _ ((o.semAt none a.eval).run _ _)
  rw [Oper.semAt_none]
  unfold execOp
  simp only [ho, resolve, invoke, builtin, Sem.run_bind, Sem.run_pure, Result.andThen_ok, List.map_toArray, List.map_cons, List.map_nil, hs, hx, hrun]
  exact hK v' w' r1 r2 r3 r4
theorem own_grown {W W' : World} {row : Option Nat} {lo : Nat} {s : Sh} {d : s.El} {cs : List Value} (h : Own W lo W.heap.size s d cs) (hg : W.grownBy W' row) (hr : ∀ r, row = some r → ∃ o : Obj, W.heap[r]? = some o ∧ o.isCells = false) : Own W' lo W'.heap.size s d cs := by
  obtain ⟨bs, h1, h2, h3⟩ := h
  refine ⟨bs, Sh.Ow.keep _ _ _ _ (fun b hb => hg.block b (h3 b hb).2 fun e => ?_) h1, h2, fun b hb => ⟨(h3 b hb).1, Nat.lt_of_lt_of_le (h3 b hb).2 hg.size⟩⟩
  obtain ⟨o, ho, hc⟩ := hr b e.symm
  obtain ⟨c, t', q1, -⟩ := Sh.Ow.ty s bs d cs h1 b hb
  rw [q1] at ho; cases ho; cases hc
theorem blk_grown {W W' : World} {row : Option Nat} {b : Nat} {cs : Array Value} {t : TypeId} (h : W.heap[b]? = some (.cells cs t (0, 0))) (hg : W.grownBy W' row) (hr : ∀ r, row = some r → ∃ o : Obj, W.heap[r]? = some o ∧ o.isCells = false) : W'.heap[b]? = some (.cells cs t (0, 0)) := by
  rw [hg.block b (Array.getElem?_eq_some_iff.1 h).1 fun e => ?_]
  · exact h
  · obtain ⟨o, ho, hc⟩ := hr b e.symm
    rw [h] at ho; cases ho; cases hc
def AckI (y0 y1 M : Int) (A lo : Nat) (fl : List DFlight) (W : World) : Prop := ∃ va vc, W.heap[A]? = some (.cells #[.int .i64 y0, .int .i64 y1, .int .i64 M, .slice va fl.length vc] 57 (0, 0)) ∧ Own W lo W.heap.size shFlights fl [.slice va fl.length vc]
theorem ackI_own {β : Type} (y0 y1 M : Int) (A lo : Nat) (f : β → List DFlight) : Go.Own (fun s W => AckI y0 y1 M A lo (f s) W) := fun s W W' row hs hg hr => by
  obtain ⟨va, vc, h1, h2⟩ := hs
  exact ⟨va, vc, blk_grown h1 hg hr, own_grown h2 hg hr⟩
theorem so_map (p : Int) (l : List DFlight) : ∀ k, k ≤ l.length → (soUp (fun i : Fin l.length => decide (p < l[i].1 + (l[i].2.2.1.length : Int))) k).map (fun i => l[i]) = (l.take k).filter (ackKeep p)
  | 0, _ => by simp [soUp]
  | k + 1, h => by
    have hk : k < l.length := by omega
    rw [List.take_succ_eq_append_getElem hk, List.filter_append, ← so_map p l k (by omega)]
    by_cases hq : p < l[k].1 + (l[k].2.2.1.length : Int)
    · rw [soUp_yes _ hk (by simpa using hq)]; simp [ackKeep, hq]
    · rw [soUp_no _ hk (by simpa using hq)]; simp [ackKeep, hq]
end Go.Proofs.Ytebgibjokljlbaa
