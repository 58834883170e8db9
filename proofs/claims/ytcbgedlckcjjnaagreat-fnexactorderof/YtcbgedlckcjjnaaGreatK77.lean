/- OrderOf of the model; the answer owns its memory; nothing that was there turns; no condition but what a conn without a fault gives. Written by mkord7.py. -/
import Derived.RangeFuncNested
import Derived.RangeFuncBound
import Derived.RangeFuncCalls
import Derived.RangeFuncLeaves
import Derived.RangeFuncBox
import Derived.Shelf.Abstract
import Derived.Shelf.RegionOpen
import Derived.WalkKit
import Derived.OwnWalkIn
import Derived.TacticsInMore
import Derived.LoopNIn
import Derived.LoopIn
import Derived.Maps.AppendAt
import Derived.Deep.MidRow
import Derived.Test.YtcbgedlckcjjnaaGreatRows
import Derived.WalkSmall
import Derived.Deep.RegionHeld3
import Derived.Deep.DeepCutAuto
import Derived.Deep.DeepMust
import Derived.Test.YtcbgedlckcjjnaaGreatK01
import Derived.Test.YtcbgedlckcjjnaaGreatK02
import Derived.Test.YtcbgedlckcjjnaaGreatK03
import Derived.Test.YtcbgedlckcjjnaaGreatK04
import Derived.Test.YtcbgedlckcjjnaaGreatK09
import Derived.Test.YtcbgedlckcjjnaaGreatK10
import Derived.Test.YtcbgedlckcjjnaaGreatK11
import Derived.Test.YtcbgedlckcjjnaaGreatK12
import Derived.Test.YtcbgedlckcjjnaaGreatK13
import Derived.Test.YtcbgedlckcjjnaaGreatK14
import Derived.Test.YtcbgedlckcjjnaaGreatK15
import Derived.Test.YtcbgedlckcjjnaaGreatK16
import Derived.Test.YtcbgedlckcjjnaaGreatK17
import Derived.Test.YtcbgedlckcjjnaaGreatK21
import Derived.Test.YtcbgedlckcjjnaaGreatK28
import Derived.Test.YtcbgedlckcjjnaaGreatK30
import Derived.Test.YtcbgedlckcjjnaaGreatK31
import Derived.Test.YtcbgedlckcjjnaaGreatK33
import Derived.Test.YtcbgedlckcjjnaaGreatK54
import Derived.Test.YtcbgedlckcjjnaaGreatK64
import Derived.Test.YtcbgedlckcjjnaaGreatK73
import Derived.Test.YtcbgedlckcjjnaaGreatK74
import Derived.Test.YtcbgedlckcjjnaaGreatK75
import Derived.Test.YtcbgedlckcjjnaaGreatK76
namespace Go.Proofs.YtcbgedlckcjjnaaGreat
open Go.RowKit
set_option linter.unusedVariables false
set_option maxRecDepth 8000
theorem app_64 {o : Oper} {a : Act} {K : Act → World → Prop} {Q : Exit → Act → World → Prop} {w : World} (s x : Operand)
    (ho : o.op = .call { callee := .builtin .append, args := #[s, x], argTypes := #[30, 30] }) (base : Nat) (v : Value) (n : Nat) (xs : List Value) (hs : a.eval s = v)
    (hown : w.ownsRow base 2 1 v n xs) (y : Int) (hx : a.eval x = .slice (some ⟨w.heap.size, 0, none⟩) 1 1) (hm : n + 1 ≤ 1000000) (hb : base ≤ w.heap.size)
    (h : ∀ v' w', w'.ownsRow base 2 1 v' (n + 1) (xs ++ [.int .i64 y]) → Below base w w' → w.heap.size < w'.heap.size → K (a.put o.dst v') w') : o.wp Tryz.prog a (w.alloc (.cells #[.int .i64 y] 2)) K Q := by
  obtain ⟨i0, hi, hz0, hz1, hz2⟩ := info_parts infoI64N
  refine wp_append_own _ s x 30 ho base 2 i0 (.int .i64 0) 1 8 Tryz.underlying30 hi hz0 hz1 hz2 rfl (by decide) v n xs hs (hown.alloc _) ⟨w.heap.size, 0, none⟩ 1 1 [.int .i64 y] hx rfl ?_ ?_ (by unfold maxLen; omega) (by omega) (by simp; omega) ?_
  · intro j u hj
    match j, hj with
    | 0, hj => (simp only [List.getElem?_cons_zero, Option.some.injEq] at hj; subst hj; rw [addr_add]; exact bx_al w #[.int .i64 y] 2 0)
  · intro u hu
    simp only [List.mem_singleton] at hu
    subst hu
    rfl
  · intro v' w' q1 q2 _
    have hba : Below base w (w.alloc (.cells #[.int .i64 y] 2)) := (Below.refl base w).alloc hb _
    exact h v' w' q1 (hba.grown q2 (by simp; omega) (fun k hk => (hown.lt k hk).1)) (by have := q2.size; simp at this; omega)
theorem own_form6 {w : World} {base : Nat} {t : TypeId} {sz : Nat} {v : Value} {n : Nat} {xs : List Value} (h : w.ownsRow base t sz v n xs) : ∃ a cap, v = .slice a n cap := by
  obtain ⟨_, ⟨e, hz⟩ | ⟨g, cap, cur, e, _⟩⟩ := h
  · exact ⟨none, 0, by rw [e, hz]⟩
  · exact ⟨_, cap, e⟩
theorem own_ge {W : World} {base g c n : Nat} {xs : List Value} (h : W.ownsRow base 3 1 (.slice (some ⟨g, 0, none⟩) n c) n xs) : base ≤ g := by
  obtain ⟨h0, ⟨e, -⟩ | ⟨g', cap', cur, e, q1, -⟩⟩ := h
  · cases e
  · simp only [Value.slice.injEq, Option.some.injEq, Addr.mk.injEq, and_true, true_and] at e
    omega
theorem own_belw {W W' : World} {base n : Nat} {v : Value} {xs : List Value} (h : W.ownsRow base 2 1 v n xs) (hb : Below W.heap.size W W') : W'.ownsRow base 2 1 v n xs := by
  obtain ⟨h0, h1 | ⟨g', cap', cur, e, q1, hh, q2⟩⟩ := h
  · exact ⟨h0, Or.inl h1⟩
  · have hlt : g' < W.heap.size := by
      apply Classical.byContradiction; intro hn
      rw [Array.getElem?_eq_none (by omega)] at hh; cases hh
    exact ⟨h0, Or.inr ⟨g', cap', cur, e, q1, (hb.block g' hlt).trans hh, q2⟩⟩
theorem own_set {W : World} {base n b i : Nat} {v u : Value} {xs : List Value} (h : W.ownsRow base 2 1 v n xs) (hb : b < base) : (W.setCell ⟨b, i, none⟩ u).ownsRow base 2 1 v n xs := by
  obtain ⟨h0, h1 | ⟨g', cap', cur, e, q1, hh, q2⟩⟩ := h
  · exact ⟨h0, Or.inl h1⟩
  · exact ⟨h0, Or.inr ⟨g', cap', cur, e, q1, (Below.heap_setCell _ _ _ _ (by dsimp only; omega)).trans hh, q2⟩⟩
set_option maxHeartbeats 4000000 in
theorem sOrderOf (c : DConn) (A : Array Value) (w : World) (B : Nat) (hr : shConn.Rd w B c A.toList) (hB : B ≤ w.heap.size) (hT : totConn c ≤ 1048576) (hwf : (Lit.int .i64 (connF c)).wf = true) (hfew : connF c = 0 → c.subs.length ≤ 1000) (h0 : connF c = 0 → ∀ k (hk : k < c.subs.length), subF c.subs[k] = 0) :
    Calls Tryz.prog 7 #[.agg A] w fun e w' => ∃ N : Array Value, e = .returned (.agg N) ∧ Own w' w.heap.size w'.heap.size shIR (ordV c) N.toList ∧ Below w.heap.size w w' := by
  have HAT : Hid (∀ W, Below w.heap.size w W → (∀ o, W.cell? ⟨w.heap.size, o, none⟩ = A[o]?) → ConnAt W B c A w.heap.size 0) := fun W hW hk => ConnAt.of (bx_range hk) (Sh.Rd.below hr hB hW) (Nat.le_trans hB hW.size) hT
  have HF : Hid (∀ W, Below w.heap.size w W → (∀ o, W.cell? ⟨w.heap.size, o, none⟩ = A[o]?) → Calls Tryz.prog 29 #[.pointer (some ⟨w.heap.size, 0, none⟩)] W fun e w' => e = .returned (.int .i64 (connF c)) ∧ Below W.heap.size W w') := fun W hW hk => sL9Fault c A w.heap.size 0 W B (HAT.out W hW hk)
  have HS : ∀ W, connF c = 0 → Below w.heap.size w W → w.heap.size < W.heap.size → (∀ o, W.cell? ⟨w.heap.size, o, none⟩ = A[o]?) → Calls Tryz.prog 30 #[.pointer (some ⟨w.heap.size, 0, none⟩)] W fun e w' => ∃ g cc, e = .returned (.slice (some ⟨g, 0, none⟩) (ordL (stF c.subs) (opnL c.subs)).length cc) ∧ (∀ i (hi : i < (ordL (stF c.subs) (opnL c.subs)).length), w'.cell? ⟨g, i, none⟩ = some (.int .i64 (ordL (stF c.subs) (opnL c.subs))[i])) ∧ g < w'.heap.size ∧ W.heap.size ≤ g ∧ Below W.heap.size W w' := by
    obtain ⟨y0, y1, y2, y3, y4, d5, y6, y7, y8, d9, y10, y11, l, ⟨⟩⟩ := c
    obtain ⟨a5, c5, a9, c9, a9', c9', a12, c12, eA, -, -, r12, -⟩ := rd_Conn hr
    intro W hF hW hlt hk
    refine (sL11Order l a12 l.length c12 w.heap.size W B (Sh.Rd.below (s := shSubs) r12 hB hW) (Nat.le_trans hB hW.size) rfl (hfew hF) ((hk 13).trans (get_of eA 13)) hlt (h0 hF) (stF l) (fun k hk => stF_at hk)).mono ?_
    rintro e w' ⟨g, cc, rfl, ho, hb⟩
    exact ⟨g, cc, by rw [ord_len], fun i hi => row_cell ho i hi, (own_bel ho (Below.refl _ _)).2.1, own_ge ho, hb⟩
  have H2 : Hid _ := HS
  have HWL : Hid (connF c = 0 → ∀ y ∈ ordL (stF c.subs) (opnL c.subs), (Lit.int .i64 y).wf = true) := fun hF y hy => by
    have h9 := opn_bd (ord_mem (stF c.subs) _ hy)
    have h8 := hfew hF
    exact WalkArith.wf_i64 (by omega)
  have HLN : Hid ((connF c = 0) → (ordL (stF c.subs) (opnL c.subs)).length ≤ 1000) := fun hF => by rw [ord_len]; exact Nat.le_trans (opn_len c.subs c.subs.length) (hfew hF)
  have HW : Hid ((Lit.int .i64 (connF c)).wf = true) := hwf
  unfold ordV
  clear hr HAT hwf hfew h0 HS
  by_cases hF : connF c = 0
  case neg =>
    rw [if_neg hF]
    have hF' : (connF c != 0) = true := by simp [hF]
    clear hF H2 HWL HLN
    generalize connF c = F at *
    go_enter Tryz.func7, Tryz.ntmps7
    go_wp2_with fail
    refine (HF.out _ (by go_grown) (fun o => by simp [go_sem])).mono ?_
    rintro e w1 ⟨rfl, hb⟩
    obtain ⟨k0, kR, fR, hb1, z0⟩ := two_boxes hb
    have HB : Hid (Below w.heap.size w w1) := hb1
    clear hb hb1
    go_wp2_with fail
    refine bodyPost_ret (results_box Tryz.results7 _ _ _ #[.int .i64 F, .slice none 0 0] _ (by rfl) (bx2c kR) Tryz.underlying32 rfl info_IsR) rfl ⟨_, rfl, mk_IR ⟨[], Or.inl ⟨rfl, rfl, rfl⟩, by simp, by simp⟩ HW.out, ?_⟩
    exact Below.setCell (Below.setCell HB.out (by dsimp only; omega) _) (by dsimp only; omega) _
  rw [if_pos hF]
  rw [hF] at HF
  replace H2 : Hid _ := fun W h1 h2 h3 => H2.out W hF h1 h2 h3
  replace HLN : Hid _ := HLN.out hF
  replace HWL : Hid _ := HWL.out hF
  clear hF HW
  generalize ordL (stF c.subs) (opnL c.subs) = OL at *
  go_enter Tryz.func7, Tryz.ntmps7
  go_wp2_with fail
  refine (HF.out _ (by go_grown) (fun o => by simp [go_sem])).mono ?_
  rintro e w1 ⟨rfl, hb⟩
  obtain ⟨k0, kR, fR, hb1, z0⟩ := two_boxes hb
  have HB : Hid (Below w.heap.size w w1) := hb1
  clear hb hb1 HF
  go_upto_region 5 with fail
  have k4 : ∀ o, (w1.alloc (.cells #[.int .i64 0, .slice none 0 0] 32)).cell? ⟨w1.heap.size, o, none⟩ = (#[.int .i64 0, .slice none 0 0] : Array Value)[o]? := bx_al w1 #[.int .i64 0, .slice none 0 0] 32
  have f4 : ∀ o, (w1.alloc (.cells #[.int .i64 0, .slice none 0 0] 32)).frozen? ⟨w1.heap.size, o, none⟩ = false := fx_al w1 #[.int .i64 0, .slice none 0 0] 32
  have hb : Below w1.heap.size w1 (w1.alloc (.cells #[.int .i64 0, .slice none 0 0] 32)) := (Below.refl _ _).alloc (Nat.le_refl _) _
  have zn : w1.heap.size < (w1.alloc (.cells #[.int .i64 0, .slice none 0 0] 32)).heap.size := by simp
  generalize hWW : (w1.alloc (.cells #[.int .i64 0, .slice none 0 0] 32)) = w2 at k4 f4 hb zn ⊢
  clear hWW
  obtain ⟨b4, eb4⟩ : ∃ q, q = w1.heap.size := ⟨_, rfl⟩
  have zR4 : w.heap.size + 1 < b4 := by omega
  rw [← eb4] at k4 f4 zn ⊢
  replace kR := bx_below kR z0 hb
  replace fR := bxF fR hb z0
  replace k0 := bx_below k0 (by omega) hb
  replace HB : Hid (Below w.heap.size w w2) := HB.out.trans (hb.mono HB.out.size)
  clear hb eb4 z0
  go_wp2_with fail
  refine (H2.out _ HB.out (by omega) k0).mono ?_
  rintro e w3 ⟨g, cc, rfl, kg, hg, hge, hb⟩
  have HGB : Hid (g ≠ b4) := by show ¬ _ = _; omega
  replace kR := bx_below kR (by omega) hb
  replace fR := bxF fR hb (by omega)
  replace k4 := bx_below k4 zn hb
  replace f4 := bxF f4 hb zn
  replace zn := Nat.lt_of_lt_of_le zn hb.size
  replace HB : Hid (Below w.heap.size w w3) := HB.out.trans (hb.mono HB.out.size)
  clear hb k0 H2
  obtain ⟨m, hm⟩ : ∃ q, q = w3.heap.size := ⟨_, rfl⟩
  rw [← hm] at zn hg
  have zm : m ≤ w3.heap.size := by omega
  clear hm
  obtain ⟨n, hn⟩ : ∃ q, q = OL.length := ⟨_, rfl⟩
  have HN : Hid (n = OL.length) := hn
  have hn9 : n ≤ 1000 := by rw [hn]; exact HLN.out
  rw [← hn]
  clear hn HLN
  have HNIL : Hid (w3.ownsRow m 2 1 (.slice none 0 0) 0 ((OL.take 0).map (Value.int .i64))) := ⟨rfl, Or.inl ⟨rfl, rfl⟩⟩
  go_upto_region 7 with fail
  go_loopw [6] (fun i wr => ∃ (k : Nat) (va : Option Addr) (vc : Nat), k ≤ n ∧ i = .int .i64 k ∧ (∀ o, wr.cell? ⟨w.heap.size + 1, o, none⟩ = (#[.int .i64 0, .slice none 0 0] : Array Value)[o]?) ∧ (∀ o, wr.frozen? ⟨w.heap.size + 1, o, none⟩ = false) ∧ (∀ o, wr.cell? ⟨b4, o, none⟩ = (#[.int .i64 0, .slice va k vc] : Array Value)[o]?) ∧ (∀ o, wr.frozen? ⟨b4, o, none⟩ = false) ∧ (∀ i (hi : i < OL.length), wr.cell? ⟨g, i, none⟩ = some (.int .i64 OL[i])) ∧ Hid (wr.ownsRow m 2 1 (.slice va k vc) k ((OL.take k).map (Value.int .i64))) ∧ Hid (Below w.heap.size w wr) ∧ m ≤ wr.heap.size) (fun i _ => n - (intOf i).toNat)
  case atStart => exact ⟨0, none, 0, Nat.zero_le _, rfl, kR, fR, k4, f4, kg, HNIL, HB, zm⟩
  case round =>
    clear kR fR k4 f4 kg HNIL HB zm
    obtain ⟨k, va, vc, hk, rfl, kR, fR, k4, f4, kg, HO, HB, zm⟩ := hrel
    by_cases hlt : k < n
    · have hkl : k < OL.length := by have := HN.out; omega
      have kk := kg k hkl
      obtain ⟨y, hy⟩ : ∃ y, y = OL[k] := ⟨_, rfl⟩
      have HT1 : Hid ((OL.take (k + 1)).map (Value.int .i64) = (OL.take k).map (Value.int .i64) ++ [.int .i64 y]) := by show _ = _; rw [List.take_succ_eq_append_getElem hkl, List.map_append, hy]; rfl
      rw [← hy] at kk
      clear hy
      have hki : (k : Int) < (n : Int) := by omega
      have hk0 : (0 : Int) ≤ (k : Int) := by omega
      have hki2 : decide ((k : Int) < (n : Int)) = true := decide_eq_true hki
      have HKG : Hid (∀ i (hi : i < OL.length), wr.cell? ⟨g, i, none⟩ = some (.int .i64 OL[i])) := kg
      clear kg
      go_upto_region 9 with fail
      refine wp_region_noPanic ?_
      refine Goes.start (S := fun w' => Below m wr w') (z := 9) (by kernel_rfl) ?_
      have hb : Below m wr wr.drew := Below.drew (Below.refl _ _)
      have hoY : wr.drew.ownsRow m 2 1 (.slice va k vc) k ((OL.take k).map (Value.int .i64)) := own_belw HO.out (Below.drew (Below.refl _ _))
      have zY : m ≤ wr.drew.heap.size := zm
      generalize hWW : wr.drew = Y at hb hoY zY ⊢
      clear hWW
      have HY : Hid (Below m wr Y) := hb
      have HOY : Hid _ := hoY
      clear hb hoY
      refine Goes.take (i := 0) (oi := ?oi11) (x := ?vx11) ?ho11 (by kernel_rfl) (by kernel_rfl) (by kernel_rfl) (by kernel_rfl) (fun _ _ _ h => h) (Or.inl ⟨?hw11, ?hy11⟩) HY.out ?rest11
      case ho11 => (simp only [List.getElem?_toArray, List.getElem?_cons_zero] <;> rfl)
      case hw11 => rfl
      case hy11 => (intro w' hSw; have k4' := bxC k4 hSw zn; have kk' := (hSw.cell (p := ⟨g, k, none⟩) hg).trans kk; go_simp; (try with_reducible rfl))
      case rest11 =>
      (try simp only [Act.put, List.setIfInBounds_toArray, List.set_cons_zero, List.set_cons_succ])
      refine Goes.take (i := 1) (oi := ?oi12) (x := ?vx12) ?ho12 (by kernel_rfl) (by kernel_rfl) (by kernel_rfl) (by kernel_rfl) (fun _ _ _ h => h) (Or.inl ⟨?hw12, ?hy12⟩) HY.out ?rest12
      case ho12 => (simp only [List.getElem?_toArray, List.getElem?_cons_succ, List.getElem?_cons_zero] <;> rfl)
      case hw12 => rfl
      case hy12 => (intro w' hSw; have k4' := bxC k4 hSw zn; have kk' := (hSw.cell (p := ⟨g, k, none⟩) hg).trans kk; go_simp; (try with_reducible rfl))
      case rest12 =>
      (try simp only [Act.put, List.setIfInBounds_toArray, List.set_cons_zero, List.set_cons_succ])
      refine Goes.take (i := 2) (oi := ?oi13) (x := ?vx13) ?ho13 (by kernel_rfl) (by kernel_rfl) (by kernel_rfl) (by kernel_rfl) (fun _ _ _ h => h) (Or.inl ⟨?hw13, ?hy13⟩) HY.out ?rest13
      case ho13 => (simp only [List.getElem?_toArray, List.getElem?_cons_succ, List.getElem?_cons_zero] <;> rfl)
      case hw13 => rfl
      case hy13 => (intro w' hSw; have k4' := bxC k4 hSw zn; have kk' := (hSw.cell (p := ⟨g, k, none⟩) hg).trans kk; go_simp; (try with_reducible rfl))
      case rest13 =>
      (try simp only [Act.put, List.setIfInBounds_toArray, List.set_cons_zero, List.set_cons_succ])
      refine Goes.take (i := 3) (oi := ?oi14) (x := ?vx14) ?ho14 (by kernel_rfl) (by kernel_rfl) (by kernel_rfl) (by kernel_rfl) (fun _ _ _ h => h) (Or.inl ⟨?hw14, ?hy14⟩) HY.out ?rest14
      case ho14 => (simp only [List.getElem?_toArray, List.getElem?_cons_succ, List.getElem?_cons_zero] <;> rfl)
      case hw14 => rfl
      case hy14 => (intro w' hSw; have k4' := bxC k4 hSw zn; have kk' := (hSw.cell (p := ⟨g, k, none⟩) hg).trans kk; go_simp; (try with_reducible rfl))
      case rest14 =>
      (try simp only [Act.put, List.setIfInBounds_toArray, List.set_cons_zero, List.set_cons_succ])
      refine Goes.take (i := 4) (oi := ?oi15) (x := ?vx15) ?ho15 (by kernel_rfl) (by kernel_rfl) (by kernel_rfl) (by kernel_rfl) (fun _ _ _ h => h) (Or.inl ⟨?hw15, ?hy15⟩) HY.out ?rest15
      case ho15 => (simp only [List.getElem?_toArray, List.getElem?_cons_succ, List.getElem?_cons_zero] <;> rfl)
      case hw15 => rfl
      case hy15 => (intro w' hSw; have k4' := bxC k4 hSw zn; have kk' := (hSw.cell (p := ⟨g, k, none⟩) hg).trans kk; go_simp; (try with_reducible rfl))
      case rest15 =>
      (try simp only [Act.put, List.setIfInBounds_toArray, List.set_cons_zero, List.set_cons_succ])
      refine Goes.take (i := 5) (oi := ?oi16) (x := ?vx16) ?ho16 (by kernel_rfl) (by kernel_rfl) (by kernel_rfl) (by kernel_rfl) (fun _ _ _ h => h) (Or.inl ⟨?hw16, ?hy16⟩) HY.out ?rest16
      case ho16 => (simp only [List.getElem?_toArray, List.getElem?_cons_succ, List.getElem?_cons_zero] <;> rfl)
      case hw16 => rfl
      case hy16 => (intro w' hSw; have k4' := bxC k4 hSw zn; have kk' := (hSw.cell (p := ⟨g, k, none⟩) hg).trans kk; go_simp; (try with_reducible rfl))
      case rest16 =>
      (try simp only [Act.put, List.setIfInBounds_toArray, List.set_cons_zero, List.set_cons_succ])
      refine Goes.all (rs := [6]) (by kernel_rfl) (by simp) ?_
      refine Ups.cons (i := 6) (o := ?oo17) ?ho17 (fun KK hKK => ?stp17) Ups.nil
      case ho17 => (simp only [List.getElem?_toArray, List.getElem?_cons_succ, List.getElem?_cons_zero] <;> rfl)
      case stp17 =>
      go_simp
      refine hKK.out _ _ (Or.inr (HY.out.alloc zY _)) ?_
      clear hKK KK
      (try simp only [Act.put, List.setIfInBounds_toArray, List.set_cons_zero, List.set_cons_succ])
      refine Goes.all (rs := [7]) (by kernel_rfl) (by simp) ?_
      refine Ups.cons (i := 7) (o := ?oo18) ?ho18 (fun KK hKK => ?stp18) Ups.nil
      case ho18 => (simp only [List.getElem?_toArray, List.getElem?_cons_succ, List.getElem?_cons_zero] <;> rfl)
      case stp18 =>
      rw [if_pos (by rfl)]
      refine app_64 _ _ (by rfl) m (.slice va k vc) k ((OL.take k).map (Value.int .i64)) (by rfl) HOY.out y (by rfl) (by omega) zY ?_
      intro v5 w5 ho5 hb5 hs5
      rw [← HT1.out] at ho5
      obtain ⟨va5, vc5, hv5⟩ := own_form6 ho5
      subst hv5
      have HO5 : Hid _ := ho5
      have H5 : Hid (Below m wr w5) := HY.out.trans hb5
      have z5 : m ≤ w5.heap.size := by omega
      clear ho5 hb5 hs5
      refine hKK.out _ _ (Or.inr H5.out) ?_
      clear hKK KK
      (try simp only [Act.put, List.setIfInBounds_toArray, List.set_cons_zero, List.set_cons_succ])
      refine Goes.take (i := 8) (oi := ?oi19) (x := ?vx19) ?ho19 (by kernel_rfl) (by kernel_rfl) (by kernel_rfl) (by kernel_rfl) (fun _ _ _ h => h) (Or.inl ⟨?hw19, ?hy19⟩) H5.out ?rest19
      case ho19 => (simp only [List.getElem?_toArray, List.getElem?_cons_succ, List.getElem?_cons_zero] <;> rfl)
      case hw19 => rfl
      case hy19 => (intro w' hSw; have k4' := bxC k4 hSw zn; have kk' := (hSw.cell (p := ⟨g, k, none⟩) hg).trans kk; go_simp; (try with_reducible rfl))
      case rest19 =>
      (try simp only [Act.put, List.setIfInBounds_toArray, List.set_cons_zero, List.set_cons_succ])
      refine Goes.all (rs := [9]) (by kernel_rfl) (by simp) ?_
      refine Ups.cons (i := 9) (o := ?oo20) ?ho20 (fun KK hKK => ?stp20) Ups.nil
      case ho20 => (simp only [List.getElem?_toArray, List.getElem?_cons_succ, List.getElem?_cons_zero] <;> rfl)
      case stp20 =>
      have k4' := bxC k4 H5.out zn
      have f4' := fxC f4 H5.out zn
      go_simp
      clear k4' f4'
      refine hKK.out _ _ (Or.inl rfl) ?_
      clear hKK KK
      (try simp only [Act.put])
      refine Goes.done (by kernel_rfl) ?_ _
      refine NoPanic.normal ?_
      have k4x := bx_put (bxC k4 H5.out zn) (k := 1) (v := .slice va5 (k + 1) vc5) (by simp)
      simp only [List.setIfInBounds_toArray, List.set_cons_zero, List.set_cons_succ] at k4x
      have f4x : ∀ o, (w5.setCell ⟨b4, 1, none⟩ (.slice va5 (k + 1) vc5)).frozen? ⟨b4, o, none⟩ = false := fx_setC (fxC f4 H5.out zn)
      have kRx : ∀ o, (w5.setCell ⟨b4, 1, none⟩ (.slice va5 (k + 1) vc5)).cell? ⟨w.heap.size + 1, o, none⟩ = (#[.int .i64 0, .slice none 0 0] : Array Value)[o]? := bx_setC (bxC kR H5.out (by omega)) (by omega)
      have fRx : ∀ o, (w5.setCell ⟨b4, 1, none⟩ (.slice va5 (k + 1) vc5)).frozen? ⟨w.heap.size + 1, o, none⟩ = false := fx_setC (fxC fR H5.out (by omega))
      have dg : g ≠ b4 := HGB.out
      have kgx : ∀ i (hi : i < OL.length), (w5.setCell ⟨b4, 1, none⟩ (.slice va5 (k + 1) vc5)).cell? ⟨g, i, none⟩ = some (.int .i64 OL[i]) := fun i hi => (World.cell?_of_block (Below.heap_setCell _ _ _ _ (by dsimp only; omega))).trans ((H5.out.cell (p := ⟨g, i, none⟩) hg).trans (HKG.out i hi))
      have HOx : Hid ((w5.setCell ⟨b4, 1, none⟩ (.slice va5 (k + 1) vc5)).ownsRow m 2 1 (.slice va5 (k + 1) vc5) (k + 1) ((OL.take (k + 1)).map (Value.int .i64))) := own_set HO5.out zn
      have HBx : Hid (Below w.heap.size w (w5.setCell ⟨b4, 1, none⟩ (.slice va5 (k + 1) vc5))) := Below.setCell (p := ⟨b4, 1, none⟩) (HB.out.trans (H5.out.mono (by omega))) (by dsimp only; omega) _
      have zx : m ≤ (w5.setCell ⟨b4, 1, none⟩ (.slice va5 (k + 1) vc5)).heap.size := by simp; omega
      clear k4 f4 kR fR kk HKG HO HB
      generalize hWW : (w5.setCell ⟨b4, 1, none⟩ (.slice va5 (k + 1) vc5)) = w6 at k4x f4x kRx fRx kgx HOx HBx zx ⊢
      clear hWW
      go_wp2_with fail
      go_roundw
      case rel => exact ⟨k + 1, va5, vc5, by omega, by go_num, kRx, fRx, k4x, f4x, kgx, HOx, HBx, zx⟩
      case measure => simp [intOf]; omega
    · obtain rfl : k = n := by omega
      have hki : ¬ (k : Int) < (k : Int) := by omega
      have HFIN : Hid (Own wr m wr.heap.size i64s OL [.slice va k vc]) := by
        have h := HO.out
        rw [HN.out, List.take_length] at h
        rw [HN.out]
        exact own_ints ⟨h, HWL.out⟩ (Nat.le_refl _)
      clear kg HO
      go_wp2_with fail
      refine bodyPost_ret (results_box Tryz.results7 _ _ _ #[.int .i64 0, .slice va k vc] _ (by rfl) (bx2c kR) Tryz.underlying32 rfl info_IsR) rfl ⟨_, rfl, mk_IR (Own.mono (Own.keep HFIN.out (fun b h1 h2 => by repeat rw [Below.heap_setCell _ _ _ _ (by dsimp only; omega)])) (by omega) (by simp)) (by decide), ?_⟩
      exact Below.setCell (Below.setCell HB.out (by dsimp only; omega) _) (by dsimp only; omega) _
end Go.Proofs.YtcbgedlckcjjnaaGreat

/- OrderOf by program and model at every conn: the premises that a conn without a fault gives. -/
namespace Go.Proofs.YtcbgedlckcjjnaaGreat
open Go.RowKit
theorem ord_few {c : DConn} (h : connF c = 0) : c.subs.length ≤ 3 := subs_few (conn_ok h).2.2.2.2.2.2.2.2.1
theorem iOrderOfZ (c : DConn) (A : Array Value) (w : World) (B : Nat) (hr : shConn.Rd w B c A.toList) (hB : B ≤ w.heap.size) (hT : totConn c ≤ 1048576) :
    Calls Tryz.prog 9 #[.agg A] w fun e w' => ∃ N : Array Value, e = .returned (.agg N) ∧ Own w' w.heap.size w'.heap.size shIR (ordV c) N.toList ∧ Below w.heap.size w w' :=
  iOrderOf c A w B hr hB hT (connF_wf c) (fun h => Nat.lt_of_le_of_lt (ord_few h) (by decide))
theorem sOrderOfZ (c : DConn) (A : Array Value) (w : World) (B : Nat) (hr : shConn.Rd w B c A.toList) (hB : B ≤ w.heap.size) (hT : totConn c ≤ 1048576) :
    Calls Tryz.prog 7 #[.agg A] w fun e w' => ∃ N : Array Value, e = .returned (.agg N) ∧ Own w' w.heap.size w'.heap.size shIR (ordV c) N.toList ∧ Below w.heap.size w w' :=
  sOrderOf c A w B hr hB hT (connF_wf c) (fun h => Nat.le_trans (ord_few h) (by decide)) (fun h => subs_ok9 c.subs [] (conn_ok h).2.2.2.2.2.2.2.2.1)
theorem ordV_tot (c : DConn) : totIR (ordV c) ≤ 1048576 := by
  unfold ordV
  split
  · rename_i h
    have h1 := ord_few h
    have h2 : (ordL (stF c.subs) (opnL c.subs)).length ≤ 3 := by rw [ord_len]; exact Nat.le_trans (opn_len c.subs c.subs.length) h1
    show (ordL (stF c.subs) (opnL c.subs)).length ≤ _
    omega
  · exact Nat.zero_le _
end Go.Proofs.YtcbgedlckcjjnaaGreat
