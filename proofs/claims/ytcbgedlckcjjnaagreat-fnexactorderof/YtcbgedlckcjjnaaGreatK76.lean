/- The model's order of open paths: put in one by one; the answer owns its memory; nothing that was there turns; no condition but that no path has a fault. Written by mkord6.py. -/
import Derived.Test.YtcbgedlckcjjnaaGreatRows
import Derived.Deep.RegionHeld3
import Derived.Deep.DeepCutAuto
import Derived.Deep.DeepMust
import Derived.Deep.LoopGhost
import Derived.Deep.MidRow
import Derived.Test.YtcbgedlckcjjnaaGreatK01
import Derived.Test.YtcbgedlckcjjnaaGreatK02
import Derived.Test.YtcbgedlckcjjnaaGreatK03
import Derived.Test.YtcbgedlckcjjnaaGreatK04
import Derived.Test.YtcbgedlckcjjnaaGreatK05
import Derived.Test.YtcbgedlckcjjnaaGreatK07
import Derived.Test.YtcbgedlckcjjnaaGreatK08
import Derived.Test.YtcbgedlckcjjnaaGreatK10
import Derived.Test.YtcbgedlckcjjnaaGreatK11
import Derived.Test.YtcbgedlckcjjnaaGreatK12
import Derived.Test.YtcbgedlckcjjnaaGreatK15
import Derived.Test.YtcbgedlckcjjnaaGreatK72
import Derived.Test.YtcbgedlckcjjnaaGreatK73
import Derived.Test.YtcbgedlckcjjnaaGreatK74
import Derived.Test.YtcbgedlckcjjnaaGreatK75
namespace Go.Proofs.YtcbgedlckcjjnaaGreat
open Go.RowKit
set_option linter.unusedVariables false
set_option maxRecDepth 8000
theorem addr_add (g a i : Nat) : (⟨g, a, none⟩ : Addr).add i = ⟨g, a + i, none⟩ := by
  unfold Addr.add
  by_cases h : i = 0 <;> simp [h]
theorem row_cell {W : World} {base g c n : Nat} {D : List Int} (h : W.ownsRow base 3 1 (.slice (some ⟨g, 0, none⟩) n c) n (D.map (Value.int .i64))) (i : Nat) (hi : i < D.length) : W.cell? ⟨g, i, none⟩ = some (.int .i64 D[i]) := by
  obtain ⟨h0, ⟨e, -⟩ | ⟨g', cap', cur, e, -, hh, hn, -, hz, ht⟩⟩ := h
  · cases e
  · simp only [Value.slice.injEq, Option.some.injEq, Addr.mk.injEq, and_true, true_and] at e
    obtain ⟨rfl, rfl⟩ := e
    rw [List.length_map] at h0
    rw [cell_of_heap hh]
    have q : (cur.toList.take (n * 1))[i]? = some (.int .i64 D[i]) := by rw [ht, List.getElem?_map, List.getElem?_eq_getElem hi]; rfl
    rw [List.getElem?_take_of_lt (by omega)] at q
    simpa using q
theorem own_bel {W W' : World} {base g c n : Nat} {xs : List Value} (h : W.ownsRow base 3 1 (.slice (some ⟨g, 0, none⟩) n c) n xs) (hb : Below W.heap.size W W') : W'.ownsRow base 3 1 (.slice (some ⟨g, 0, none⟩) n c) n xs ∧ g < W.heap.size ∧ n ≤ c := by
  obtain ⟨h0, ⟨e, -⟩ | ⟨g', cap', cur, e, q1, hh, hn, q2⟩⟩ := h
  · cases e
  · have hlt : g' < W.heap.size := by
      apply Classical.byContradiction; intro hn
      rw [Array.getElem?_eq_none (by omega)] at hh; cases hh
    have e2 := e
    simp only [Value.slice.injEq, Option.some.injEq, Addr.mk.injEq, and_true, true_and] at e2
    exact ⟨⟨h0, Or.inr ⟨g', cap', cur, e, q1, (hb.block g' hlt).trans hh, hn, q2⟩⟩, by omega, by omega⟩
theorem opn_yes {l : List DSub} {k : Nat} (h : opnS l k = 3) : opnK l (k + 1) = opnK l k ++ [(k : Int)] := by
  unfold opnK
  rw [List.range_succ, List.filter_append, List.map_append]
  congr 1
  rw [List.filter_cons, if_pos (decide_eq_true h)]
  rfl
theorem opn_no {l : List DSub} {k : Nat} (h : opnS l k ≠ 3) : opnK l (k + 1) = opnK l k := by
  unfold opnK
  have e : [k].filter (fun i => decide (opnS l i = 3)) = [] := by
    rw [List.filter_cons, if_neg (by simpa using h), List.filter_nil]
  rw [List.range_succ, List.filter_append, e, List.append_nil]
theorem app_j {o : Oper} {a : Act} {K : Act → World → Prop} {Q : Exit → Act → World → Prop} {w : World} (s x : Operand)
    (ho : o.op = .call { callee := .builtin .append, args := #[s, x], argTypes := #[77, 77] }) (base : Nat) (v : Value) (n : Nat) (xs : List Value) (hs : a.eval s = v)
    (hown : w.ownsRow base 3 1 v n xs) (ad : Addr) (m c : Nat) (news : List Value) (hx : a.eval x = .slice (some ad) m c) (hl : news.length = m) (hnews : ∀ j u, news[j]? = some u → w.cell? (ad.add j) = some u) (h1 : ∀ u ∈ news, u.oneCell' = true)
    (hm : n + m ≤ 1000000) (hb : base ≤ w.heap.size)
    (h : ∀ v' w', w'.ownsRow base 3 1 v' (n + m) (xs ++ news) → Below base w w' → (∀ b, b < w.heap.size → v.ownBlock ≠ some b → w'.heap[b]? = w.heap[b]?) → K (a.put o.dst v') w') : o.wp Tryz.prog a w K Q := by
  obtain ⟨i0, hi, hz0, hz1, hz2⟩ := info_parts infoIntN
  refine wp_append_own w s x 77 ho base 3 i0 (.int .i64 0) 1 8 Tryz.underlying77 hi hz0 hz1 hz2 rfl (by decide) v n xs hs hown ad m c news hx (by omega) hnews h1 (by unfold maxLen; omega) (by omega) hb ?_
  intro v' w' q1 q2 _
  exact h v' w' q1 ((Below.refl base w).grown q2 hb (fun k hk => (hown.lt k hk).1)) (fun b hb' hne => q2.block b hb' (fun e => hne e.symm))
theorem own_form {W : World} {base n : Nat} {v : Value} {xs : List Value} (h : W.ownsRow base 3 1 v n xs) (hn : 0 < n) : ∃ g c, v = .slice (some ⟨g, 0, none⟩) n c := by
  obtain ⟨h0, ⟨e, en⟩ | ⟨g', cap', cur, e, -⟩⟩ := h
  · omega
  · exact ⟨g', cap', e⟩
theorem own_belv {W W' : World} {base n : Nat} {v : Value} {xs : List Value} (h : W.ownsRow base 3 1 v n xs) (hb : Below W.heap.size W W') : W'.ownsRow base 3 1 v n xs := by
  obtain ⟨h0, h1 | ⟨g', cap', cur, e, q1, hh, q2⟩⟩ := h
  · exact ⟨h0, Or.inl h1⟩
  · have hlt : g' < W.heap.size := by
      apply Classical.byContradiction; intro hn
      rw [Array.getElem?_eq_none (by omega)] at hh; cases hh
    exact ⟨h0, Or.inr ⟨g', cap', cur, e, q1, (hb.block g' hlt).trans hh, q2⟩⟩
theorem own_base {W : World} {b0 base n : Nat} {v : Value} {xs : List Value} (h : W.ownsRow base 3 1 v n xs) (hb : b0 ≤ base) : W.ownsRow b0 3 1 v n xs := by
  obtain ⟨h0, h1 | ⟨g', cap', cur, e, q1, q2⟩⟩ := h
  · exact ⟨h0, Or.inl h1⟩
  · exact ⟨h0, Or.inr ⟨g', cap', cur, e, Nat.le_trans hb q1, q2⟩⟩
set_option maxHeartbeats 4000000 in
theorem sL11Order (l : List DSub) (va : Option Addr) (n cap p : Nat) (w : World) (B : Nat) (hr : shSubs.Rd w B l [.slice va n cap]) (hB : B ≤ w.heap.size) (hn : l.length = n) (hm : n ≤ 1000) (hp : w.cell? ⟨p, 13, none⟩ = some (.slice va n cap)) (hpl : p < w.heap.size) (h0 : ∀ k (hk : k < l.length), subF l[k] = 0) (F : Int → Int) (hF : ∀ k (hk : k < l.length), F (k : Int) = stlV l[k]) :
    Calls Tryz.prog 30 #[.pointer (some ⟨p, 0, none⟩)] w fun e w' => ∃ g c, e = .returned (.slice (some ⟨g, 0, none⟩) (opnL l).length c) ∧ w'.ownsRow w.heap.size 3 1 (.slice (some ⟨g, 0, none⟩) (opnL l).length c) (opnL l).length ((ordL F (opnL l)).map (Value.int .i64)) ∧ Below w.heap.size w w' := by
  have HN : Hid (l.length = n) := hn
  have HRd : Hid (∀ W, Below w.heap.size w W → shSubs.Rd W B l [.slice va n cap]) := fun W hW => Sh.Rd.below (s := shSubs) hr hB hW
  have H0 : Hid (∀ k (hk : k < l.length), subF l[k] = 0) := h0
  have HF : Hid (∀ k (hk : k < l.length), F (k : Int) = stlV l[k]) := hF
  clear hr hn h0 hF
  have HA0 : Hid ((w.alloc (.cells #[] 3)).ownsRow w.heap.size 3 1 (.slice (some ⟨w.heap.size, 0, none⟩) 0 0) 0 []) := ⟨rfl, Or.inr ⟨w.heap.size, 0, #[], rfl, Nat.le_refl _, World.alloc_heap_new w _, Nat.le_refl _, by unfold maxLen; omega, rfl, rfl⟩⟩
  go_enter Tryz.func30, Tryz.ntmps30
  go_upto_region 3 with fail
  go_loopg [3, 4, 5] n (fun q v i j wr => ∃ (k g c : Nat), k ≤ n ∧ q = n - k ∧ v = .slice (some ⟨g, 0, none⟩) (opnK l k).length c ∧ i = .int .i64 k ∧ Hid (wr.ownsRow w.heap.size 3 1 (.slice (some ⟨g, 0, none⟩) (opnK l k).length c) (opnK l k).length ((ordL F (opnK l k)).map (Value.int .i64))) ∧ Hid (Below w.heap.size w wr))
  case atStart => exact ⟨0, w.heap.size, 0, Nat.zero_le _, rfl, rfl, rfl, HA0, (by go_grown : Below w.heap.size w _)⟩
  case round =>
    obtain ⟨k, g, c, hk, rfl, rfl, rfl, HO, HB⟩ := hrel
    have hpk : wr.cell? ⟨p, 13, none⟩ = some (.slice va n cap) := (HB.out.cell (p := ⟨p, 13, none⟩) hpl).trans hp
    by_cases hlt : k < n
    · have hkl : k < l.length := by have := HN.out; omega
      obtain ⟨b, off, cs, ha, hb, hlen, hrg, r3, -, k1, -⟩ := sub_at (HRd.out wr HB.out) k hkl
      subst ha
      rw [← opnS_at hkl] at k1
      have hki : (k : Int) < (n : Int) := by omega
      have hk0 : (0 : Int) ≤ (k : Int) := by omega
      clear hrg r3 hlen
      by_cases h3 : opnS l k = 3
      · have e3 : (opnS l k != 3) = false := by simp [h3]
        obtain ⟨D, hD⟩ : ∃ D, D = ordL F (opnK l k) := ⟨_, rfl⟩
        have HLD : Hid (D.length = (opnK l k).length) := by show _ = _; rw [hD, ord_len]
        have HDB : Hid (∀ y ∈ D, 0 ≤ y ∧ y < (k : Int)) := fun y hy => opn_bd (ord_mem F _ (by rw [← hD]; exact hy))
        have HE : Hid (∀ j, j ≤ D.length → (∀ i (hi : i < D.length), j ≤ i → F (k : Int) < F D[i]) → (j = 0 ∨ ∃ hi : j - 1 < D.length, ¬ F (k : Int) < F D[j - 1]) → D.take j ++ (k : Int) :: D.drop j = ordL F (opnK l (k + 1)) ∧ (opnK l (k + 1)).length = (opnK l k).length + 1) := fun j a b c => ⟨by rw [opn_yes h3, ord_snoc, ← hD, ins_at a b c], by rw [opn_yes h3, List.length_append]; rfl⟩
        have HM : Hid ((opnK l k).length ≤ k) := opn_len l k
        rw [← hD] at HO
        have HSN : Hid (∀ W, Below w.heap.size w W → ∀ i (hi : i < l.length), Calls Tryz.prog 85 #[.pointer (some ⟨b, off + i * 16, none⟩)] W fun e w' => e = .returned (.int .i64 (F (i : Int))) ∧ Below W.heap.size W w') := fun W hW i hi => by
          refine (sStaleAt l b off n cap W B (HRd.out W hW) i hi (H0.out i hi)).mono ?_
          rintro e w' ⟨rfl, rfl⟩
          exact ⟨by rw [HF.out i hi], Below.refl _ _⟩
        clear hD H0 HF h3
        generalize (opnK l k).length = m at *
        generalize opnS l k = S at *
        obtain ⟨wo, rfl⟩ : ∃ wo : World, wo = wr := ⟨_, rfl⟩
        have hm2 : m ≤ 1000 := by have := HM.out; omega
        go_upto_region 7 with fail
        go_loopg [5] m (fun q v wi => ∃ j : Nat, j ≤ m ∧ j = q ∧ v = .int .i64 j ∧ Hid (Below wo.heap.size wo wi) ∧ Hid (∀ i (hi : i < D.length), j ≤ i → F (k : Int) < F D[i]))
        case atStart => exact ⟨m, Nat.le_refl _, rfl, rfl, Below.refl _ _, (fun i hi h => absurd h (by have := HLD.out; omega) : ∀ i (hi : i < D.length), m ≤ i → F (k : Int) < F D[i])⟩
        case round =>
          obtain ⟨j, hj, rfl, rfl, HBi, HG⟩ := hrel
          have HBw : Hid (Below w.heap.size w wr) := HB.out.trans (HBi.out.mono HB.out.size)
          by_cases j0 : j = 0
          · subst j0
            go_upto_region 7 with fail
            refine wp_region_noPanic ?_
            refine Goes.start (S := fun _ => True) (z := 100) (by kernel_rfl) ?_
            refine Goes.take (i := 0) (oi := ?oi1) (x := ?vx1) ?ho1 (by kernel_rfl) (by kernel_rfl) (by kernel_rfl) (by kernel_rfl) (fun _ _ _ h => h) (Or.inl ⟨?hw1, ?hy1⟩) trivial ?rest1
            case ho1 => (simp only [List.getElem?_toArray, List.getElem?_cons_zero] <;> rfl)
            case hw1 => rfl
            case hy1 => (intro w' hSw; go_simp; (try with_reducible rfl))
            case rest1 =>
            (try simp only [Act.put, List.setIfInBounds_toArray, List.set_cons_zero, List.set_cons_succ])
            refine Goes.take (i := 1) (oi := ?oi2) (x := ?vx2) ?ho2 (by kernel_rfl) (by kernel_rfl) (by kernel_rfl) (by kernel_rfl) (fun _ _ _ h => h) (Or.inl ⟨?hw2, ?hy2⟩) trivial ?rest2
            case ho2 => (simp only [List.getElem?_toArray, List.getElem?_cons_succ, List.getElem?_cons_zero] <;> rfl)
            case hw2 => rfl
            case hy2 => (intro w' hSw; go_simp; (try with_reducible rfl))
            case rest2 =>
            (try simp only [Act.put, List.setIfInBounds_toArray, List.set_cons_zero, List.set_cons_succ])
            refine Goes.take (i := 2) (oi := ?oi3) (x := ?vx3) ?ho3 (by kernel_rfl) (by kernel_rfl) (by kernel_rfl) (by kernel_rfl) (fun _ _ _ h => h) (Or.inl ⟨?hw3, ?hy3⟩) trivial ?rest3
            case ho3 => (simp only [List.getElem?_toArray, List.getElem?_cons_succ, List.getElem?_cons_zero] <;> rfl)
            case hw3 => rfl
            case hy3 => (intro w' hSw; go_simp; (try with_reducible rfl))
            case rest3 =>
            (try simp only [Act.put, List.setIfInBounds_toArray, List.set_cons_zero, List.set_cons_succ])
            refine Goes.take (i := 3) (oi := ?oi4) (x := undef) ?ho4 (by kernel_rfl) (by kernel_rfl) (by kernel_rfl) (by kernel_rfl) (fun _ _ _ h => h) (Or.inr ⟨?hw4, rfl⟩) trivial ?rest4
            case ho4 => (simp only [List.getElem?_toArray, List.getElem?_cons_succ, List.getElem?_cons_zero] <;> rfl)
            case hw4 => rfl
            case rest4 =>
            (try simp only [Act.put, List.setIfInBounds_toArray, List.set_cons_zero, List.set_cons_succ])
            refine Goes.take (i := 4) (oi := ?oi5) (x := undef) ?ho5 (by kernel_rfl) (by kernel_rfl) (by kernel_rfl) (by kernel_rfl) (fun _ _ _ h => h) (Or.inr ⟨?hw5, rfl⟩) trivial ?rest5
            case ho5 => (simp only [List.getElem?_toArray, List.getElem?_cons_succ, List.getElem?_cons_zero] <;> rfl)
            case hw5 => rfl
            case rest5 =>
            (try simp only [Act.put, List.setIfInBounds_toArray, List.set_cons_zero, List.set_cons_succ])
            refine Goes.take (i := 5) (oi := ?oi6) (x := undef) ?ho6 (by kernel_rfl) (by kernel_rfl) (by kernel_rfl) (by kernel_rfl) (fun _ _ _ h => h) (Or.inr ⟨?hw6, rfl⟩) trivial ?rest6
            case ho6 => (simp only [List.getElem?_toArray, List.getElem?_cons_succ, List.getElem?_cons_zero] <;> rfl)
            case hw6 => rfl
            case rest6 =>
            (try simp only [Act.put, List.setIfInBounds_toArray, List.set_cons_zero, List.set_cons_succ])
            refine Goes.take (i := 6) (oi := ?oi7) (x := undef) ?ho7 (by kernel_rfl) (by kernel_rfl) (by kernel_rfl) (by kernel_rfl) (fun _ _ _ h => h) (Or.inr ⟨?hw7, rfl⟩) trivial ?rest7
            case ho7 => (simp only [List.getElem?_toArray, List.getElem?_cons_succ, List.getElem?_cons_zero] <;> rfl)
            case hw7 => rfl
            case rest7 =>
            (try simp only [Act.put, List.setIfInBounds_toArray, List.set_cons_zero, List.set_cons_succ])
            refine Goes.take (i := 7) (oi := ?oi8) (x := undef) ?ho8 (by kernel_rfl) (by kernel_rfl) (by kernel_rfl) (by kernel_rfl) (fun _ _ _ h => h) (Or.inr ⟨?hw8, rfl⟩) trivial ?rest8
            case ho8 => (simp only [List.getElem?_toArray, List.getElem?_cons_succ, List.getElem?_cons_zero] <;> rfl)
            case hw8 => rfl
            case rest8 =>
            (try simp only [Act.put, List.setIfInBounds_toArray, List.set_cons_zero, List.set_cons_succ])
            refine Goes.take (i := 8) (oi := ?oi9) (x := undef) ?ho9 (by kernel_rfl) (by kernel_rfl) (by kernel_rfl) (by kernel_rfl) (fun _ _ _ h => h) (Or.inr ⟨?hw9, rfl⟩) trivial ?rest9
            case ho9 => (simp only [List.getElem?_toArray, List.getElem?_cons_succ, List.getElem?_cons_zero] <;> rfl)
            case hw9 => rfl
            case rest9 =>
            (try simp only [Act.put, List.setIfInBounds_toArray, List.set_cons_zero, List.set_cons_succ])
            refine Goes.take (i := 9) (oi := ?oi10) (x := undef) ?ho10 (by kernel_rfl) (by kernel_rfl) (by kernel_rfl) (by kernel_rfl) (fun _ _ _ h => h) (Or.inr ⟨?hw10, rfl⟩) trivial ?rest10
            case ho10 => (simp only [List.getElem?_toArray, List.getElem?_cons_succ, List.getElem?_cons_zero] <;> rfl)
            case hw10 => rfl
            case rest10 =>
            (try simp only [Act.put, List.setIfInBounds_toArray, List.set_cons_zero, List.set_cons_succ])
            refine Goes.take (i := 10) (oi := ?oi11) (x := undef) ?ho11 (by kernel_rfl) (by kernel_rfl) (by kernel_rfl) (by kernel_rfl) (fun _ _ _ h => h) (Or.inr ⟨?hw11, rfl⟩) trivial ?rest11
            case ho11 => (simp only [List.getElem?_toArray, List.getElem?_cons_succ, List.getElem?_cons_zero] <;> rfl)
            case hw11 => rfl
            case rest11 =>
            (try simp only [Act.put, List.setIfInBounds_toArray, List.set_cons_zero, List.set_cons_succ])
            refine Goes.take (i := 11) (oi := ?oi12) (x := undef) ?ho12 (by kernel_rfl) (by kernel_rfl) (by kernel_rfl) (by kernel_rfl) (fun _ _ _ h => h) (Or.inr ⟨?hw12, rfl⟩) trivial ?rest12
            case ho12 => (simp only [List.getElem?_toArray, List.getElem?_cons_succ, List.getElem?_cons_zero] <;> rfl)
            case hw12 => rfl
            case rest12 =>
            (try simp only [Act.put, List.setIfInBounds_toArray, List.set_cons_zero, List.set_cons_succ])
            refine Goes.take (i := 12) (oi := ?oi13) (x := undef) ?ho13 (by kernel_rfl) (by kernel_rfl) (by kernel_rfl) (by kernel_rfl) (fun _ _ _ h => h) (Or.inr ⟨?hw13, rfl⟩) trivial ?rest13
            case ho13 => (simp only [List.getElem?_toArray, List.getElem?_cons_succ, List.getElem?_cons_zero] <;> rfl)
            case hw13 => rfl
            case rest13 =>
            (try simp only [Act.put, List.setIfInBounds_toArray, List.set_cons_zero, List.set_cons_succ])
            refine Goes.take (i := 13) (oi := ?oi14) (x := undef) ?ho14 (by kernel_rfl) (by kernel_rfl) (by kernel_rfl) (by kernel_rfl) (fun _ _ _ h => h) (Or.inr ⟨?hw14, rfl⟩) trivial ?rest14
            case ho14 => (simp only [List.getElem?_toArray, List.getElem?_cons_succ, List.getElem?_cons_zero] <;> rfl)
            case hw14 => rfl
            case rest14 =>
            (try simp only [Act.put, List.setIfInBounds_toArray, List.set_cons_zero, List.set_cons_succ])
            refine Goes.take (i := 14) (oi := ?oi15) (x := undef) ?ho15 (by kernel_rfl) (by kernel_rfl) (by kernel_rfl) (by kernel_rfl) (fun _ _ _ h => h) (Or.inr ⟨?hw15, rfl⟩) trivial ?rest15
            case ho15 => (simp only [List.getElem?_toArray, List.getElem?_cons_succ, List.getElem?_cons_zero] <;> rfl)
            case hw15 => rfl
            case rest15 =>
            (try simp only [Act.put, List.setIfInBounds_toArray, List.set_cons_zero, List.set_cons_succ])
            refine Goes.take (i := 15) (oi := ?oi16) (x := undef) ?ho16 (by kernel_rfl) (by kernel_rfl) (by kernel_rfl) (by kernel_rfl) (fun _ _ _ h => h) (Or.inr ⟨?hw16, rfl⟩) trivial ?rest16
            case ho16 => (simp only [List.getElem?_toArray, List.getElem?_cons_succ, List.getElem?_cons_zero] <;> rfl)
            case hw16 => rfl
            case rest16 =>
            (try simp only [Act.put, List.setIfInBounds_toArray, List.set_cons_zero, List.set_cons_succ])
            refine Goes.take (i := 16) (oi := ?oi17) (x := undef) ?ho17 (by kernel_rfl) (by kernel_rfl) (by kernel_rfl) (by kernel_rfl) (fun _ _ _ h => h) (Or.inr ⟨?hw17, rfl⟩) trivial ?rest17
            case ho17 => (simp only [List.getElem?_toArray, List.getElem?_cons_succ, List.getElem?_cons_zero] <;> rfl)
            case hw17 => rfl
            case rest17 =>
            (try simp only [Act.put, List.setIfInBounds_toArray, List.set_cons_zero, List.set_cons_succ])
            refine Goes.take (i := 17) (oi := ?oi18) (x := undef) ?ho18 (by kernel_rfl) (by kernel_rfl) (by kernel_rfl) (by kernel_rfl) (fun _ _ _ h => h) (Or.inr ⟨?hw18, rfl⟩) trivial ?rest18
            case ho18 => (simp only [List.getElem?_toArray, List.getElem?_cons_succ, List.getElem?_cons_zero] <;> rfl)
            case hw18 => rfl
            case rest18 =>
            (try simp only [Act.put, List.setIfInBounds_toArray, List.set_cons_zero, List.set_cons_succ])
            refine Goes.take (i := 18) (oi := ?oi19) (x := undef) ?ho19 (by kernel_rfl) (by kernel_rfl) (by kernel_rfl) (by kernel_rfl) (fun _ _ _ h => h) (Or.inr ⟨?hw19, rfl⟩) trivial ?rest19
            case ho19 => (simp only [List.getElem?_toArray, List.getElem?_cons_succ, List.getElem?_cons_zero] <;> rfl)
            case hw19 => rfl
            case rest19 =>
            (try simp only [Act.put, List.setIfInBounds_toArray, List.set_cons_zero, List.set_cons_succ])
            refine Goes.take (i := 19) (oi := ?oi20) (x := undef) ?ho20 (by kernel_rfl) (by kernel_rfl) (by kernel_rfl) (by kernel_rfl) (fun _ _ _ h => h) (Or.inr ⟨?hw20, rfl⟩) trivial ?rest20
            case ho20 => (simp only [List.getElem?_toArray, List.getElem?_cons_succ, List.getElem?_cons_zero] <;> rfl)
            case hw20 => rfl
            case rest20 =>
            (try simp only [Act.put, List.setIfInBounds_toArray, List.set_cons_zero, List.set_cons_succ])
            refine Goes.take (i := 20) (oi := ?oi21) (x := undef) ?ho21 (by kernel_rfl) (by kernel_rfl) (by kernel_rfl) (by kernel_rfl) (fun _ _ _ h => h) (Or.inr ⟨?hw21, rfl⟩) trivial ?rest21
            case ho21 => (simp only [List.getElem?_toArray, List.getElem?_cons_succ, List.getElem?_cons_zero] <;> rfl)
            case hw21 => rfl
            case rest21 =>
            (try simp only [Act.put, List.setIfInBounds_toArray, List.set_cons_zero, List.set_cons_succ])
            refine Goes.take (i := 21) (oi := ?oi22) (x := undef) ?ho22 (by kernel_rfl) (by kernel_rfl) (by kernel_rfl) (by kernel_rfl) (fun _ _ _ h => h) (Or.inr ⟨?hw22, rfl⟩) trivial ?rest22
            case ho22 => (simp only [List.getElem?_toArray, List.getElem?_cons_succ, List.getElem?_cons_zero] <;> rfl)
            case hw22 => rfl
            case rest22 =>
            (try simp only [Act.put, List.setIfInBounds_toArray, List.set_cons_zero, List.set_cons_succ])
            refine Goes.take (i := 22) (oi := ?oi23) (x := ?vx23) ?ho23 (by kernel_rfl) (by kernel_rfl) (by kernel_rfl) (by kernel_rfl) (fun _ _ _ h => h) (Or.inl ⟨?hw23, ?hy23⟩) trivial ?rest23
            case ho23 => (simp only [List.getElem?_toArray, List.getElem?_cons_succ, List.getElem?_cons_zero] <;> rfl)
            case hw23 => rfl
            case hy23 => (intro w' hSw; go_simp; (try with_reducible rfl))
            case rest23 =>
            (try simp only [Act.put, List.setIfInBounds_toArray, List.set_cons_zero, List.set_cons_succ])
            refine Goes.done (by kernel_rfl) ?_ _
            refine NoPanic.normal ?_
            have HBx : Hid (Below wo.heap.size wo wr.drew) := HBi.out.trans (Below.drew (Below.refl _ _))
            obtain ⟨hins, hln⟩ := HE.out 0 (Nat.zero_le _) HG.out (Or.inl rfl)
            have hjm : (0 : Nat) ≤ m := Nat.zero_le _
            generalize wr.drew = Wx at *
            obtain ⟨hoX, hgX, hcX⟩ := own_bel HO.out HBx.out
            have zgX : g < Wx.heap.size := Nat.lt_of_lt_of_le hgX HBx.out.size
            have HBX : Hid (Below w.heap.size w Wx) := HB.out.trans (HBx.out.mono HB.out.size)
            have hDl := HLD.out
            have HS1 : Hid (∀ W, Below Wx.heap.size Wx W → ∀ i u, ((D.take (0)).map (Value.int .i64))[i]? = some u → W.cell? ((⟨g, 0, none⟩ : Addr).add i) = some u) := fun W hW i u h => by
              rw [List.getElem?_map, Option.map_eq_some_iff] at h
              obtain ⟨y9, h8, rfl⟩ := h
              obtain ⟨hi9, rfl⟩ := List.getElem?_eq_some_iff.1 h8
              rw [List.length_take] at hi9
              have h7 := (hW.cell (p := ⟨g, i, none⟩) zgX).trans (row_cell hoX i (by omega))
              rw [List.getElem_take]
              rw [addr_add, Nat.zero_add]
              exact h7
            have HS2 : Hid (∀ W, Below Wx.heap.size Wx W → ∀ i u, ((D.drop (0)).map (Value.int .i64))[i]? = some u → W.cell? ((⟨g, 0, none⟩ : Addr).add i) = some u) := fun W hW i u h => by
              rw [List.getElem?_map, Option.map_eq_some_iff] at h
              obtain ⟨y9, h8, rfl⟩ := h
              obtain ⟨hi9, rfl⟩ := List.getElem?_eq_some_iff.1 h8
              rw [List.length_drop] at hi9
              have h7 := (hW.cell (p := ⟨g, 0 + i, none⟩) zgX).trans (row_cell hoX (0 + i) (by omega))
              rw [List.getElem_drop]
              rw [addr_add]
              exact h7
            have j1 : (0 : Int) ≤ (0 : Int) := by omega
            have j2 : (0 : Int) ≤ (c : Int) := by omega
            have j3 : (0 : Int) ≤ (m : Int) := by omega
            have j4 : (m : Int) ≤ (c : Int) := by omega
            have HIN : Hid (D.take (0) ++ (k : Int) :: D.drop (0) = ordL F (opnK l (k + 1))) := hins
            clear hins hoX
            obtain ⟨jo, hj0, hjn⟩ : ∃ jo : Nat, (0 = c → jo = 0) ∧ (0 ≠ c → jo = 0) := by
              by_cases e : 0 = c
              · exact ⟨0, fun _ => rfl, fun h => absurd e h⟩
              · exact ⟨0, fun h => absurd h e, fun _ => rfl⟩
            have HS3 : Hid (∀ W, Below Wx.heap.size Wx W → ∀ i u, ((D.drop (0)).map (Value.int .i64))[i]? = some u → W.cell? ((⟨g, jo, none⟩ : Addr).add i) = some u) := fun W hW i u h => by
              by_cases e : 0 = c
              · rw [List.drop_of_length_le (by omega)] at h; simp at h
              · rw [hjn e]; exact HS2.out W hW i u h
            clear HS2
            go_upto_region 9 with fail
            refine wp_region_noPanic ?_
            refine Goes.start (S := fun _ => True) (z := 100) (by kernel_rfl) ?_
            have hb : Below Wx.heap.size Wx Wx.drew := Below.drew (Below.refl _ _)
            obtain ⟨H, hH⟩ : ∃ q, q = Wx.heap.size := ⟨_, rfl⟩
            rw [← hH] at hb HS1 HS3
            have zH : w.heap.size ≤ H := by rw [hH]; exact HBX.out.size
            have zz : H ≤ Wx.drew.heap.size := by rw [hH]; exact Nat.le_refl _
            have HBY : Hid (Below H Wx Wx.drew) := hb
            generalize hWW : Wx.drew = Y at HBY zz ⊢
            clear hWW hb hH zgX hgX
            refine Goes.take (i := 1) (oi := ?oi302) (x := ?vx302) ?ho302 (by kernel_rfl) (by kernel_rfl) (by kernel_rfl) (by kernel_rfl) (fun _ _ _ h => h) (Or.inl ⟨?hw302, ?hy302⟩) trivial ?rest302
            case ho302 => (simp only [List.getElem?_toArray, List.getElem?_cons_succ, List.getElem?_cons_zero] <;> rfl)
            case hw302 => rfl
            case hy302 => (intro w' hSw; go_simp; (try with_reducible rfl))
            case rest302 =>
            (try simp only [Act.put, List.setIfInBounds_toArray, List.set_cons_zero, List.set_cons_succ])
            refine Goes.take (i := 2) (oi := ?oi303) (x := ?vx303) ?ho303 (by kernel_rfl) (by kernel_rfl) (by kernel_rfl) (by kernel_rfl) (fun _ _ _ h => h) (Or.inl ⟨?hw303, ?hy303⟩) trivial ?rest303
            case ho303 => (simp only [List.getElem?_toArray, List.getElem?_cons_succ, List.getElem?_cons_zero] <;> rfl)
            case hw303 => rfl
            case hy303 => (intro w' hSw; go_simp; (try with_reducible rfl))
            case rest303 =>
            (try simp only [Act.put, List.setIfInBounds_toArray, List.set_cons_zero, List.set_cons_succ])
            refine Goes.take (i := 3) (oi := ?oi304) (x := .slice (some ⟨g, 0, none⟩) (0) c) ?ho304 (by kernel_rfl) (by kernel_rfl) (by kernel_rfl) (by kernel_rfl) (fun _ _ _ h => h) (Or.inl ⟨?hw304, ?hy304⟩) trivial ?rest304
            case ho304 => (simp only [List.getElem?_toArray, List.getElem?_cons_succ, List.getElem?_cons_zero] <;> rfl)
            case hw304 => rfl
            case hy304 => (intro w' hSw; go_simp; (first | done | with_reducible rfl | exact hwm | go_num | rfl))
            case rest304 =>
            (try simp only [Act.put, List.setIfInBounds_toArray, List.set_cons_zero, List.set_cons_succ])
            refine Goes.take (i := 5) (oi := ?oi305) (x := ?vx305) ?ho305 (by kernel_rfl) (by kernel_rfl) (by kernel_rfl) (by kernel_rfl) (fun _ _ _ h => h) (Or.inl ⟨?hw305, ?hy305⟩) trivial ?rest305
            case ho305 => (simp only [List.getElem?_toArray, List.getElem?_cons_succ, List.getElem?_cons_zero] <;> rfl)
            case hw305 => rfl
            case hy305 => (intro w' hSw; go_simp; (try with_reducible rfl))
            case rest305 =>
            (try simp only [Act.put, List.setIfInBounds_toArray, List.set_cons_zero, List.set_cons_succ])
            refine Goes.take (i := 8) (oi := ?oi306) (x := ?vx306) ?ho306 (by kernel_rfl) (by kernel_rfl) (by kernel_rfl) (by kernel_rfl) (fun _ _ _ h => h) (Or.inl ⟨?hw306, ?hy306⟩) trivial ?rest306
            case ho306 => (simp only [List.getElem?_toArray, List.getElem?_cons_succ, List.getElem?_cons_zero] <;> rfl)
            case hw306 => rfl
            case hy306 => (intro w' hSw; go_simp; (try with_reducible rfl))
            case rest306 =>
            (try simp only [Act.put, List.setIfInBounds_toArray, List.set_cons_zero, List.set_cons_succ])
            refine Goes.take (i := 9) (oi := ?oi307) (x := ?vx307) ?ho307 (by kernel_rfl) (by kernel_rfl) (by kernel_rfl) (by kernel_rfl) (fun _ _ _ h => h) (Or.inl ⟨?hw307, ?hy307⟩) trivial ?rest307
            case ho307 => (simp only [List.getElem?_toArray, List.getElem?_cons_succ, List.getElem?_cons_zero] <;> rfl)
            case hw307 => rfl
            case hy307 => (intro w' hSw; go_simp; (try with_reducible rfl))
            case rest307 =>
            (try simp only [Act.put, List.setIfInBounds_toArray, List.set_cons_zero, List.set_cons_succ])
            refine Goes.take (i := 10) (oi := ?oi308) (x := .slice (some ⟨g, jo, none⟩) (m - (0)) (c - (0))) ?ho308 (by kernel_rfl) (by kernel_rfl) (by kernel_rfl) (by kernel_rfl) (fun _ _ _ h => h) (Or.inl ⟨?hw308, ?hy308⟩) trivial ?rest308
            case ho308 => (simp only [List.getElem?_toArray, List.getElem?_cons_succ, List.getElem?_cons_zero] <;> rfl)
            case hw308 => rfl
            case hy308 =>
              have ej : jo = 0 := by by_cases e : 0 = c; exact hj0 e; exact hjn e
              rw [ej]
              clear hj0 hjn ej
              intro w' hSw
              go_simp
            case rest308 =>
            (try simp only [Act.put, List.setIfInBounds_toArray, List.set_cons_zero, List.set_cons_succ])
            have HLT : Hid (((D.take (0)).map (Value.int .i64)).length = 0) := by show _ = _; rw [List.length_map, List.length_take]; omega
            have HLR : Hid (((D.drop (0)).map (Value.int .i64)).length = m - (0)) := by show _ = _; rw [List.length_map, List.length_drop]; omega
            have HO1 : Hid (∀ u ∈ ((D.take (0)).map (Value.int .i64)), u.oneCell' = true) := fun u hu => by obtain ⟨y, -, rfl⟩ := List.mem_map.1 hu; rfl
            have HO2 : Hid (∀ u ∈ ((D.drop (0)).map (Value.int .i64)), u.oneCell' = true) := fun u hu => by obtain ⟨y, -, rfl⟩ := List.mem_map.1 hu; rfl
            refine Goes.all (rs := [0, 6]) (by kernel_rfl) (by simp) ?_
            refine (Ups.cons (i := 0) (o := ?oo320) ?ho320 (fun KK hKK => ?stp320) (Ups.cons (i := 6) (o := ?oo321) ?ho321 (fun KK hKK => ?stp321) Ups.nil))
            case ho320 => (simp only [List.getElem?_toArray, List.getElem?_cons_zero] <;> rfl)
            case ho321 => (simp only [List.getElem?_toArray, List.getElem?_cons_succ, List.getElem?_cons_zero] <;> rfl)
            case stp320 =>
              go_simp
              refine hKK.out _ _ (Or.inr trivial) ?_
              clear hKK KK
              (try simp only [Act.put, List.setIfInBounds_toArray, List.set_cons_zero, List.set_cons_succ])
              have hb : Below Y.heap.size Y (Y.alloc (.cells #[] 3)) := (Below.refl _ _).alloc (Nat.le_refl _) _
              have own0 : (Y.alloc (.cells #[] 3)).ownsRow H 3 1 (.slice (some ⟨Y.heap.size, 0, none⟩) 0 0) (0) ([]) := ⟨rfl, Or.inr ⟨Y.heap.size, 0, #[], rfl, zz, World.alloc_heap_new Y _, Nat.le_refl _, by unfold maxLen; omega, rfl, rfl⟩⟩
              have zn : Y.heap.size < (Y.alloc (.cells #[] 3)).heap.size := by simp
              generalize hWW : (Y.alloc (.cells #[] 3)) = u330 at hb zn own0 ⊢
              clear hWW
              obtain ⟨b0, eb0⟩ : ∃ q, q = Y.heap.size := ⟨_, rfl⟩
              have y0 : H ≤ b0 := by omega
              rw [← eb0] at zn own0 ⊢
              have z0 : b0 < u330.heap.size := zn
              replace HBY : Hid (Below H Wx u330) := HBY.out.trans (hb.mono zz)
              replace zz : H ≤ u330.heap.size := Nat.le_trans zz hb.size
              clear hb zn eb0
              refine Goes.all (rs := [4, 6]) (by kernel_rfl) (by simp) ?_
              refine (Ups.cons (i := 4) (o := ?oo340) ?ho340 (fun KK hKK => ?stp340) (Ups.cons (i := 6) (o := ?oo341) ?ho341 (fun KK hKK => ?stp341) Ups.nil))
              case ho340 => (simp only [List.getElem?_toArray, List.getElem?_cons_succ, List.getElem?_cons_zero] <;> rfl)
              case ho341 => (simp only [List.getElem?_toArray, List.getElem?_cons_succ, List.getElem?_cons_zero] <;> rfl)
              case stp340 =>
                rw [if_pos (by rfl)]
                refine app_j _ _ (by rfl) H (.slice (some ⟨b0, 0, none⟩) 0 0) 0 [] (by rfl) own0 ⟨g, 0, none⟩ (0) c ((D.take (0)).map (Value.int .i64)) (by rfl) HLT.out (HS1.out _ HBY.out) HO1.out (by omega) zz ?_
                intro v4 u350 own4 hb hk
                have hsz : u330.heap.size ≤ u350.heap.size := hb.size
                replace HBY : Hid (Below H Wx u350) := HBY.out.trans hb
                replace zz : H ≤ u350.heap.size := Nat.le_trans zz hsz
                clear hb hk hsz own0 z0
                refine hKK.out _ _ (Or.inr trivial) ?_
                clear hKK KK
                (try simp only [Act.put, List.setIfInBounds_toArray, List.set_cons_zero, List.set_cons_succ])
                refine Goes.all (rs := [6]) (by kernel_rfl) (by simp) ?_
                refine (Ups.cons (i := 6) (o := ?oo360) ?ho360 (fun KK hKK => ?stp360) Ups.nil)
                case ho360 => (simp only [List.getElem?_toArray, List.getElem?_cons_succ, List.getElem?_cons_zero] <;> rfl)
                case stp360 =>
                  go_simp
                  refine hKK.out _ _ (Or.inr trivial) ?_
                  clear hKK KK
                  (try simp only [Act.put, List.setIfInBounds_toArray, List.set_cons_zero, List.set_cons_succ])
                  have hb : Below u350.heap.size u350 (u350.alloc (.cells #[.int .i64 (k : Int)] 3)) := (Below.refl _ _).alloc (Nat.le_refl _) _
                  have k6 : (u350.alloc (.cells #[.int .i64 (k : Int)] 3)).cell? ⟨u350.heap.size, 0, none⟩ = some (.int .i64 (k : Int)) := bx_al u350 #[.int .i64 (k : Int)] 3 0
                  have zn : u350.heap.size < (u350.alloc (.cells #[.int .i64 (k : Int)] 3)).heap.size := by simp
                  generalize hWW : (u350.alloc (.cells #[.int .i64 (k : Int)] 3)) = u370 at hb zn k6 ⊢
                  clear hWW
                  obtain ⟨b6, eb6⟩ : ∃ q, q = u350.heap.size := ⟨_, rfl⟩
                  have y6 : H ≤ b6 := by omega
                  rw [← eb6] at zn k6 ⊢
                  replace own4 := own_belv own4 hb
                  have z6 : b6 < u370.heap.size := zn
                  replace HBY : Hid (Below H Wx u370) := HBY.out.trans (hb.mono zz)
                  replace zz : H ≤ u370.heap.size := Nat.le_trans zz hb.size
                  clear hb zn eb6
                  refine Goes.all (rs := [7]) (by kernel_rfl) (by simp) ?_
                  refine (Ups.cons (i := 7) (o := ?oo390) ?ho390 (fun KK hKK => ?stp390) Ups.nil)
                  case ho390 => (simp only [List.getElem?_toArray, List.getElem?_cons_succ, List.getElem?_cons_zero] <;> rfl)
                  case stp390 =>
                    rw [if_pos (by rfl)]
                    refine app_i _ _ (by rfl) H v4 (0 + (0)) ([] ++ ((D.take (0)).map (Value.int .i64))) (by rfl) own4 ⟨b6, 0, none⟩ 1 1 [.int .i64 (k : Int)] (by rfl) rfl (fun j u h => by match j, h with | 0, h => (simp only [List.getElem?_cons_zero, Option.some.injEq] at h; subst h; rw [addr_add]; exact k6)) (fun u hu => by simp only [List.mem_singleton] at hu; subst hu; rfl) (by omega) zz ?_
                    intro v7 u380 own7 hb
                    replace HBY : Hid (Below H Wx u380) := HBY.out.trans hb
                    replace zz : H ≤ u380.heap.size := Nat.le_trans zz hb.size
                    clear hb own4 k6 z6
                    refine hKK.out _ _ (Or.inr trivial) ?_
                    clear hKK KK
                    (try simp only [Act.put, List.setIfInBounds_toArray, List.set_cons_zero, List.set_cons_succ])
                    refine Goes.all (rs := [11]) (by kernel_rfl) (by simp) ?_
                    refine (Ups.cons (i := 11) (o := ?oo400) ?ho400 (fun KK hKK => ?stp400) Ups.nil)
                    case ho400 => (simp only [List.getElem?_toArray, List.getElem?_cons_succ, List.getElem?_cons_zero] <;> rfl)
                    case stp400 =>
                      rw [if_pos (by rfl)]
                      refine app_i _ _ (by rfl) H v7 (0 + (0) + 1) ([] ++ ((D.take (0)).map (Value.int .i64)) ++ [.int .i64 (k : Int)]) (by rfl) own7 ⟨g, jo, none⟩ (m - (0)) (c - (0)) ((D.drop (0)).map (Value.int .i64)) (by rfl) HLR.out (HS3.out _ HBY.out) HO2.out (by omega) zz ?_
                      intro v11 u381 own11 hb
                      replace HBY : Hid (Below H Wx u381) := HBY.out.trans hb
                      clear hb own7
                      refine hKK.out _ _ (Or.inr trivial) ?_
                      clear hKK KK
                      (try simp only [Act.put, List.setIfInBounds_toArray, List.set_cons_zero, List.set_cons_succ])
                      have eL : 0 + (0) + 1 + (m - (0)) = (opnK l (k + 1)).length := by rw [hln]; omega
                      have eX : [] ++ ((D.take (0)).map (Value.int .i64)) ++ [Value.int .i64 (k : Int)] ++ ((D.drop (0)).map (Value.int .i64)) = (ordL F (opnK l (k + 1))).map (Value.int .i64) := by rw [← HIN.out]; simp
                      rw [eL, eX] at own11
                      obtain ⟨g9, c9, e9⟩ := own_form own11 (by rw [hln]; omega)
                      subst e9
                      have HOF : Hid (u381.ownsRow w.heap.size 3 1 (.slice (some ⟨g9, 0, none⟩) (opnK l (k + 1)).length c9) (opnK l (k + 1)).length ((ordL F (opnK l (k + 1))).map (Value.int .i64))) := own_base own11 zH
                      have HBF : Hid (Below w.heap.size w u381) := HBX.out.trans (HBY.out.mono zH)
                      clear own11 eX eL
                      refine Goes.take (i := 12) (oi := ?oi411) (x := ?vx411) ?ho411 (by kernel_rfl) (by kernel_rfl) (by kernel_rfl) (by kernel_rfl) (fun _ _ _ h => h) (Or.inl ⟨?hw411, ?hy411⟩) trivial ?rest411
                      case ho411 => (simp only [List.getElem?_toArray, List.getElem?_cons_succ, List.getElem?_cons_zero] <;> rfl)
                      case hw411 => rfl
                      case hy411 => (intro w' hSw; go_simp; (try with_reducible rfl))
                      case rest411 =>
                      (try simp only [Act.put, List.setIfInBounds_toArray, List.set_cons_zero, List.set_cons_succ])
                      refine Goes.done (by kernel_rfl) ?_ _
                      refine NoPanic.normal ?_
                      go_wp2_with fail
                      go_roundg (n - (k + 1))
                      case measure => omega
                      case rel => exact ⟨k + 1, g9, c9, by omega, rfl, by first | rfl | rw [hln], by go_num, HOF, HBF⟩
              case stp341 =>
                go_simp
                refine hKK.out _ _ (Or.inr trivial) ?_
                clear hKK KK
                (try simp only [Act.put, List.setIfInBounds_toArray, List.set_cons_zero, List.set_cons_succ])
                have hb : Below u330.heap.size u330 (u330.alloc (.cells #[.int .i64 (k : Int)] 3)) := (Below.refl _ _).alloc (Nat.le_refl _) _
                have k6 : (u330.alloc (.cells #[.int .i64 (k : Int)] 3)).cell? ⟨u330.heap.size, 0, none⟩ = some (.int .i64 (k : Int)) := bx_al u330 #[.int .i64 (k : Int)] 3 0
                have zn : u330.heap.size < (u330.alloc (.cells #[.int .i64 (k : Int)] 3)).heap.size := by simp
                generalize hWW : (u330.alloc (.cells #[.int .i64 (k : Int)] 3)) = u420 at hb zn k6 ⊢
                clear hWW
                obtain ⟨b6, eb6⟩ : ∃ q, q = u330.heap.size := ⟨_, rfl⟩
                have y6 : H ≤ b6 := by omega
                have d06 : b0 ≠ b6 := by omega
                rw [← eb6] at zn k6 ⊢
                replace own0 := (own_bel own0 hb).1
                replace z0 : b0 < u420.heap.size := Nat.lt_of_lt_of_le z0 hb.size
                have z6 : b6 < u420.heap.size := zn
                replace HBY : Hid (Below H Wx u420) := HBY.out.trans (hb.mono zz)
                replace zz : H ≤ u420.heap.size := Nat.le_trans zz hb.size
                clear hb zn eb6
                refine Goes.all (rs := [4]) (by kernel_rfl) (by simp) ?_
                refine (Ups.cons (i := 4) (o := ?oo430) ?ho430 (fun KK hKK => ?stp430) Ups.nil)
                case ho430 => (simp only [List.getElem?_toArray, List.getElem?_cons_succ, List.getElem?_cons_zero] <;> rfl)
                case stp430 =>
                  rw [if_pos (by rfl)]
                  refine app_j _ _ (by rfl) H (.slice (some ⟨b0, 0, none⟩) 0 0) 0 [] (by rfl) own0 ⟨g, 0, none⟩ (0) c ((D.take (0)).map (Value.int .i64)) (by rfl) HLT.out (HS1.out _ HBY.out) HO1.out (by omega) zz ?_
                  intro v4 u440 own4 hb hk
                  replace k6 : u440.cell? ⟨b6, 0, none⟩ = some (.int .i64 (k : Int)) := (World.cell?_of_block (hk b6 z6 (by simp [Value.ownBlock]; omega))).trans k6
                  have hsz : u420.heap.size ≤ u440.heap.size := hb.size
                  replace z6 : b6 < u440.heap.size := Nat.lt_of_lt_of_le z6 hsz
                  replace HBY : Hid (Below H Wx u440) := HBY.out.trans hb
                  replace zz : H ≤ u440.heap.size := Nat.le_trans zz hsz
                  clear hb hk hsz own0 z0 d06
                  refine hKK.out _ _ (Or.inr trivial) ?_
                  clear hKK KK
                  (try simp only [Act.put, List.setIfInBounds_toArray, List.set_cons_zero, List.set_cons_succ])
                  refine Goes.all (rs := [7]) (by kernel_rfl) (by simp) ?_
                  refine (Ups.cons (i := 7) (o := ?oo460) ?ho460 (fun KK hKK => ?stp460) Ups.nil)
                  case ho460 => (simp only [List.getElem?_toArray, List.getElem?_cons_succ, List.getElem?_cons_zero] <;> rfl)
                  case stp460 =>
                    rw [if_pos (by rfl)]
                    refine app_i _ _ (by rfl) H v4 (0 + (0)) ([] ++ ((D.take (0)).map (Value.int .i64))) (by rfl) own4 ⟨b6, 0, none⟩ 1 1 [.int .i64 (k : Int)] (by rfl) rfl (fun j u h => by match j, h with | 0, h => (simp only [List.getElem?_cons_zero, Option.some.injEq] at h; subst h; rw [addr_add]; exact k6)) (fun u hu => by simp only [List.mem_singleton] at hu; subst hu; rfl) (by omega) zz ?_
                    intro v7 u450 own7 hb
                    replace HBY : Hid (Below H Wx u450) := HBY.out.trans hb
                    replace zz : H ≤ u450.heap.size := Nat.le_trans zz hb.size
                    clear hb own4 k6 z6
                    refine hKK.out _ _ (Or.inr trivial) ?_
                    clear hKK KK
                    (try simp only [Act.put, List.setIfInBounds_toArray, List.set_cons_zero, List.set_cons_succ])
                    refine Goes.all (rs := [11]) (by kernel_rfl) (by simp) ?_
                    refine (Ups.cons (i := 11) (o := ?oo470) ?ho470 (fun KK hKK => ?stp470) Ups.nil)
                    case ho470 => (simp only [List.getElem?_toArray, List.getElem?_cons_succ, List.getElem?_cons_zero] <;> rfl)
                    case stp470 =>
                      rw [if_pos (by rfl)]
                      refine app_i _ _ (by rfl) H v7 (0 + (0) + 1) ([] ++ ((D.take (0)).map (Value.int .i64)) ++ [.int .i64 (k : Int)]) (by rfl) own7 ⟨g, jo, none⟩ (m - (0)) (c - (0)) ((D.drop (0)).map (Value.int .i64)) (by rfl) HLR.out (HS3.out _ HBY.out) HO2.out (by omega) zz ?_
                      intro v11 u451 own11 hb
                      replace HBY : Hid (Below H Wx u451) := HBY.out.trans hb
                      clear hb own7
                      refine hKK.out _ _ (Or.inr trivial) ?_
                      clear hKK KK
                      (try simp only [Act.put, List.setIfInBounds_toArray, List.set_cons_zero, List.set_cons_succ])
                      have eL : 0 + (0) + 1 + (m - (0)) = (opnK l (k + 1)).length := by rw [hln]; omega
                      have eX : [] ++ ((D.take (0)).map (Value.int .i64)) ++ [Value.int .i64 (k : Int)] ++ ((D.drop (0)).map (Value.int .i64)) = (ordL F (opnK l (k + 1))).map (Value.int .i64) := by rw [← HIN.out]; simp
                      rw [eL, eX] at own11
                      obtain ⟨g9, c9, e9⟩ := own_form own11 (by rw [hln]; omega)
                      subst e9
                      have HOF : Hid (u451.ownsRow w.heap.size 3 1 (.slice (some ⟨g9, 0, none⟩) (opnK l (k + 1)).length c9) (opnK l (k + 1)).length ((ordL F (opnK l (k + 1))).map (Value.int .i64))) := own_base own11 zH
                      have HBF : Hid (Below w.heap.size w u451) := HBX.out.trans (HBY.out.mono zH)
                      clear own11 eX eL
                      refine Goes.take (i := 12) (oi := ?oi481) (x := ?vx481) ?ho481 (by kernel_rfl) (by kernel_rfl) (by kernel_rfl) (by kernel_rfl) (fun _ _ _ h => h) (Or.inl ⟨?hw481, ?hy481⟩) trivial ?rest481
                      case ho481 => (simp only [List.getElem?_toArray, List.getElem?_cons_succ, List.getElem?_cons_zero] <;> rfl)
                      case hw481 => rfl
                      case hy481 => (intro w' hSw; go_simp; (try with_reducible rfl))
                      case rest481 =>
                      (try simp only [Act.put, List.setIfInBounds_toArray, List.set_cons_zero, List.set_cons_succ])
                      refine Goes.done (by kernel_rfl) ?_ _
                      refine NoPanic.normal ?_
                      go_wp2_with fail
                      go_roundg (n - (k + 1))
                      case measure => omega
                      case rel => exact ⟨k + 1, g9, c9, by omega, rfl, by first | rfl | rw [hln], by go_num, HOF, HBF⟩
            case stp321 =>
              go_simp
              refine hKK.out _ _ (Or.inr trivial) ?_
              clear hKK KK
              (try simp only [Act.put, List.setIfInBounds_toArray, List.set_cons_zero, List.set_cons_succ])
              have hb : Below Y.heap.size Y (Y.alloc (.cells #[.int .i64 (k : Int)] 3)) := (Below.refl _ _).alloc (Nat.le_refl _) _
              have k6 : (Y.alloc (.cells #[.int .i64 (k : Int)] 3)).cell? ⟨Y.heap.size, 0, none⟩ = some (.int .i64 (k : Int)) := bx_al Y #[.int .i64 (k : Int)] 3 0
              have zn : Y.heap.size < (Y.alloc (.cells #[.int .i64 (k : Int)] 3)).heap.size := by simp
              generalize hWW : (Y.alloc (.cells #[.int .i64 (k : Int)] 3)) = u490 at hb zn k6 ⊢
              clear hWW
              obtain ⟨b6, eb6⟩ : ∃ q, q = Y.heap.size := ⟨_, rfl⟩
              have y6 : H ≤ b6 := by omega
              rw [← eb6] at zn k6 ⊢
              have z6 : b6 < u490.heap.size := zn
              replace HBY : Hid (Below H Wx u490) := HBY.out.trans (hb.mono zz)
              replace zz : H ≤ u490.heap.size := Nat.le_trans zz hb.size
              clear hb zn eb6
              refine Goes.all (rs := [0]) (by kernel_rfl) (by simp) ?_
              refine (Ups.cons (i := 0) (o := ?oo500) ?ho500 (fun KK hKK => ?stp500) Ups.nil)
              case ho500 => (simp only [List.getElem?_toArray, List.getElem?_cons_zero] <;> rfl)
              case stp500 =>
                go_simp
                refine hKK.out _ _ (Or.inr trivial) ?_
                clear hKK KK
                (try simp only [Act.put, List.setIfInBounds_toArray, List.set_cons_zero, List.set_cons_succ])
                have hb : Below u490.heap.size u490 (u490.alloc (.cells #[] 3)) := (Below.refl _ _).alloc (Nat.le_refl _) _
                have own0 : (u490.alloc (.cells #[] 3)).ownsRow H 3 1 (.slice (some ⟨u490.heap.size, 0, none⟩) 0 0) (0) ([]) := ⟨rfl, Or.inr ⟨u490.heap.size, 0, #[], rfl, zz, World.alloc_heap_new u490 _, Nat.le_refl _, by unfold maxLen; omega, rfl, rfl⟩⟩
                have zn : u490.heap.size < (u490.alloc (.cells #[] 3)).heap.size := by simp
                generalize hWW : (u490.alloc (.cells #[] 3)) = u510 at hb zn own0 ⊢
                clear hWW
                obtain ⟨b0, eb0⟩ : ∃ q, q = u490.heap.size := ⟨_, rfl⟩
                have y0 : H ≤ b0 := by omega
                have d06 : b0 ≠ b6 := by omega
                rw [← eb0] at zn own0 ⊢
                replace k6 := (hb.cell (p := ⟨b6, 0, none⟩) z6).trans k6
                replace z6 : b6 < u510.heap.size := Nat.lt_of_lt_of_le z6 hb.size
                have z0 : b0 < u510.heap.size := zn
                replace HBY : Hid (Below H Wx u510) := HBY.out.trans (hb.mono zz)
                replace zz : H ≤ u510.heap.size := Nat.le_trans zz hb.size
                clear hb zn eb0
                refine Goes.all (rs := [4]) (by kernel_rfl) (by simp) ?_
                refine (Ups.cons (i := 4) (o := ?oo520) ?ho520 (fun KK hKK => ?stp520) Ups.nil)
                case ho520 => (simp only [List.getElem?_toArray, List.getElem?_cons_succ, List.getElem?_cons_zero] <;> rfl)
                case stp520 =>
                  rw [if_pos (by rfl)]
                  refine app_j _ _ (by rfl) H (.slice (some ⟨b0, 0, none⟩) 0 0) 0 [] (by rfl) own0 ⟨g, 0, none⟩ (0) c ((D.take (0)).map (Value.int .i64)) (by rfl) HLT.out (HS1.out _ HBY.out) HO1.out (by omega) zz ?_
                  intro v4 u530 own4 hb hk
                  replace k6 : u530.cell? ⟨b6, 0, none⟩ = some (.int .i64 (k : Int)) := (World.cell?_of_block (hk b6 z6 (by simp [Value.ownBlock]; omega))).trans k6
                  have hsz : u510.heap.size ≤ u530.heap.size := hb.size
                  replace z6 : b6 < u530.heap.size := Nat.lt_of_lt_of_le z6 hsz
                  replace HBY : Hid (Below H Wx u530) := HBY.out.trans hb
                  replace zz : H ≤ u530.heap.size := Nat.le_trans zz hsz
                  clear hb hk hsz own0 z0 d06
                  refine hKK.out _ _ (Or.inr trivial) ?_
                  clear hKK KK
                  (try simp only [Act.put, List.setIfInBounds_toArray, List.set_cons_zero, List.set_cons_succ])
                  refine Goes.all (rs := [7]) (by kernel_rfl) (by simp) ?_
                  refine (Ups.cons (i := 7) (o := ?oo550) ?ho550 (fun KK hKK => ?stp550) Ups.nil)
                  case ho550 => (simp only [List.getElem?_toArray, List.getElem?_cons_succ, List.getElem?_cons_zero] <;> rfl)
                  case stp550 =>
                    rw [if_pos (by rfl)]
                    refine app_i _ _ (by rfl) H v4 (0 + (0)) ([] ++ ((D.take (0)).map (Value.int .i64))) (by rfl) own4 ⟨b6, 0, none⟩ 1 1 [.int .i64 (k : Int)] (by rfl) rfl (fun j u h => by match j, h with | 0, h => (simp only [List.getElem?_cons_zero, Option.some.injEq] at h; subst h; rw [addr_add]; exact k6)) (fun u hu => by simp only [List.mem_singleton] at hu; subst hu; rfl) (by omega) zz ?_
                    intro v7 u540 own7 hb
                    replace HBY : Hid (Below H Wx u540) := HBY.out.trans hb
                    replace zz : H ≤ u540.heap.size := Nat.le_trans zz hb.size
                    clear hb own4 k6 z6
                    refine hKK.out _ _ (Or.inr trivial) ?_
                    clear hKK KK
                    (try simp only [Act.put, List.setIfInBounds_toArray, List.set_cons_zero, List.set_cons_succ])
                    refine Goes.all (rs := [11]) (by kernel_rfl) (by simp) ?_
                    refine (Ups.cons (i := 11) (o := ?oo560) ?ho560 (fun KK hKK => ?stp560) Ups.nil)
                    case ho560 => (simp only [List.getElem?_toArray, List.getElem?_cons_succ, List.getElem?_cons_zero] <;> rfl)
                    case stp560 =>
                      rw [if_pos (by rfl)]
                      refine app_i _ _ (by rfl) H v7 (0 + (0) + 1) ([] ++ ((D.take (0)).map (Value.int .i64)) ++ [.int .i64 (k : Int)]) (by rfl) own7 ⟨g, jo, none⟩ (m - (0)) (c - (0)) ((D.drop (0)).map (Value.int .i64)) (by rfl) HLR.out (HS3.out _ HBY.out) HO2.out (by omega) zz ?_
                      intro v11 u541 own11 hb
                      replace HBY : Hid (Below H Wx u541) := HBY.out.trans hb
                      clear hb own7
                      refine hKK.out _ _ (Or.inr trivial) ?_
                      clear hKK KK
                      (try simp only [Act.put, List.setIfInBounds_toArray, List.set_cons_zero, List.set_cons_succ])
                      have eL : 0 + (0) + 1 + (m - (0)) = (opnK l (k + 1)).length := by rw [hln]; omega
                      have eX : [] ++ ((D.take (0)).map (Value.int .i64)) ++ [Value.int .i64 (k : Int)] ++ ((D.drop (0)).map (Value.int .i64)) = (ordL F (opnK l (k + 1))).map (Value.int .i64) := by rw [← HIN.out]; simp
                      rw [eL, eX] at own11
                      obtain ⟨g9, c9, e9⟩ := own_form own11 (by rw [hln]; omega)
                      subst e9
                      have HOF : Hid (u541.ownsRow w.heap.size 3 1 (.slice (some ⟨g9, 0, none⟩) (opnK l (k + 1)).length c9) (opnK l (k + 1)).length ((ordL F (opnK l (k + 1))).map (Value.int .i64))) := own_base own11 zH
                      have HBF : Hid (Below w.heap.size w u541) := HBX.out.trans (HBY.out.mono zH)
                      clear own11 eX eL
                      refine Goes.take (i := 12) (oi := ?oi571) (x := ?vx571) ?ho571 (by kernel_rfl) (by kernel_rfl) (by kernel_rfl) (by kernel_rfl) (fun _ _ _ h => h) (Or.inl ⟨?hw571, ?hy571⟩) trivial ?rest571
                      case ho571 => (simp only [List.getElem?_toArray, List.getElem?_cons_succ, List.getElem?_cons_zero] <;> rfl)
                      case hw571 => rfl
                      case hy571 => (intro w' hSw; go_simp; (try with_reducible rfl))
                      case rest571 =>
                      (try simp only [Act.put, List.setIfInBounds_toArray, List.set_cons_zero, List.set_cons_succ])
                      refine Goes.done (by kernel_rfl) ?_ _
                      refine NoPanic.normal ?_
                      go_wp2_with fail
                      go_roundg (n - (k + 1))
                      case measure => omega
                      case rel => exact ⟨k + 1, g9, c9, by omega, rfl, by first | rfl | rw [hln], by go_num, HOF, HBF⟩
          · obtain ⟨t, rfl⟩ : ∃ t, j = t + 1 := ⟨j - 1, by omega⟩
            have htl : t < D.length := by have := HLD.out; omega
            obtain ⟨ho1, hgz, hcm⟩ := own_bel HO.out HBi.out
            have kd : wr.cell? ⟨g, t, none⟩ = some (.int .i64 D[t]) := row_cell ho1 t htl
            have hdb := HDB.out D[t] (List.getElem_mem htl)
            obtain ⟨y, hy⟩ : ∃ y : Nat, D[t] = y := ⟨D[t].toNat, by omega⟩
            rw [hy] at kd hdb
            have hyl : y < l.length := by omega
            have yn0 : (0 : Int) ≤ (y : Int) := by omega
            have yn1 : (y : Int) < (n : Int) := by omega
            have zg : g < wr.heap.size := Nat.lt_of_lt_of_le hgz HBi.out.size
            have zp : p < wr.heap.size := Nat.lt_of_lt_of_le hpl HBw.out.size
            have kp : wr.cell? ⟨p, 13, none⟩ = some (.slice (some ⟨b, off, none⟩) n cap) := (HBw.out.cell (p := ⟨p, 13, none⟩) hpl).trans hp
            have HC1 : Hid (∀ W, Below wr.heap.size wr W → Calls Tryz.prog 85 #[.pointer (some ⟨b, off + y * 16, none⟩)] W fun e w' => e = .returned (.int .i64 (F (y : Int))) ∧ Below W.heap.size W w') := fun W hW => HSN.out W (HBw.out.trans (hW.mono HBw.out.size)) y hyl
            have HC2 : Hid (∀ W, Below wr.heap.size wr W → Calls Tryz.prog 85 #[.pointer (some ⟨b, off + k * 16, none⟩)] W fun e w' => e = .returned (.int .i64 (F (k : Int))) ∧ Below W.heap.size W w') := fun W hW => HSN.out W (HBw.out.trans (hW.mono HBw.out.size)) k hkl
            have HY : Hid (D[t] = y) := hy
            have t0 : (0 : Int) ≤ (t : Int) := by omega
            have t1 : (0 : Int) < (t : Int) + 1 := by omega
            have t2 : (t : Int) < (m : Int) := by omega
            have hwm : IntKind.i64.wrap (t : Int) = (t : Int) := by rw [IntKind.wrap_i64]; omega
            clear hy hdb ho1 HSN j0
            go_upto_region 7 with fail
            refine wp_region_noPanic ?_
            refine Goes.start (S := fun w' => Below wr.heap.size wr w') (z := 100) (by kernel_rfl) ?_
            refine Goes.take (i := 0) (oi := ?oi101) (x := ?vx101) ?ho101 (by kernel_rfl) (by kernel_rfl) (by kernel_rfl) (by kernel_rfl) (fun _ _ _ h => h) (Or.inl ⟨?hw101, ?hy101⟩) (Below.drew (Below.refl _ _)) ?rest101
            case ho101 => (simp only [List.getElem?_toArray, List.getElem?_cons_zero] <;> rfl)
            case hw101 => rfl
            case hy101 => (intro w' hSw; have kp' := (hSw.cell (p := ⟨p, 13, none⟩) zp).trans kp; have kd' := (hSw.cell (p := ⟨g, t, none⟩) zg).trans kd; go_simp; (try with_reducible rfl))
            case rest101 =>
            (try simp only [Act.put, List.setIfInBounds_toArray, List.set_cons_zero, List.set_cons_succ])
            refine Goes.take (i := 1) (oi := ?oi102) (x := ?vx102) ?ho102 (by kernel_rfl) (by kernel_rfl) (by kernel_rfl) (by kernel_rfl) (fun _ _ _ h => h) (Or.inl ⟨?hw102, ?hy102⟩) (Below.drew (Below.refl _ _)) ?rest102
            case ho102 => (simp only [List.getElem?_toArray, List.getElem?_cons_succ, List.getElem?_cons_zero] <;> rfl)
            case hw102 => rfl
            case hy102 => (intro w' hSw; have kp' := (hSw.cell (p := ⟨p, 13, none⟩) zp).trans kp; have kd' := (hSw.cell (p := ⟨g, t, none⟩) zg).trans kd; go_simp; (try with_reducible rfl))
            case rest102 =>
            (try simp only [Act.put, List.setIfInBounds_toArray, List.set_cons_zero, List.set_cons_succ])
            refine Goes.take (i := 2) (oi := ?oi103) (x := ?vx103) ?ho103 (by kernel_rfl) (by kernel_rfl) (by kernel_rfl) (by kernel_rfl) (fun _ _ _ h => h) (Or.inl ⟨?hw103, ?hy103⟩) (Below.drew (Below.refl _ _)) ?rest103
            case ho103 => (simp only [List.getElem?_toArray, List.getElem?_cons_succ, List.getElem?_cons_zero] <;> rfl)
            case hw103 => rfl
            case hy103 => (intro w' hSw; have kp' := (hSw.cell (p := ⟨p, 13, none⟩) zp).trans kp; have kd' := (hSw.cell (p := ⟨g, t, none⟩) zg).trans kd; go_simp; (try with_reducible rfl))
            case rest103 =>
            (try simp only [Act.put, List.setIfInBounds_toArray, List.set_cons_zero, List.set_cons_succ])
            refine Goes.take (i := 3) (oi := ?oi104) (x := ?vx104) ?ho104 (by kernel_rfl) (by kernel_rfl) (by kernel_rfl) (by kernel_rfl) (fun _ _ _ h => h) (Or.inl ⟨?hw104, ?hy104⟩) (Below.drew (Below.refl _ _)) ?rest104
            case ho104 => (simp only [List.getElem?_toArray, List.getElem?_cons_succ, List.getElem?_cons_zero] <;> rfl)
            case hw104 => rfl
            case hy104 => (intro w' hSw; have kp' := (hSw.cell (p := ⟨p, 13, none⟩) zp).trans kp; have kd' := (hSw.cell (p := ⟨g, t, none⟩) zg).trans kd; go_simp; (try with_reducible rfl))
            case rest104 =>
            (try simp only [Act.put, List.setIfInBounds_toArray, List.set_cons_zero, List.set_cons_succ])
            refine Goes.take (i := 4) (oi := ?oi105) (x := ?vx105) ?ho105 (by kernel_rfl) (by kernel_rfl) (by kernel_rfl) (by kernel_rfl) (fun _ _ _ h => h) (Or.inl ⟨?hw105, ?hy105⟩) (Below.drew (Below.refl _ _)) ?rest105
            case ho105 => (simp only [List.getElem?_toArray, List.getElem?_cons_succ, List.getElem?_cons_zero] <;> rfl)
            case hw105 => rfl
            case hy105 => (intro w' hSw; have kp' := (hSw.cell (p := ⟨p, 13, none⟩) zp).trans kp; have kd' := (hSw.cell (p := ⟨g, t, none⟩) zg).trans kd; go_simp; (try with_reducible rfl))
            case rest105 =>
            (try simp only [Act.put, List.setIfInBounds_toArray, List.set_cons_zero, List.set_cons_succ])
            refine Goes.take (i := 5) (oi := ?oi106) (x := ?vx106) ?ho106 (by kernel_rfl) (by kernel_rfl) (by kernel_rfl) (by kernel_rfl) (fun _ _ _ h => h) (Or.inl ⟨?hw106, ?hy106⟩) (Below.drew (Below.refl _ _)) ?rest106
            case ho106 => (simp only [List.getElem?_toArray, List.getElem?_cons_succ, List.getElem?_cons_zero] <;> rfl)
            case hw106 => rfl
            case hy106 => (intro w' hSw; have kp' := (hSw.cell (p := ⟨p, 13, none⟩) zp).trans kp; have kd' := (hSw.cell (p := ⟨g, t, none⟩) zg).trans kd; go_simp; (try with_reducible rfl))
            case rest106 =>
            (try simp only [Act.put, List.setIfInBounds_toArray, List.set_cons_zero, List.set_cons_succ])
            refine Goes.take (i := 6) (oi := ?oi107) (x := ?vx107) ?ho107 (by kernel_rfl) (by kernel_rfl) (by kernel_rfl) (by kernel_rfl) (fun _ _ _ h => h) (Or.inl ⟨?hw107, ?hy107⟩) (Below.drew (Below.refl _ _)) ?rest107
            case ho107 => (simp only [List.getElem?_toArray, List.getElem?_cons_succ, List.getElem?_cons_zero] <;> rfl)
            case hw107 => rfl
            case hy107 => (intro w' hSw; have kp' := (hSw.cell (p := ⟨p, 13, none⟩) zp).trans kp; have kd' := (hSw.cell (p := ⟨g, t, none⟩) zg).trans kd; go_simp; (try with_reducible rfl))
            case rest107 =>
            (try simp only [Act.put, List.setIfInBounds_toArray, List.set_cons_zero, List.set_cons_succ])
            refine Goes.take (i := 7) (oi := ?oi108) (x := ?vx108) ?ho108 (by kernel_rfl) (by kernel_rfl) (by kernel_rfl) (by kernel_rfl) (fun _ _ _ h => h) (Or.inl ⟨?hw108, ?hy108⟩) (Below.drew (Below.refl _ _)) ?rest108
            case ho108 => (simp only [List.getElem?_toArray, List.getElem?_cons_succ, List.getElem?_cons_zero] <;> rfl)
            case hw108 => rfl
            case hy108 => (intro w' hSw; have kp' := (hSw.cell (p := ⟨p, 13, none⟩) zp).trans kp; have kd' := (hSw.cell (p := ⟨g, t, none⟩) zg).trans kd; go_simp; (try with_reducible rfl))
            case rest108 =>
            (try simp only [Act.put, List.setIfInBounds_toArray, List.set_cons_zero, List.set_cons_succ])
            refine Goes.take (i := 8) (oi := ?oi109) (x := ?vx109) ?ho109 (by kernel_rfl) (by kernel_rfl) (by kernel_rfl) (by kernel_rfl) (fun _ _ _ h => h) (Or.inl ⟨?hw109, ?hy109⟩) (Below.drew (Below.refl _ _)) ?rest109
            case ho109 => (simp only [List.getElem?_toArray, List.getElem?_cons_succ, List.getElem?_cons_zero] <;> rfl)
            case hw109 => rfl
            case hy109 => (intro w' hSw; have kp' := (hSw.cell (p := ⟨p, 13, none⟩) zp).trans kp; have kd' := (hSw.cell (p := ⟨g, t, none⟩) zg).trans kd; go_simp; (try with_reducible rfl))
            case rest109 =>
            (try simp only [Act.put, List.setIfInBounds_toArray, List.set_cons_zero, List.set_cons_succ])
            refine Goes.take (i := 9) (oi := ?oi110) (x := .int .i64 (t : Int)) ?ho110 (by kernel_rfl) (by kernel_rfl) (by kernel_rfl) (by kernel_rfl) (fun _ _ _ h => h) (Or.inl ⟨?hw110, ?hy110⟩) (Below.drew (Below.refl _ _)) ?rest110
            case ho110 => (simp only [List.getElem?_toArray, List.getElem?_cons_succ, List.getElem?_cons_zero] <;> rfl)
            case hw110 => rfl
            case hy110 => (intro w' hSw; have kp' := (hSw.cell (p := ⟨p, 13, none⟩) zp).trans kp; have kd' := (hSw.cell (p := ⟨g, t, none⟩) zg).trans kd; go_simp; (first | done | with_reducible rfl | exact hwm | go_num | rfl))
            case rest110 =>
            (try simp only [Act.put, List.setIfInBounds_toArray, List.set_cons_zero, List.set_cons_succ])
            refine Goes.take (i := 10) (oi := ?oi111) (x := ?vx111) ?ho111 (by kernel_rfl) (by kernel_rfl) (by kernel_rfl) (by kernel_rfl) (fun _ _ _ h => h) (Or.inl ⟨?hw111, ?hy111⟩) (Below.drew (Below.refl _ _)) ?rest111
            case ho111 => (simp only [List.getElem?_toArray, List.getElem?_cons_succ, List.getElem?_cons_zero] <;> rfl)
            case hw111 => rfl
            case hy111 => (intro w' hSw; have kp' := (hSw.cell (p := ⟨p, 13, none⟩) zp).trans kp; have kd' := (hSw.cell (p := ⟨g, t, none⟩) zg).trans kd; go_simp; (try with_reducible rfl))
            case rest111 =>
            (try simp only [Act.put, List.setIfInBounds_toArray, List.set_cons_zero, List.set_cons_succ])
            refine Goes.take (i := 11) (oi := ?oi112) (x := ?vx112) ?ho112 (by kernel_rfl) (by kernel_rfl) (by kernel_rfl) (by kernel_rfl) (fun _ _ _ h => h) (Or.inl ⟨?hw112, ?hy112⟩) (Below.drew (Below.refl _ _)) ?rest112
            case ho112 => (simp only [List.getElem?_toArray, List.getElem?_cons_succ, List.getElem?_cons_zero] <;> rfl)
            case hw112 => rfl
            case hy112 => (intro w' hSw; have kp' := (hSw.cell (p := ⟨p, 13, none⟩) zp).trans kp; have kd' := (hSw.cell (p := ⟨g, t, none⟩) zg).trans kd; go_simp; (try with_reducible rfl))
            case rest112 =>
            (try simp only [Act.put, List.setIfInBounds_toArray, List.set_cons_zero, List.set_cons_succ])
            refine Goes.take (i := 12) (oi := ?oi113) (x := ?vx113) ?ho113 (by kernel_rfl) (by kernel_rfl) (by kernel_rfl) (by kernel_rfl) (fun _ _ _ h => h) (Or.inl ⟨?hw113, ?hy113⟩) (Below.drew (Below.refl _ _)) ?rest113
            case ho113 => (simp only [List.getElem?_toArray, List.getElem?_cons_succ, List.getElem?_cons_zero] <;> rfl)
            case hw113 => rfl
            case hy113 => (intro w' hSw; have kp' := (hSw.cell (p := ⟨p, 13, none⟩) zp).trans kp; have kd' := (hSw.cell (p := ⟨g, t, none⟩) zg).trans kd; go_simp; (try with_reducible rfl))
            case rest113 =>
            (try simp only [Act.put, List.setIfInBounds_toArray, List.set_cons_zero, List.set_cons_succ])
            refine Goes.take (i := 14) (oi := ?oi114) (x := ?vx114) ?ho114 (by kernel_rfl) (by kernel_rfl) (by kernel_rfl) (by kernel_rfl) (fun _ _ _ h => h) (Or.inl ⟨?hw114, ?hy114⟩) (Below.drew (Below.refl _ _)) ?rest114
            case ho114 => (simp only [List.getElem?_toArray, List.getElem?_cons_succ, List.getElem?_cons_zero] <;> rfl)
            case hw114 => rfl
            case hy114 => (intro w' hSw; have kp' := (hSw.cell (p := ⟨p, 13, none⟩) zp).trans kp; have kd' := (hSw.cell (p := ⟨g, t, none⟩) zg).trans kd; go_simp; (try with_reducible rfl))
            case rest114 =>
            (try simp only [Act.put, List.setIfInBounds_toArray, List.set_cons_zero, List.set_cons_succ])
            refine Goes.take (i := 15) (oi := ?oi115) (x := ?vx115) ?ho115 (by kernel_rfl) (by kernel_rfl) (by kernel_rfl) (by kernel_rfl) (fun _ _ _ h => h) (Or.inl ⟨?hw115, ?hy115⟩) (Below.drew (Below.refl _ _)) ?rest115
            case ho115 => (simp only [List.getElem?_toArray, List.getElem?_cons_succ, List.getElem?_cons_zero] <;> rfl)
            case hw115 => rfl
            case hy115 => (intro w' hSw; have kp' := (hSw.cell (p := ⟨p, 13, none⟩) zp).trans kp; have kd' := (hSw.cell (p := ⟨g, t, none⟩) zg).trans kd; go_simp; (try with_reducible rfl))
            case rest115 =>
            (try simp only [Act.put, List.setIfInBounds_toArray, List.set_cons_zero, List.set_cons_succ])
            refine Goes.take (i := 16) (oi := ?oi116) (x := ?vx116) ?ho116 (by kernel_rfl) (by kernel_rfl) (by kernel_rfl) (by kernel_rfl) (fun _ _ _ h => h) (Or.inl ⟨?hw116, ?hy116⟩) (Below.drew (Below.refl _ _)) ?rest116
            case ho116 => (simp only [List.getElem?_toArray, List.getElem?_cons_succ, List.getElem?_cons_zero] <;> rfl)
            case hw116 => rfl
            case hy116 => (intro w' hSw; have kp' := (hSw.cell (p := ⟨p, 13, none⟩) zp).trans kp; have kd' := (hSw.cell (p := ⟨g, t, none⟩) zg).trans kd; go_simp; (try with_reducible rfl))
            case rest116 =>
            (try simp only [Act.put, List.setIfInBounds_toArray, List.set_cons_zero, List.set_cons_succ])
            refine Goes.take (i := 17) (oi := ?oi117) (x := ?vx117) ?ho117 (by kernel_rfl) (by kernel_rfl) (by kernel_rfl) (by kernel_rfl) (fun _ _ _ h => h) (Or.inl ⟨?hw117, ?hy117⟩) (Below.drew (Below.refl _ _)) ?rest117
            case ho117 => (simp only [List.getElem?_toArray, List.getElem?_cons_succ, List.getElem?_cons_zero] <;> rfl)
            case hw117 => rfl
            case hy117 => (intro w' hSw; have kp' := (hSw.cell (p := ⟨p, 13, none⟩) zp).trans kp; have kd' := (hSw.cell (p := ⟨g, t, none⟩) zg).trans kd; go_simp; (try with_reducible rfl))
            case rest117 =>
            (try simp only [Act.put, List.setIfInBounds_toArray, List.set_cons_zero, List.set_cons_succ])
            refine Goes.take (i := 18) (oi := ?oi118) (x := ?vx118) ?ho118 (by kernel_rfl) (by kernel_rfl) (by kernel_rfl) (by kernel_rfl) (fun _ _ _ h => h) (Or.inl ⟨?hw118, ?hy118⟩) (Below.drew (Below.refl _ _)) ?rest118
            case ho118 => (simp only [List.getElem?_toArray, List.getElem?_cons_succ, List.getElem?_cons_zero] <;> rfl)
            case hw118 => rfl
            case hy118 => (intro w' hSw; have kp' := (hSw.cell (p := ⟨p, 13, none⟩) zp).trans kp; have kd' := (hSw.cell (p := ⟨g, t, none⟩) zg).trans kd; go_simp; (try with_reducible rfl))
            case rest118 =>
            (try simp only [Act.put, List.setIfInBounds_toArray, List.set_cons_zero, List.set_cons_succ])
            refine Goes.take (i := 19) (oi := ?oi119) (x := ?vx119) ?ho119 (by kernel_rfl) (by kernel_rfl) (by kernel_rfl) (by kernel_rfl) (fun _ _ _ h => h) (Or.inl ⟨?hw119, ?hy119⟩) (Below.drew (Below.refl _ _)) ?rest119
            case ho119 => (simp only [List.getElem?_toArray, List.getElem?_cons_succ, List.getElem?_cons_zero] <;> rfl)
            case hw119 => rfl
            case hy119 => (intro w' hSw; have kp' := (hSw.cell (p := ⟨p, 13, none⟩) zp).trans kp; have kd' := (hSw.cell (p := ⟨g, t, none⟩) zg).trans kd; go_simp; (try with_reducible rfl))
            case rest119 =>
            (try simp only [Act.put, List.setIfInBounds_toArray, List.set_cons_zero, List.set_cons_succ])
            refine Goes.all (rs := [13]) (by kernel_rfl) (by simp) ?_
            refine Ups.cons (i := 13) (o := ?oo120) ?ho120 (fun KK hKK => ?stp120) Ups.nil
            case ho120 => (simp only [List.getElem?_toArray, List.getElem?_cons_succ, List.getElem?_cons_zero] <;> rfl)
            case stp120 =>
            go_simp
            go_at_call 85
            refine (HC1.out _ (Below.drew (Below.refl _ _))).mono ?_
            rintro e w1 ⟨rfl, hbq⟩
            replace hbq := (Below.drew (Below.refl wr.heap.size wr)).trans hbq
            have HS120 : Hid (Below wr.heap.size wr w1) := hbq
            clear hbq
            dsimp only
            refine hKK.out _ _ (Or.inr HS120.out) ?_
            clear hKK KK
            (try simp only [Act.put, List.setIfInBounds_toArray, List.set_cons_zero, List.set_cons_succ])
            refine Goes.all (rs := [20]) (by kernel_rfl) (by simp) ?_
            refine Ups.cons (i := 20) (o := ?oo121) ?ho121 (fun KK hKK => ?stp121) Ups.nil
            case ho121 => (simp only [List.getElem?_toArray, List.getElem?_cons_succ, List.getElem?_cons_zero] <;> rfl)
            case stp121 =>
            go_simp
            go_at_call 85
            refine (HC2.out _ HS120.out).mono ?_
            rintro e w2 ⟨rfl, hbq⟩
            replace hbq := HS120.out.trans (hbq.mono HS120.out.size)
            have HS121 : Hid (Below wr.heap.size wr w2) := hbq
            clear hbq
            dsimp only
            refine hKK.out _ _ (Or.inr HS121.out) ?_
            clear hKK KK
            (try simp only [Act.put, List.setIfInBounds_toArray, List.set_cons_zero, List.set_cons_succ])
            have HBx : Hid (Below wo.heap.size wo w2) := HBi.out.trans (HS121.out.mono HBi.out.size)
            by_cases hq : F (k : Int) < F (y : Int)
            · have d1 : decide (F (k : Int) < F (y : Int)) = true := decide_eq_true hq
              refine Goes.take (i := 21) (oi := ?oi201) (x := .bool true) ?ho201 (by kernel_rfl) (by kernel_rfl) (by kernel_rfl) (by kernel_rfl) (fun _ _ _ h => h) (Or.inl ⟨?hw201, ?hy201⟩) HS121.out ?rest201
              case ho201 => (simp only [List.getElem?_toArray, List.getElem?_cons_succ, List.getElem?_cons_zero] <;> rfl)
              case hw201 => rfl
              case hy201 => (intro w' hSw; go_simp; (first | done | with_reducible rfl | exact hwm | go_num | rfl))
              case rest201 =>
              (try simp only [Act.put, List.setIfInBounds_toArray, List.set_cons_zero, List.set_cons_succ])
              refine Goes.take (i := 22) (oi := ?oi202) (x := ?vx202) ?ho202 (by kernel_rfl) (by kernel_rfl) (by kernel_rfl) (by kernel_rfl) (fun _ _ _ h => h) (Or.inl ⟨?hw202, ?hy202⟩) HS121.out ?rest202
              case ho202 => (simp only [List.getElem?_toArray, List.getElem?_cons_succ, List.getElem?_cons_zero] <;> rfl)
              case hw202 => rfl
              case hy202 => (intro w' hSw; go_simp; (try with_reducible rfl))
              case rest202 =>
              (try simp only [Act.put, List.setIfInBounds_toArray, List.set_cons_zero, List.set_cons_succ])
              refine Goes.done (by kernel_rfl) ?_ _
              refine NoPanic.normal ?_
              have HG3 : Hid (∀ i (hi : i < D.length), t ≤ i → F (k : Int) < F D[i]) := fun i hi h => by
                by_cases e : i = t
                · subst e; rw [HY.out]; exact hq
                · exact HG.out i hi (by omega)
              go_wp2_with fail
              go_roundg t
              case measure => omega
              case rel => exact ⟨t, by omega, rfl, by go_num, HBx, HG3⟩
            · have d1 : decide (F (k : Int) < F (y : Int)) = false := decide_eq_false hq
              refine Goes.take (i := 21) (oi := ?oi241) (x := .bool false) ?ho241 (by kernel_rfl) (by kernel_rfl) (by kernel_rfl) (by kernel_rfl) (fun _ _ _ h => h) (Or.inl ⟨?hw241, ?hy241⟩) HS121.out ?rest241
              case ho241 => (simp only [List.getElem?_toArray, List.getElem?_cons_succ, List.getElem?_cons_zero] <;> rfl)
              case hw241 => rfl
              case hy241 => (intro w' hSw; go_simp; (first | done | with_reducible rfl | exact hwm | go_num | rfl))
              case rest241 =>
              (try simp only [Act.put, List.setIfInBounds_toArray, List.set_cons_zero, List.set_cons_succ])
              refine Goes.take (i := 22) (oi := ?oi242) (x := ?vx242) ?ho242 (by kernel_rfl) (by kernel_rfl) (by kernel_rfl) (by kernel_rfl) (fun _ _ _ h => h) (Or.inl ⟨?hw242, ?hy242⟩) HS121.out ?rest242
              case ho242 => (simp only [List.getElem?_toArray, List.getElem?_cons_succ, List.getElem?_cons_zero] <;> rfl)
              case hw242 => rfl
              case hy242 => (intro w' hSw; go_simp; (try with_reducible rfl))
              case rest242 =>
              (try simp only [Act.put, List.setIfInBounds_toArray, List.set_cons_zero, List.set_cons_succ])
              refine Goes.done (by kernel_rfl) ?_ _
              refine NoPanic.normal ?_
              obtain ⟨hins, hln⟩ := HE.out (t + 1) (by omega) HG.out (Or.inr ⟨htl, by have h9 := hq; rw [← HY.out] at h9; simpa using h9⟩)
              have hjm : t + 1 ≤ m := hj
              obtain ⟨hoX, hgX, hcX⟩ := own_bel HO.out HBx.out
              have zgX : g < w2.heap.size := Nat.lt_of_lt_of_le hgX HBx.out.size
              have HBX : Hid (Below w.heap.size w w2) := HB.out.trans (HBx.out.mono HB.out.size)
              have hDl := HLD.out
              have HS1 : Hid (∀ W, Below w2.heap.size w2 W → ∀ i u, ((D.take (t + 1)).map (Value.int .i64))[i]? = some u → W.cell? ((⟨g, 0, none⟩ : Addr).add i) = some u) := fun W hW i u h => by
                rw [List.getElem?_map, Option.map_eq_some_iff] at h
                obtain ⟨y9, h8, rfl⟩ := h
                obtain ⟨hi9, rfl⟩ := List.getElem?_eq_some_iff.1 h8
                rw [List.length_take] at hi9
                have h7 := (hW.cell (p := ⟨g, i, none⟩) zgX).trans (row_cell hoX i (by omega))
                rw [List.getElem_take]
                rw [addr_add, Nat.zero_add]
                exact h7
              have HS2 : Hid (∀ W, Below w2.heap.size w2 W → ∀ i u, ((D.drop (t + 1)).map (Value.int .i64))[i]? = some u → W.cell? ((⟨g, t + 1, none⟩ : Addr).add i) = some u) := fun W hW i u h => by
                rw [List.getElem?_map, Option.map_eq_some_iff] at h
                obtain ⟨y9, h8, rfl⟩ := h
                obtain ⟨hi9, rfl⟩ := List.getElem?_eq_some_iff.1 h8
                rw [List.length_drop] at hi9
                have h7 := (hW.cell (p := ⟨g, t + 1 + i, none⟩) zgX).trans (row_cell hoX (t + 1 + i) (by omega))
                rw [List.getElem_drop]
                rw [addr_add]
                exact h7
              have j1 : (0 : Int) ≤ (t : Int) + 1 := by omega
              have j2 : (t : Int) + 1 ≤ (c : Int) := by omega
              have j3 : (t : Int) + 1 ≤ (m : Int) := by omega
              have j4 : (m : Int) ≤ (c : Int) := by omega
              have HIN : Hid (D.take (t + 1) ++ (k : Int) :: D.drop (t + 1) = ordL F (opnK l (k + 1))) := hins
              clear hins hoX
              obtain ⟨jo, hj0, hjn⟩ : ∃ jo : Nat, (t + 1 = c → jo = 0) ∧ (t + 1 ≠ c → jo = t + 1) := by
                by_cases e : t + 1 = c
                · exact ⟨0, fun _ => rfl, fun h => absurd e h⟩
                · exact ⟨t + 1, fun h => absurd h e, fun _ => rfl⟩
              have HS3 : Hid (∀ W, Below w2.heap.size w2 W → ∀ i u, ((D.drop (t + 1)).map (Value.int .i64))[i]? = some u → W.cell? ((⟨g, jo, none⟩ : Addr).add i) = some u) := fun W hW i u h => by
                by_cases e : t + 1 = c
                · rw [List.drop_of_length_le (by omega)] at h; simp at h
                · rw [hjn e]; exact HS2.out W hW i u h
              clear HS2
              go_upto_region 9 with fail
              refine wp_region_noPanic ?_
              refine Goes.start (S := fun _ => True) (z := 100) (by kernel_rfl) ?_
              have hb : Below w2.heap.size w2 w2.drew := Below.drew (Below.refl _ _)
              obtain ⟨H, hH⟩ : ∃ q, q = w2.heap.size := ⟨_, rfl⟩
              rw [← hH] at hb HS1 HS3
              have zH : w.heap.size ≤ H := by rw [hH]; exact HBX.out.size
              have zz : H ≤ w2.drew.heap.size := by rw [hH]; exact Nat.le_refl _
              have HBY : Hid (Below H w2 w2.drew) := hb
              generalize hWW : w2.drew = Y at HBY zz ⊢
              clear hWW hb hH zgX hgX
              refine Goes.take (i := 1) (oi := ?oi1002) (x := ?vx1002) ?ho1002 (by kernel_rfl) (by kernel_rfl) (by kernel_rfl) (by kernel_rfl) (fun _ _ _ h => h) (Or.inl ⟨?hw1002, ?hy1002⟩) trivial ?rest1002
              case ho1002 => (simp only [List.getElem?_toArray, List.getElem?_cons_succ, List.getElem?_cons_zero] <;> rfl)
              case hw1002 => rfl
              case hy1002 => (intro w' hSw; go_simp; (try with_reducible rfl))
              case rest1002 =>
              (try simp only [Act.put, List.setIfInBounds_toArray, List.set_cons_zero, List.set_cons_succ])
              refine Goes.take (i := 2) (oi := ?oi1003) (x := ?vx1003) ?ho1003 (by kernel_rfl) (by kernel_rfl) (by kernel_rfl) (by kernel_rfl) (fun _ _ _ h => h) (Or.inl ⟨?hw1003, ?hy1003⟩) trivial ?rest1003
              case ho1003 => (simp only [List.getElem?_toArray, List.getElem?_cons_succ, List.getElem?_cons_zero] <;> rfl)
              case hw1003 => rfl
              case hy1003 => (intro w' hSw; go_simp; (try with_reducible rfl))
              case rest1003 =>
              (try simp only [Act.put, List.setIfInBounds_toArray, List.set_cons_zero, List.set_cons_succ])
              refine Goes.take (i := 3) (oi := ?oi1004) (x := .slice (some ⟨g, 0, none⟩) (t + 1) c) ?ho1004 (by kernel_rfl) (by kernel_rfl) (by kernel_rfl) (by kernel_rfl) (fun _ _ _ h => h) (Or.inl ⟨?hw1004, ?hy1004⟩) trivial ?rest1004
              case ho1004 => (simp only [List.getElem?_toArray, List.getElem?_cons_succ, List.getElem?_cons_zero] <;> rfl)
              case hw1004 => rfl
              case hy1004 => (intro w' hSw; go_simp; (first | done | with_reducible rfl | exact hwm | go_num | rfl))
              case rest1004 =>
              (try simp only [Act.put, List.setIfInBounds_toArray, List.set_cons_zero, List.set_cons_succ])
              refine Goes.take (i := 5) (oi := ?oi1005) (x := ?vx1005) ?ho1005 (by kernel_rfl) (by kernel_rfl) (by kernel_rfl) (by kernel_rfl) (fun _ _ _ h => h) (Or.inl ⟨?hw1005, ?hy1005⟩) trivial ?rest1005
              case ho1005 => (simp only [List.getElem?_toArray, List.getElem?_cons_succ, List.getElem?_cons_zero] <;> rfl)
              case hw1005 => rfl
              case hy1005 => (intro w' hSw; go_simp; (try with_reducible rfl))
              case rest1005 =>
              (try simp only [Act.put, List.setIfInBounds_toArray, List.set_cons_zero, List.set_cons_succ])
              refine Goes.take (i := 8) (oi := ?oi1006) (x := ?vx1006) ?ho1006 (by kernel_rfl) (by kernel_rfl) (by kernel_rfl) (by kernel_rfl) (fun _ _ _ h => h) (Or.inl ⟨?hw1006, ?hy1006⟩) trivial ?rest1006
              case ho1006 => (simp only [List.getElem?_toArray, List.getElem?_cons_succ, List.getElem?_cons_zero] <;> rfl)
              case hw1006 => rfl
              case hy1006 => (intro w' hSw; go_simp; (try with_reducible rfl))
              case rest1006 =>
              (try simp only [Act.put, List.setIfInBounds_toArray, List.set_cons_zero, List.set_cons_succ])
              refine Goes.take (i := 9) (oi := ?oi1007) (x := ?vx1007) ?ho1007 (by kernel_rfl) (by kernel_rfl) (by kernel_rfl) (by kernel_rfl) (fun _ _ _ h => h) (Or.inl ⟨?hw1007, ?hy1007⟩) trivial ?rest1007
              case ho1007 => (simp only [List.getElem?_toArray, List.getElem?_cons_succ, List.getElem?_cons_zero] <;> rfl)
              case hw1007 => rfl
              case hy1007 => (intro w' hSw; go_simp; (try with_reducible rfl))
              case rest1007 =>
              (try simp only [Act.put, List.setIfInBounds_toArray, List.set_cons_zero, List.set_cons_succ])
              refine Goes.take (i := 10) (oi := ?oi1008) (x := .slice (some ⟨g, jo, none⟩) (m - (t + 1)) (c - (t + 1))) ?ho1008 (by kernel_rfl) (by kernel_rfl) (by kernel_rfl) (by kernel_rfl) (fun _ _ _ h => h) (Or.inl ⟨?hw1008, ?hy1008⟩) trivial ?rest1008
              case ho1008 => (simp only [List.getElem?_toArray, List.getElem?_cons_succ, List.getElem?_cons_zero] <;> rfl)
              case hw1008 => rfl
              case hy1008 =>
                intro w' hSw
                by_cases e : t + 1 = c
                · have e2 : ((t : Int) + 1) = (c : Int) := by omega
                  rw [hj0 e]
                  go_simp
                  intro h9
                  omega
                · have e2 : ((t : Int) + 1) ≠ (c : Int) := by omega
                  rw [hjn e]
                  go_simp
                  omega
              case rest1008 =>
              (try simp only [Act.put, List.setIfInBounds_toArray, List.set_cons_zero, List.set_cons_succ])
              have HLT : Hid (((D.take (t + 1)).map (Value.int .i64)).length = t + 1) := by show _ = _; rw [List.length_map, List.length_take]; omega
              have HLR : Hid (((D.drop (t + 1)).map (Value.int .i64)).length = m - (t + 1)) := by show _ = _; rw [List.length_map, List.length_drop]; omega
              have HO1 : Hid (∀ u ∈ ((D.take (t + 1)).map (Value.int .i64)), u.oneCell' = true) := fun u hu => by obtain ⟨y, -, rfl⟩ := List.mem_map.1 hu; rfl
              have HO2 : Hid (∀ u ∈ ((D.drop (t + 1)).map (Value.int .i64)), u.oneCell' = true) := fun u hu => by obtain ⟨y, -, rfl⟩ := List.mem_map.1 hu; rfl
              refine Goes.all (rs := [0, 6]) (by kernel_rfl) (by simp) ?_
              refine (Ups.cons (i := 0) (o := ?oo1020) ?ho1020 (fun KK hKK => ?stp1020) (Ups.cons (i := 6) (o := ?oo1021) ?ho1021 (fun KK hKK => ?stp1021) Ups.nil))
              case ho1020 => (simp only [List.getElem?_toArray, List.getElem?_cons_zero] <;> rfl)
              case ho1021 => (simp only [List.getElem?_toArray, List.getElem?_cons_succ, List.getElem?_cons_zero] <;> rfl)
              case stp1020 =>
                go_simp
                refine hKK.out _ _ (Or.inr trivial) ?_
                clear hKK KK
                (try simp only [Act.put, List.setIfInBounds_toArray, List.set_cons_zero, List.set_cons_succ])
                have hb : Below Y.heap.size Y (Y.alloc (.cells #[] 3)) := (Below.refl _ _).alloc (Nat.le_refl _) _
                have own0 : (Y.alloc (.cells #[] 3)).ownsRow H 3 1 (.slice (some ⟨Y.heap.size, 0, none⟩) 0 0) (0) ([]) := ⟨rfl, Or.inr ⟨Y.heap.size, 0, #[], rfl, zz, World.alloc_heap_new Y _, Nat.le_refl _, by unfold maxLen; omega, rfl, rfl⟩⟩
                have zn : Y.heap.size < (Y.alloc (.cells #[] 3)).heap.size := by simp
                generalize hWW : (Y.alloc (.cells #[] 3)) = u1030 at hb zn own0 ⊢
                clear hWW
                obtain ⟨b0, eb0⟩ : ∃ q, q = Y.heap.size := ⟨_, rfl⟩
                have y0 : H ≤ b0 := by omega
                rw [← eb0] at zn own0 ⊢
                have z0 : b0 < u1030.heap.size := zn
                replace HBY : Hid (Below H w2 u1030) := HBY.out.trans (hb.mono zz)
                replace zz : H ≤ u1030.heap.size := Nat.le_trans zz hb.size
                clear hb zn eb0
                refine Goes.all (rs := [4, 6]) (by kernel_rfl) (by simp) ?_
                refine (Ups.cons (i := 4) (o := ?oo1040) ?ho1040 (fun KK hKK => ?stp1040) (Ups.cons (i := 6) (o := ?oo1041) ?ho1041 (fun KK hKK => ?stp1041) Ups.nil))
                case ho1040 => (simp only [List.getElem?_toArray, List.getElem?_cons_succ, List.getElem?_cons_zero] <;> rfl)
                case ho1041 => (simp only [List.getElem?_toArray, List.getElem?_cons_succ, List.getElem?_cons_zero] <;> rfl)
                case stp1040 =>
                  rw [if_pos (by rfl)]
                  refine app_j _ _ (by rfl) H (.slice (some ⟨b0, 0, none⟩) 0 0) 0 [] (by rfl) own0 ⟨g, 0, none⟩ (t + 1) c ((D.take (t + 1)).map (Value.int .i64)) (by rfl) HLT.out (HS1.out _ HBY.out) HO1.out (by omega) zz ?_
                  intro v4 u1050 own4 hb hk
                  have hsz : u1030.heap.size ≤ u1050.heap.size := hb.size
                  replace HBY : Hid (Below H w2 u1050) := HBY.out.trans hb
                  replace zz : H ≤ u1050.heap.size := Nat.le_trans zz hsz
                  clear hb hk hsz own0 z0
                  refine hKK.out _ _ (Or.inr trivial) ?_
                  clear hKK KK
                  (try simp only [Act.put, List.setIfInBounds_toArray, List.set_cons_zero, List.set_cons_succ])
                  refine Goes.all (rs := [6]) (by kernel_rfl) (by simp) ?_
                  refine (Ups.cons (i := 6) (o := ?oo1060) ?ho1060 (fun KK hKK => ?stp1060) Ups.nil)
                  case ho1060 => (simp only [List.getElem?_toArray, List.getElem?_cons_succ, List.getElem?_cons_zero] <;> rfl)
                  case stp1060 =>
                    go_simp
                    refine hKK.out _ _ (Or.inr trivial) ?_
                    clear hKK KK
                    (try simp only [Act.put, List.setIfInBounds_toArray, List.set_cons_zero, List.set_cons_succ])
                    have hb : Below u1050.heap.size u1050 (u1050.alloc (.cells #[.int .i64 (k : Int)] 3)) := (Below.refl _ _).alloc (Nat.le_refl _) _
                    have k6 : (u1050.alloc (.cells #[.int .i64 (k : Int)] 3)).cell? ⟨u1050.heap.size, 0, none⟩ = some (.int .i64 (k : Int)) := bx_al u1050 #[.int .i64 (k : Int)] 3 0
                    have zn : u1050.heap.size < (u1050.alloc (.cells #[.int .i64 (k : Int)] 3)).heap.size := by simp
                    generalize hWW : (u1050.alloc (.cells #[.int .i64 (k : Int)] 3)) = u1070 at hb zn k6 ⊢
                    clear hWW
                    obtain ⟨b6, eb6⟩ : ∃ q, q = u1050.heap.size := ⟨_, rfl⟩
                    have y6 : H ≤ b6 := by omega
                    rw [← eb6] at zn k6 ⊢
                    replace own4 := own_belv own4 hb
                    have z6 : b6 < u1070.heap.size := zn
                    replace HBY : Hid (Below H w2 u1070) := HBY.out.trans (hb.mono zz)
                    replace zz : H ≤ u1070.heap.size := Nat.le_trans zz hb.size
                    clear hb zn eb6
                    refine Goes.all (rs := [7]) (by kernel_rfl) (by simp) ?_
                    refine (Ups.cons (i := 7) (o := ?oo1090) ?ho1090 (fun KK hKK => ?stp1090) Ups.nil)
                    case ho1090 => (simp only [List.getElem?_toArray, List.getElem?_cons_succ, List.getElem?_cons_zero] <;> rfl)
                    case stp1090 =>
                      rw [if_pos (by rfl)]
                      refine app_i _ _ (by rfl) H v4 (0 + (t + 1)) ([] ++ ((D.take (t + 1)).map (Value.int .i64))) (by rfl) own4 ⟨b6, 0, none⟩ 1 1 [.int .i64 (k : Int)] (by rfl) rfl (fun j u h => by match j, h with | 0, h => (simp only [List.getElem?_cons_zero, Option.some.injEq] at h; subst h; rw [addr_add]; exact k6)) (fun u hu => by simp only [List.mem_singleton] at hu; subst hu; rfl) (by omega) zz ?_
                      intro v7 u1080 own7 hb
                      replace HBY : Hid (Below H w2 u1080) := HBY.out.trans hb
                      replace zz : H ≤ u1080.heap.size := Nat.le_trans zz hb.size
                      clear hb own4 k6 z6
                      refine hKK.out _ _ (Or.inr trivial) ?_
                      clear hKK KK
                      (try simp only [Act.put, List.setIfInBounds_toArray, List.set_cons_zero, List.set_cons_succ])
                      refine Goes.all (rs := [11]) (by kernel_rfl) (by simp) ?_
                      refine (Ups.cons (i := 11) (o := ?oo1100) ?ho1100 (fun KK hKK => ?stp1100) Ups.nil)
                      case ho1100 => (simp only [List.getElem?_toArray, List.getElem?_cons_succ, List.getElem?_cons_zero] <;> rfl)
                      case stp1100 =>
                        rw [if_pos (by rfl)]
                        refine app_i _ _ (by rfl) H v7 (0 + (t + 1) + 1) ([] ++ ((D.take (t + 1)).map (Value.int .i64)) ++ [.int .i64 (k : Int)]) (by rfl) own7 ⟨g, jo, none⟩ (m - (t + 1)) (c - (t + 1)) ((D.drop (t + 1)).map (Value.int .i64)) (by rfl) HLR.out (HS3.out _ HBY.out) HO2.out (by omega) zz ?_
                        intro v11 u1081 own11 hb
                        replace HBY : Hid (Below H w2 u1081) := HBY.out.trans hb
                        clear hb own7
                        refine hKK.out _ _ (Or.inr trivial) ?_
                        clear hKK KK
                        (try simp only [Act.put, List.setIfInBounds_toArray, List.set_cons_zero, List.set_cons_succ])
                        have eL : 0 + (t + 1) + 1 + (m - (t + 1)) = (opnK l (k + 1)).length := by rw [hln]; omega
                        have eX : [] ++ ((D.take (t + 1)).map (Value.int .i64)) ++ [Value.int .i64 (k : Int)] ++ ((D.drop (t + 1)).map (Value.int .i64)) = (ordL F (opnK l (k + 1))).map (Value.int .i64) := by rw [← HIN.out]; simp
                        rw [eL, eX] at own11
                        obtain ⟨g9, c9, e9⟩ := own_form own11 (by rw [hln]; omega)
                        subst e9
                        have HOF : Hid (u1081.ownsRow w.heap.size 3 1 (.slice (some ⟨g9, 0, none⟩) (opnK l (k + 1)).length c9) (opnK l (k + 1)).length ((ordL F (opnK l (k + 1))).map (Value.int .i64))) := own_base own11 zH
                        have HBF : Hid (Below w.heap.size w u1081) := HBX.out.trans (HBY.out.mono zH)
                        clear own11 eX eL
                        refine Goes.take (i := 12) (oi := ?oi1111) (x := ?vx1111) ?ho1111 (by kernel_rfl) (by kernel_rfl) (by kernel_rfl) (by kernel_rfl) (fun _ _ _ h => h) (Or.inl ⟨?hw1111, ?hy1111⟩) trivial ?rest1111
                        case ho1111 => (simp only [List.getElem?_toArray, List.getElem?_cons_succ, List.getElem?_cons_zero] <;> rfl)
                        case hw1111 => rfl
                        case hy1111 => (intro w' hSw; go_simp; (try with_reducible rfl))
                        case rest1111 =>
                        (try simp only [Act.put, List.setIfInBounds_toArray, List.set_cons_zero, List.set_cons_succ])
                        refine Goes.done (by kernel_rfl) ?_ _
                        refine NoPanic.normal ?_
                        go_wp2_with fail
                        go_roundg (n - (k + 1))
                        case measure => omega
                        case rel => exact ⟨k + 1, g9, c9, by omega, rfl, by first | rfl | rw [hln], by go_num, HOF, HBF⟩
                case stp1041 =>
                  go_simp
                  refine hKK.out _ _ (Or.inr trivial) ?_
                  clear hKK KK
                  (try simp only [Act.put, List.setIfInBounds_toArray, List.set_cons_zero, List.set_cons_succ])
                  have hb : Below u1030.heap.size u1030 (u1030.alloc (.cells #[.int .i64 (k : Int)] 3)) := (Below.refl _ _).alloc (Nat.le_refl _) _
                  have k6 : (u1030.alloc (.cells #[.int .i64 (k : Int)] 3)).cell? ⟨u1030.heap.size, 0, none⟩ = some (.int .i64 (k : Int)) := bx_al u1030 #[.int .i64 (k : Int)] 3 0
                  have zn : u1030.heap.size < (u1030.alloc (.cells #[.int .i64 (k : Int)] 3)).heap.size := by simp
                  generalize hWW : (u1030.alloc (.cells #[.int .i64 (k : Int)] 3)) = u1120 at hb zn k6 ⊢
                  clear hWW
                  obtain ⟨b6, eb6⟩ : ∃ q, q = u1030.heap.size := ⟨_, rfl⟩
                  have y6 : H ≤ b6 := by omega
                  have d06 : b0 ≠ b6 := by omega
                  rw [← eb6] at zn k6 ⊢
                  replace own0 := (own_bel own0 hb).1
                  replace z0 : b0 < u1120.heap.size := Nat.lt_of_lt_of_le z0 hb.size
                  have z6 : b6 < u1120.heap.size := zn
                  replace HBY : Hid (Below H w2 u1120) := HBY.out.trans (hb.mono zz)
                  replace zz : H ≤ u1120.heap.size := Nat.le_trans zz hb.size
                  clear hb zn eb6
                  refine Goes.all (rs := [4]) (by kernel_rfl) (by simp) ?_
                  refine (Ups.cons (i := 4) (o := ?oo1130) ?ho1130 (fun KK hKK => ?stp1130) Ups.nil)
                  case ho1130 => (simp only [List.getElem?_toArray, List.getElem?_cons_succ, List.getElem?_cons_zero] <;> rfl)
                  case stp1130 =>
                    rw [if_pos (by rfl)]
                    refine app_j _ _ (by rfl) H (.slice (some ⟨b0, 0, none⟩) 0 0) 0 [] (by rfl) own0 ⟨g, 0, none⟩ (t + 1) c ((D.take (t + 1)).map (Value.int .i64)) (by rfl) HLT.out (HS1.out _ HBY.out) HO1.out (by omega) zz ?_
                    intro v4 u1140 own4 hb hk
                    replace k6 : u1140.cell? ⟨b6, 0, none⟩ = some (.int .i64 (k : Int)) := (World.cell?_of_block (hk b6 z6 (by simp [Value.ownBlock]; omega))).trans k6
                    have hsz : u1120.heap.size ≤ u1140.heap.size := hb.size
                    replace z6 : b6 < u1140.heap.size := Nat.lt_of_lt_of_le z6 hsz
                    replace HBY : Hid (Below H w2 u1140) := HBY.out.trans hb
                    replace zz : H ≤ u1140.heap.size := Nat.le_trans zz hsz
                    clear hb hk hsz own0 z0 d06
                    refine hKK.out _ _ (Or.inr trivial) ?_
                    clear hKK KK
                    (try simp only [Act.put, List.setIfInBounds_toArray, List.set_cons_zero, List.set_cons_succ])
                    refine Goes.all (rs := [7]) (by kernel_rfl) (by simp) ?_
                    refine (Ups.cons (i := 7) (o := ?oo1160) ?ho1160 (fun KK hKK => ?stp1160) Ups.nil)
                    case ho1160 => (simp only [List.getElem?_toArray, List.getElem?_cons_succ, List.getElem?_cons_zero] <;> rfl)
                    case stp1160 =>
                      rw [if_pos (by rfl)]
                      refine app_i _ _ (by rfl) H v4 (0 + (t + 1)) ([] ++ ((D.take (t + 1)).map (Value.int .i64))) (by rfl) own4 ⟨b6, 0, none⟩ 1 1 [.int .i64 (k : Int)] (by rfl) rfl (fun j u h => by match j, h with | 0, h => (simp only [List.getElem?_cons_zero, Option.some.injEq] at h; subst h; rw [addr_add]; exact k6)) (fun u hu => by simp only [List.mem_singleton] at hu; subst hu; rfl) (by omega) zz ?_
                      intro v7 u1150 own7 hb
                      replace HBY : Hid (Below H w2 u1150) := HBY.out.trans hb
                      replace zz : H ≤ u1150.heap.size := Nat.le_trans zz hb.size
                      clear hb own4 k6 z6
                      refine hKK.out _ _ (Or.inr trivial) ?_
                      clear hKK KK
                      (try simp only [Act.put, List.setIfInBounds_toArray, List.set_cons_zero, List.set_cons_succ])
                      refine Goes.all (rs := [11]) (by kernel_rfl) (by simp) ?_
                      refine (Ups.cons (i := 11) (o := ?oo1170) ?ho1170 (fun KK hKK => ?stp1170) Ups.nil)
                      case ho1170 => (simp only [List.getElem?_toArray, List.getElem?_cons_succ, List.getElem?_cons_zero] <;> rfl)
                      case stp1170 =>
                        rw [if_pos (by rfl)]
                        refine app_i _ _ (by rfl) H v7 (0 + (t + 1) + 1) ([] ++ ((D.take (t + 1)).map (Value.int .i64)) ++ [.int .i64 (k : Int)]) (by rfl) own7 ⟨g, jo, none⟩ (m - (t + 1)) (c - (t + 1)) ((D.drop (t + 1)).map (Value.int .i64)) (by rfl) HLR.out (HS3.out _ HBY.out) HO2.out (by omega) zz ?_
                        intro v11 u1151 own11 hb
                        replace HBY : Hid (Below H w2 u1151) := HBY.out.trans hb
                        clear hb own7
                        refine hKK.out _ _ (Or.inr trivial) ?_
                        clear hKK KK
                        (try simp only [Act.put, List.setIfInBounds_toArray, List.set_cons_zero, List.set_cons_succ])
                        have eL : 0 + (t + 1) + 1 + (m - (t + 1)) = (opnK l (k + 1)).length := by rw [hln]; omega
                        have eX : [] ++ ((D.take (t + 1)).map (Value.int .i64)) ++ [Value.int .i64 (k : Int)] ++ ((D.drop (t + 1)).map (Value.int .i64)) = (ordL F (opnK l (k + 1))).map (Value.int .i64) := by rw [← HIN.out]; simp
                        rw [eL, eX] at own11
                        obtain ⟨g9, c9, e9⟩ := own_form own11 (by rw [hln]; omega)
                        subst e9
                        have HOF : Hid (u1151.ownsRow w.heap.size 3 1 (.slice (some ⟨g9, 0, none⟩) (opnK l (k + 1)).length c9) (opnK l (k + 1)).length ((ordL F (opnK l (k + 1))).map (Value.int .i64))) := own_base own11 zH
                        have HBF : Hid (Below w.heap.size w u1151) := HBX.out.trans (HBY.out.mono zH)
                        clear own11 eX eL
                        refine Goes.take (i := 12) (oi := ?oi1181) (x := ?vx1181) ?ho1181 (by kernel_rfl) (by kernel_rfl) (by kernel_rfl) (by kernel_rfl) (fun _ _ _ h => h) (Or.inl ⟨?hw1181, ?hy1181⟩) trivial ?rest1181
                        case ho1181 => (simp only [List.getElem?_toArray, List.getElem?_cons_succ, List.getElem?_cons_zero] <;> rfl)
                        case hw1181 => rfl
                        case hy1181 => (intro w' hSw; go_simp; (try with_reducible rfl))
                        case rest1181 =>
                        (try simp only [Act.put, List.setIfInBounds_toArray, List.set_cons_zero, List.set_cons_succ])
                        refine Goes.done (by kernel_rfl) ?_ _
                        refine NoPanic.normal ?_
                        go_wp2_with fail
                        go_roundg (n - (k + 1))
                        case measure => omega
                        case rel => exact ⟨k + 1, g9, c9, by omega, rfl, by first | rfl | rw [hln], by go_num, HOF, HBF⟩
              case stp1021 =>
                go_simp
                refine hKK.out _ _ (Or.inr trivial) ?_
                clear hKK KK
                (try simp only [Act.put, List.setIfInBounds_toArray, List.set_cons_zero, List.set_cons_succ])
                have hb : Below Y.heap.size Y (Y.alloc (.cells #[.int .i64 (k : Int)] 3)) := (Below.refl _ _).alloc (Nat.le_refl _) _
                have k6 : (Y.alloc (.cells #[.int .i64 (k : Int)] 3)).cell? ⟨Y.heap.size, 0, none⟩ = some (.int .i64 (k : Int)) := bx_al Y #[.int .i64 (k : Int)] 3 0
                have zn : Y.heap.size < (Y.alloc (.cells #[.int .i64 (k : Int)] 3)).heap.size := by simp
                generalize hWW : (Y.alloc (.cells #[.int .i64 (k : Int)] 3)) = u1190 at hb zn k6 ⊢
                clear hWW
                obtain ⟨b6, eb6⟩ : ∃ q, q = Y.heap.size := ⟨_, rfl⟩
                have y6 : H ≤ b6 := by omega
                rw [← eb6] at zn k6 ⊢
                have z6 : b6 < u1190.heap.size := zn
                replace HBY : Hid (Below H w2 u1190) := HBY.out.trans (hb.mono zz)
                replace zz : H ≤ u1190.heap.size := Nat.le_trans zz hb.size
                clear hb zn eb6
                refine Goes.all (rs := [0]) (by kernel_rfl) (by simp) ?_
                refine (Ups.cons (i := 0) (o := ?oo1200) ?ho1200 (fun KK hKK => ?stp1200) Ups.nil)
                case ho1200 => (simp only [List.getElem?_toArray, List.getElem?_cons_zero] <;> rfl)
                case stp1200 =>
                  go_simp
                  refine hKK.out _ _ (Or.inr trivial) ?_
                  clear hKK KK
                  (try simp only [Act.put, List.setIfInBounds_toArray, List.set_cons_zero, List.set_cons_succ])
                  have hb : Below u1190.heap.size u1190 (u1190.alloc (.cells #[] 3)) := (Below.refl _ _).alloc (Nat.le_refl _) _
                  have own0 : (u1190.alloc (.cells #[] 3)).ownsRow H 3 1 (.slice (some ⟨u1190.heap.size, 0, none⟩) 0 0) (0) ([]) := ⟨rfl, Or.inr ⟨u1190.heap.size, 0, #[], rfl, zz, World.alloc_heap_new u1190 _, Nat.le_refl _, by unfold maxLen; omega, rfl, rfl⟩⟩
                  have zn : u1190.heap.size < (u1190.alloc (.cells #[] 3)).heap.size := by simp
                  generalize hWW : (u1190.alloc (.cells #[] 3)) = u1210 at hb zn own0 ⊢
                  clear hWW
                  obtain ⟨b0, eb0⟩ : ∃ q, q = u1190.heap.size := ⟨_, rfl⟩
                  have y0 : H ≤ b0 := by omega
                  have d06 : b0 ≠ b6 := by omega
                  rw [← eb0] at zn own0 ⊢
                  replace k6 := (hb.cell (p := ⟨b6, 0, none⟩) z6).trans k6
                  replace z6 : b6 < u1210.heap.size := Nat.lt_of_lt_of_le z6 hb.size
                  have z0 : b0 < u1210.heap.size := zn
                  replace HBY : Hid (Below H w2 u1210) := HBY.out.trans (hb.mono zz)
                  replace zz : H ≤ u1210.heap.size := Nat.le_trans zz hb.size
                  clear hb zn eb0
                  refine Goes.all (rs := [4]) (by kernel_rfl) (by simp) ?_
                  refine (Ups.cons (i := 4) (o := ?oo1220) ?ho1220 (fun KK hKK => ?stp1220) Ups.nil)
                  case ho1220 => (simp only [List.getElem?_toArray, List.getElem?_cons_succ, List.getElem?_cons_zero] <;> rfl)
                  case stp1220 =>
                    rw [if_pos (by rfl)]
                    refine app_j _ _ (by rfl) H (.slice (some ⟨b0, 0, none⟩) 0 0) 0 [] (by rfl) own0 ⟨g, 0, none⟩ (t + 1) c ((D.take (t + 1)).map (Value.int .i64)) (by rfl) HLT.out (HS1.out _ HBY.out) HO1.out (by omega) zz ?_
                    intro v4 u1230 own4 hb hk
                    replace k6 : u1230.cell? ⟨b6, 0, none⟩ = some (.int .i64 (k : Int)) := (World.cell?_of_block (hk b6 z6 (by simp [Value.ownBlock]; omega))).trans k6
                    have hsz : u1210.heap.size ≤ u1230.heap.size := hb.size
                    replace z6 : b6 < u1230.heap.size := Nat.lt_of_lt_of_le z6 hsz
                    replace HBY : Hid (Below H w2 u1230) := HBY.out.trans hb
                    replace zz : H ≤ u1230.heap.size := Nat.le_trans zz hsz
                    clear hb hk hsz own0 z0 d06
                    refine hKK.out _ _ (Or.inr trivial) ?_
                    clear hKK KK
                    (try simp only [Act.put, List.setIfInBounds_toArray, List.set_cons_zero, List.set_cons_succ])
                    refine Goes.all (rs := [7]) (by kernel_rfl) (by simp) ?_
                    refine (Ups.cons (i := 7) (o := ?oo1250) ?ho1250 (fun KK hKK => ?stp1250) Ups.nil)
                    case ho1250 => (simp only [List.getElem?_toArray, List.getElem?_cons_succ, List.getElem?_cons_zero] <;> rfl)
                    case stp1250 =>
                      rw [if_pos (by rfl)]
                      refine app_i _ _ (by rfl) H v4 (0 + (t + 1)) ([] ++ ((D.take (t + 1)).map (Value.int .i64))) (by rfl) own4 ⟨b6, 0, none⟩ 1 1 [.int .i64 (k : Int)] (by rfl) rfl (fun j u h => by match j, h with | 0, h => (simp only [List.getElem?_cons_zero, Option.some.injEq] at h; subst h; rw [addr_add]; exact k6)) (fun u hu => by simp only [List.mem_singleton] at hu; subst hu; rfl) (by omega) zz ?_
                      intro v7 u1240 own7 hb
                      replace HBY : Hid (Below H w2 u1240) := HBY.out.trans hb
                      replace zz : H ≤ u1240.heap.size := Nat.le_trans zz hb.size
                      clear hb own4 k6 z6
                      refine hKK.out _ _ (Or.inr trivial) ?_
                      clear hKK KK
                      (try simp only [Act.put, List.setIfInBounds_toArray, List.set_cons_zero, List.set_cons_succ])
                      refine Goes.all (rs := [11]) (by kernel_rfl) (by simp) ?_
                      refine (Ups.cons (i := 11) (o := ?oo1260) ?ho1260 (fun KK hKK => ?stp1260) Ups.nil)
                      case ho1260 => (simp only [List.getElem?_toArray, List.getElem?_cons_succ, List.getElem?_cons_zero] <;> rfl)
                      case stp1260 =>
                        rw [if_pos (by rfl)]
                        refine app_i _ _ (by rfl) H v7 (0 + (t + 1) + 1) ([] ++ ((D.take (t + 1)).map (Value.int .i64)) ++ [.int .i64 (k : Int)]) (by rfl) own7 ⟨g, jo, none⟩ (m - (t + 1)) (c - (t + 1)) ((D.drop (t + 1)).map (Value.int .i64)) (by rfl) HLR.out (HS3.out _ HBY.out) HO2.out (by omega) zz ?_
                        intro v11 u1241 own11 hb
                        replace HBY : Hid (Below H w2 u1241) := HBY.out.trans hb
                        clear hb own7
                        refine hKK.out _ _ (Or.inr trivial) ?_
                        clear hKK KK
                        (try simp only [Act.put, List.setIfInBounds_toArray, List.set_cons_zero, List.set_cons_succ])
                        have eL : 0 + (t + 1) + 1 + (m - (t + 1)) = (opnK l (k + 1)).length := by rw [hln]; omega
                        have eX : [] ++ ((D.take (t + 1)).map (Value.int .i64)) ++ [Value.int .i64 (k : Int)] ++ ((D.drop (t + 1)).map (Value.int .i64)) = (ordL F (opnK l (k + 1))).map (Value.int .i64) := by rw [← HIN.out]; simp
                        rw [eL, eX] at own11
                        obtain ⟨g9, c9, e9⟩ := own_form own11 (by rw [hln]; omega)
                        subst e9
                        have HOF : Hid (u1241.ownsRow w.heap.size 3 1 (.slice (some ⟨g9, 0, none⟩) (opnK l (k + 1)).length c9) (opnK l (k + 1)).length ((ordL F (opnK l (k + 1))).map (Value.int .i64))) := own_base own11 zH
                        have HBF : Hid (Below w.heap.size w u1241) := HBX.out.trans (HBY.out.mono zH)
                        clear own11 eX eL
                        refine Goes.take (i := 12) (oi := ?oi1271) (x := ?vx1271) ?ho1271 (by kernel_rfl) (by kernel_rfl) (by kernel_rfl) (by kernel_rfl) (fun _ _ _ h => h) (Or.inl ⟨?hw1271, ?hy1271⟩) trivial ?rest1271
                        case ho1271 => (simp only [List.getElem?_toArray, List.getElem?_cons_succ, List.getElem?_cons_zero] <;> rfl)
                        case hw1271 => rfl
                        case hy1271 => (intro w' hSw; go_simp; (try with_reducible rfl))
                        case rest1271 =>
                        (try simp only [Act.put, List.setIfInBounds_toArray, List.set_cons_zero, List.set_cons_succ])
                        refine Goes.done (by kernel_rfl) ?_ _
                        refine NoPanic.normal ?_
                        go_wp2_with fail
                        go_roundg (n - (k + 1))
                        case measure => omega
                        case rel => exact ⟨k + 1, g9, c9, by omega, rfl, by first | rfl | rw [hln], by go_num, HOF, HBF⟩
      · have e3 : (opnS l k != 3) = true := by simp [h3]
        have HO2 : Hid (wr.ownsRow w.heap.size 3 1 (.slice (some ⟨g, 0, none⟩) (opnK l (k + 1)).length c) (opnK l (k + 1)).length ((ordL F (opnK l (k + 1))).map (Value.int .i64))) := by show World.ownsRow _ _ _ _ _ _ _; rw [opn_no h3]; exact HO.out
        have eL : (opnK l k).length = (opnK l (k + 1)).length := by rw [opn_no h3]
        generalize opnS l k = S at *
        go_wp2_with fail
        go_roundg (n - (k + 1))
        case measure => omega
        case rel => exact ⟨k + 1, g, c, by omega, rfl, by rw [eL], by go_num, HO2, HB⟩
    · have ek : k = n := by omega
      have eo : opnK l k = opnL l := by unfold opnL; rw [HN.out, ek]
      have hki : ¬ (k : Int) < (n : Int) := by omega
      rw [eo] at HO ⊢
      go_wp2_with fail
      go_ret
      exact ⟨g, c, rfl, HO.out, HB.out⟩
end Go.Proofs.YtcbgedlckcjjnaaGreat
