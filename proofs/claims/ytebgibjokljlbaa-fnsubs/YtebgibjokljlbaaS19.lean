/- What the draws of chapter 6's model give: a control, a list of numbers; nothing that was in memory turns but the source; no condition. -/
import Derived.Test.YtebgibjokljlbaaRows
import Derived.WalkSmall
import Derived.Maps.AppendAt
import Derived.Deep.RegionHeld3
import Derived.Test.YtebgibjokljlbaaS01
import Derived.Test.YtebgibjokljlbaaS02
import Derived.Test.YtebgibjokljlbaaS03
namespace Go.Proofs.Ytebgibjokljlbaa
open Go.RowKit
set_option linter.unusedVariables false
set_option linter.unusedSimpArgs false
theorem app_intC {ops : Array Oper} {rest : List Oper} {o : Oper} {a : Act} {Q : Exit → Act → World → Prop} (w : World) (hgd : o.guard = none) (s x : Operand)
    (ho : o.op = .call { callee := .builtin .append, args := #[s, x], argTypes := #[65, 65] }) (base : Nat) (v : Value) (n : Nat) (xs : List Value) (hs : a.eval s = v)
    (hown : w.ownsRow base 2 1 v n xs) (y : Int) (hx : a.eval x = .slice (some ⟨w.heap.size, 0, none⟩) 1 1) (hn : n ≤ 1000000) (hb : base ≤ w.heap.size)
    (h : ∀ v' w', w'.ownsRow base 2 1 v' (n + 1) (xs ++ [.int .i64 y]) → Below base w w' → wpList Try.prog ops Q rest (a.put o.dst v') w') :
    wpList Try.prog ops Q (o :: rest) a (w.alloc (.cells #[.int .i64 y] 2)) := by
  obtain ⟨i0, hi, hz0, hz1, hz2⟩ := info_parts info_i64
  refine wpList_append_own _ hgd s x 65 ho base 2 i0 (.int .i64 0) 1 8 Try.underlying65 hi hz0 hz1 hz2 rfl (by decide) v n xs hs (hown.alloc _) ⟨w.heap.size, 0, none⟩ 1 1 [.int .i64 y] hx rfl ?_ ?_ ?_ ?_ ?_ ?_
  · exact cell_one_new _ _ _
  · intro u hu; simp at hu; subst hu; rfl
  · unfold maxLen; omega
  · omega
  · simp; omega
  · intro v' w' h1 h2 _
    refine h v' w' h1 ?_
    have hba : Below base w (w.alloc (.cells #[.int .i64 y] 2)) := (Below.refl _ _).alloc hb _
    exact hba.grown h2 (by simp; omega) (fun k hk => (hown.lt k hk).1)
theorem own_dr {sb base : Nat} {w w' : World} {t : TypeId} {sz : Nat} {v : Value} {n : Nat} {xs : List Value} (h : w.ownsRow base t sz v n xs) (hd : Dr sb w w') (hs : sb < base) : w'.ownsRow base t sz v n xs := by
  obtain ⟨h1, h2 | ⟨g, cap, cur, e, hg, hh, r⟩⟩ := h
  · exact ⟨h1, Or.inl h2⟩
  · have hlt : g < w.heap.size := by
      apply Classical.byContradiction; intro hn
      rw [Array.getElem?_eq_none (by omega)] at hh; cases hh
    exact ⟨h1, Or.inr ⟨g, cap, cur, e, hg, by rw [hd.block g hlt (by omega)]; exact hh, r⟩⟩
theorem own_formC {w : World} {base : Nat} {t : TypeId} {sz : Nat} {v : Value} {n : Nat} {xs : List Value} (h : w.ownsRow base t sz v n xs) : ∃ a cap, v = .slice a n cap := by
  obtain ⟨_, ⟨e, hz⟩ | ⟨g, cap, cur, e, _⟩⟩ := h
  · exact ⟨none, 0, by rw [e, hz]⟩
  · exact ⟨_, cap, e⟩
theorem own_ri {w : World} {base : Nat} {v : Value} {l : List Int} (h : w.ownsRow base 2 1 v l.length (l.map (Value.int .i64))) : ∃ a cap, v = .slice a l.length cap ∧ RI w a l := by
  have h' := h
  obtain ⟨_, ⟨e, hz⟩ | ⟨g, cap, cur, e, _⟩⟩ := h
  · have : l = [] := List.length_eq_zero_iff.1 hz
    subst this
    exact ⟨none, 0, e, RI.nil _ _⟩
  · subst e
    refine ⟨_, cap, rfl, ⟨?_⟩⟩
    by_cases hl : l = []
    · exact Or.inl hl
    · refine Or.inr ⟨g, 0, rfl, fun i hi => ?_⟩
      have := h'.cellAt i (by omega)
      rw [Nat.zero_add, this, List.getElem?_map, List.getD_eq_getElem?_getD, List.getElem?_eq_getElem hi]
      rfl
def OwI (w : World) (base : Nat) (v : Value) (l : List Int) : Prop := w.ownsRow base 2 1 v l.length (l.map (Value.int .i64))
set_option maxHeartbeats 2000000 in
theorem dOthers (sb : Nat) (a : Option Addr) (len cap : Nat) (zs : List Int) (K : Int) (w : World)
    (hs : Src w sb (.slice a len cap) K) (hr : BRow .u8 w a len cap zs) (hl : RowLt sb a zs) (hK : K ≤ 900000) :
    Calls Try.prog 77 #[.pointer (some ⟨sb, 0, none⟩)] w fun e w' => ∃ (l : List Int) (ad : Option Addr) (lc : Nat), e = .returned (.slice ad l.length lc) ∧ OwI w' w.heap.size (.slice ad l.length lc) l ∧ l.length ≤ 4 ∧ Dr sb w w' ∧ Src w' sb (.slice a len cap) (K + 20) := by
  have hlt := hs.lt
  have HR : Hid (∀ W, Dr sb w W → BRow .u8 W a len cap zs) := fun W h => hr.below hl (h.below (Nat.le_of_lt hlt))
  have HS : Hid _ := hs
  clear hr hs
  go_enter Try.func77, Try.ntmps77
  go_wp2_with fail
  obtain ⟨W0, hW0⟩ : ∃ W0, w.alloc (.cells #[] 2) = W0 := ⟨_, rfl⟩
  have D0 : Hid (Dr sb w W0) := by rw [← hW0]; exact (Dr.refl _ _).then ((Below.refl _ _).alloc (Nat.le_refl _) _) (Nat.le_refl _)
  have S0 : Hid (Src W0 sb (.slice a len cap) K) := by rw [← hW0]; exact HS.out.alloc _
  have O0 : Hid (OwI W0 w.heap.size (.slice (some ⟨w.heap.size, 0, none⟩) 0 0) []) := by rw [← hW0]; show World.ownsRow _ _ _ _ _ _ _; exact World.ownsRow_made w #[] 0 (Nat.le_refl _) (by decide) rfl
  have z0 : W0.heap.size = w.heap.size + 1 := by rw [← hW0]; simp
  simp only [hW0, ← z0]
  clear hW0 HS
  have hp := sPickD sb a len cap zs _ [0, 1, 2, 1, 4] 2 W0 S0.out (HR.out _ D0.out) hl (by omega) (by simp) (by simp)
  simp only [List.length_cons, List.length_nil, List.map_cons, List.map_nil, Nat.zero_add, Nat.reduceAdd] at hp
  refine hp.mono ?_
  clear hp
  rintro e w1 ⟨c0, rfl, hm, st, s1⟩
  simp only [List.mem_cons, List.not_mem_nil, or_false] at hm
  have hc0 : 0 ≤ c0 ∧ c0 ≤ 4 := by omega
  clear hm
  have D1 : Hid (Dr sb w w1) := D0.out.trans st
  have O1 : Hid (OwI w1 w.heap.size (.slice (some ⟨w.heap.size, 0, none⟩) 0 0) []) := own_dr O0.out st hlt
  have S1 : Hid _ := s1
  clear st s1 D0 O0 S0 z0
  go_wp2_with fail
  go_loopw [3, 4] (fun t i wr => ∃ (l : List Int) (c : Int) (va : Option Addr) (vn vc : Nat), 0 ≤ c ∧ c + l.length ≤ 4 ∧ i = .int .i64 c ∧ t = .slice va vn vc ∧ Hid (OwI wr w.heap.size (.slice va vn vc) l) ∧ Hid (Dr sb w wr) ∧ Hid (Src wr sb (.slice a len cap) (K + 1 + 4 * l.length))) (fun _ i _ => (intOf i).toNat)
  case atStart => exact ⟨[], c0, _, _, _, hc0.1, by simp; omega, rfl, rfl, O1.out, D1.out, by show Src _ _ _ _; simpa using S1.out⟩
  case round =>
    obtain ⟨l, c, va, vn, vc, hc, hcl, rfl, rfl, O, D, S⟩ := hrel
    clear O1 D1 S1
    by_cases hpos : 0 < c
    · have hdl : l.length ≤ 1000000 := by omega
      have HL : Hid (c + l.length ≤ 4) := hcl
      go_wp2_with fail
      refine (sNext sb a len cap zs _ 57 wr S.out (HR.out _ D.out) hl (by omega) (by omega)).mono ?_
      rintro e w2 ⟨x2, rfl, p2, q2, st, s1⟩
      have dd : Hid (Dr sb wr w2) := st.dr
      replace S : Hid _ := s1
      clear st s1
      go_wp2_with fail
      refine (sNext sb a len cap zs _ 57 w2 S.out (HR.out _ (D.out.trans dd.out)) hl (by omega) (by omega)).mono ?_
      rintro e w3 ⟨x3, rfl, p3, q3, st, s1⟩
      replace dd : Hid (Dr sb wr w3) := dd.out.trans st.dr
      replace S : Hid _ := s1
      clear st s1
      go_wp2_with fail
      refine (sNext sb a len cap zs _ 57 w3 S.out (HR.out _ (D.out.trans dd.out)) hl (by omega) (by omega)).mono ?_
      rintro e w4 ⟨x4, rfl, p4, q4, st, s1⟩
      replace dd : Hid (Dr sb wr w4) := dd.out.trans st.dr
      replace S : Hid _ := s1
      clear st s1
      go_wp2_with fail
      have hp := sPickD sb a len cap zs _ [8 + x2, 8 + x3, 8 + x4, 7] 2 w4 S.out (HR.out _ (D.out.trans dd.out)) hl (by omega) (by simp) (by simp)
      simp only [List.length_cons, List.length_nil, List.map_cons, List.map_nil, Nat.zero_add, Nat.reduceAdd] at hp
      refine hp.mono ?_
      clear hp
      rintro e w5 ⟨y, rfl, -, st, s1⟩
      replace dd : Hid (Dr sb wr w5) := dd.out.trans st
      replace S : Hid _ := s1
      have D5 : Hid (Dr sb w w5) := D.out.trans dd.out
      have O5 : Hid (OwI w5 w.heap.size (.slice va vn vc) l) := own_dr O.out dd.out hlt
      have hsz : w.heap.size ≤ w5.heap.size := D5.out.size
      clear st s1 dd O D
      go_wp2_with (at_builtin; refine app_intC w5 rfl _ _ rfl w.heap.size (.slice va vn vc) _ _ (by rfl) O5.out _ (by rfl) hdl hsz ?_; intro v6 w6 ho6 hb6; obtain ⟨va6, vc6, hv6⟩ := own_formC ho6; subst hv6; have O6 : Hid _ := ho6; have D6 : Hid (Dr sb w w6) := D5.out.then hb6 (Nat.le_refl _); have S6 : Hid _ := S.out.below hb6 hlt; clear ho6 hb6)
      go_roundw
      case rel => exact ⟨l ++ [y], c - 1, va6, _, vc6, by omega, by have := HL.out; simp; omega, by go_num, rfl, (by show World.ownsRow _ _ _ _ _ _ _; rw [List.length_append, List.map_append]; exact O6.out), D6, (by show Src _ _ _ _; exact S6.out.mono (by simp; omega))⟩
      case measure => simp [intOf]; omega
    · go_wp2_with fail
      go_ret
      obtain ⟨ad, lc, e⟩ := own_formC O.out
      have h := O.out
      rw [e] at h
      exact ⟨l, ad, lc, congrArg Ending.returned e, h, by omega, D.out, S.out.mono (by omega)⟩
theorem own_keepC {base : Nat} {w w' : World} {v : Value} {l : List Int} (h : OwI w base v l) (hk : ∀ b, base ≤ b → w'.heap[b]? = w.heap[b]?) : OwI w' base v l := by
  obtain ⟨h1, h2 | ⟨g, cap, cur, e, hg, hh, r⟩⟩ := h
  · exact ⟨h1, Or.inl h2⟩
  · exact ⟨h1, Or.inr ⟨g, cap, cur, e, hg, by rw [hk g hg]; exact hh, r⟩⟩
theorem owi_ri {w : World} {base : Nat} {ad : Option Addr} {n cap : Nat} {l : List Int} (h : OwI w base (.slice ad n cap) l) : RI w ad l := by
  obtain ⟨a', cap', e, hr⟩ := own_ri h
  simp only [Value.slice.injEq] at e
  obtain ⟨rfl, -, -⟩ := e
  exact hr
theorem Src.drew {w : World} {sb : Nat} {v : Value} {K : Int} (h : Src w sb v K) : Src w.drew sb v K := h.bel (Below.drew (Below.refl _ _))
end Go.Proofs.Ytebgibjokljlbaa
namespace Go.Proofs.Ytebgibjokljlbaa
open Go.RowKit
set_option linter.unusedVariables false
set_option linter.unusedSimpArgs false
set_option maxHeartbeats 2000000 in
theorem dControlB (sb : Nat) (a : Option Addr) (len cap : Nat) (zs : List Int) (K : Int) (w : World)
    (hs : Src w sb (.slice a len cap) K) (hr : BRow .u8 w a len cap zs) (hl : RowLt sb a zs) (hK : K ≤ 900000) :
    Calls Try.prog 112 #[.pointer (some ⟨sb, 0, none⟩)] w fun e w' => ∃ x y z, e = .returned (.agg #[.int .i64 x, .int .i64 y, .int .i64 z]) ∧ (-1 ≤ x ∧ x ≤ 100 ∧ -1 ≤ y ∧ y ≤ 100 ∧ -1 ≤ z ∧ z ≤ 100) ∧ Dr sb w w' ∧ Src w' sb (.slice a len cap) (K + 10) := by
  have hlt := hs.lt
  have HR : Hid (∀ W, Dr sb w W → BRow .u8 W a len cap zs) := fun W h => hr.below hl (h.below (Nat.le_of_lt hlt))
  have HS : Hid _ := hs
  clear hr hs
  go_enter Try.func112, Try.ntmps112
  go_wp2_with fail
  obtain ⟨W0, hW0⟩ : ∃ W0, w.alloc (.cells #[.int .i64 0, .int .i64 0, .int .i64 0] 62) = W0 := ⟨_, rfl⟩
  have D0 : Hid (Dr sb w W0) := by rw [← hW0]; exact (Dr.refl _ _).then ((Below.refl _ _).alloc (Nat.le_refl _) _) (Nat.le_refl _)
  have S0 : Hid (Src W0 sb (.slice a len cap) K) := by rw [← hW0]; exact HS.out.alloc _
  have C0 : Hid (∀ o, W0.cell? ⟨w.heap.size, o, none⟩ = (#[.int .i64 0, .int .i64 0, .int .i64 0] : Array Value)[o]? ∧ W0.frozen? ⟨w.heap.size, o, none⟩ = false) := by rw [← hW0]; intro o; exact ⟨by simp [go_sem], by simp [go_sem]⟩
  have z0 : W0.heap.size = w.heap.size + 1 := by rw [← hW0]; simp
  simp only [hW0]
  clear hW0 HS
  have hne : w.heap.size ≠ sb := by omega
  have d : Hid (Dr sb w W0) := D0
  have s : Hid _ := S0
  have E0 : Hid (Dr sb W0 W0) := Dr.refl _ _
  refine (sNext sb a len cap zs _ 57 W0 s.out (HR.out _ d.out) hl (by omega) (by omega)).mono ?_
  rintro e w1 ⟨x1, rfl, p1, q1, st, s1⟩
  have dd : Hid (Dr sb W0 w1) := st.dr
  replace s : Hid _ := s1
  clear st s1 d
  go_wp2_with fail
  refine (sNext sb a len cap zs _ 57 w1 s.out (HR.out _ (D0.out.trans dd.out)) hl (by omega) (by omega)).mono ?_
  rintro e w2 ⟨x2, rfl, p2, q2, st, s1⟩
  replace dd : Hid (Dr sb W0 w2) := dd.out.trans st.dr
  replace s : Hid _ := s1
  clear st s1
  go_wp2_with fail
  have hp := sPickD sb a len cap zs _ [64, 8 + x2, 0] 2 w2 s.out (HR.out _ (D0.out.trans dd.out)) hl (by omega) (by simp) (by simp)
  simp only [List.length_cons, List.length_nil, List.map_cons, List.map_nil, Nat.zero_add, Nat.reduceAdd] at hp
  refine hp.mono ?_
  clear hp
  rintro e w3 ⟨x3, rfl, hm3, st, s1⟩
  have HX3 : Hid (-1 ≤ x3 ∧ x3 ≤ 100) := by
    show _ ∧ _
    simp only [List.mem_cons, List.not_mem_nil, or_false] at hm3
    omega
  clear hm3
  replace dd : Hid (Dr sb W0 w3) := dd.out.trans st
  replace s : Hid _ := s1
  clear st s1
  go_wp2_with fail
  refine (sNext sb a len cap zs _ 64 w3 s.out (HR.out _ (D0.out.trans dd.out)) hl (by omega) (by omega)).mono ?_
  rintro e w4 ⟨x4, rfl, p4, q4, st, s1⟩
  replace dd : Hid (Dr sb W0 w4) := dd.out.trans st.dr
  replace s : Hid _ := s1
  clear st s1
  have hz4 : W0.heap.size ≤ w4.heap.size := dd.out.size
  have hne4 : w4.heap.size ≠ sb := by omega
  have hw4 : w.heap.size ≤ w4.heap.size := by omega
  have hw44 : w.heap.size < w4.heap.size := by omega
  have D4 : Hid (Dr sb w w4) := D0.out.trans dd.out
  have C4 : Hid (∀ o, w4.cell? ⟨w.heap.size, o, none⟩ = (#[.int .i64 0, .int .i64 0, .int .i64 0] : Array Value)[o]? ∧ w4.frozen? ⟨w.heap.size, o, none⟩ = false) := fun o => ⟨(dd.out.cell (p := ⟨w.heap.size, o, none⟩) (by dsimp only; omega) hne).trans (C0.out o).1, (dd.out.frozen (p := ⟨w.heap.size, o, none⟩) (by dsimp only; omega) hne).trans (C0.out o).2⟩
  have HX1 : Hid (-1 ≤ 8 + x1 ∧ 8 + x1 ≤ 100) := by show _ ∧ _; omega
  have HX4 : Hid (-1 ≤ x4 ∧ x4 ≤ 100) := by show _ ∧ _; omega
  clear C0 D0 S0 z0 E0 dd hz4
  go_wp2_with fail
  refine (sNext sb a len cap zs _ 14 _ (s.out.alloc _) (HR.out _ (D4.out.then ((Below.refl _ _).alloc (Nat.le_refl _) _) hw4)) hl (by omega) (by omega)).mono ?_
  rintro e w9 ⟨x9, rfl, p9, q9, st, s9'⟩
  have s9 : Hid _ := s9'
  have D9 : Hid (Dr sb w w9) := (D4.out.then ((Below.refl _ _).alloc (Nat.le_refl _) _) hw4).trans st.dr
  have z9 : w4.heap.size < w9.heap.size := by have := st.size; simp at this; omega
  have y9 : w.heap.size < w9.heap.size := by omega
  have g9 : ∀ o, w9.cell? ⟨w4.heap.size, o, none⟩ = (#[.int .i64 (8 + x1), .int .i64 x3, .int .i64 x4] : Array Value)[o]? := fun o => by rw [st.cell hne4]; simp [go_sem]
  have f9 : ∀ o, w9.frozen? ⟨w4.heap.size, o, none⟩ = false := fun o => by rw [st.frozen hne4]; simp [go_sem]
  have r9 : ∀ o, w9.cell? ⟨w.heap.size, o, none⟩ = (#[.int .i64 0, .int .i64 0, .int .i64 0] : Array Value)[o]? := fun o => by rw [st.cell hne, ← (C4.out o).1]; exact (((Below.refl _ _).alloc (Nat.le_refl _) _).cell (by dsimp only; omega))
  have rf9 : ∀ o, w9.frozen? ⟨w.heap.size, o, none⟩ = false := fun o => by rw [st.frozen hne, ← (C4.out o).2]; exact (((Below.refl _ _).alloc (Nat.le_refl _) _).frozen (by dsimp only; omega))
  clear st s9' s C4 D4
  generalize 8 + x1 = X at *
  generalize w4.heap.size = cb at *
  generalize hrb : w.heap.size = rb at *
  have Hrb : Hid (w.heap.size = rb) := hrb
  clear hrb
  by_cases h0 : x9 = 0
  · have h0' : (x9 == 0) = true := by simp [h0]
    go_wp2_with fail
    have hp := sPickD sb a len cap zs _ [7, 65] 2 w9 s9.out (HR.out _ D9.out) hl (by omega) (by simp) (by simp)
    simp only [List.length_cons, List.length_nil, List.map_cons, List.map_nil, Nat.zero_add, Nat.reduceAdd] at hp
    refine hp.mono ?_
    clear hp
    rintro e w10 ⟨r, rfl, hmr, dd, s1⟩
    have HXR : Hid (-1 ≤ r ∧ r ≤ 100) := by
      show _ ∧ _
      simp only [List.mem_cons, List.not_mem_nil, or_false] at hmr
      omega
    clear hmr
    have D10 : Hid (Dr sb w w10) := D9.out.trans dd
    have g10 : ∀ o, w10.cell? ⟨cb, o, none⟩ = (#[.int .i64 X, .int .i64 x3, .int .i64 x4] : Array Value)[o]? := fun o => (dd.cell (p := ⟨cb, o, none⟩) (by dsimp only; omega) hne4).trans (g9 o)
    have f10 : ∀ o, w10.frozen? ⟨cb, o, none⟩ = false := fun o => (dd.frozen (p := ⟨cb, o, none⟩) (by dsimp only; omega) hne4).trans (f9 o)
    have r10 : ∀ o, w10.cell? ⟨rb, o, none⟩ = (#[.int .i64 0, .int .i64 0, .int .i64 0] : Array Value)[o]? := fun o => (dd.cell (p := ⟨rb, o, none⟩) (by dsimp only; omega) hne).trans (r9 o)
    have rf10 : ∀ o, w10.frozen? ⟨rb, o, none⟩ = false := fun o => (dd.frozen (p := ⟨rb, o, none⟩) (by dsimp only; omega) hne).trans (rf9 o)
    have s10 : Hid _ := s1
    clear dd s1 g9 f9 r9 rf9
    go_wp2_with fail
    refine bodyPost_ret (v := .agg #[.int .i64 r, .int .i64 x3, .int .i64 x4]) (by simp [results, Try.results112, go_sem, g10, r10, f10, rf10, Nat.ne_of_lt hw44, Nat.ne_of_gt hw44]) rfl ⟨r, x3, x4, rfl, ⟨HXR.out.1, HXR.out.2, HX3.out.1, HX3.out.2, HX4.out.1, HX4.out.2⟩, ?_, ?_⟩
    · exact D10.out.then (B := w.heap.size) (by rw [Hrb.out]; go_grown) (Nat.le_refl _)
    · exact (s10.out.below (B := rb) (by go_grown) hlt).mono (by omega)
  · have h0a : (x9 == 0) = false := by simp [h0]
    clear h0
    by_cases h0 : x9 = 1
    · have h0' : (x9 == 1) = true := by simp [h0]
      go_wp2_with fail
      have hp := sPickD sb a len cap zs _ [-1, 65] 2 w9 s9.out (HR.out _ D9.out) hl (by omega) (by simp) (by simp)
      simp only [List.length_cons, List.length_nil, List.map_cons, List.map_nil, Nat.zero_add, Nat.reduceAdd] at hp
      refine hp.mono ?_
      clear hp
      rintro e w10 ⟨r, rfl, hmr, dd, s1⟩
      have HXR : Hid (-1 ≤ r ∧ r ≤ 100) := by
        show _ ∧ _
        simp only [List.mem_cons, List.not_mem_nil, or_false] at hmr
        omega
      clear hmr
      have D10 : Hid (Dr sb w w10) := D9.out.trans dd
      have g10 : ∀ o, w10.cell? ⟨cb, o, none⟩ = (#[.int .i64 X, .int .i64 x3, .int .i64 x4] : Array Value)[o]? := fun o => (dd.cell (p := ⟨cb, o, none⟩) (by dsimp only; omega) hne4).trans (g9 o)
      have f10 : ∀ o, w10.frozen? ⟨cb, o, none⟩ = false := fun o => (dd.frozen (p := ⟨cb, o, none⟩) (by dsimp only; omega) hne4).trans (f9 o)
      have r10 : ∀ o, w10.cell? ⟨rb, o, none⟩ = (#[.int .i64 0, .int .i64 0, .int .i64 0] : Array Value)[o]? := fun o => (dd.cell (p := ⟨rb, o, none⟩) (by dsimp only; omega) hne).trans (r9 o)
      have rf10 : ∀ o, w10.frozen? ⟨rb, o, none⟩ = false := fun o => (dd.frozen (p := ⟨rb, o, none⟩) (by dsimp only; omega) hne).trans (rf9 o)
      have s10 : Hid _ := s1
      clear dd s1 g9 f9 r9 rf9
      go_wp2_with fail
      refine bodyPost_ret (v := .agg #[.int .i64 X, .int .i64 r, .int .i64 x4]) (by simp [results, Try.results112, go_sem, g10, r10, f10, rf10, Nat.ne_of_lt hw44, Nat.ne_of_gt hw44]) rfl ⟨X, r, x4, rfl, ⟨HX1.out.1, HX1.out.2, HXR.out.1, HXR.out.2, HX4.out.1, HX4.out.2⟩, ?_, ?_⟩
      · exact D10.out.then (B := w.heap.size) (by rw [Hrb.out]; go_grown) (Nat.le_refl _)
      · exact (s10.out.below (B := rb) (by go_grown) hlt).mono (by omega)
    · have h0b : (x9 == 1) = false := by simp [h0]
      clear h0
      by_cases h0 : x9 = 2
      · have h0' : (x9 == 2) = true := by simp [h0]
        go_wp2_with fail
        have hp := sPickD sb a len cap zs _ [-1, 64] 2 w9 s9.out (HR.out _ D9.out) hl (by omega) (by simp) (by simp)
        simp only [List.length_cons, List.length_nil, List.map_cons, List.map_nil, Nat.zero_add, Nat.reduceAdd] at hp
        refine hp.mono ?_
        clear hp
        rintro e w10 ⟨r, rfl, hmr, dd, s1⟩
        have HXR : Hid (-1 ≤ r ∧ r ≤ 100) := by
          show _ ∧ _
          simp only [List.mem_cons, List.not_mem_nil, or_false] at hmr
          omega
        clear hmr
        have D10 : Hid (Dr sb w w10) := D9.out.trans dd
        have g10 : ∀ o, w10.cell? ⟨cb, o, none⟩ = (#[.int .i64 X, .int .i64 x3, .int .i64 x4] : Array Value)[o]? := fun o => (dd.cell (p := ⟨cb, o, none⟩) (by dsimp only; omega) hne4).trans (g9 o)
        have f10 : ∀ o, w10.frozen? ⟨cb, o, none⟩ = false := fun o => (dd.frozen (p := ⟨cb, o, none⟩) (by dsimp only; omega) hne4).trans (f9 o)
        have r10 : ∀ o, w10.cell? ⟨rb, o, none⟩ = (#[.int .i64 0, .int .i64 0, .int .i64 0] : Array Value)[o]? := fun o => (dd.cell (p := ⟨rb, o, none⟩) (by dsimp only; omega) hne).trans (r9 o)
        have rf10 : ∀ o, w10.frozen? ⟨rb, o, none⟩ = false := fun o => (dd.frozen (p := ⟨rb, o, none⟩) (by dsimp only; omega) hne).trans (rf9 o)
        have s10 : Hid _ := s1
        clear dd s1 g9 f9 r9 rf9
        go_wp2_with fail
        refine bodyPost_ret (v := .agg #[.int .i64 X, .int .i64 x3, .int .i64 r]) (by simp [results, Try.results112, go_sem, g10, r10, f10, rf10, Nat.ne_of_lt hw44, Nat.ne_of_gt hw44]) rfl ⟨X, x3, r, rfl, ⟨HX1.out.1, HX1.out.2, HX3.out.1, HX3.out.2, HXR.out.1, HXR.out.2⟩, ?_, ?_⟩
        · exact D10.out.then (B := w.heap.size) (by rw [Hrb.out]; go_grown) (Nat.le_refl _)
        · exact (s10.out.below (B := rb) (by go_grown) hlt).mono (by omega)
      · have h0c : (x9 == 2) = false := by simp [h0]
        go_wp2_with fail
        refine bodyPost_ret (v := .agg #[.int .i64 X, .int .i64 x3, .int .i64 x4]) (by simp [results, Try.results112, go_sem, g9, r9, f9, rf9, Nat.ne_of_lt hw44, Nat.ne_of_gt hw44]) rfl ⟨X, x3, x4, rfl, ⟨HX1.out.1, HX1.out.2, HX3.out.1, HX3.out.2, HX4.out.1, HX4.out.2⟩, ?_, ?_⟩
        · exact D9.out.then (B := w.heap.size) (by rw [Hrb.out]; go_grown) (Nat.le_refl _)
        · exact (s9.out.below (B := rb) (by go_grown) hlt).mono (by omega)
end Go.Proofs.Ytebgibjokljlbaa
