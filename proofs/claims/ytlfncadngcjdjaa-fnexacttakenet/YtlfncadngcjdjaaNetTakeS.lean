/- The model's l12Take and TakeNet; nothing that was in memory turns; the condition is that there are at most a million parts. Written by mknet17.py. -/
import Derived.Test.YtlfncadngcjdjaaRows
import Derived.Test.YtlfncadngcjdjaaBase
import Derived.Test.YtlfncadngcjdjaaBytes
import Derived.Test.YtlfncadngcjdjaaMem
import Derived.Test.YtlfncadngcjdjaaMemOpen
import Derived.Test.YtlfncadngcjdjaaMemRow
import Derived.Test.YtlfncadngcjdjaaHBase
import Derived.Test.YtlfncadngcjdjaaHMark
import Derived.Test.YtlfncadngcjdjaaBox
import Derived.Test.YtlfncadngcjdjaaSubBox
import Derived.Test.YtlfncadngcjdjaaAgg
import Derived.Test.YtlfncadngcjdjaaElMark
import Derived.Test.YtlfncadngcjdjaaMSegs
import Derived.Test.YtlfncadngcjdjaaRegionU
import Derived.Test.YtlfncadngcjdjaaHSegs
import Derived.Test.YtlfncadngcjdjaaAppBytes
import Derived.Test.YtlfncadngcjdjaaApp
import Derived.Test.YtlfncadngcjdjaaMemApp
import Derived.Test.YtlfncadngcjdjaaSeg
import Derived.Test.YtlfncadngcjdjaaSegFS
import Derived.Test.YtlfncadngcjdjaaSegFI
import Derived.Test.YtlfncadngcjdjaaStrip
import Derived.Test.YtlfncadngcjdjaaRegS
import Derived.Test.YtlfncadngcjdjaaHBool
import Derived.Test.YtlfncadngcjdjaaHSegT
import Derived.Test.YtlfncadngcjdjaaNetSeg
import Derived.Test.YtlfncadngcjdjaaNetDef
import Derived.Test.YtlfncadngcjdjaaNetSpF
import Derived.Test.YtlfncadngcjdjaaNetImF
import Derived.Test.YtlfncadngcjdjaaHNet
import Derived.Test.YtlfncadngcjdjaaSegR
import Derived.Test.YtlfncadngcjdjaaNetBx
import Derived.Test.YtlfncadngcjdjaaNetR
import Derived.Test.YtlfncadngcjdjaaNetImC
import Derived.Test.YtlfncadngcjdjaaNetSpC
import Derived.Test.YtlfncadngcjdjaaRegionQ
import Derived.Test.YtlfncadngcjdjaaNetAsk
import Derived.Test.YtlfncadngcjdjaaNetDef2
import Derived.Test.YtlfncadngcjdjaaNetTy
import Derived.Test.YtlfncadngcjdjaaNetRow
import Derived.Test.YtlfncadngcjdjaaNetCat
import Derived.Test.YtlfncadngcjdjaaNetDel
import Derived.Test.YtlfncadngcjdjaaNetTake
import Derived.Deep.RegionHeld3
import Derived.Deep.DeepCutAuto
import Derived.Deep.DeepMust
import Derived.Deep.MidRow
namespace Go.Proofs.Ytlfncadngcjdjaa
open Go.RowKit
set_option linter.unusedVariables false
set_option maxRecDepth 8000
theorem run_app_row (w : World) (ty : TypeId) (base : Nat) (v : Value) (n : Nat) (xs : List Value) (hown : w.ownsRow base 31 12 v n xs)
    (ad : Option Addr) (m c : Nat) (news : List Value) (hnil : ad = none → m = 0 ∧ c = 0) (hl : news.length = m * 12) (hnews : ∀ q, ad = some q → ∀ j u, news[j]? = some u → w.cell? (q.add j) = some u) (h1 : ∀ u ∈ news, u.oneCell' = true) (hn : n + m ≤ 8388608) (hb : base ≤ w.heap.size) :
    ∃ va vc w', (Builtin.append_ #[24, 24] ty #[v, .slice ad m c]).run Try.prog w = .ok (.slice va (n + m) vc) w' ∧ w'.ownsRow base 31 12 (.slice va (n + m) vc) (n + m) (xs ++ news) ∧ Below base w w' ∧ (v ≠ Value.slice none 0 0 → Value.slice va (n + m) vc ≠ Value.slice none 0 0) := by
  obtain ⟨i0, hi, hz0, hz1, hz2⟩ := info_parts info_SZ
  cases ad with
  | none =>
    obtain ⟨rfl, rfl⟩ := hnil rfl
    have e : news = [] := List.length_eq_zero_iff.1 (by simpa using hl)
    subst e
    have hrun := run_append_owned_none (P := Try.prog) w base 24 ty 31 i0 12 Try.underlying24 hi v n _ hown
    obtain ⟨va, vc, e⟩ := ownsRow_form hown
    subst e
    exact ⟨va, vc, w, hrun, by rw [List.append_nil]; exact hown, Below.refl _ _, fun h => h⟩
  | some ad =>
    obtain ⟨v', w', q0, q1, q2, q3, q4⟩ := run_append_own_at (P := Try.prog) w base 24 ty 31 i0 _ 12 96 Try.underlying24 hi hz0 hz1 hz2 rfl (by decide) v n xs hown ad m c news hl (hnews ad rfl) h1 (by unfold maxLen; omega) (by omega) hb
    obtain ⟨va, vc, e⟩ := ownsRow_form q1
    subst e
    exact ⟨va, vc, w', q0, q1, (Below.refl _ _).grown q2 hb (fun k hk => (hown.lt k hk).1), fun h e => h (q3.1 e).1⟩
theorem app_row_st {ops : Array Oper} {o : Oper} {a : Act} {Q : Exit → Act → World → Prop} {K : Act → World → Prop} {E : Prop} (w : World) (hgd : o.guard = none) (s x : Operand)
    (ho : o.op = .call { callee := .builtin .append, args := #[s, x], argTypes := #[24, 24] }) (base : Nat) (v : Value) (n : Nat) (xs : List Value) (hs : a.eval s = v) (hown : w.ownsRow base 31 12 v n xs)
    (ad : Option Addr) (m c : Nat) (news : List Value) (hx : a.eval x = .slice ad m c) (hnil : ad = none → m = 0 ∧ c = 0) (hl : news.length = m * 12) (hnews : ∀ q, ad = some q → ∀ j u, news[j]? = some u → w.cell? (q.add j) = some u) (h1 : ∀ u ∈ news, u.oneCell' = true) (hn : n + m ≤ 8388608) (hb : base ≤ w.heap.size)
    (hK : ∀ va vc w', w'.ownsRow base 31 12 (.slice va (n + m) vc) (n + m) (xs ++ news) → Below base w w' → (v ≠ Value.slice none 0 0 → Value.slice va (n + m) vc ≠ Value.slice none 0 0) → K (a.put o.dst (.slice va (n + m) vc)) w') :
    if Region.wanted o (yielded ops a.tmps) = true then Oper.wp Try.prog o a w K Q else E := by
  have hw : Region.wanted o (yielded ops a.tmps) = true := by simp [Region.wanted, hgd]
  rw [if_pos hw]
  obtain ⟨va, vc, w', hr, q1, q2, q3⟩ := run_app_row w o.type base v n xs hown ad m c news hnil hl hnews h1 hn hb
  unfold Oper.wp execOp
  simp only [ho, resolve, invoke, builtin, Sem.run_bind, Sem.run_pure, Result.andThen_ok, List.map_toArray, List.map_cons, List.map_nil, hs, hx, hr]
  exact hK va vc w' q1 q2 q3
theorem own_nn {w : World} {base : Nat} {a : Option Addr} {n c : Nat} {xs : List Value} (h : w.ownsRow base 31 12 (.slice a n c) n xs) (hn : Value.slice a n c ≠ .slice none 0 0) : ∃ g, a = some ⟨g, 0, none⟩ := by
  rcases h.2 with ⟨e, -⟩ | ⟨g, cp, cu, e, -⟩
  · exact absurd e hn
  · simp only [Value.slice.injEq] at e; exact ⟨g, e.1⟩
theorem RowT.offb {w w' : World} {lo hi p : Nat} {v : Value} {T : List El3} (h : RowT w lo hi v T) (hv : v.ownBlock ≠ some p) (hn : ∀ b ∈ (T.map (·.2.1)).flatten, b ≠ p) (hk : ∀ b, b ≠ p → w'.heap[b]? = w.heap[b]?) : RowT w' lo hi v T :=
  ⟨ownsRow_below h.own (fun b e => hk b (fun e2 => hv (e2 ▸ e))), h.hv, fun x hx => Sh.Ow.keep _ _ _ _ (fun b hbx => hk b (hn b (List.mem_flatten.2 ⟨x.2.1, List.mem_map.2 ⟨x, hx, rfl⟩, hbx⟩))) (h.el x hx), h.nd, h.rg⟩
set_option maxHeartbeats 8000000 in
theorem sL12Take {w : World} {lo hi g m1 vc k p : Nat} {PA : Array Value} {T : List El3} (hR : RowT w lo hi (.slice (some ⟨g, 0, none⟩) (m1 + 1) vc) T) (hT : T.length = m1 + 1) (hkm : k ≤ m1) (hm60 : m1 ≤ 60) (kP : ∀ o, w.cell? ⟨p, o, none⟩ = PA[o]?) (fP : ∀ o, w.frozen? ⟨p, o, none⟩ = false) (zP : p < w.heap.size) (hPs : PA.size = 15) (hP13 : PA[13]? = some (.slice (some ⟨g, 0, none⟩) (m1 + 1) vc)) (hip : hi ≤ p) :
    Calls Try.prog 67 #[.pointer (some ⟨p, 13, none⟩), .int .i64 k] w fun e w' => ∃ g' vc', e = .returned (.agg (T[k]'(by omega)).2.2.toArray) ∧ (∀ o, w'.cell? ⟨p, o, none⟩ = (PA.setIfInBounds 13 (.slice (some ⟨g', 0, none⟩) m1 vc'))[o]?) ∧ (∀ o, w'.frozen? ⟨p, o, none⟩ = false) ∧ RowT w' lo w'.heap.size (.slice (some ⟨g', 0, none⟩) m1 vc') (T.eraseIdx k) ∧ w.heap.size ≤ g' ∧ w.heap.size ≤ w'.heap.size ∧ (∀ b, b < w.heap.size → b ≠ p → w'.heap[b]? = w.heap[b]?) ∧ Below lo w w' := by
  have HPS : Hid (PA.size = 15) := hPs
  clear hPs
  have hR0 := hR
  have hk : k < T.length := by omega
  have hown := hR.own
  rw [hT] at hown
  obtain ⟨lA, lC, lM⟩ := hR.lens hk
  have hcap : m1 + 1 ≤ vc ∧ vc ≤ 9223372036854775807 := by
    obtain ⟨-, ⟨e, -⟩ | ⟨g', cap', cur, e, -, -, q1, q2, -⟩⟩ := hown
    · simp at e
    · simp only [Value.slice.injEq] at e
      obtain ⟨-, -, rfl⟩ := e
      unfold maxLen at q2
      exact ⟨q1, q2⟩
  obtain ⟨hc1, hc2⟩ := hcap
  have hg0 : lo ≤ g := (hown.lt g rfl).1
  have hgh : g < hi := hR.hv g rfl
  have honeA : ∀ u ∈ ((T.take k).map (·.2.2)).flatten, u.oneCell' = true := fun u hu => by
    obtain ⟨c, hc, hu⟩ := List.mem_flatten.1 hu
    obtain ⟨x, hx, rfl⟩ := List.mem_map.1 hc
    exact ow_one (hR.el x (List.mem_of_mem_take hx)) u hu
  have honeC : ∀ u ∈ ((T.drop (k + 1)).map (·.2.2)).flatten, u.oneCell' = true := fun u hu => by
    obtain ⟨c, hc, hu⟩ := List.mem_flatten.1 hu
    obtain ⟨x, hx, rfl⟩ := List.mem_map.1 hc
    exact ow_one (hR.el x (List.mem_of_mem_drop hx)) u hu
  have honeM := ow_one (hR.el _ (List.getElem_mem hk))
  have hsp := cells_split hk
  have hcell : ∀ j, j < (m1 + 1) * 12 → w.cell? ⟨g, j, none⟩ = (T.map (·.2.2)).flatten[j]? := fun j hj => hown.cellAt j hj
  have hrgM := hR.range hk
  obtain ⟨q, hq⟩ : ∃ q, q = m1 - k := ⟨_, rfl⟩
  have lC' : ((T.drop (k + 1)).map (·.2.2)).flatten.length = q * 12 := by rw [lC, hT, hq]; congr 1; omega
  have HEI : Hid (((T.eraseIdx k).map (·.2.2)).flatten = ((T.take k).map (·.2.2)).flatten ++ ((T.drop (k + 1)).map (·.2.2)).flatten) := by show _ = _; rw [List.eraseIdx_eq_take_drop_succ, List.map_append, List.flatten_append]
  have HEL : Hid ((T.eraseIdx k).length = m1) := by show _ = _; rw [List.length_eraseIdx_of_lt hk, hT]; omega
  rw [hsp] at hcell
  have HRT : Hid (∀ (w' : World) (g' vc' : Nat), w'.ownsRow w.heap.size 31 12 (.slice (some ⟨g', 0, none⟩) m1 vc') m1 (((T.take k).map (·.2.2)).flatten ++ ((T.drop (k + 1)).map (·.2.2)).flatten) → (∀ b, b < w.heap.size → b ≠ p → w'.heap[b]? = w.heap[b]?) → w.heap.size ≤ w'.heap.size → RowT w' lo w'.heap.size (.slice (some ⟨g', 0, none⟩) m1 vc') (T.eraseIdx k)) := fun w' g' vc' ho hb hz => RowT.sub hR (List.eraseIdx_sublist T k) (base := w.heap.size) (by rw [HEL.out, HEI.out]; exact ho) (fun b e => (ho.lt b e).2) (fun b h1 h2 _ => hb b (by omega) (by omega)) (Nat.le_refl _) (by omega) (by omega) (fun b e h => by have := (ho.lt b e).1; omega)
  generalize hAA : ((T.take k).map (·.2.2)).flatten = AA at *
  generalize hCC : ((T.drop (k + 1)).map (·.2.2)).flatten = CC at *
  generalize hMM : T[k].2.2 = MM at *
  have HSA : Hid (∀ W, Below w.heap.size w W → ∀ qa, (some ⟨g, 0, none⟩ : Option Addr) = some qa → ∀ j u, AA[j]? = some u → W.cell? (qa.add j) = some u) := fun W hW qa e j u hu => by
    simp only [Option.some.injEq] at e
    subst e
    have hj : j < k * 12 := by rw [← lA]; exact (List.getElem?_eq_some_iff.1 hu).1
    rw [add_none]
    rw [hW.cell (p := ⟨g, 0 + j, none⟩) (show g < _ by omega), Nat.zero_add, hcell _ (by omega), List.getElem?_append_left (by omega)]
    exact hu
  obtain ⟨AD, hAD, HSC⟩ : ∃ AD : Addr, (if vc = k + 1 then some (⟨g, 0, none⟩ : Addr) else some ⟨g, (k + 1) * 12, none⟩) = some AD ∧ Hid (∀ W, Below w.heap.size w W → ∀ qa, (some AD : Option Addr) = some qa → ∀ j u, CC[j]? = some u → W.cell? (qa.add j) = some u) := by
    by_cases h : vc = k + 1
    · refine ⟨⟨g, 0, none⟩, by rw [if_pos h], fun W hW qa e j u hu => ?_⟩
      have h0 : CC = [] := List.length_eq_zero_iff.1 (by rw [lC']; omega)
      rw [h0] at hu; simp at hu
    · refine ⟨⟨g, (k + 1) * 12, none⟩, by rw [if_neg h], fun W hW qa e j u hu => ?_⟩
      simp only [Option.some.injEq] at e
      subst e
      have hj : j < q * 12 := by rw [← lC']; exact (List.getElem?_eq_some_iff.1 hu).1
      rw [add_none, hW.cell (p := ⟨g, (k + 1) * 12 + j, none⟩) (show g < _ by omega), hcell _ (by omega), List.getElem?_append_right (by omega), List.getElem?_append_right (by omega), lA, lM, show (k + 1) * 12 + j - k * 12 - 12 = j by omega]
      exact hu
  have HLA : Hid (AA.length = k * 12) := lA
  have HLC : Hid (CC.length = q * 12) := lC'
  have HOA : Hid _ := honeA
  have HOC : Hid _ := honeC
  have HKQ : Hid (k + q = m1) := by show _ = _; omega
  have HG : Hid (w.rangeAt g (k * 12) MM) := hrgM
  have hgw : g < w.heap.size := by omega
  obtain ⟨e0, e1, e2, e3, e4, e5, e6, e7, e8, e9, e10, e11, hce⟩ := lst12 lM
  obtain ⟨cA, hcA⟩ : ∃ c : Array Value, c = MM.toArray := ⟨_, rfl⟩
  have HCA : Hid _ := hcA
  have HLX : Hid (cA.size = 12) := by show _ = _; rw [hcA, List.size_toArray]; exact lM
  have HIX2 : Hid ((Try.prog.info? 31).map (·.size) = some cA.size) := by show _ = _; rw [HLX.out]; exact info_SG12
  have HIX : Hid ((Try.prog.info? 31).map (·.size) = some MM.length) := by show _ = _; rw [lM]; exact info_SG12
  have HIX3 : Hid ((Try.prog.info? 31).map (·.size) = some cA.toList.length) := by show _ = _; rw [Array.length_toList]; exact HIX2.out
  have HONX : Hid (cA.all (·.oneCell') = true) := by show _ = _; rw [hcA]; exact all_oneCell_toArray honeM
  rw [← hcA]
  have hwr : IntKind.i64.wrap ((k : Int) + 1) = (k : Int) + 1 := by rw [IntKind.wrap_i64]; omega
  have i0 : (0 : Int) ≤ (k : Int) := by omega
  have i1 : (0 : Int) ≤ (k : Int) + 1 := by omega
  have i2 : (k : Int) < (m1 : Int) + 1 := by omega
  have i3 : ((k : Int) + 1).toNat = k + 1 := by omega
  have i5 : k + 1 ≤ m1 + 1 := by omega
  have i7 : (k : Int) ≤ (vc : Int) := by omega
  have i8 : (k : Int) + 1 ≤ (m1 : Int) + 1 := by omega
  have i9 : m1 + 1 - (k + 1) = q := by omega
  clear hAA hCC hMM hsp hcell hown lA lC lC' lM honeA honeC honeM hrgM hR hq hce hcA
  have HNW : Hid (∀ b ∈ ((T.eraseIdx k).map (·.2.1)).flatten, b ≠ w.heap.size) := fun b hb => by have := hR0.rg b ((flat_sub ((List.eraseIdx_sublist T k).map _)).subset hb); omega
  have HWA : Hid (Below w.heap.size w (w.alloc (.cells #[.int .i64 0, .int .i64 0, .bool false, .bool false, .bool false, .int .i64 0, .int .i64 0, .int .i64 0, .int .i64 0, .int .i64 0, .int .i64 0, .slice none 0 0] 31)) ∧ (w.alloc (.cells #[.int .i64 0, .int .i64 0, .bool false, .bool false, .bool false, .int .i64 0, .int .i64 0, .int .i64 0, .int .i64 0, .int .i64 0, .int .i64 0, .slice none 0 0] 31)).heap.size = w.heap.size + 1 ∧ (∀ o, (w.alloc (.cells #[.int .i64 0, .int .i64 0, .bool false, .bool false, .bool false, .int .i64 0, .int .i64 0, .int .i64 0, .int .i64 0, .int .i64 0, .int .i64 0, .slice none 0 0] 31)).cell? ⟨w.heap.size, o, none⟩ = (#[.int .i64 0, .int .i64 0, .bool false, .bool false, .bool false, .int .i64 0, .int .i64 0, .int .i64 0, .int .i64 0, .int .i64 0, .int .i64 0, .slice none 0 0] : Array Value)[o]?) ∧ (∀ o, (w.alloc (.cells #[.int .i64 0, .int .i64 0, .bool false, .bool false, .bool false, .int .i64 0, .int .i64 0, .int .i64 0, .int .i64 0, .int .i64 0, .int .i64 0, .slice none 0 0] 31)).frozen? ⟨w.heap.size, o, none⟩ = false)) := ⟨((Below.refl _ _).alloc (Nat.le_refl _) _), by simp, fun o => by simp [go_sem], fun o => by simp [go_sem]⟩
  clear hR0
  go_enter Try.func67, Try.ntmps67
  go_upto_region 1 with fail
  generalize hWW : (w.alloc (.cells #[.int .i64 0, .int .i64 0, .bool false, .bool false, .bool false, .int .i64 0, .int .i64 0, .int .i64 0, .int .i64 0, .int .i64 0, .int .i64 0, .slice none 0 0] 31)) = W1 at HWA ⊢
  clear hWW
  obtain ⟨hb, hsz, kR, fR⟩ := HWA.out
  clear HWA
  have HB : Hid (Below w.heap.size w W1) := hb
  have kP1 := bx_below kP zP hb
  have fP1 := bxF fP hb zP
  have zP1 := Nat.lt_of_lt_of_le zP hb.size
  replace HG : Hid (W1.rangeAt g (k * 12) MM) := range_below HG.out hb hgw
  have zR : w.heap.size < W1.heap.size := by omega
  clear hb hsz
  clear kP fP
  have HTH : Hid ((W1.alloc (.cells #[.int .i64 0, .int .i64 0, .bool false, .bool false, .bool false, .int .i64 0, .int .i64 0, .int .i64 0, .int .i64 0, .int .i64 0, .int .i64 0, .slice none 0 0] 31)).there W1.heap.size 0 cA.size) := bx_there (bx_al _ _ _) (fx_al _ _ _) (by rw [HLX.out]; rfl)
  have HWN : Hid (Below W1.heap.size W1 ((W1.alloc (.cells #[.int .i64 0, .int .i64 0, .bool false, .bool false, .bool false, .int .i64 0, .int .i64 0, .int .i64 0, .int .i64 0, .int .i64 0, .int .i64 0, .slice none 0 0] 31)).setCells W1.heap.size 0 cA.toList) ∧ W1.heap.size < ((W1.alloc (.cells #[.int .i64 0, .int .i64 0, .bool false, .bool false, .bool false, .int .i64 0, .int .i64 0, .int .i64 0, .int .i64 0, .int .i64 0, .int .i64 0, .slice none 0 0] 31)).setCells W1.heap.size 0 cA.toList).heap.size ∧ (∀ o, ((W1.alloc (.cells #[.int .i64 0, .int .i64 0, .bool false, .bool false, .bool false, .int .i64 0, .int .i64 0, .int .i64 0, .int .i64 0, .int .i64 0, .int .i64 0, .slice none 0 0] 31)).setCells W1.heap.size 0 cA.toList).cell? ⟨W1.heap.size, o, none⟩ = cA[o]?) ∧ (∀ o, ((W1.alloc (.cells #[.int .i64 0, .int .i64 0, .bool false, .bool false, .bool false, .int .i64 0, .int .i64 0, .int .i64 0, .int .i64 0, .int .i64 0, .int .i64 0, .slice none 0 0] 31)).setCells W1.heap.size 0 cA.toList).frozen? ⟨W1.heap.size, o, none⟩ = false)) := ⟨setCells_below (Nat.le_refl _) _ _ _ _ ((Below.refl _ _).alloc (Nat.le_refl _) _), by rw [setCells_size]; simp, bx_setCells (bx_al W1 _ _) (by rw [HLX.out]; rfl), fx_sets (fx_al _ _ _)⟩
  go_upto_region 2 with (first | (refine wpList_load_mid rfl 31 _ rfl _ _ (by rfl) MM _ HG.out Try.underlying31 rfl HIX.out ?_) | (refine wpList_store_mid rfl 31 _ _ rfl _ _ cA (by rfl) (by rw [HCA.out]; rfl) HTH.out HIX2.out HONX.out ?_))
  generalize hWW : ((W1.alloc (.cells #[.int .i64 0, .int .i64 0, .bool false, .bool false, .bool false, .int .i64 0, .int .i64 0, .int .i64 0, .int .i64 0, .int .i64 0, .int .i64 0, .slice none 0 0] 31)).setCells W1.heap.size 0 cA.toList) = V at HWN ⊢
  clear hWW HTH
  obtain ⟨hb, zC, kC, fC⟩ := HWN.out
  clear HWN
  obtain ⟨bC, hq⟩ : ∃ q, q = W1.heap.size := ⟨_, rfl⟩
  rw [← hq] at zC kC fC ⊢
  have lRC : w.heap.size < bC := by rw [hq]; exact zR
  have lP1C : p < bC := by rw [hq]; exact zP1
  have lwC : w.heap.size ≤ bC := by rw [hq]; exact HB.out.size
  clear hq
  replace kR := bx_below kR zR hb
  replace fR := bxF fR hb zR
  replace zR := Nat.lt_of_lt_of_le zR hb.size
  replace kP1 := bx_below kP1 zP1 hb
  replace fP1 := bxF fP1 hb zP1
  replace zP1 := Nat.lt_of_lt_of_le zP1 hb.size
  replace HB : Hid (Below w.heap.size w V) := HB.out.trans (hb.mono HB.out.size)
  clear hb
  have HONX1 := HONX
  clear HONX HIX HIX2 HG
  have zVw : w.heap.size < V.heap.size := by omega
  refine wp_region_noPanic ?_
  refine Goes.start (S := fun w' => Below V.heap.size V w') (z := 19) (by kernel_rfl) ?_
  refine Goes.take (i := 0) (oi := ?oi11) (x := ?vx11) ?ho11 (by kernel_rfl) (by kernel_rfl) (by kernel_rfl) (by kernel_rfl) (fun _ _ _ h => h) (Or.inl ⟨?hw11, ?hy11⟩) (Below.drew (Below.refl _ _)) ?rest11
  case ho11 => (simp only [List.getElem?_toArray, List.getElem?_cons_zero] <;> rfl)
  case hw11 => rfl
  case hy11 => (intro w' hSw; have j0 := bx_below kP1 zP1 hSw; go_simp; (try with_reducible rfl))
  case rest11 =>
  (try simp only [Act.put, List.setIfInBounds_toArray, List.set_cons_zero, List.set_cons_succ])
  refine Goes.take (i := 2) (oi := ?oi12) (x := ?vx12) ?ho12 (by kernel_rfl) (by kernel_rfl) (by kernel_rfl) (by kernel_rfl) (fun _ _ _ h => h) (Or.inl ⟨?hw12, ?hy12⟩) (Below.drew (Below.refl _ _)) ?rest12
  case ho12 => (simp only [List.getElem?_toArray, List.getElem?_cons_succ, List.getElem?_cons_zero] <;> rfl)
  case hw12 => rfl
  case hy12 => (intro w' hSw; have j0 := bx_below kP1 zP1 hSw; go_simp; (try with_reducible rfl))
  case rest12 =>
  (try simp only [Act.put, List.setIfInBounds_toArray, List.set_cons_zero, List.set_cons_succ])
  refine Goes.take (i := 3) (oi := ?oi13) (x := ?vx13) ?ho13 (by kernel_rfl) (by kernel_rfl) (by kernel_rfl) (by kernel_rfl) (fun _ _ _ h => h) (Or.inl ⟨?hw13, ?hy13⟩) (Below.drew (Below.refl _ _)) ?rest13
  case ho13 => (simp only [List.getElem?_toArray, List.getElem?_cons_succ, List.getElem?_cons_zero] <;> rfl)
  case hw13 => rfl
  case hy13 => (intro w' hSw; have j0 := bx_below kP1 zP1 hSw; go_simp; (try with_reducible rfl))
  case rest13 =>
  (try simp only [Act.put, List.setIfInBounds_toArray, List.set_cons_zero, List.set_cons_succ])
  refine Goes.take (i := 4) (oi := ?oi14) (x := ?vx14) ?ho14 (by kernel_rfl) (by kernel_rfl) (by kernel_rfl) (by kernel_rfl) (fun _ _ _ h => h) (Or.inl ⟨?hw14, ?hy14⟩) (Below.drew (Below.refl _ _)) ?rest14
  case ho14 => (simp only [List.getElem?_toArray, List.getElem?_cons_succ, List.getElem?_cons_zero] <;> rfl)
  case hw14 => rfl
  case hy14 => (intro w' hSw; have j0 := bx_below kP1 zP1 hSw; go_simp; (try with_reducible rfl))
  case rest14 =>
  (try simp only [Act.put, List.setIfInBounds_toArray, List.set_cons_zero, List.set_cons_succ])
  refine Goes.take (i := 5) (oi := ?oi15) (x := ?vx15) ?ho15 (by kernel_rfl) (by kernel_rfl) (by kernel_rfl) (by kernel_rfl) (fun _ _ _ h => h) (Or.inl ⟨?hw15, ?hy15⟩) (Below.drew (Below.refl _ _)) ?rest15
  case ho15 => (simp only [List.getElem?_toArray, List.getElem?_cons_succ, List.getElem?_cons_zero] <;> rfl)
  case hw15 => rfl
  case hy15 => (intro w' hSw; have j0 := bx_below kP1 zP1 hSw; go_simp; (try with_reducible rfl))
  case rest15 =>
  (try simp only [Act.put, List.setIfInBounds_toArray, List.set_cons_zero, List.set_cons_succ])
  refine Goes.take (i := 6) (oi := ?oi16) (x := ?vx16) ?ho16 (by kernel_rfl) (by kernel_rfl) (by kernel_rfl) (by kernel_rfl) (fun _ _ _ h => h) (Or.inl ⟨?hw16, ?hy16⟩) (Below.drew (Below.refl _ _)) ?rest16
  case ho16 => (simp only [List.getElem?_toArray, List.getElem?_cons_succ, List.getElem?_cons_zero] <;> rfl)
  case hw16 => rfl
  case hy16 => (intro w' hSw; have j0 := bx_below kP1 zP1 hSw; go_simp; (try with_reducible rfl))
  case rest16 =>
  (try simp only [Act.put, List.setIfInBounds_toArray, List.set_cons_zero, List.set_cons_succ])
  refine Goes.take (i := 7) (oi := ?oi17) (x := ?vx17) ?ho17 (by kernel_rfl) (by kernel_rfl) (by kernel_rfl) (by kernel_rfl) (fun _ _ _ h => h) (Or.inl ⟨?hw17, ?hy17⟩) (Below.drew (Below.refl _ _)) ?rest17
  case ho17 => (simp only [List.getElem?_toArray, List.getElem?_cons_succ, List.getElem?_cons_zero] <;> rfl)
  case hw17 => rfl
  case hy17 => (intro w' hSw; have j0 := bx_below kP1 zP1 hSw; go_simp; (try with_reducible rfl))
  case rest17 =>
  (try simp only [Act.put, List.setIfInBounds_toArray, List.set_cons_zero, List.set_cons_succ])
  refine Goes.take (i := 9) (oi := ?oi18) (x := ?vx18) ?ho18 (by kernel_rfl) (by kernel_rfl) (by kernel_rfl) (by kernel_rfl) (fun _ _ _ h => h) (Or.inl ⟨?hw18, ?hy18⟩) (Below.drew (Below.refl _ _)) ?rest18
  case ho18 => (simp only [List.getElem?_toArray, List.getElem?_cons_succ, List.getElem?_cons_zero] <;> rfl)
  case hw18 => rfl
  case hy18 => (intro w' hSw; have j0 := bx_below kP1 zP1 hSw; go_simp; (try with_reducible rfl))
  case rest18 =>
  (try simp only [Act.put, List.setIfInBounds_toArray, List.set_cons_zero, List.set_cons_succ])
  refine Goes.take (i := 10) (oi := ?oi19) (x := ?vx19) ?ho19 (by kernel_rfl) (by kernel_rfl) (by kernel_rfl) (by kernel_rfl) (fun _ _ _ h => h) (Or.inl ⟨?hw19, ?hy19⟩) (Below.drew (Below.refl _ _)) ?rest19
  case ho19 => (simp only [List.getElem?_toArray, List.getElem?_cons_succ, List.getElem?_cons_zero] <;> rfl)
  case hw19 => rfl
  case hy19 => (intro w' hSw; have j0 := bx_below kP1 zP1 hSw; go_simp; (try with_reducible rfl))
  case rest19 =>
  (try simp only [Act.put, List.setIfInBounds_toArray, List.set_cons_zero, List.set_cons_succ])
  refine Goes.take (i := 11) (oi := ?oi20) (x := ?vx20) ?ho20 (by kernel_rfl) (by kernel_rfl) (by kernel_rfl) (by kernel_rfl) (fun _ _ _ h => h) (Or.inl ⟨?hw20, ?hy20⟩) (Below.drew (Below.refl _ _)) ?rest20
  case ho20 => (simp only [List.getElem?_toArray, List.getElem?_cons_succ, List.getElem?_cons_zero] <;> rfl)
  case hw20 => rfl
  case hy20 => (intro w' hSw; have j0 := bx_below kP1 zP1 hSw; go_simp; (try with_reducible rfl))
  case rest20 =>
  (try simp only [Act.put, List.setIfInBounds_toArray, List.set_cons_zero, List.set_cons_succ])
  refine Goes.take (i := 12) (oi := ?oi21) (x := ?vx21) ?ho21 (by kernel_rfl) (by kernel_rfl) (by kernel_rfl) (by kernel_rfl) (fun _ _ _ h => h) (Or.inl ⟨?hw21, ?hy21⟩) (Below.drew (Below.refl _ _)) ?rest21
  case ho21 => (simp only [List.getElem?_toArray, List.getElem?_cons_succ, List.getElem?_cons_zero] <;> rfl)
  case hw21 => rfl
  case hy21 => (intro w' hSw; have j0 := bx_below kP1 zP1 hSw; go_simp; (try with_reducible rfl))
  case rest21 =>
  (try simp only [Act.put, List.setIfInBounds_toArray, List.set_cons_zero, List.set_cons_succ])
  refine Goes.take (i := 13) (oi := ?oi22) (x := ?vx22) ?ho22 (by kernel_rfl) (by kernel_rfl) (by kernel_rfl) (by kernel_rfl) (fun _ _ _ h => h) (Or.inl ⟨?hw22, ?hy22⟩) (Below.drew (Below.refl _ _)) ?rest22
  case ho22 => (simp only [List.getElem?_toArray, List.getElem?_cons_succ, List.getElem?_cons_zero] <;> rfl)
  case hw22 => rfl
  case hy22 => (intro w' hSw; have j0 := bx_below kP1 zP1 hSw; go_simp; (try with_reducible rfl))
  case rest22 =>
  (try simp only [Act.put, List.setIfInBounds_toArray, List.set_cons_zero, List.set_cons_succ])
  refine Goes.take (i := 14) (oi := ?oi23) (x := ?vx23) ?ho23 (by kernel_rfl) (by kernel_rfl) (by kernel_rfl) (by kernel_rfl) (fun _ _ _ h => h) (Or.inl ⟨?hw23, ?hy23⟩) (Below.drew (Below.refl _ _)) ?rest23
  case ho23 => (simp only [List.getElem?_toArray, List.getElem?_cons_succ, List.getElem?_cons_zero] <;> rfl)
  case hw23 => rfl
  case hy23 => (intro w' hSw; have j0 := bx_below kP1 zP1 hSw; go_simp; (try with_reducible rfl))
  case rest23 =>
  (try simp only [Act.put, List.setIfInBounds_toArray, List.set_cons_zero, List.set_cons_succ])
  refine Goes.take (i := 15) (oi := ?oi24) (x := ?vx24) ?ho24 (by kernel_rfl) (by kernel_rfl) (by kernel_rfl) (by kernel_rfl) (fun _ _ _ h => h) (Or.inl ⟨?hw24, ?hy24⟩) (Below.drew (Below.refl _ _)) ?rest24
  case ho24 => (simp only [List.getElem?_toArray, List.getElem?_cons_succ, List.getElem?_cons_zero] <;> rfl)
  case hw24 => rfl
  case hy24 => (intro w' hSw; have j0 := bx_below kP1 zP1 hSw; go_simp; (try with_reducible rfl))
  case rest24 =>
  (try simp only [Act.put, List.setIfInBounds_toArray, List.set_cons_zero, List.set_cons_succ])
  refine Goes.all (rs := [1]) (by kernel_rfl) (by simp) ?_
  refine Ups.cons (i := 1) (o := ?oo25) ?ho25 (fun KK hKK => ?stp25) Ups.nil
  case ho25 => (simp only [List.getElem?_toArray, List.getElem?_cons_succ, List.getElem?_cons_zero] <;> rfl)
  case stp25 =>
  go_simp
  have ho0 : (V.alloc (.cells #[] 31)).drew.ownsRow V.heap.size 31 12 (.slice (some ⟨V.heap.size, 0, none⟩) 0 0) 0 [] := World.ownsRow_made V #[] 0 (Nat.le_refl _) (by decide) rfl
  have HQ0 : Hid (Below V.heap.size V (V.alloc (.cells #[] 31)).drew) := Below.drew ((Below.refl _ _).alloc (Nat.le_refl _) _)
  generalize hU : (V.alloc (.cells #[] 31)).drew = u0 at ho0 HQ0 ⊢
  clear hU
  have HO0 : Hid _ := ho0
  clear ho0
  refine hKK.out _ _ (Or.inr HQ0.out) ?_
  clear hKK KK
  (try simp only [Act.put, List.setIfInBounds_toArray, List.set_cons_zero, List.set_cons_succ])
  refine Goes.all (rs := [8]) (by kernel_rfl) (by simp) ?_
  refine Ups.cons (i := 8) (o := ?oo26) ?ho26 (fun KK hKK => ?stp26) Ups.nil
  case ho26 => (simp only [List.getElem?_toArray, List.getElem?_cons_succ, List.getElem?_cons_zero] <;> rfl)
  case stp26 =>
  refine app_row_st u0 (by rfl) _ _ (by rfl) V.heap.size (.slice (some ⟨V.heap.size, 0, none⟩) 0 0) 0 [] (by rfl) HO0.out (some ⟨g, 0, none⟩) k vc AA (by rfl) (by simp) HLA.out (HSA.out _ (HB.out.trans (HQ0.out.mono HB.out.size))) HOA.out (by omega) HQ0.out.size ?_
  intro va1 vc1 u1 ho1 hb1 hn1
  have HN1 : Hid _ := hn1 (by simp)
  have HQ1 : Hid (Below V.heap.size V u1) := HQ0.out.trans hb1
  have HO1 : Hid _ := ho1
  clear ho1 hn1 HO0 hb1
  refine hKK.out _ _ (Or.inr HQ1.out) ?_
  clear hKK KK
  (try simp only [Act.put, List.setIfInBounds_toArray, List.set_cons_zero, List.set_cons_succ])
  refine Goes.all (rs := [16]) (by kernel_rfl) (by simp) ?_
  refine Ups.cons (i := 16) (o := ?oo27) ?ho27 (fun KK hKK => ?stp27) Ups.nil
  case ho27 => (simp only [List.getElem?_toArray, List.getElem?_cons_succ, List.getElem?_cons_zero] <;> rfl)
  case stp27 =>
  refine app_row_st u1 (by rfl) _ _ (by rfl) V.heap.size (.slice va1 (0 + k) vc1) (0 + k) ([] ++ AA) (by rfl) HO1.out (some AD) q (vc - (k + 1)) CC (by rfl) (by simp) HLC.out (HSC.out _ (HB.out.trans (HQ1.out.mono HB.out.size))) HOC.out (by have := HKQ.out; omega) HQ1.out.size ?_
  intro va2 vc2 u2 ho2 hb2 hn2
  have hnn := hn2 HN1.out
  obtain ⟨g', hg'⟩ := own_nn ho2 hnn
  subst hg'
  have e5 : 0 + k + q = m1 := by have := HKQ.out; omega
  rw [e5] at ho2 ⊢
  have HQ2 : Hid (Below V.heap.size V u2) := HQ1.out.trans hb2
  have HO2 : Hid (u2.ownsRow V.heap.size 31 12 (.slice (some ⟨g', 0, none⟩) m1 vc2) m1 (AA ++ CC)) := ho2
  have kP2 := bx_below kP1 zP1 HQ2.out
  have fP2 := bxF fP1 HQ2.out zP1
  have kR2 := bx_below kR zR HQ2.out
  have fR2 := bxF fR HQ2.out zR
  have kC2 := bx_below kC zC HQ2.out
  have hzu := HQ2.out.size
  clear ho2 hb2 hn2 hnn HO1 HN1
  refine hKK.out _ _ (Or.inr HQ2.out) ?_
  clear hKK KK
  (try simp only [Act.put, List.setIfInBounds_toArray, List.set_cons_zero, List.set_cons_succ])
  refine Goes.all (rs := [17]) (by kernel_rfl) (by simp) ?_
  refine Ups.cons (i := 17) (o := ?oo28) ?ho28 (fun KK hKK => ?stp28) Ups.nil
  case ho28 => (simp only [List.getElem?_toArray, List.getElem?_cons_succ, List.getElem?_cons_zero] <;> rfl)
  case stp28 =>
  go_simp
  refine hKK.out _ _ (Or.inr HQ2.out) ?_
  clear hKK KK
  (try simp only [Act.put, List.setIfInBounds_toArray, List.set_cons_zero, List.set_cons_succ])
  refine Goes.take (i := 18) (oi := ?oi29) (x := ?vx29) ?ho29 (by kernel_rfl) (by kernel_rfl) (by kernel_rfl) (by kernel_rfl) (fun _ _ _ h => h) (Or.inl ⟨?hw29, ?hy29⟩) HQ2.out ?rest29
  case ho29 => (simp only [List.getElem?_toArray, List.getElem?_cons_succ, List.getElem?_cons_zero] <;> rfl)
  case hw29 => rfl
  case hy29 => (intro w' hSw; have j0 := bx_below kP1 zP1 hSw; go_simp; (try with_reducible rfl))
  case rest29 =>
  (try simp only [Act.put, List.setIfInBounds_toArray, List.set_cons_zero, List.set_cons_succ])
  refine Goes.all (rs := [19]) (by kernel_rfl) (by simp) ?_
  refine Ups.cons (i := 19) (o := ?oo30) ?ho30 (fun KK hKK => ?stp30) Ups.nil
  case ho30 => (simp only [List.getElem?_toArray, List.getElem?_cons_succ, List.getElem?_cons_zero] <;> rfl)
  case stp30 =>
  have hP13' : PA[13]? = _ := hP13
  go_simp
  refine hKK.out _ _ (Or.inl rfl) ?_
  clear hKK KK
  (try simp only [Act.put])
  refine Goes.done (by kernel_rfl) ?_ _
  refine NoPanic.normal ?_
  have hgb : V.heap.size ≤ g' := (HO2.out.lt g' rfl).1
  have HPOST : Hid ((∀ o, (u2.setCell ⟨p, 13, none⟩ (.slice (some ⟨g', 0, none⟩) m1 vc2)).cell? ⟨p, o, none⟩ = (PA.setIfInBounds 13 (.slice (some ⟨g', 0, none⟩) m1 vc2))[o]?) ∧ (∀ o, (u2.setCell ⟨p, 13, none⟩ (.slice (some ⟨g', 0, none⟩) m1 vc2)).frozen? ⟨p, o, none⟩ = false) ∧ RowT (u2.setCell ⟨p, 13, none⟩ (.slice (some ⟨g', 0, none⟩) m1 vc2)) lo (u2.setCell ⟨p, 13, none⟩ (.slice (some ⟨g', 0, none⟩) m1 vc2)).heap.size (.slice (some ⟨g', 0, none⟩) m1 vc2) (T.eraseIdx k) ∧ w.heap.size ≤ g' ∧ w.heap.size ≤ (u2.setCell ⟨p, 13, none⟩ (.slice (some ⟨g', 0, none⟩) m1 vc2)).heap.size ∧ (∀ b, b < w.heap.size → b ≠ p → (u2.setCell ⟨p, 13, none⟩ (.slice (some ⟨g', 0, none⟩) m1 vc2)).heap[b]? = w.heap[b]?) ∧ Below lo w (u2.setCell ⟨p, 13, none⟩ (.slice (some ⟨g', 0, none⟩) m1 vc2))) := by
    have hb1 : Below w.heap.size w u2 := HB.out.trans (HQ2.out.mono HB.out.size)
    have hz1 : (u2.setCell ⟨p, 13, none⟩ (.slice (some ⟨g', 0, none⟩) m1 vc2)).heap.size = u2.heap.size := by simp
    have hbk : ∀ b, b < w.heap.size → b ≠ p → (u2.setCell ⟨p, 13, none⟩ (.slice (some ⟨g', 0, none⟩) m1 vc2)).heap[b]? = w.heap[b]? := fun b h1 h2 => (Below.heap_setCell _ _ _ _ (by dsimp only; exact h2)).trans (hb1.block b h1)
    have ho5 : (u2.setCell ⟨p, 13, none⟩ (.slice (some ⟨g', 0, none⟩) m1 vc2)).ownsRow w.heap.size 31 12 (.slice (some ⟨g', 0, none⟩) m1 vc2) m1 (AA ++ CC) := by
      have h := ownsRow_below (w' := (u2.setCell ⟨p, 13, none⟩ (.slice (some ⟨g', 0, none⟩) m1 vc2))) HO2.out (fun b e => Below.heap_setCell _ _ _ _ (by dsimp only; have := (HO2.out.lt b e).1; omega))
      obtain ⟨q1, q2 | ⟨g5, c5, u5, e5, h5, r5⟩⟩ := h
      · exact ⟨q1, Or.inl q2⟩
      · exact ⟨q1, Or.inr ⟨g5, c5, u5, e5, by omega, r5⟩⟩
    exact ⟨bx_put kP2 (by rw [HPS.out]; omega), fx_setC fP2, HRT.out _ g' vc2 ho5 hbk (by rw [hz1]; omega), by omega, by rw [hz1]; omega, hbk, Below.setCell (p := ⟨p, 13, none⟩) (hb1.mono (by omega)) (show lo ≤ p by omega) _⟩
  replace kR : ∀ o, (u2.setCell ⟨p, 13, none⟩ (.slice (some ⟨g', 0, none⟩) m1 vc2)).cell? ⟨w.heap.size, o, none⟩ = (#[.int .i64 0, .int .i64 0, .bool false, .bool false, .bool false, .int .i64 0, .int .i64 0, .int .i64 0, .int .i64 0, .int .i64 0, .int .i64 0, .slice none 0 0] : Array Value)[o]? := bx_setC kR2 (by omega)
  replace fR : ∀ o, (u2.setCell ⟨p, 13, none⟩ (.slice (some ⟨g', 0, none⟩) m1 vc2)).frozen? ⟨w.heap.size, o, none⟩ = false := fx_setC fR2
  replace kC : ∀ o, (u2.setCell ⟨p, 13, none⟩ (.slice (some ⟨g', 0, none⟩) m1 vc2)).cell? ⟨bC, o, none⟩ = cA[o]? := bx_setC kC2 (by omega)
  generalize hWW : (u2.setCell ⟨p, 13, none⟩ (.slice (some ⟨g', 0, none⟩) m1 vc2)) = u3 at HPOST kR fR kC ⊢
  clear hWW kR2 fR2 kC2 kP2 fP2 HO2 HRT
  have HTH : Hid (u3.there w.heap.size 0 cA.size) := bx_there kR fR (by rw [HLX.out]; rfl)
  have HKR : Hid (∀ o, (u3.setCells w.heap.size 0 cA.toList).cell? ⟨w.heap.size, o, none⟩ = cA[o]?) := bx_setCells kR (by rw [HLX.out]; rfl)
  have HIX2 : Hid ((Try.prog.info? 31).map (·.size) = some cA.size) := by show _ = _; rw [HLX.out]; exact info_SG12
  have HONX : Hid (cA.all (·.oneCell') = true) := HONX1
  go_wp2_with (first | (refine wpList_load_mid rfl 31 _ rfl _ _ (by rfl) cA.toList _ (bx_range kC) Try.underlying31 rfl HIX3.out ?_) | (refine wpList_store_mid rfl 31 _ _ rfl _ _ cA (by rfl) (by rfl) HTH.out HIX2.out HONX.out ?_))
  obtain ⟨p1, p2, p3, p4, p5, p6, p7⟩ := HPOST.out
  refine bodyPost_ret (results_box Try.results67 _ _ _ cA _ (by rfl) HKR.out Try.underlying31 rfl (by exact HIX2.out)) rfl ⟨g', vc2, rfl, bx_setOff p1 (by omega), fx_sets p2, ?_, p4, by rw [setCells_size]; exact p5, fun b h1 h2 => (setCells_block (by omega) _ _ _).trans (p6 b h1 h2), setCells_below (by omega) _ _ _ _ p7⟩
  rw [setCells_size]
  exact RowT.offb p3 (by intro e; simp only [Value.ownBlock, Option.some.injEq] at e; omega) HNW.out (fun b h => setCells_block h _ _ _)
end Go.Proofs.Ytlfncadngcjdjaa
