/- Marks laid over spans, and what is held of them; no condition but on lengths. -/
import Derived.Test.YtlicopeejphgaanRows
import Derived.Test.YtlicopeejphgaanBase
import Derived.Test.YtlicopeejphgaanBytes
import Derived.Test.YtlicopeejphgaanMem
import Derived.Test.YtlicopeejphgaanMemOpen
import Derived.Test.YtlicopeejphgaanMemRow
import Derived.Test.YtlicopeejphgaanHBase
import Derived.Test.YtlicopeejphgaanHMark
import Derived.Test.YtlicopeejphgaanHSpan
namespace Go.Proofs.Ytlicopeejphgaan
open Go.RowKit
set_option linter.unusedVariables false

/-! ### Rows that begin at a place of their block -/
def chunkO (xs : List Value) (off sz i : Nat) : List Value := (xs.drop (off + i * sz)).take sz
theorem chunkO_get {xs : List Value} {off sz i j : Nat} (hj : j < sz) : (chunkO xs off sz i)[j]? = xs[off + i * sz + j]? := by
  unfold chunkO; rw [List.getElem?_take_of_lt hj, List.getElem?_drop]
theorem chunkO_ext {xs ys : List Value} {off sz i : Nat} (h : ∀ k, k < sz → xs[off + i * sz + k]? = ys[off + i * sz + k]?) : chunkO xs off sz i = chunkO ys off sz i := by
  apply List.ext_getElem?
  intro k
  by_cases hk : k < sz
  · rw [chunkO_get hk, chunkO_get hk, h k hk]
  · rw [List.getElem?_eq_none (by unfold chunkO; simp; omega), List.getElem?_eq_none (by unfold chunkO; simp; omega)]
theorem chunkO_set1 {cur : Array Value} {off sz k j i : Nat} {v : Value} (hj : j < sz) (hk : off + k * sz + sz ≤ cur.size) : chunkO (cur.setIfInBounds (off + k * sz + j) v).toList off sz i = if i = k then (chunkO cur.toList off sz k).set j v else chunkO cur.toList off sz i := by
  rw [Array.toList_setIfInBounds]
  split
  · rename_i e; subst e
    apply List.ext_getElem?
    intro q
    by_cases hq : q < sz
    · rw [chunkO_get hq]
      by_cases e : q = j
      · subst e
        rw [List.getElem?_set_self (by simp; omega), List.getElem?_set_self (by unfold chunkO; simp; omega)]
      · rw [List.getElem?_set_ne (by omega), List.getElem?_set_ne (by omega), chunkO_get hq]
    · rw [List.getElem?_eq_none (by unfold chunkO; simp; omega), List.getElem?_eq_none (by unfold chunkO; simp; omega)]
  · rename_i hne
    refine chunkO_ext fun q hq => ?_
    rw [List.getElem?_set_ne]
    intro e
    rcases Nat.lt_or_gt_of_ne hne with h | h
    · have : i * sz + sz ≤ k * sz := by rw [← Nat.succ_mul]; exact Nat.mul_le_mul_right _ h
      omega
    · have : k * sz + sz ≤ i * sz := by rw [← Nat.succ_mul]; exact Nat.mul_le_mul_right _ h
      omega
theorem ow_elemO {w : World} {bs : List Nat} {t : TypeId} {e : Sh} {l : List e.El} {a : Option Addr} {n cap : Nat} (h : (Sh.rowO t e).Ow w bs l [.slice a n cap]) (hnd : bs.Nodup) (k : Nat) (hk : k < l.length) :
    ∃ pg off cur bk, a = some ⟨pg, off, none⟩ ∧ pg ∈ bs ∧ w.heap[pg]? = some (.cells cur t (0, 0)) ∧ off + k * e.sz + e.sz ≤ cur.size ∧ List.Nodup bk ∧ e.Ow w bk l[k] (chunkO cur.toList off e.sz k) ∧ (∀ b ∈ bk, b ∈ bs ∧ b ≠ pg) ∧
      ∀ (w' : World) (cur' : Array Value) (d' : e.El), w'.heap[pg]? = some (.cells cur' t (0, 0)) → cur'.size = cur.size → (∀ i, i ≠ k → chunkO cur'.toList off e.sz i = chunkO cur.toList off e.sz i) → e.Ow w' bk d' (chunkO cur'.toList off e.sz k) →
        (∀ b ∈ bs, b ≠ pg → b ∉ bk → w'.heap[b]? = w.heap[b]?) → (Sh.rowO t e).Ow w' bs (l.set k d') [.slice a n cap] := by
  rcases h with ⟨_, rfl, _⟩ | ⟨g, off, cap', cur, F, e1, rfl, h3, h4, h5, h6, h7, h8⟩
  · simp at hk
  · simp only [List.cons.injEq, Value.slice.injEq, and_true] at e1
    obtain ⟨rfl, rfl, rfl⟩ := e1
    obtain ⟨hg1, hg2⟩ := List.nodup_cons.1 hnd
    have hle : off + k * e.sz + e.sz ≤ cur.size := by
      have : k * e.sz + e.sz ≤ l.length * e.sz := by rw [← Nat.succ_mul]; exact Nat.mul_le_mul_right _ hk
      omega
    have hkF : k < F.length := by omega
    have hpw := List.pairwise_flatten.1 hg2
    refine ⟨g, off, cur, F.getD k [], rfl, by simp, h3, hle, ?_, h8 k hk, fun b hb => ⟨List.mem_cons_of_mem _ (getD_mem_flatten hb), fun e' => hg1 (e' ▸ getD_mem_flatten hb)⟩, ?_⟩
    · rw [List.getD_eq_getElem?_getD, List.getElem?_eq_getElem hkF]
      exact hpw.1 _ (List.getElem_mem hkF)
    · intro w' cur' d' q1 q2 q3 q4 q5
      refine Or.inr ⟨g, off, cap, cur', F, by rw [List.length_set], rfl, q1, by rw [List.length_set]; exact h4, h5, by rw [q2, List.length_set]; exact h6, by rw [List.length_set]; exact h7, fun i hi' => ?_⟩
      have hi2 : i < l.length := by simpa using hi'
      show Sh.Ow _ e _ _ (chunkO cur'.toList off e.sz i)
      by_cases ei : i = k
      · subst ei
        rw [List.getElem_set_self]; exact q4
      · rw [List.getElem_set_ne (by omega), q3 i ei]
        refine Sh.Ow.keep _ _ _ _ (fun b hbm => ?_) (h8 i hi2)
        refine q5 b (List.mem_cons_of_mem _ (getD_mem_flatten hbm)) (fun e' => hg1 (e' ▸ getD_mem_flatten hbm)) fun hb' => ?_
        have hi4 : i < F.length := by omega
        rcases Nat.lt_or_gt_of_ne ei with hlt | hlt
        · exact List.pairwise_iff_getElem.1 hpw.2 i k hi4 hkF hlt b (by simpa [List.getD_eq_getElem?_getD, List.getElem?_eq_getElem hi4] using hbm) b (by simpa [List.getD_eq_getElem?_getD, List.getElem?_eq_getElem hkF] using hb') rfl
        · exact List.pairwise_iff_getElem.1 hpw.2 k i hkF hi4 hlt b (by simpa [List.getD_eq_getElem?_getD, List.getElem?_eq_getElem hkF] using hb') b (by simpa [List.getD_eq_getElem?_getD, List.getElem?_eq_getElem hi4] using hbm) rfl
theorem row_formO {w : World} {B : Nat} {t : TypeId} {e : Sh} {l : List e.El} {cs : List Value} (h : (Sh.rowO t e).Rd w B l cs) : ∃ a cap, cs = [.slice a l.length cap] := by
  obtain ⟨a, cap, h1, _⟩ := h; exact ⟨a, cap, h1⟩
theorem ow_rowO {w : World} {bs : List Nat} {t : TypeId} {e : Sh} {l : List e.El} {cs : List Value} (h : (Sh.row t e).Ow w bs l cs) : (Sh.rowO t e).Ow w bs l cs := by
  rcases h with ⟨h1, h2, h3⟩ | ⟨g, cap, cur, F, h1, h2, h3, h4, h5, h6, h7, h8⟩
  · exact Or.inl ⟨h1, h3, none, 0, h2, Nat.zero_le _, fun _ => rfl⟩
  · refine Or.inr ⟨g, 0, cap, cur, F, h1, h2, h3, h4, h5, ?_, h7, fun i hi => ?_⟩
    · rw [h6, Nat.zero_add]; exact Nat.mul_le_mul_right _ h4
    · rw [Nat.zero_add]; exact h8 i hi
abbrev shSpansO : Sh := .rowO 83 shSpan
theorem rdO_Spans {w : World} {B : Nat} {l : List DSpan} {cs : List Value} (h : shSpansO.Rd w B l cs) : shSpans.Rd w B l cs := h

theorem ow_Span {w : World} {bs : List Nat} {x : DSpan} {cs : List Value} (h : shSpan.Ow w bs x cs) : bs = [] ∧ cs = [.int .i64 x.1, .int .i64 x.2.1] ∧ (Lit.int .i64 x.1).wf = true ∧ (Lit.int .i64 x.2.1).wf = true := by
  obtain ⟨a0, r0, p0, q0, eb0, ec0, ⟨f0, g0, w0⟩, a1, r1, p1, q1, eb1, ec1, ⟨f1, g1, w1⟩, zb, zc⟩ := h
  exact ⟨by rw [eb0, f0, eb1, f1, zb]; rfl, by rw [ec0, g0, ec1, g1, zc]; rfl, w0, w1⟩
theorem mk_Span {w : World} {y0 y1 : Int} (w0 : (Lit.int .i64 y0).wf = true) (w1 : (Lit.int .i64 y1).wf = true) : shSpan.Ow w [] (y0, y1, ()) [.int .i64 y0, .int .i64 y1] :=
  ⟨[], [], [.int .i64 y0], [.int .i64 y1], rfl, rfl, ⟨rfl, rfl, w0⟩, ⟨[], [], [.int .i64 y1], [], rfl, rfl, ⟨rfl, rfl, w1⟩, ⟨rfl, rfl⟩⟩⟩

def wtSpan (x : DSpan) : Nat := 2
def mkSpan (c : Int) (x : DSpan) : DSpan := (c, c + 1, ())
theorem wtSpan_sum : ∀ (l : List DSpan), fsum wtSpan l = 2 * l.length
  | [] => rfl
  | x :: l => by rw [fsum_cons, wtSpan_sum l, List.length_cons]; show 2 + 2 * l.length = _; omega

set_option maxHeartbeats 4000000 in
theorem lMarkSpans (l : List DSpan) (v : Value) (c : Int) (w : World) (bs : List Nat) (ho : shSpansO.Ow w bs l [v]) (hnd : bs.Nodup) (hT : fsum wtSpan l ≤ 1073741824) (hc0 : 0 ≤ c) (hc1 : c ≤ 549755813888) :
    Calls Try.prog 48 #[v, .int .i64 c] w fun e w' => e = .returned (.int .i64 (c + (fsum wtSpan l : Nat))) ∧ shSpansO.Ow w' bs (mkL mkSpan wtSpan c l) [v] ∧ Touch bs w w' := by
  obtain ⟨a, cap, ev⟩ := row_formO (Sh.Ow.rd (Nat.le_refl _) _ _ _ _ ho)
  simp only [List.cons.injEq, and_true] at ev
  subst ev
  have HND : Hid _ := hnd
  have HT : Hid (∀ k, fsum wtSpan (l.take k) ≤ 1073741824) := fun k => by have := fsum_le (f := wtSpan) l k; omega
  have hn2 : l.length ≤ 1073741824 := by rw [wtSpan_sum] at hT; omega
  obtain ⟨N, hN⟩ : ∃ n, l.length = n := ⟨_, rfl⟩
  rw [hN] at ho hn2 ⊢
  have HN : Hid (l.length = N) := hN
  have H0 : Hid (shSpansO.Ow w bs (mkL mkSpan wtSpan c (l.take 0) ++ l.drop 0) [.slice a N cap]) := by
    show shSpansO.Ow w bs _ _
    simpa [mkL] using ho
  clear hnd ho hN hT
  go_enter Try.func48, Try.ntmps48
  go_wp2_with fail
  go_loopw [1, 5] (fun t i wr => ∃ (k : Nat) (x : Int), k ≤ N ∧ i = .int .i64 k ∧ t = .int .i64 x ∧ Hid (x = c + (fsum wtSpan (l.take k) : Nat)) ∧ 0 ≤ x ∧ x ≤ 1099511627776 ∧ Hid (shSpansO.Ow wr bs (mkL mkSpan wtSpan c (l.take k) ++ l.drop k) [.slice a N cap]) ∧ Hid (Touch bs w wr)) (fun _ i _ => N - (intOf i).toNat)
  case atStart => exact ⟨0, c, Nat.zero_le _, rfl, rfl, (by simp [fsum] : c = c + (fsum wtSpan (l.take 0) : Nat)), hc0, by omega, H0, Touch.refl _ _⟩
  case round =>
    obtain ⟨k, x, hk, rfl, rfl, hx, hx0, hx1, HO, HW⟩ := hrel
    clear H0
    by_cases hlt : k < N
    · have hkp : k < l.length := by have := HN.out; omega
      have hlen : (mkL mkSpan wtSpan c (l.take k)).length = k := by rw [mkL_length]; simp; omega
      have hkl : k < (mkL mkSpan wtSpan c (l.take k) ++ l.drop k).length := by simp [hlen]; omega
      have hel : (mkL mkSpan wtSpan c (l.take k) ++ l.drop k)[k] = l[k] := by
        rw [List.getElem_append_right (by omega)]
        simp [hlen]
      obtain ⟨pg, off, cur, bk, ea, g1, g2, g3, g4, g5, g6, UPD⟩ := ow_elemO HO.out HND.out k hkl
      subst ea
      rw [hel] at g5
      obtain ⟨eb, ec, wf0, wf1⟩ := ow_Span g5
      subst eb
      replace g3 : off + k * 2 + 2 ≤ cur.size := g3
      have hpt := fsum_take (f := wtSpan) hkp
      have hle := HT.out (k + 1)
      have hwt : wtSpan l[k] = 2 := rfl
      have HST : Hid ((mkL mkSpan wtSpan c (l.take k) ++ l.drop k).set k (mkSpan x l[k]) = mkL mkSpan wtSpan c (l.take (k + 1)) ++ l.drop (k + 1)) := by
        show _ = _
        rw [hx.out]; exact mkL_step c hkp
      have HX2 : Hid (x + 1 + 1 = c + (fsum wtSpan (l.take (k + 1)) : Nat)) := by have := hx.out; show _ = _; omega
      have hxx : x + 1 + 1 ≤ 1099511627776 := by have := hx.out; omega
      have c0 : wr.cell? ⟨pg, off + k * 2, none⟩ = some (.int .i64 l[k].1) := by
        have h := congrArg (fun l => l[0]?) ec
        replace h : (chunkO cur.toList off 2 k)[0]? = _ := h
        rw [chunkO_get (by decide)] at h
        rw [cell_of_heap g2, ← Array.getElem?_toList]; simpa using h
      have c1 : wr.cell? ⟨pg, off + k * 2 + 1, none⟩ = some (.int .i64 l[k].2.1) := by
        have h := congrArg (fun l => l[1]?) ec
        replace h : (chunkO cur.toList off 2 k)[1]? = _ := h
        rw [chunkO_get (by decide)] at h
        rw [cell_of_heap g2, ← Array.getElem?_toList]; simpa using h
      have fz : ∀ o, wr.frozen? ⟨pg, o, none⟩ = false := fun o => by simp [World.frozen?, g2]
      have fz0 := fz (off + k * 2)
      have fz1 := fz (off + k * 2 + 1)
      have hs1 : (wr.setCell ⟨pg, off + k * 2, none⟩ (.int .i64 x)).cell? ⟨pg, off + k * 2 + 1, none⟩ = some (.int .i64 l[k].2.1) := by rw [World.cell?_setCell_other _ _ _ _ (by simp)]; exact c1
      have hf1 : (wr.setCell ⟨pg, off + k * 2, none⟩ (.int .i64 x)).frozen? ⟨pg, off + k * 2 + 1, none⟩ = false := by simp only [World.frozen?_setCell]; exact fz1
      have HF : Hid (shSpansO.Ow ((wr.setCell ⟨pg, off + k * 2, none⟩ (.int .i64 x)).setCell ⟨pg, off + k * 2 + 1, none⟩ (.int .i64 (x + 1))) bs ((mkL mkSpan wtSpan c (l.take k) ++ l.drop k).set k (x, x + 1, ())) [.slice (some ⟨pg, off, none⟩) N cap]) := by
        refine UPD _ ((cur.setIfInBounds (off + k * 2 + 0) (.int .i64 x)).setIfInBounds (off + k * 2 + 1) (.int .i64 (x + 1))) _ (heap_set (heap_set g2)) (by simp) (fun i hi => ?_) ?_ (fun b hb h1 h2 => ?_)
        · show chunkO _ off 2 i = chunkO _ off 2 i
          rw [chunkO_set1 (sz := 2) (k := k) (by decide) (by have := g3; simp; omega), if_neg hi, chunkO_set1 (sz := 2) (k := k) (by decide) (by have := g3; simp; omega), if_neg hi]
        · show shSpan.Ow _ [] _ (chunkO _ off 2 k)
          have ec' : chunkO cur.toList off 2 k = _ := ec
          rw [chunkO_set1 (sz := 2) (k := k) (by decide) (by have := g3; simp; omega), if_pos rfl, chunkO_set1 (sz := 2) (k := k) (by decide) (by have := g3; simp; omega), if_pos rfl, ec']
          exact mk_Span (WalkArith.wf_i64 (by omega)) (WalkArith.wf_i64 (by omega))
        · repeat rw [Below.heap_setCell _ _ _ _ (by dsimp only; exact h1)]
      have HWb : Hid (Touch bs w ((wr.setCell ⟨pg, off + k * 2, none⟩ (.int .i64 x)).setCell ⟨pg, off + k * 2 + 1, none⟩ (.int .i64 (x + 1)))) := Touch.trans (Touch.trans HW.out (Touch.grown grown_set (fun y e => by simp at e; exact e ▸ g1))) (Touch.grown grown_set (fun y e => by simp at e; exact e ▸ g1))
      have HME : Hid (mkSpan x l[k] = (x, x + 1, ())) := rfl
      rw [HME.out] at HST
      clear UPD hel ec HME g1 g2 g3 g4 g5 g6 hpt hle hwt hlen hkl HO HW wf0 wf1 fz
      generalize l[k].1 = z0 at *
      generalize l[k].2.1 = z1 at *
      go_wp2_with fail
      go_roundw
      case rel => exact ⟨k + 1, x + 1 + 1, by omega, by go_num, rfl, HX2, by omega, hxx, (by show shSpansO.Ow _ bs _ _; rw [← HST.out]; exact HF.out), HWb⟩
      case measure => simp [intOf]; omega
    · obtain rfl : k = N := by omega
      go_wp2_with fail
      go_ret
      refine ⟨ret_int (by have := hx.out; rw [← HN.out, List.take_length] at this; exact this), ?_, HW.out⟩
      have h := HO.out
      rw [← HN.out, List.take_length, List.drop_length, List.append_nil] at h
      rw [← HN.out]; exact h

set_option maxHeartbeats 4000000 in
theorem lHeldSpans (l : List DSpan) (v : Value) (c : Int) (w : World) (B : Nat) (hr : shSpansO.Rd w B (mkL mkSpan wtSpan c l) [v]) (hT : fsum wtSpan l ≤ 1073741824) (hc0 : 0 ≤ c) (hc1 : c ≤ 549755813888) :
    Calls Try.prog 84 #[v, .int .i64 c] w fun e w' => e = .returned (.int .i64 (c + (fsum wtSpan l : Nat))) ∧ w' = w := by
  obtain ⟨a, cap, ev⟩ := row_formO hr
  rw [mkL_length] at ev
  simp only [List.cons.injEq, and_true] at ev
  subst ev
  have HT : Hid (∀ k, fsum wtSpan (l.take k) ≤ 1073741824) := fun k => by have := fsum_le (f := wtSpan) l k; omega
  have hn2 : l.length ≤ 1073741824 := by rw [wtSpan_sum] at hT; omega
  obtain ⟨N, hN⟩ : ∃ n, l.length = n := ⟨_, rfl⟩
  rw [hN] at hr hn2 ⊢
  have HN : Hid (l.length = N) := hN
  have HR : Hid (shSpansO.Rd w B (mkL mkSpan wtSpan c l) [.slice a N cap]) := hr
  clear hr hN hT
  go_enter Try.func84, Try.ntmps84
  go_wp2_with fail
  go_loopw [1, 5] (fun t i wr => ∃ (k : Nat) (x : Int), k ≤ N ∧ i = .int .i64 k ∧ t = .int .i64 x ∧ Hid (x = c + (fsum wtSpan (l.take k) : Nat)) ∧ 0 ≤ x ∧ x ≤ 1099511627776 ∧ wr = w) (fun _ i _ => N - (intOf i).toNat)
  case atStart => exact ⟨0, c, Nat.zero_le _, rfl, rfl, (by simp [fsum] : c = c + (fsum wtSpan (l.take 0) : Nat)), hc0, by omega, rfl⟩
  case round =>
    obtain ⟨k, x, hk, rfl, rfl, hx, hx0, hx1, hw⟩ := hrel
    subst hw
    by_cases hlt : k < N
    · have hkp : k < l.length := by have := HN.out; omega
      have hkl : k < (mkL mkSpan wtSpan c l).length := by rw [mkL_length]; exact hkp
      obtain ⟨b, off, ha, hb, c0, c1, -, -⟩ := at_Spans (rdO_Spans HR.out) k hkl
      subst ha
      have hel := mkL_at (mk := mkSpan) (wt := wtSpan) c hkp hkl
      rw [← hx.out] at hel
      rw [hel] at c0 c1
      have hpt := fsum_take (f := wtSpan) hkp
      have hle := HT.out (k + 1)
      have hwt : wtSpan l[k] = 2 := rfl
      have HX2 : Hid (x + 1 + 1 = c + (fsum wtSpan (l.take (k + 1)) : Nat)) := by have := hx.out; show _ = _; omega
      have hxx : x + 1 + 1 ≤ 1099511627776 := by have := hx.out; omega
      replace c0 : wr.cell? ⟨b, off + k * 2, none⟩ = some (.int .i64 x) := c0
      replace c1 : wr.cell? ⟨b, off + k * 2 + 1, none⟩ = some (.int .i64 (x + 1)) := c1
      clear hel hpt hle hwt hkl hx
      go_wp2_with fail
      go_roundw
      case rel => exact ⟨k + 1, x + 1 + 1, by omega, by go_num, rfl, HX2, by omega, hxx, by first | rfl | trivial⟩
      case measure => simp [intOf]; omega
    · obtain rfl : k = N := by omega
      go_wp2_with fail
      go_ret
      exact ⟨ret_int (by have := hx.out; rw [← HN.out, List.take_length] at this; exact this), rfl⟩
end Go.Proofs.Ytlicopeejphgaan
