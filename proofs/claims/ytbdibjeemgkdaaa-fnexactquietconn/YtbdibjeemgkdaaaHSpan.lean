/- What the law's own helpers (measure, copy, compare) make of spans and slices of them; no condition but that there are at most a million parts. -/
import Derived.Test.YtbdibjeemgkdaaaRows
import Derived.Test.YtbdibjeemgkdaaaBase
import Derived.Test.YtbdibjeemgkdaaaBytes
import Derived.Test.YtbdibjeemgkdaaaMem
import Derived.Test.YtbdibjeemgkdaaaMemOpen
import Derived.Test.YtbdibjeemgkdaaaMemRow
import Derived.Test.YtbdibjeemgkdaaaHBase
import Derived.Deep.DeepCutAuto
import Derived.Deep.RegionHeld3
namespace Go.Proofs.Ytbdibjeemgkdaaa
open Go.RowKit
set_option linter.unusedVariables false

abbrev shSpan : Sh := .cons (.int .i64) (.cons (.int .i64) .nil)
abbrev DSpan : Type := Int × Int × Unit
abbrev shSpans : Sh := .row 133 shSpan
def totSpans (l : List DSpan) : Nat := l.length
theorem rd_Span {w : World} {B : Nat} {x : DSpan} {cs : List Value} (h : shSpan.Rd w B x cs) : cs = [.int .i64 x.1, .int .i64 x.2.1] ∧ (Lit.int .i64 x.1).wf = true ∧ (Lit.int .i64 x.2.1).wf = true := by
  obtain ⟨p0, q0, e0, ⟨g0, w0⟩, p1, q1, e1, ⟨g1, w1⟩, hz⟩ := h
  have hz' : q1 = [] := hz
  refine ⟨?_, w0, w1⟩
  rw [e0, g0, e1, g1, hz']
  rfl
theorem at_Spans {w : World} {B : Nat} {l : List DSpan} {a : Option Addr} {n cap : Nat} (h : shSpans.Rd w B l [.slice a n cap]) (k : Nat) (hk : k < l.length) : ∃ b off, a = some ⟨b, off, none⟩ ∧ b < B ∧ w.cell? ⟨b, off + k * 2, none⟩ = some (.int .i64 l[k].1) ∧ w.cell? ⟨b, off + k * 2 + 1, none⟩ = some (.int .i64 l[k].2.1) ∧ (Lit.int .i64 l[k].1).wf = true ∧ (Lit.int .i64 l[k].2.1).wf = true := by
  obtain ⟨a', cap', h1, h2, h3, b, off, h4, h5⟩ := h
  simp only [List.cons.injEq, Value.slice.injEq, and_true] at h1
  obtain ⟨rfl, -, -⟩ := h1
  obtain ⟨ea, hb⟩ := h4 (by intro e; subst e; simp at hk)
  obtain ⟨cs', g1, g2, g3⟩ := h5 k hk
  obtain ⟨e, w0, w1⟩ := rd_Span g3
  subst e
  refine ⟨b, off, ea, hb, ?_, ?_, w0, w1⟩
  · have := g2 0 (by decide); simpa [Sh.sz] using this
  · have := g2 1 (by decide); simpa [Sh.sz] using this
theorem own_span {w : World} {y0 y1 : Int} (lo : Nat) (h0 : (Lit.int .i64 y0).wf = true) (h1 : (Lit.int .i64 y1).wf = true) : Own w lo lo shSpan (y0, y1, ()) [.int .i64 y0, .int .i64 y1] :=
  hOwnCons (hOwnInt w lo lo h0) (hOwnCons (hOwnInt w lo lo h1) (hOwnNil _ _ _) (Nat.le_refl _) (Nat.le_refl _)) (Nat.le_refl _) (Nat.le_refl _)
theorem info_Span : (Try.prog.info? 133).map (fun i => (i.zero, i.size, i.bytes)) = some (some (.agg #[.int .i64 0, .int .i64 0]), 2, 16) := by kernel_rfl

theorem lSzSpans (l : List DSpan) (v : Value) (left : Int) (w : World) (B : Nat) (hr : shSpans.Rd w B l [v]) (hB : B ≤ w.heap.size) (h0 : 0 ≤ left) (h1 : left ≤ 1048576) :
    Calls Try.prog 65 #[v, .int .i64 left] w fun e w' => e = .returned (.int .i64 (if left < totSpans l then -1 else left - totSpans l)) ∧ Below w.heap.size w w' := by
  obtain ⟨a, cap, ev⟩ := row_form hr
  simp only [List.cons.injEq, and_true] at ev
  subst ev
  have hmx : l.length ≤ 9223372036854775807 := row_max hr
  unfold totSpans
  clear hr
  generalize l.length = n at *
  by_cases hA : left < n
  · rw [if_pos hA]
    have h2 : left - (n : Int) < 0 := by omega
    go_enter Try.func65, Try.ntmps65
    go_wp2
    go_ret
    exact ⟨rfl, Below.refl _ _⟩
  · rw [if_neg hA]
    have h2 : ¬ (left - (n : Int) < 0) := by omega
    go_enter Try.func65, Try.ntmps65
    go_wp2
    go_ret
    exact ⟨rfl, Below.refl _ _⟩
theorem lToSpan (y0 y1 : Int) (w : World) :
    Calls Try.prog 87 #[.agg #[.int .i64 y0, .int .i64 y1]] w fun e w' => e = .returned (.agg #[.int .i64 y0, .int .i64 y1]) ∧ Below w.heap.size w w' := by
  go_enter Try.func87, Try.ntmps87
  go_wp2_with fail
  go_returns
  exact ⟨rfl, by go_grown⟩
set_option maxHeartbeats 1000000 in
theorem lToSpans (l : List DSpan) (v : Value) (w : World) (B : Nat) (hr : shSpans.Rd w B l [v]) (hB : B ≤ w.heap.size) (hT : totSpans l ≤ 1048576) :
    Calls Try.prog 71 #[v] w fun e w' => ∃ u, e = .returned u ∧ Own w' w.heap.size w'.heap.size shSpans l [u] ∧ Below w.heap.size w w' := by
  obtain ⟨i0, hi, hz0, hz1, hz2⟩ := info_parts info_Span
  obtain ⟨a, cap, ev⟩ := row_form hr
  simp only [List.cons.injEq, and_true] at ev
  subst ev
  have hn1 : l.length ≤ 1048576 := hT
  obtain ⟨n, hn⟩ : ∃ n, l.length = n := ⟨_, rfl⟩
  rw [hn] at hr hn1 ⊢
  have HRd : Hid (∀ W, Below w.heap.size w W → shSpans.Rd W B l [.slice a n cap]) := fun W hW => hr.below hB hW
  have HN : Hid (l.length = n) := hn
  clear hr hT hn
  go_enter Try.func71, Try.ntmps71
  go_wp2_with (at_make; refine wpList_make_full w rfl _ _ 55 rfl w.heap.size 133 i0 (.agg #[.int .i64 0, .int .i64 0]) 2 Try.underlying55 hi hz0 hz1 .i64 .i64 _ _ n (by rfl) (by rfl) rfl rfl (by rw [hz2]; omega) (by unfold maxLen; omega) (Nat.le_refl _) ?_; intro w1 hown hgr)
  have hb1 : Below w.heap.size w w1 := (Below.refl _ _).grown hgr (Nat.le_refl _) (by intro k hk; cases hk)
  have hown0 : Own w1 w.heap.size w1.heap.size shSpans (l.take 0 ++ List.replicate (n - 0) shSpan.zero) [.slice (some ⟨w.heap.size, 0, none⟩) n n] := by
    have h := Own.made (e := shSpan) (z := .agg #[.int .i64 0, .int .i64 0]) rfl hown
    exact h.tight
  have HO0 : Hid _ := hown0
  have HB0 : Hid _ := hb1
  clear hown hgr hown0 hb1 hi hz0 hz1 hz2
  go_loopw [4] (fun i wr => ∃ k : Nat, k ≤ n ∧ i = .int .i64 k ∧ Own wr w.heap.size wr.heap.size shSpans (l.take k ++ List.replicate (n - k) shSpan.zero) [.slice (some ⟨w.heap.size, 0, none⟩) n n] ∧ Below w.heap.size w wr) (fun i _ => n - (intOf i).toNat)
  case atStart => exact ⟨0, Nat.zero_le _, rfl, HO0.out, HB0.out⟩
  case round =>
    obtain ⟨k, hk, rfl, hown, hbl⟩ := hrel
    clear HO0 HB0
    by_cases hlt : k < n
    · have hkl : k < l.length := by have := HN.out; omega
      obtain ⟨b, off, ha, hb, c0, c1, wf0, wf1⟩ := at_Spans (HRd.out wr hbl) k hkl
      subst ha
      have HQ : Hid (l[k] = (l[k].1, l[k].2.1, ())) := rfl
      have HWF0 : Hid _ := wf0
      have HWF1 : Hid _ := wf1
      have HOwn : Hid _ := hown
      have HBl : Hid _ := hbl
      clear hown hbl wf0 wf1
      generalize l[k].1 = y0 at *
      generalize l[k].2.1 = y1 at *
      go_wp2_with fail
      refine (lToSpan y0 y1 _).mono ?_
      rintro e w1 ⟨rfl, hb1⟩
      have hz := hb1.size
      have o1 : Own w1 w.heap.size wr.heap.size shSpans (l.take k ++ List.replicate (n - k) shSpan.zero) [.slice (some ⟨w.heap.size, 0, none⟩) n n] := HOwn.out.below (Nat.le_refl _) hb1
      have hlen : (l.take k ++ List.replicate (n - k) shSpan.zero).length = n := by have := HN.out; simp; omega
      have o3 := o1.stored (k := k) (by rw [hlen]; exact hlt) (own_span _ HWF0.out HWF1.out) (Nat.le_refl _)
      rw [← HQ.out, set_step HN.out hlt] at o3
      obtain ⟨sl, fz, -⟩ := hOwnSlot o1
      obtain ⟨old0, hold0⟩ := sl (k * 2) (by show k * 2 < n * 2; omega)
      have fz0 := fz (k * 2)
      obtain ⟨old1, hold1⟩ := sl (k * 2 + 1) (by show k * 2 + 1 < n * 2; omega)
      have fz1 := fz (k * 2 + 1)
      have hs1 : (w1.setCell ⟨w.heap.size, k * 2, none⟩ (.int .i64 y0)).cell? ⟨w.heap.size, k * 2 + 1, none⟩ = some old1 := by rw [World.cell?_setCell_other _ _ _ _ (by simp)]; exact hold1
      have hf1 : (w1.setCell ⟨w.heap.size, k * 2, none⟩ (.int .i64 y0)).frozen? ⟨w.heap.size, k * 2 + 1, none⟩ = false := by simp only [World.frozen?_setCell]; exact fz1
      have HO3 : Hid (Own ((w1.setCell ⟨w.heap.size, k * 2, none⟩ (.int .i64 y0)).setCell ⟨w.heap.size, k * 2 + 1, none⟩ (.int .i64 y1)) w.heap.size wr.heap.size shSpans (l.take (k + 1) ++ List.replicate (n - (k + 1)) shSpan.zero) [.slice (some ⟨w.heap.size, 0, none⟩) n n]) := o3.1
      have HB3 : Hid (Below w.heap.size w ((w1.setCell ⟨w.heap.size, k * 2, none⟩ (.int .i64 y0)).setCell ⟨w.heap.size, k * 2 + 1, none⟩ (.int .i64 y1))) := Below.setCell (Below.setCell ((HBl.out.trans (hb1.mono HBl.out.size))) (by simp) _) (by simp) _
      have hzz : wr.heap.size ≤ ((w1.setCell ⟨w.heap.size, k * 2, none⟩ (.int .i64 y0)).setCell ⟨w.heap.size, k * 2 + 1, none⟩ (.int .i64 y1)).heap.size := by simpa using hz
      have HZ : Hid _ := hzz
      clear o1 o3 sl fz hb1 hz hlen hzz
      go_wp2_with fail
      go_roundw
      case rel => exact ⟨k + 1, by omega, by go_num, Own.mono HO3.out (Nat.le_refl _) HZ.out, HB3.out⟩
      case measure => simp [intOf]; omega
    · obtain rfl : k = n := by omega
      go_wp2_with fail
      go_ret
      refine ⟨_, rfl, ?_, hbl⟩
      have e : l.take k ++ List.replicate (k - k) shSpan.zero = l := by rw [Nat.sub_self, List.take_of_length_le (by have := HN.out; omega)]; simp
      rw [e] at hown
      exact hown
theorem lEqSpan (y0 y1 : Int) (w : World) :
    Calls Try.prog 96 #[.agg #[.int .i64 y0, .int .i64 y1], .agg #[.int .i64 y0, .int .i64 y1]] w fun e w' => e = .returned (.bool true) ∧ Below w.heap.size w w' := by
  go_enter Try.func96, Try.ntmps96
  go_wp2_with fail
  go_ret
  exact ⟨rfl, by go_grown⟩
set_option maxHeartbeats 1000000 in
theorem lEqSpans (l : List DSpan) (v u : Value) (w : World) (B : Nat) (hr : shSpans.Rd w B l [v]) (hr' : shSpans.Rd w B l [u]) (hB : B ≤ w.heap.size) (hT : totSpans l ≤ 1048576) :
    Calls Try.prog 81 #[v, u] w fun e w' => e = .returned (.bool true) ∧ Below w.heap.size w w' := by
  obtain ⟨a, cap, ev⟩ := row_form hr
  simp only [List.cons.injEq, and_true] at ev
  subst ev
  obtain ⟨a', cap', ev⟩ := row_form hr'
  simp only [List.cons.injEq, and_true] at ev
  subst ev
  have hmx : l.length ≤ 9223372036854775807 := row_max hr
  obtain ⟨n, hn⟩ : ∃ n, l.length = n := ⟨_, rfl⟩
  rw [hn] at hr hr' hmx ⊢
  have HR1 : Hid (∀ W, Below w.heap.size w W → shSpans.Rd W B l [.slice a n cap]) := fun W hW => hr.below hB hW
  have HR2 : Hid (∀ W, Below w.heap.size w W → shSpans.Rd W B l [.slice a' n cap']) := fun W hW => hr'.below hB hW
  have HN : Hid (l.length = n) := hn
  clear hr hr' hT hn
  go_enter Try.func81, Try.ntmps81
  go_wp2_with fail
  go_loopw [5] (fun i wr => ∃ (k : Nat), k ≤ n ∧ i = .int .i64 k ∧ Below w.heap.size w wr) (fun i _ => n - (intOf i).toNat)
  case atStart => exact ⟨0, Nat.zero_le _, rfl, Below.refl _ _⟩
  case round =>
    obtain ⟨k, hk, rfl, hbl⟩ := hrel
    by_cases hlt : k < n
    · have hkl : k < l.length := by have := HN.out; omega
      obtain ⟨b0, off0, ha, hb0, c00, c01, -, -⟩ := at_Spans (HR1.out wr hbl) k hkl
      subst ha
      obtain ⟨b1, off1, ha, hb1, c10, c11, -, -⟩ := at_Spans (HR2.out wr hbl) k hkl
      subst ha
      have HBl : Hid _ := hbl
      have z0 : b0 < wr.heap.size := Nat.lt_of_lt_of_le hb0 (Nat.le_trans hB HBl.out.size)
      have z1 : b1 < wr.heap.size := Nat.lt_of_lt_of_le hb1 (Nat.le_trans hB HBl.out.size)
      clear hbl hb0 hb1
      generalize l[k].1 = y0 at *
      generalize l[k].2.1 = y1 at *
      go_wp2_with fail
      go_region_held3 (fun w' => w'.cell? ⟨b0, off0 + k * 2, none⟩ = some (.int .i64 y0) ∧ w'.cell? ⟨b0, off0 + k * 2 + 1, none⟩ = some (.int .i64 y1) ∧ w'.cell? ⟨b1, off1 + k * 2, none⟩ = some (.int .i64 y0) ∧ w'.cell? ⟨b1, off1 + k * 2 + 1, none⟩ = some (.int .i64 y1)) (first | go_keep)
        (first | (go_at_call 96; refine (lEqSpan y0 y1 _).mono ?_; rintro e w1 ⟨rfl, hb⟩; replace hb := (Below.drew (Below.refl wr.heap.size wr)).trans hb; have HB1 : Hid (Below w.heap.size w w1) := HBl.out.trans (hb.mono HBl.out.size); have d00 := (hb.cell (p := ⟨b0, off0 + k * 2, none⟩) z0).trans c00; have d01 := (hb.cell (p := ⟨b0, off0 + k * 2 + 1, none⟩) z0).trans c01; have d10 := (hb.cell (p := ⟨b1, off1 + k * 2, none⟩) z1).trans c10; have d11 := (hb.cell (p := ⟨b1, off1 + k * 2 + 1, none⟩) z1).trans c11; clear hb))
      all_goals (go_wp2_with fail; go_roundw)
      case rel => exact ⟨k + 1, by omega, by go_num, HB1.out⟩
      case measure => simp [intOf]; omega
    · obtain rfl : k = n := by omega
      go_wp2_with fail
      go_ret
      exact ⟨rfl, hbl⟩
end Go.Proofs.Ytbdibjeemgkdaaa
