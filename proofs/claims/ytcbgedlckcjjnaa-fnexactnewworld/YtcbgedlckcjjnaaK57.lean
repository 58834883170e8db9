/- What the law's own helpers (measure, copy, compare, mark, hold) make of nets; no condition but that there are at most a million parts. -/
import Derived.Test.YtcbgedlckcjjnaaRows
import Derived.Deep.DeepCutAuto
import Derived.Deep.MidRow
import Derived.Test.YtcbgedlckcjjnaaK01
import Derived.Test.YtcbgedlckcjjnaaK02
import Derived.Test.YtcbgedlckcjjnaaK03
import Derived.Test.YtcbgedlckcjjnaaK10
import Derived.Test.YtcbgedlckcjjnaaK17
import Derived.Test.YtcbgedlckcjjnaaK20
import Derived.Test.YtcbgedlckcjjnaaK55
namespace Go.Proofs.Ytcbgedlckcjjnaa
open Go.RowKit Go.ChangeShapes Go.WideShapes Go.ChangeAt
set_option linter.unusedVariables false
set_option maxRecDepth 8000

abbrev shNetT (t : TypeId) : Sh := .cons shSegms (.cons (bls t) .nil)
abbrev shNet : Sh := shNetT 4
abbrev DNet : Type := List DSegm × List Bool × Unit
def totNet (x : DNet) : Nat := totSegms x.1 + x.2.1.length
def wtNet (x : DNet) : Nat := fsum wtSegm x.1 + x.2.1.length
def mkNet (c : Int) : DNet → DNet
  | (l, d, _) => (mkL mkSegm wtSegm c l, markB (c + (fsum wtSegm l : Nat)) d.length, ())
theorem wtSegmN : ∀ (l : List DSegm), fsum wtSegm l = 11 * l.length + fsum totSegm l
  | [] => rfl
  | x :: r => by
    have h := wtSegmN r
    have e : wtSegm x = 11 + totSegm x := rfl
    rw [fsum_cons, fsum_cons, List.length_cons, e, h]; omega
theorem wtNet_le {x : DNet} (h : totNet x ≤ 1048576) : wtNet x ≤ 12582912 := by
  unfold totNet totSegms at h
  unfold wtNet
  have := wtSegmN x.1
  omega
theorem rd_Net {w : World} {B : Nat} {t : TypeId} {l : List DSegm} {d : List Bool} {cs : List Value} (h : (shNetT t).Rd w B (l, d, ()) cs) : ∃ a c a' c', cs = [.slice a l.length c, .slice a' d.length c'] ∧ shSegms.Rd w B l [.slice a l.length c] ∧ (bls t).Rd w B d [.slice a' d.length c'] := by
  obtain ⟨p0, q0, e0, h0, p1, q1, e1, h1, hz⟩ := h
  have hz' : q1 = [] := hz
  obtain ⟨a, c, f0⟩ := row_form h0
  subst f0
  obtain ⟨a', c', f1⟩ := row_form h1
  subst f1
  exact ⟨a, c, a', c', by rw [e0, e1, hz']; rfl, h0, h1⟩
theorem ow_Net {w : World} {bs : List Nat} {t : TypeId} {l : List DSegm} {d : List Bool} {cs : List Value} (h : (shNetT t).Ow w bs (l, d, ()) cs) : ∃ b1 b2 a c a' c', bs = b1 ++ b2 ∧ cs = [.slice a l.length c, .slice a' d.length c'] ∧ shSegms.Ow w b1 l [.slice a l.length c] ∧ (bls t).Ow w b2 d [.slice a' d.length c'] := by
  obtain ⟨a0, r0, p0, q0, eb0, ec0, h0, a1, r1, p1, q1, eb1, ec1, h1, zb, zc⟩ := h
  obtain ⟨a, c, f0⟩ := row_form (Sh.Ow.rd (Nat.le_refl _) _ _ _ _ h0)
  subst f0
  obtain ⟨a', c', f1⟩ := row_form (Sh.Ow.rd (Nat.le_refl _) _ _ _ _ h1)
  subst f1
  exact ⟨a0, a1, a, c, a', c', by rw [eb0, eb1, zb]; simp, by rw [ec0, ec1, zc]; rfl, h0, h1⟩
theorem mk_Net {w : World} {b1 b2 : List Nat} {t : TypeId} {l : List DSegm} {d : List Bool} {v u : Value} (h1 : shSegms.Ow w b1 l [v]) (h2 : (bls t).Ow w b2 d [u]) : (shNetT t).Ow w (b1 ++ b2) (l, d, ()) [v, u] :=
  ⟨b1, b2, [v], [u], rfl, rfl, h1, b2, [], [u], [], by simp, rfl, h2, rfl, rfl⟩
theorem own_Net {w : World} {lo mid hi : Nat} {t : TypeId} {l : List DSegm} {d : List Bool} {v u : Value} (h1 : Own w lo mid shSegms l [v]) (h2 : Own w mid hi (bls t) d [u]) (hlm : lo ≤ mid) (hmh : mid ≤ hi) : Own w lo hi (shNetT t) (l, d, ()) [v, u] :=
  hOwnCons h1 (hOwnCons h2 (hOwnNil _ hi hi) hmh (Nat.le_refl _)) hlm hmh
/-- The same, the bools ahead. -/
theorem own_Net' {w : World} {lo mid hi : Nat} {t : TypeId} {l : List DSegm} {d : List Bool} {v u : Value} (h2 : Own w lo mid (bls t) d [u]) (h1 : Own w mid hi shSegms l [v]) (hlm : lo ≤ mid) (hmh : mid ≤ hi) : Own w lo hi (shNetT t) (l, d, ()) [v, u] := by
  obtain ⟨b1, k1, n1, r1⟩ := h1
  obtain ⟨b2, k2, n2, r2⟩ := h2
  refine ⟨b1 ++ b2, mk_Net k1 k2, List.nodup_append.2 ⟨n1, n2, fun a ha b hb e => ?_⟩, fun b hb => ?_⟩
  · subst e
    have := r1 a ha; have := r2 a hb; omega
  · rcases List.mem_append.1 hb with h | h
    · have := r1 b h; omega
    · have := r2 b h; omega



set_option maxHeartbeats 1000000 in
theorem lEqNetT (t t' : TypeId) (x : DNet) (A A' : Array Value) (w : World) (B : Nat) (hr : (shNetT t).Rd w B x A.toList) (hr' : (shNetT t').Rd w B x A'.toList) (hB : B ≤ w.heap.size) (hT : totNet x ≤ 1048576) :
    Calls Try.prog 27 #[.agg A, .agg A'] w fun e w' => e = .returned (.bool true) ∧ Below w.heap.size w w' := by
  obtain ⟨l, d, ⟨⟩⟩ := x
  obtain ⟨a, c, a1, c1, eA, r1, r2⟩ := rd_Net hr
  obtain ⟨b, k, b1, k1, eB, q1, q2⟩ := rd_Net hr'
  rw [arr_of eA, arr_of eB]
  have ht : totSegms l + d.length ≤ 1048576 := hT
  have HC1 : Hid (∀ W, Below w.heap.size w W → Calls Try.prog 40 #[.slice a l.length c, .slice b l.length k] W fun e w' => e = .returned (.bool true) ∧ Below W.heap.size W w') := fun W hW => lEqSegms l _ _ W B (Sh.Rd.below r1 hB hW) (Sh.Rd.below q1 hB hW) (Nat.le_trans hB hW.size) (by omega)
  have HC2 : Hid (∀ W, Below w.heap.size w W → Calls Try.prog 29 #[.slice a1 d.length c1, .slice b1 d.length k1] W fun e w' => e = .returned (.bool true) ∧ Below W.heap.size W w') := fun W hW => lEqBools _ _ d _ _ W B (Sh.Rd.below r2 hB hW) (Sh.Rd.below q2 hB hW) (Nat.le_trans hB hW.size) (by omega)
  clear hr hr' r1 r2 q1 q2 eA eB hT ht
  generalize l.length = n at *
  generalize d.length = m at *
  go_enter Try.func27, Try.ntmps27
  go_wp2_with fail
  refine (HC1.out _ (by go_grown)).mono ?_
  rintro e w1 ⟨rfl, hb⟩
  have j0 : ∀ o, w1.cell? ⟨w.heap.size, o, none⟩ = (#[.slice a n c, .slice a1 m c1] : Array Value)[o]? := fun o => by rw [hb.cell (p := ⟨w.heap.size, o, none⟩) (by simp; omega)]; simp [go_sem]
  have j1 : ∀ o, w1.cell? ⟨w.heap.size + 1, o, none⟩ = (#[.slice b n k, .slice b1 m k1] : Array Value)[o]? := fun o => by rw [hb.cell (p := ⟨w.heap.size + 1, o, none⟩) (by simp)]; simp [go_sem]
  have HB : Hid (Below w.heap.size w w1) := Below.trans (((Below.refl _ _).alloc (Nat.le_refl _) _).alloc (by simp) _) (hb.mono (by simp; omega))
  clear hb HC1
  go_wp2_with fail
  refine (HC2.out _ HB.out).mono ?_
  rintro e w2 ⟨rfl, hb⟩
  replace HB : Hid (Below w.heap.size w w2) := HB.out.trans (hb.mono HB.out.size)
  clear hb HC2 j0 j1
  go_wp2_with fail
  go_ret
  exact ⟨rfl, HB.out⟩
theorem lEqNet (x : DNet) (A A' : Array Value) (w : World) (B : Nat) (hr : shNet.Rd w B x A.toList) (hr' : shNet.Rd w B x A'.toList) (hB : B ≤ w.heap.size) (hT : totNet x ≤ 1048576) :
    Calls Try.prog 27 #[.agg A, .agg A'] w fun e w' => e = .returned (.bool true) ∧ Below w.heap.size w w' := lEqNetT _ _ x A A' w B hr hr' hB hT

set_option maxHeartbeats 1000000 in
theorem lHeldNet (t : TypeId) (x : DNet) (A : Array Value) (c : Int) (w : World) (B : Nat) (hr : (shNetT t).Rd w B (mkNet c x) A.toList) (hB : B ≤ w.heap.size) (hT : totNet x ≤ 1048576) (hc0 : 0 ≤ c) (hc1 : c ≤ 33554432) :
    Calls Try.prog 35 #[.agg A, .int .i64 c] w fun e w' => e = .returned (.int .i64 (c + (wtNet x : Nat))) ∧ Below w.heap.size w w' := by
  obtain ⟨l, d, ⟨⟩⟩ := x
  have hws := wtSegmN l
  have ht : l.length + fsum totSegm l + d.length ≤ 1048576 := hT
  obtain ⟨a, k, a1, k1, eA, r1, r2⟩ := rd_Net hr
  rw [arr_of eA]
  have l1 : (mkL mkSegm wtSegm c l).length = l.length := mkL_length _ _
  have l2 : (markB (c + (fsum wtSegm l : Nat)) d.length).length = d.length := markB_length _ _
  rw [l1, l2]
  rw [l1] at r1
  rw [l2] at r2
  have HC1 : Hid (∀ W, Below w.heap.size w W → Calls Try.prog 46 #[.slice a l.length k, .int .i64 c] W fun e w' => e = .returned (.int .i64 (c + (fsum wtSegm l : Nat))) ∧ w' = W) := fun W hW => lHeldSegms l _ c W B (Sh.Rd.below r1 hB hW) (by omega) hc0 (by omega)
  have HC2 : Hid (∀ W, Below w.heap.size w W → Calls Try.prog 37 #[.slice a1 d.length k1, .int .i64 (c + (fsum wtSegm l : Nat))] W fun e w' => e = .returned (.int .i64 (c + (fsum wtSegm l : Nat) + (d.length : Nat))) ∧ w' = W) := fun W hW => lHeldBools _ d.length _ _ W B (Sh.Rd.below r2 hB hW) (by omega) (by omega) (by omega)
  have HV : Hid (c + (fsum wtSegm l : Nat) + (d.length : Nat) = c + (wtNet (l, d, PUnit.unit) : Nat)) := by
    show _ = _
    have : wtNet (l, d, PUnit.unit) = fsum wtSegm l + d.length := rfl
    rw [this]; push_cast; omega
  have p1 : 0 ≤ c + (fsum wtSegm l : Int) := by omega
  have p2 : 0 ≤ c + (fsum wtSegm l : Int) + (d.length : Int) := by omega
  clear hr hT ht hws eA l1 l2 r1 r2
  rw [← HV.out]
  clear HV
  generalize fsum wtSegm l = q1 at *
  generalize l.length = n1 at *
  generalize d.length = n2 at *
  go_enter Try.func35, Try.ntmps35
  go_wp2_with fail
  refine (HC1.out _ (by go_grown)).mono ?_
  rintro e w1 ⟨rfl, hw1⟩
  have k0 := bx_al w #[.slice a n1 k, .slice a1 n2 k1] 27
  have HB : Hid (Below w.heap.size w w1) := by rw [hw1]; exact (Below.refl _ _).alloc (Nat.le_refl _) _
  rw [← hw1] at k0
  clear hw1 HC1
  go_wp2_with fail
  refine (HC2.out _ HB.out).mono ?_
  rintro e w2 ⟨rfl, hw2⟩
  subst w2
  go_wp2_with fail
  go_ret
  exact ⟨rfl, HB.out⟩

set_option maxHeartbeats 1000000 in
theorem lMarkNetT (t : TypeId) (x : DNet) (A : Array Value) (c : Int) (w : World) (bs : List Nat) (ho : (shNetT t).Ow w bs x A.toList) (hnd : bs.Nodup) (hT : totNet x ≤ 1048576) (hc0 : 0 ≤ c) (hc1 : c ≤ 33554432) :
    Calls Try.prog 31 #[.agg A, .int .i64 c] w fun e w' => e = .returned (.int .i64 (c + (wtNet x : Nat))) ∧ (shNetT t).Ow w' bs (mkNet c x) A.toList ∧ Touch bs w w' := by
  obtain ⟨l, d, ⟨⟩⟩ := x
  have hws := wtSegmN l
  have ht : l.length + fsum totSegm l + d.length ≤ 1048576 := hT
  obtain ⟨b1, b2, a, k, a1, k1, rfl, eA, h1, h2⟩ := ow_Net ho
  rw [arr_of eA]
  obtain ⟨nd1, nd2, hdis⟩ := List.nodup_append.1 hnd
  have l1 : ∀ b ∈ b1, b < w.heap.size := Sh.Ow.lt _ _ _ _ h1
  have l2 : ∀ b ∈ b2, b < w.heap.size := Sh.Ow.lt _ _ _ _ h2
  have HV : Hid (c + (fsum wtSegm l : Nat) + (d.length : Nat) = c + (wtNet (l, d, PUnit.unit) : Nat)) := by
    show _ = _
    have : wtNet (l, d, PUnit.unit) = fsum wtSegm l + d.length := rfl
    rw [this]; push_cast; omega
  have H1 : Hid (∀ W, Below w.heap.size w W → Calls Try.prog 43 #[.slice a l.length k, .int .i64 c] W fun e w' => e = .returned (.int .i64 (c + (fsum wtSegm l : Nat))) ∧ shSegms.Ow w' b1 (mkL mkSegm wtSegm c l) [.slice a l.length k] ∧ Touch b1 W w') := fun W hW => lMarkSegms l _ c W b1 (Sh.Ow.keep _ _ _ _ (fun b hb => hW.block b (l1 b hb)) h1) nd1 (by omega) hc0 (by omega)
  have H2 : Hid (∀ W, (∀ b ∈ b2, W.heap[b]? = w.heap[b]?) → Calls Try.prog 33 #[.slice a1 d.length k1, .int .i64 (c + (fsum wtSegm l : Nat))] W fun e w' => e = .returned (.int .i64 (c + (fsum wtSegm l : Nat) + (d.length : Nat))) ∧ (bls t).Ow w' b2 (markB (c + (fsum wtSegm l : Nat)) d.length) [.slice a1 d.length k1] ∧ Touch b2 W w') := fun W hW => lMarkBools t d _ _ W b2 (Sh.Ow.keep _ _ _ _ hW h2) (by omega) (by omega) (by omega)
  have HM : Hid (∀ W, shSegms.Ow W b1 (mkL mkSegm wtSegm c l) [.slice a l.length k] → (bls t).Ow W b2 (markB (c + (fsum wtSegm l : Nat)) d.length) [.slice a1 d.length k1] → (shNetT t).Ow W (b1 ++ b2) (mkNet c (l, d, PUnit.unit)) [.slice a l.length k, .slice a1 d.length k1]) := fun W k1 k2 => mk_Net k1 k2
  have HL1 : Hid _ := l1
  have HL2 : Hid _ := l2
  have HD2 : Hid (∀ b ∈ b2, b ∉ b1) := fun b hb hb' => hdis b hb' b hb rfl
  clear ho hnd h1 h2 eA hT ht hws nd1 nd2 hdis l1 l2
  rw [← HV.out]
  clear HV
  generalize mkNet c (l, d, PUnit.unit) = MM at *
  generalize markB (c + (fsum wtSegm l : Nat)) d.length = M2 at *
  generalize mkL mkSegm wtSegm c l = M1 at *
  generalize fsum wtSegm l = q1 at *
  generalize l.length = n1 at *
  generalize d.length = n2 at *
  go_enter Try.func31, Try.ntmps31
  go_wp2_with fail
  refine (H1.out _ (by go_grown)).mono ?_
  rintro e w1 ⟨rfl, ho1, ht1⟩
  have j0 : ∀ o, w1.cell? ⟨w.heap.size, o, none⟩ = (#[.slice a n1 k, .slice a1 n2 k1] : Array Value)[o]? := bx_keep (w := w.alloc (.cells #[.slice a n1 k, .slice a1 n2 k1] 27)) (bx_al _ _ _) (ht1.block w.heap.size (by simp) (fun h => by have := HL1.out _ h; omega))
  have HO1 : Hid _ := ho1
  have HK1 : Hid (∀ b, b < w.heap.size → b ∉ b1 → w1.heap[b]? = w.heap[b]?) := fun b hb hn => (ht1.block b (by simp; omega) hn).trans (Below.heap_alloc _ _ _ hb)
  have HT1 : Hid (Touch (b1 ++ b2) w w1) := (Touch.below ((Below.refl _ _).alloc (Nat.le_refl _) _)).trans (ht1.mono fun x hx => List.mem_append_left _ hx)
  have z1 : w.heap.size < w1.heap.size := by have := ht1.size; simp at this; omega
  clear ho1 ht1 H1
  go_wp2_with fail
  refine (H2.out _ (fun b hb => HK1.out b (HL2.out b hb) (HD2.out b hb))).mono ?_
  rintro e w2 ⟨rfl, ho2, ht2⟩
  have HO2 : Hid ((shNetT t).Ow w2 (b1 ++ b2) MM [.slice a n1 k, .slice a1 n2 k1]) := HM.out w2 (Sh.Ow.keep _ _ _ _ (fun b hb => ht2.block b (by have := HL1.out b hb; omega) (fun h => HD2.out b h hb)) HO1.out) ho2
  have HT2 : Hid (Touch (b1 ++ b2) w w2) := HT1.out.trans (ht2.mono fun x hx => List.mem_append_right _ hx)
  clear ho2 ht2 H2 HM j0
  go_wp2_with fail
  go_ret
  exact ⟨rfl, HO2.out, HT2.out⟩
theorem lMarkNet (x : DNet) (A : Array Value) (c : Int) (w : World) (lo hi : Nat) (ho : Own w lo hi shNet x A.toList) (hT : totNet x ≤ 1048576) (hc0 : 0 ≤ c) (hc1 : c ≤ 33554432) :
    Calls Try.prog 31 #[.agg A, .int .i64 c] w fun e w' => e = .returned (.int .i64 (c + (wtNet x : Nat))) ∧ Own w' lo hi shNet (mkNet c x) A.toList ∧ Within lo hi w w' := by
  obtain ⟨bs, h1, h2, h3⟩ := ho
  refine (lMarkNetT _ x A c w bs h1 h2 hT hc0 hc1).mono ?_
  rintro e w' ⟨he, ho, ht⟩
  exact ⟨he, ⟨bs, ho, h2, h3⟩, ⟨ht.os, ht.tape, ht.output, ht.size, fun b hb hn => ht.block b hb fun hm => hn (h3 b hm)⟩⟩
end Go.Proofs.Ytcbgedlckcjjnaa
