/- What compares, marks and holds answers with a net; no condition but that there are at most a million parts. -/
import Derived.Test.YtlfncadngcjdjaaRows
import Derived.Test.YtlfncadngcjdjaaBase
import Derived.Test.YtlfncadngcjdjaaBytes
import Derived.Test.YtlfncadngcjdjaaMem
import Derived.Test.YtlfncadngcjdjaaMemOpen
import Derived.Test.YtlfncadngcjdjaaMemRow
import Derived.Test.YtlfncadngcjdjaaHBase
import Derived.Test.YtlfncadngcjdjaaHMark
import Derived.Test.YtlfncadngcjdjaaBox
import Derived.Test.YtlfncadngcjdjaaSubBox
import Derived.Test.YtlfncadngcjdjaaAgg
import Derived.Test.YtlfncadngcjdjaaElMark
import Derived.Test.YtlfncadngcjdjaaMSegs
import Derived.Test.YtlfncadngcjdjaaHSegs
import Derived.Test.YtlfncadngcjdjaaSegR
import Derived.Test.YtlfncadngcjdjaaHBool
import Derived.Test.YtlfncadngcjdjaaHNet
import Derived.Test.YtlfncadngcjdjaaNetBx
import Derived.Deep.DeepCutAuto
import Derived.Deep.MidRow
namespace Go.Proofs.Ytlfncadngcjdjaa
open Go.RowKit
set_option linter.unusedVariables false
set_option maxRecDepth 8000

abbrev shNR (t : TypeId) : Sh := .cons (.int .i64) (.cons shSegm (.cons (shNetT t) .nil))
abbrev DNR : Type := Int × DSegm × DNet × Unit
def totNR (x : DNR) : Nat := totSegm x.2.1 + totNet x.2.2.1
def wtNR (x : DNR) : Nat := totSegm x.2.1 + wtNet x.2.2.1
def mkNR (c : Int) : DNR → DNR
  | (q, s, n, _) => (q, mkSegA c s, mkNet (c + (totSegm s : Nat)) n, ())
theorem wtNR_le {x : DNR} (h : totNR x ≤ 1048576) : wtNR x ≤ 16777216 := by
  unfold totNR at h
  unfold wtNR
  have := wtNet_le (x := x.2.2.1) (by omega)
  omega
theorem rd_NR {t : TypeId} {w : World} {B : Nat} {q : Int} {s : DSegm} {n : DNet} {cs : List Value} (h : (shNR t).Rd w B (q, s, n, ()) cs) :
    ∃ (S M : List Value), cs = .int .i64 q :: (S ++ M) ∧ S.length = 12 ∧ M.length = 2 ∧ shSegm.Rd w B s S ∧ (shNetT t).Rd w B n M := by
  obtain ⟨p0, q0, e0, ⟨g0, w0⟩, p1, q1, e1, h1, p2, q2, e2, h2, hz⟩ := h
  have hz' : q2 = [] := hz
  refine ⟨p1, p2, ?_, Sh.Rd.len _ _ _ h1, Sh.Rd.len _ _ _ h2, h1, h2⟩
  rw [e0, g0, e1, e2, hz']; simp
theorem nr_r1 {w : World} {b : Nat} {N : Array Value} {q : Value} {S M : List Value} (h : N.toList = q :: (S ++ M)) (hc : ∀ o, w.cell? ⟨b, o, none⟩ = N[o]?) : w.rangeAt b 1 S := fun j v hv => by
  rw [hc (1 + j), Nat.add_comm 1 j, get_of h, List.getElem?_cons_succ, List.getElem?_append_left (List.getElem?_eq_some_iff.1 hv).1]
  exact hv
theorem nr_r2 {w : World} {b : Nat} {N : Array Value} {q : Value} {S M : List Value} (h : N.toList = q :: (S ++ M)) (hl : S.length = 12) (hc : ∀ o, w.cell? ⟨b, o, none⟩ = N[o]?) : w.rangeAt b 13 M := fun j v hv => by
  rw [hc (13 + j), show 13 + j = (12 + j) + 1 by omega, get_of h, List.getElem?_cons_succ, List.getElem?_append_right (by omega), hl, Nat.add_sub_cancel_left]
  exact hv
theorem ow_NR {t : TypeId} {w : World} {bs : List Nat} {q : Int} {s : DSegm} {n : DNet} {cs : List Value} (h : (shNR t).Ow w bs (q, s, n, ()) cs) :
    ∃ b1 b2 S M, bs = b1 ++ b2 ∧ cs = .int .i64 q :: (S ++ M) ∧ S.length = 12 ∧ M.length = 2 ∧ shSegm.Ow w b1 s S ∧ (shNetT t).Ow w b2 n M ∧
      (∀ (W : World) (s' : DSegm) (n' : DNet), shSegm.Ow W b1 s' S → (shNetT t).Ow W b2 n' M → (shNR t).Ow W bs (q, s', n', ()) cs) := by
  obtain ⟨a0, r0, p0, q0, eb0, ec0, ⟨f0, g0, w0⟩, a1, r1, p1, q1, eb1, ec1, h1, a2, r2, p2, q2, eb2, ec2, h2, zb, zc⟩ := h
  refine ⟨a1, a2, p1, p2, ?_, ?_, Sh.Ow.len _ _ _ _ h1, Sh.Ow.len _ _ _ _ h2, h1, h2, fun W s' n' k1 k2 => ?_⟩
  · rw [eb0, f0, eb1, eb2, zb]; simp
  · rw [ec0, g0, ec1, ec2, zc]; simp
  · exact ⟨a0, r0, p0, q0, eb0, ec0, ⟨f0, g0, w0⟩, a1, r1, p1, q1, eb1, ec1, k1, a2, r2, p2, q2, eb2, ec2, k2, zb, zc⟩
theorem own_NR {t : TypeId} {w : World} {lo m hi : Nat} {q : Int} {s : DSegm} {n : DNet} {S M : List Value} (hq : (Lit.int .i64 q).wf = true) (h1 : Own w lo m shSegm s S) (h2 : Own w m hi (shNetT t) n M) (l1 : lo ≤ m) (l2 : m ≤ hi) : Own w lo hi (shNR t) (q, s, n, ()) (.int .i64 q :: (S ++ M)) := by
  have h := hOwnCons (hOwnInt w lo lo hq) (hOwnCons h1 (hOwnCons h2 (hOwnNil _ hi hi) l2 (Nat.le_refl _)) l1 l2) (Nat.le_refl _) (Nat.le_trans l1 l2)
  simpa using h
def zSg : DSegm := (0, 0, false, false, false, 0, 0, 0, 0, 0, 0, [], ())
abbrev zSc : List Value := [.int .i64 0, .int .i64 0, .bool false, .bool false, .bool false, .int .i64 0, .int .i64 0, .int .i64 0, .int .i64 0, .int .i64 0, .int .i64 0, .slice none 0 0]
theorem own_zSg (w : World) (lo hi : Nat) : Own w lo hi shSegm zSg zSc := ⟨[], zero_ow w shSegm, by simp, by simp⟩
def badN (q : Int) : DNR := (q, zSg, ([], [], ()), ())
theorem own_badN (t : TypeId) (w : World) (lo hi : Nat) {q : Int} (hq : (Lit.int .i64 q).wf = true) (h : lo ≤ hi) : Own w lo hi (shNR t) (badN q) (.int .i64 q :: (zSc ++ [.slice none 0 0, .slice none 0 0])) :=
  own_NR hq (own_zSg w lo lo) ⟨[], zero_ow w (shNetT t), by simp, by simp⟩ (Nat.le_refl _) h
theorem own_okN {t : TypeId} {w : World} {lo : Nat} {bag : List DSegm} {dead : List Bool} {N : Array Value} (h : NetP t w lo bag dead N) (hl : lo ≤ w.heap.size) : Own w lo w.heap.size (shNR t) (0, zSg, (bag, dead, ()), ()) (.int .i64 0 :: (zSc ++ N.toList)) :=
  own_NR (by decide) (own_zSg w lo lo) h.own (Nat.le_refl _) hl
theorem tot_badN (q : Int) : totNR (badN q) = 0 := rfl
theorem info_NR : (Try.prog.info? 33).map (·.size) = some 15 := by kernel_rfl

set_option maxHeartbeats 2000000 in
theorem lEqNR (t t' : TypeId) (x : DNR) (N N' : Array Value) (w : World) (B : Nat) (hr : (shNR t).Rd w B x N.toList) (hr' : (shNR t').Rd w B x N'.toList) (hB : B ≤ w.heap.size) (hT : totNR x ≤ 1048576) :
    Calls Try.prog 26 #[.agg N, .agg N'] w fun e w' => e = .returned (.bool true) ∧ Below w.heap.size w w' := by
  obtain ⟨q, s, n, ⟨⟩⟩ := x
  have ht : totSegm s + totNet n ≤ 1048576 := hT
  obtain ⟨S, M, eN, hl, hm, h1, h2⟩ := rd_NR hr
  obtain ⟨S', M', eN', hl', hm', h1', h2'⟩ := rd_NR hr'
  have n0 : N[0]? = some (.int .i64 q) := get_of eN 0
  have m0 : N'[0]? = some (.int .i64 q) := get_of eN' 0
  have HE : Hid (∀ W, Below w.heap.size w W → Calls Try.prog 59 #[.agg S.toArray, .agg S'.toArray] W fun e w' => e = .returned (.bool true) ∧ Below W.heap.size W w') := fun W hW => lEqSegmA s _ _ W B (Sh.Rd.below h1 hB hW) (Sh.Rd.below h1' hB hW) (Nat.le_trans hB hW.size) (by omega)
  have HS : Hid (∀ W, Below w.heap.size w W → Calls Try.prog 22 #[.agg M.toArray, .agg M'.toArray] W fun e w' => e = .returned (.bool true) ∧ Below W.heap.size W w') := fun W hW => lEqNetT t t' n _ _ W B (Sh.Rd.below h2 hB hW) (Sh.Rd.below h2' hB hW) (Nat.le_trans hB hW.size) (by omega)
  have HR0 : Hid (∀ W : World, (∀ o, W.cell? ⟨w.heap.size, o, none⟩ = N[o]?) → W.rangeAt w.heap.size 1 S) := fun W h => nr_r1 eN h
  have HR1 : Hid (∀ W : World, (∀ o, W.cell? ⟨w.heap.size + 1, o, none⟩ = N'[o]?) → W.rangeAt (w.heap.size + 1) 1 S') := fun W h => nr_r1 eN' h
  have HR2 : Hid (∀ W : World, (∀ o, W.cell? ⟨w.heap.size, o, none⟩ = N[o]?) → W.rangeAt w.heap.size 13 M) := fun W h => nr_r2 eN hl h
  have HR3 : Hid (∀ W : World, (∀ o, W.cell? ⟨w.heap.size + 1, o, none⟩ = N'[o]?) → W.rangeAt (w.heap.size + 1) 13 M') := fun W h => nr_r2 eN' hl' h
  have I0 : Hid ((Try.prog.info? 31).map (·.size) = some S.length) := by show _ = _; rw [hl]; exact info_SG12
  have I1 : Hid ((Try.prog.info? 31).map (·.size) = some S'.length) := by show _ = _; rw [hl']; exact info_SG12
  have I2 : Hid ((Try.prog.info? 27).map (·.size) = some M.length) := by show _ = _; rw [hm]; exact info_NT
  have I3 : Hid ((Try.prog.info? 27).map (·.size) = some M'.length) := by show _ = _; rw [hm']; exact info_NT
  clear hr hr' hT ht eN eN' hl hl' hm hm' h1 h1' h2 h2'
  have k0 : ∀ o, ((w.alloc (.cells N 33)).alloc (.cells N' 33)).cell? ⟨w.heap.size, o, none⟩ = N[o]? := fun o => by simp [go_sem]
  have k1 : ∀ o, ((w.alloc (.cells N 33)).alloc (.cells N' 33)).cell? ⟨w.heap.size + 1, o, none⟩ = N'[o]? := fun o => by simp [go_sem]
  go_enter Try.func26, Try.ntmps26
  go_wp2_with (first | (refine wpList_load_mid rfl 31 _ rfl _ _ (by rfl) S _ (HR0.out _ k0) Try.underlying31 rfl I0.out ?_) | (refine wpList_load_mid rfl 31 _ rfl _ _ (by rfl) S' _ (HR1.out _ k1) Try.underlying31 rfl I1.out ?_))
  refine (HE.out _ (by go_grown)).mono ?_
  rintro e w1 ⟨rfl, hb⟩
  have j0 : ∀ o, w1.cell? ⟨w.heap.size, o, none⟩ = N[o]? := fun o => by rw [hb.cell (p := ⟨w.heap.size, o, none⟩) (by simp; omega)]; exact k0 o
  have j1 : ∀ o, w1.cell? ⟨w.heap.size + 1, o, none⟩ = N'[o]? := fun o => by rw [hb.cell (p := ⟨w.heap.size + 1, o, none⟩) (by simp)]; exact k1 o
  have HB : Hid (Below w.heap.size w w1) := Below.trans (((Below.refl _ _).alloc (Nat.le_refl _) _).alloc (by simp) _) (hb.mono (by simp; omega))
  clear hb HE k0 k1
  go_wp2_with (first | (refine wpList_load_mid rfl 27 _ rfl _ _ (by rfl) M _ (HR2.out _ j0) Try.underlying27 rfl I2.out ?_) | (refine wpList_load_mid rfl 27 _ rfl _ _ (by rfl) M' _ (HR3.out _ j1) Try.underlying27 rfl I3.out ?_))
  refine (HS.out _ HB.out).mono ?_
  rintro e w2 ⟨rfl, hb⟩
  replace HB : Hid (Below w.heap.size w w2) := HB.out.trans (hb.mono HB.out.size)
  clear hb HS j0 j1
  go_wp2_with fail
  go_ret
  exact ⟨rfl, HB.out⟩
set_option maxHeartbeats 2000000 in
theorem lHeldNR (t : TypeId) (x : DNR) (N : Array Value) (c : Int) (w : World) (B : Nat) (hr : (shNR t).Rd w B (mkNR c x) N.toList) (hB : B ≤ w.heap.size) (hT : totNR x ≤ 1048576) (hc0 : 0 ≤ c) (hc1 : c ≤ 16777216) :
    Calls Try.prog 30 #[.agg N, .int .i64 c] w fun e w' => e = .returned (.int .i64 (c + (wtNR x : Nat))) ∧ Below w.heap.size w w' := by
  obtain ⟨q, s, n, ⟨⟩⟩ := x
  have ht : totSegm s + totNet n ≤ 1048576 := hT
  have hwn := wtNet_le (x := n) (by omega)
  obtain ⟨S, M, eN, hl, hm, h1, h2⟩ := rd_NR hr
  have HV : Hid (c + (totSegm s : Nat) + (wtNet n : Nat) = c + (wtNR (q, s, n, PUnit.unit) : Nat)) := by
    show _ = _
    have : wtNR (q, s, n, PUnit.unit) = totSegm s + wtNet n := rfl
    rw [this]; push_cast; omega
  have HE : Hid (∀ W, Below w.heap.size w W → Calls Try.prog 61 #[.agg S.toArray, .int .i64 c] W fun e w' => e = .returned (.int .i64 (c + (totSegm s : Nat))) ∧ Below W.heap.size W w') := fun W hW => lHeldSegA s _ c W B (Sh.Rd.below h1 hB hW) (Nat.le_trans hB hW.size) (by omega) hc0 hc1
  have HS : Hid (∀ W, Below w.heap.size w W → Calls Try.prog 62 #[.agg M.toArray, .int .i64 (c + (totSegm s : Nat))] W fun e w' => e = .returned (.int .i64 (c + (totSegm s : Nat) + (wtNet n : Nat))) ∧ Below W.heap.size W w') := fun W hW => lHeldNet t n _ _ W B (Sh.Rd.below h2 hB hW) (Nat.le_trans hB hW.size) (by omega) (by omega) (by omega)
  have HR0 : Hid ((w.alloc (.cells N 33)).rangeAt w.heap.size 1 S) := nr_r1 eN (bx_al w _ _)
  have HR2 : Hid (∀ W : World, (∀ o, W.cell? ⟨w.heap.size, o, none⟩ = N[o]?) → W.rangeAt w.heap.size 13 M) := fun W h => nr_r2 eN hl h
  have I0 : Hid ((Try.prog.info? 31).map (·.size) = some S.length) := by show _ = _; rw [hl]; exact info_SG12
  have I2 : Hid ((Try.prog.info? 27).map (·.size) = some M.length) := by show _ = _; rw [hm]; exact info_NT
  have p1 : 0 ≤ c + (totSegm s : Int) := by omega
  have p2 : 0 ≤ c + (totSegm s : Int) + (wtNet n : Int) := by omega
  clear hr hT ht hwn eN hl hm h1 h2
  rw [← HV.out]
  clear HV
  generalize wtNet n = q2 at *
  generalize totSegm s = q1 at *
  go_enter Try.func30, Try.ntmps30
  go_wp2_with (refine wpList_load_mid rfl 31 _ rfl _ _ (by rfl) S _ HR0.out Try.underlying31 rfl I0.out ?_)
  refine (HE.out _ (by go_grown)).mono ?_
  rintro e w1 ⟨rfl, hb⟩
  have j0 := bx_new hb
  have HB : Hid (Below w.heap.size w w1) := (bl_new hb).1
  clear hb HE HR0
  go_wp2_with (refine wpList_load_mid rfl 27 _ rfl _ _ (by rfl) M _ (HR2.out _ j0) Try.underlying27 rfl I2.out ?_)
  refine (HS.out _ HB.out).mono ?_
  rintro e w2 ⟨rfl, hb⟩
  replace HB : Hid (Below w.heap.size w w2) := HB.out.trans (hb.mono HB.out.size)
  clear hb j0
  go_wp2_with fail
  go_ret
  exact ⟨rfl, HB.out⟩
set_option maxHeartbeats 2000000 in
theorem lMarkNR (t : TypeId) (x : DNR) (N : Array Value) (c : Int) (w : World) (lo hi : Nat) (ho : Own w lo hi (shNR t) x N.toList) (hT : totNR x ≤ 1048576) (hc0 : 0 ≤ c) (hc1 : c ≤ 16777216) :
    Calls Try.prog 29 #[.agg N, .int .i64 c] w fun e w' => e = .returned (.int .i64 (c + (wtNR x : Nat))) ∧ Own w' lo hi (shNR t) (mkNR c x) N.toList ∧ Within lo hi w w' := by
  obtain ⟨bs, hO, hnd, hbd⟩ := ho
  obtain ⟨q, s, n, ⟨⟩⟩ := x
  obtain ⟨b1, b2, S, M, rfl, eN, hl, hm, h1, h2, HMK⟩ := ow_NR hO
  have ht : totSegm s + totNet n ≤ 1048576 := hT
  have hwn := wtNet_le (x := n) (by omega)
  obtain ⟨nd1, nd2, hdis⟩ := List.nodup_append.1 hnd
  have l1 : ∀ b ∈ b1, b < w.heap.size := Sh.Ow.lt _ _ _ _ h1
  have l2 : ∀ b ∈ b2, b < w.heap.size := Sh.Ow.lt _ _ _ _ h2
  have HV : Hid (c + (totSegm s : Nat) + (wtNet n : Nat) = c + (wtNR (q, s, n, PUnit.unit) : Nat)) := by
    show _ = _
    have : wtNR (q, s, n, PUnit.unit) = totSegm s + wtNet n := rfl
    rw [this]; push_cast; omega
  have H1 : Hid (∀ W, Below w.heap.size w W → Calls Try.prog 60 #[.agg S.toArray, .int .i64 c] W fun e w' => e = .returned (.int .i64 (c + (totSegm s : Nat))) ∧ shSegm.Ow w' b1 (mkSegA c s) S ∧ Touch b1 W w') := fun W hW => lMarkSegA s S.toArray c W b1 (Sh.Ow.keep _ _ _ _ (fun b hb => hW.block b (l1 b hb)) h1) nd1 (by omega) hc0 hc1
  have H2 : Hid (∀ W, (∀ b ∈ b2, W.heap[b]? = w.heap[b]?) → Calls Try.prog 34 #[.agg M.toArray, .int .i64 (c + (totSegm s : Nat))] W fun e w' => e = .returned (.int .i64 (c + (totSegm s : Nat) + (wtNet n : Nat))) ∧ (shNetT t).Ow w' b2 (mkNet (c + (totSegm s : Nat)) n) M ∧ Touch b2 W w') := fun W hW => lMarkNetT t n M.toArray _ W b2 (Sh.Ow.keep _ _ _ _ hW h2) nd2 (by omega) (by omega) (by omega)
  have HM : Hid (∀ W, shSegm.Ow W b1 (mkSegA c s) S → (shNetT t).Ow W b2 (mkNet (c + (totSegm s : Nat)) n) M → Own W lo hi (shNR t) (mkNR c (q, s, n, PUnit.unit)) N.toList) := fun W k1 k2 => ⟨b1 ++ b2, HMK W _ _ k1 k2, hnd, hbd⟩
  have HL1 : Hid _ := l1
  have HL2 : Hid _ := l2
  have HD2 : Hid (∀ b ∈ b2, b ∉ b1) := fun b hb hb' => hdis b hb' b hb rfl
  have HBD : Hid (∀ b ∈ b1 ++ b2, lo ≤ b ∧ b < hi) := hbd
  have HR0 : Hid ((w.alloc (.cells N 33)).rangeAt w.heap.size 1 S) := nr_r1 eN (bx_al w _ _)
  have HR2 : Hid (∀ W : World, (∀ o, W.cell? ⟨w.heap.size, o, none⟩ = N[o]?) → W.rangeAt w.heap.size 13 M) := fun W h => nr_r2 eN hl h
  have I0 : Hid ((Try.prog.info? 31).map (·.size) = some S.length) := by show _ = _; rw [hl]; exact info_SG12
  have I2 : Hid ((Try.prog.info? 27).map (·.size) = some M.length) := by show _ = _; rw [hm]; exact info_NT
  clear hO hnd hbd h1 h2 HMK eN hl hm hT ht hwn nd1 nd2 hdis l1 l2
  rw [← HV.out]
  clear HV
  generalize mkNR c (q, s, n, PUnit.unit) = MM at *
  generalize mkNet (c + (totSegm s : Nat)) n = M2 at *
  generalize mkSegA c s = M1 at *
  generalize wtNet n = q2 at *
  generalize totSegm s = q1 at *
  go_enter Try.func29, Try.ntmps29
  go_wp2_with (refine wpList_load_mid rfl 31 _ rfl _ _ (by rfl) S _ HR0.out Try.underlying31 rfl I0.out ?_)
  refine (H1.out _ (by go_grown)).mono ?_
  rintro e w1 ⟨rfl, ho1, ht1⟩
  have j0 : ∀ o, w1.cell? ⟨w.heap.size, o, none⟩ = N[o]? := bx_keep (w := w.alloc (.cells N 33)) (bx_al _ _ _) (ht1.block w.heap.size (by simp) (fun h => by have := HL1.out _ h; omega))
  have HO1 : Hid _ := ho1
  have HK1 : Hid (∀ b, b < w.heap.size → b ∉ b1 → w1.heap[b]? = w.heap[b]?) := fun b hb hn => (ht1.block b (by simp; omega) hn).trans (Below.heap_alloc _ _ _ hb)
  have HT1 : Hid (Within lo hi w w1) := (Within.below ((Below.refl _ _).alloc (Nat.le_refl _) _)).trans ⟨ht1.os, ht1.tape, ht1.output, ht1.size, fun b hb hn => ht1.block b hb fun hm => hn (HBD.out b (List.mem_append_left _ hm))⟩
  have z1 : w.heap.size < w1.heap.size := by have := ht1.size; simp at this; omega
  clear ho1 ht1 H1 HR0
  go_wp2_with (refine wpList_load_mid rfl 27 _ rfl _ _ (by rfl) M _ (HR2.out _ j0) Try.underlying27 rfl I2.out ?_)
  refine (H2.out _ (fun b hb => HK1.out b (HL2.out b hb) (HD2.out b hb))).mono ?_
  rintro e w2 ⟨rfl, ho2, ht2⟩
  have HO2 : Hid (Own w2 lo hi (shNR t) MM N.toList) := HM.out w2 (Sh.Ow.keep _ _ _ _ (fun b hb => ht2.block b (by have := HL1.out b hb; omega) (fun h => HD2.out b h hb)) HO1.out) ho2
  have HT2 : Hid (Within lo hi w w2) := HT1.out.trans ⟨ht2.os, ht2.tape, ht2.output, ht2.size, fun b hb hn => ht2.block b hb fun hm => hn (HBD.out b (List.mem_append_right _ hm))⟩
  clear ho2 ht2 H2 HM j0
  go_wp2_with fail
  go_ret
  exact ⟨rfl, HO2.out, HT2.out⟩
end Go.Proofs.Ytlfncadngcjdjaa
