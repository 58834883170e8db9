/- What the law's own helpers (measure, copy, compare, mark, hold) make of nets; no condition but that there are at most a million parts. -/
import Derived.Test.YtfpemobkkfobkaaGreatDoorRows
import Derived.Deep.DeepCutAuto
import Derived.Deep.MidRow
import Derived.Test.YtfpemobkkfobkaaGreatDoorK01
import Derived.Test.YtfpemobkkfobkaaGreatDoorK02
import Derived.Test.YtfpemobkkfobkaaGreatDoorK03
import Derived.Test.YtfpemobkkfobkaaGreatDoorK10
import Derived.Test.YtfpemobkkfobkaaGreatDoorK17
import Derived.Test.YtfpemobkkfobkaaGreatDoorK20
import Derived.Test.YtfpemobkkfobkaaGreatDoorK55
import Derived.Test.YtfpemobkkfobkaaGreatDoorK56
namespace Go.Proofs.YtfpemobkkfobkaaGreatDoor
open Go.RowKit Go.ChangeShapes Go.WideShapes Go.ChangeAt
set_option linter.unusedVariables false
set_option maxRecDepth 8000

abbrev shNetT (t : TypeId) : Sh := .cons shSegms (.cons (bls t) .nil)
abbrev shNet : Sh := shNetT 4
abbrev DNet : Type := List DSegm × List Bool × Unit
def totNet (x : DNet) : Nat := totSegms x.1 + x.2.1.length
def wtNet (x : DNet) : Nat := fsum wtSegm x.1 + x.2.1.length
def mkNet (c : Int) : DNet → DNet
  | (l, d, _) => (mkL mkSegm wtSegm c l, markB (c + (fsum wtSegm l : Nat)) d.length, ())
theorem wtSegmN : ∀ (l : List DSegm), fsum wtSegm l = 11 * l.length + fsum totSegm l
  | [] => rfl
  | x :: r => by
    have h := wtSegmN r
    have e : wtSegm x = 11 + totSegm x := rfl
    rw [fsum_cons, fsum_cons, List.length_cons, e, h]; omega
theorem wtNet_le {x : DNet} (h : totNet x ≤ 1048576) : wtNet x ≤ 12582912 := by
  unfold totNet totSegms at h
  unfold wtNet
  have := wtSegmN x.1
  omega
theorem rd_Net {w : World} {B : Nat} {t : TypeId} {l : List DSegm} {d : List Bool} {cs : List Value} (h : (shNetT t).Rd w B (l, d, ()) cs) : ∃ a c a' c', cs = [.slice a l.length c, .slice a' d.length c'] ∧ shSegms.Rd w B l [.slice a l.length c] ∧ (bls t).Rd w B d [.slice a' d.length c'] := by
  obtain ⟨p0, q0, e0, h0, p1, q1, e1, h1, hz⟩ := h
  have hz' : q1 = [] := hz
  obtain ⟨a, c, f0⟩ := row_form h0
  subst f0
  obtain ⟨a', c', f1⟩ := row_form h1
  subst f1
  exact ⟨a, c, a', c', by rw [e0, e1, hz']; rfl, h0, h1⟩
theorem ow_Net {w : World} {bs : List Nat} {t : TypeId} {l : List DSegm} {d : List Bool} {cs : List Value} (h : (shNetT t).Ow w bs (l, d, ()) cs) : ∃ b1 b2 a c a' c', bs = b1 ++ b2 ∧ cs = [.slice a l.length c, .slice a' d.length c'] ∧ shSegms.Ow w b1 l [.slice a l.length c] ∧ (bls t).Ow w b2 d [.slice a' d.length c'] := by
  obtain ⟨a0, r0, p0, q0, eb0, ec0, h0, a1, r1, p1, q1, eb1, ec1, h1, zb, zc⟩ := h
  obtain ⟨a, c, f0⟩ := row_form (Sh.Ow.rd (Nat.le_refl _) _ _ _ _ h0)
  subst f0
  obtain ⟨a', c', f1⟩ := row_form (Sh.Ow.rd (Nat.le_refl _) _ _ _ _ h1)
  subst f1
  exact ⟨a0, a1, a, c, a', c', by rw [eb0, eb1, zb]; simp, by rw [ec0, ec1, zc]; rfl, h0, h1⟩
theorem mk_Net {w : World} {b1 b2 : List Nat} {t : TypeId} {l : List DSegm} {d : List Bool} {v u : Value} (h1 : shSegms.Ow w b1 l [v]) (h2 : (bls t).Ow w b2 d [u]) : (shNetT t).Ow w (b1 ++ b2) (l, d, ()) [v, u] :=
  ⟨b1, b2, [v], [u], rfl, rfl, h1, b2, [], [u], [], by simp, rfl, h2, rfl, rfl⟩
theorem own_Net {w : World} {lo mid hi : Nat} {t : TypeId} {l : List DSegm} {d : List Bool} {v u : Value} (h1 : Own w lo mid shSegms l [v]) (h2 : Own w mid hi (bls t) d [u]) (hlm : lo ≤ mid) (hmh : mid ≤ hi) : Own w lo hi (shNetT t) (l, d, ()) [v, u] :=
  hOwnCons h1 (hOwnCons h2 (hOwnNil _ hi hi) hmh (Nat.le_refl _)) hlm hmh
/-- The same, the bools ahead. -/
theorem own_Net' {w : World} {lo mid hi : Nat} {t : TypeId} {l : List DSegm} {d : List Bool} {v u : Value} (h2 : Own w lo mid (bls t) d [u]) (h1 : Own w mid hi shSegms l [v]) (hlm : lo ≤ mid) (hmh : mid ≤ hi) : Own w lo hi (shNetT t) (l, d, ()) [v, u] := by
  obtain ⟨b1, k1, n1, r1⟩ := h1
  obtain ⟨b2, k2, n2, r2⟩ := h2
  refine ⟨b1 ++ b2, mk_Net k1 k2, List.nodup_append.2 ⟨n1, n2, fun a ha b hb e => ?_⟩, fun b hb => ?_⟩
  · subst e
    have := r1 a ha; have := r2 a hb; omega
  · rcases List.mem_append.1 hb with h | h
    · have := r1 b h; omega
    · have := r2 b h; omega

set_option maxHeartbeats 1000000 in
theorem lSzNet (x : DNet) (A : Array Value) (left : Int) (w : World) (B : Nat) (hr : shNet.Rd w B x A.toList) (hB : B ≤ w.heap.size) (h0 : 0 ≤ left) (h1 : left ≤ 1048576) :
    Calls Tryz.prog 11 #[.agg A, .int .i64 left] w fun e w' => e = .returned (.int .i64 (if left < totNet x then -1 else left - totNet x)) ∧ Below w.heap.size w w' := by
  obtain ⟨l, d, ⟨⟩⟩ := x
  obtain ⟨a, c, a', c', eA, r1, r2⟩ := rd_Net hr
  rw [arr_of eA]
  have HC1 : Hid (∀ W, Below w.heap.size w W → Calls Tryz.prog 27 #[.slice a l.length c, .int .i64 left] W fun e w' => e = .returned (.int .i64 (if left < totSegms l then -1 else left - totSegms l)) ∧ Below W.heap.size W w') := fun W hW => lSzSegms l _ left W B (Sh.Rd.below r1 hB hW) (Nat.le_trans hB hW.size) h0 h1
  have HC2 : Hid (∀ W x, Below w.heap.size w W → 0 ≤ x → x ≤ 1048576 → Calls Tryz.prog 13 #[.slice a' d.length c', .int .i64 x] W fun e w' => e = .returned (.int .i64 (if x < (d.length : Nat) then -1 else x - (d.length : Nat))) ∧ Below W.heap.size W w') := fun W x hW g0 g1 => lSzBools _ d _ x W B (Sh.Rd.below r2 hB hW) g0 g1
  have e0 : totNet (l, d, ()) = totSegms l + d.length := rfl
  obtain ⟨R, hR⟩ : ∃ R : Int, R = if left < totNet (l, d, ()) then -1 else left - totNet (l, d, ()) := ⟨_, rfl⟩
  rw [← hR]
  have HRR : Hid _ := hR
  clear hr r1 r2 eA hR
  have HE : Hid _ := e0
  clear e0
  generalize totNet (l, d, ()) = TT at *
  generalize totSegms l = T1 at *
  generalize l.length = n at *
  generalize d.length = m at *
  by_cases g1 : left < T1
  · have HR2 : Hid ((-1 : Int) = R) := by have h := HRR.out; have := HE.out; rw [if_pos (by omega)] at h; exact h.symm
    rw [if_pos g1] at HC1
    clear HRR HE
    go_enter Tryz.func11, Tryz.ntmps11
    go_wp2_with fail
    refine (HC1.out _ (by go_grown)).mono ?_
    rintro e w1 ⟨rfl, hb⟩
    have HB : Hid (Below w.heap.size w w1) := (bl_new hb).1
    clear hb HC1 HC2
    go_wp2_with fail
    go_ret
    exact ⟨ret_int HR2.out, HB.out⟩
  · rw [if_neg g1] at HC1
    have g3 : 0 ≤ left - (T1 : Int) := by omega
    have HC3 := fun W hW => HC2.out W (left - (T1 : Int)) hW g3 (by omega)
    by_cases g2 : left - (T1 : Int) < m
    · have HR2 : Hid ((-1 : Int) = R) := by have h := HRR.out; have := HE.out; rw [if_pos (by omega)] at h; exact h.symm
      rw [if_pos g2] at HC3
      have HC4 : Hid _ := HC3
      clear HRR HE HC3 HC2
      go_enter Tryz.func11, Tryz.ntmps11
      go_wp2_with fail
      refine (HC1.out _ (by go_grown)).mono ?_
      rintro e w1 ⟨rfl, hb⟩
      have k0 := bx_new hb
      have HB : Hid (Below w.heap.size w w1) := (bl_new hb).1
      clear hb HC1
      go_wp2_with fail
      refine (HC4.out _ HB.out).mono ?_
      rintro e w2 ⟨rfl, hb⟩
      replace HB : Hid (Below w.heap.size w w2) := HB.out.trans (hb.mono HB.out.size)
      clear hb HC4 k0
      go_wp2_with fail
      go_ret
      exact ⟨ret_int HR2.out, HB.out⟩
    · have HR2 : Hid (left - (T1 : Int) - (m : Int) = R) := by have h := HRR.out; have := HE.out; rw [if_neg (by omega)] at h; show _ = _; rw [h]; omega
      rw [if_neg g2] at HC3
      have g4 : 0 ≤ left - (T1 : Int) - (m : Int) := by omega
      have HC4 : Hid _ := HC3
      clear HRR HE HC3 HC2
      go_enter Tryz.func11, Tryz.ntmps11
      go_wp2_with fail
      refine (HC1.out _ (by go_grown)).mono ?_
      rintro e w1 ⟨rfl, hb⟩
      have k0 := bx_new hb
      have HB : Hid (Below w.heap.size w w1) := (bl_new hb).1
      clear hb HC1
      go_wp2_with fail
      refine (HC4.out _ HB.out).mono ?_
      rintro e w2 ⟨rfl, hb⟩
      replace HB : Hid (Below w.heap.size w w2) := HB.out.trans (hb.mono HB.out.size)
      clear hb HC4 k0
      go_wp2_with fail
      go_ret
      exact ⟨ret_int HR2.out, HB.out⟩

set_option maxHeartbeats 1000000 in
theorem lToNet (x : DNet) (A : Array Value) (w : World) (B : Nat) (hr : shNet.Rd w B x A.toList) (hB : B ≤ w.heap.size) (hT : totNet x ≤ 1048576) :
    Calls Tryz.prog 17 #[.agg A] w fun e w' => ∃ N : Array Value, e = .returned (.agg N) ∧ Own w' w.heap.size w'.heap.size shNet x N.toList ∧ Below w.heap.size w w' := by
  obtain ⟨l, d, ⟨⟩⟩ := x
  obtain ⟨a, c, a', c', eA, r1, r2⟩ := rd_Net hr
  rw [arr_of eA]
  have ht : totSegms l + d.length ≤ 1048576 := hT
  have HC1 : Hid (∀ W, Below w.heap.size w W → Calls Tryz.prog 35 #[.slice a l.length c] W fun e w' => ∃ u, e = .returned u ∧ Own w' W.heap.size w'.heap.size shSegms l [u] ∧ Below W.heap.size W w') := fun W hW => lToSegms l _ W B (Sh.Rd.below r1 hB hW) (Nat.le_trans hB hW.size) (by omega)
  have HC2 : Hid (∀ W, Below w.heap.size w W → Calls Tryz.prog 19 #[.slice a' d.length c'] W fun e w' => ∃ u, e = .returned u ∧ Own w' W.heap.size w'.heap.size (bls 4) d [u] ∧ Below W.heap.size W w') := fun W hW => lToBools _ d _ W B (Sh.Rd.below r2 hB hW) (Nat.le_trans hB hW.size) (by omega)
  have HWA : Hid (Below w.heap.size w (((w.alloc (.cells #[.slice a l.length c, .slice a' d.length c'] 26)).alloc (.cells #[.slice none 0 0, .slice none 0 0] 37)).alloc (.cells #[.slice none 0 0, .slice none 0 0] 37)) ∧ (((w.alloc (.cells #[.slice a l.length c, .slice a' d.length c'] 26)).alloc (.cells #[.slice none 0 0, .slice none 0 0] 37)).alloc (.cells #[.slice none 0 0, .slice none 0 0] 37)).heap.size = w.heap.size + 3 ∧ (∀ o, (((w.alloc (.cells #[.slice a l.length c, .slice a' d.length c'] 26)).alloc (.cells #[.slice none 0 0, .slice none 0 0] 37)).alloc (.cells #[.slice none 0 0, .slice none 0 0] 37)).cell? ⟨w.heap.size, o, none⟩ = (#[.slice a l.length c, .slice a' d.length c'] : Array Value)[o]?) ∧ (∀ o, (((w.alloc (.cells #[.slice a l.length c, .slice a' d.length c'] 26)).alloc (.cells #[.slice none 0 0, .slice none 0 0] 37)).alloc (.cells #[.slice none 0 0, .slice none 0 0] 37)).cell? ⟨w.heap.size + 1, o, none⟩ = (#[.slice none 0 0, .slice none 0 0] : Array Value)[o]?) ∧ (∀ o, (((w.alloc (.cells #[.slice a l.length c, .slice a' d.length c'] 26)).alloc (.cells #[.slice none 0 0, .slice none 0 0] 37)).alloc (.cells #[.slice none 0 0, .slice none 0 0] 37)).cell? ⟨w.heap.size + 2, o, none⟩ = (#[.slice none 0 0, .slice none 0 0] : Array Value)[o]?) ∧ (∀ o, (((w.alloc (.cells #[.slice a l.length c, .slice a' d.length c'] 26)).alloc (.cells #[.slice none 0 0, .slice none 0 0] 37)).alloc (.cells #[.slice none 0 0, .slice none 0 0] 37)).frozen? ⟨w.heap.size + 1, o, none⟩ = false) ∧ (∀ o, (((w.alloc (.cells #[.slice a l.length c, .slice a' d.length c'] 26)).alloc (.cells #[.slice none 0 0, .slice none 0 0] 37)).alloc (.cells #[.slice none 0 0, .slice none 0 0] 37)).frozen? ⟨w.heap.size + 2, o, none⟩ = false)) := ⟨(((Below.refl _ _).alloc (Nat.le_refl _) _).alloc (by simp) _).alloc (by simp; omega) _, by simp, fun o => by simp [go_sem], fun o => by simp [go_sem], fun o => by simp [go_sem], fun o => by simp [go_sem], fun o => by simp [go_sem]⟩
  clear hr r1 r2 eA hT ht
  have HNL : Hid (∀ u W, shSegms.Rd W W.heap.size l [u] → ∃ a c, u = .slice a l.length c) := fun u W h => by obtain ⟨a, c, e⟩ := row_form h; simp only [List.cons.injEq, and_true] at e; exact ⟨a, c, e⟩
  have HNM : Hid (∀ u W, (bls 4).Rd W W.heap.size d [u] → ∃ a c, u = .slice a d.length c) := fun u W h => by obtain ⟨a, c, e⟩ := row_form h; simp only [List.cons.injEq, and_true] at e; exact ⟨a, c, e⟩
  generalize l.length = n at *
  generalize d.length = m at *
  go_enter Tryz.func17, Tryz.ntmps17
  go_upto_region 2 with fail
  generalize hWW : ((w.alloc (.cells #[.slice a n c, .slice a' m c'] 26)).alloc (.cells #[.slice none 0 0, .slice none 0 0] 37)).alloc (.cells #[.slice none 0 0, .slice none 0 0] 37) = W1 at HWA ⊢
  clear hWW
  obtain ⟨hb, hsz, k0, kR, kN, fR, fN⟩ := HWA.out
  clear HWA
  have HB : Hid _ := hb
  clear hb
  go_wp2_with fail
  refine (HC1.out _ HB.out).mono ?_
  rintro e w2 ⟨u1, rfl, ho1, hb⟩
  obtain ⟨s1, s2, rfl⟩ := HNL.out _ _ (ho1.rd (Nat.le_refl _))
  replace k0 := bx_below k0 (by omega) hb
  replace kR := bx_below kR (by omega) hb
  replace kN := bx_below kN (by omega) hb
  replace fR := bxF fR hb (by omega)
  replace fN := bxF fN hb (by omega)
  replace HB : Hid (Below w.heap.size w w2) := HB.out.trans (hb.mono HB.out.size)
  have hz2 := hb.size
  rw [hsz] at ho1 hz2
  have HO1 : Hid (Own w2 (w.heap.size + 3) w2.heap.size shSegms l [.slice s1 n s2]) := ho1
  clear hb ho1 HC1 hsz
  go_upto_region 3 with fail
  replace kN := bx_put kN (k := 0) (v := .slice s1 n s2) (by simp)
  simp only [List.setIfInBounds_toArray, List.set_cons_zero] at kN
  replace k0 : ∀ o, (w2.setCell ⟨w.heap.size + 2, 0, none⟩ (.slice s1 n s2)).cell? ⟨w.heap.size, o, none⟩ = (#[.slice a n c, .slice a' m c'] : Array Value)[o]? := bx_off k0 (by omega)
  replace kR : ∀ o, (w2.setCell ⟨w.heap.size + 2, 0, none⟩ (.slice s1 n s2)).cell? ⟨w.heap.size + 1, o, none⟩ = (#[.slice none 0 0, .slice none 0 0] : Array Value)[o]? := bx_off kR (by omega)
  replace fR : ∀ o, (w2.setCell ⟨w.heap.size + 2, 0, none⟩ (.slice s1 n s2)).frozen? ⟨w.heap.size + 1, o, none⟩ = false := fun o => by rw [World.frozen?_setCell]; exact fR o
  replace fN : ∀ o, (w2.setCell ⟨w.heap.size + 2, 0, none⟩ (.slice s1 n s2)).frozen? ⟨w.heap.size + 2, o, none⟩ = false := fun o => by rw [World.frozen?_setCell]; exact fN o
  replace HO1 : Hid (Own (w2.setCell ⟨w.heap.size + 2, 0, none⟩ (.slice s1 n s2)) (w.heap.size + 3) w2.heap.size shSegms l [.slice s1 n s2]) := Own.keep HO1.out (fun b h1 h2 => Below.heap_setCell _ _ _ _ (by dsimp only; omega))
  replace HB : Hid (Below w.heap.size w (w2.setCell ⟨w.heap.size + 2, 0, none⟩ (.slice s1 n s2))) := HB.out.setCell (p := ⟨w.heap.size + 2, 0, none⟩) (show w.heap.size ≤ w.heap.size + 2 by omega) _
  have hz3 : w2.heap.size = (w2.setCell ⟨w.heap.size + 2, 0, none⟩ (.slice s1 n s2)).heap.size := by simp
  generalize hWW : w2.setCell ⟨w.heap.size + 2, 0, none⟩ (.slice s1 n s2) = w3 at k0 kR kN fR fN HO1 HB hz3 ⊢
  rw [hz3] at HO1 hz2
  clear hWW hz3
  go_wp2_with fail
  refine (HC2.out _ HB.out).mono ?_
  rintro e w4 ⟨u2, rfl, ho2, hb⟩
  obtain ⟨s3, s4, rfl⟩ := HNM.out _ _ (ho2.rd (Nat.le_refl _))
  replace kR := bx_below kR (by omega) hb
  replace kN := bx_below kN (by omega) hb
  replace fR := bxF fR hb (by omega)
  replace fN := bxF fN hb (by omega)
  replace HB : Hid (Below w.heap.size w w4) := HB.out.trans (hb.mono HB.out.size)
  have hz4 := hb.size
  have HOO : Hid (Own w4 (w.heap.size + 3) w4.heap.size shNet (l, d, ()) [.slice s1 n s2, .slice s3 m s4]) := own_Net (Own.below HO1.out (Nat.le_refl _) hb) ho2 (by omega) hz4
  clear hb ho2 HC2 HO1 k0
  obtain ⟨N, hN⟩ : ∃ N : Array Value, N = #[.slice s1 n s2, .slice s3 m s4] := ⟨_, rfl⟩
  have HNN : Hid _ := hN
  have hNz : N.size = 2 := by rw [hN]; rfl
  have HIN : Hid ((Tryz.prog.info? 37).map (·.size) = some N.size) := by show _ = _; rw [hNz]; exact (by kernel_rfl : (Tryz.prog.info? 37).map (·.size) = some 2)
  have HIN2 : Hid ((Tryz.prog.info? 37).map (·.size) = some N.toList.length) := by show _ = _; rw [Array.length_toList]; exact HIN.out
  have HONE : Hid (N.all (·.oneCell') = true) := by show _ = _; rw [hN]; simp [Value.oneCell']
  go_upto_region 4 with fail
  replace kN := bx_put kN (k := 1) (v := .slice s3 m s4) (by simp)
  simp only [List.setIfInBounds_toArray, List.set_cons_zero, List.set_cons_succ] at kN
  rw [← hN] at kN
  replace kR : ∀ o, (w4.setCell ⟨w.heap.size + 2, 1, none⟩ (.slice s3 m s4)).cell? ⟨w.heap.size + 1, o, none⟩ = (#[.slice none 0 0, .slice none 0 0] : Array Value)[o]? := bx_off kR (by omega)
  replace fR : ∀ o, (w4.setCell ⟨w.heap.size + 2, 1, none⟩ (.slice s3 m s4)).frozen? ⟨w.heap.size + 1, o, none⟩ = false := fun o => by rw [World.frozen?_setCell]; exact fR o
  replace HOO : Hid (Own (w4.setCell ⟨w.heap.size + 2, 1, none⟩ (.slice s3 m s4)) (w.heap.size + 3) w4.heap.size shNet (l, d, ()) [.slice s1 n s2, .slice s3 m s4]) := Own.keep HOO.out (fun b h1 h2 => Below.heap_setCell _ _ _ _ (by dsimp only; omega))
  replace HB : Hid (Below w.heap.size w (w4.setCell ⟨w.heap.size + 2, 1, none⟩ (.slice s3 m s4))) := HB.out.setCell (p := ⟨w.heap.size + 2, 1, none⟩) (show w.heap.size ≤ w.heap.size + 2 by omega) _
  have hz5 : w4.heap.size = (w4.setCell ⟨w.heap.size + 2, 1, none⟩ (.slice s3 m s4)).heap.size := by simp
  generalize hWW : w4.setCell ⟨w.heap.size + 2, 1, none⟩ (.slice s3 m s4) = w5 at kR kN fR HOO HB hz5 ⊢
  rw [hz5] at HOO
  clear hWW fN hz5
  have HTH : Hid (w5.there (w.heap.size + 1) 0 N.size) := bx_there kR fR (by rw [hNz]; rfl)
  have HKR : Hid (∀ o, (w5.setCells (w.heap.size + 1) 0 N.toList).cell? ⟨w.heap.size + 1, o, none⟩ = N[o]?) := bx_setCells kR (by rw [hNz]; rfl)
  clear hN hNz kR fR
  go_wp2_with (first | (refine wpList_load_mid rfl 37 _ rfl _ _ (by rfl) N.toList _ (bx_range kN) Tryz.underlying37 rfl HIN2.out ?_) | (refine wpList_store_mid rfl 37 _ _ rfl _ _ N (by rfl) (by rfl) HTH.out HIN.out HONE.out ?_))
  refine bodyPost_ret (results_box Tryz.results17 _ _ _ N _ (by rfl) HKR.out Tryz.underlying37 rfl (by exact HIN.out)) rfl ⟨N, rfl, ?_, ?_⟩
  · rw [setCells_size, HNN.out]
    exact (Own.keep HOO.out (fun b h1 h2 => setCells_block (by omega) _ _ _)).mono (by omega) (Nat.le_refl _)
  · exact setCells_below (by omega) _ _ _ _ HB.out

set_option maxHeartbeats 1000000 in
theorem lEqNetT (t t' : TypeId) (x : DNet) (A A' : Array Value) (w : World) (B : Nat) (hr : (shNetT t).Rd w B x A.toList) (hr' : (shNetT t').Rd w B x A'.toList) (hB : B ≤ w.heap.size) (hT : totNet x ≤ 1048576) :
    Calls Tryz.prog 23 #[.agg A, .agg A'] w fun e w' => e = .returned (.bool true) ∧ Below w.heap.size w w' := by
  obtain ⟨l, d, ⟨⟩⟩ := x
  obtain ⟨a, c, a1, c1, eA, r1, r2⟩ := rd_Net hr
  obtain ⟨b, k, b1, k1, eB, q1, q2⟩ := rd_Net hr'
  rw [arr_of eA, arr_of eB]
  have ht : totSegms l + d.length ≤ 1048576 := hT
  have HC1 : Hid (∀ W, Below w.heap.size w W → Calls Tryz.prog 45 #[.slice a l.length c, .slice b l.length k] W fun e w' => e = .returned (.bool true) ∧ Below W.heap.size W w') := fun W hW => lEqSegms l _ _ W B (Sh.Rd.below r1 hB hW) (Sh.Rd.below q1 hB hW) (Nat.le_trans hB hW.size) (by omega)
  have HC2 : Hid (∀ W, Below w.heap.size w W → Calls Tryz.prog 25 #[.slice a1 d.length c1, .slice b1 d.length k1] W fun e w' => e = .returned (.bool true) ∧ Below W.heap.size W w') := fun W hW => lEqBools _ _ d _ _ W B (Sh.Rd.below r2 hB hW) (Sh.Rd.below q2 hB hW) (Nat.le_trans hB hW.size) (by omega)
  clear hr hr' r1 r2 q1 q2 eA eB hT ht
  generalize l.length = n at *
  generalize d.length = m at *
  go_enter Tryz.func23, Tryz.ntmps23
  go_wp2_with fail
  refine (HC1.out _ (by go_grown)).mono ?_
  rintro e w1 ⟨rfl, hb⟩
  have j0 : ∀ o, w1.cell? ⟨w.heap.size, o, none⟩ = (#[.slice a n c, .slice a1 m c1] : Array Value)[o]? := fun o => by rw [hb.cell (p := ⟨w.heap.size, o, none⟩) (by simp; omega)]; simp [go_sem]
  have j1 : ∀ o, w1.cell? ⟨w.heap.size + 1, o, none⟩ = (#[.slice b n k, .slice b1 m k1] : Array Value)[o]? := fun o => by rw [hb.cell (p := ⟨w.heap.size + 1, o, none⟩) (by simp)]; simp [go_sem]
  have HB : Hid (Below w.heap.size w w1) := Below.trans (((Below.refl _ _).alloc (Nat.le_refl _) _).alloc (by simp) _) (hb.mono (by simp; omega))
  clear hb HC1
  go_wp2_with fail
  refine (HC2.out _ HB.out).mono ?_
  rintro e w2 ⟨rfl, hb⟩
  replace HB : Hid (Below w.heap.size w w2) := HB.out.trans (hb.mono HB.out.size)
  clear hb HC2 j0 j1
  go_wp2_with fail
  go_ret
  exact ⟨rfl, HB.out⟩
theorem lEqNet (x : DNet) (A A' : Array Value) (w : World) (B : Nat) (hr : shNet.Rd w B x A.toList) (hr' : shNet.Rd w B x A'.toList) (hB : B ≤ w.heap.size) (hT : totNet x ≤ 1048576) :
    Calls Tryz.prog 23 #[.agg A, .agg A'] w fun e w' => e = .returned (.bool true) ∧ Below w.heap.size w w' := lEqNetT _ _ x A A' w B hr hr' hB hT


theorem fits_segs : shSegms.fits Tryz.prog (.inl 23) :=
  ⟨_, Tryz.underlying23, by kernel_rfl, by decide, _, _, Tryz.underlying109, by kernel_rfl, rfl, by kernel_rfl, Tryz.underlying2, rfl, by kernel_rfl, Tryz.underlying2, rfl, by kernel_rfl, Tryz.underlying4, rfl, by kernel_rfl, Tryz.underlying4, rfl, by kernel_rfl, Tryz.underlying4, rfl, by kernel_rfl, Tryz.underlying2, rfl, by kernel_rfl, Tryz.underlying2, rfl, by kernel_rfl, Tryz.underlying2, rfl, by kernel_rfl, Tryz.underlying2, rfl, by kernel_rfl, Tryz.underlying2, rfl, by kernel_rfl, Tryz.underlying2, rfl, by kernel_rfl, fits_u8, trivial⟩
theorem fits_Net : shNet.fits Tryz.prog (.inl 26) :=
  ⟨_, _, Tryz.underlying26, by kernel_rfl, rfl, by kernel_rfl, fits_segs, rfl, by kernel_rfl, ⟨_, Tryz.underlying24, by kernel_rfl, by decide, Tryz.underlying4⟩, trivial⟩
theorem open_Net {H : Type} {enc : TypeId × Value → H} {w : World} {base : Nat} {v : Value} (o : Value.okWide Tryz.prog w .any base 26 v) (hx : ∃ n y, DataW.trod enc Tryz.prog w 0 (fun _ => true) true n 26 v.cells.toList = some y) :
    ∃ (g : DNet) (A : Array Value), v = .agg A ∧ shNet.Rd w w.heap.size g A.toList := by
  obtain ⟨cs, rfl⟩ := val_agg Tryz.underlying26 o
  obtain ⟨g, hd⟩ := (open_sh (enc := enc) (P := Tryz.prog) (w := w) shNet).1 _ _ fits_Net hx
  exact ⟨g, cs, rfl, hd⟩
end Go.Proofs.YtfpemobkkfobkaaGreatDoor

/- NetFault of nets that stand as arrays; no condition. -/
namespace Go.Proofs.YtfpemobkkfobkaaGreatDoor
open Go.RowKit
set_option linter.unusedVariables false
theorem iNetFaultA (x : DNet) (A : Array Value) (w : World) (B : Nat) (hr : shNet.Rd w B x A.toList) (hB : B ≤ w.heap.size) (hT : totNet x ≤ 1048576) :
    Calls Tryz.prog 39 #[.agg A] w fun e w' => e = .returned (.int .i64 (netF x.1 x.2.1)) ∧ Below w.heap.size w w' := by
  obtain ⟨l, d, ⟨⟩⟩ := x
  obtain ⟨a, c, a1, c1, eA, r1, r2⟩ := rd_Net hr
  rw [arr_of eA]
  exact iNetFault _ l d _ _ w B r1 r2 hB
end Go.Proofs.YtfpemobkkfobkaaGreatDoor
