/- What the model's own taking of a span makes: the catch, which owns its memory, and whether a place is new; nothing that was in memory turns; no condition but that there are at most a thousand spans, in their bounds. -/
import Derived.Test.YtebgibjokljlbaaRows
import Derived.Deep.RegionHeld3
import Derived.Test.YtebgibjokljlbaaS01
import Derived.Test.YtebgibjokljlbaaS03
import Derived.Test.YtebgibjokljlbaaS04
import Derived.Test.YtebgibjokljlbaaS11
import Derived.Test.YtebgibjokljlbaaS12
import Derived.Test.YtebgibjokljlbaaS13
namespace Go.Proofs.Ytebgibjokljlbaa
open Go.RowKit
set_option linter.unusedVariables false
set_option maxRecDepth 8000
theorem bxc_set {w : World} {b k : Nat} {v : Value} {A : Array Value} (h : ∀ o, w.cell? ⟨b, o, none⟩ = A[o]?) (hk : k < A.size) : ∀ o, (w.setCell ⟨b, k, none⟩ v).cell? ⟨b, o, none⟩ = (A.setIfInBounds k v)[o]? := fun o => by
  by_cases e : o = k
  · subst e
    rw [World.cell?_setCell_same w _ _ ((h o).trans (Array.getElem?_eq_getElem hk))]
    simp [hk]
  · rw [World.cell?_setCell_other _ _ _ _ (by intro e2; simp only [Addr.mk.injEq] at e2; omega), h, Array.getElem?_setIfInBounds_ne (by omega)]
theorem bxc_setE {w : World} {b k : Nat} {v : Value} {A A' : Array Value} (h : ∀ o, w.cell? ⟨b, o, none⟩ = A[o]?) (hk : k < A.size) (e : A.setIfInBounds k v = A') : ∀ o, (w.setCell ⟨b, k, none⟩ v).cell? ⟨b, o, none⟩ = A'[o]? := by
  rw [← e]; exact bxc_set h hk
theorem bfc_any {w : World} {b c k : Nat} {v : Value} (h : ∀ o, w.frozen? ⟨b, o, none⟩ = false) : ∀ o, (w.setCell ⟨c, k, none⟩ v).frozen? ⟨b, o, none⟩ = false := fun o => by rw [World.frozen?_setCell]; exact h o
theorem bxc_far {w : World} {b c k : Nat} {v : Value} {A : Array Value} (h : ∀ o, w.cell? ⟨b, o, none⟩ = A[o]?) (hne : c ≠ b) : ∀ o, (w.setCell ⟨c, k, none⟩ v).cell? ⟨b, o, none⟩ = A[o]? := fun o => by rw [World.cell?_setCell_far _ _ _ _ (by exact hne)]; exact h o
theorem bxc_new {w : World} {b : Nat} {O : Obj} {A : Array Value} (h : ∀ o, w.cell? ⟨b, o, none⟩ = A[o]?) (hb : b < w.heap.size) : ∀ o, (w.alloc O).drew.cell? ⟨b, o, none⟩ = A[o]? := bx_below h hb ((Below.refl _ _).alloc (Nat.le_refl _) _).drew
theorem bfc_new {w : World} {b : Nat} {O : Obj} (h : ∀ o, w.frozen? ⟨b, o, none⟩ = false) (hb : b < w.heap.size) : ∀ o, (w.alloc O).drew.frozen? ⟨b, o, none⟩ = false := fun o => by rw [(bcell (((Below.refl w.heap.size w).alloc (Nat.le_refl _) O).drew)).2 b o hb]; exact h o
theorem RS.keepB {w w' : World} {b off : Nat} {l : List DSpan} (h : RS w (some ⟨b, off, none⟩) l) (hk : w'.heap[b]? = w.heap[b]?) : RS w' (some ⟨b, off, none⟩) l := by
  refine ⟨h.wf, ?_⟩
  rcases h.mem with e | ⟨b', off', e, hc⟩
  · exact Or.inl e
  · simp only [Option.some.injEq, Addr.mk.injEq, and_true] at e
    obtain ⟨rfl, rfl⟩ := e
    exact Or.inr ⟨b, off, rfl, fun i hi => ⟨(World.cell?_of_block (a := ⟨b, off + i * 2, none⟩) hk).trans (hc i hi).1, (World.cell?_of_block (a := ⟨b, off + i * 2 + 1, none⟩) hk).trans (hc i hi).2⟩⟩
theorem wfS1 {x y : Int} (h1 : (Lit.int .i64 x).wf = true) (h2 : (Lit.int .i64 y).wf = true) : WfS [(x, y, ())] := fun s hs => by simp only [List.mem_singleton] at hs; subst hs; exact ⟨h1, h2⟩
theorem wf_min {x y : Int} (h1 : (Lit.int .i64 x).wf = true) (h2 : (Lit.int .i64 y).wf = true) : (Lit.int .i64 (min x y)).wf = true := by rcases Int.le_total x y with h | h <;> simp [h, h1, h2, Int.min_eq_left, Int.min_eq_right]
theorem wf_max {x y : Int} (h1 : (Lit.int .i64 x).wf = true) (h2 : (Lit.int .i64 y).wf = true) : (Lit.int .i64 (max x y)).wf = true := by rcases Int.le_total x y with h | h <;> simp [h, h1, h2, Int.max_eq_left, Int.max_eq_right]
theorem sMinC (a b : Int) (w : World) : Calls Try.prog 40 #[.int .i64 a, .int .i64 b] w fun e w' => e = .returned (.int .i64 (min a b)) ∧ w' = w := by
  by_cases h : a < b
  · rw [show min a b = a by omega]
    go_enter Try.func40, Try.ntmps40
    go_wp2
    go_ret
    exact ⟨rfl, rfl⟩
  · rw [show min a b = b by omega]
    go_enter Try.func40, Try.ntmps40
    go_wp2
    go_ret
    exact ⟨rfl, rfl⟩
theorem sMaxC (a b : Int) (w : World) : Calls Try.prog 158 #[.int .i64 a, .int .i64 b] w fun e w' => e = .returned (.int .i64 (max a b)) ∧ w' = w := by
  by_cases h : b < a
  · rw [show max a b = a by omega]
    go_enter Try.func158, Try.ntmps158
    go_wp2
    go_ret
    exact ⟨rfl, rfl⟩
  · rw [show max a b = b by omega]
    go_enter Try.func158, Try.ntmps158
    go_wp2
    go_ret
    exact ⟨rfl, rfl⟩
set_option maxHeartbeats 8000000 in
theorem sL7Take (y0 y1 a z : Int) (l : List DSpan) (ga : Option Addr) (n cap : Nat) (w : World) (hn : l.length = n) (h : RS w ga l) (hm : n ≤ 1000) (hbd : ∀ t ∈ l, 0 ≤ t.1 ∧ t.1 ≤ t.2.1 ∧ t.2.1 ≤ 1000100) (hR : tkR a z = true) (hy0 : 0 ≤ y0 ∧ y0 ≤ 65535) (hy1 : 0 ≤ y1 ∧ y1 ≤ 1000000) :
    Calls Try.prog 151 #[.agg #[.int .i64 y0, .int .i64 y1, .slice ga n cap], .int .i64 a, .int .i64 z] w fun e w' => ∃ u, e = .returned (.tuple #[.agg #[.int .i64 y0, .int .i64 (modN y1 (mdT y1 l a z)).1, u], .bool (unsN y1 l a z.toNat)]) ∧ Own w' w.heap.size w'.heap.size shSpansO (modN y1 (mdT y1 l a z)).2 [u] ∧ Below w.heap.size w w' ∧ Spare w' w.heap.size u := by
  obtain ⟨p0, p1, p2, p3, p4⟩ := tkR_yes hR
  obtain ⟨zn, hzn⟩ : ∃ zn : Nat, (zn : Int) = z := ⟨z.toNat, by omega⟩
  have HZN : Hid (z.toNat = zn) := by show _ = _; omega
  rw [HZN.out]
  have HN : Hid (l.length = n) := hn
  have HBD : Hid _ := hbd
  have HWF : Hid (WfS l) := h.wf
  have HRS : Hid (∀ W, Below w.heap.size w W → RS W ga l) := fun W hW => h.below hW
  have HSE : Hid (∀ (W : World) (k : Int) (sb : Nat), Below w.heap.size w W → (∀ o, W.cell? ⟨sb, o, none⟩ = (#[.int .i64 y0, .int .i64 y1, .slice ga n cap] : Array Value)[o]?) → Calls Try.prog 157 #[.pointer (some ⟨sb, 0, none⟩), .int .i64 k] W fun e w' => e = .returned (.bool (seenB y1 l k)) ∧ ∃ m, w' = W.drewN m) := fun W k sb hW hc => sL7Seen y0 y1 k l ga n cap sb W HN.out hc (HRS.out W hW) (by omega) HBD.out
  obtain ⟨MD, hMD⟩ : ∃ M, M = modN y1 (mdT y1 l a z) := ⟨_, rfl⟩
  rw [← hMD]
  have HMD : Hid (MD = modN y1 (mdT y1 l a z)) := hMD
  obtain ⟨FZ, hFZ⟩ : ∃ F, F = unsN y1 l a zn := ⟨_, rfl⟩
  rw [← hFZ]
  have HFZ : Hid (FZ = unsN y1 l a zn) := hFZ
  have hzn' : a + z = a + (zn : Int) := by omega
  have hw64 : IntKind.i64.wrap (a + z) = a + z := by simp only [IntKind.wrap, IntKind.bits, IntKind.signed]; simp; omega
  clear h hn hbd hR hMD hFZ
  go_enter Try.func151, Try.ntmps151
  go_wp2_with fail
  obtain ⟨w1, hw1⟩ : ∃ W, W = (w.alloc (.cells #[.int .i64 y0, .int .i64 y1, .slice ga n cap] 60)).alloc (.cells #[.int .i64 0, .int .i64 0, .slice none 0 0] 60) := ⟨_, rfl⟩
  rw [← hw1]
  have k0 : ∀ o, w1.cell? ⟨w.heap.size, o, none⟩ = (#[.int .i64 y0, .int .i64 y1, .slice ga n cap] : Array Value)[o]? := fun o => by rw [hw1]; simp [go_sem]
  have k1 : ∀ o, w1.cell? ⟨w.heap.size + 1, o, none⟩ = (#[.int .i64 0, .int .i64 0, .slice none 0 0] : Array Value)[o]? := fun o => by rw [hw1]; simp [go_sem]
  have f1 : ∀ o, w1.frozen? ⟨w.heap.size + 1, o, none⟩ = false := fun o => by rw [hw1]; simp [go_sem]
  have HB1 : Hid (Below w.heap.size w w1) := by show Below _ _ _; rw [hw1]; go_grown
  have z1 : w.heap.size + 1 < w1.heap.size := by rw [hw1]; simp
  clear hw1
  go_loopw [8, 9] (fun fr kk wr => ∃ (j m : Nat), j ≤ zn ∧ kk = .int .i64 (a + j) ∧ fr = .bool (unsN y1 l a j) ∧ wr = w1.drewN m) (fun _ kk _ => (a + zn - intOf kk).toNat)
  case atStart => exact ⟨0, 0, Nat.zero_le _, by simp, rfl, rfl⟩
  case round =>
    obtain ⟨j, m, hj, rfl, rfl, hwr⟩ := hrel
    have HWR : Hid (wr = w1.drewN m) := hwr
    have d0 : ∀ o, wr.cell? ⟨w.heap.size, o, none⟩ = (#[.int .i64 y0, .int .i64 y1, .slice ga n cap] : Array Value)[o]? := fun o => by rw [hwr, World.cell?_drewN]; exact k0 o
    have HBr : Hid (Below w.heap.size w wr) := by show Below _ _ _; rw [hwr]; exact below_drewN HB1.out _
    by_cases hlt : j < zn
    · have hlt2 : a + (j : Int) < a + z := by omega
      have HU : Hid (unsN y1 l a (j + 1) = (unsN y1 l a j || !seenB y1 l (a + j))) := rfl
      clear k0 k1 f1 hwr
      cases hu : unsN y1 l a j with
      | true =>
        have HU2 : Hid (unsN y1 l a (j + 1) = true) := by show _ = _; rw [HU.out, hu]; rfl
        clear hu
        go_wp2_with fail
        go_roundw
        case rel => exact ⟨j + 1, m, by omega, by push_cast; rw [Int.add_assoc], by rw [HU2.out], HWR.out⟩
        case measure => simp [intOf]; omega
      | false =>
        have HU2 : Hid (unsN y1 l a (j + 1) = !seenB y1 l (a + j)) := by show _ = _; rw [HU.out, hu]; rfl
        clear hu
        generalize hSB : seenB y1 l (a + j) = SB at *
        have HSB : Hid (seenB y1 l (a + j) = SB) := hSB
        clear hSB
        go_wp2_with (go_at_call 157; refine (HSE.out _ _ _ HBr.out d0).mono ?_; rintro e w2 ⟨rfl, m2, hw2⟩; rw [HSB.out]; (have HW2 : Hid (w2 = wr.drewN m2) := hw2); clear hw2)
        go_roundw
        case rel => exact ⟨j + 1, m + m2, by omega, by push_cast; rw [Int.add_assoc], by rw [HU2.out], by rw [HW2.out, HWR.out, World.drewN_drewN]⟩
        case measure => simp [intOf]; omega
    · obtain rfl : j = zn := by omega
      have hlt2 : ¬ (a + (j : Int) < a + z) := by omega
      have e1 : ∀ o, wr.cell? ⟨w.heap.size + 1, o, none⟩ = (#[.int .i64 0, .int .i64 0, .slice none 0 0] : Array Value)[o]? := fun o => by rw [hwr, World.cell?_drewN]; exact k1 o
      have g1 : ∀ o, wr.frozen? ⟨w.heap.size + 1, o, none⟩ = false := fun o => by rw [hwr]; exact f1 o
      have z2 : w.heap.size + 1 < wr.heap.size := by rw [hwr]; exact z1
      rw [← HFZ.out]
      clear k0 k1 f1 hwr HSE HWR z1 HB1 hzn'
      go_wp2_with fail
      obtain ⟨w3, hw3⟩ : ∃ W, W = ((wr.alloc (.cells #[.int .i64 y0, .int .i64 y1, .slice none 0 0] 60)).alloc (.cells #[.int .i64 a, .int .i64 (a + z)] 172)).alloc (.cells #[] 172) := ⟨_, rfl⟩
      rw [← hw3]
      have hb3 : Below wr.heap.size wr w3 := by rw [hw3]; go_grown
      have m0 := bx_below d0 (by omega) hb3
      have m1 := bx_below e1 z2 hb3
      have n1 : ∀ o, w3.frozen? ⟨w.heap.size + 1, o, none⟩ = false := fun o => by rw [(bcell hb3).2 _ o z2]; exact g1 o
      have mo : ∀ o, w3.cell? ⟨wr.heap.size, o, none⟩ = (#[.int .i64 y0, .int .i64 y1, .slice none 0 0] : Array Value)[o]? := fun o => by rw [hw3]; simp [go_sem]
      have no : ∀ o, w3.frozen? ⟨wr.heap.size, o, none⟩ = false := fun o => by rw [hw3]; simp [go_sem]
      have ms : ∀ o, w3.cell? ⟨wr.heap.size + 1, o, none⟩ = (#[.int .i64 a, .int .i64 (a + z)] : Array Value)[o]? := fun o => by rw [hw3]; simp [go_sem]
      have ns : ∀ o, w3.frozen? ⟨wr.heap.size + 1, o, none⟩ = false := fun o => by rw [hw3]; simp [go_sem]
      have HO3 : Hid (OS w3 (wr.heap.size + 1 + 1) (.slice (some ⟨wr.heap.size + 1 + 1, 0, none⟩) 0 0) []) := by rw [hw3]; exact os_none _ _ (by simp)
      have HB3 : Hid (Below w.heap.size w w3) := HBr.out.trans (hb3.mono (by omega))
      have z3 : wr.heap.size + 1 + 1 < w3.heap.size := by rw [hw3]; simp
      obtain ⟨oB, hoB⟩ : ∃ b, b = wr.heap.size := ⟨_, rfl⟩
      obtain ⟨sB, hsB⟩ : ∃ b, b = oB + 1 := ⟨_, rfl⟩
      obtain ⟨rB, hrB⟩ : ∃ b, b = w.heap.size + 1 := ⟨_, rfl⟩
      obtain ⟨cB, hcB⟩ : ∃ b, b = w.heap.size := ⟨_, rfl⟩
      rw [← hoB] at mo no ms ns HO3 z3 z2
      rw [← hsB] at ms ns HO3 z3
      rw [← hoB, ← hsB, ← hrB, ← hcB]
      rw [← hrB] at m1 n1 z2
      rw [← hcB] at m0
      have q1 : cB < rB := by omega
      have q2 : rB < oB := z2
      have q3 : oB < sB := by omega
      have q4 : sB + 1 < w3.heap.size := z3
      have q5 : w.heap.size ≤ cB := by omega
      have hfre : ¬ (sB = rB) := by omega
      have hfre2 : ¬ (oB = rB) := by omega
      clear hb3 hw3 d0 e1 g1 z2 z3 hoB hsB hrB hcB
      go_loopw [12, 13] (fun v i wr => ∃ (k : Nat) (K : List DSpan) (sa sb : Int) (kg m kc : Nat), k ≤ n ∧ m ≤ k ∧ i = .int .i64 k ∧ v = .slice (some ⟨kg, 0, none⟩) m kc ∧ Hid (K.length = m) ∧ Hid (OS wr (sB + 1) (.slice (some ⟨kg, 0, none⟩) m kc) K) ∧ Hid (MR (z == 0) a (a + z) l k K sa sb) ∧ Hid (WfS [(sa, sb, ())]) ∧
        (∀ o, wr.cell? ⟨cB, o, none⟩ = (#[.int .i64 y0, .int .i64 y1, .slice ga n cap] : Array Value)[o]?) ∧ (∀ o, wr.cell? ⟨rB, o, none⟩ = (#[.int .i64 0, .int .i64 0, .slice none 0 0] : Array Value)[o]?) ∧ (∀ o, wr.frozen? ⟨rB, o, none⟩ = false) ∧ (∀ o, wr.cell? ⟨oB, o, none⟩ = (#[.int .i64 y0, .int .i64 y1, .slice none 0 0] : Array Value)[o]?) ∧ (∀ o, wr.frozen? ⟨oB, o, none⟩ = false) ∧
        (∀ o, wr.cell? ⟨sB, o, none⟩ = (#[.int .i64 sa, .int .i64 sb] : Array Value)[o]?) ∧ (∀ o, wr.frozen? ⟨sB, o, none⟩ = false) ∧ Hid (Below w.heap.size w wr) ∧ sB + 1 < wr.heap.size) (fun _ i _ => n - (intOf i).toNat)
      case atStart => exact ⟨0, [], a, a + z, _, 0, 0, Nat.zero_le _, Nat.le_refl _, rfl, rfl, (show ([] : List DSpan).length = 0 from rfl), HO3, MR.start, wfS1 (WalkArith.wf_i64 (by omega)) (WalkArith.wf_i64 (by omega)), m0, m1, n1, mo, no, ms, ns, HB3, q4⟩
      case round =>
        rename World => wr2
        clear m0 m1 n1 mo no ms ns HO3 HB3 q4 HBr
        obtain ⟨k, K, sa, sb, kg, m, kc, hk, hmk, rfl, rfl, HL, HO, HM, HWS, m0, m1, n1, mo, no, ms, ns, HB, q4⟩ := hrel
        have qs : sB < wr2.heap.size := by omega
        have qo : oB < wr2.heap.size := by omega
        have qr : rB < wr2.heap.size := by omega
        have qc : cB < wr2.heap.size := by omega
        by_cases hlt : k < n
        · have hkl : k < l.length := by have := HN.out; omega
          rcases (HRS.out wr2 HB.out).mem with e0 | ⟨b, off, ha, hcc⟩
          · exfalso; rw [e0] at hkl; simp at hkl
          · subst ha
            obtain ⟨u0, u1'⟩ := hcc k hkl
            have hbl : b < wr2.heap.size := cell_lt u0
            have HS : Hid ((Lit.int .i64 l[k].1).wf = true ∧ (Lit.int .i64 l[k].2.1).wf = true) := HWF.out _ (List.getElem_mem hkl)
            have hkn : (k : Int) < (n : Int) := by omega
            have HMK : Hid ((z == 0) = true ∨ l[k].2.1 < sa ∨ sb < l[k].1 → MR (z == 0) a (a + z) l (k + 1) (K ++ [l[k]]) sa sb) := fun h => HM.out.keep hkl h
            have HMJ : Hid (¬ ((z == 0) = true ∨ l[k].2.1 < sa ∨ sb < l[k].1) → MR (z == 0) a (a + z) l (k + 1) K (min sa l[k].1) (max sb l[k].2.1)) := fun h => HM.out.join hkl h
            clear hcc
            generalize hx : l[k] = X at *
            obtain ⟨z0, z1', ⟨⟩⟩ := X
            simp only at *
            clear hx
            have HRL : Hid (∀ (W : World) (H : Nat), W.heap.size = H → RS (W.alloc (.cells #[.int .i64 z0, .int .i64 z1'] 172)) (some ⟨H, 0, none⟩) [(z0, z1', ())]) := fun W H e => rs_lit W H e z0 z1' HS.out.1 HS.out.2
            by_cases hz0 : z = 0
            · have hzb : (z == 0) = true := by simp [hz0]
              have hkp : Hid ((z == 0) = true ∨ z1' < sa ∨ sb < z0) := Or.inl hzb
              replace hkp := hkp.out
              clear hz0
              have HM1 : Hid (MR (z == 0) a (a + z) l (k + 1) (K ++ [(z0, z1', ())]) sa sb) := HMK.out hkp
              have HL1 : Hid ((K ++ [(z0, z1', ())]).length = m + 1) := by show _ = _; have := HL.out; simp [this]
              clear HMK HMJ hkp HM
              go_wp2_with (at_builtin; refine app_plS _ rfl _ _ rfl (sB + 1) (.slice (some ⟨kg, 0, none⟩) m kc) K (by rfl) (HO.out.below (by go_grown)) (some ⟨wr2.heap.size + 1, 0, none⟩) [(z0, z1', ())] 1 1 rfl (by rfl) (HRL.out _ _ (by simp)) (by intro e; cases e) (by have := HL.out; omega) (by simp; omega) ?_; intro v' w5 ho5 hb5 hg5 hat5; (have hb6 : Below (sB + 1) wr2 w5 := Below.trans (Below.mono (B := wr2.heap.size) (by go_grown) (by omega)) hb5); obtain ⟨hc6, hf6⟩ := bcellB hb6; (have t0 : ∀ o, w5.cell? ⟨cB, o, none⟩ = (#[.int .i64 y0, .int .i64 y1, .slice (some ⟨b, off, none⟩) n cap] : Array Value)[o]? := (fun o => (hc6 _ o (by omega)).trans (m0 o))); (have t1 : ∀ o, w5.cell? ⟨rB, o, none⟩ = (#[.int .i64 0, .int .i64 0, .slice none 0 0] : Array Value)[o]? := (fun o => (hc6 _ o (by omega)).trans (m1 o))); (have t2 : ∀ o, w5.frozen? ⟨rB, o, none⟩ = false := (fun o => (hf6 _ o (by omega)).trans (n1 o))); (have t3 : ∀ o, w5.cell? ⟨oB, o, none⟩ = (#[.int .i64 y0, .int .i64 y1, .slice none 0 0] : Array Value)[o]? := (fun o => (hc6 _ o (by omega)).trans (mo o))); (have t4 : ∀ o, w5.frozen? ⟨oB, o, none⟩ = false := (fun o => (hf6 _ o (by omega)).trans (no o))); (have t5 : ∀ o, w5.cell? ⟨sB, o, none⟩ = (#[.int .i64 sa, .int .i64 sb] : Array Value)[o]? := (fun o => (hc6 _ o (by omega)).trans (ms o))); (have t6 : ∀ o, w5.frozen? ⟨sB, o, none⟩ = false := (fun o => (hf6 _ o (by omega)).trans (ns o))); (have HB5 : Hid (Below w.heap.size w w5) := HB.out.trans (hb6.mono (by omega))); (have t7 : sB + 1 < w5.heap.size := Nat.lt_of_lt_of_le q4 hb6.size); obtain ⟨a1, c1, e1, -⟩ := ho5.some_ (by rw [HL1.out]; omega); rw [HL1.out] at e1; subst e1; (have HO1 : Hid _ := ho5); clear ho5 hb5 hg5 hat5 hb6 hc6 hf6 m0 m1 n1 mo no ms ns)
              go_roundw
              case rel => exact ⟨k + 1, K ++ [(z0, z1', ())], sa, sb, _, _, _, by omega, by omega, by go_num, rfl, HL1, HO1.out, HM1, HWS, t0, t1, t2, t3, t4, t5, t6, HB5, t7⟩
              case measure => simp [intOf]; omega
            · have hzb : (z == 0) = false := by simp [hz0]
              by_cases h2 : z1' < sa
              · have hkp : (z == 0) = true ∨ z1' < sa ∨ sb < z0 := Or.inr (Or.inl h2)
                have HM1 : Hid (MR (z == 0) a (a + z) l (k + 1) (K ++ [(z0, z1', ())]) sa sb) := HMK.out hkp
                have HL1 : Hid ((K ++ [(z0, z1', ())]).length = m + 1) := by show _ = _; have := HL.out; simp [this]
                clear HMK HMJ hkp HM
                go_wp2_with (at_builtin; refine app_plS _ rfl _ _ rfl (sB + 1) (.slice (some ⟨kg, 0, none⟩) m kc) K (by rfl) (HO.out.below (by go_grown)) (some ⟨wr2.heap.size + 1, 0, none⟩) [(z0, z1', ())] 1 1 rfl (by rfl) (HRL.out _ _ (by simp)) (by intro e; cases e) (by have := HL.out; omega) (by simp; omega) ?_; intro v' w5 ho5 hb5 hg5 hat5; (have hb6 : Below (sB + 1) wr2 w5 := Below.trans (Below.mono (B := wr2.heap.size) (by go_grown) (by omega)) hb5); obtain ⟨hc6, hf6⟩ := bcellB hb6; (have t0 : ∀ o, w5.cell? ⟨cB, o, none⟩ = (#[.int .i64 y0, .int .i64 y1, .slice (some ⟨b, off, none⟩) n cap] : Array Value)[o]? := (fun o => (hc6 _ o (by omega)).trans (m0 o))); (have t1 : ∀ o, w5.cell? ⟨rB, o, none⟩ = (#[.int .i64 0, .int .i64 0, .slice none 0 0] : Array Value)[o]? := (fun o => (hc6 _ o (by omega)).trans (m1 o))); (have t2 : ∀ o, w5.frozen? ⟨rB, o, none⟩ = false := (fun o => (hf6 _ o (by omega)).trans (n1 o))); (have t3 : ∀ o, w5.cell? ⟨oB, o, none⟩ = (#[.int .i64 y0, .int .i64 y1, .slice none 0 0] : Array Value)[o]? := (fun o => (hc6 _ o (by omega)).trans (mo o))); (have t4 : ∀ o, w5.frozen? ⟨oB, o, none⟩ = false := (fun o => (hf6 _ o (by omega)).trans (no o))); (have t5 : ∀ o, w5.cell? ⟨sB, o, none⟩ = (#[.int .i64 sa, .int .i64 sb] : Array Value)[o]? := (fun o => (hc6 _ o (by omega)).trans (ms o))); (have t6 : ∀ o, w5.frozen? ⟨sB, o, none⟩ = false := (fun o => (hf6 _ o (by omega)).trans (ns o))); (have HB5 : Hid (Below w.heap.size w w5) := HB.out.trans (hb6.mono (by omega))); (have t7 : sB + 1 < w5.heap.size := Nat.lt_of_lt_of_le q4 hb6.size); obtain ⟨a1, c1, e1, -⟩ := ho5.some_ (by rw [HL1.out]; omega); rw [HL1.out] at e1; subst e1; (have HO1 : Hid _ := ho5); clear ho5 hb5 hg5 hat5 hb6 hc6 hf6 m0 m1 n1 mo no ms ns)
                go_roundw
                case rel => exact ⟨k + 1, K ++ [(z0, z1', ())], sa, sb, _, _, _, by omega, by omega, by go_num, rfl, HL1, HO1.out, HM1, HWS, t0, t1, t2, t3, t4, t5, t6, HB5, t7⟩
                case measure => simp [intOf]; omega
              · have h2' : decide (z1' < sa) = false := by simp; omega
                by_cases h3 : sb < z0
                · have hkp : (z == 0) = true ∨ z1' < sa ∨ sb < z0 := Or.inr (Or.inr h3)
                  have HM1 : Hid (MR (z == 0) a (a + z) l (k + 1) (K ++ [(z0, z1', ())]) sa sb) := HMK.out hkp
                  have HL1 : Hid ((K ++ [(z0, z1', ())]).length = m + 1) := by show _ = _; have := HL.out; simp [this]
                  clear HMK HMJ hkp HM
                  go_wp2_with (at_builtin; refine app_plS _ rfl _ _ rfl (sB + 1) (.slice (some ⟨kg, 0, none⟩) m kc) K (by rfl) (HO.out.below (by go_grown)) (some ⟨wr2.heap.size + 1, 0, none⟩) [(z0, z1', ())] 1 1 rfl (by rfl) (HRL.out _ _ (by simp)) (by intro e; cases e) (by have := HL.out; omega) (by simp; omega) ?_; intro v' w5 ho5 hb5 hg5 hat5; (have hb6 : Below (sB + 1) wr2 w5 := Below.trans (Below.mono (B := wr2.heap.size) (by go_grown) (by omega)) hb5); obtain ⟨hc6, hf6⟩ := bcellB hb6; (have t0 : ∀ o, w5.cell? ⟨cB, o, none⟩ = (#[.int .i64 y0, .int .i64 y1, .slice (some ⟨b, off, none⟩) n cap] : Array Value)[o]? := (fun o => (hc6 _ o (by omega)).trans (m0 o))); (have t1 : ∀ o, w5.cell? ⟨rB, o, none⟩ = (#[.int .i64 0, .int .i64 0, .slice none 0 0] : Array Value)[o]? := (fun o => (hc6 _ o (by omega)).trans (m1 o))); (have t2 : ∀ o, w5.frozen? ⟨rB, o, none⟩ = false := (fun o => (hf6 _ o (by omega)).trans (n1 o))); (have t3 : ∀ o, w5.cell? ⟨oB, o, none⟩ = (#[.int .i64 y0, .int .i64 y1, .slice none 0 0] : Array Value)[o]? := (fun o => (hc6 _ o (by omega)).trans (mo o))); (have t4 : ∀ o, w5.frozen? ⟨oB, o, none⟩ = false := (fun o => (hf6 _ o (by omega)).trans (no o))); (have t5 : ∀ o, w5.cell? ⟨sB, o, none⟩ = (#[.int .i64 sa, .int .i64 sb] : Array Value)[o]? := (fun o => (hc6 _ o (by omega)).trans (ms o))); (have t6 : ∀ o, w5.frozen? ⟨sB, o, none⟩ = false := (fun o => (hf6 _ o (by omega)).trans (ns o))); (have HB5 : Hid (Below w.heap.size w w5) := HB.out.trans (hb6.mono (by omega))); (have t7 : sB + 1 < w5.heap.size := Nat.lt_of_lt_of_le q4 hb6.size); obtain ⟨a1, c1, e1, -⟩ := ho5.some_ (by rw [HL1.out]; omega); rw [HL1.out] at e1; subst e1; (have HO1 : Hid _ := ho5); clear ho5 hb5 hg5 hat5 hb6 hc6 hf6 m0 m1 n1 mo no ms ns)
                  go_roundw
                  case rel => exact ⟨k + 1, K ++ [(z0, z1', ())], sa, sb, _, _, _, by omega, by omega, by go_num, rfl, HL1, HO1.out, HM1, HWS, t0, t1, t2, t3, t4, t5, t6, HB5, t7⟩
                  case measure => simp [intOf]; omega
                · have h3' : decide (sb < z0) = false := by simp; omega
                  have HM1 : Hid (MR (z == 0) a (a + z) l (k + 1) K (min sa z0) (max sb z1')) := HMJ.out (by rw [hzb]; simp; omega)
                  clear HMK HMJ HM
                  have HSK : Hid ((wr2.alloc (.cells #[.int .i64 z0, .int .i64 z1'] 172)).cell? ⟨sB, 0, none⟩ = some (.int .i64 sa) ∧ (wr2.alloc (.cells #[.int .i64 z0, .int .i64 z1'] 172)).cell? ⟨sB, 1, none⟩ = some (.int .i64 sb) ∧ (wr2.alloc (.cells #[.int .i64 z0, .int .i64 z1'] 172)).cell? ⟨wr2.heap.size, 0, none⟩ = some (.int .i64 z0) ∧ (wr2.alloc (.cells #[.int .i64 z0, .int .i64 z1'] 172)).cell? ⟨wr2.heap.size, 1, none⟩ = some (.int .i64 z1')) := by
                    have ms0 := ms 0
                    have ms1 := ms 1
                    refine ⟨?_, ?_, by simp, by simp⟩
                    · rw [(bcell ((Below.refl wr2.heap.size wr2).alloc (Nat.le_refl _) _)).1 sB 0 qs]; exact ms0
                    · rw [(bcell ((Below.refl wr2.heap.size wr2).alloc (Nat.le_refl _) _)).1 sB 1 qs]; exact ms1
                  have HWN : Hid (WfS [(min sa z0, max sb z1', ())]) := wfS1 (wf_min (HWS.out (sa, sb, ()) (by simp)).1 HS.out.1) (wf_max (HWS.out (sa, sb, ()) (by simp)).2 HS.out.2)
                  go_upto_region 15 with fail
                  refine wp_region_noPanic ?_
                  refine Goes.start (S := fun w' => w'.cell? ⟨sB, 0, none⟩ = some (.int .i64 sa) ∧ w'.cell? ⟨sB, 1, none⟩ = some (.int .i64 sb) ∧ w'.cell? ⟨wr2.heap.size, 0, none⟩ = some (.int .i64 z0) ∧ w'.cell? ⟨wr2.heap.size, 1, none⟩ = some (.int .i64 z1')) (z := 11) (by kernel_rfl) ?_
                  refine Goes.take (i := 0) (oi := ?oi1) (x := ?vx1) ?ho1 (by kernel_rfl) (by kernel_rfl) (by kernel_rfl) (by kernel_rfl) (fun _ _ _ h => h) (Or.inl ⟨?hw1, ?hy1⟩) (by exact HSK.out) ?rest1
                  case ho1 => (simp only [List.getElem?_toArray, List.getElem?_cons_zero]; rfl)
                  case hw1 => rfl
                  case hy1 => (intro w' hSw; obtain ⟨s0, s1, s2, s3⟩ := hSw; go_simp; (try with_reducible rfl))
                  case rest1 =>
                  (try simp only [Act.put, List.setIfInBounds_toArray, List.set_cons_zero, List.set_cons_succ])
                  refine Goes.take (i := 1) (oi := ?oi2) (x := ?vx2) ?ho2 (by kernel_rfl) (by kernel_rfl) (by kernel_rfl) (by kernel_rfl) (fun _ _ _ h => h) (Or.inl ⟨?hw2, ?hy2⟩) (by exact HSK.out) ?rest2
                  case ho2 => (simp only [List.getElem?_toArray, List.getElem?_cons_succ, List.getElem?_cons_zero]; rfl)
                  case hw2 => rfl
                  case hy2 => (intro w' hSw; obtain ⟨s0, s1, s2, s3⟩ := hSw; go_simp; (try with_reducible rfl))
                  case rest2 =>
                  (try simp only [Act.put, List.setIfInBounds_toArray, List.set_cons_zero, List.set_cons_succ])
                  refine Goes.take (i := 2) (oi := ?oi3) (x := ?vx3) ?ho3 (by kernel_rfl) (by kernel_rfl) (by kernel_rfl) (by kernel_rfl) (fun _ _ _ h => h) (Or.inl ⟨?hw3, ?hy3⟩) (by exact HSK.out) ?rest3
                  case ho3 => (simp only [List.getElem?_toArray, List.getElem?_cons_succ, List.getElem?_cons_zero]; rfl)
                  case hw3 => rfl
                  case hy3 => (intro w' hSw; obtain ⟨s0, s1, s2, s3⟩ := hSw; go_simp; (try with_reducible rfl))
                  case rest3 =>
                  (try simp only [Act.put, List.setIfInBounds_toArray, List.set_cons_zero, List.set_cons_succ])
                  refine Goes.take (i := 3) (oi := ?oi4) (x := ?vx4) ?ho4 (by kernel_rfl) (by kernel_rfl) (by kernel_rfl) (by kernel_rfl) (fun _ _ _ h => h) (Or.inl ⟨?hw4, ?hy4⟩) (by exact HSK.out) ?rest4
                  case ho4 => (simp only [List.getElem?_toArray, List.getElem?_cons_succ, List.getElem?_cons_zero]; rfl)
                  case hw4 => rfl
                  case hy4 => (intro w' hSw; obtain ⟨s0, s1, s2, s3⟩ := hSw; go_simp; (try with_reducible rfl))
                  case rest4 =>
                  (try simp only [Act.put, List.setIfInBounds_toArray, List.set_cons_zero, List.set_cons_succ])
                  refine Goes.call (i := 4) (oi := ?oi5) (x := .int .i64 (min sa z0)) ?ho5 (by kernel_rfl) (by kernel_rfl) (by kernel_rfl) (by kernel_rfl) (fun _ _ _ h => h) ?hq5 (by exact HSK.out) ?rest5
                  case ho5 => (simp only [List.getElem?_toArray, List.getElem?_cons_succ, List.getElem?_cons_zero]; rfl)
                  case hq5 => exact ⟨rfl, fun w' hSw => ⟨40, #[.int .i64 sa, .int .i64 z0], (by go_simp), sMinC sa z0 w'⟩⟩
                  case rest5 =>
                  (try simp only [Act.put, List.setIfInBounds_toArray, List.set_cons_zero, List.set_cons_succ])
                  refine Goes.take (i := 5) (oi := ?oi6) (x := ?vx6) ?ho6 (by kernel_rfl) (by kernel_rfl) (by kernel_rfl) (by kernel_rfl) (fun _ _ _ h => h) (Or.inl ⟨?hw6, ?hy6⟩) (by exact HSK.out) ?rest6
                  case ho6 => (simp only [List.getElem?_toArray, List.getElem?_cons_succ, List.getElem?_cons_zero]; rfl)
                  case hw6 => rfl
                  case hy6 => (intro w' hSw; obtain ⟨s0, s1, s2, s3⟩ := hSw; go_simp; (try with_reducible rfl))
                  case rest6 =>
                  (try simp only [Act.put, List.setIfInBounds_toArray, List.set_cons_zero, List.set_cons_succ])
                  refine Goes.take (i := 6) (oi := ?oi7) (x := ?vx7) ?ho7 (by kernel_rfl) (by kernel_rfl) (by kernel_rfl) (by kernel_rfl) (fun _ _ _ h => h) (Or.inl ⟨?hw7, ?hy7⟩) (by exact HSK.out) ?rest7
                  case ho7 => (simp only [List.getElem?_toArray, List.getElem?_cons_succ, List.getElem?_cons_zero]; rfl)
                  case hw7 => rfl
                  case hy7 => (intro w' hSw; obtain ⟨s0, s1, s2, s3⟩ := hSw; go_simp; (try with_reducible rfl))
                  case rest7 =>
                  (try simp only [Act.put, List.setIfInBounds_toArray, List.set_cons_zero, List.set_cons_succ])
                  refine Goes.take (i := 7) (oi := ?oi8) (x := ?vx8) ?ho8 (by kernel_rfl) (by kernel_rfl) (by kernel_rfl) (by kernel_rfl) (fun _ _ _ h => h) (Or.inl ⟨?hw8, ?hy8⟩) (by exact HSK.out) ?rest8
                  case ho8 => (simp only [List.getElem?_toArray, List.getElem?_cons_succ, List.getElem?_cons_zero]; rfl)
                  case hw8 => rfl
                  case hy8 => (intro w' hSw; obtain ⟨s0, s1, s2, s3⟩ := hSw; go_simp; (try with_reducible rfl))
                  case rest8 =>
                  (try simp only [Act.put, List.setIfInBounds_toArray, List.set_cons_zero, List.set_cons_succ])
                  refine Goes.take (i := 8) (oi := ?oi9) (x := ?vx9) ?ho9 (by kernel_rfl) (by kernel_rfl) (by kernel_rfl) (by kernel_rfl) (fun _ _ _ h => h) (Or.inl ⟨?hw9, ?hy9⟩) (by exact HSK.out) ?rest9
                  case ho9 => (simp only [List.getElem?_toArray, List.getElem?_cons_succ, List.getElem?_cons_zero]; rfl)
                  case hw9 => rfl
                  case hy9 => (intro w' hSw; obtain ⟨s0, s1, s2, s3⟩ := hSw; go_simp; (try with_reducible rfl))
                  case rest9 =>
                  (try simp only [Act.put, List.setIfInBounds_toArray, List.set_cons_zero, List.set_cons_succ])
                  refine Goes.call (i := 9) (oi := ?oi10) (x := .int .i64 (max sb z1')) ?ho10 (by kernel_rfl) (by kernel_rfl) (by kernel_rfl) (by kernel_rfl) (fun _ _ _ h => h) ?hq10 (by exact HSK.out) ?rest10
                  case ho10 => (simp only [List.getElem?_toArray, List.getElem?_cons_succ, List.getElem?_cons_zero]; rfl)
                  case hq10 => exact ⟨rfl, fun w' hSw => ⟨158, #[.int .i64 sb, .int .i64 z1'], (by go_simp), sMaxC sb z1' w'⟩⟩
                  case rest10 =>
                  (try simp only [Act.put, List.setIfInBounds_toArray, List.set_cons_zero, List.set_cons_succ])
                  refine Goes.take (i := 10) (oi := ?oi11) (x := ?vx11) ?ho11 (by kernel_rfl) (by kernel_rfl) (by kernel_rfl) (by kernel_rfl) (fun _ _ _ h => h) (Or.inl ⟨?hw11, ?hy11⟩) (by exact HSK.out) ?rest11
                  case ho11 => (simp only [List.getElem?_toArray, List.getElem?_cons_succ, List.getElem?_cons_zero]; rfl)
                  case hw11 => rfl
                  case hy11 => (intro w' hSw; obtain ⟨s0, s1, s2, s3⟩ := hSw; go_simp; (try with_reducible rfl))
                  case rest11 =>
                  (try simp only [Act.put, List.setIfInBounds_toArray, List.set_cons_zero, List.set_cons_succ])
                  refine Goes.all (rs := [11]) (by kernel_rfl) (by simp) ?_
                  refine Ups.cons (i := 11) (o := ?oo12) ?ho12 (fun KK hKK => ?stp12) Ups.nil
                  case ho12 => (simp only [List.getElem?_toArray, List.getElem?_cons_succ, List.getElem?_cons_zero]; rfl)
                  case stp12 =>
                  go_simp
                  refine hKK.out _ _ (Or.inl rfl) ?_
                  clear hKK KK
                  (try simp only [Act.put, List.setIfInBounds_toArray, List.set_cons_zero, List.set_cons_succ])
                  refine Goes.done (by kernel_rfl) ?_ _
                  refine NoPanic.normal ?_
                  go_wp2_with fail
                  go_roundw
                  case rel =>
                    refine ⟨k + 1, K, min sa z0, max sb z1', kg, m, kc, by omega, by omega, by go_num, rfl, HL, ?_, HM1, HWN, bxc_new (bxc_far (bxc_far m0 (by omega)) (by omega)) (by simpa using qc), bxc_new (bxc_far (bxc_far m1 (by omega)) (by omega)) (by simpa using qr), bfc_new (bfc_any (bfc_any n1)) (by simpa using qr), bxc_new (bxc_far (bxc_far mo (by omega)) (by omega)) (by simpa using qo), bfc_new (bfc_any (bfc_any no)) (by simpa using qo), bxc_new (bxc_setE (k := 1) (bxc_set (k := 0) ms (by simp)) (by simp) (by simp)) (by simpa using qs), bfc_new (bfc_any (bfc_any ns)) (by simpa using qs), ?_, by simp; omega⟩
                    · refine OS.below (OS.keeps HO.out fun g hg1 hg2 => ?_) (((Below.refl _ _).alloc (Nat.le_refl _) _).drew)
                      have hne : g ≠ sB := by omega
                      repeat rw [Below.heap_setCell _ _ _ _ (by dsimp only; exact hne)]
                    · have hB1 := HB.out
                      show Below _ _ _
                      go_grown
                  case measure => simp [intOf]; omega
        · obtain rfl : k = n := by omega
          have hme := HM.out
          rw [← HN.out] at hme
          have HME : Hid (mrgZ (z == 0) a (a + z) l = (K, sa, sb)) := hme.end_
          clear hme HM
          have HMP : Hid (0 < z ∧ y1 < sb → MD = modN y1 (putS sa sb K)) := fun h => by rw [HMD.out]; unfold mdT; rw [HME.out]; rw [if_pos h]
          have HMN : Hid (¬ (0 < z ∧ y1 < sb) → MD = modN y1 K) := fun h => by rw [HMD.out]; unfold mdT; rw [HME.out]; rw [if_neg h]
          clear HME HMD
          go_upto_region 16 with fail
          obtain ⟨PP, hPP⟩ : ∃ P : Bool, P = decide (0 < z ∧ y1 < sb) := ⟨_, rfl⟩
          have HPP : Hid (PP = decide (0 < z ∧ y1 < sb)) := hPP
          clear hPP
          go_cut [92] (fun c wx => c = .bool PP ∧ wx = wr2)
          case first =>
            by_cases hz0 : 0 < z
            · have hPP : PP = decide (y1 < sb) := by rw [HPP.out]; simp [hz0]
              go_wp2_with fail
              go_meet
              exact ⟨by rw [hPP], rfl⟩
            · have hz0' : decide (0 < z) = false := by simp; omega
              have hPP : PP = false := by rw [HPP.out]; simp [hz0]
              go_wp2_with fail
              go_meet
              exact ⟨by rw [hPP], rfl⟩
          case rest =>
          obtain ⟨rfl, hcw⟩ := hcut
          rw [hcw]
          clear hcw
          go_upto_if 92 with fail
          go_cut [12, 15] from 93 to 120 (fun v q wx => ∃ (T : List DSpan) (tg tm tc : Nat), v = .slice (some ⟨tg, 0, none⟩) tm tc ∧ Hid (T.length = tm) ∧ Hid (OS wx (sB + 1) (.slice (some ⟨tg, 0, none⟩) tm tc) T) ∧ Hid (MD = modN y1 T) ∧ (∀ o, wx.cell? ⟨rB, o, none⟩ = (#[.int .i64 0, .int .i64 0, .slice none 0 0] : Array Value)[o]?) ∧ (∀ o, wx.frozen? ⟨rB, o, none⟩ = false) ∧ (∀ o, wx.cell? ⟨oB, o, none⟩ = (#[.int .i64 y0, .int .i64 y1, .slice none 0 0] : Array Value)[o]?) ∧ (∀ o, wx.frozen? ⟨oB, o, none⟩ = false) ∧ Hid (Below w.heap.size w wx) ∧ sB + 1 < wx.heap.size)
          case first =>
            by_cases hput : 0 < z ∧ y1 < sb
            · have hPP : PP = true := by rw [HPP.out]; simp [hput]
              subst hPP
              have HMT0 : Hid (MD = modN y1 (putS sa sb K)) := HMP.out hput
              clear HPP HMP HMN hput m0
              have HRSP : Hid (∀ (W : World) (H : Nat), W.heap.size = H → RS (W.alloc (.cells #[.int .i64 sa, .int .i64 sb] 172)) (some ⟨H, 0, none⟩) [(sa, sb, ())]) := fun W H e => rs_lit W H e sa sb (HWS.out (sa, sb, ()) (by simp)).1 (HWS.out (sa, sb, ()) (by simp)).2
              have hmn : m ≤ 1000 := by omega
              go_wp2_with fail
              go_loopw [15] (fun q wr => ∃ (jj nn : Nat), jj ≤ m ∧ q = .int .i64 jj ∧ Hid (∀ i (h : i < K.length), i < jj → K[i].1 < sa) ∧ wr = wr2.drewN nn) (fun q _ => m - (intOf q).toNat)
              case atStart => exact ⟨0, 0, Nat.zero_le _, rfl, (fun i h hi => by omega), rfl⟩
              case round =>
                rename World => wy
                obtain ⟨jj, nn, hjj, rfl, HLT, hwy⟩ := hrel
                have HWY : Hid (wy = wr2.drewN nn) := hwy
                have ms0 : wy.cell? ⟨sB, 0, none⟩ = some (.int .i64 sa) := by rw [hwy, World.cell?_drewN]; exact ms 0
                have ms1 : wy.cell? ⟨sB, 1, none⟩ = some (.int .i64 sb) := by rw [hwy, World.cell?_drewN]; exact ms 1
                have hwz : wy.heap.size = wr2.heap.size := by rw [hwy]; rfl
                have HBY : Hid (Below wr2.heap.size wr2 wy) := by show Below _ _ _; rw [hwy]; exact below_drewN (Below.refl _ _) _
                by_cases hlt : jj < m
                · have hjl : jj < K.length := by have := HL.out; omega
                  obtain ⟨j0, -, -⟩ := HO.out.cell hjl
                  have hjm : (jj : Int) < (m : Int) := by omega
                  replace j0 : wy.cell? ⟨kg, jj * 2, none⟩ = some (.int .i64 K[jj].1) := by rw [hwy, World.cell?_drewN]; exact j0
                  clear hwy
                  by_cases hfs : K[jj].1 < sa
                  · have HLT2 : Hid (∀ i (h : i < K.length), i < jj + 1 → K[i].1 < sa) := fun i h hi => by
                      rcases Nat.lt_or_eq_of_le (Nat.lt_succ_iff.1 hi) with h1 | h1
                      · exact HLT.out i h h1
                      · subst h1; exact hfs
                    generalize K[jj].1 = kf at *
                    go_wp2_with fail
                    go_quiet (fail)
                    go_wp2_with fail
                    go_roundw
                    case rel => exact ⟨jj + 1, _, by omega, by go_num, HLT2, by rw [HWY.out, World.drewN_drewN]⟩
                    case measure => simp [intOf]; omega
                  · have HSP : Hid (putS sa sb K = (K.take jj ++ [(sa, sb, ())]) ++ K.drop jj) := putS_split (by omega) HLT.out (fun _ => hfs)
                    have hfs' : decide (K[jj].1 < sa) = false := by simp; omega
                    generalize K[jj].1 = kf at *
                    go_wp2_with fail
                    go_quiet (fail)
                    go_upto_region 20 with fail
                    obtain ⟨wz, hwz⟩ : ∃ W, W = wy.drewN nq := ⟨_, rfl⟩
                    rw [← hwz]
                    have HBZ : Hid (Below wr2.heap.size wr2 wz) := by show Below _ _ _; rw [hwz, HWY.out]; exact below_drewN (below_drewN (Below.refl _ _) _) _
                    clear hwz
                    have hkgs : sB + 1 ≤ kg ∧ kg < wr2.heap.size := HO.out.own.lt kg rfl
                    have hrk : m ≤ kc := by obtain ⟨_, _, e, _, _, h5, _⟩ := HO.out.rs; simp only [Value.slice.injEq] at e; have := HL.out; omega
                    have HRK : Hid (RS wz (some ⟨kg, 0, none⟩) K) := by obtain ⟨_, _, e, h, _⟩ := (HO.out.below HBZ.out).rs; simp only [Value.slice.injEq] at e; rw [← e.1] at h; exact h
                    have hzz : wr2.heap.size ≤ wz.heap.size := HBZ.out.size
                    have HSK : Hid (∀ W, Below wz.heap.size wz W → W.cell? ⟨sB, 0, none⟩ = some (.int .i64 sa) ∧ W.cell? ⟨sB, 1, none⟩ = some (.int .i64 sb)) := fun W hW => ⟨((HBZ.out.trans (hW.mono hzz)).cell (p := ⟨sB, 0, none⟩) qs).trans (ms 0), ((HBZ.out.trans (hW.mono hzz)).cell (p := ⟨sB, 1, none⟩) qs).trans (ms 1)⟩
                    have HTK : Hid ((K.take jj).length = jj) := by show _ = _; have := HL.out; simp; omega
                    have HDK : Hid ((K.drop jj).length = m - jj) := by show _ = _; have := HL.out; simp; omega
                    have HKT : Hid (∀ W, Below wz.heap.size wz W → RS W (some ⟨kg, 0, none⟩) (K.take jj)) := fun W hW => (HRK.out.take jj).below hW
                    have hjk : (jj : Int) ≤ (kc : Int) := by omega
                    have hjm0 : (jj : Int) ≤ (m : Int) := by omega
                    have hj0 : (0 : Int) ≤ (jj : Int) := by omega
                    have hmk0 : (m : Int) ≤ (kc : Int) := by omega
                    obtain ⟨pa, hpa1⟩ : ∃ pa, (if kc = jj then some (⟨kg, 0, none⟩ : Addr) else some ⟨kg, jj * 2, none⟩) = pa := ⟨_, rfl⟩
                    have hpa2 : (if jj = kc then some (⟨kg, 0, none⟩ : Addr) else some ⟨kg, jj * 2, none⟩) = pa := by rw [← hpa1]; by_cases h : kc = jj <;> simp [h, eq_comm]
                    have HKD : Hid (∀ W, Below wz.heap.size wz W → RS W pa (K.drop jj)) := fun W hW => by
                      rw [← hpa1]
                      by_cases h : kc = jj
                      · have : K.drop jj = [] := List.drop_of_length_le (by have := HL.out; omega)
                        rw [this]; exact RS.nil _ _
                      · rw [if_neg h]
                        have := (HRK.out.drop jj).below hW
                        rwa [Nat.zero_add] at this
                    have HKN2 : Hid (pa = none → kc - jj = 0) := fun h => by rw [← hpa1] at h; split at h <;> cases h
                    refine wp_region_noPanic ?_
                    refine Goes.start (S := fun w' => w'.cell? ⟨sB, 0, none⟩ = some (.int .i64 sa) ∧ w'.cell? ⟨sB, 1, none⟩ = some (.int .i64 sb)) (z := 12) (by kernel_rfl) ?_
                    refine Goes.take (i := 1) (oi := ?oi13) (x := ?vx13) ?ho13 (by kernel_rfl) (by kernel_rfl) (by kernel_rfl) (by kernel_rfl) (fun _ _ _ h => h) (Or.inl ⟨?hw13, ?hy13⟩) (by exact HSK.out _ (by first | exact Below.refl _ _ | exact Below.drew (Below.refl _ _) | go_grown | assumption)) ?rest13
                    case ho13 => (simp only [List.getElem?_toArray, List.getElem?_cons_succ, List.getElem?_cons_zero]; rfl)
                    case hw13 => rfl
                    case hy13 => (intro w' hSw; obtain ⟨s0, s1⟩ := hSw; go_simp; (try with_reducible rfl))
                    case rest13 =>
                    (try simp only [Act.put, List.setIfInBounds_toArray, List.set_cons_zero, List.set_cons_succ])
                    refine Goes.take (i := 2) (oi := ?oi14) (x := ?vx14) ?ho14 (by kernel_rfl) (by kernel_rfl) (by kernel_rfl) (by kernel_rfl) (fun _ _ _ h => h) (Or.inl ⟨?hw14, ?hy14⟩) (by exact HSK.out _ (by first | exact Below.refl _ _ | exact Below.drew (Below.refl _ _) | go_grown | assumption)) ?rest14
                    case ho14 => (simp only [List.getElem?_toArray, List.getElem?_cons_succ, List.getElem?_cons_zero]; rfl)
                    case hw14 => rfl
                    case hy14 => (intro w' hSw; obtain ⟨s0, s1⟩ := hSw; go_simp; (try with_reducible rfl))
                    case rest14 =>
                    (try simp only [Act.put, List.setIfInBounds_toArray, List.set_cons_zero, List.set_cons_succ])
                    refine Goes.take (i := 3) (oi := ?oi15) (x := ?vx15) ?ho15 (by kernel_rfl) (by kernel_rfl) (by kernel_rfl) (by kernel_rfl) (fun _ _ _ h => h) (Or.inl ⟨?hw15, ?hy15⟩) (by exact HSK.out _ (by first | exact Below.refl _ _ | exact Below.drew (Below.refl _ _) | go_grown | assumption)) ?rest15
                    case ho15 => (simp only [List.getElem?_toArray, List.getElem?_cons_succ, List.getElem?_cons_zero]; rfl)
                    case hw15 => rfl
                    case hy15 => (intro w' hSw; obtain ⟨s0, s1⟩ := hSw; go_simp; (try with_reducible rfl))
                    case rest15 =>
                    (try simp only [Act.put, List.setIfInBounds_toArray, List.set_cons_zero, List.set_cons_succ])
                    refine Goes.take (i := 5) (oi := ?oi16) (x := ?vx16) ?ho16 (by kernel_rfl) (by kernel_rfl) (by kernel_rfl) (by kernel_rfl) (fun _ _ _ h => h) (Or.inl ⟨?hw16, ?hy16⟩) (by exact HSK.out _ (by first | exact Below.refl _ _ | exact Below.drew (Below.refl _ _) | go_grown | assumption)) ?rest16
                    case ho16 => (simp only [List.getElem?_toArray, List.getElem?_cons_succ, List.getElem?_cons_zero]; rfl)
                    case hw16 => rfl
                    case hy16 => (intro w' hSw; obtain ⟨s0, s1⟩ := hSw; go_simp; (try with_reducible rfl))
                    case rest16 =>
                    (try simp only [Act.put, List.setIfInBounds_toArray, List.set_cons_zero, List.set_cons_succ])
                    refine Goes.take (i := 8) (oi := ?oi17) (x := ?vx17) ?ho17 (by kernel_rfl) (by kernel_rfl) (by kernel_rfl) (by kernel_rfl) (fun _ _ _ h => h) (Or.inl ⟨?hw17, ?hy17⟩) (by exact HSK.out _ (by first | exact Below.refl _ _ | exact Below.drew (Below.refl _ _) | go_grown | assumption)) ?rest17
                    case ho17 => (simp only [List.getElem?_toArray, List.getElem?_cons_succ, List.getElem?_cons_zero]; rfl)
                    case hw17 => rfl
                    case hy17 => (intro w' hSw; obtain ⟨s0, s1⟩ := hSw; go_simp; (try with_reducible rfl))
                    case rest17 =>
                    (try simp only [Act.put, List.setIfInBounds_toArray, List.set_cons_zero, List.set_cons_succ])
                    refine Goes.take (i := 9) (oi := ?oi18) (x := ?vx18) ?ho18 (by kernel_rfl) (by kernel_rfl) (by kernel_rfl) (by kernel_rfl) (fun _ _ _ h => h) (Or.inl ⟨?hw18, ?hy18⟩) (by exact HSK.out _ (by first | exact Below.refl _ _ | exact Below.drew (Below.refl _ _) | go_grown | assumption)) ?rest18
                    case ho18 => (simp only [List.getElem?_toArray, List.getElem?_cons_succ, List.getElem?_cons_zero]; rfl)
                    case hw18 => rfl
                    case hy18 => (intro w' hSw; obtain ⟨s0, s1⟩ := hSw; go_simp; (try with_reducible rfl))
                    case rest18 =>
                    (try simp only [Act.put, List.setIfInBounds_toArray, List.set_cons_zero, List.set_cons_succ])
                    refine Goes.take (i := 10) (oi := ?oi19) (x := ?vx19) ?ho19 (by kernel_rfl) (by kernel_rfl) (by kernel_rfl) (by kernel_rfl) (fun _ _ _ h => h) (Or.inl ⟨?hw19, ?hy19⟩) (by exact HSK.out _ (by first | exact Below.refl _ _ | exact Below.drew (Below.refl _ _) | go_grown | assumption)) ?rest19
                    case ho19 => (simp only [List.getElem?_toArray, List.getElem?_cons_succ, List.getElem?_cons_zero]; rfl)
                    case hw19 => rfl
                    case hy19 => (intro w' hSw; obtain ⟨s0, s1⟩ := hSw; go_simp; (try with_reducible rfl))
                    case rest19 =>
                    (try simp only [Act.put, List.setIfInBounds_toArray, List.set_cons_zero, List.set_cons_succ])
                    refine Goes.all (rs := [0, 6]) (by kernel_rfl) (by simp) ?_
                    refine Ups.cons (i := 0) (o := ?oo20) ?ho20 (fun KK hKK => ?stp20) ?more20
                    case ho20 => (simp only [List.getElem?_toArray, List.getElem?_cons_zero]; rfl)
                    case stp20 =>
                      go_simp
                      refine hKK.out _ _ (Or.inr (by exact HSK.out _ (by first | exact Below.refl _ _ | exact Below.drew (Below.refl _ _) | go_grown | assumption))) ?_
                      clear hKK KK
                      (try simp only [Act.put, List.setIfInBounds_toArray, List.set_cons_zero, List.set_cons_succ])
                      refine Goes.all (rs := [4, 6]) (by kernel_rfl) (by simp) ?_
                      refine Ups.cons (i := 4) (o := ?oo21) ?ho21 (fun KK hKK => ?stp21) ?more21
                      case ho21 => (simp only [List.getElem?_toArray, List.getElem?_cons_succ, List.getElem?_cons_zero]; rfl)
                      case stp21 =>
                        refine app_stS _ (by rfl) _ _ (by rfl) wz.heap.size (.slice (some ⟨wz.heap.size, 0, none⟩) 0 0) [] (by rfl) (os_none wz.drew _ rfl) (some ⟨kg, 0, none⟩) (K.take jj) jj kc HTK.out (by rfl) (HKT.out _ (by go_grown)) (by intro e; cases e) (by simp; omega) (by first | (simp; done) | (simp; omega)) ?_
                        intro v4 w4 ho4 hb4 hg4 hat4
                        rw [List.nil_append] at ho4
                        have HO4 : Hid (OS w4 wz.heap.size v4 (K.take jj)) := OS.mono ho4 (by omega)
                        have hbx4 : Below wz.heap.size wz w4 := Below.trans (by go_grown) (hb4.mono (by omega))
                        have hz4 : wz.heap.size < w4.heap.size := by have := hg4.size; simp at this; omega
                        clear ho4 hb4 hg4 hat4
                        refine hKK.out _ _ (Or.inr (by exact HSK.out _ (by first | exact Below.refl _ _ | exact Below.drew (Below.refl _ _) | go_grown | assumption))) ?_
                        clear hKK KK
                        (try simp only [Act.put, List.setIfInBounds_toArray, List.set_cons_zero, List.set_cons_succ])
                        refine Goes.all (rs := [6]) (by kernel_rfl) (by simp) ?_
                        refine Ups.cons (i := 6) (o := ?oo22) ?ho22 (fun KK hKK => ?stp22) ?more22
                        case ho22 => (simp only [List.getElem?_toArray, List.getElem?_cons_succ, List.getElem?_cons_zero]; rfl)
                        case stp22 =>
                          go_simp
                          refine hKK.out _ _ (Or.inr (by exact HSK.out _ (by first | exact Below.refl _ _ | exact Below.drew (Below.refl _ _) | go_grown | assumption))) ?_
                          clear hKK KK
                          (try simp only [Act.put, List.setIfInBounds_toArray, List.set_cons_zero, List.set_cons_succ])
                          refine Goes.all (rs := [7]) (by kernel_rfl) (by simp) ?_
                          refine Ups.cons (i := 7) (o := ?oo23) ?ho23 (fun KK hKK => ?stp23) ?more23
                          case ho23 => (simp only [List.getElem?_toArray, List.getElem?_cons_succ, List.getElem?_cons_zero]; rfl)
                          case stp23 =>
                            refine app_stS _ (by rfl) _ _ (by rfl) wz.heap.size v4 (K.take jj) (by rfl) (HO4.out.below (by go_grown)) (some ⟨w4.heap.size, 0, none⟩) [(sa, sb, ())] 1 1 rfl (by rfl) (HRSP.out w4 _ rfl) (by intro e; cases e) (by rw [HTK.out]; omega) (by first | (simp; omega) | omega) ?_
                            intro v7 w7 ho7 hb7 hg7 hat7
                            have HO7 : Hid (OS w7 wz.heap.size v7 (K.take jj ++ [(sa, sb, ())])) := ho7
                            have hbx7 : Below wz.heap.size wz w7 := hbx4.trans (Below.trans (Below.mono (B := w4.heap.size) (by go_grown) (by omega)) hb7)
                            have hz7 : wz.heap.size < w7.heap.size := Nat.lt_of_lt_of_le hz4 (by have := hb7.size; first | omega | (simp at this; omega))
                            clear ho7 hb7 hg7 hat7 HO4 hbx4
                            refine hKK.out _ _ (Or.inr (by exact HSK.out _ (by first | exact Below.refl _ _ | exact Below.drew (Below.refl _ _) | go_grown | assumption))) ?_
                            clear hKK KK
                            (try simp only [Act.put, List.setIfInBounds_toArray, List.set_cons_zero, List.set_cons_succ])
                            refine Goes.all (rs := [11]) (by kernel_rfl) (by simp) ?_
                            refine Ups.cons (i := 11) (o := ?oo24) ?ho24 (fun KK hKK => ?stp24) ?more24
                            case ho24 => (simp only [List.getElem?_toArray, List.getElem?_cons_succ, List.getElem?_cons_zero]; rfl)
                            case stp24 =>
                              refine app_stS _ (by rfl) _ _ (by rfl) wz.heap.size v7 (K.take jj ++ [(sa, sb, ())]) (by rfl) HO7.out pa (K.drop jj) (m - jj) (kc - jj) HDK.out (by rfl) (HKD.out _ hbx7) HKN2.out (by rw [List.length_append, HTK.out]; simp; omega) (by omega) ?_
                              intro v11 w11 ho11 hb11 hg11 hat11
                              have HO11 : Hid (OS w11 wz.heap.size v11 (K.take jj ++ [(sa, sb, ())] ++ K.drop jj)) := ho11
                              have hbx11 : Below wz.heap.size wz w11 := hbx7.trans hb11
                              clear ho11 hb11 hg11 hat11 HO7 hbx7
                              refine hKK.out _ _ (Or.inr (by exact HSK.out _ (by first | exact Below.refl _ _ | exact Below.drew (Below.refl _ _) | go_grown | assumption))) ?_
                              clear hKK KK
                              (try simp only [Act.put, List.setIfInBounds_toArray, List.set_cons_zero, List.set_cons_succ])
                              refine Goes.all (rs := [12]) (by kernel_rfl) (by simp) ?_
                              refine Ups.cons (i := 12) (o := ?oo25) ?ho25 (fun KK hKK => ?stp25) ?more25
                              case ho25 => (simp only [List.getElem?_toArray, List.getElem?_cons_succ, List.getElem?_cons_zero]; rfl)
                              case stp25 =>
                                go_simp
                                refine hKK.out _ _ (Or.inl rfl) ?_
                                clear hKK KK
                                (try simp only [Act.put, List.setIfInBounds_toArray, List.set_cons_zero, List.set_cons_succ])
                                refine Goes.done (by kernel_rfl) ?_ _
                                refine NoPanic.normal ?_
                                have HMT : Hid (MD = modN y1 (K.take jj ++ [(sa, sb, ())] ++ K.drop jj)) := by show _ = _; rw [HMT0.out, HSP.out]
                                have HO12 : Hid (OS w11 (sB + 1) v11 (K.take jj ++ [(sa, sb, ())] ++ K.drop jj)) := OS.mono HO11.out (by omega)
                                have hbw : Below wr2.heap.size wr2 w11 := HBZ.out.trans (hbx11.mono hzz)
                                have tr := bx_below m1 qr hbw
                                have tf : ∀ o, w11.frozen? ⟨rB, o, none⟩ = false := fun o => by rw [(bcell hbw).2 _ o qr]; exact n1 o
                                have to_ := bx_below mo qo hbw
                                have tof : ∀ o, w11.frozen? ⟨oB, o, none⟩ = false := fun o => by rw [(bcell hbw).2 _ o qo]; exact no o
                                have HBX : Hid (Below w.heap.size w w11) := HB.out.trans (hbw.mono (by omega))
                                have q4' : sB + 1 < w11.heap.size := Nat.lt_of_lt_of_le q4 hbw.size
                                obtain ⟨tg, tc, e12, -⟩ := HO12.out.some_ (by simp; omega)
                                subst e12
                                go_wp2_with fail
                                go_meet
                                exact ⟨_, tg, _, tc, rfl, (show _ = _ from rfl), HO12, HMT, tr, tf, to_, tof, HBX, q4'⟩
                              case more25 =>
                                exact Ups.nil
                            case more24 =>
                              exact Ups.nil
                          case more23 =>
                            exact Ups.nil
                        case more22 =>
                          exact Ups.nil
                      case more21 =>
                        refine Ups.cons (i := 6) (o := ?oo26) ?ho26 (fun KK hKK => ?stp26) ?more26
                        case ho26 => (simp only [List.getElem?_toArray, List.getElem?_cons_succ, List.getElem?_cons_zero]; rfl)
                        case stp26 =>
                          go_simp
                          refine hKK.out _ _ (Or.inr (by exact HSK.out _ (by first | exact Below.refl _ _ | exact Below.drew (Below.refl _ _) | go_grown | assumption))) ?_
                          clear hKK KK
                          (try simp only [Act.put, List.setIfInBounds_toArray, List.set_cons_zero, List.set_cons_succ])
                          refine Goes.all (rs := [4]) (by kernel_rfl) (by simp) ?_
                          refine Ups.cons (i := 4) (o := ?oo27) ?ho27 (fun KK hKK => ?stp27) ?more27
                          case ho27 => (simp only [List.getElem?_toArray, List.getElem?_cons_succ, List.getElem?_cons_zero]; rfl)
                          case stp27 =>
                            refine app_stS _ (by rfl) _ _ (by rfl) wz.heap.size (.slice (some ⟨wz.heap.size, 0, none⟩) 0 0) [] (by rfl) (OS.below (os_none wz.drew _ rfl) ((Below.refl _ _).alloc (Nat.le_refl _) _)) (some ⟨kg, 0, none⟩) (K.take jj) jj kc HTK.out (by rfl) (HKT.out _ (by go_grown)) (by intro e; cases e) (by simp; omega) (by first | (simp; done) | (simp; omega)) ?_
                            intro v4 w4 ho4 hb4 hg4 hat4
                            rw [List.nil_append] at ho4
                            have HO4 : Hid (OS w4 wz.heap.size v4 (K.take jj)) := OS.mono ho4 (by omega)
                            have hbx4 : Below wz.heap.size wz w4 := Below.trans (by go_grown) (hb4.mono (by omega))
                            have HR4 : Hid (RS w4 (some ⟨wz.heap.size + 1, 0, none⟩) [(sa, sb, ())]) := RS.keepB (HRSP.out (wz.drew.alloc (.cells #[] 172)) (wz.heap.size + 1) (by simp)) (hg4.block (wz.heap.size + 1) (by simp) (by simp [Value.ownBlock]))
                            have hz4 : wz.heap.size < w4.heap.size := by have := hg4.size; simp at this; omega
                            clear ho4 hb4 hg4 hat4
                            refine hKK.out _ _ (Or.inr (by exact HSK.out _ (by first | exact Below.refl _ _ | exact Below.drew (Below.refl _ _) | go_grown | assumption))) ?_
                            clear hKK KK
                            (try simp only [Act.put, List.setIfInBounds_toArray, List.set_cons_zero, List.set_cons_succ])
                            refine Goes.all (rs := [7]) (by kernel_rfl) (by simp) ?_
                            refine Ups.cons (i := 7) (o := ?oo28) ?ho28 (fun KK hKK => ?stp28) ?more28
                            case ho28 => (simp only [List.getElem?_toArray, List.getElem?_cons_succ, List.getElem?_cons_zero]; rfl)
                            case stp28 =>
                              refine app_stS _ (by rfl) _ _ (by rfl) wz.heap.size v4 (K.take jj) (by rfl) HO4.out (some ⟨wz.heap.size + 1, 0, none⟩) [(sa, sb, ())] 1 1 rfl (by rfl) HR4.out (by intro e; cases e) (by rw [HTK.out]; omega) (by first | (simp; omega) | omega) ?_
                              intro v7 w7 ho7 hb7 hg7 hat7
                              have HO7 : Hid (OS w7 wz.heap.size v7 (K.take jj ++ [(sa, sb, ())])) := ho7
                              have hbx7 : Below wz.heap.size wz w7 := hbx4.trans (Below.trans (Below.mono (B := w4.heap.size) (by go_grown) (by omega)) hb7)
                              have hz7 : wz.heap.size < w7.heap.size := Nat.lt_of_lt_of_le hz4 (by have := hb7.size; first | omega | (simp at this; omega))
                              clear ho7 hb7 hg7 hat7 HO4 hbx4
                              refine hKK.out _ _ (Or.inr (by exact HSK.out _ (by first | exact Below.refl _ _ | exact Below.drew (Below.refl _ _) | go_grown | assumption))) ?_
                              clear hKK KK
                              (try simp only [Act.put, List.setIfInBounds_toArray, List.set_cons_zero, List.set_cons_succ])
                              refine Goes.all (rs := [11]) (by kernel_rfl) (by simp) ?_
                              refine Ups.cons (i := 11) (o := ?oo29) ?ho29 (fun KK hKK => ?stp29) ?more29
                              case ho29 => (simp only [List.getElem?_toArray, List.getElem?_cons_succ, List.getElem?_cons_zero]; rfl)
                              case stp29 =>
                                refine app_stS _ (by rfl) _ _ (by rfl) wz.heap.size v7 (K.take jj ++ [(sa, sb, ())]) (by rfl) HO7.out pa (K.drop jj) (m - jj) (kc - jj) HDK.out (by rfl) (HKD.out _ hbx7) HKN2.out (by rw [List.length_append, HTK.out]; simp; omega) (by omega) ?_
                                intro v11 w11 ho11 hb11 hg11 hat11
                                have HO11 : Hid (OS w11 wz.heap.size v11 (K.take jj ++ [(sa, sb, ())] ++ K.drop jj)) := ho11
                                have hbx11 : Below wz.heap.size wz w11 := hbx7.trans hb11
                                clear ho11 hb11 hg11 hat11 HO7 hbx7
                                refine hKK.out _ _ (Or.inr (by exact HSK.out _ (by first | exact Below.refl _ _ | exact Below.drew (Below.refl _ _) | go_grown | assumption))) ?_
                                clear hKK KK
                                (try simp only [Act.put, List.setIfInBounds_toArray, List.set_cons_zero, List.set_cons_succ])
                                refine Goes.all (rs := [12]) (by kernel_rfl) (by simp) ?_
                                refine Ups.cons (i := 12) (o := ?oo30) ?ho30 (fun KK hKK => ?stp30) ?more30
                                case ho30 => (simp only [List.getElem?_toArray, List.getElem?_cons_succ, List.getElem?_cons_zero]; rfl)
                                case stp30 =>
                                  go_simp
                                  refine hKK.out _ _ (Or.inl rfl) ?_
                                  clear hKK KK
                                  (try simp only [Act.put, List.setIfInBounds_toArray, List.set_cons_zero, List.set_cons_succ])
                                  refine Goes.done (by kernel_rfl) ?_ _
                                  refine NoPanic.normal ?_
                                  have HMT : Hid (MD = modN y1 (K.take jj ++ [(sa, sb, ())] ++ K.drop jj)) := by show _ = _; rw [HMT0.out, HSP.out]
                                  have HO12 : Hid (OS w11 (sB + 1) v11 (K.take jj ++ [(sa, sb, ())] ++ K.drop jj)) := OS.mono HO11.out (by omega)
                                  have hbw : Below wr2.heap.size wr2 w11 := HBZ.out.trans (hbx11.mono hzz)
                                  have tr := bx_below m1 qr hbw
                                  have tf : ∀ o, w11.frozen? ⟨rB, o, none⟩ = false := fun o => by rw [(bcell hbw).2 _ o qr]; exact n1 o
                                  have to_ := bx_below mo qo hbw
                                  have tof : ∀ o, w11.frozen? ⟨oB, o, none⟩ = false := fun o => by rw [(bcell hbw).2 _ o qo]; exact no o
                                  have HBX : Hid (Below w.heap.size w w11) := HB.out.trans (hbw.mono (by omega))
                                  have q4' : sB + 1 < w11.heap.size := Nat.lt_of_lt_of_le q4 hbw.size
                                  obtain ⟨tg, tc, e12, -⟩ := HO12.out.some_ (by simp; omega)
                                  subst e12
                                  go_wp2_with fail
                                  go_meet
                                  exact ⟨_, tg, _, tc, rfl, (show _ = _ from rfl), HO12, HMT, tr, tf, to_, tof, HBX, q4'⟩
                                case more30 =>
                                  exact Ups.nil
                              case more29 =>
                                exact Ups.nil
                            case more28 =>
                              exact Ups.nil
                          case more27 =>
                            exact Ups.nil
                        case more26 =>
                          exact Ups.nil
                    case more20 =>
                      refine Ups.cons (i := 6) (o := ?oo31) ?ho31 (fun KK hKK => ?stp31) ?more31
                      case ho31 => (simp only [List.getElem?_toArray, List.getElem?_cons_succ, List.getElem?_cons_zero]; rfl)
                      case stp31 =>
                        go_simp
                        refine hKK.out _ _ (Or.inr (by exact HSK.out _ (by first | exact Below.refl _ _ | exact Below.drew (Below.refl _ _) | go_grown | assumption))) ?_
                        clear hKK KK
                        (try simp only [Act.put, List.setIfInBounds_toArray, List.set_cons_zero, List.set_cons_succ])
                        refine Goes.all (rs := [0]) (by kernel_rfl) (by simp) ?_
                        refine Ups.cons (i := 0) (o := ?oo32) ?ho32 (fun KK hKK => ?stp32) ?more32
                        case ho32 => (simp only [List.getElem?_toArray, List.getElem?_cons_zero]; rfl)
                        case stp32 =>
                          go_simp
                          refine hKK.out _ _ (Or.inr (by exact HSK.out _ (by first | exact Below.refl _ _ | exact Below.drew (Below.refl _ _) | go_grown | assumption))) ?_
                          clear hKK KK
                          (try simp only [Act.put, List.setIfInBounds_toArray, List.set_cons_zero, List.set_cons_succ])
                          refine Goes.all (rs := [4]) (by kernel_rfl) (by simp) ?_
                          refine Ups.cons (i := 4) (o := ?oo33) ?ho33 (fun KK hKK => ?stp33) ?more33
                          case ho33 => (simp only [List.getElem?_toArray, List.getElem?_cons_succ, List.getElem?_cons_zero]; rfl)
                          case stp33 =>
                            refine app_stS _ (by rfl) _ _ (by rfl) (wz.heap.size + 1) (.slice (some ⟨(wz.heap.size + 1), 0, none⟩) 0 0) [] (by rfl) (OS.below (os_none (wz.alloc (.cells #[.int .i64 sa, .int .i64 sb] 172)) _ (by simp)) (Below.drew (Below.refl _ _))) (some ⟨kg, 0, none⟩) (K.take jj) jj kc HTK.out (by rfl) (HKT.out _ (by go_grown)) (by intro e; cases e) (by simp; omega) (by first | (simp; done) | (simp; omega)) ?_
                            intro v4 w4 ho4 hb4 hg4 hat4
                            rw [List.nil_append] at ho4
                            have HO4 : Hid (OS w4 wz.heap.size v4 (K.take jj)) := OS.mono ho4 (by omega)
                            have hbx4 : Below wz.heap.size wz w4 := Below.trans (by go_grown) (hb4.mono (by omega))
                            have HR4 : Hid (RS w4 (some ⟨wz.heap.size, 0, none⟩) [(sa, sb, ())]) := RS.keepB (HRSP.out wz.drew wz.heap.size rfl) ((hg4.block wz.heap.size (by simp; omega) (by simp [Value.ownBlock])).trans ((World.grownBy_alloc (wz.alloc (.cells #[.int .i64 sa, .int .i64 sb] 172)) _ none).block wz.heap.size (by simp) (by simp)))
                            have hz4 : wz.heap.size < w4.heap.size := by have := hg4.size; simp at this; omega
                            clear ho4 hb4 hg4 hat4
                            refine hKK.out _ _ (Or.inr (by exact HSK.out _ (by first | exact Below.refl _ _ | exact Below.drew (Below.refl _ _) | go_grown | assumption))) ?_
                            clear hKK KK
                            (try simp only [Act.put, List.setIfInBounds_toArray, List.set_cons_zero, List.set_cons_succ])
                            refine Goes.all (rs := [7]) (by kernel_rfl) (by simp) ?_
                            refine Ups.cons (i := 7) (o := ?oo34) ?ho34 (fun KK hKK => ?stp34) ?more34
                            case ho34 => (simp only [List.getElem?_toArray, List.getElem?_cons_succ, List.getElem?_cons_zero]; rfl)
                            case stp34 =>
                              refine app_stS _ (by rfl) _ _ (by rfl) wz.heap.size v4 (K.take jj) (by rfl) HO4.out (some ⟨wz.heap.size, 0, none⟩) [(sa, sb, ())] 1 1 rfl (by rfl) HR4.out (by intro e; cases e) (by rw [HTK.out]; omega) (by first | (simp; omega) | omega) ?_
                              intro v7 w7 ho7 hb7 hg7 hat7
                              have HO7 : Hid (OS w7 wz.heap.size v7 (K.take jj ++ [(sa, sb, ())])) := ho7
                              have hbx7 : Below wz.heap.size wz w7 := hbx4.trans (Below.trans (Below.mono (B := w4.heap.size) (by go_grown) (by omega)) hb7)
                              have hz7 : wz.heap.size < w7.heap.size := Nat.lt_of_lt_of_le hz4 (by have := hb7.size; first | omega | (simp at this; omega))
                              clear ho7 hb7 hg7 hat7 HO4 hbx4
                              refine hKK.out _ _ (Or.inr (by exact HSK.out _ (by first | exact Below.refl _ _ | exact Below.drew (Below.refl _ _) | go_grown | assumption))) ?_
                              clear hKK KK
                              (try simp only [Act.put, List.setIfInBounds_toArray, List.set_cons_zero, List.set_cons_succ])
                              refine Goes.all (rs := [11]) (by kernel_rfl) (by simp) ?_
                              refine Ups.cons (i := 11) (o := ?oo35) ?ho35 (fun KK hKK => ?stp35) ?more35
                              case ho35 => (simp only [List.getElem?_toArray, List.getElem?_cons_succ, List.getElem?_cons_zero]; rfl)
                              case stp35 =>
                                refine app_stS _ (by rfl) _ _ (by rfl) wz.heap.size v7 (K.take jj ++ [(sa, sb, ())]) (by rfl) HO7.out pa (K.drop jj) (m - jj) (kc - jj) HDK.out (by rfl) (HKD.out _ hbx7) HKN2.out (by rw [List.length_append, HTK.out]; simp; omega) (by omega) ?_
                                intro v11 w11 ho11 hb11 hg11 hat11
                                have HO11 : Hid (OS w11 wz.heap.size v11 (K.take jj ++ [(sa, sb, ())] ++ K.drop jj)) := ho11
                                have hbx11 : Below wz.heap.size wz w11 := hbx7.trans hb11
                                clear ho11 hb11 hg11 hat11 HO7 hbx7
                                refine hKK.out _ _ (Or.inr (by exact HSK.out _ (by first | exact Below.refl _ _ | exact Below.drew (Below.refl _ _) | go_grown | assumption))) ?_
                                clear hKK KK
                                (try simp only [Act.put, List.setIfInBounds_toArray, List.set_cons_zero, List.set_cons_succ])
                                refine Goes.all (rs := [12]) (by kernel_rfl) (by simp) ?_
                                refine Ups.cons (i := 12) (o := ?oo36) ?ho36 (fun KK hKK => ?stp36) ?more36
                                case ho36 => (simp only [List.getElem?_toArray, List.getElem?_cons_succ, List.getElem?_cons_zero]; rfl)
                                case stp36 =>
                                  go_simp
                                  refine hKK.out _ _ (Or.inl rfl) ?_
                                  clear hKK KK
                                  (try simp only [Act.put, List.setIfInBounds_toArray, List.set_cons_zero, List.set_cons_succ])
                                  refine Goes.done (by kernel_rfl) ?_ _
                                  refine NoPanic.normal ?_
                                  have HMT : Hid (MD = modN y1 (K.take jj ++ [(sa, sb, ())] ++ K.drop jj)) := by show _ = _; rw [HMT0.out, HSP.out]
                                  have HO12 : Hid (OS w11 (sB + 1) v11 (K.take jj ++ [(sa, sb, ())] ++ K.drop jj)) := OS.mono HO11.out (by omega)
                                  have hbw : Below wr2.heap.size wr2 w11 := HBZ.out.trans (hbx11.mono hzz)
                                  have tr := bx_below m1 qr hbw
                                  have tf : ∀ o, w11.frozen? ⟨rB, o, none⟩ = false := fun o => by rw [(bcell hbw).2 _ o qr]; exact n1 o
                                  have to_ := bx_below mo qo hbw
                                  have tof : ∀ o, w11.frozen? ⟨oB, o, none⟩ = false := fun o => by rw [(bcell hbw).2 _ o qo]; exact no o
                                  have HBX : Hid (Below w.heap.size w w11) := HB.out.trans (hbw.mono (by omega))
                                  have q4' : sB + 1 < w11.heap.size := Nat.lt_of_lt_of_le q4 hbw.size
                                  obtain ⟨tg, tc, e12, -⟩ := HO12.out.some_ (by simp; omega)
                                  subst e12
                                  go_wp2_with fail
                                  go_meet
                                  exact ⟨_, tg, _, tc, rfl, (show _ = _ from rfl), HO12, HMT, tr, tf, to_, tof, HBX, q4'⟩
                                case more36 =>
                                  exact Ups.nil
                              case more35 =>
                                exact Ups.nil
                            case more34 =>
                              exact Ups.nil
                          case more33 =>
                            exact Ups.nil
                        case more32 =>
                          exact Ups.nil
                      case more31 =>
                        exact Ups.nil
                · have HJM : Hid (jj = m) := by show _ = _; omega
                  have hjm : ¬ ((jj : Int) < (m : Int)) := by omega
                  have HSP : Hid (putS sa sb K = (K.take jj ++ [(sa, sb, ())]) ++ K.drop jj) := putS_split (by have := HL.out; omega) HLT.out (fun h => by have := HL.out; omega)
                  clear hwy
                  go_wp2_with fail
                  go_quiet (fail)
                  go_upto_region 20 with fail
                  obtain ⟨wz, hwz⟩ : ∃ W, W = wy.drewN nq := ⟨_, rfl⟩
                  rw [← hwz]
                  have HBZ : Hid (Below wr2.heap.size wr2 wz) := by show Below _ _ _; rw [hwz, HWY.out]; exact below_drewN (below_drewN (Below.refl _ _) _) _
                  clear hwz
                  have hkgs : sB + 1 ≤ kg ∧ kg < wr2.heap.size := HO.out.own.lt kg rfl
                  have hrk : m ≤ kc := by obtain ⟨_, _, e, _, _, h5, _⟩ := HO.out.rs; simp only [Value.slice.injEq] at e; have := HL.out; omega
                  have HRK : Hid (RS wz (some ⟨kg, 0, none⟩) K) := by obtain ⟨_, _, e, h, _⟩ := (HO.out.below HBZ.out).rs; simp only [Value.slice.injEq] at e; rw [← e.1] at h; exact h
                  have hzz : wr2.heap.size ≤ wz.heap.size := HBZ.out.size
                  have HSK : Hid (∀ W, Below wz.heap.size wz W → W.cell? ⟨sB, 0, none⟩ = some (.int .i64 sa) ∧ W.cell? ⟨sB, 1, none⟩ = some (.int .i64 sb)) := fun W hW => ⟨((HBZ.out.trans (hW.mono hzz)).cell (p := ⟨sB, 0, none⟩) qs).trans (ms 0), ((HBZ.out.trans (hW.mono hzz)).cell (p := ⟨sB, 1, none⟩) qs).trans (ms 1)⟩
                  have HTK : Hid ((K.take jj).length = jj) := by show _ = _; have := HL.out; simp; omega
                  have HDK : Hid ((K.drop jj).length = m - jj) := by show _ = _; have := HL.out; simp; omega
                  have HKT : Hid (∀ W, Below wz.heap.size wz W → RS W (some ⟨kg, 0, none⟩) (K.take jj)) := fun W hW => (HRK.out.take jj).below hW
                  have hjk : (jj : Int) ≤ (kc : Int) := by omega
                  have hjm0 : (jj : Int) ≤ (m : Int) := by omega
                  have hj0 : (0 : Int) ≤ (jj : Int) := by omega
                  have hmk0 : (m : Int) ≤ (kc : Int) := by omega
                  obtain ⟨pa, hpa1⟩ : ∃ pa, (if kc = jj then some (⟨kg, 0, none⟩ : Addr) else some ⟨kg, jj * 2, none⟩) = pa := ⟨_, rfl⟩
                  have hpa2 : (if jj = kc then some (⟨kg, 0, none⟩ : Addr) else some ⟨kg, jj * 2, none⟩) = pa := by rw [← hpa1]; by_cases h : kc = jj <;> simp [h, eq_comm]
                  have HKD : Hid (∀ W, Below wz.heap.size wz W → RS W pa (K.drop jj)) := fun W hW => by
                    rw [← hpa1]
                    by_cases h : kc = jj
                    · have : K.drop jj = [] := List.drop_of_length_le (by have := HL.out; omega)
                      rw [this]; exact RS.nil _ _
                    · rw [if_neg h]
                      have := (HRK.out.drop jj).below hW
                      rwa [Nat.zero_add] at this
                  have HKN2 : Hid (pa = none → kc - jj = 0) := fun h => by rw [← hpa1] at h; split at h <;> cases h
                  refine wp_region_noPanic ?_
                  refine Goes.start (S := fun w' => w'.cell? ⟨sB, 0, none⟩ = some (.int .i64 sa) ∧ w'.cell? ⟨sB, 1, none⟩ = some (.int .i64 sb)) (z := 12) (by kernel_rfl) ?_
                  refine Goes.take (i := 1) (oi := ?oi37) (x := ?vx37) ?ho37 (by kernel_rfl) (by kernel_rfl) (by kernel_rfl) (by kernel_rfl) (fun _ _ _ h => h) (Or.inl ⟨?hw37, ?hy37⟩) (by exact HSK.out _ (by first | exact Below.refl _ _ | exact Below.drew (Below.refl _ _) | go_grown | assumption)) ?rest37
                  case ho37 => (simp only [List.getElem?_toArray, List.getElem?_cons_succ, List.getElem?_cons_zero]; rfl)
                  case hw37 => rfl
                  case hy37 => (intro w' hSw; obtain ⟨s0, s1⟩ := hSw; go_simp; (try with_reducible rfl))
                  case rest37 =>
                  (try simp only [Act.put, List.setIfInBounds_toArray, List.set_cons_zero, List.set_cons_succ])
                  refine Goes.take (i := 2) (oi := ?oi38) (x := ?vx38) ?ho38 (by kernel_rfl) (by kernel_rfl) (by kernel_rfl) (by kernel_rfl) (fun _ _ _ h => h) (Or.inl ⟨?hw38, ?hy38⟩) (by exact HSK.out _ (by first | exact Below.refl _ _ | exact Below.drew (Below.refl _ _) | go_grown | assumption)) ?rest38
                  case ho38 => (simp only [List.getElem?_toArray, List.getElem?_cons_succ, List.getElem?_cons_zero]; rfl)
                  case hw38 => rfl
                  case hy38 => (intro w' hSw; obtain ⟨s0, s1⟩ := hSw; go_simp; (try with_reducible rfl))
                  case rest38 =>
                  (try simp only [Act.put, List.setIfInBounds_toArray, List.set_cons_zero, List.set_cons_succ])
                  refine Goes.take (i := 3) (oi := ?oi39) (x := ?vx39) ?ho39 (by kernel_rfl) (by kernel_rfl) (by kernel_rfl) (by kernel_rfl) (fun _ _ _ h => h) (Or.inl ⟨?hw39, ?hy39⟩) (by exact HSK.out _ (by first | exact Below.refl _ _ | exact Below.drew (Below.refl _ _) | go_grown | assumption)) ?rest39
                  case ho39 => (simp only [List.getElem?_toArray, List.getElem?_cons_succ, List.getElem?_cons_zero]; rfl)
                  case hw39 => rfl
                  case hy39 => (intro w' hSw; obtain ⟨s0, s1⟩ := hSw; go_simp; (try with_reducible rfl))
                  case rest39 =>
                  (try simp only [Act.put, List.setIfInBounds_toArray, List.set_cons_zero, List.set_cons_succ])
                  refine Goes.take (i := 5) (oi := ?oi40) (x := ?vx40) ?ho40 (by kernel_rfl) (by kernel_rfl) (by kernel_rfl) (by kernel_rfl) (fun _ _ _ h => h) (Or.inl ⟨?hw40, ?hy40⟩) (by exact HSK.out _ (by first | exact Below.refl _ _ | exact Below.drew (Below.refl _ _) | go_grown | assumption)) ?rest40
                  case ho40 => (simp only [List.getElem?_toArray, List.getElem?_cons_succ, List.getElem?_cons_zero]; rfl)
                  case hw40 => rfl
                  case hy40 => (intro w' hSw; obtain ⟨s0, s1⟩ := hSw; go_simp; (try with_reducible rfl))
                  case rest40 =>
                  (try simp only [Act.put, List.setIfInBounds_toArray, List.set_cons_zero, List.set_cons_succ])
                  refine Goes.take (i := 8) (oi := ?oi41) (x := ?vx41) ?ho41 (by kernel_rfl) (by kernel_rfl) (by kernel_rfl) (by kernel_rfl) (fun _ _ _ h => h) (Or.inl ⟨?hw41, ?hy41⟩) (by exact HSK.out _ (by first | exact Below.refl _ _ | exact Below.drew (Below.refl _ _) | go_grown | assumption)) ?rest41
                  case ho41 => (simp only [List.getElem?_toArray, List.getElem?_cons_succ, List.getElem?_cons_zero]; rfl)
                  case hw41 => rfl
                  case hy41 => (intro w' hSw; obtain ⟨s0, s1⟩ := hSw; go_simp; (try with_reducible rfl))
                  case rest41 =>
                  (try simp only [Act.put, List.setIfInBounds_toArray, List.set_cons_zero, List.set_cons_succ])
                  refine Goes.take (i := 9) (oi := ?oi42) (x := ?vx42) ?ho42 (by kernel_rfl) (by kernel_rfl) (by kernel_rfl) (by kernel_rfl) (fun _ _ _ h => h) (Or.inl ⟨?hw42, ?hy42⟩) (by exact HSK.out _ (by first | exact Below.refl _ _ | exact Below.drew (Below.refl _ _) | go_grown | assumption)) ?rest42
                  case ho42 => (simp only [List.getElem?_toArray, List.getElem?_cons_succ, List.getElem?_cons_zero]; rfl)
                  case hw42 => rfl
                  case hy42 => (intro w' hSw; obtain ⟨s0, s1⟩ := hSw; go_simp; (try with_reducible rfl))
                  case rest42 =>
                  (try simp only [Act.put, List.setIfInBounds_toArray, List.set_cons_zero, List.set_cons_succ])
                  refine Goes.take (i := 10) (oi := ?oi43) (x := ?vx43) ?ho43 (by kernel_rfl) (by kernel_rfl) (by kernel_rfl) (by kernel_rfl) (fun _ _ _ h => h) (Or.inl ⟨?hw43, ?hy43⟩) (by exact HSK.out _ (by first | exact Below.refl _ _ | exact Below.drew (Below.refl _ _) | go_grown | assumption)) ?rest43
                  case ho43 => (simp only [List.getElem?_toArray, List.getElem?_cons_succ, List.getElem?_cons_zero]; rfl)
                  case hw43 => rfl
                  case hy43 => (intro w' hSw; obtain ⟨s0, s1⟩ := hSw; go_simp; (try with_reducible rfl))
                  case rest43 =>
                  (try simp only [Act.put, List.setIfInBounds_toArray, List.set_cons_zero, List.set_cons_succ])
                  refine Goes.all (rs := [0, 6]) (by kernel_rfl) (by simp) ?_
                  refine Ups.cons (i := 0) (o := ?oo44) ?ho44 (fun KK hKK => ?stp44) ?more44
                  case ho44 => (simp only [List.getElem?_toArray, List.getElem?_cons_zero]; rfl)
                  case stp44 =>
                    go_simp
                    refine hKK.out _ _ (Or.inr (by exact HSK.out _ (by first | exact Below.refl _ _ | exact Below.drew (Below.refl _ _) | go_grown | assumption))) ?_
                    clear hKK KK
                    (try simp only [Act.put, List.setIfInBounds_toArray, List.set_cons_zero, List.set_cons_succ])
                    refine Goes.all (rs := [4, 6]) (by kernel_rfl) (by simp) ?_
                    refine Ups.cons (i := 4) (o := ?oo45) ?ho45 (fun KK hKK => ?stp45) ?more45
                    case ho45 => (simp only [List.getElem?_toArray, List.getElem?_cons_succ, List.getElem?_cons_zero]; rfl)
                    case stp45 =>
                      refine app_stS _ (by rfl) _ _ (by rfl) wz.heap.size (.slice (some ⟨wz.heap.size, 0, none⟩) 0 0) [] (by rfl) (os_none wz.drew _ rfl) (some ⟨kg, 0, none⟩) (K.take jj) jj kc HTK.out (by rfl) (HKT.out _ (by go_grown)) (by intro e; cases e) (by simp; omega) (by first | (simp; done) | (simp; omega)) ?_
                      intro v4 w4 ho4 hb4 hg4 hat4
                      rw [List.nil_append] at ho4
                      have HO4 : Hid (OS w4 wz.heap.size v4 (K.take jj)) := OS.mono ho4 (by omega)
                      have hbx4 : Below wz.heap.size wz w4 := Below.trans (by go_grown) (hb4.mono (by omega))
                      have hz4 : wz.heap.size < w4.heap.size := by have := hg4.size; simp at this; omega
                      clear ho4 hb4 hg4 hat4
                      refine hKK.out _ _ (Or.inr (by exact HSK.out _ (by first | exact Below.refl _ _ | exact Below.drew (Below.refl _ _) | go_grown | assumption))) ?_
                      clear hKK KK
                      (try simp only [Act.put, List.setIfInBounds_toArray, List.set_cons_zero, List.set_cons_succ])
                      refine Goes.all (rs := [6]) (by kernel_rfl) (by simp) ?_
                      refine Ups.cons (i := 6) (o := ?oo46) ?ho46 (fun KK hKK => ?stp46) ?more46
                      case ho46 => (simp only [List.getElem?_toArray, List.getElem?_cons_succ, List.getElem?_cons_zero]; rfl)
                      case stp46 =>
                        go_simp
                        refine hKK.out _ _ (Or.inr (by exact HSK.out _ (by first | exact Below.refl _ _ | exact Below.drew (Below.refl _ _) | go_grown | assumption))) ?_
                        clear hKK KK
                        (try simp only [Act.put, List.setIfInBounds_toArray, List.set_cons_zero, List.set_cons_succ])
                        refine Goes.all (rs := [7]) (by kernel_rfl) (by simp) ?_
                        refine Ups.cons (i := 7) (o := ?oo47) ?ho47 (fun KK hKK => ?stp47) ?more47
                        case ho47 => (simp only [List.getElem?_toArray, List.getElem?_cons_succ, List.getElem?_cons_zero]; rfl)
                        case stp47 =>
                          refine app_stS _ (by rfl) _ _ (by rfl) wz.heap.size v4 (K.take jj) (by rfl) (HO4.out.below (by go_grown)) (some ⟨w4.heap.size, 0, none⟩) [(sa, sb, ())] 1 1 rfl (by rfl) (HRSP.out w4 _ rfl) (by intro e; cases e) (by rw [HTK.out]; omega) (by first | (simp; omega) | omega) ?_
                          intro v7 w7 ho7 hb7 hg7 hat7
                          have HO7 : Hid (OS w7 wz.heap.size v7 (K.take jj ++ [(sa, sb, ())])) := ho7
                          have hbx7 : Below wz.heap.size wz w7 := hbx4.trans (Below.trans (Below.mono (B := w4.heap.size) (by go_grown) (by omega)) hb7)
                          have hz7 : wz.heap.size < w7.heap.size := Nat.lt_of_lt_of_le hz4 (by have := hb7.size; first | omega | (simp at this; omega))
                          clear ho7 hb7 hg7 hat7 HO4 hbx4
                          refine hKK.out _ _ (Or.inr (by exact HSK.out _ (by first | exact Below.refl _ _ | exact Below.drew (Below.refl _ _) | go_grown | assumption))) ?_
                          clear hKK KK
                          (try simp only [Act.put, List.setIfInBounds_toArray, List.set_cons_zero, List.set_cons_succ])
                          refine Goes.all (rs := [11]) (by kernel_rfl) (by simp) ?_
                          refine Ups.cons (i := 11) (o := ?oo48) ?ho48 (fun KK hKK => ?stp48) ?more48
                          case ho48 => (simp only [List.getElem?_toArray, List.getElem?_cons_succ, List.getElem?_cons_zero]; rfl)
                          case stp48 =>
                            refine app_stS _ (by rfl) _ _ (by rfl) wz.heap.size v7 (K.take jj ++ [(sa, sb, ())]) (by rfl) HO7.out pa (K.drop jj) (m - jj) (kc - jj) HDK.out (by rfl) (HKD.out _ hbx7) HKN2.out (by rw [List.length_append, HTK.out]; simp; omega) (by omega) ?_
                            intro v11 w11 ho11 hb11 hg11 hat11
                            have HO11 : Hid (OS w11 wz.heap.size v11 (K.take jj ++ [(sa, sb, ())] ++ K.drop jj)) := ho11
                            have hbx11 : Below wz.heap.size wz w11 := hbx7.trans hb11
                            clear ho11 hb11 hg11 hat11 HO7 hbx7
                            refine hKK.out _ _ (Or.inr (by exact HSK.out _ (by first | exact Below.refl _ _ | exact Below.drew (Below.refl _ _) | go_grown | assumption))) ?_
                            clear hKK KK
                            (try simp only [Act.put, List.setIfInBounds_toArray, List.set_cons_zero, List.set_cons_succ])
                            refine Goes.all (rs := [12]) (by kernel_rfl) (by simp) ?_
                            refine Ups.cons (i := 12) (o := ?oo49) ?ho49 (fun KK hKK => ?stp49) ?more49
                            case ho49 => (simp only [List.getElem?_toArray, List.getElem?_cons_succ, List.getElem?_cons_zero]; rfl)
                            case stp49 =>
                              go_simp
                              refine hKK.out _ _ (Or.inl rfl) ?_
                              clear hKK KK
                              (try simp only [Act.put, List.setIfInBounds_toArray, List.set_cons_zero, List.set_cons_succ])
                              refine Goes.done (by kernel_rfl) ?_ _
                              refine NoPanic.normal ?_
                              have HMT : Hid (MD = modN y1 (K.take jj ++ [(sa, sb, ())] ++ K.drop jj)) := by show _ = _; rw [HMT0.out, HSP.out]
                              have HO12 : Hid (OS w11 (sB + 1) v11 (K.take jj ++ [(sa, sb, ())] ++ K.drop jj)) := OS.mono HO11.out (by omega)
                              have hbw : Below wr2.heap.size wr2 w11 := HBZ.out.trans (hbx11.mono hzz)
                              have tr := bx_below m1 qr hbw
                              have tf : ∀ o, w11.frozen? ⟨rB, o, none⟩ = false := fun o => by rw [(bcell hbw).2 _ o qr]; exact n1 o
                              have to_ := bx_below mo qo hbw
                              have tof : ∀ o, w11.frozen? ⟨oB, o, none⟩ = false := fun o => by rw [(bcell hbw).2 _ o qo]; exact no o
                              have HBX : Hid (Below w.heap.size w w11) := HB.out.trans (hbw.mono (by omega))
                              have q4' : sB + 1 < w11.heap.size := Nat.lt_of_lt_of_le q4 hbw.size
                              obtain ⟨tg, tc, e12, -⟩ := HO12.out.some_ (by simp; omega)
                              subst e12
                              go_wp2_with fail
                              go_meet
                              exact ⟨_, tg, _, tc, rfl, (show _ = _ from rfl), HO12, HMT, tr, tf, to_, tof, HBX, q4'⟩
                            case more49 =>
                              exact Ups.nil
                          case more48 =>
                            exact Ups.nil
                        case more47 =>
                          exact Ups.nil
                      case more46 =>
                        exact Ups.nil
                    case more45 =>
                      refine Ups.cons (i := 6) (o := ?oo50) ?ho50 (fun KK hKK => ?stp50) ?more50
                      case ho50 => (simp only [List.getElem?_toArray, List.getElem?_cons_succ, List.getElem?_cons_zero]; rfl)
                      case stp50 =>
                        go_simp
                        refine hKK.out _ _ (Or.inr (by exact HSK.out _ (by first | exact Below.refl _ _ | exact Below.drew (Below.refl _ _) | go_grown | assumption))) ?_
                        clear hKK KK
                        (try simp only [Act.put, List.setIfInBounds_toArray, List.set_cons_zero, List.set_cons_succ])
                        refine Goes.all (rs := [4]) (by kernel_rfl) (by simp) ?_
                        refine Ups.cons (i := 4) (o := ?oo51) ?ho51 (fun KK hKK => ?stp51) ?more51
                        case ho51 => (simp only [List.getElem?_toArray, List.getElem?_cons_succ, List.getElem?_cons_zero]; rfl)
                        case stp51 =>
                          refine app_stS _ (by rfl) _ _ (by rfl) wz.heap.size (.slice (some ⟨wz.heap.size, 0, none⟩) 0 0) [] (by rfl) (OS.below (os_none wz.drew _ rfl) ((Below.refl _ _).alloc (Nat.le_refl _) _)) (some ⟨kg, 0, none⟩) (K.take jj) jj kc HTK.out (by rfl) (HKT.out _ (by go_grown)) (by intro e; cases e) (by simp; omega) (by first | (simp; done) | (simp; omega)) ?_
                          intro v4 w4 ho4 hb4 hg4 hat4
                          rw [List.nil_append] at ho4
                          have HO4 : Hid (OS w4 wz.heap.size v4 (K.take jj)) := OS.mono ho4 (by omega)
                          have hbx4 : Below wz.heap.size wz w4 := Below.trans (by go_grown) (hb4.mono (by omega))
                          have HR4 : Hid (RS w4 (some ⟨wz.heap.size + 1, 0, none⟩) [(sa, sb, ())]) := RS.keepB (HRSP.out (wz.drew.alloc (.cells #[] 172)) (wz.heap.size + 1) (by simp)) (hg4.block (wz.heap.size + 1) (by simp) (by simp [Value.ownBlock]))
                          have hz4 : wz.heap.size < w4.heap.size := by have := hg4.size; simp at this; omega
                          clear ho4 hb4 hg4 hat4
                          refine hKK.out _ _ (Or.inr (by exact HSK.out _ (by first | exact Below.refl _ _ | exact Below.drew (Below.refl _ _) | go_grown | assumption))) ?_
                          clear hKK KK
                          (try simp only [Act.put, List.setIfInBounds_toArray, List.set_cons_zero, List.set_cons_succ])
                          refine Goes.all (rs := [7]) (by kernel_rfl) (by simp) ?_
                          refine Ups.cons (i := 7) (o := ?oo52) ?ho52 (fun KK hKK => ?stp52) ?more52
                          case ho52 => (simp only [List.getElem?_toArray, List.getElem?_cons_succ, List.getElem?_cons_zero]; rfl)
                          case stp52 =>
                            refine app_stS _ (by rfl) _ _ (by rfl) wz.heap.size v4 (K.take jj) (by rfl) HO4.out (some ⟨wz.heap.size + 1, 0, none⟩) [(sa, sb, ())] 1 1 rfl (by rfl) HR4.out (by intro e; cases e) (by rw [HTK.out]; omega) (by first | (simp; omega) | omega) ?_
                            intro v7 w7 ho7 hb7 hg7 hat7
                            have HO7 : Hid (OS w7 wz.heap.size v7 (K.take jj ++ [(sa, sb, ())])) := ho7
                            have hbx7 : Below wz.heap.size wz w7 := hbx4.trans (Below.trans (Below.mono (B := w4.heap.size) (by go_grown) (by omega)) hb7)
                            have hz7 : wz.heap.size < w7.heap.size := Nat.lt_of_lt_of_le hz4 (by have := hb7.size; first | omega | (simp at this; omega))
                            clear ho7 hb7 hg7 hat7 HO4 hbx4
                            refine hKK.out _ _ (Or.inr (by exact HSK.out _ (by first | exact Below.refl _ _ | exact Below.drew (Below.refl _ _) | go_grown | assumption))) ?_
                            clear hKK KK
                            (try simp only [Act.put, List.setIfInBounds_toArray, List.set_cons_zero, List.set_cons_succ])
                            refine Goes.all (rs := [11]) (by kernel_rfl) (by simp) ?_
                            refine Ups.cons (i := 11) (o := ?oo53) ?ho53 (fun KK hKK => ?stp53) ?more53
                            case ho53 => (simp only [List.getElem?_toArray, List.getElem?_cons_succ, List.getElem?_cons_zero]; rfl)
                            case stp53 =>
                              refine app_stS _ (by rfl) _ _ (by rfl) wz.heap.size v7 (K.take jj ++ [(sa, sb, ())]) (by rfl) HO7.out pa (K.drop jj) (m - jj) (kc - jj) HDK.out (by rfl) (HKD.out _ hbx7) HKN2.out (by rw [List.length_append, HTK.out]; simp; omega) (by omega) ?_
                              intro v11 w11 ho11 hb11 hg11 hat11
                              have HO11 : Hid (OS w11 wz.heap.size v11 (K.take jj ++ [(sa, sb, ())] ++ K.drop jj)) := ho11
                              have hbx11 : Below wz.heap.size wz w11 := hbx7.trans hb11
                              clear ho11 hb11 hg11 hat11 HO7 hbx7
                              refine hKK.out _ _ (Or.inr (by exact HSK.out _ (by first | exact Below.refl _ _ | exact Below.drew (Below.refl _ _) | go_grown | assumption))) ?_
                              clear hKK KK
                              (try simp only [Act.put, List.setIfInBounds_toArray, List.set_cons_zero, List.set_cons_succ])
                              refine Goes.all (rs := [12]) (by kernel_rfl) (by simp) ?_
                              refine Ups.cons (i := 12) (o := ?oo54) ?ho54 (fun KK hKK => ?stp54) ?more54
                              case ho54 => (simp only [List.getElem?_toArray, List.getElem?_cons_succ, List.getElem?_cons_zero]; rfl)
                              case stp54 =>
                                go_simp
                                refine hKK.out _ _ (Or.inl rfl) ?_
                                clear hKK KK
                                (try simp only [Act.put, List.setIfInBounds_toArray, List.set_cons_zero, List.set_cons_succ])
                                refine Goes.done (by kernel_rfl) ?_ _
                                refine NoPanic.normal ?_
                                have HMT : Hid (MD = modN y1 (K.take jj ++ [(sa, sb, ())] ++ K.drop jj)) := by show _ = _; rw [HMT0.out, HSP.out]
                                have HO12 : Hid (OS w11 (sB + 1) v11 (K.take jj ++ [(sa, sb, ())] ++ K.drop jj)) := OS.mono HO11.out (by omega)
                                have hbw : Below wr2.heap.size wr2 w11 := HBZ.out.trans (hbx11.mono hzz)
                                have tr := bx_below m1 qr hbw
                                have tf : ∀ o, w11.frozen? ⟨rB, o, none⟩ = false := fun o => by rw [(bcell hbw).2 _ o qr]; exact n1 o
                                have to_ := bx_below mo qo hbw
                                have tof : ∀ o, w11.frozen? ⟨oB, o, none⟩ = false := fun o => by rw [(bcell hbw).2 _ o qo]; exact no o
                                have HBX : Hid (Below w.heap.size w w11) := HB.out.trans (hbw.mono (by omega))
                                have q4' : sB + 1 < w11.heap.size := Nat.lt_of_lt_of_le q4 hbw.size
                                obtain ⟨tg, tc, e12, -⟩ := HO12.out.some_ (by simp; omega)
                                subst e12
                                go_wp2_with fail
                                go_meet
                                exact ⟨_, tg, _, tc, rfl, (show _ = _ from rfl), HO12, HMT, tr, tf, to_, tof, HBX, q4'⟩
                              case more54 =>
                                exact Ups.nil
                            case more53 =>
                              exact Ups.nil
                          case more52 =>
                            exact Ups.nil
                        case more51 =>
                          exact Ups.nil
                      case more50 =>
                        exact Ups.nil
                  case more44 =>
                    refine Ups.cons (i := 6) (o := ?oo55) ?ho55 (fun KK hKK => ?stp55) ?more55
                    case ho55 => (simp only [List.getElem?_toArray, List.getElem?_cons_succ, List.getElem?_cons_zero]; rfl)
                    case stp55 =>
                      go_simp
                      refine hKK.out _ _ (Or.inr (by exact HSK.out _ (by first | exact Below.refl _ _ | exact Below.drew (Below.refl _ _) | go_grown | assumption))) ?_
                      clear hKK KK
                      (try simp only [Act.put, List.setIfInBounds_toArray, List.set_cons_zero, List.set_cons_succ])
                      refine Goes.all (rs := [0]) (by kernel_rfl) (by simp) ?_
                      refine Ups.cons (i := 0) (o := ?oo56) ?ho56 (fun KK hKK => ?stp56) ?more56
                      case ho56 => (simp only [List.getElem?_toArray, List.getElem?_cons_zero]; rfl)
                      case stp56 =>
                        go_simp
                        refine hKK.out _ _ (Or.inr (by exact HSK.out _ (by first | exact Below.refl _ _ | exact Below.drew (Below.refl _ _) | go_grown | assumption))) ?_
                        clear hKK KK
                        (try simp only [Act.put, List.setIfInBounds_toArray, List.set_cons_zero, List.set_cons_succ])
                        refine Goes.all (rs := [4]) (by kernel_rfl) (by simp) ?_
                        refine Ups.cons (i := 4) (o := ?oo57) ?ho57 (fun KK hKK => ?stp57) ?more57
                        case ho57 => (simp only [List.getElem?_toArray, List.getElem?_cons_succ, List.getElem?_cons_zero]; rfl)
                        case stp57 =>
                          refine app_stS _ (by rfl) _ _ (by rfl) (wz.heap.size + 1) (.slice (some ⟨(wz.heap.size + 1), 0, none⟩) 0 0) [] (by rfl) (OS.below (os_none (wz.alloc (.cells #[.int .i64 sa, .int .i64 sb] 172)) _ (by simp)) (Below.drew (Below.refl _ _))) (some ⟨kg, 0, none⟩) (K.take jj) jj kc HTK.out (by rfl) (HKT.out _ (by go_grown)) (by intro e; cases e) (by simp; omega) (by first | (simp; done) | (simp; omega)) ?_
                          intro v4 w4 ho4 hb4 hg4 hat4
                          rw [List.nil_append] at ho4
                          have HO4 : Hid (OS w4 wz.heap.size v4 (K.take jj)) := OS.mono ho4 (by omega)
                          have hbx4 : Below wz.heap.size wz w4 := Below.trans (by go_grown) (hb4.mono (by omega))
                          have HR4 : Hid (RS w4 (some ⟨wz.heap.size, 0, none⟩) [(sa, sb, ())]) := RS.keepB (HRSP.out wz.drew wz.heap.size rfl) ((hg4.block wz.heap.size (by simp; omega) (by simp [Value.ownBlock])).trans ((World.grownBy_alloc (wz.alloc (.cells #[.int .i64 sa, .int .i64 sb] 172)) _ none).block wz.heap.size (by simp) (by simp)))
                          have hz4 : wz.heap.size < w4.heap.size := by have := hg4.size; simp at this; omega
                          clear ho4 hb4 hg4 hat4
                          refine hKK.out _ _ (Or.inr (by exact HSK.out _ (by first | exact Below.refl _ _ | exact Below.drew (Below.refl _ _) | go_grown | assumption))) ?_
                          clear hKK KK
                          (try simp only [Act.put, List.setIfInBounds_toArray, List.set_cons_zero, List.set_cons_succ])
                          refine Goes.all (rs := [7]) (by kernel_rfl) (by simp) ?_
                          refine Ups.cons (i := 7) (o := ?oo58) ?ho58 (fun KK hKK => ?stp58) ?more58
                          case ho58 => (simp only [List.getElem?_toArray, List.getElem?_cons_succ, List.getElem?_cons_zero]; rfl)
                          case stp58 =>
                            refine app_stS _ (by rfl) _ _ (by rfl) wz.heap.size v4 (K.take jj) (by rfl) HO4.out (some ⟨wz.heap.size, 0, none⟩) [(sa, sb, ())] 1 1 rfl (by rfl) HR4.out (by intro e; cases e) (by rw [HTK.out]; omega) (by first | (simp; omega) | omega) ?_
                            intro v7 w7 ho7 hb7 hg7 hat7
                            have HO7 : Hid (OS w7 wz.heap.size v7 (K.take jj ++ [(sa, sb, ())])) := ho7
                            have hbx7 : Below wz.heap.size wz w7 := hbx4.trans (Below.trans (Below.mono (B := w4.heap.size) (by go_grown) (by omega)) hb7)
                            have hz7 : wz.heap.size < w7.heap.size := Nat.lt_of_lt_of_le hz4 (by have := hb7.size; first | omega | (simp at this; omega))
                            clear ho7 hb7 hg7 hat7 HO4 hbx4
                            refine hKK.out _ _ (Or.inr (by exact HSK.out _ (by first | exact Below.refl _ _ | exact Below.drew (Below.refl _ _) | go_grown | assumption))) ?_
                            clear hKK KK
                            (try simp only [Act.put, List.setIfInBounds_toArray, List.set_cons_zero, List.set_cons_succ])
                            refine Goes.all (rs := [11]) (by kernel_rfl) (by simp) ?_
                            refine Ups.cons (i := 11) (o := ?oo59) ?ho59 (fun KK hKK => ?stp59) ?more59
                            case ho59 => (simp only [List.getElem?_toArray, List.getElem?_cons_succ, List.getElem?_cons_zero]; rfl)
                            case stp59 =>
                              refine app_stS _ (by rfl) _ _ (by rfl) wz.heap.size v7 (K.take jj ++ [(sa, sb, ())]) (by rfl) HO7.out pa (K.drop jj) (m - jj) (kc - jj) HDK.out (by rfl) (HKD.out _ hbx7) HKN2.out (by rw [List.length_append, HTK.out]; simp; omega) (by omega) ?_
                              intro v11 w11 ho11 hb11 hg11 hat11
                              have HO11 : Hid (OS w11 wz.heap.size v11 (K.take jj ++ [(sa, sb, ())] ++ K.drop jj)) := ho11
                              have hbx11 : Below wz.heap.size wz w11 := hbx7.trans hb11
                              clear ho11 hb11 hg11 hat11 HO7 hbx7
                              refine hKK.out _ _ (Or.inr (by exact HSK.out _ (by first | exact Below.refl _ _ | exact Below.drew (Below.refl _ _) | go_grown | assumption))) ?_
                              clear hKK KK
                              (try simp only [Act.put, List.setIfInBounds_toArray, List.set_cons_zero, List.set_cons_succ])
                              refine Goes.all (rs := [12]) (by kernel_rfl) (by simp) ?_
                              refine Ups.cons (i := 12) (o := ?oo60) ?ho60 (fun KK hKK => ?stp60) ?more60
                              case ho60 => (simp only [List.getElem?_toArray, List.getElem?_cons_succ, List.getElem?_cons_zero]; rfl)
                              case stp60 =>
                                go_simp
                                refine hKK.out _ _ (Or.inl rfl) ?_
                                clear hKK KK
                                (try simp only [Act.put, List.setIfInBounds_toArray, List.set_cons_zero, List.set_cons_succ])
                                refine Goes.done (by kernel_rfl) ?_ _
                                refine NoPanic.normal ?_
                                have HMT : Hid (MD = modN y1 (K.take jj ++ [(sa, sb, ())] ++ K.drop jj)) := by show _ = _; rw [HMT0.out, HSP.out]
                                have HO12 : Hid (OS w11 (sB + 1) v11 (K.take jj ++ [(sa, sb, ())] ++ K.drop jj)) := OS.mono HO11.out (by omega)
                                have hbw : Below wr2.heap.size wr2 w11 := HBZ.out.trans (hbx11.mono hzz)
                                have tr := bx_below m1 qr hbw
                                have tf : ∀ o, w11.frozen? ⟨rB, o, none⟩ = false := fun o => by rw [(bcell hbw).2 _ o qr]; exact n1 o
                                have to_ := bx_below mo qo hbw
                                have tof : ∀ o, w11.frozen? ⟨oB, o, none⟩ = false := fun o => by rw [(bcell hbw).2 _ o qo]; exact no o
                                have HBX : Hid (Below w.heap.size w w11) := HB.out.trans (hbw.mono (by omega))
                                have q4' : sB + 1 < w11.heap.size := Nat.lt_of_lt_of_le q4 hbw.size
                                obtain ⟨tg, tc, e12, -⟩ := HO12.out.some_ (by simp; omega)
                                subst e12
                                go_wp2_with fail
                                go_meet
                                exact ⟨_, tg, _, tc, rfl, (show _ = _ from rfl), HO12, HMT, tr, tf, to_, tof, HBX, q4'⟩
                              case more60 =>
                                exact Ups.nil
                            case more59 =>
                              exact Ups.nil
                          case more58 =>
                            exact Ups.nil
                        case more57 =>
                          exact Ups.nil
                      case more56 =>
                        exact Ups.nil
                    case more55 =>
                      exact Ups.nil
            · have hPP : PP = false := by rw [HPP.out]; simp only [decide_eq_false_iff_not]; exact hput
              subst hPP
              have HMT : Hid (MD = modN y1 K) := HMN.out hput
              clear HPP HMP HMN hput m0
              go_wp2_with fail
              go_meet
              exact ⟨K, kg, m, kc, rfl, HL, HO, HMT, m1, n1, mo, no, HB, q4⟩
          case rest =>
            rename World => wx
            obtain ⟨T, tg, tm, tc, rfl, HTL, HTO, HMT, tr, tf, to_, tof, HBX, q4'⟩ := hcut
            clear m0 m1 n1 mo no ms ns HB HO HL qs qo qr qc q4 HPP HMP HMN
            have q4 := q4'
            clear q4'
            have qo : oB < wx.heap.size := by omega
            have qr : rB < wx.heap.size := by omega
            clear HWS HRS HWF HBD HZN HFZ hw64 hzn hj hlt2 hk hmk hlt p0 p1 p2 p3 p4
            rcases T with _ | ⟨⟨f0, f1, ⟨⟩⟩, r⟩
            · have hmd : MD = (y1, []) := HMT.out
              have em : tm = 0 := by have := HTL.out; simpa using this.symm
              subst em
              have HOU : Hid (Own wx (sB + 1) wx.heap.size shSpansO [] [.slice (some ⟨tg, 0, none⟩) 0 tc]) := HTO.out.ownAll (Nat.le_refl _)
              have HSU : Hid (Spare wx (sB + 1) (.slice (some ⟨tg, 0, none⟩) 0 tc)) := HTO.out.spare
              obtain ⟨tu, htu⟩ : ∃ u, u = Value.slice (some ⟨tg, 0, none⟩) 0 tc := ⟨_, rfl⟩
              rw [← htu] at HOU HSU
              have HTU : Hid _ := htu
              clear HMT HTL
              go_wp2_with fail
              go_quiet (fail)
              go_wp2_with fail
              rw [← HTU.out]
              refine bodyPost_ret (v := .tuple #[.agg #[.int .i64 y0, .int .i64 MD.1, tu], .bool FZ]) (by simp [results, Try.results151, go_sem, tr, hmd]) rfl ?_
              refine ⟨tu, rfl, ?_, ?_, ?_⟩
              · rw [hmd]
                refine Own.mono (lo := sB + 1) (hi := wx.heap.size) (Own.keep HOU.out fun b hb1 hb2 => ?_) (by omega) (by simp)
                have hb3 : b ≠ oB := by omega
                have hb4 : b ≠ rB := by omega
                repeat rw [Below.heap_setCell _ _ _ _ (by dsimp only; first | exact hb3 | exact hb4)]
                first | done | rfl
              · have hB1 := HBX.out
                clear tr tf to_ tof HBX
                go_grown
                exact below_drewN hB1 _
              · refine (Spare.keep HSU.out (by simp) fun b hb1 hb2 => ?_).mono (by omega)
                have hb3 : b ≠ oB := by omega
                have hb4 : b ≠ rB := by omega
                repeat rw [Below.heap_setCell _ _ _ _ (by dsimp only; first | exact hb3 | exact hb4)]
                first | done | rfl
            · obtain ⟨g, gc, eg, hg1, hg2, hg3, hg4⟩ := HTO.out.some_ (by simp)
              simp only [Value.slice.injEq, Option.some.injEq, Addr.mk.injEq, and_true] at eg
              obtain ⟨eg1, em, eg2⟩ := eg
              subst eg1 eg2
              have HEM : Hid (r.length + 1 = tm) := em.symm
              rw [← em] at hg3
              have hm1 : 1 ≤ tm := by have := HEM.out; omega
              have hm0 : 0 < tm := hm1
              have hm2 : (1 : Int) ≤ (tm : Int) := by omega
              have hm3 : (0 : Int) < (tm : Int) := by omega
              have hm4 : (tm : Int) ≤ (tc : Int) := by omega
              obtain ⟨j0, j1, -⟩ := HTO.out.cell (i := 0) (by simp)
              simp only [List.getElem_cons_zero, Nat.zero_mul, Nat.zero_add] at j0 j1
              have hne1 : ¬ (oB = tg) := by omega
              have hne2 : ¬ (rB = tg) := by omega
              clear em
              by_cases hle : f0 ≤ y1
              · have hmd : MD = (f1, r) := by rw [HMT.out]; simp [modN, hle]
                obtain ⟨pa, hpa⟩ : ∃ pa, (if tc = 1 then some (⟨tg, 0, none⟩ : Addr) else some ⟨tg, 2, none⟩) = pa := ⟨_, rfl⟩
                have HOU : Hid (Own wx (sB + 1) wx.heap.size shSpansO r [.slice pa (tm - 1) (tc - 1)]) := by show Own _ _ _ _ _ _; rw [← hpa]; exact HTO.out.tailO (Nat.le_refl _)
                have HSU : Hid (Spare wx (sB + 1) (.slice pa (tm - 1) (tc - 1))) := by show Spare _ _ _; rw [← hpa]; exact HTO.out.tailSpare
                obtain ⟨tu, htu⟩ : ∃ u, u = Value.slice pa (tm - 1) (tc - 1) := ⟨_, rfl⟩
                rw [← htu] at HOU HSU
                have HTU : Hid _ := htu
                clear HMT HTL HTO htu
                go_wp2_with fail
                go_quiet (fail)
                go_wp2_with fail
                rw [← HTU.out]
                refine bodyPost_ret (v := .tuple #[.agg #[.int .i64 y0, .int .i64 MD.1, tu], .bool FZ]) (by simp [results, Try.results151, go_sem, tr, hmd]) rfl ?_
                refine ⟨tu, rfl, ?_, ?_, ?_⟩
                · rw [hmd]
                  refine Own.mono (lo := sB + 1) (hi := wx.heap.size) (Own.keep HOU.out fun b hb1 hb2 => ?_) (by omega) (by simp)
                  have hb3 : b ≠ oB := by omega
                  have hb4 : b ≠ rB := by omega
                  repeat rw [Below.heap_setCell _ _ _ _ (by dsimp only; first | exact hb3 | exact hb4)]
                  first | done | rfl
                · have hB1 := HBX.out
                  clear tr tf to_ tof HBX
                  go_grown
                  exact below_drewN hB1 _
                · refine (Spare.keep HSU.out (by simp) fun b hb1 hb2 => ?_).mono (by omega)
                  have hb3 : b ≠ oB := by omega
                  have hb4 : b ≠ rB := by omega
                  repeat rw [Below.heap_setCell _ _ _ _ (by dsimp only; first | exact hb3 | exact hb4)]
                  first | done | rfl
              · have hle' : decide (f0 ≤ y1) = false := by simp; omega
                have hmd : MD = (y1, (f0, f1, ()) :: r) := by rw [HMT.out]; simp [modN, hle]
                have HOU : Hid (Own wx (sB + 1) wx.heap.size shSpansO ((f0, f1, ()) :: r) [.slice (some ⟨tg, 0, none⟩) tm tc]) := HTO.out.ownAll (Nat.le_refl _)
                have HSU : Hid (Spare wx (sB + 1) (.slice (some ⟨tg, 0, none⟩) tm tc)) := HTO.out.spare
                obtain ⟨tu, htu⟩ : ∃ u, u = Value.slice (some ⟨tg, 0, none⟩) tm tc := ⟨_, rfl⟩
                rw [← htu] at HOU HSU
                have HTU : Hid _ := htu
                clear HMT HTL HTO htu
                go_wp2_with fail
                go_quiet (fail)
                go_wp2_with fail
                rw [← HTU.out]
                refine bodyPost_ret (v := .tuple #[.agg #[.int .i64 y0, .int .i64 MD.1, tu], .bool FZ]) (by simp [results, Try.results151, go_sem, tr, hmd]) rfl ?_
                refine ⟨tu, rfl, ?_, ?_, ?_⟩
                · rw [hmd]
                  refine Own.mono (lo := sB + 1) (hi := wx.heap.size) (Own.keep HOU.out fun b hb1 hb2 => ?_) (by omega) (by simp)
                  have hb3 : b ≠ oB := by omega
                  have hb4 : b ≠ rB := by omega
                  repeat rw [Below.heap_setCell _ _ _ _ (by dsimp only; first | exact hb3 | exact hb4)]
                  first | done | rfl
                · have hB1 := HBX.out
                  clear tr tf to_ tof HBX
                  go_grown
                  exact below_drewN hB1 _
                · refine (Spare.keep HSU.out (by simp) fun b hb1 hb2 => ?_).mono (by omega)
                  have hb3 : b ≠ oB := by omega
                  have hb4 : b ≠ rB := by omega
                  repeat rw [Below.heap_setCell _ _ _ _ (by dsimp only; first | exact hb3 | exact hb4)]
                  first | done | rfl
end Go.Proofs.Ytebgibjokljlbaa
