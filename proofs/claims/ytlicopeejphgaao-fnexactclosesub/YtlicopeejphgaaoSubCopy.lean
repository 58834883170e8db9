/- What program and model make of a sub that is copied and closed: the answer owns its memory; nothing that was in memory turns; no condition but that there are at most a million parts. -/
import Derived.Test.YtlicopeejphgaaoRows
import Derived.Test.YtlicopeejphgaaoBase
import Derived.Test.YtlicopeejphgaaoBytes
import Derived.Test.YtlicopeejphgaaoMem
import Derived.Test.YtlicopeejphgaaoHBase
import Derived.Test.YtlicopeejphgaaoHFlight
import Derived.Test.YtlicopeejphgaaoHSender
import Derived.Test.YtlicopeejphgaaoHSpan
import Derived.Test.YtlicopeejphgaaoHCatch
import Derived.Test.YtlicopeejphgaaoFlightDef
import Derived.Test.YtlicopeejphgaaoSpecFlight3
import Derived.Test.YtlicopeejphgaaoImplCopy
import Derived.Test.YtlicopeejphgaaoCatDef
import Derived.Test.YtlicopeejphgaaoSpanRow
import Derived.Test.YtlicopeejphgaaoMCatch
import Derived.Test.YtlicopeejphgaaoCatCopy
import Derived.Test.YtlicopeejphgaaoCtrl
import Derived.Test.YtlicopeejphgaaoBox
import Derived.Test.YtlicopeejphgaaoSubBox
import Derived.Test.YtlicopeejphgaaoHSub
import Derived.Test.YtlicopeejphgaaoSubO
import Derived.Test.YtlicopeejphgaaoSubDef
import Derived.Test.YtlicopeejphgaaoSubSpec
import Derived.Test.YtlicopeejphgaaoSubImpl
import Derived.Deep.RegionHeld3
namespace Go.Proofs.Ytlicopeejphgaao
open Go.RowKit
set_option linter.unusedVariables false
set_option maxRecDepth 8000

/-- What a sub's copy needs: its flights and spans can be read, and are few. -/
structure SubIn (w : World) (B : Nat) (fl : List DFlight) (sp : List DSpan) (s0 s1 s2 c0 c1 : Int) (ua : Option Addr) (fn uc : Nat) (va : Option Addr) (sn vc : Nat) : Prop where
  rs : shSender.Rd w B (s0, s1, s2, fl, ()) [.int .i64 s0, .int .i64 s1, .int .i64 s2, .slice ua fn uc]
  rc : RS w va sp
  nil : va = none → vc = 0
  hfn : fl.length = fn
  hsn : sp.length = sn
  w0 : (Lit.int .i64 c0).wf = true
  w1 : (Lit.int .i64 c1).wf = true
  hB : B ≤ w.heap.size
  ht : totSender (s0, s1, s2, fl, ()) ≤ 1048576
  h1 : fn ≤ 1000
  h2 : sn ≤ 1000
theorem SubIn.of {w : World} {B : Nat} {fl : List DFlight} {sp : List DSpan} {s0 s1 s2 c0 c1 : Int} {ua : Option Addr} {fn uc : Nat} {va : Option Addr} {sn vc : Nat} (rs : shSender.Rd w B (s0, s1, s2, fl, ()) [.int .i64 s0, .int .i64 s1, .int .i64 s2, .slice ua fn uc]) (rc : shCatch.Rd w B (c0, c1, sp, ()) [.int .i64 c0, .int .i64 c1, .slice va sn vc]) (hfn : fl.length = fn) (hsn : sp.length = sn) (hB : B ≤ w.heap.size) (h : sndFault (s0, s1, s2, fl, ()) = 0) (h' : caF (c0, c1, sp, ()) = 0) : SubIn w B fl sp s0 s1 s2 c0 c1 ua fn uc va sn vc := by
  have a1 : fl.length ≤ 12 := (snd_ok h).2.2.2
  have a2 : sp.length ≤ 20 := (ca_ok h').2.2.1
  have a3 : totSender (s0, s1, s2, fl, ()) ≤ 108 := snd_tot h
  obtain ⟨q, e, r, g0, g1⟩ := rd_Catch rc
  simp only [List.cons.injEq, and_true, true_and] at e
  subst e
  replace r : shSpans.Rd w B sp [.slice va sn vc] := r
  have rr := r
  obtain ⟨a', cap', e, -, hn, -⟩ := rr
  simp only [List.cons.injEq, Value.slice.injEq, and_true] at e
  obtain ⟨rfl, -, rfl⟩ := e
  exact ⟨rs, RS.of_rd r, hn, hfn, hsn, g0, g1, hB, by omega, by omega, by omega⟩
theorem SubIn.below {w W : World} {B : Nat} {fl : List DFlight} {sp : List DSpan} {s0 s1 s2 c0 c1 : Int} {ua : Option Addr} {fn uc : Nat} {va : Option Addr} {sn vc : Nat} (h : SubIn w B fl sp s0 s1 s2 c0 c1 ua fn uc va sn vc) (hW : Below w.heap.size w W) : SubIn W B fl sp s0 s1 s2 c0 c1 ua fn uc va sn vc :=
  ⟨h.rs.below h.hB hW, h.rc.below hW, h.nil, h.hfn, h.hsn, h.w0, h.w1, Nat.le_trans h.hB hW.size, h.ht, h.h1, h.h2⟩
/-- What a copy of a sub owns: its flights up to block m, its spans behind it. -/
structure SubOw (w : World) (lo hi : Nat) (fl : List DFlight) (sp : List DSpan) (s0 s1 s2 c0 c1 : Int) (qa : Option Addr) (fn qc : Nat) (ra : Option Addr) (sn rc m : Nat) : Prop where
  s : Own w lo m shSender (s0, s1, s2, fl, ()) [.int .i64 s0, .int .i64 s1, .int .i64 s2, .slice qa fn qc]
  c : Own w m hi shCatchO (c0, c1, sp, ()) [.int .i64 c0, .int .i64 c1, .slice ra sn rc]
  lm : lo ≤ m
  mh : m ≤ hi
theorem SubOw.keep {w w' : World} {lo hi : Nat} {fl : List DFlight} {sp : List DSpan} {s0 s1 s2 c0 c1 : Int} {qa : Option Addr} {fn qc : Nat} {ra : Option Addr} {sn rc m : Nat} (h : SubOw w lo hi fl sp s0 s1 s2 c0 c1 qa fn qc ra sn rc m) (hk : ∀ b, lo ≤ b → b < hi → w'.heap[b]? = w.heap[b]?) : SubOw w' lo hi fl sp s0 s1 s2 c0 c1 qa fn qc ra sn rc m :=
  ⟨Own.keep h.s (fun b h1 h2 => hk b h1 (Nat.lt_of_lt_of_le h2 h.mh)), Own.keep h.c (fun b h1 h2 => hk b (Nat.le_trans h.lm h1) h2), h.lm, h.mh⟩
theorem SubOw.grow {w : World} {lo hi lo' hi' : Nat} {fl : List DFlight} {sp : List DSpan} {s0 s1 s2 c0 c1 : Int} {qa : Option Addr} {fn qc : Nat} {ra : Option Addr} {sn rc m : Nat} (h : SubOw w lo hi fl sp s0 s1 s2 c0 c1 qa fn qc ra sn rc m) (h1 : lo' ≤ lo) (h2 : hi ≤ hi') : SubOw w lo' hi' fl sp s0 s1 s2 c0 c1 qa fn qc ra sn rc m :=
  ⟨Own.mono h.s h1 (Nat.le_refl _), Own.mono h.c (Nat.le_refl _) h2, Nat.le_trans h1 h.lm, Nat.le_trans h.mh h2⟩
set_option maxHeartbeats 4000000 in
theorem sL8Copy (y0 y1 : Int) (y2 : Bool) (y3 y4 y5 s0 s1 s2 c0 c1 k0 k1 k2 : Int) (fl : List DFlight) (sp : List DSpan) (ua : Option Addr) (fn uc : Nat) (va : Option Addr) (sn vc : Nat) (w : World) (B : Nat) (h : SubIn w B fl sp s0 s1 s2 c0 c1 ua fn uc va sn vc) :
    Calls Try.prog 44 #[.agg #[.int .i64 y0, .int .i64 y1, .bool y2, .int .i64 y3, .int .i64 y4, .int .i64 y5, .int .i64 s0, .int .i64 s1, .int .i64 s2, .slice ua fn uc, .int .i64 c0, .int .i64 c1, .slice va sn vc, .int .i64 k0, .int .i64 k1, .int .i64 k2]] w fun e w' => ∃ qa qc ra rc m, e = .returned (.agg #[.int .i64 y0, .int .i64 y1, .bool y2, .int .i64 y3, .int .i64 y4, .int .i64 y5, .int .i64 s0, .int .i64 s1, .int .i64 s2, .slice qa fn qc, .int .i64 c0, .int .i64 c1, .slice ra sn rc, .int .i64 k0, .int .i64 k1, .int .i64 k2]) ∧ SubOw w' w.heap.size w'.heap.size fl sp s0 s1 s2 c0 c1 qa fn qc ra sn rc m ∧ Below w.heap.size w w' := by
  have H1 : Hid (∀ W, Below w.heap.size w W → Calls Try.prog 88 #[.agg #[.int .i64 s0, .int .i64 s1, .int .i64 s2, .slice ua fn uc]] W fun e w' => ∃ u, e = .returned (.agg #[.int .i64 s0, .int .i64 s1, .int .i64 s2, u]) ∧ Own w' W.heap.size w'.heap.size shSender (s0, s1, s2, fl, ()) [.int .i64 s0, .int .i64 s1, .int .i64 s2, u] ∧ Below W.heap.size W w') := fun W hW => sL5Copy (s0, s1, s2, fl, ()) _ W B (h.below hW).rs (h.below hW).hB h.ht (by show fl.length ≤ 1000; rw [h.hfn]; exact h.h1)
  have H2 : Hid (∀ W, Below w.heap.size w W → Calls Try.prog 89 #[.agg #[.int .i64 c0, .int .i64 c1, .slice va sn vc]] W fun e w' => ∃ ga c, e = .returned (.agg #[.int .i64 c0, .int .i64 c1, .slice ga sn c]) ∧ OS w' W.heap.size (.slice ga sn c) sp ∧ Below W.heap.size W w') := fun W hW => sL7Copy c0 c1 sp va sn vc W h.hsn (h.rc.below hW) h.nil (by have := h.h2; omega)
  have HN : Hid (fl.length = fn) := h.hfn
  have HW0 : Hid _ := h.w0
  have HW1 : Hid _ := h.w1
  clear h
  go_enter Try.func44, Try.ntmps44
  go_wp2_with fail
  refine (H1.out _ (by go_grown)).mono ?_
  rintro e w1 ⟨u1, rfl, ho, hb⟩
  have j0 : ∀ o, w1.cell? ⟨w.heap.size, o, none⟩ = (#[.int .i64 y0, .int .i64 y1, .bool y2, .int .i64 y3, .int .i64 y4, .int .i64 y5, .int .i64 s0, .int .i64 s1, .int .i64 s2, .slice ua fn uc, .int .i64 c0, .int .i64 c1, .slice va sn vc, .int .i64 k0, .int .i64 k1, .int .i64 k2] : Array Value)[o]? := fun o => by rw [hb.cell (p := ⟨w.heap.size, o, none⟩) (by simp <;> omega)]; simp [go_sem]
  have f0 : ∀ o, w1.frozen? ⟨w.heap.size, o, none⟩ = false := fun o => by rw [hb.frozen (p := ⟨w.heap.size, o, none⟩) (by simp <;> omega)]; simp [go_sem]
  obtain ⟨uu, eu, ru, -⟩ := rd_Sender (ho.rd (Nat.le_refl _))
  simp only [List.cons.injEq, and_true, true_and] at eu
  subst eu
  obtain ⟨qa, qc, eu⟩ := row_form ru
  rw [HN.out] at eu
  simp only [List.cons.injEq, and_true] at eu
  subst eu
  have j1 : ∀ o, w1.cell? ⟨w.heap.size + 1, o, none⟩ = (#[.int .i64 0, .int .i64 0, .bool false, .int .i64 0, .int .i64 0, .int .i64 0, .int .i64 0, .int .i64 0, .int .i64 0, .slice none 0 0, .int .i64 0, .int .i64 0, .slice none 0 0, .int .i64 0, .int .i64 0, .int .i64 0] : Array Value)[o]? := fun o => by rw [hb.cell (p := ⟨w.heap.size + 1, o, none⟩) (by simp)]; simp [go_sem]
  have f1 : ∀ o, w1.frozen? ⟨w.heap.size + 1, o, none⟩ = false := fun o => by rw [hb.frozen (p := ⟨w.heap.size + 1, o, none⟩) (by simp)]; simp [go_sem]
  have HB : Hid (Below w.heap.size w w1) := Below.trans (by go_grown) (hb.mono (by simp; omega))
  have HS : Hid (Own w1 (w.heap.size + 1 + 1) w1.heap.size shSender (s0, s1, s2, fl, ()) [.int .i64 s0, .int .i64 s1, .int .i64 s2, .slice qa fn qc]) := Own.mono ho (by simp) (Nat.le_refl _)
  have z1 : w.heap.size + 1 < w1.heap.size := by have := hb.size; simp at this; omega
  clear ho hb H1 ru
  go_wp2_with fail
  refine (H2.out _ (by have h := HB.out; clear j0 j1 f0 f1 HS; go_grown)).mono ?_
  rintro e w2 ⟨ra, rc, rfl, hos, hb⟩
  have z2 : w1.heap.size ≤ w2.heap.size := by have := hb.size; simpa using this
  replace j0 := bx_put (bx_put (bx_put (bx_put j0 (k := 6) (v := .int .i64 s0) (by simp)) (k := 7) (v := .int .i64 s1) (by simp)) (k := 8) (v := .int .i64 s2) (by simp)) (k := 9) (v := .slice qa fn qc) (by simp)
  simp only [List.setIfInBounds_toArray, List.set_cons_zero, List.set_cons_succ] at j0
  replace j0 : ∀ o, w2.cell? ⟨w.heap.size, o, none⟩ = _ := fun o => (hb.cell (p := ⟨w.heap.size, o, none⟩) (by simp; omega)).trans (j0 o)
  replace f0 : ∀ o, w2.frozen? ⟨w.heap.size, o, none⟩ = false := fun o => by rw [hb.frozen (p := ⟨w.heap.size, o, none⟩) (by simp; omega)]; simpa using f0 o
  replace HB : Hid (Below w.heap.size w w2) := (Below.setCell (Below.setCell (Below.setCell (Below.setCell HB.out (by dsimp only; omega) _) (by dsimp only; omega) _) (by dsimp only; omega) _) (by dsimp only; omega) _).trans (hb.mono (by simp; omega))
  replace j1 : ∀ o, w2.cell? ⟨w.heap.size + 1, o, none⟩ = _ := fun o => (hb.cell (p := ⟨w.heap.size + 1, o, none⟩) (by simp; omega)).trans ((bx_off (bx_off (bx_off (bx_off j1 (by omega)) (by omega)) (by omega)) (by omega)) o)
  replace f1 : ∀ o, w2.frozen? ⟨w.heap.size + 1, o, none⟩ = false := fun o => by rw [hb.frozen (p := ⟨w.heap.size + 1, o, none⟩) (by simp; omega)]; simpa using f1 o
  replace HS : Hid (Own w2 (w.heap.size + 1 + 1) w1.heap.size shSender (s0, s1, s2, fl, ()) [.int .i64 s0, .int .i64 s1, .int .i64 s2, .slice qa fn qc]) := Own.keep HS.out (fun b h1 h2 => by rw [hb.block b (by simpa using h2)]; repeat rw [Below.heap_setCell _ _ _ _ (by dsimp only; omega)])
  have HC : Hid (Own w2 w1.heap.size w2.heap.size shCatchO (c0, c1, sp, ()) [.int .i64 c0, .int .i64 c1, .slice ra sn rc]) := own_catO HW0.out HW1.out (OS.ownAll (OS.mono hos (by simp)) (Nat.le_refl _)) z2
  clear hos hb H2
  go_wp2_with fail
  refine bodyPost_ret (v := .agg #[.int .i64 y0, .int .i64 y1, .bool y2, .int .i64 y3, .int .i64 y4, .int .i64 y5, .int .i64 s0, .int .i64 s1, .int .i64 s2, .slice qa fn qc, .int .i64 c0, .int .i64 c1, .slice ra sn rc, .int .i64 k0, .int .i64 k1, .int .i64 k2]) (by simp [results, Try.results44, go_sem, j1]) rfl ⟨qa, qc, ra, rc, w1.heap.size, rfl, ?_, ?_⟩
  · have h2 : SubOw w2 (w.heap.size + 1 + 1) w2.heap.size fl sp s0 s1 s2 c0 c1 qa fn qc ra sn rc w1.heap.size := ⟨HS.out, HC.out, by omega, z2⟩
    refine SubOw.grow (SubOw.keep h2 (fun b h1 h2 => ?_)) (by omega) (by simp)
    repeat rw [Below.heap_setCell _ _ _ _ (by dsimp only; omega)]
  · have hB1 := HB.out
    clear j0 j1 f0 f1 HS HC HB
    go_grown
set_option maxHeartbeats 4000000 in
theorem iCopySub (y0 y1 : Int) (y2 : Bool) (y3 y4 y5 s0 s1 s2 c0 c1 k0 k1 k2 : Int) (fl : List DFlight) (sp : List DSpan) (ua : Option Addr) (fn uc : Nat) (va : Option Addr) (sn vc : Nat) (w : World) (B : Nat) (h : SubIn w B fl sp s0 s1 s2 c0 c1 ua fn uc va sn vc) :
    Calls Try.prog 46 #[.agg #[.int .i64 y0, .int .i64 y1, .bool y2, .int .i64 y3, .int .i64 y4, .int .i64 y5, .int .i64 s0, .int .i64 s1, .int .i64 s2, .slice ua fn uc, .int .i64 c0, .int .i64 c1, .slice va sn vc, .int .i64 k0, .int .i64 k1, .int .i64 k2]] w fun e w' => ∃ qa qc ra rc m, e = .returned (.pointer (some ⟨w.heap.size, 0, none⟩)) ∧ (∀ o, w'.cell? ⟨w.heap.size, o, none⟩ = (#[.int .i64 y0, .int .i64 y1, .bool y2, .int .i64 y3, .int .i64 y4, .int .i64 y5, .int .i64 s0, .int .i64 s1, .int .i64 s2, .slice qa fn qc, .int .i64 c0, .int .i64 c1, .slice ra sn rc, .int .i64 k0, .int .i64 k1, .int .i64 k2] : Array Value)[o]?) ∧ (∀ o, w'.frozen? ⟨w.heap.size, o, none⟩ = false) ∧ SubOw w' (w.heap.size + 1) w'.heap.size fl sp s0 s1 s2 c0 c1 qa fn qc ra sn rc m ∧ w.heap.size < w'.heap.size ∧ Below w.heap.size w w' := by
  have H1 : Hid (∀ W, Below w.heap.size w W → Calls Try.prog 90 #[.agg #[.int .i64 s0, .int .i64 s1, .int .i64 s2, .slice ua fn uc]] W fun e w' => ∃ u, e = .returned (.agg #[.int .i64 s0, .int .i64 s1, .int .i64 s2, u]) ∧ Own w' W.heap.size w'.heap.size shSender (s0, s1, s2, fl, ()) [.int .i64 s0, .int .i64 s1, .int .i64 s2, u] ∧ Below W.heap.size W w') := fun W hW => iCopyS (s0, s1, s2, fl, ()) _ W B (h.below hW).rs (h.below hW).hB h.ht (by show fl.length ≤ 1000; rw [h.hfn]; exact h.h1)
  have H2 : Hid (∀ W, Below w.heap.size w W → Calls Try.prog 91 #[.agg #[.int .i64 c0, .int .i64 c1, .slice va sn vc]] W fun e w' => ∃ ga c, e = .returned (.agg #[.int .i64 c0, .int .i64 c1, .slice ga sn c]) ∧ OS w' W.heap.size (.slice ga sn c) sp ∧ Below W.heap.size W w') := fun W hW => iCopyCatch c0 c1 sp va sn vc W h.hsn (h.rc.below hW) h.nil (by have := h.h2; omega)
  have HN : Hid (fl.length = fn) := h.hfn
  have HW0 : Hid _ := h.w0
  have HW1 : Hid _ := h.w1
  clear h
  go_enter Try.func46, Try.ntmps46
  go_wp2_with fail
  refine (H1.out _ (by go_grown)).mono ?_
  rintro e w1 ⟨u1, rfl, ho, hb⟩
  have j0 : ∀ o, w1.cell? ⟨w.heap.size, o, none⟩ = (#[.int .i64 y0, .int .i64 y1, .bool y2, .int .i64 y3, .int .i64 y4, .int .i64 y5, .int .i64 s0, .int .i64 s1, .int .i64 s2, .slice ua fn uc, .int .i64 c0, .int .i64 c1, .slice va sn vc, .int .i64 k0, .int .i64 k1, .int .i64 k2] : Array Value)[o]? := fun o => by rw [hb.cell (p := ⟨w.heap.size, o, none⟩) (by simp <;> omega)]; simp [go_sem]
  have f0 : ∀ o, w1.frozen? ⟨w.heap.size, o, none⟩ = false := fun o => by rw [hb.frozen (p := ⟨w.heap.size, o, none⟩) (by simp <;> omega)]; simp [go_sem]
  obtain ⟨uu, eu, ru, -⟩ := rd_Sender (ho.rd (Nat.le_refl _))
  simp only [List.cons.injEq, and_true, true_and] at eu
  subst eu
  obtain ⟨qa, qc, eu⟩ := row_form ru
  rw [HN.out] at eu
  simp only [List.cons.injEq, and_true] at eu
  subst eu
  have HB : Hid (Below w.heap.size w w1) := Below.trans (by go_grown) (hb.mono (by simp))
  have HS : Hid (Own w1 (w.heap.size + 1) w1.heap.size shSender (s0, s1, s2, fl, ()) [.int .i64 s0, .int .i64 s1, .int .i64 s2, .slice qa fn qc]) := Own.mono ho (by simp) (Nat.le_refl _)
  have z1 : w.heap.size < w1.heap.size := by have := hb.size; simp at this; omega
  clear ho hb H1 ru
  go_wp2_with fail
  refine (H2.out _ (by have h := HB.out; clear j0 f0 HS; go_grown)).mono ?_
  rintro e w2 ⟨ra, rc, rfl, hos, hb⟩
  have z2 : w1.heap.size ≤ w2.heap.size := by have := hb.size; simpa using this
  replace j0 := bx_put (bx_put (bx_put (bx_put j0 (k := 6) (v := .int .i64 s0) (by simp)) (k := 7) (v := .int .i64 s1) (by simp)) (k := 8) (v := .int .i64 s2) (by simp)) (k := 9) (v := .slice qa fn qc) (by simp)
  simp only [List.setIfInBounds_toArray, List.set_cons_zero, List.set_cons_succ] at j0
  replace j0 : ∀ o, w2.cell? ⟨w.heap.size, o, none⟩ = _ := fun o => (hb.cell (p := ⟨w.heap.size, o, none⟩) (by simp; omega)).trans (j0 o)
  replace f0 : ∀ o, w2.frozen? ⟨w.heap.size, o, none⟩ = false := fun o => by rw [hb.frozen (p := ⟨w.heap.size, o, none⟩) (by simp; omega)]; simpa using f0 o
  replace HB : Hid (Below w.heap.size w w2) := (Below.setCell (Below.setCell (Below.setCell (Below.setCell HB.out (by dsimp only; omega) _) (by dsimp only; omega) _) (by dsimp only; omega) _) (by dsimp only; omega) _).trans (hb.mono (by simp; omega))
  replace HS : Hid (Own w2 (w.heap.size + 1) w1.heap.size shSender (s0, s1, s2, fl, ()) [.int .i64 s0, .int .i64 s1, .int .i64 s2, .slice qa fn qc]) := Own.keep HS.out (fun b h1 h2 => by rw [hb.block b (by simpa using h2)]; repeat rw [Below.heap_setCell _ _ _ _ (by dsimp only; omega)])
  have HC : Hid (Own w2 w1.heap.size w2.heap.size shCatchO (c0, c1, sp, ()) [.int .i64 c0, .int .i64 c1, .slice ra sn rc]) := own_catO HW0.out HW1.out (OS.ownAll (OS.mono hos (by simp)) (Nat.le_refl _)) z2
  clear hos hb H2
  go_wp2_with fail
  go_ret
  have j9 := bx_put (bx_put (bx_put j0 (k := 10) (v := .int .i64 c0) (by simp)) (k := 11) (v := .int .i64 c1) (by simp)) (k := 12) (v := .slice ra sn rc) (by simp)
  simp only [List.setIfInBounds_toArray, List.set_cons_zero, List.set_cons_succ] at j9
  have h2 : SubOw w2 (w.heap.size + 1) w2.heap.size fl sp s0 s1 s2 c0 c1 qa fn qc ra sn rc w1.heap.size := ⟨HS.out, HC.out, by omega, z2⟩
  refine ⟨qa, qc, ra, rc, w1.heap.size, rfl, j9, (fun o => by simpa using f0 o), SubOw.grow (SubOw.keep h2 (fun b h1 h2 => ?_)) (Nat.le_refl _) (by simp), by simp; omega, ?_⟩
  · repeat rw [Below.heap_setCell _ _ _ _ (by dsimp only; omega)]
  exact Below.setCell (Below.setCell (Below.setCell HB.out (by dsimp only; omega) _) (by dsimp only; omega) _) (by dsimp only; omega) _
end Go.Proofs.Ytlicopeejphgaao
