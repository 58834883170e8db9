/- Many cells of one block set: what is read, and what stays; no condition. -/
import Derived.Test.YtebgibjokljlbaaRows
import Derived.Deep.DeepCutAuto
import Derived.Deep.RegionHeld3
import Derived.Test.YtebgibjokljlbaaS01
import Derived.Test.YtebgibjokljlbaaS03
import Derived.Test.YtebgibjokljlbaaS04
import Derived.Test.YtebgibjokljlbaaS05
import Derived.Test.YtebgibjokljlbaaS11
import Derived.Test.YtebgibjokljlbaaS18
namespace Go.Proofs.Ytebgibjokljlbaa
open Go.RowKit
set_option linter.unusedVariables false
def setsW (w : World) (b : Nat) : Nat → List Value → World
  | _, [] => w
  | k, v :: vs => setsW (w.setCell ⟨b, k, none⟩ v) b (k + 1) vs
theorem setsW_cells {b : Nat} : ∀ (vs : List Value) (w : World) (k : Nat) (L : List Value), (∀ o, w.cell? ⟨b, o, none⟩ = L[o]?) → k + vs.length ≤ L.length → ∀ o, (setsW w b k vs).cell? ⟨b, o, none⟩ = (L.take k ++ (vs ++ L.drop (k + vs.length)))[o]?
  | [], w, k, L, h, hk => by intro o; simp only [setsW, List.length_nil, Nat.add_zero, List.nil_append, List.take_append_drop]; exact h o
  | v :: vs, w, k, L, h, hk => by
    intro o
    simp only [List.length_cons] at hk
    have hk2 : k < L.length := by omega
    have h2 : ∀ o, (w.setCell ⟨b, k, none⟩ v).cell? ⟨b, o, none⟩ = (L.set k v)[o]? := fun o => by
      have := bx_put (A := L.toArray) (v := v) (fun o => by rw [h o]; simp) (by simpa using hk2) o
      rw [this]
      simp
    have h3 := setsW_cells vs (w.setCell ⟨b, k, none⟩ v) (k + 1) (L.set k v) h2 (by rw [List.length_set]; omega) o
    have e1 : (L.set k v).take (k + 1) = L.take k ++ [v] := by
      rw [List.take_set, List.take_succ_eq_append_getElem hk2, List.set_append_right _ _ (by simp; omega)]
      simp [Nat.min_eq_left (Nat.le_of_lt hk2)]
    have e2 : (L.set k v).drop (k + 1 + vs.length) = L.drop (k + (vs.length + 1)) := by
      rw [List.drop_set_of_lt (by omega)]; congr 1; omega
    rw [show setsW w b k (v :: vs) = setsW (w.setCell ⟨b, k, none⟩ v) b (k + 1) vs from rfl, h3, e1, e2]
    simp
theorem setsW_all {b : Nat} {w : World} {A : Array Value} (vs : List Value) (h : ∀ o, w.cell? ⟨b, o, none⟩ = A[o]?) (hn : vs.length = A.size) : ∀ o, (setsW w b 0 vs).cell? ⟨b, o, none⟩ = vs.toArray[o]? := fun o => by
  have := setsW_cells vs w 0 A.toList (fun o => by rw [h o]; simp) (by simp [hn]) o
  rw [this, Nat.zero_add, List.drop_eq_nil_of_le (by simp [hn])]
  simp
theorem setsW_below {b B : Nat} (hB : B ≤ b) : ∀ (vs : List Value) (w w0 : World) (k : Nat), Below B w0 w → Below B w0 (setsW w b k vs)
  | [], _, _, _, h => h
  | v :: vs, w, w0, k, h => setsW_below hB vs _ w0 (k + 1) (h.setCell (p := ⟨b, k, none⟩) hB v)
theorem setsW_heap {b g : Nat} (hg : g ≠ b) : ∀ (vs : List Value) (w : World) (k : Nat), (setsW w b k vs).heap[g]? = w.heap[g]?
  | [], _, _ => rfl
  | v :: vs, w, k => (setsW_heap hg vs (w.setCell ⟨b, k, none⟩ v) (k + 1)).trans (Below.heap_setCell _ _ _ _ (by dsimp only; exact hg))
theorem setsW_size {b : Nat} : ∀ (vs : List Value) (w : World) (k : Nat), (setsW w b k vs).heap.size = w.heap.size
  | [], _, _ => rfl
  | v :: vs, w, k => (setsW_size vs (w.setCell ⟨b, k, none⟩ v) (k + 1)).trans (by simp)
end Go.Proofs.Ytebgibjokljlbaa
namespace Go.Proofs.Ytebgibjokljlbaa
open Go.RowKit
set_option linter.unusedVariables false
set_option maxRecDepth 8000
abbrev shControl : Sh := .cons (.int .i64) (.cons (.int .i64) (.cons (.int .i64) .nil))
abbrev DControl : Type := Int × Int × Int × Unit
abbrev shSub : Sh := .cons (.int .i64) (.cons (.int .i64) (.cons .bool (.cons (.int .i64) (.cons (.int .i64) (.cons (.int .i64) (.cons shSender (.cons shCatch (.cons shControl .nil))))))))
abbrev DSub : Type := Int × Int × Bool × Int × Int × Int × DSender × DCatch × DControl × Unit
def totSub (x : DSub) : Nat := totSender x.2.2.2.2.2.2.1 + totCatch x.2.2.2.2.2.2.2.1
def SubWf (x : DSub) : Prop := ((Lit.int .i64 x.1).wf = true ∧ (Lit.int .i64 x.2.1).wf = true ∧ (Lit.int .i64 x.2.2.2.1).wf = true ∧ (Lit.int .i64 x.2.2.2.2.1).wf = true ∧ (Lit.int .i64 x.2.2.2.2.2.1).wf = true) ∧
  (Lit.int .i64 x.2.2.2.2.2.2.2.2.1.1).wf = true ∧ (Lit.int .i64 x.2.2.2.2.2.2.2.2.1.2.1).wf = true ∧ (Lit.int .i64 x.2.2.2.2.2.2.2.2.1.2.2.1).wf = true
theorem rd_Sub {w : World} {B : Nat} {x : DSub} {cs : List Value} (h : shSub.Rd w B x cs) : ∃ u v, cs = [.int .i64 x.1, .int .i64 x.2.1, .bool x.2.2.1, .int .i64 x.2.2.2.1, .int .i64 x.2.2.2.2.1, .int .i64 x.2.2.2.2.2.1, .int .i64 x.2.2.2.2.2.2.1.1, .int .i64 x.2.2.2.2.2.2.1.2.1, .int .i64 x.2.2.2.2.2.2.1.2.2.1, u, .int .i64 x.2.2.2.2.2.2.2.1.1, .int .i64 x.2.2.2.2.2.2.2.1.2.1, v, .int .i64 x.2.2.2.2.2.2.2.2.1.1, .int .i64 x.2.2.2.2.2.2.2.2.1.2.1, .int .i64 x.2.2.2.2.2.2.2.2.1.2.2.1] ∧
    shSender.Rd w B x.2.2.2.2.2.2.1 [.int .i64 x.2.2.2.2.2.2.1.1, .int .i64 x.2.2.2.2.2.2.1.2.1, .int .i64 x.2.2.2.2.2.2.1.2.2.1, u] ∧
    shCatch.Rd w B x.2.2.2.2.2.2.2.1 [.int .i64 x.2.2.2.2.2.2.2.1.1, .int .i64 x.2.2.2.2.2.2.2.1.2.1, v] ∧ SubWf x := by
  obtain ⟨p0, q0, e0, ⟨g0, w0⟩, p1, q1, e1, ⟨g1, w1⟩, p2, q2, e2, g2, p3, q3, e3, ⟨g3, w3⟩, p4, q4, e4, ⟨g4, w4⟩, p5, q5, e5, ⟨g5, w5⟩, p6, q6, e6, h6, p7, q7, e7, h7, p8, q8, e8, h8, hz⟩ := h
  obtain ⟨r0, t0, a0, ⟨b0, d0⟩, r1, t1, a1, ⟨b1, d1⟩, r2, t2, a2, ⟨b2, d2⟩, hz2⟩ := h8
  have hz' : q8 = [] := hz
  have hz2' : t2 = [] := hz2
  obtain ⟨u, eu, -⟩ := rd_Sender h6
  obtain ⟨v, ev, -⟩ := rd_Catch h7
  rw [eu] at h6
  rw [ev] at h7
  refine ⟨u, v, ?_, h6, h7, ⟨w0, w1, w3, w4, w5⟩, d0, d1, d2⟩
  rw [e0, g0, e1, g1, e2, g2, e3, g3, e4, g4, e5, g5, e6, eu, e7, ev, e8, a0, b0, a1, b1, a2, b2, hz2', hz']
  rfl
theorem rd_SubF {w : World} {B : Nat} {y0 y1 : Int} {y2 : Bool} {y3 y4 y5 s0 s1 s2 : Int} {fl : List DFlight} {c0 c1 : Int} {sp : List DSpan} {k0 k1 k2 : Int} {u v : Value} (h : shSub.Rd w B (y0, y1, y2, y3, y4, y5, (s0, s1, s2, fl, ()), (c0, c1, sp, ()), (k0, k1, k2, ()), ()) [.int .i64 y0, .int .i64 y1, .bool y2, .int .i64 y3, .int .i64 y4, .int .i64 y5, .int .i64 s0, .int .i64 s1, .int .i64 s2, u, .int .i64 c0, .int .i64 c1, v, .int .i64 k0, .int .i64 k1, .int .i64 k2]) :
    ∃ ua uc va vc, u = .slice ua fl.length uc ∧ v = .slice va sp.length vc ∧ shSender.Rd w B (s0, s1, s2, fl, ()) [.int .i64 s0, .int .i64 s1, .int .i64 s2, u] ∧ shCatch.Rd w B (c0, c1, sp, ()) [.int .i64 c0, .int .i64 c1, v] ∧ SubWf (y0, y1, y2, y3, y4, y5, (s0, s1, s2, fl, ()), (c0, c1, sp, ()), (k0, k1, k2, ()), ()) := by
  obtain ⟨u', v', e, hs, hc, hw⟩ := rd_Sub h
  simp only [List.cons.injEq, and_true, true_and] at e
  obtain ⟨rfl, rfl⟩ := e
  obtain ⟨u2, e2, r2, -⟩ := rd_Sender hs
  simp only [List.cons.injEq, and_true, true_and] at e2
  obtain ⟨v2, e3, r3, -⟩ := rd_Catch hc
  simp only [List.cons.injEq, and_true, true_and] at e3
  obtain ⟨ua, uc, e4⟩ := row_form r2
  obtain ⟨va, vc, e5⟩ := row_form r3
  simp only [List.cons.injEq, and_true] at e4 e5
  exact ⟨ua, uc, va, vc, e2.trans e4, e3.trans e5, hs, hc, hw⟩
end Go.Proofs.Ytebgibjokljlbaa
namespace Go.Proofs.Ytebgibjokljlbaa
open Go.RowKit
set_option linter.unusedVariables false
set_option maxRecDepth 8000
abbrev shSubO : Sh := .cons (.int .i64) (.cons (.int .i64) (.cons .bool (.cons (.int .i64) (.cons (.int .i64) (.cons (.int .i64) (.cons shSender (.cons shCatchO (.cons shControl .nil))))))))
theorem rdO_Sub {w : World} {B : Nat} {x : DSub} {cs : List Value} (h : shSubO.Rd w B x cs) : shSub.Rd w B x cs := h
theorem own_SubO {w : World} {lo mid hi : Nat} {y0 y1 : Int} {y2 : Bool} {y3 y4 y5 s0 s1 s2 : Int} {fl : List DFlight} {c0 c1 : Int} {sp : List DSpan} {k0 k1 k2 : Int} {u v : Value} (hs : Own w lo mid shSender (s0, s1, s2, fl, ()) [.int .i64 s0, .int .i64 s1, .int .i64 s2, u]) (hc : Own w mid hi shCatchO (c0, c1, sp, ()) [.int .i64 c0, .int .i64 c1, v]) (hlm : lo ≤ mid) (hmh : mid ≤ hi) (hw : SubWf (y0, y1, y2, y3, y4, y5, (s0, s1, s2, fl, ()), (c0, c1, sp, ()), (k0, k1, k2, ()), ())) :
    Own w lo hi shSubO (y0, y1, y2, y3, y4, y5, (s0, s1, s2, fl, ()), (c0, c1, sp, ()), (k0, k1, k2, ()), ()) [.int .i64 y0, .int .i64 y1, .bool y2, .int .i64 y3, .int .i64 y4, .int .i64 y5, .int .i64 s0, .int .i64 s1, .int .i64 s2, u, .int .i64 c0, .int .i64 c1, v, .int .i64 k0, .int .i64 k1, .int .i64 k2] := by
  obtain ⟨⟨w0, w1, w3, w4, w5⟩, d0, d1, d2⟩ := hw
  have hl : lo ≤ hi := Nat.le_trans hlm hmh
  have hK : Own w hi hi (.cons shControl .nil) ((k0, k1, k2, ()), ()) ([.int .i64 k0, .int .i64 k1, .int .i64 k2] ++ []) :=
    hOwnCons (hOwnCons (hOwnInt w hi hi d0) (hOwnCons (hOwnInt w hi hi d1) (hOwnCons (hOwnInt w hi hi d2) (hOwnNil _ _ _) (Nat.le_refl _) (Nat.le_refl _)) (Nat.le_refl _) (Nat.le_refl _)) (Nat.le_refl _) (Nat.le_refl _)) (hOwnNil w hi hi) (Nat.le_refl _) (Nat.le_refl _)
  have h1 := hOwnCons hs (hOwnCons hc hK hmh (Nat.le_refl _)) hlm hmh
  exact hOwnCons (hOwnInt w lo lo w0) (hOwnCons (hOwnInt w lo lo w1) (hOwnCons (hOwnBool w lo lo y2) (hOwnCons (hOwnInt w lo lo w3) (hOwnCons (hOwnInt w lo lo w4) (hOwnCons (hOwnInt w lo lo w5) h1 (Nat.le_refl _) hl) (Nat.le_refl _) hl) (Nat.le_refl _) hl) (Nat.le_refl _) hl) (Nat.le_refl _) hl) (Nat.le_refl _) hl
theorem own_Sub0 {w : World} {lo hi : Nat} {y0 y1 : Int} {y2 : Bool} {y3 y4 y5 s0 s1 s2 c0 c1 k0 k1 k2 : Int} (hl : lo ≤ hi) (hw : SubWf (y0, y1, y2, y3, y4, y5, (s0, s1, s2, [], ()), (c0, c1, [], ()), (k0, k1, k2, ()), ())) (w0 : (Lit.int .i64 s0).wf = true) (w1 : (Lit.int .i64 s1).wf = true) (w2 : (Lit.int .i64 s2).wf = true) (w3 : (Lit.int .i64 c0).wf = true) (w4 : (Lit.int .i64 c1).wf = true) :
    Own w lo hi shSubO (y0, y1, y2, y3, y4, y5, (s0, s1, s2, [], ()), (c0, c1, [], ()), (k0, k1, k2, ()), ()) [.int .i64 y0, .int .i64 y1, .bool y2, .int .i64 y3, .int .i64 y4, .int .i64 y5, .int .i64 s0, .int .i64 s1, .int .i64 s2, .slice none 0 0, .int .i64 c0, .int .i64 c1, .slice none 0 0, .int .i64 k0, .int .i64 k1, .int .i64 k2] := by
  have a0 : Own w lo lo shFlights [] [.slice none 0 0] := ⟨[], Or.inl ⟨rfl, rfl, rfl⟩, by simp, by simp⟩
  have b0 : Own w lo hi shSpansO [] [.slice none 0 0] := ⟨[], Or.inl ⟨rfl, rfl, none, 0, rfl, Nat.zero_le _, fun _ => rfl⟩, by simp, by simp⟩
  have a : Own w lo lo shSender (s0, s1, s2, [], ()) [.int .i64 s0, .int .i64 s1, .int .i64 s2, .slice none 0 0] := hOwnCons (hOwnInt w lo lo w0) (hOwnCons (hOwnInt w lo lo w1) (hOwnCons (hOwnInt w lo lo w2) (hOwnCons a0 (hOwnNil _ _ _) (Nat.le_refl _) (Nat.le_refl _)) (Nat.le_refl _) (Nat.le_refl _)) (Nat.le_refl _) (Nat.le_refl _)) (Nat.le_refl _) (Nat.le_refl _)
  have b : Own w lo hi shCatchO (c0, c1, [], ()) [.int .i64 c0, .int .i64 c1, .slice none 0 0] := hOwnCons (hOwnInt w lo lo w3) (hOwnCons (hOwnInt w lo lo w4) (hOwnCons b0 (hOwnNil _ _ _) hl (Nat.le_refl _)) (Nat.le_refl _) hl) (Nat.le_refl _) hl
  exact own_SubO a b (Nat.le_refl _) hl hw
end Go.Proofs.Ytebgibjokljlbaa
namespace Go.Proofs.Ytebgibjokljlbaa
open Go.RowKit
set_option linter.unusedVariables false
set_option maxRecDepth 8000
abbrev DSub.snd (x : DSub) : DSender := x.2.2.2.2.2.2.1
abbrev DSub.cat (x : DSub) : DCatch := x.2.2.2.2.2.2.2.1
abbrev DSub.ctl (x : DSub) : DControl := x.2.2.2.2.2.2.2.2.1
def subHead (x : DSub) : Bool := inD x.1 0 2 && inD x.2.1 1 4 && inD x.2.2.2.1 0 1000000 && inD x.2.2.2.2.1 0 1000000 && inD x.2.2.2.2.2.1 0 1000000
def subForm (x : DSub) : Bool := (decide (x.2.1 < 3) && decide (0 < x.snd.2.1)) || (decide (x.2.1 = 4) && decide (0 < x.snd.2.2.2.1.length))
def subF (x : DSub) : Int := if subHead x = false then 3 else if sndFault x.snd = 0 then (if caF x.cat = 0 then (if ctF x.ctl.1 x.ctl.2.1 x.ctl.2.2.1 = 0 then (if subForm x = true then 1 else 0) else ctF x.ctl.1 x.ctl.2.1 x.ctl.2.2.1) else caF x.cat) else sndFault x.snd
theorem subF_h {x : DSub} (h : subHead x = false) : subF x = 3 := by unfold subF; rw [if_pos h]
theorem subF_s {x : DSub} (h : subHead x = true) (h1 : ¬ sndFault x.snd = 0) : subF x = sndFault x.snd := by unfold subF; rw [if_neg (by simp [h]), if_neg h1]
theorem subF_c {x : DSub} (h : subHead x = true) (h1 : sndFault x.snd = 0) (h2 : ¬ caF x.cat = 0) : subF x = caF x.cat := by unfold subF; rw [if_neg (by simp [h]), if_pos h1, if_neg h2]
theorem subF_k {x : DSub} (h : subHead x = true) (h1 : sndFault x.snd = 0) (h2 : caF x.cat = 0) (h3 : ¬ ctF x.ctl.1 x.ctl.2.1 x.ctl.2.2.1 = 0) : subF x = ctF x.ctl.1 x.ctl.2.1 x.ctl.2.2.1 := by unfold subF; rw [if_neg (by simp [h]), if_pos h1, if_pos h2, if_neg h3]
theorem subF_f {x : DSub} (h : subHead x = true) (h1 : sndFault x.snd = 0) (h2 : caF x.cat = 0) (h3 : ctF x.ctl.1 x.ctl.2.1 x.ctl.2.2.1 = 0) (h4 : subForm x = true) : subF x = 1 := by unfold subF; rw [if_neg (by simp [h]), if_pos h1, if_pos h2, if_pos h3, if_pos h4]
theorem subF_o {x : DSub} (h : subHead x = true) (h1 : sndFault x.snd = 0) (h2 : caF x.cat = 0) (h3 : ctF x.ctl.1 x.ctl.2.1 x.ctl.2.2.1 = 0) (h4 : subForm x = false) : subF x = 0 := by unfold subF; rw [if_neg (by simp [h]), if_pos h1, if_pos h2, if_pos h3, if_neg (by simp [h4])]
theorem sub_ok {x : DSub} (h : subF x = 0) : subHead x = true ∧ sndFault x.snd = 0 ∧ caF x.cat = 0 ∧ ctF x.ctl.1 x.ctl.2.1 x.ctl.2.2.1 = 0 ∧ subForm x = false := by
  unfold subF at h
  split at h
  · cases h
  · rename_i h0
    split at h
    · rename_i h1
      split at h
      · rename_i h2
        split at h
        · rename_i h3
          split at h
          · cases h
          · rename_i h4
            exact ⟨by simpa using h0, h1, h2, h3, by simpa using h4⟩
        · exact absurd h (by assumption)
      · exact absurd h (by assumption)
    · exact absurd h (by assumption)
theorem subHead_parts {x : DSub} (h : subHead x = true) : inD x.1 0 2 = true ∧ inD x.2.1 1 4 = true ∧ inD x.2.2.2.1 0 1000000 = true ∧ inD x.2.2.2.2.1 0 1000000 = true ∧ inD x.2.2.2.2.2.1 0 1000000 = true := by
  unfold subHead at h
  simp only [Bool.and_eq_true] at h
  exact ⟨h.1.1.1.1, h.1.1.1.2, h.1.1.2, h.1.2, h.2⟩
def zSub : DSub := (0, 0, false, 0, 0, 0, (0, 0, 0, [], ()), (0, 0, [], ()), (0, 0, 0, ()), ())
def roomV (x : DSub) : Int := if subF x = 0 then (if x.2.1 = 3 ∧ x.snd.2.2.2.1.length < 12 then max 0 (x.ctl.1 - (x.snd.2.1 - x.snd.2.2.1)) else 0) else 0
def stlL (l : List DFlight) : Nat := (l.filter fun f => decide (3 ≤ f.2.2.2.2.1)).length
def stlV (x : DSub) : Int := if subF x = 0 then (stlL x.snd.2.2.2.1 : Int) else 0
theorem stlL_step {l : List DFlight} {k : Nat} (hk : k < l.length) : stlL (l.take (k + 1)) = if 3 ≤ l[k].2.2.2.2.1 then stlL (l.take k) + 1 else stlL (l.take k) := by
  unfold stlL
  rw [List.take_succ_eq_append_getElem hk, List.filter_append, List.length_append]
  by_cases h : 3 ≤ l[k].2.2.2.2.1
  · rw [if_pos h]; simp [h]
  · rw [if_neg h]; simp [h]
def clsX (x : DSub) : DSub := (x.1, 4, x.2.2.1, x.2.2.2.1, x.2.2.2.2.1, x.2.2.2.2.2.1, (x.snd.1, x.snd.2.2.1, x.snd.2.2.1, [], ()), x.cat, x.ctl, ())
def clsV (x : DSub) : DSub := if subF x = 0 then clsX x else zSub
theorem sub_tot {x : DSub} (h : subF x = 0) : totSub x ≤ 1000 := by
  obtain ⟨-, h1, h2, -⟩ := sub_ok h
  have h3 : totSender x.snd ≤ 108 := snd_tot h1
  have h4 : x.cat.2.2.1.length ≤ 20 := (ca_ok h2).2.2.1
  have h5 : totCatch x.cat ≤ 20 := by unfold totCatch totSpans; exact h4
  show totSender x.snd + totCatch x.cat ≤ 1000
  omega
theorem cls_tot (x : DSub) : totSub (clsV x) ≤ 1048576 := by
  unfold clsV
  split
  · rename_i h
    obtain ⟨-, h1, h2, -⟩ := sub_ok h
    have h4 : x.cat.2.2.1.length ≤ 20 := (ca_ok h2).2.2.1
    have h5 : totCatch x.cat ≤ 20 := by unfold totCatch totSpans; exact h4
    show totSender (x.snd.1, x.snd.2.2.1, x.snd.2.2.1, [], ()) + totCatch x.cat ≤ 1048576
    have h6 : totSender (x.snd.1, x.snd.2.2.1, x.snd.2.2.1, [], ()) = 0 := by simp [totSender, totFlights, fsum]
    omega
  · decide
end Go.Proofs.Ytebgibjokljlbaa
