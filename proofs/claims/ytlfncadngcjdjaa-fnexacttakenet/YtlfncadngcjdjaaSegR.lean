/- What the law's own helpers (compare, mark, hold against the marks) make of an answer that holds a segment; an answer stands as one value; no condition but that there are at most a million parts. -/
import Derived.Test.YtlfncadngcjdjaaRows
import Derived.Test.YtlfncadngcjdjaaBase
import Derived.Test.YtlfncadngcjdjaaBytes
import Derived.Test.YtlfncadngcjdjaaMem
import Derived.Test.YtlfncadngcjdjaaMemOpen
import Derived.Test.YtlfncadngcjdjaaMemRow
import Derived.Test.YtlfncadngcjdjaaHBase
import Derived.Test.YtlfncadngcjdjaaHMark
import Derived.Test.YtlfncadngcjdjaaBox
import Derived.Test.YtlfncadngcjdjaaSubBox
import Derived.Test.YtlfncadngcjdjaaAgg
import Derived.Test.YtlfncadngcjdjaaElMark
import Derived.Test.YtlfncadngcjdjaaMSegs
import Derived.Test.YtlfncadngcjdjaaHSegs
import Derived.Deep.DeepCutAuto
import Derived.Deep.MidRow
namespace Go.Proofs.Ytlfncadngcjdjaa
open Go.RowKit
set_option linter.unusedVariables false
set_option maxRecDepth 8000

abbrev shSR : Sh := .cons (.int .i64) (.cons shSegm .nil)
abbrev DSR : Type := Int × DSegm × Unit
def totSR (x : DSR) : Nat := totSegm x.2.1
def wtSR (x : DSR) : Nat := totSegm x.2.1
def mkSegA (c : Int) : DSegm → DSegm
  | (y0, y1, y2, y3, y4, y5, y6, y7, y8, y9, y10, ld, _) => (y0, y1, y2, y3, y4, y5, y6, y7, y8, y9, y10, marks c ld.length, ())
def mkSR (c : Int) : DSR → DSR
  | (q, s, _) => (q, mkSegA c s, ())
theorem wtSR_le {x : DSR} (h : totSR x ≤ 1048576) : wtSR x ≤ 16777216 := by unfold totSR at h; unfold wtSR; omega
theorem rd_SR {w : World} {B : Nat} {q : Int} {s : DSegm} {cs : List Value} (h : shSR.Rd w B (q, s, ()) cs) : ∃ S : List Value, cs = .int .i64 q :: S ∧ S.length = 12 ∧ shSegm.Rd w B s S ∧ (Lit.int .i64 q).wf = true := by
  obtain ⟨p0, q0, e0, ⟨g0, w0⟩, p1, q1, e1, h1, hz⟩ := h
  have hz' : q1 = [] := hz
  have hl : p1.length = 12 := Sh.Rd.len _ _ _ h1
  refine ⟨p1, ?_, hl, h1, w0⟩
  rw [e0, g0, e1, hz']
  simp
theorem sr_range {w : World} {b : Nat} {N : Array Value} {q : Value} {S : List Value} (h : N.toList = q :: S) (hc : ∀ o, w.cell? ⟨b, o, none⟩ = N[o]?) : w.rangeAt b 1 S := fun j v hv => by
  rw [hc (1 + j), Nat.add_comm 1 j, get_of h, List.getElem?_cons_succ]
  exact hv
theorem info_SG : (Try.prog.info? 31).map (·.size) = some 12 := by kernel_rfl
theorem ow_SR {w : World} {bs : List Nat} {q : Int} {s : DSegm} {cs : List Value} (h : shSR.Ow w bs (q, s, ()) cs) :
    ∃ S : List Value, cs = .int .i64 q :: S ∧ S.length = 12 ∧ shSegm.Ow w bs s S ∧ (∀ (W : World) (s' : DSegm), shSegm.Ow W bs s' S → shSR.Ow W bs (q, s', ()) cs) := by
  obtain ⟨a0, r0, p0, q0, eb0, ec0, ⟨f0, g0, w0⟩, a1, r1, p1, q1, eb1, ec1, h1, zb, zc⟩ := h
  have eb : bs = a1 := by rw [eb0, f0, eb1, zb]; simp
  subst eb
  refine ⟨p1, ?_, Sh.Ow.len _ _ _ _ h1, h1, fun W s' k => ⟨a0, r0, p0, q0, eb0, ec0, ⟨f0, g0, w0⟩, bs, r1, p1, q1, eb1, ec1, k, zb, zc⟩⟩
  rw [ec0, g0, ec1, zc]
  simp
set_option maxHeartbeats 1000000 in
theorem lMarkSegA (x : DSegm) (A : Array Value) (c : Int) (w : World) (bs : List Nat) (hO : shSegm.Ow w bs x A.toList) (hnd : bs.Nodup) (hT : totSegm x ≤ 1048576) (hc0 : 0 ≤ c) (hc1 : c ≤ 16777216) :
    Calls Try.prog 60 #[.agg A, .int .i64 c] w fun e w' => e = .returned (.int .i64 (c + (totSegm x : Nat))) ∧ shSegm.Ow w' bs (mkSegA c x) A.toList ∧ Touch bs w w' := by
  obtain ⟨y0, y1, y2, y3, y4, y5, y6, y7, y8, y9, y10, ld, ⟨⟩⟩ := x
  obtain ⟨u, eA, hu⟩ := ow_Segm hO
  obtain ⟨uu, eA', r, f0, f1, f5, f6, f7, f8, f9, f10⟩ := rd_Segm (Sh.Ow.rd (Nat.le_refl w.heap.size) _ _ _ _ hO)
  have ht : ld.length ≤ 1048576 := hT
  have a11 : A[11]? = some u := get_of eA 11
  have lb : ∀ b ∈ bs, b < w.heap.size := Sh.Ow.lt _ _ _ _ hu
  show Calls _ _ _ _ fun e w' => e = .returned (.int .i64 (c + (ld.length : Nat))) ∧ shSegm.Ow w' bs (y0, y1, y2, y3, y4, y5, y6, y7, y8, y9, y10, marks c ld.length, ()) A.toList ∧ Touch bs w w'
  have HM : Hid (∀ W, u8s.Ow W bs (marks c ld.length) [u] → shSegm.Ow W bs (y0, y1, y2, y3, y4, y5, y6, y7, y8, y9, y10, marks c ld.length, ()) A.toList) := fun W k => by show shSegm.Ow _ _ _ _; rw [eA]; exact mk_Segm k f0 f1 f5 f6 f7 f8 f9 f10
  have HL : Hid _ := lb
  obtain ⟨la, lc, e1⟩ := row_form (Sh.Ow.rd (Nat.le_refl _) _ _ _ _ hu)
  simp only [List.cons.injEq, and_true] at e1
  subst e1
  have H1 : Hid (∀ W, Below w.heap.size w W → Calls Try.prog 65 #[.slice la ld.length lc, .int .i64 c] W fun e w' => e = .returned (.int .i64 (c + (ld.length : Nat))) ∧ u8s.Ow w' bs (marks c ld.length) [.slice la ld.length lc] ∧ Touch bs W w') := fun W hW => lMarkBytesW ld _ c W bs (Sh.Ow.keep _ _ _ _ (fun b hb => hW.block b (lb b hb)) hu) hnd (by omega) hc0 (by omega)
  clear hO hnd hT eA eA' r f0 f1 f5 f6 f7 f8 f9 f10 hu lb
  generalize hm : marks c ld.length = M at *
  generalize ld.length = n at *
  clear hm
  go_enter Try.func60, Try.ntmps60
  go_wp2_with fail
  refine (H1.out _ (by go_grown)).mono ?_
  rintro e w1 ⟨rfl, ho1, ht1⟩
  have HO1 : Hid _ := HM.out _ ho1
  have HT1 : Hid (Touch bs w w1) := (Touch.below ((Below.refl _ _).alloc (Nat.le_refl _) _)).trans ht1
  clear ho1 ht1 H1 HM
  go_wp2_with fail
  go_ret
  exact ⟨rfl, HO1.out, HT1.out⟩
set_option maxHeartbeats 1000000 in
theorem lHeldSegA (x : DSegm) (A : Array Value) (c : Int) (w : World) (B : Nat) (hr : shSegm.Rd w B (mkSegA c x) A.toList) (hB : B ≤ w.heap.size) (hT : totSegm x ≤ 1048576) (hc0 : 0 ≤ c) (hc1 : c ≤ 16777216) :
    Calls Try.prog 61 #[.agg A, .int .i64 c] w fun e w' => e = .returned (.int .i64 (c + (totSegm x : Nat))) ∧ Below w.heap.size w w' := by
  obtain ⟨y0, y1, y2, y3, y4, y5, y6, y7, y8, y9, y10, ld, ⟨⟩⟩ := x
  obtain ⟨u, eA, r, -⟩ := rd_Segm hr
  have ht : ld.length ≤ 1048576 := hT
  have a11 : A[11]? = some u := get_of eA 11
  show Calls _ _ _ _ fun e w' => e = .returned (.int .i64 (c + (ld.length : Nat))) ∧ Below w.heap.size w w'
  obtain ⟨la, lc, e1⟩ := row_form r
  simp only [List.cons.injEq, and_true] at e1
  subst e1
  rw [marks_length] at r a11
  have H1 : Hid (∀ W, Below w.heap.size w W → Calls Try.prog 82 #[.slice la ld.length lc, .int .i64 c] W fun e w' => e = .returned (.int .i64 (c + (ld.length : Nat))) ∧ w' = W) := fun W hW => lHeldBytesW ld _ c W B (Sh.Rd.below r hB hW) (by omega) hc0 (by omega)
  have p1 : 0 ≤ c + (ld.length : Int) := by omega
  clear hr hT eA r
  generalize ld.length = n at *
  go_enter Try.func61, Try.ntmps61
  go_wp2_with fail
  refine (H1.out _ (by go_grown)).mono ?_
  rintro e w1 ⟨rfl, hw⟩
  subst w1
  go_wp2_with fail
  go_ret
  exact ⟨rfl, (Below.refl _ _).alloc (Nat.le_refl _) _⟩
end Go.Proofs.Ytlfncadngcjdjaa
