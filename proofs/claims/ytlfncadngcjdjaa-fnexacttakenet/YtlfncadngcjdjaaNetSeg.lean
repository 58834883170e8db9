/- Segments that stand as arrays: SegmentFault, copies and StripSegment by program and model; nothing that was in memory turns; no condition but that a load has at most a million bytes. Written by mknet1.py. -/
import Derived.Test.YtlfncadngcjdjaaRows
import Derived.Test.YtlfncadngcjdjaaBase
import Derived.Test.YtlfncadngcjdjaaBytes
import Derived.Test.YtlfncadngcjdjaaMem
import Derived.Test.YtlfncadngcjdjaaMemOpen
import Derived.Test.YtlfncadngcjdjaaMemRow
import Derived.Test.YtlfncadngcjdjaaHBase
import Derived.Test.YtlfncadngcjdjaaHMark
import Derived.Test.YtlfncadngcjdjaaAppBytes
import Derived.Test.YtlfncadngcjdjaaSeg
import Derived.Test.YtlfncadngcjdjaaSegFS
import Derived.Test.YtlfncadngcjdjaaSegFI
import Derived.Test.YtlfncadngcjdjaaStrip
import Derived.Test.YtlfncadngcjdjaaBox
import Derived.Test.YtlfncadngcjdjaaSubBox
import Derived.Test.YtlfncadngcjdjaaAgg
import Derived.Test.YtlfncadngcjdjaaElMark
import Derived.Test.YtlfncadngcjdjaaMSegs
import Derived.Test.YtlfncadngcjdjaaHSegs
import Derived.Deep.DeepMust
namespace Go.Proofs.Ytlfncadngcjdjaa
open Go.RowKit
set_option linter.unusedVariables false
set_option maxRecDepth 8000
def sgOf : DSegm → Seg
  | (y0, y1, y2, y3, y4, y5, y6, y7, y8, y9, y10, ld, _) => ⟨y0, y1, y2, y3, y4, y5, y6, y7, y8, y9, y10, ld⟩
def sgF (x : DSegm) : Int := segFault (sgOf x) (totSegm x)
def stSg : DSegm → DSegm
  | (y0, y1, y2, y3, y4, y5, y6, y7, _, _, _, ld, _) => (y0, y1, y2, y3, y4, y5, y6, y7, 0, 0, 0, ld, ())
/-- The cells of a segment that is read. -/
theorem seg_of {w : World} {B : Nat} {x : DSegm} {A : Array Value} (hr : shSegm.Rd w B x A.toList) : ∃ a cap, A = #[.int .i64 (sgOf x).path, .int .i64 (sgOf x).frm, .bool (sgOf x).syn, .bool (sgOf x).ackd, .bool (sgOf x).rst, .int .i64 (sgOf x).seq, .int .i64 (sgOf x).ack, .int .i64 (sgOf x).fin, .int .i64 (sgOf x).opt, .int .i64 (sgOf x).a, .int .i64 (sgOf x).b, .slice a (totSegm x) cap] ∧ RB w a (sgOf x).load ∧ (sgOf x).load.length = totSegm x ∧ (a = none → cap = 0) := by
  obtain ⟨y0, y1, y2, y3, y4, y5, y6, y7, y8, y9, y10, ld, ⟨⟩⟩ := x
  obtain ⟨u, eA, r, -⟩ := rd_Segm hr
  obtain ⟨a, cap, eu, rb, hn, -⟩ := rd_bytes r
  simp only [List.cons.injEq, and_true] at eu
  subst eu
  exact ⟨a, cap, arr_of eA, rb, rfl, hn⟩
theorem seg_own {w w' : World} {B lo : Nat} {x : DSegm} {cs : List Value} {v : Value} (hr : shSegm.Rd w B x cs) (ho : OB w' lo v (sgOf x).load) : Own w' lo w'.heap.size shSegm x (#[.int .i64 (sgOf x).path, .int .i64 (sgOf x).frm, .bool (sgOf x).syn, .bool (sgOf x).ackd, .bool (sgOf x).rst, .int .i64 (sgOf x).seq, .int .i64 (sgOf x).ack, .int .i64 (sgOf x).fin, .int .i64 (sgOf x).opt, .int .i64 (sgOf x).a, .int .i64 (sgOf x).b, v] : Array Value).toList := by
  obtain ⟨y0, y1, y2, y3, y4, y5, y6, y7, y8, y9, y10, ld, ⟨⟩⟩ := x
  obtain ⟨u, eA, r, w0, w1, w5, w6, w7, w8, w9, w10⟩ := rd_Segm hr
  obtain ⟨bs, h1, h2, h3⟩ := own_bytes ho (Nat.le_refl _)
  exact ⟨bs, mk_Segm h1 w0 w1 w5 w6 w7 w8 w9 w10, h2, h3⟩
theorem seg_ownS {w w' : World} {B lo : Nat} {x : DSegm} {cs : List Value} {v : Value} (hr : shSegm.Rd w B x cs) (ho : OB w' lo v (sgOf x).load) : Own w' lo w'.heap.size shSegm (stSg x) (#[.int .i64 (sgOf x).strip.path, .int .i64 (sgOf x).strip.frm, .bool (sgOf x).strip.syn, .bool (sgOf x).strip.ackd, .bool (sgOf x).strip.rst, .int .i64 (sgOf x).strip.seq, .int .i64 (sgOf x).strip.ack, .int .i64 (sgOf x).strip.fin, .int .i64 (sgOf x).strip.opt, .int .i64 (sgOf x).strip.a, .int .i64 (sgOf x).strip.b, v] : Array Value).toList := by
  obtain ⟨y0, y1, y2, y3, y4, y5, y6, y7, y8, y9, y10, ld, ⟨⟩⟩ := x
  obtain ⟨u, eA, r, w0, w1, w5, w6, w7, w8, w9, w10⟩ := rd_Segm hr
  obtain ⟨bs, h1, h2, h3⟩ := own_bytes ho (Nat.le_refl _)
  exact ⟨bs, mk_Segm h1 w0 w1 w5 w6 w7 (by decide) (by decide) (by decide), h2, h3⟩
theorem sSegF {w : World} {B : Nat} (x : DSegm) (A : Array Value) (W : World) (hr : shSegm.Rd w B x A.toList) :
    Calls Try.prog 48 #[.agg A] W fun e w' => e = .returned (.int .i64 (sgF x)) ∧ Below W.heap.size W w' := by
  obtain ⟨a, cap, e, -⟩ := seg_of hr
  rw [e]
  exact sSegmentFault (sgOf x) a _ cap W
theorem iSegF {w : World} {B : Nat} (x : DSegm) (A : Array Value) (W : World) (hr : shSegm.Rd w B x A.toList) :
    Calls Try.prog 43 #[.agg A] W fun e w' => e = .returned (.int .i64 (sgF x)) ∧ Below W.heap.size W w' := by
  obtain ⟨a, cap, e, -⟩ := seg_of hr
  rw [e]
  exact iSegmentFault (sgOf x) a _ cap W
theorem sCopyA (x : DSegm) (A : Array Value) (w : World) (B : Nat) (hr : shSegm.Rd w B x A.toList) (hn : totSegm x ≤ 1048576) :
    Calls Try.prog 78 #[.agg A] w fun e w' => ∃ N : Array Value, e = .returned (.agg N) ∧ Own w' w.heap.size w'.heap.size shSegm x N.toList ∧ Below w.heap.size w w' := by
  obtain ⟨a, cap, e, rb, hl, hnil⟩ := seg_of hr
  rw [e]
  refine (sCopy (sgOf x) a _ cap w hl rb hnil hn).mono ?_
  rintro e w' ⟨v, he, ho, hb⟩
  exact ⟨_, he, seg_own hr ho, hb⟩
theorem iStripA (x : DSegm) (A : Array Value) (w : World) (B : Nat) (hr : shSegm.Rd w B x A.toList) (hn : totSegm x ≤ 1048576) :
    Calls Try.prog 56 #[.agg A] w fun e w' => ∃ N : Array Value, e = .returned (.agg N) ∧ Own w' w.heap.size w'.heap.size shSegm (stSg x) N.toList ∧ Below w.heap.size w w' := by
  obtain ⟨a, cap, e, rb, hl, hnil⟩ := seg_of hr
  rw [e]
  refine (iStrip (sgOf x) a _ cap w hl rb hnil hn).mono ?_
  rintro e w' ⟨v, he, ho, hb⟩
  exact ⟨_, he, seg_ownS hr ho, hb⟩
set_option maxHeartbeats 1000000 in
theorem iCopySg (s : Seg) (a : Option Addr) (n cap : Nat) (w : World) (hl : s.load.length = n) (hr : RB w a s.load) (hnil : a = none → cap = 0) (hn : n ≤ 1048576) :
    Calls Try.prog 74 #[.agg #[.int .i64 s.path, .int .i64 s.frm, .bool s.syn, .bool s.ackd, .bool s.rst, .int .i64 s.seq, .int .i64 s.ack, .int .i64 s.fin, .int .i64 s.opt, .int .i64 s.a, .int .i64 s.b, .slice a n cap]] w fun e w' => ∃ v, e = .returned (.agg #[.int .i64 s.path, .int .i64 s.frm, .bool s.syn, .bool s.ackd, .bool s.rst, .int .i64 s.seq, .int .i64 s.ack, .int .i64 s.fin, .int .i64 s.opt, .int .i64 s.a, .int .i64 s.b, v]) ∧ OB w' w.heap.size v s.load ∧ Below w.heap.size w w' := by
  have HR : Hid (∀ W, Below w.heap.size w W → RB W a s.load) := fun W h => hr.below (Nat.le_refl _) h
  clear hr
  go_enter Try.func74, Try.ntmps74
  go_wp2_with fail
  refine (iCopyBytes a n cap s.load _ hl (HR.out _ (by go_grown)) hnil hn).mono ?_
  rintro e w5 ⟨v5, rfl, ho5, hb5⟩
  obtain ⟨a5, cap5, rfl, -⟩ := ho5.rb
  have hz := hb5.size
  simp at hz
  have hc0 : ∀ o, w5.cell? ⟨w.heap.size, o, none⟩ = (#[.int .i64 s.path, .int .i64 s.frm, .bool s.syn, .bool s.ackd, .bool s.rst, .int .i64 s.seq, .int .i64 s.ack, .int .i64 s.fin, .int .i64 s.opt, .int .i64 s.a, .int .i64 s.b, .slice a n cap] : Array Value)[o]? := fun o => by rw [(bcell hb5).1 w.heap.size o (by simp; omega)]; simp [go_sem]
  have hc1 : ∀ o, w5.cell? ⟨w.heap.size + 1, o, none⟩ = (#[.int .i64 0, .int .i64 0, .bool false, .bool false, .bool false, .int .i64 0, .int .i64 0, .int .i64 0, .int .i64 0, .int .i64 0, .int .i64 0, .slice none 0 0] : Array Value)[o]? := fun o => by rw [(bcell hb5).1 (w.heap.size + 1) o (by simp)]; simp [go_sem]
  have hf0 := fun o => (bcell hb5).2 w.heap.size o (by simp; omega)
  have hf1 := fun o => (bcell hb5).2 (w.heap.size + 1) o (by simp)
  have z1 : w.heap.size < w5.heap.size := by omega
  have z2 : w.heap.size + 1 < w5.heap.size := by omega
  have HB : Hid _ := hb5
  have HO : Hid _ := ho5
  clear hb5 ho5 hz
  go_wp2
  have hB1 : Below w.heap.size w w5 := Below.trans (by go_grown) (HB.out.mono (by simp; omega))
  refine bodyPost_ret (v := .agg #[.int .i64 s.path, .int .i64 s.frm, .bool s.syn, .bool s.ackd, .bool s.rst, .int .i64 s.seq, .int .i64 s.ack, .int .i64 s.fin, .int .i64 s.opt, .int .i64 s.a, .int .i64 s.b, .slice a5 s.load.length cap5]) (by simp [results, Try.results74, go_sem, hc1, hl]) rfl ⟨_, rfl, ?_, ?_⟩
  · refine OB.mono (OB.keeps HO.out fun g hg => ?_) (by simp; omega)
    simp at hg
    repeat rw [Below.heap_setCell _ _ _ _ (by dsimp only; omega)]
  · clear hc0 hc1 hf0 hf1 HO HB
    go_grown
theorem iCopyA (x : DSegm) (A : Array Value) (w : World) (B : Nat) (hr : shSegm.Rd w B x A.toList) (hn : totSegm x ≤ 1048576) :
    Calls Try.prog 74 #[.agg A] w fun e w' => ∃ N : Array Value, e = .returned (.agg N) ∧ Own w' w.heap.size w'.heap.size shSegm x N.toList ∧ Below w.heap.size w w' := by
  obtain ⟨a, cap, e, rb, hl, hnil⟩ := seg_of hr
  rw [e]
  refine (iCopySg (sgOf x) a _ cap w hl rb hnil hn).mono ?_
  rintro e w' ⟨v, he, ho, hb⟩
  exact ⟨_, he, seg_own hr ho, hb⟩
end Go.Proofs.Ytlfncadngcjdjaa
