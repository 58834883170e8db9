/- Bytes copied, and what StripSegment answers, of the program and of its model: the segment without its option, its load a new one; nothing that was in memory turns; no condition but that the load has at most a million bytes. -/
import Derived.Test.YtebgibjokljlbaaRows
import Derived.Deep.DeepMust
import Derived.Deep.DeepCutAuto
import Derived.Deep.RegionHeld3
import Derived.Deep.MidRow
import Derived.Test.YtebgibjokljlbaaK01
import Derived.Test.YtebgibjokljlbaaK02
import Derived.Test.YtebgibjokljlbaaK03
import Derived.Test.YtebgibjokljlbaaK10
import Derived.Test.YtebgibjokljlbaaK17
import Derived.Test.YtebgibjokljlbaaK20
import Derived.Test.YtebgibjokljlbaaK42
import Derived.Test.YtebgibjokljlbaaK43
namespace Go.Proofs.Ytebgibjokljlbaa
open Go.RowKit
set_option linter.unusedVariables false

theorem OB.empty (w : World) (base : Nat) : OB w base (.slice none 0 0) [] := ⟨⟨rfl, Or.inl ⟨rfl, rfl⟩⟩, by simp⟩
theorem OB.made (w : World) (base : Nat) (hb : base ≤ w.heap.size) : OB (w.alloc (.cells #[] 5)) base (.slice (some ⟨w.heap.size, 0, none⟩) 0 0) [] := ⟨World.ownsRow_made w #[] 0 hb (by decide) rfl, by simp⟩

theorem iCopyBytes (a : Option Addr) (n cap : Nat) (l : List Int) (w : World) (hl : l.length = n) (hr : RB w a l) (hnil : a = none → cap = 0) (hn : n ≤ 1048576) :
    Calls Try.prog 108 #[.slice a n cap] w fun e w' => ∃ v, e = .returned v ∧ OB w' w.heap.size v l ∧ Below w.heap.size w w' := by
  go_enter Try.func108, Try.ntmps108
  go_wp2_with (at_builtin; refine app_u8 w rfl _ _ rfl w.heap.size (.slice none 0 0) [] (by rfl) (OB.empty _ _) a l n cap hl (by rfl) hr hnil (by simp; omega) (Nat.le_refl _) ?_; intro v' w5 ho5 hb5 hg5)
  go_ret
  exact ⟨_, rfl, ho5, hb5⟩

def Seg.strip (s : Seg) : Seg := { s with opt := 0, a := 0, b := 0 }

set_option maxHeartbeats 1000000 in
theorem sCopy (s : Seg) (a : Option Addr) (n cap : Nat) (w : World) (hl : s.load.length = n) (hr : RB w a s.load) (hnil : a = none → cap = 0) (hn : n ≤ 1048576) :
    Calls Try.prog 106 #[.agg #[.int .i64 s.path, .int .i64 s.frm, .bool s.syn, .bool s.ackd, .bool s.rst, .int .i64 s.seq, .int .i64 s.ack, .int .i64 s.fin, .int .i64 s.opt, .int .i64 s.a, .int .i64 s.b, .slice a n cap]] w fun e w' => ∃ v, e = .returned (.agg #[.int .i64 s.path, .int .i64 s.frm, .bool s.syn, .bool s.ackd, .bool s.rst, .int .i64 s.seq, .int .i64 s.ack, .int .i64 s.fin, .int .i64 s.opt, .int .i64 s.a, .int .i64 s.b, v]) ∧ OB w' w.heap.size v s.load ∧ Below w.heap.size w w' := by
  have HR : Hid (∀ W, Below w.heap.size w W → RB W a s.load) := fun W h => hr.below (Nat.le_refl _) h
  clear hr
  go_enter Try.func106, Try.ntmps106
  go_wp2_with (at_builtin; go_must (refine app_u8 _ rfl _ _ rfl (w.heap.size + 1 + 1) (.slice (some ⟨w.heap.size + 1 + 1, 0, none⟩) 0 0) [] (by rfl) ?_ a s.load n cap hl (by rfl) ?_ hnil (by simp; omega) ?_ ?_))
  · have h := OB.made ((w.alloc (.cells #[.int .i64 s.path, .int .i64 s.frm, .bool s.syn, .bool s.ackd, .bool s.rst, .int .i64 s.seq, .int .i64 s.ack, .int .i64 s.fin, .int .i64 s.opt, .int .i64 s.a, .int .i64 s.b, .slice a n cap] 48)).alloc (.cells #[.int .i64 0, .int .i64 0, .bool false, .bool false, .bool false, .int .i64 0, .int .i64 0, .int .i64 0, .int .i64 0, .int .i64 0, .int .i64 0, .slice none 0 0] 48)) (w.heap.size + 1 + 1) (by simp)
    simpa using h
  · exact HR.out _ (by go_grown)
  · simp
  intro v' w5 ho5 hb5 hg5
  obtain ⟨a5, cap5, rfl, -⟩ := ho5.rb
  have hz := hb5.size
  simp at hz
  have hc0 : ∀ o, w5.cell? ⟨w.heap.size, o, none⟩ = (#[.int .i64 s.path, .int .i64 s.frm, .bool s.syn, .bool s.ackd, .bool s.rst, .int .i64 s.seq, .int .i64 s.ack, .int .i64 s.fin, .int .i64 s.opt, .int .i64 s.a, .int .i64 s.b, .slice a n cap] : Array Value)[o]? := fun o => by rw [(bcellB hb5).1 w.heap.size o (by omega)]; simp [go_sem]
  have hc1 : ∀ o, w5.cell? ⟨w.heap.size + 1, o, none⟩ = (#[.int .i64 0, .int .i64 0, .bool false, .bool false, .bool false, .int .i64 0, .int .i64 0, .int .i64 0, .int .i64 0, .int .i64 0, .int .i64 0, .slice none 0 0] : Array Value)[o]? := fun o => by rw [(bcellB hb5).1 (w.heap.size + 1) o (by omega)]; simp [go_sem]
  have hf0 := fun o => (bcellB hb5).2 w.heap.size o (by omega)
  have hf1 := fun o => (bcellB hb5).2 (w.heap.size + 1) o (by omega)
  have z1 : w.heap.size < w5.heap.size := by omega
  have z2 : w.heap.size + 1 < w5.heap.size := by omega
  have HB : Hid _ := hb5
  have HO : Hid _ := ho5
  clear hb5 ho5 hg5 hz
  go_wp2
  have hB1 : Below w.heap.size w w5 := Below.trans (by go_grown) (HB.out.mono (by omega))
  refine bodyPost_ret (v := .agg #[.int .i64 s.path, .int .i64 s.frm, .bool s.syn, .bool s.ackd, .bool s.rst, .int .i64 s.seq, .int .i64 s.ack, .int .i64 s.fin, .int .i64 s.opt, .int .i64 s.a, .int .i64 s.b, .slice a5 s.load.length cap5]) (by simp [results, Try.results106, go_sem, hc1, hl]) rfl ⟨_, rfl, ?_, ?_⟩
  · refine OB.mono (OB.keeps HO.out fun g hg => ?_) (by omega)
    repeat rw [Below.heap_setCell _ _ _ _ (by dsimp only; omega)]
  · clear hc0 hc1 hf0 hf1 HO HB
    go_grown


set_option maxHeartbeats 1000000 in
theorem iStrip (s : Seg) (a : Option Addr) (n cap : Nat) (w : World) (hl : s.load.length = n) (hr : RB w a s.load) (hnil : a = none → cap = 0) (hn : n ≤ 1048576) :
    Calls Try.prog 73 #[.agg #[.int .i64 s.path, .int .i64 s.frm, .bool s.syn, .bool s.ackd, .bool s.rst, .int .i64 s.seq, .int .i64 s.ack, .int .i64 s.fin, .int .i64 s.opt, .int .i64 s.a, .int .i64 s.b, .slice a n cap]] w fun e w' => ∃ v, e = .returned (.agg #[.int .i64 s.strip.path, .int .i64 s.strip.frm, .bool s.strip.syn, .bool s.strip.ackd, .bool s.strip.rst, .int .i64 s.strip.seq, .int .i64 s.strip.ack, .int .i64 s.strip.fin, .int .i64 s.strip.opt, .int .i64 s.strip.a, .int .i64 s.strip.b, v]) ∧ OB w' w.heap.size v s.load ∧ Below w.heap.size w w' := by
  have HR : Hid (∀ W, Below w.heap.size w W → RB W a s.load) := fun W h => hr.below (Nat.le_refl _) h
  clear hr
  go_enter Try.func73, Try.ntmps73
  go_wp2_with fail
  refine (iCopyBytes a n cap s.load _ hl (HR.out _ (by go_grown)) hnil hn).mono ?_
  rintro e w5 ⟨v5, rfl, ho5, hb5⟩
  obtain ⟨a5, cap5, rfl, -⟩ := ho5.rb
  have hz := hb5.size
  simp at hz
  have hc0 : ∀ o, w5.cell? ⟨w.heap.size, o, none⟩ = (#[.int .i64 s.strip.path, .int .i64 s.strip.frm, .bool s.strip.syn, .bool s.strip.ackd, .bool s.strip.rst, .int .i64 s.strip.seq, .int .i64 s.strip.ack, .int .i64 s.strip.fin, .int .i64 s.strip.opt, .int .i64 s.strip.a, .int .i64 s.strip.b, .slice a n cap] : Array Value)[o]? := fun o => by rw [(bcell hb5).1 w.heap.size o (by simp; omega)]; simp [go_sem, Seg.strip]
  have hc1 : ∀ o, w5.cell? ⟨w.heap.size + 1, o, none⟩ = (#[.int .i64 0, .int .i64 0, .bool false, .bool false, .bool false, .int .i64 0, .int .i64 0, .int .i64 0, .int .i64 0, .int .i64 0, .int .i64 0, .slice none 0 0] : Array Value)[o]? := fun o => by rw [(bcell hb5).1 (w.heap.size + 1) o (by simp)]; simp [go_sem]
  have hf0 := fun o => (bcell hb5).2 w.heap.size o (by simp; omega)
  have hf1 := fun o => (bcell hb5).2 (w.heap.size + 1) o (by simp)
  have z1 : w.heap.size < w5.heap.size := by omega
  have z2 : w.heap.size + 1 < w5.heap.size := by omega
  have HB : Hid _ := hb5
  have HO : Hid _ := ho5
  clear hb5 ho5 hz
  go_wp2
  have hB1 : Below w.heap.size w w5 := Below.trans (by go_grown) (HB.out.mono (by simp; omega))
  refine bodyPost_ret (v := .agg #[.int .i64 s.strip.path, .int .i64 s.strip.frm, .bool s.strip.syn, .bool s.strip.ackd, .bool s.strip.rst, .int .i64 s.strip.seq, .int .i64 s.strip.ack, .int .i64 s.strip.fin, .int .i64 s.strip.opt, .int .i64 s.strip.a, .int .i64 s.strip.b, .slice a5 s.load.length cap5]) (by simp [results, Try.results73, go_sem, hc1, hl]) rfl ⟨_, rfl, ?_, ?_⟩
  · refine OB.mono (OB.keeps HO.out fun g hg => ?_) (by simp; omega)
    simp at hg
    repeat rw [Below.heap_setCell _ _ _ _ (by dsimp only; omega)]
  · clear hc0 hc1 hf0 hf1 HO HB
    go_grown
end Go.Proofs.Ytebgibjokljlbaa

/- What the law's own helpers (measure, copy, compare, mark, hold) make of rows of bools; no condition but that there are at most a million parts. -/
namespace Go.Proofs.Ytebgibjokljlbaa
open Go.RowKit
set_option linter.unusedVariables false
set_option maxRecDepth 8000

abbrev bls (t : TypeId) : Sh := .row t .bool
theorem rd_bls {w : World} {B : Nat} {t : TypeId} {l : List Bool} {v : Value} (h : (bls t).Rd w B l [v]) : ∃ a cap, v = .slice a l.length cap ∧ l.length ≤ 9223372036854775807 ∧ ∃ b off, (l ≠ [] → a = some ⟨b, off, none⟩ ∧ b < B) ∧ ∀ i (h : i < l.length), w.cell? ⟨b, off + i, none⟩ = some (.bool l[i]) := by
  have hm : l.length ≤ 9223372036854775807 := row_max h
  obtain ⟨a, cap, h1, h2, h3, b, off, h4, h5⟩ := h
  simp only [List.cons.injEq, and_true] at h1
  refine ⟨a, cap, h1, hm, b, off, h4, fun i hi => ?_⟩
  obtain ⟨cs', g1, g2, g3⟩ := h5 i hi
  have g3' : cs' = [.bool l[i]] := g3
  have := g2 0 (by decide)
  rw [g3'] at this
  simpa [Sh.sz] using this
theorem bls_t {w : World} {B : Nat} {t t' : TypeId} {l : List Bool} {cs : List Value} (h : (bls t).Rd w B l cs) : (bls t').Rd w B l cs := h

theorem info_bool : (Try.prog.info? 4).map (fun i => (i.zero, i.size, i.bytes)) = some (some (.bool false), 1, 1) := by kernel_rfl



/-- The marks from c on. -/
def markB (c : Int) (n : Nat) : List Bool := (List.range n).map fun (i : Nat) => (c + (i : Int)) % 3 == 0
theorem markB_length (c : Int) (n : Nat) : (markB c n).length = n := by simp [markB]
theorem markB_get (c : Int) (n i : Nat) (h : i < (markB c n).length) : (markB c n)[i] = ((c + i) % 3 == 0) := by simp [markB]
theorem markB_succ (c : Int) (n : Nat) : markB c (n + 1) = markB c n ++ [(c + n) % 3 == 0] := by simp [markB, List.range_succ]
theorem set_markB {l : List Bool} {c : Int} {k : Nat} (hk : k < l.length) : (markB c k ++ l.drop k).set k ((c + k) % 3 == 0) = markB c (k + 1) ++ l.drop (k + 1) := by
  have h1 := markB_length c k
  rw [List.set_append_right _ _ (by omega), h1, Nat.sub_self, List.drop_eq_getElem_cons hk, List.set_cons_zero, markB_succ, List.append_assoc]
  rfl


end Go.Proofs.Ytebgibjokljlbaa

/- What the law's own helpers (measure, copy) make of segments and rows of them; no condition but that there are at most a million parts. Written by mknet0.py. -/
namespace Go.Proofs.Ytebgibjokljlbaa
open Go.RowKit
set_option linter.unusedVariables false
set_option maxRecDepth 8000


theorem rd_Segment {w : World} {B : Nat} {x : DSegm} {cs : List Value} (h : shSegm.Rd w B x cs) : ∃ v, cs = [.int .i64 x.1, .int .i64 x.2.1, .bool x.2.2.1, .bool x.2.2.2.1, .bool x.2.2.2.2.1, .int .i64 x.2.2.2.2.2.1, .int .i64 x.2.2.2.2.2.2.1, .int .i64 x.2.2.2.2.2.2.2.1, .int .i64 x.2.2.2.2.2.2.2.2.1, .int .i64 x.2.2.2.2.2.2.2.2.2.1, .int .i64 x.2.2.2.2.2.2.2.2.2.2.1, v] ∧ u8s.Rd w B x.2.2.2.2.2.2.2.2.2.2.2.1 [v] ∧ (Lit.int .i64 x.1).wf = true ∧ (Lit.int .i64 x.2.1).wf = true ∧ (Lit.int .i64 x.2.2.2.2.2.1).wf = true ∧ (Lit.int .i64 x.2.2.2.2.2.2.1).wf = true ∧ (Lit.int .i64 x.2.2.2.2.2.2.2.1).wf = true ∧ (Lit.int .i64 x.2.2.2.2.2.2.2.2.1).wf = true ∧ (Lit.int .i64 x.2.2.2.2.2.2.2.2.2.1).wf = true ∧ (Lit.int .i64 x.2.2.2.2.2.2.2.2.2.2.1).wf = true := by
  obtain ⟨p0, q0, e0, ⟨g0, w0⟩, p1, q1, e1, ⟨g1, w1⟩, p2, q2, e2, g2, p3, q3, e3, g3, p4, q4, e4, g4, p5, q5, e5, ⟨g5, w5⟩, p6, q6, e6, ⟨g6, w6⟩, p7, q7, e7, ⟨g7, w7⟩, p8, q8, e8, ⟨g8, w8⟩, p9, q9, e9, ⟨g9, w9⟩, p10, q10, e10, ⟨g10, w10⟩, p11, q11, e11, h11, hz⟩ := h
  have hz' : q11 = [] := hz
  have l := Sh.Rd.len _ _ _ h11
  replace l : p11.length = 1 := l
  match p11, l, h11 with
  | [v], _, h11 =>
    refine ⟨v, ?_, h11, w0, w1, w5, w6, w7, w8, w9, w10⟩
    rw [e0, g0, e1, g1, e2, g2, e3, g3, e4, g4, e5, g5, e6, g6, e7, g7, e8, g8, e9, g9, e10, g10, e11, hz']
    rfl



theorem setRow_cellsN (g : Nat) : ∀ (vs : List Value) (w : World) (off : Nat), setRow w g off vs = w.setCells g off vs
  | [], _, _ => rfl
  | v :: vs, w, off => setRow_cellsN g vs (w.setCell ⟨g, off, none⟩ v) (off + 1)


end Go.Proofs.Ytebgibjokljlbaa
