/- Bytes copied, and what StripSegment answers, of the program and of its model: the segment without its option, its load a new one; nothing that was in memory turns; no condition but that the load has at most a million bytes. -/
import Derived.Test.YtlfncadngcjdjaaRows
import Derived.Test.YtlfncadngcjdjaaBase
import Derived.Test.YtlfncadngcjdjaaBytes
import Derived.Test.YtlfncadngcjdjaaAppBytes
import Derived.Test.YtlfncadngcjdjaaSeg
import Derived.Deep.DeepMust
namespace Go.Proofs.Ytlfncadngcjdjaa
open Go.RowKit
set_option linter.unusedVariables false

theorem OB.empty (w : World) (base : Nat) : OB w base (.slice none 0 0) [] := ⟨⟨rfl, Or.inl ⟨rfl, rfl⟩⟩, by simp⟩
theorem OB.made (w : World) (base : Nat) (hb : base ≤ w.heap.size) : OB (w.alloc (.cells #[] 5)) base (.slice (some ⟨w.heap.size, 0, none⟩) 0 0) [] := ⟨World.ownsRow_made w #[] 0 hb (by decide) rfl, by simp⟩

theorem iCopyBytes (a : Option Addr) (n cap : Nat) (l : List Int) (w : World) (hl : l.length = n) (hr : RB w a l) (hnil : a = none → cap = 0) (hn : n ≤ 1048576) :
    Calls Try.prog 80 #[.slice a n cap] w fun e w' => ∃ v, e = .returned v ∧ OB w' w.heap.size v l ∧ Below w.heap.size w w' := by
  go_enter Try.func80, Try.ntmps80
  go_wp2_with (at_builtin; refine app_u8 w rfl _ _ rfl w.heap.size (.slice none 0 0) [] (by rfl) (OB.empty _ _) a l n cap hl (by rfl) hr hnil (by simp; omega) (Nat.le_refl _) ?_; intro v' w5 ho5 hb5 hg5)
  go_ret
  exact ⟨_, rfl, ho5, hb5⟩

def Seg.strip (s : Seg) : Seg := { s with opt := 0, a := 0, b := 0 }

set_option maxHeartbeats 1000000 in
theorem sCopy (s : Seg) (a : Option Addr) (n cap : Nat) (w : World) (hl : s.load.length = n) (hr : RB w a s.load) (hnil : a = none → cap = 0) (hn : n ≤ 1048576) :
    Calls Try.prog 78 #[.agg #[.int .i64 s.path, .int .i64 s.frm, .bool s.syn, .bool s.ackd, .bool s.rst, .int .i64 s.seq, .int .i64 s.ack, .int .i64 s.fin, .int .i64 s.opt, .int .i64 s.a, .int .i64 s.b, .slice a n cap]] w fun e w' => ∃ v, e = .returned (.agg #[.int .i64 s.path, .int .i64 s.frm, .bool s.syn, .bool s.ackd, .bool s.rst, .int .i64 s.seq, .int .i64 s.ack, .int .i64 s.fin, .int .i64 s.opt, .int .i64 s.a, .int .i64 s.b, v]) ∧ OB w' w.heap.size v s.load ∧ Below w.heap.size w w' := by
  have HR : Hid (∀ W, Below w.heap.size w W → RB W a s.load) := fun W h => hr.below (Nat.le_refl _) h
  clear hr
  go_enter Try.func78, Try.ntmps78
  go_wp2_with (at_builtin; go_must (refine app_u8 _ rfl _ _ rfl (w.heap.size + 1 + 1) (.slice (some ⟨w.heap.size + 1 + 1, 0, none⟩) 0 0) [] (by rfl) ?_ a s.load n cap hl (by rfl) ?_ hnil (by simp; omega) ?_ ?_))
  · have h := OB.made ((w.alloc (.cells #[.int .i64 s.path, .int .i64 s.frm, .bool s.syn, .bool s.ackd, .bool s.rst, .int .i64 s.seq, .int .i64 s.ack, .int .i64 s.fin, .int .i64 s.opt, .int .i64 s.a, .int .i64 s.b, .slice a n cap] 31)).alloc (.cells #[.int .i64 0, .int .i64 0, .bool false, .bool false, .bool false, .int .i64 0, .int .i64 0, .int .i64 0, .int .i64 0, .int .i64 0, .int .i64 0, .slice none 0 0] 31)) (w.heap.size + 1 + 1) (by simp)
    simpa using h
  · exact HR.out _ (by go_grown)
  · simp
  intro v' w5 ho5 hb5 hg5
  obtain ⟨a5, cap5, rfl, -⟩ := ho5.rb
  have hz := hb5.size
  simp at hz
  have hc0 : ∀ o, w5.cell? ⟨w.heap.size, o, none⟩ = (#[.int .i64 s.path, .int .i64 s.frm, .bool s.syn, .bool s.ackd, .bool s.rst, .int .i64 s.seq, .int .i64 s.ack, .int .i64 s.fin, .int .i64 s.opt, .int .i64 s.a, .int .i64 s.b, .slice a n cap] : Array Value)[o]? := fun o => by rw [(bcellB hb5).1 w.heap.size o (by omega)]; simp [go_sem]
  have hc1 : ∀ o, w5.cell? ⟨w.heap.size + 1, o, none⟩ = (#[.int .i64 0, .int .i64 0, .bool false, .bool false, .bool false, .int .i64 0, .int .i64 0, .int .i64 0, .int .i64 0, .int .i64 0, .int .i64 0, .slice none 0 0] : Array Value)[o]? := fun o => by rw [(bcellB hb5).1 (w.heap.size + 1) o (by omega)]; simp [go_sem]
  have hf0 := fun o => (bcellB hb5).2 w.heap.size o (by omega)
  have hf1 := fun o => (bcellB hb5).2 (w.heap.size + 1) o (by omega)
  have z1 : w.heap.size < w5.heap.size := by omega
  have z2 : w.heap.size + 1 < w5.heap.size := by omega
  have HB : Hid _ := hb5
  have HO : Hid _ := ho5
  clear hb5 ho5 hg5 hz
  go_wp2
  have hB1 : Below w.heap.size w w5 := Below.trans (by go_grown) (HB.out.mono (by omega))
  refine bodyPost_ret (v := .agg #[.int .i64 s.path, .int .i64 s.frm, .bool s.syn, .bool s.ackd, .bool s.rst, .int .i64 s.seq, .int .i64 s.ack, .int .i64 s.fin, .int .i64 s.opt, .int .i64 s.a, .int .i64 s.b, .slice a5 s.load.length cap5]) (by simp [results, Try.results78, go_sem, hc1, hl]) rfl ⟨_, rfl, ?_, ?_⟩
  · refine OB.mono (OB.keeps HO.out fun g hg => ?_) (by omega)
    repeat rw [Below.heap_setCell _ _ _ _ (by dsimp only; omega)]
  · clear hc0 hc1 hf0 hf1 HO HB
    go_grown


set_option maxHeartbeats 1000000 in
theorem iStrip (s : Seg) (a : Option Addr) (n cap : Nat) (w : World) (hl : s.load.length = n) (hr : RB w a s.load) (hnil : a = none → cap = 0) (hn : n ≤ 1048576) :
    Calls Try.prog 56 #[.agg #[.int .i64 s.path, .int .i64 s.frm, .bool s.syn, .bool s.ackd, .bool s.rst, .int .i64 s.seq, .int .i64 s.ack, .int .i64 s.fin, .int .i64 s.opt, .int .i64 s.a, .int .i64 s.b, .slice a n cap]] w fun e w' => ∃ v, e = .returned (.agg #[.int .i64 s.strip.path, .int .i64 s.strip.frm, .bool s.strip.syn, .bool s.strip.ackd, .bool s.strip.rst, .int .i64 s.strip.seq, .int .i64 s.strip.ack, .int .i64 s.strip.fin, .int .i64 s.strip.opt, .int .i64 s.strip.a, .int .i64 s.strip.b, v]) ∧ OB w' w.heap.size v s.load ∧ Below w.heap.size w w' := by
  have HR : Hid (∀ W, Below w.heap.size w W → RB W a s.load) := fun W h => hr.below (Nat.le_refl _) h
  clear hr
  go_enter Try.func56, Try.ntmps56
  go_wp2_with fail
  refine (iCopyBytes a n cap s.load _ hl (HR.out _ (by go_grown)) hnil hn).mono ?_
  rintro e w5 ⟨v5, rfl, ho5, hb5⟩
  obtain ⟨a5, cap5, rfl, -⟩ := ho5.rb
  have hz := hb5.size
  simp at hz
  have hc0 : ∀ o, w5.cell? ⟨w.heap.size, o, none⟩ = (#[.int .i64 s.strip.path, .int .i64 s.strip.frm, .bool s.strip.syn, .bool s.strip.ackd, .bool s.strip.rst, .int .i64 s.strip.seq, .int .i64 s.strip.ack, .int .i64 s.strip.fin, .int .i64 s.strip.opt, .int .i64 s.strip.a, .int .i64 s.strip.b, .slice a n cap] : Array Value)[o]? := fun o => by rw [(bcell hb5).1 w.heap.size o (by simp; omega)]; simp [go_sem, Seg.strip]
  have hc1 : ∀ o, w5.cell? ⟨w.heap.size + 1, o, none⟩ = (#[.int .i64 0, .int .i64 0, .bool false, .bool false, .bool false, .int .i64 0, .int .i64 0, .int .i64 0, .int .i64 0, .int .i64 0, .int .i64 0, .slice none 0 0] : Array Value)[o]? := fun o => by rw [(bcell hb5).1 (w.heap.size + 1) o (by simp)]; simp [go_sem]
  have hf0 := fun o => (bcell hb5).2 w.heap.size o (by simp; omega)
  have hf1 := fun o => (bcell hb5).2 (w.heap.size + 1) o (by simp)
  have z1 : w.heap.size < w5.heap.size := by omega
  have z2 : w.heap.size + 1 < w5.heap.size := by omega
  have HB : Hid _ := hb5
  have HO : Hid _ := ho5
  clear hb5 ho5 hz
  go_wp2
  have hB1 : Below w.heap.size w w5 := Below.trans (by go_grown) (HB.out.mono (by simp; omega))
  refine bodyPost_ret (v := .agg #[.int .i64 s.strip.path, .int .i64 s.strip.frm, .bool s.strip.syn, .bool s.strip.ackd, .bool s.strip.rst, .int .i64 s.strip.seq, .int .i64 s.strip.ack, .int .i64 s.strip.fin, .int .i64 s.strip.opt, .int .i64 s.strip.a, .int .i64 s.strip.b, .slice a5 s.load.length cap5]) (by simp [results, Try.results56, go_sem, hc1, hl]) rfl ⟨_, rfl, ?_, ?_⟩
  · refine OB.mono (OB.keeps HO.out fun g hg => ?_) (by simp; omega)
    simp at hg
    repeat rw [Below.heap_setCell _ _ _ _ (by dsimp only; omega)]
  · clear hc0 hc1 hf0 hf1 HO HB
    go_grown
end Go.Proofs.Ytlfncadngcjdjaa
