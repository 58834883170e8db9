/- Both WordsOf, and the law's own helpers over their answers: compared, marked, held against the marks; a string as a law's parameter; no condition but on lengths. -/
import Derived.Test.YtfpemobkkfobkaaRows
import Derived.Test.YtfpemobkkfobkaaBase
import Derived.Test.YtfpemobkkfobkaaBytes
import Derived.Test.YtfpemobkkfobkaaBox
import Derived.Test.YtfpemobkkfobkaaLetT2
import Derived.Test.YtfpemobkkfobkaaStrRow
import Derived.Test.YtfpemobkkfobkaaStrMk
import Derived.Test.YtfpemobkkfobkaaWrdDef
import Derived.Test.YtfpemobkkfobkaaWrdSp
import Derived.Test.YtfpemobkkfobkaaWrdIm
namespace Go.Proofs.Ytfpemobkkfobkaa
open Go.RowKit Go.ChangeShapes Go.WideShapes Go.ChangeAt
set_option linter.unusedVariables false

theorem open_str {w : World} {base : Nat} {v : Value} (o : Value.okWide Try.prog w .any base 9 v) : ∃ s, v = .string s := by
  cases v <;> simp_all [Value.okWide, Cell.okWide, Cell.ok, Try.underlying9]
theorem OT.set2 {w : World} {base b o o' : Nat} {v x y : Value} {l : List ByteArray} (h : OT w base v l) (hb : b < base) : OT ((w.setCell ⟨b, o, none⟩ x).setCell ⟨b, o', none⟩ y) base v l :=
  h.keeps fun g hg _ => by rw [Below.heap_setCell _ _ _ _ (by dsimp only; omega), Below.heap_setCell _ _ _ _ (by dsimp only; omega)]
theorem OT.mono {w : World} {base base' : Nat} {v : Value} {l : List ByteArray} (h : OT w base v l) (hB : base' ≤ base) : OT w base' v l := by
  refine ⟨?_⟩
  obtain ⟨h1, h2 | ⟨g, cap, cur, e, hg, r⟩⟩ := h.own
  · exact ⟨h1, Or.inl h2⟩
  · exact ⟨h1, Or.inr ⟨g, cap, cur, e, by omega, r⟩⟩
set_option maxHeartbeats 400000 in
theorem sWordsOf (s : ByteArray) (w : World) (hn : s.size ≤ 1048576) :
    Calls Try.prog 10 #[.string s] w fun e w' => ∃ v, e = .returned (.agg #[.int .i64 0, v]) ∧ OT w' w.heap.size v (wrdL s) ∧ Below w.heap.size w w' := by
  have HS : Hid (∀ W, Calls Try.prog 17 #[.string s] W fun e w' => ∃ v, e = .returned v ∧ OT w' W.heap.size v (wrdL s) ∧ Below W.heap.size W w') := fun W => sWords s W hn
  go_enter Try.func10, Try.ntmps10
  go_wp2_with fail
  refine (HS.out _).mono ?_
  rintro e w1 ⟨v, rfl, ho, hb⟩
  obtain ⟨c0, c1, f0, f1, hbw⟩ := one_boxL hb
  obtain ⟨a, c, rfl, -⟩ := ho.rt
  have HO : Hid _ := ho
  clear hb ho HS
  go_wp2_with fail
  exact bodyPost_ret (v := .agg #[.int .i64 0, .slice a (wrdL s).length c]) (by simp [results, Try.results10, go_sem, c0, c1]) rfl ⟨_, rfl, (HO.out.set2 (by simp)).mono (by simp), ((hbw.setCell (by simp) _).setCell (by simp) _)⟩
set_option maxHeartbeats 400000 in
theorem iWordsOf (s : ByteArray) (w : World) (hn : s.size ≤ 1048576) :
    Calls Try.prog 11 #[.string s] w fun e w' => ∃ v, e = .returned (.agg #[.int .i64 0, v]) ∧ OT w' w.heap.size v (wrdL s) ∧ Below w.heap.size w w' := by
  have HS : Hid (∀ W, Calls Try.prog 18 #[.string s] W fun e w' => ∃ v, e = .returned v ∧ OT w' W.heap.size v (wrdL s) ∧ Below W.heap.size W w') := fun W => iWordsIn s W hn
  go_enter Try.func11, Try.ntmps11
  go_wp2_with fail
  refine (HS.out _).mono ?_
  rintro e w1 ⟨v, rfl, ho, hb⟩
  obtain ⟨c0, c1, f0, f1, hbw⟩ := one_boxL hb
  obtain ⟨a, c, rfl, -⟩ := ho.rt
  have HO : Hid _ := ho
  clear hb ho HS
  go_wp2_with fail
  exact bodyPost_ret (v := .agg #[.int .i64 0, .slice a (wrdL s).length c]) (by simp [results, Try.results11, go_sem, c0, c1]) rfl ⟨_, rfl, (HO.out.set2 (by simp)).mono (by simp), ((hbw.setCell (by simp) _).setCell (by simp) _)⟩
set_option maxHeartbeats 400000 in
theorem lEqWordsR (a b : Option Addr) (cap cap' : Nat) (l : List ByteArray) (w : World) (ha : RT w a l) (hb : RT w b l) (hn : l.length ≤ 1073741824) :
    Calls Try.prog 12 #[.agg #[.int .i64 0, .slice a l.length cap], .agg #[.int .i64 0, .slice b l.length cap']] w fun e w' => e = .returned (.bool true) ∧ Below w.heap.size w w' := by
  have HC : Hid (∀ W, Below w.heap.size w W → Calls Try.prog 19 #[.slice a l.length cap, .slice b l.length cap'] W fun e w' => e = .returned (.bool true) ∧ Below W.heap.size W w') := fun W h => lEqStrS a b cap cap' l W (ha.below (Nat.le_refl _) h) (hb.below (Nat.le_refl _) h) hn
  clear ha hb
  generalize l.length = n at *
  go_enter Try.func12, Try.ntmps12
  go_wp2_with fail
  refine (HC.out _ (by go_grown)).mono ?_
  rintro e w1 ⟨rfl, hb1⟩
  go_wp2_with fail
  go_ret
  exact ⟨rfl, Below.trans (by go_grown) (hb1.mono (by simp; omega))⟩
set_option maxHeartbeats 400000 in
theorem lHeldWordsR (a : Option Addr) (cap c n : Nat) (w : World) (ha : RT w a (marksT c n)) (hn : n ≤ 1073741824) (hc0 : 0 < c) (hc1 : c ≤ 1073741824) :
    Calls Try.prog 14 #[.agg #[.int .i64 0, .slice a n cap], .int .i64 c] w fun e w' => e = .returned (.int .i64 ((c + n : Nat) : Int)) ∧ Below w.heap.size w w' := by
  have HC : Hid (∀ W, Below w.heap.size w W → Calls Try.prog 21 #[.slice a n cap, .int .i64 c] W fun e w' => e = .returned (.int .i64 ((c + n : Nat) : Int)) ∧ Below W.heap.size W w') := fun W h => lHeldStrS a cap c n W (ha.below (Nat.le_refl _) h) hn hc0 hc1
  clear ha
  obtain ⟨z, hz⟩ : ∃ z, z = ((c + n : Nat) : Int) := ⟨_, rfl⟩
  rw [← hz] at HC ⊢
  have hz0 : 0 ≤ z := by omega
  clear hz
  go_enter Try.func14, Try.ntmps14
  go_wp2_with fail
  refine (HC.out _ (by go_grown)).mono ?_
  rintro e w1 ⟨rfl, hb⟩
  go_wp2_with fail
  go_ret
  exact ⟨rfl, Below.trans (by go_grown) (hb.mono (by simp))⟩
theorem lMarkStr0 (a : Option Addr) (cap c : Nat) (w : World) :
    Calls Try.prog 20 #[.slice a 0 cap, .int .i64 c] w fun e w' => e = .returned (.int .i64 c) ∧ w' = w := by
  go_enter Try.func20, Try.ntmps20
  go_wp2
  refine wp_loop_rounds 1 ?_
  rw [rounds_succ]
  go_wp2
  go_ret
  exact ⟨rfl, rfl⟩
theorem lMarkStrO (base : Nat) (v : Value) (c : Nat) (l : List ByteArray) (w : World) (ho : OT w base v l) (hbs : base ≤ w.heap.size) (hn : l.length ≤ 1073741824) (hc0 : 0 < c) (hc1 : c ≤ 1073741824) :
    Calls Try.prog 20 #[v, .int .i64 c] w fun e w' => e = .returned (.int .i64 ((c + l.length : Nat) : Int)) ∧ OT w' base v (marksT c l.length) ∧ w.grownBy w' v.ownBlock := by
  have ho' := ho
  obtain ⟨h1, ⟨rfl, hz⟩ | ⟨g, cap, cur, rfl, r⟩⟩ := ho.own
  · have : l = [] := List.length_eq_zero_iff.1 hz
    subst this
    refine (lMarkStr0 none 0 c w).mono ?_
    rintro e w' ⟨rfl, rfl⟩
    exact ⟨by simp, ho', World.grownBy.refl _ _⟩
  · exact lMarkStrS base g cap c l.length l w rfl ho' hbs hn hc0 hc1
set_option maxHeartbeats 400000 in
theorem lMarkWordsR (base : Nat) (v : Value) (c : Nat) (l : List ByteArray) (w : World) (ho : OT w base v l) (hbs : base ≤ w.heap.size) (hn : l.length ≤ 1073741824) (hc0 : 0 < c) (hc1 : c ≤ 1073741824) :
    Calls Try.prog 13 #[.agg #[.int .i64 0, v], .int .i64 c] w fun e w' => e = .returned (.int .i64 ((c + l.length : Nat) : Int)) ∧ OT w' base v (marksT c l.length) ∧ w.grownBy w' v.ownBlock := by
  obtain ⟨a, cap, rfl, -⟩ := ho.rt
  have HC : Hid (∀ W, Below w.heap.size w W → Calls Try.prog 20 #[.slice a l.length cap, .int .i64 c] W fun e w' => e = .returned (.int .i64 ((c + l.length : Nat) : Int)) ∧ OT w' base (.slice a l.length cap) (marksT c l.length) ∧ W.grownBy w' (Value.slice a l.length cap).ownBlock) := fun W h => lMarkStrO base _ c l W (ho.below (Nat.le_refl _) h) (Nat.le_trans hbs h.size) hn hc0 hc1
  clear ho
  generalize l.length = n at *
  obtain ⟨z, hz⟩ : ∃ z, z = ((c + n : Nat) : Int) := ⟨_, rfl⟩
  rw [← hz] at HC ⊢
  clear hz
  go_enter Try.func13, Try.ntmps13
  go_wp2_with fail
  refine (HC.out _ (by go_grown)).mono ?_
  rintro e w1 ⟨rfl, ho1, hg1⟩
  have HO : Hid _ := ho1
  have HG : Hid _ := hg1
  clear ho1 hg1
  go_wp2_with fail
  go_ret
  exact ⟨rfl, HO.out, (World.grownBy_alloc w _ _).trans HG.out⟩
end Go.Proofs.Ytfpemobkkfobkaa
