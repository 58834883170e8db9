/- Rows of bools and of segments as parameters of a law: opened; no condition. -/
import Derived.Test.YtlfncadngcjdjaaRows
import Derived.Test.YtlfncadngcjdjaaBase
import Derived.Test.YtlfncadngcjdjaaBytes
import Derived.Test.YtlfncadngcjdjaaMem
import Derived.Test.YtlfncadngcjdjaaMemOpen
import Derived.Test.YtlfncadngcjdjaaHBase
import Derived.Test.YtlfncadngcjdjaaHOpen0
import Derived.Test.YtlfncadngcjdjaaHMark
import Derived.Test.YtlfncadngcjdjaaMSegs
import Derived.Test.YtlfncadngcjdjaaHSegs
import Derived.Test.YtlfncadngcjdjaaHBool
import Derived.Test.YtlfncadngcjdjaaHNet
namespace Go.Proofs.Ytlfncadngcjdjaa
open Go.RowKit Go.ChangeShapes Go.WideShapes Go.ChangeAt
set_option linter.unusedVariables false
set_option maxRecDepth 8000
theorem open_bls {H : Type} {enc : TypeId × Value → H} {w : World} {base : Nat} {v : Value} (o : Value.okWide Try.prog w .any base 25 v) (hx : ∃ n y, DataW.trod enc Try.prog w 0 (fun _ => true) true n 25 v.cells.toList = some y) :
    ∃ l a n cap, v = .slice a n cap ∧ Hid (l.length = n) ∧ Hid (∀ W, Below w.heap.size w W → (bls 4).Rd W w.heap.size l [.slice a n cap]) ∧ n ≤ 9223372036854775807 := by
  obtain ⟨l, hd⟩ := (open_sh (enc := enc) (P := Try.prog) (w := w) (bls 4)).1 _ _ ⟨_, Try.underlying25, by kernel_rfl, by decide, Try.underlying4⟩ hx
  obtain ⟨a, cap, e, r⟩ := hd
  have : v = .slice a l.length cap := by cases v <;> simp_all [Value.okWide, Cell.okWide, Cell.ok, Value.cells, Try.underlying25]
  subst this
  have hr : (bls 4).Rd w w.heap.size l [.slice a l.length cap] := ⟨a, cap, rfl, r⟩
  exact ⟨l, a, l.length, cap, rfl, rfl, fun W hW => Sh.Rd.below hr (Nat.le_refl _) hW, row_max hr⟩
theorem open_segs {H : Type} {enc : TypeId × Value → H} {w : World} {base : Nat} {v : Value} (o : Value.okWide Try.prog w .any base 39 v) (hx : ∃ n y, DataW.trod enc Try.prog w 0 (fun _ => true) true n 39 v.cells.toList = some y) :
    ∃ l a n cap, v = .slice a n cap ∧ Hid (l.length = n) ∧ Hid (∀ W, Below w.heap.size w W → shSegms.Rd W w.heap.size l [.slice a n cap]) ∧ n ≤ 9223372036854775807 := by
  obtain ⟨l, hd⟩ := (open_sh (enc := enc) (P := Try.prog) (w := w) shSegms).1 _ _ fits_segs hx
  obtain ⟨a, cap, e, r⟩ := hd
  have : v = .slice a l.length cap := by cases v <;> simp_all [Value.okWide, Cell.okWide, Cell.ok, Value.cells, Try.underlying39]
  subst this
  have hr : shSegms.Rd w w.heap.size l [.slice a l.length cap] := ⟨a, cap, rfl, r⟩
  exact ⟨l, a, l.length, cap, rfl, rfl, fun W hW => Sh.Rd.below hr (Nat.le_refl _) hW, row_max hr⟩
theorem own_w {sh : Sh} {w : World} {lo hi : Nat} {d : sh.El} {A A' : Array Value} (h : Own w lo hi sh d A.toList) (e : A = A') : Own w lo hi sh d A'.toList := e ▸ h
theorem lMarkSegsO (l : List DSegm) (A : Array Value) (v : Value) (hA : A = #[v]) (c : Int) (w : World) (lo hi : Nat) (ho : Own w lo hi shSegms l A.toList) (hT : totSegms l ≤ 1048576) (hc0 : 0 ≤ c) (hc1 : c ≤ 33554432) :
    Calls Try.prog 35 #[v, .int .i64 c] w fun e w' => e = .returned (.int .i64 (c + (fsum wtSegm l : Nat))) ∧ Own w' lo hi shSegms (mkL mkSegm wtSegm c l) A.toList ∧ Within lo hi w w' := by
  subst hA
  obtain ⟨bs, h1, h2, h3⟩ := ho
  have hw := wtSegmN l
  unfold totSegms at hT
  refine (lMarkSegms l v c w bs h1 h2 (by omega) hc0 (by omega)).mono ?_
  rintro e w' ⟨he, ho, ht⟩
  exact ⟨he, ⟨bs, ho, h2, h3⟩, ⟨ht.os, ht.tape, ht.output, ht.size, fun b hb hn => ht.block b hb fun hm => hn (h3 b hm)⟩⟩
theorem lMarkBlsO (l : List Bool) (A : Array Value) (v : Value) (hA : A = #[v]) (c : Int) (w : World) (lo hi : Nat) (ho : Own w lo hi (bls 4) l A.toList) (hT : l.length ≤ 1048576) (hc0 : 0 ≤ c) (hc1 : c ≤ 33554432) :
    Calls Try.prog 28 #[v, .int .i64 c] w fun e w' => e = .returned (.int .i64 (c + (l.length : Nat))) ∧ Own w' lo hi (bls 4) (markB c l.length) A.toList ∧ Within lo hi w w' := by
  subst hA
  obtain ⟨bs, h1, h2, h3⟩ := ho
  refine (lMarkBools _ l v c w bs h1 (by omega) hc0 (by omega)).mono ?_
  rintro e w' ⟨he, ho, ht⟩
  exact ⟨he, ⟨bs, ho, h2, h3⟩, ⟨ht.os, ht.tape, ht.output, ht.size, fun b hb hn => ht.block b hb fun hm => hn (h3 b hm)⟩⟩
end Go.Proofs.Ytlfncadngcjdjaa
