/- Plain facts on segments that are read from bytes: the program's way and the model's give the same; no condition but that bytes are bytes. -/
import Derived.Test.YtmiomnpfjigojaaRows
import Derived.Test.YtmiomnpfjigojaaBase
import Derived.Test.YtmiomnpfjigojaaBytes
import Derived.Test.YtmiomnpfjigojaaSeg
import Derived.Test.YtmiomnpfjigojaaSpecPack
import Derived.Test.YtmiomnpfjigojaaTake
import Derived.Test.YtmiomnpfjigojaaRead
namespace Go.Proofs.Ytmiomnpfjigojaa
open Go.RowKit
set_option linter.unusedVariables false

/-- The segment that the model reads from bytes. -/
def mdSeg (l : List Int) : Seg :=
  ⟨l.getD 0 0 / 2, l.getD 0 0 % 2, l.getD 1 0 % 2 == 1, l.getD 1 0 / 2 % 2 == 1, l.getD 1 0 / 4 % 2 == 1, takeN ((l.drop 2).take 2), takeN ((l.drop 4).take 2), takeN ((l.drop 6).take 2), l.getD 8 0, takeN ((l.drop 9).take 3), takeN ((l.drop 12).take 3), (l.drop 16).take (l.length - 18)⟩
theorem and_all : ∀ k : Fin 256, ((bits .and .i64 ((k.val : Nat) : Int) 1 != 0) = (((k.val : Nat) : Int) % 2 == 1)) ∧ ((bits .and .i64 ((k.val : Nat) : Int) 2 != 0) = (((k.val : Nat) : Int) / 2 % 2 == 1)) ∧ ((bits .and .i64 ((k.val : Nat) : Int) 4 != 0) = (((k.val : Nat) : Int) / 4 % 2 == 1)) := by decide +kernel
theorem and_bits {x : Int} (h0 : 0 ≤ x) (h1 : x ≤ 255) : ((bits .and .i64 x 1 != 0) = (x % 2 == 1)) ∧ ((bits .and .i64 x 2 != 0) = (x / 2 % 2 == 1)) ∧ ((bits .and .i64 x 4 != 0) = (x / 4 % 2 == 1)) := by
  obtain ⟨k, rfl⟩ : ∃ k : Nat, x = (k : Int) := ⟨x.toNat, by omega⟩
  exact and_all ⟨k, by omega⟩
theorem tk_cut {l : List Int} {k z : Nat} (h : k + z ≤ l.length - 2) : tk (l.take (l.length - 2)) k z = takeN ((l.drop k).take z) := by
  unfold tk
  congr 1
  rw [List.drop_take, List.take_take]
  congr 1
  omega
theorem tk_one {l : List Int} {k : Nat} (h : k + 1 ≤ l.length - 2) : tk (l.take (l.length - 2)) k 1 = l.getD k 0 := by
  rw [tk_cut h]
  have hk : k < l.length := by omega
  have e : (l.drop k).take 1 = [l[k]] := by rw [List.drop_eq_getElem_cons hk]; rfl
  rw [e, List.getD_eq_getElem?_getD, List.getElem?_eq_getElem hk]
  show 0 * 256 + l[k] = l[k]
  omega
theorem md_rd {l : List Int} (h : 18 ≤ l.length) (hbd : ∀ x ∈ l, 0 ≤ x ∧ x ≤ 255) : rdSeg (l.take (l.length - 2)) = mdSeg l := by
  have b1 : 0 ≤ l.getD 1 0 ∧ l.getD 1 0 ≤ 255 := by
    rw [List.getD_eq_getElem?_getD, List.getElem?_eq_getElem (by omega : 1 < l.length)]
    exact hbd _ (List.getElem_mem _)
  obtain ⟨c1, c2, c3⟩ := and_bits b1.1 b1.2
  unfold rdSeg mdSeg
  rw [tk_one (k := 0) (by omega), tk_one (k := 1) (by omega), tk_one (k := 8) (by omega), tk_cut (k := 2) (z := 2) (by omega), tk_cut (k := 4) (z := 2) (by omega), tk_cut (k := 6) (z := 2) (by omega), tk_cut (k := 9) (z := 3) (by omega), tk_cut (k := 12) (z := 3) (by omega), c1, c2, c3]
  congr 1
  rw [List.drop_take]
  congr 1
end Go.Proofs.Ytmiomnpfjigojaa
