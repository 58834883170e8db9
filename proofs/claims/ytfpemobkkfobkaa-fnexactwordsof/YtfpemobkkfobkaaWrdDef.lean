/- The words of a line, by data alone: cut at blanks, and what is empty left out; no program in it. -/
import Derived.Test.YtfpemobkkfobkaaRows
import Derived.Test.YtfpemobkkfobkaaStrRow
namespace Go.Proofs.Ytfpemobkkfobkaa
set_option linter.unusedVariables false

/-- What is cut out of s at places that have the byte c: d places are left, the next cut begins at f. -/
def cutR (s : ByteArray) (c : Int) : Nat → Nat → List ByteArray
  | 0, f => [s.extract f s.size]
  | d + 1, f => if byteAt s (s.size - (d + 1)) = c then s.extract f (s.size - (d + 1)) :: cutR s c d (s.size - d) else cutR s c d f
theorem cutR_at {s : ByteArray} {c : Int} {k f : Nat} (hk : k < s.size) :
    cutR s c (s.size - k) f = if byteAt s k = c then s.extract f k :: cutR s c (s.size - (k + 1)) (k + 1) else cutR s c (s.size - (k + 1)) f := by
  have h1 : s.size - k = (s.size - (k + 1)) + 1 := by omega
  rw [h1, cutR]
  have h2 : s.size - (s.size - (k + 1) + 1) = k := by omega
  have h3 : s.size - (s.size - (k + 1)) = k + 1 := by omega
  rw [h2, h3]
theorem cutR_len (s : ByteArray) (c : Int) : ∀ d f, (cutR s c d f).length ≤ d + 1
  | 0, f => by simp [cutR]
  | d + 1, f => by
    rw [cutR]
    split
    · have := cutR_len s c d (s.size - d); simp; omega
    · have := cutR_len s c d f; omega
def full (x : ByteArray) : Bool := x.size != 0
/-- The words that are left from place k on, where the one under way begins at f. -/
def wrdR (s : ByteArray) (k f : Nat) : List ByteArray := (cutR s 32 (s.size - k) f).filter full
def wrdL (s : ByteArray) : List ByteArray := wrdR s 0 0
theorem size_ext (s : ByteArray) (i j : Nat) (hj : j ≤ s.size) : (s.extract i j).size = j - i := by
  rw [ByteArray.size_extract]; omega
theorem full_ext {s : ByteArray} {i j : Nat} (hi : i < j) (hj : j ≤ s.size) : full (s.extract i j) = true := by
  have := size_ext s i j hj; unfold full; simp; omega
theorem none_ext {s : ByteArray} {i : Nat} (hi : i ≤ s.size) : full (s.extract i i) = false := by
  unfold full; simp
theorem wrd_end {s : ByteArray} : wrdR s s.size s.size = [] := by
  unfold wrdR; rw [Nat.sub_self, cutR, List.filter_cons, none_ext (Nat.le_refl _)]; simp
theorem wrd_last {s : ByteArray} {f : Nat} (hf : f < s.size) : wrdR s s.size f = [s.extract f s.size] ++ wrdR s s.size s.size := by
  rw [wrd_end]; unfold wrdR; rw [Nat.sub_self, cutR, List.filter_cons, full_ext hf (Nat.le_refl _)]; simp
theorem wrd_blank {s : ByteArray} {k : Nat} (hk : k < s.size) (hb : byteAt s k = 32) : wrdR s k k = wrdR s (k + 1) (k + 1) := by
  unfold wrdR; rw [cutR_at hk, if_pos hb, List.filter_cons, none_ext (by omega)]; simp
theorem wrd_in {s : ByteArray} {k f : Nat} (hk : k < s.size) (hb : byteAt s k ≠ 32) : wrdR s k f = wrdR s (k + 1) f := by
  unfold wrdR; rw [cutR_at hk, if_neg hb]
theorem wrd_word {s : ByteArray} {k f : Nat} (hk : k < s.size) (hf : f < k) (hb : byteAt s k = 32) : wrdR s k f = [s.extract f k] ++ wrdR s k k := by
  rw [wrd_blank hk hb]
  unfold wrdR; rw [cutR_at hk, if_pos hb, List.filter_cons, full_ext hf (by omega)]; simp
theorem wrd_len (s : ByteArray) (k f : Nat) : (wrdR s k f).length ≤ s.size - k + 1 := Nat.le_trans (List.length_filter_le _ _) (cutR_len _ _ _ _)
end Go.Proofs.Ytfpemobkkfobkaa
