/- What the program's and the model's LetterText answer, and the law's own comparison of what they answer; nothing that was in memory turns; no condition but on lengths. -/
import Derived.Test.YtfpemobkkfobkaaRows
import Derived.Test.YtfpemobkkfobkaaBase
import Derived.Test.YtfpemobkkfobkaaBytes
import Derived.Test.YtfpemobkkfobkaaBox
import Derived.Test.YtfpemobkkfobkaaLetT
namespace Go.Proofs.Ytfpemobkkfobkaa
open Go.RowKit
set_option linter.unusedVariables false

theorem one_boxL {w w1 : World} {x y : Value} {t : TypeId} (hb : Below (w.alloc (.cells #[x, y] t)).heap.size (w.alloc (.cells #[x, y] t)) w1) :
    w1.cell? ⟨w.heap.size, 0, none⟩ = some x ∧ w1.cell? ⟨w.heap.size, 1, none⟩ = some y ∧ w1.frozen? ⟨w.heap.size, 0, none⟩ = false ∧ w1.frozen? ⟨w.heap.size, 1, none⟩ = false ∧ Below w.heap.size w w1 := by
  refine ⟨?_, ?_, ?_, ?_, ?_⟩
  · rw [hb.cell (p := ⟨w.heap.size, 0, none⟩) (by simp)]; simp
  · rw [hb.cell (p := ⟨w.heap.size, 1, none⟩) (by simp)]; simp
  · rw [hb.frozen (p := ⟨w.heap.size, 0, none⟩) (by simp)]; simp
  · rw [hb.frozen (p := ⟨w.heap.size, 1, none⟩) (by simp)]; simp
  · exact ((Below.refl _ _).alloc (Nat.le_refl _) _).trans (hb.mono (by simp))

def ltC (n : Nat) : Int := if 400 < n then 2 else 0
def ltS (n : Nat) (l : List Int) : ByteArray := if 400 < n then { data := #[] } else strOfNums (letL l)
set_option maxHeartbeats 400000 in
theorem sLetterText (a : Option Addr) (n cap : Nat) (l : List Int) (w : World) (hl : l.length = n) (hr : RB w a l) (hn : n ≤ 1048576) :
    Calls Try.prog 5 #[.slice a n cap] w fun e w' => e = .returned (.agg #[.int .i64 (ltC n), .string (ltS n l)]) ∧ Below w.heap.size w w' := by
  unfold ltC ltS
  by_cases h : 400 < n
  · rw [if_pos h, if_pos h]
    have h1 : (400 : Int) < (n : Int) := by omega
    go_enter Try.func5, Try.ntmps5
    go_wp2
    exact bodyPost_ret (v := .agg #[.int .i64 2, .string { data := #[] }]) (by simp [results, Try.results5, go_sem]) rfl ⟨rfl, by go_grown⟩
  · rw [if_neg h, if_neg h]
    have h1 : ¬ (400 : Int) < (n : Int) := by omega
    have HR : Hid _ := hr
    clear hr
    go_enter Try.func5, Try.ntmps5
    go_wp2_with fail
    refine (sLetters a n cap l _ hl (HR.out.below (Nat.le_refl _) ((Below.refl _ _).alloc (Nat.le_refl _) _)) hn).mono ?_
    rintro e w1 ⟨rfl, hb⟩
    obtain ⟨c0, c1, f0, f1, hbw⟩ := one_boxL hb
    clear hb
    go_wp2_with fail
    exact bodyPost_ret (v := .agg #[.int .i64 0, .string (strOfNums (letL l))]) (by simp [results, Try.results5, go_sem, c0, c1]) rfl ⟨rfl, ((hbw.setCell (by simp) _).setCell (by simp) _)⟩
set_option maxHeartbeats 400000 in
theorem iLetterText (a : Option Addr) (n cap : Nat) (l : List Int) (w : World) (hl : l.length = n) (hr : RB w a l) (hnil : a = none → cap = 0) (hn : n ≤ 1048576) :
    Calls Try.prog 7 #[.slice a n cap] w fun e w' => e = .returned (.agg #[.int .i64 (ltC n), .string (ltS n l)]) ∧ Below w.heap.size w w' := by
  unfold ltC ltS
  have HN : Hid _ := hnil
  clear hnil
  by_cases h : 400 < n
  · rw [if_pos h, if_pos h]
    have h1 : (400 : Int) < (n : Int) := by omega
    go_enter Try.func7, Try.ntmps7
    go_wp2
    exact bodyPost_ret (v := .agg #[.int .i64 2, .string { data := #[] }]) (by simp [results, Try.results7, go_sem]) rfl ⟨rfl, by go_grown⟩
  · rw [if_neg h, if_neg h]
    have h1 : ¬ (400 : Int) < (n : Int) := by omega
    have HR : Hid _ := hr
    clear hr
    go_enter Try.func7, Try.ntmps7
    go_wp2_with fail
    refine (iLetters a n cap l _ hl (HR.out.below (Nat.le_refl _) ((Below.refl _ _).alloc (Nat.le_refl _) _)) HN.out hn).mono ?_
    rintro e w1 ⟨rfl, hb⟩
    obtain ⟨c0, c1, f0, f1, hbw⟩ := one_boxL hb
    clear hb
    go_wp2_with fail
    exact bodyPost_ret (v := .agg #[.int .i64 0, .string (strOfNums (letL l))]) (by simp [results, Try.results7, go_sem, c0, c1]) rfl ⟨rfl, ((hbw.setCell (by simp) _).setCell (by simp) _)⟩
set_option maxHeartbeats 400000 in
theorem lEqTextResult (C : Int) (S : ByteArray) (w : World) :
    Calls Try.prog 8 #[.agg #[.int .i64 C, .string S], .agg #[.int .i64 C, .string S]] w fun e w' => e = .returned (.bool true) ∧ Below w.heap.size w w' := by
  go_enter Try.func8, Try.ntmps8
  go_wp2
  go_ret
  exact ⟨rfl, by go_grown⟩
end Go.Proofs.Ytfpemobkkfobkaa
