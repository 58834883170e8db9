/- What the model's sums and bytes of numbers answer; nothing that was in memory turns; no condition but on lengths. -/
import Derived.Test.YtmiomnpfjigojaaRows
import Derived.Test.YtmiomnpfjigojaaBase
import Derived.Test.YtmiomnpfjigojaaBytes
import Derived.Test.YtmiomnpfjigojaaAppBytes
namespace Go.Proofs.Ytmiomnpfjigojaa
open Go.RowKit
set_option linter.unusedVariables false

def sumStep (p : Int × Int) (x : Int) : Int × Int := ((p.1 + x) % 251, (p.2 + (p.1 + x) % 251) % 251)
def sumFold (l : List Int) : Int × Int := l.foldl sumStep (1, 0)
/-- The sum of bytes. -/
def sumB (l : List Int) : Int := (sumFold l).2 * 256 + (sumFold l).1

theorem sumFold_succ (l : List Int) (k : Nat) (h : k < l.length) : sumFold (l.take (k + 1)) = sumStep (sumFold (l.take k)) (l.getD k 0) := by
  unfold sumFold
  rw [List.take_succ_eq_append_getElem h, List.foldl_append, List.getD_eq_getElem?_getD, List.getElem?_eq_getElem h]
  rfl
theorem sumStep_bd (p : Int × Int) (x : Int) : (0 ≤ (sumStep p x).1 ∧ (sumStep p x).1 ≤ 250) ∧ (0 ≤ (sumStep p x).2 ∧ (sumStep p x).2 ≤ 250) := by
  unfold sumStep; constructor <;> constructor <;> dsimp only <;> omega
theorem sumFold_bd (l : List Int) : (0 ≤ (sumFold l).1 ∧ (sumFold l).1 ≤ 250) ∧ (0 ≤ (sumFold l).2 ∧ (sumFold l).2 ≤ 250) := by
  rcases List.eq_nil_or_concat l with rfl | ⟨m, x, rfl⟩
  · decide
  · unfold sumFold; rw [List.concat_eq_append, List.foldl_append]; exact sumStep_bd _ _
theorem sumB_bd (l : List Int) : 0 ≤ sumB l ∧ sumB l ≤ 64250 := by
  have := sumFold_bd l; unfold sumB; omega

set_option maxHeartbeats 400000 in
theorem sSumBytes (a : Option Addr) (n cap : Nat) (l : List Int) (w : World) (hl : l.length = n) (hr : RB w a l) (hn : n ≤ 281474976710656) :
    Calls Try.prog 69 #[.slice a n cap] w fun e w' => e = .returned (.int .i64 (sumB l)) ∧ w' = w := by
  go_enter Try.func69, Try.ntmps69
  go_wp2
  go_loop [3, 4, 5] (fun h s i => ∃ k : Nat, k ≤ n ∧ i = .int .i64 k ∧ h = .int .i64 (sumFold (l.take k)).1 ∧ s = .int .i64 (sumFold (l.take k)).2) (fun _ _ i => n - (intOf i).toNat)
  case atStart => exact ⟨0, Nat.zero_le _, rfl, rfl, rfl⟩
  case round =>
    obtain ⟨k, hk, rfl, rfl, rfl⟩ := hrel
    by_cases hlt : k < n
    · rcases hr.mem with e | ⟨b, off, rfl, hc⟩
      · subst e; simp at hl; omega
      · have ck := hc k (by omega)
        have bk := getD_bd hr.bd k (by omega)
        have fb := sumFold_bd (l.take k)
        have HS : Hid _ := sumFold_succ l k (by omega)
        clear hc hr
        generalize l.getD k 0 = x at *
        generalize sumFold (l.take k) = p at *
        obtain ⟨p1, p2⟩ := p
        simp only at fb ⊢
        go_wp2
        go_round
        case rel => exact ⟨k + 1, by omega, by go_num, by rw [HS.out]; rfl, by rw [HS.out]; rfl⟩
        case measure => simp [intOf]; omega
    · obtain rfl : k = n := by omega
      have fb := sumFold_bd (l.take k)
      clear hr
      go_wp2
      go_ret
      refine ⟨ret_int ?_, rfl⟩
      rw [List.take_of_length_le (by omega)]
      rfl

/-- The first j of the sz bytes of n, the highest first. -/
def beTo (n : Int) (sz j : Nat) : List Int := (List.range j).map fun (i : Nat) => n / 2 ^ (8 * (sz - 1 - i)) % 256
theorem beTo_bd (n : Int) (sz j : Nat) : ∀ x ∈ beTo n sz j, 0 ≤ x ∧ x ≤ 255 := by
  intro x hx
  obtain ⟨i, _, rfl⟩ := List.mem_map.1 hx
  omega
theorem beTo_length (n : Int) (sz j : Nat) : (beTo n sz j).length = j := by simp [beTo]
theorem beTo_succ (n : Int) (sz j : Nat) : beTo n sz (j + 1) = beTo n sz j ++ [n / 2 ^ (8 * (sz - 1 - j)) % 256] := by simp [beTo, List.range_succ]

set_option maxHeartbeats 400000 in
theorem sBytes (n : Int) (sz : Nat) (w : World) (h1 : 1 ≤ sz) (h8 : sz ≤ 8) :
    Calls Try.prog 102 #[.int .i64 n, .int .i64 sz] w fun e w' => ∃ v, e = .returned v ∧ OB w' w.heap.size v (beTo n sz sz) ∧ Below w.heap.size w w' := by
  go_enter Try.func102, Try.ntmps102
  go_wp2
  go_loopw [5, 6] (fun v i wr => ∃ j : Nat, j ≤ sz ∧ i = .int .i64 ((sz : Int) - 1 - j) ∧ OB wr w.heap.size v (beTo n sz j) ∧ Below w.heap.size w wr) (fun _ i _ => (intOf i + 1).toNat)
  case atStart => exact ⟨0, Nat.zero_le _, by go_num, ⟨World.ownsRow_made w #[] 0 (Nat.le_refl _) (by decide) rfl, by simp [beTo]⟩, (Below.refl _ _).alloc (Nat.le_refl _) _⟩
  case round =>
    obtain ⟨j, hj, rfl, ho, hb⟩ := hrel
    by_cases hlt : j < sz
    · have hsz := hb.size
      go_wp2_with (at_builtin; refine app_u8one wr rfl _ _ rfl w.heap.size u5 _ (by rfl) ho _ (by rfl) (by omega) (by rw [beTo_length]; omega) hsz ?_; intro v' w5 ho5 hb5 hg5)
      go_roundw
      case rel => exact ⟨j + 1, by omega, by go_num, by rw [beTo_succ]; exact ho5, hb.trans hb5⟩
      case measure => simp [intOf]; omega
    · obtain rfl : j = sz := by omega
      go_wp2
      go_ret
      exact ⟨_, rfl, ho, hb⟩

/-- The number that bytes make, the highest first. -/
def takeN (l : List Int) : Int := l.foldl (fun n x => n * 256 + x) 0
theorem takeN_snoc (l : List Int) (x : Int) : takeN (l ++ [x]) = takeN l * 256 + x := by unfold takeN; rw [List.foldl_append]; rfl
theorem takeN_bd' : ∀ (n : Nat) (l : List Int), l.length = n → (∀ x ∈ l, 0 ≤ x ∧ x ≤ 255) → 0 ≤ takeN l ∧ takeN l < 256 ^ l.length := by
  intro n
  induction n with
  | zero => intro l hl _; rw [List.length_eq_zero_iff] at hl; subst hl; simp [takeN]
  | succ n ih =>
    intro l hl h
    rcases List.eq_nil_or_concat l with rfl | ⟨m, x, rfl⟩
    · simp at hl
    · rw [List.concat_eq_append] at *
      have h1 := ih m (by simp at hl; omega) (fun y hy => h y (List.mem_append_left _ hy))
      have h2 := h x (by simp)
      rw [takeN_snoc, List.length_append, List.length_singleton, Int.pow_succ]
      omega
theorem takeN_bd (l : List Int) (h : ∀ x ∈ l, 0 ≤ x ∧ x ≤ 255) : 0 ≤ takeN l ∧ takeN l < 256 ^ l.length := takeN_bd' _ l rfl h

set_option maxHeartbeats 400000 in
theorem sTake (a : Option Addr) (n cap : Nat) (l : List Int) (at_ sz : Nat) (w : World) (hl : l.length = n) (hr : RB w a l) (hn : n ≤ 281474976710656) (h1 : 1 ≤ sz) (h3 : sz ≤ 3) (hin : at_ + sz ≤ n) :
    Calls Try.prog 68 #[.slice a n cap, .int .i64 at_, .int .i64 sz] w fun e w' => e = .returned (.int .i64 (takeN ((l.drop at_).take sz))) ∧ w' = w := by
  go_enter Try.func68, Try.ntmps68
  go_wp2
  go_loop [7, 8] (fun t i => ∃ k : Nat, k ≤ sz ∧ i = .int .i64 k ∧ t = .int .i64 (takeN ((l.drop at_).take k))) (fun _ i => sz - (intOf i).toNat)
  case atStart => exact ⟨0, Nat.zero_le _, rfl, rfl⟩
  case round =>
    obtain ⟨k, hk, rfl, rfl⟩ := hrel
    by_cases hlt : k < sz
    · rcases hr.mem with e | ⟨b, off, rfl, hc⟩
      · subst e; simp at hl; omega
      · have ck := hc (at_ + k) (by omega)
        have bk := getD_bd hr.bd (at_ + k) (by omega)
        have tb := takeN_bd ((l.drop at_).take k) (fun x hx => hr.bd x (List.mem_of_mem_drop (List.mem_of_mem_take hx)))
        have hle : (256 : Int) ^ ((l.drop at_).take k).length ≤ 65536 := by
          have : ((l.drop at_).take k).length = k := by simp; omega
          rw [this]
          have : k = 0 ∨ k = 1 ∨ k = 2 := by omega
          rcases this with rfl | rfl | rfl <;> decide
        have hs : takeN ((l.drop at_).take (k + 1)) = takeN ((l.drop at_).take k) * 256 + l.getD (at_ + k) 0 := by
          rw [List.take_succ_eq_append_getElem (by simp; omega), takeN_snoc]
          simp [List.getD_eq_getElem?_getD, List.getElem?_eq_getElem (show at_ + k < l.length by omega)]
        have HS : Hid _ := hs
        clear hc hr hs
        generalize l.getD (at_ + k) 0 = x at *
        generalize takeN ((l.drop at_).take k) = y at *
        have hy : y < 65536 := by omega
        clear hle
        have tb0 := tb.1
        clear tb
        go_wp2
        go_round
        case rel => exact ⟨k + 1, by omega, by go_num, by rw [HS.out]⟩
        case measure => simp [intOf]; omega
    · obtain rfl : k = sz := by omega
      clear hr
      go_wp2
      go_ret
      exact ⟨rfl, rfl⟩
end Go.Proofs.Ytmiomnpfjigojaa
