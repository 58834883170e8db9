/- The program's own row of bytes that is read from its beginning on: what takeNumber answers and leaves; no condition but on lengths. -/
import Derived.Test.YtmiomnpfjigojaaRows
import Derived.Test.YtmiomnpfjigojaaBase
import Derived.Test.YtmiomnpfjigojaaBytes
import Derived.Test.YtmiomnpfjigojaaSpecPack
import Derived.Test.YtmiomnpfjigojaaLaw
import Derived.Laws.BitsAllLaws
namespace Go.Proofs.Ytmiomnpfjigojaa
open Go.RowKit
set_option linter.unusedVariables false

theorem or256 (x y : Int) (hx : 0 ≤ x ∧ x < 1099511627776) (hy : 0 ≤ y ∧ y ≤ 255) : bits .or .i64 (x * 256) y = x * 256 + y := by
  obtain ⟨a, rfl⟩ := Int.eq_ofNat_of_zero_le hx.1
  obtain ⟨b, rfl⟩ := Int.eq_ofNat_of_zero_le hy.1
  have h1 : (BitVec.ofInt 64 ((a : Int) * 256)).toNat = a * 256 := by
    rw [show (a : Int) * 256 = ((a * 256 : Nat) : Int) by rw [Int.natCast_mul]; rfl, BitVec.ofInt_natCast, BitVec.toNat_ofNat]; exact Nat.mod_eq_of_lt (by omega)
  have h2 : (BitVec.ofInt 64 (b : Int)).toNat = b := by
    rw [BitVec.ofInt_natCast, BitVec.toNat_ofNat]; exact Nat.mod_eq_of_lt (by omega)
  have h3 : a * 256 ||| b = a * 256 + b := by
    rw [Nat.mul_comm a 256]
    exact (Nat.two_pow_add_eq_or_of_lt (i := 8) (b := b) (by omega) a).symm
  show IntKind.i64.wrap ((BitVec.ofInt 64 ((a : Int) * 256) ||| BitVec.ofInt 64 (b : Int)).toNat : Int) = _
  rw [BitVec.toNat_or, h1, h2, h3, IntKind.wrap_i64]
  omega

set_option maxRecDepth 8000 in
set_option maxHeartbeats 1000000 in
theorem iTakeNumber (g b off : Nat) (n cap sz : Nat) (l : List Int) (w : World) (hl : l.length = n) (hc : n ≤ cap) (hm : cap ≤ 9223372036854775807) (h1 : 1 ≤ sz) (h3 : sz ≤ 3) (hsz : sz ≤ n) (hr : ∀ i, i < n → w.cell? ⟨b, off + i, none⟩ = some (.int .u8 (l.getD i 0))) (hbd : ∀ x ∈ l, 0 ≤ x ∧ x ≤ 255)
    (hcl : w.cell? ⟨g, 0, none⟩ = some (.slice (some ⟨b, off, none⟩) n cap)) (hf : w.frozen? ⟨g, 0, none⟩ = false) (hne : g ≠ b) (hcap : sz < cap) :
    Calls Try.prog 62 #[.pointer (some ⟨g, 0, none⟩), .int .i64 sz] w fun e w' => e = .returned (.int .i64 (takeN (l.take sz))) ∧ w' = w.setCell ⟨g, 0, none⟩ (.slice (some ⟨b, off + sz, none⟩) (n - sz) (cap - sz)) := by
  have i1 : (sz : Int) ≤ cap := by omega
  have i2 : (0 : Int) ≤ sz := by omega
  have i3 : (sz : Int) ≤ n := by omega
  have n4 : ¬ cap = sz := by omega
  go_enter Try.func62, Try.ntmps62
  go_wp2
  go_loop [5, 14] (fun t i => ∃ k : Nat, k ≤ sz ∧ i = .int .i64 k ∧ t = .int .i64 (takeN (l.take k))) (fun _ i => sz - (intOf i).toNat)
  case atStart => exact ⟨0, Nat.zero_le _, rfl, rfl⟩
  case round =>
    obtain ⟨k, hk, rfl, rfl⟩ := hrel
    by_cases hlt : k < sz
    · have ck := hr k (by omega)
      have bk := getD_bd hbd k (by omega)
      have tb := takeN_bd (l.take k) (fun x hx => hbd x (List.mem_of_mem_take hx))
      have hle : (256 : Int) ^ (l.take k).length ≤ 65536 := by
        have : (l.take k).length = k := by simp; omega
        rw [this]
        have : k = 0 ∨ k = 1 ∨ k = 2 := by omega
        rcases this with rfl | rfl | rfl <;> decide
      have hs : takeN (l.take (k + 1)) = takeN (l.take k) * 256 + l.getD k 0 := by
        rw [List.take_succ_eq_append_getElem (by omega), takeN_snoc]
        simp [List.getD_eq_getElem?_getD, List.getElem?_eq_getElem (show k < l.length by omega)]
      have HS : Hid _ := hs
      clear hr hs
      generalize l.getD k 0 = x at *
      generalize takeN (l.take k) = y at *
      have hy : y < 65536 := by omega
      clear hle
      have tb0 := tb.1
      clear tb
      have ho := or256 y x ⟨tb0, by omega⟩ bk
      go_wp2
      go_round
      case rel => exact ⟨k + 1, by omega, by go_num, by rw [HS.out]⟩
      case measure => simp [intOf]; omega
    · obtain rfl : k = sz := by omega
      go_wp2
      go_ret
      exact ⟨rfl, rfl⟩
end Go.Proofs.Ytmiomnpfjigojaa
