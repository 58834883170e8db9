/- What the model makes of a number in decimal, and of a line of a word and numbers; nothing that was in memory turns; no condition but on lengths. -/
import Derived.Test.YtfpemobkkfobkaaGreatDoorRows
import Derived.Laws.BytesArg
import Derived.Deep.DeepCutAuto
import Derived.Deep.RegionHeld3
import Derived.Test.YtfpemobkkfobkaaGreatDoorK01
import Derived.Test.YtfpemobkkfobkaaGreatDoorK02
import Derived.Test.YtfpemobkkfobkaaGreatDoorK04
import Derived.Test.YtfpemobkkfobkaaGreatDoorK09
import Derived.Test.YtfpemobkkfobkaaGreatDoorK10
import Derived.Test.YtfpemobkkfobkaaGreatDoorK11
import Derived.Test.YtfpemobkkfobkaaGreatDoorK57
import Derived.Test.YtfpemobkkfobkaaGreatDoorK58
import Derived.Test.YtfpemobkkfobkaaGreatDoorK59
import Derived.Test.YtfpemobkkfobkaaGreatDoorK60
import Derived.Test.YtfpemobkkfobkaaGreatDoorK61
import Derived.Test.YtfpemobkkfobkaaGreatDoorK79
import Derived.Test.YtfpemobkkfobkaaGreatDoorK88
namespace Go.Proofs.YtfpemobkkfobkaaGreatDoor
open Go.RowKit
set_option linter.unusedVariables false
set_option maxRecDepth 8000

theorem conv_one (x : Int) (b : Nat) (W : World) (hc : W.cell? ⟨b, 0, none⟩ = some (.int .u8 x)) :
    (convert 62 9 (.slice (some ⟨b, 0, none⟩) 1 1)).run Tryz.prog W = .ok (.string (SB [UInt8.ofNat x.toNat])) W := by
  refine run_convert_bytes_arg W _ _ Tryz.underlying62 Tryz.underlying5 b 0 1 1 [x] rfl ?_ _ Tryz.underlying9
  intro i hi
  obtain rfl : i = 0 := by omega
  exact hc
theorem conv_new (x : Int) (W : World) : (convert 62 9 (.slice (some ⟨W.heap.size, 0, none⟩) 1 1)).run Tryz.prog (W.alloc (.cells #[.int .u8 x] 5)) = .ok (.string (SB [UInt8.ofNat x.toNat])) (W.alloc (.cells #[.int .u8 x] 5)) :=
  conv_one x _ _ (by simp)

set_option maxHeartbeats 8000000 in
theorem sDigits : ∀ (n : Nat) (w : World), n ≤ 1048576 → Calls Tryz.prog 33 #[.int .i64 n] w fun e w' => e = .returned (.string (SB (dg n))) ∧ Below w.heap.size w w' := by
  intro n
  induction n using Nat.strongRecOn with
  | _ n ih =>
    intro w hn
    by_cases h : n < 10
    · have hd : (n : Int) < 10 := by omega
      have hcv := conv_new
      have hE : Hid (SB [UInt8.ofNat (48 + n)] = SB (dg n)) := by show _ = _; rw [dg_small h]
      go_enter Tryz.func33, Tryz.ntmps33
      go_wp2
      go_ret
      exact ⟨by rw [← hE.out]; rfl, by go_grown⟩
    · have hd : ¬ (n : Int) < 10 := by omega
      have hrec : Hid (∀ W, Calls Tryz.prog 33 #[.int .i64 ((n / 10 : Nat) : Int)] W fun e w' => e = .returned (.string (SB (dg ((n / 10 : Nat) : Int)))) ∧ Below W.heap.size W w') := fun W => ih (n / 10) (by omega) W (by omega)
      obtain ⟨r, hr⟩ : ∃ r : Nat, r = n % 10 := ⟨_, rfl⟩
      have hE : Hid (SB (dg ((n / 10 : Nat) : Int)) ++ SB [UInt8.ofNat (48 + r)] = SB (dg n)) := by show _ = _; rw [SB_app, dg_more h, hr]
      have hl := dg_len (n := ((n / 10 : Nat) : Int)) (by omega) (by omega)
      have hs1 : (SB (dg ((n / 10 : Nat) : Int))).size = (dg ((n / 10 : Nat) : Int)).length := SB_size _
      have hs2 : (SB [UInt8.ofNat (48 + r)]).size = 1 := SB_size _
      have hs3 : ¬ 9223372036854775807 < (dg ((n / 10 : Nat) : Int)).length + 1 := by omega
      have hq : (n : Int) / 10 = ((n / 10 : Nat) : Int) := by omega
      have hr2 : (n : Int) % 10 = (r : Int) := by omega
      have hr3 : r < 10 := by omega
      have ht : (n : Int).tmod 10 = (r : Int) := by rw [Int.tmod_eq_emod_of_nonneg (by omega)]; exact hr2
      have hw1 : IntKind.i64.wrap ((n / 10 : Nat) : Int) = ((n / 10 : Nat) : Int) := by simp only [IntKind.wrap, IntKind.bits, IntKind.signed]; simp; omega
      have hw2 : IntKind.i64.wrap (48 + (r : Int)) = 48 + (r : Int) := by simp only [IntKind.wrap, IntKind.bits, IntKind.signed]; simp; omega
      have hw3 : IntKind.u8.wrap (48 + (r : Int)) = 48 + (r : Int) := by simp only [IntKind.wrap, IntKind.bits, IntKind.signed]; simp; omega
      obtain ⟨UL, hUL⟩ : ∃ L, L = [UInt8.ofNat (48 + r)] := ⟨_, rfl⟩
      have HCV : Hid (∀ (b : Nat) (W : World), W.cell? ⟨b, 0, none⟩ = some (.int .u8 (48 + (r : Int))) → (convert 62 9 (.slice (some ⟨b, 0, none⟩) 1 1)).run Tryz.prog W = .ok (.string (SB UL)) W) := fun b W hc => by
        have h := conv_one _ b W hc
        rw [show (48 + (r : Int)).toNat = 48 + r by omega, ← hUL] at h
        exact h
      rw [← hUL] at hE hs2
      clear ih hr hr2 hUL
      generalize dg ((n / 10 : Nat) : Int) = D at *
      generalize ((n / 10 : Nat) : Int) = m at *
      go_enter Tryz.func33, Tryz.ntmps33
      go_upto_region 3 with fail
      refine wp_region_noPanic ?_
      refine Goes.start (S := fun w' => Below w.heap.size w w') (z := 100) (by kernel_rfl) ?_
      refine Goes.take (i := 0) (oi := ?oi2) (x := ?vx2) ?ho2 (by kernel_rfl) (by kernel_rfl) (by kernel_rfl) (by kernel_rfl) (fun _ _ _ h => h) (Or.inl ⟨?hw2, ?hy2⟩) (Below.drew (Below.refl _ _)) ?rest2
      case ho2 => (simp only [List.getElem?_toArray, List.getElem?_cons_zero] <;> rfl)
      case hw2 => rfl
      case hy2 => (intro w' hSw; go_simp; (try with_reducible rfl))
      case rest2 =>
      (try simp only [Act.put, List.setIfInBounds_toArray, List.set_cons_zero, List.set_cons_succ])
      refine Goes.take (i := 1) (oi := ?oi3) (x := ?vx3) ?ho3 (by kernel_rfl) (by kernel_rfl) (by kernel_rfl) (by kernel_rfl) (fun _ _ _ h => h) (Or.inl ⟨?hw3, ?hy3⟩) (Below.drew (Below.refl _ _)) ?rest3
      case ho3 => (simp only [List.getElem?_toArray, List.getElem?_cons_succ, List.getElem?_cons_zero] <;> rfl)
      case hw3 => rfl
      case hy3 => (intro w' hSw; go_simp; (try with_reducible rfl))
      case rest3 =>
      (try simp only [Act.put, List.setIfInBounds_toArray, List.set_cons_zero, List.set_cons_succ])
      refine Goes.take (i := 3) (oi := ?oi4) (x := ?vx4) ?ho4 (by kernel_rfl) (by kernel_rfl) (by kernel_rfl) (by kernel_rfl) (fun _ _ _ h => h) (Or.inl ⟨?hw4, ?hy4⟩) (Below.drew (Below.refl _ _)) ?rest4
      case ho4 => (simp only [List.getElem?_toArray, List.getElem?_cons_succ, List.getElem?_cons_zero] <;> rfl)
      case hw4 => rfl
      case hy4 => (intro w' hSw; go_simp; (try with_reducible rfl))
      case rest4 =>
      (try simp only [Act.put, List.setIfInBounds_toArray, List.set_cons_zero, List.set_cons_succ])
      refine Goes.take (i := 4) (oi := ?oi5) (x := ?vx5) ?ho5 (by kernel_rfl) (by kernel_rfl) (by kernel_rfl) (by kernel_rfl) (fun _ _ _ h => h) (Or.inl ⟨?hw5, ?hy5⟩) (Below.drew (Below.refl _ _)) ?rest5
      case ho5 => (simp only [List.getElem?_toArray, List.getElem?_cons_succ, List.getElem?_cons_zero] <;> rfl)
      case hw5 => rfl
      case hy5 => (intro w' hSw; go_simp; (try with_reducible rfl))
      case rest5 =>
      (try simp only [Act.put, List.setIfInBounds_toArray, List.set_cons_zero, List.set_cons_succ])
      refine Goes.take (i := 5) (oi := ?oi6) (x := ?vx6) ?ho6 (by kernel_rfl) (by kernel_rfl) (by kernel_rfl) (by kernel_rfl) (fun _ _ _ h => h) (Or.inl ⟨?hw6, ?hy6⟩) (Below.drew (Below.refl _ _)) ?rest6
      case ho6 => (simp only [List.getElem?_toArray, List.getElem?_cons_succ, List.getElem?_cons_zero] <;> rfl)
      case hw6 => rfl
      case hy6 => (intro w' hSw; go_simp; (try with_reducible rfl))
      case rest6 =>
      (try simp only [Act.put, List.setIfInBounds_toArray, List.set_cons_zero, List.set_cons_succ])
      refine Goes.take (i := 6) (oi := ?oi7) (x := ?vx7) ?ho7 (by kernel_rfl) (by kernel_rfl) (by kernel_rfl) (by kernel_rfl) (fun _ _ _ h => h) (Or.inl ⟨?hw7, ?hy7⟩) (Below.drew (Below.refl _ _)) ?rest7
      case ho7 => (simp only [List.getElem?_toArray, List.getElem?_cons_succ, List.getElem?_cons_zero] <;> rfl)
      case hw7 => rfl
      case hy7 => (intro w' hSw; go_simp; (try with_reducible rfl))
      case rest7 =>
      (try simp only [Act.put, List.setIfInBounds_toArray, List.set_cons_zero, List.set_cons_succ])
      have HS0 : Hid (Below w.heap.size w w.drew) := Below.drew (Below.refl _ _)
      refine Goes.all (rs := [2, 7]) (by kernel_rfl) (by simp) ?_
      refine Ups.cons (i := 2) (o := ?oo11) ?ho11 (fun KQ hKQ => ?stp11) (Ups.cons (i := 7) (o := ?oo12) ?ho12 (fun KQ hKQ => ?stp12) Ups.nil)
      case ho11 => (simp only [List.getElem?_toArray, List.getElem?_cons_succ, List.getElem?_cons_zero] <;> rfl)
      case ho12 => (simp only [List.getElem?_toArray, List.getElem?_cons_succ, List.getElem?_cons_zero] <;> rfl)
      case stp12 =>
        go_simp
        obtain ⟨v13, hv13⟩ : ∃ v, v = (w.alloc (.cells #[.int .u8 (48 + (r : Int))] 5)).drew := ⟨_, rfl⟩
        rw [← hv13]
        have cB13 : v13.cell? ⟨w.heap.size, 0, none⟩ = some (.int .u8 (48 + (r : Int))) := by rw [hv13]; simp
        have lB13 : w.heap.size < v13.heap.size := by rw [hv13]; simp
        have HS13 : Hid (Below w.heap.size w v13) := by show Below _ _ _; rw [hv13]; exact ((Below.refl _ _).alloc (Nat.le_refl _) _).drew
        clear hv13
        refine hKQ.out _ _ (Or.inr HS13.out) ?_
        clear hKQ KQ
        (try simp only [Act.put, List.setIfInBounds_toArray, List.set_cons_zero, List.set_cons_succ])
        refine Goes.all (rs := [2, 8]) (by kernel_rfl) (by simp) ?_
        refine Ups.cons (i := 2) (o := ?oo14) ?ho14 (fun KQ hKQ => ?stp14) (Ups.cons (i := 8) (o := ?oo15) ?ho15 (fun KQ hKQ => ?stp15) Ups.nil)
        case ho14 => (simp only [List.getElem?_toArray, List.getElem?_cons_succ, List.getElem?_cons_zero] <;> rfl)
        case ho15 => (simp only [List.getElem?_toArray, List.getElem?_cons_succ, List.getElem?_cons_zero] <;> rfl)
        case stp15 =>
          have hcv := HCV.out w.heap.size v13 cB13
          go_simp
          refine hKQ.out _ _ (Or.inr HS13.out) ?_
          clear hKQ KQ
          (try simp only [Act.put, List.setIfInBounds_toArray, List.set_cons_zero, List.set_cons_succ])
          refine Goes.all (rs := [2]) (by kernel_rfl) (by simp) ?_
          refine Ups.cons (i := 2) (o := ?oo17) ?ho17 (fun KQ hKQ => ?stp17) Ups.nil
          case ho17 => (simp only [List.getElem?_toArray, List.getElem?_cons_succ, List.getElem?_cons_zero] <;> rfl)
          case stp17 =>
          go_simp
          go_at_call 33
          refine (hrec.out _).mono ?_
          rintro e v16 ⟨rfl, hbq⟩
          have cB16 := (hbq.cell (p := ⟨w.heap.size, 0, none⟩) lB13).trans cB13
          have lB16 := Nat.lt_of_lt_of_le lB13 hbq.size
          have HS16 : Hid (Below w.heap.size w v16) := HS13.out.trans (hbq.mono HS13.out.size)
          clear hbq
          dsimp only
          refine hKQ.out _ _ (Or.inr HS16.out) ?_
          clear hKQ KQ
          (try simp only [Act.put, List.setIfInBounds_toArray, List.set_cons_zero, List.set_cons_succ])
          refine Goes.take (i := 9) (oi := ?oi181) (x := ?vx181) ?ho181 (by kernel_rfl) (by kernel_rfl) (by kernel_rfl) (by kernel_rfl) (fun _ _ _ h => h) (Or.inl ⟨?hw181, ?hy181⟩) HS16.out ?rest181
          case ho181 => (simp only [List.getElem?_toArray, List.getElem?_cons_succ, List.getElem?_cons_zero] <;> rfl)
          case hw181 => rfl
          case hy181 => (intro w' hSw; go_simp; (try with_reducible rfl))
          case rest181 =>
          (try simp only [Act.put, List.setIfInBounds_toArray, List.set_cons_zero, List.set_cons_succ])
          refine Goes.take (i := 10) (oi := ?oi182) (x := ?vx182) ?ho182 (by kernel_rfl) (by kernel_rfl) (by kernel_rfl) (by kernel_rfl) (fun _ _ _ h => h) (Or.inl ⟨?hw182, ?hy182⟩) HS16.out ?rest182
          case ho182 => (simp only [List.getElem?_toArray, List.getElem?_cons_succ, List.getElem?_cons_zero] <;> rfl)
          case hw182 => rfl
          case hy182 => (intro w' hSw; go_simp; (try with_reducible rfl))
          case rest182 =>
          (try simp only [Act.put, List.setIfInBounds_toArray, List.set_cons_zero, List.set_cons_succ])
          refine Goes.done (by kernel_rfl) ?_ _
          refine NoPanic.normal ?_
          go_wp2_with fail
          go_ret
          exact ⟨by rw [← hE.out]; rfl, HS16.out⟩
        case stp14 =>
          go_simp
          go_at_call 33
          refine (hrec.out _).mono ?_
          rintro e v19 ⟨rfl, hbq⟩
          have cB19 := (hbq.cell (p := ⟨w.heap.size, 0, none⟩) lB13).trans cB13
          have lB19 := Nat.lt_of_lt_of_le lB13 hbq.size
          have HS19 : Hid (Below w.heap.size w v19) := HS13.out.trans (hbq.mono HS13.out.size)
          clear hbq
          dsimp only
          refine hKQ.out _ _ (Or.inr HS19.out) ?_
          clear hKQ KQ
          (try simp only [Act.put, List.setIfInBounds_toArray, List.set_cons_zero, List.set_cons_succ])
          refine Goes.all (rs := [8]) (by kernel_rfl) (by simp) ?_
          refine Ups.cons (i := 8) (o := ?oo20) ?ho20 (fun KQ hKQ => ?stp20) Ups.nil
          case ho20 => (simp only [List.getElem?_toArray, List.getElem?_cons_succ, List.getElem?_cons_zero] <;> rfl)
          case stp20 =>
          have hcv := HCV.out w.heap.size v19 cB19
          go_simp
          refine hKQ.out _ _ (Or.inr HS19.out) ?_
          clear hKQ KQ
          (try simp only [Act.put, List.setIfInBounds_toArray, List.set_cons_zero, List.set_cons_succ])
          refine Goes.take (i := 9) (oi := ?oi211) (x := ?vx211) ?ho211 (by kernel_rfl) (by kernel_rfl) (by kernel_rfl) (by kernel_rfl) (fun _ _ _ h => h) (Or.inl ⟨?hw211, ?hy211⟩) HS19.out ?rest211
          case ho211 => (simp only [List.getElem?_toArray, List.getElem?_cons_succ, List.getElem?_cons_zero] <;> rfl)
          case hw211 => rfl
          case hy211 => (intro w' hSw; go_simp; (try with_reducible rfl))
          case rest211 =>
          (try simp only [Act.put, List.setIfInBounds_toArray, List.set_cons_zero, List.set_cons_succ])
          refine Goes.take (i := 10) (oi := ?oi212) (x := ?vx212) ?ho212 (by kernel_rfl) (by kernel_rfl) (by kernel_rfl) (by kernel_rfl) (fun _ _ _ h => h) (Or.inl ⟨?hw212, ?hy212⟩) HS19.out ?rest212
          case ho212 => (simp only [List.getElem?_toArray, List.getElem?_cons_succ, List.getElem?_cons_zero] <;> rfl)
          case hw212 => rfl
          case hy212 => (intro w' hSw; go_simp; (try with_reducible rfl))
          case rest212 =>
          (try simp only [Act.put, List.setIfInBounds_toArray, List.set_cons_zero, List.set_cons_succ])
          refine Goes.done (by kernel_rfl) ?_ _
          refine NoPanic.normal ?_
          go_wp2_with fail
          go_ret
          exact ⟨by rw [← hE.out]; rfl, HS19.out⟩
      case stp11 =>
        go_simp
        go_at_call 33
        refine (hrec.out _).mono ?_
        rintro e v22 ⟨rfl, hbq⟩
        have HS22 : Hid (Below w.heap.size w v22) := HS0.out.trans (hbq.mono HS0.out.size)
        clear hbq
        dsimp only
        refine hKQ.out _ _ (Or.inr HS22.out) ?_
        clear hKQ KQ
        (try simp only [Act.put, List.setIfInBounds_toArray, List.set_cons_zero, List.set_cons_succ])
        refine Goes.all (rs := [7]) (by kernel_rfl) (by simp) ?_
        refine Ups.cons (i := 7) (o := ?oo24) ?ho24 (fun KQ hKQ => ?stp24) Ups.nil
        case ho24 => (simp only [List.getElem?_toArray, List.getElem?_cons_succ, List.getElem?_cons_zero] <;> rfl)
        case stp24 =>
        go_simp
        obtain ⟨v23, hv23⟩ : ∃ v, v = v22.alloc (.cells #[.int .u8 (48 + (r : Int))] 5) := ⟨_, rfl⟩
        rw [← hv23]
        have cB23 : v23.cell? ⟨v22.heap.size, 0, none⟩ = some (.int .u8 (48 + (r : Int))) := by rw [hv23]; simp
        have lB23 : v22.heap.size < v23.heap.size := by rw [hv23]; simp
        have HS23 : Hid (Below w.heap.size w v23) := by show Below _ _ _; rw [hv23]; exact HS22.out.alloc HS22.out.size _
        clear hv23
        refine hKQ.out _ _ (Or.inr HS23.out) ?_
        clear hKQ KQ
        (try simp only [Act.put, List.setIfInBounds_toArray, List.set_cons_zero, List.set_cons_succ])
        refine Goes.all (rs := [8]) (by kernel_rfl) (by simp) ?_
        refine Ups.cons (i := 8) (o := ?oo25) ?ho25 (fun KQ hKQ => ?stp25) Ups.nil
        case ho25 => (simp only [List.getElem?_toArray, List.getElem?_cons_succ, List.getElem?_cons_zero] <;> rfl)
        case stp25 =>
        have hcv := HCV.out v22.heap.size v23 cB23
        go_simp
        refine hKQ.out _ _ (Or.inr HS23.out) ?_
        clear hKQ KQ
        (try simp only [Act.put, List.setIfInBounds_toArray, List.set_cons_zero, List.set_cons_succ])
        refine Goes.take (i := 9) (oi := ?oi261) (x := ?vx261) ?ho261 (by kernel_rfl) (by kernel_rfl) (by kernel_rfl) (by kernel_rfl) (fun _ _ _ h => h) (Or.inl ⟨?hw261, ?hy261⟩) HS23.out ?rest261
        case ho261 => (simp only [List.getElem?_toArray, List.getElem?_cons_succ, List.getElem?_cons_zero] <;> rfl)
        case hw261 => rfl
        case hy261 => (intro w' hSw; go_simp; (try with_reducible rfl))
        case rest261 =>
        (try simp only [Act.put, List.setIfInBounds_toArray, List.set_cons_zero, List.set_cons_succ])
        refine Goes.take (i := 10) (oi := ?oi262) (x := ?vx262) ?ho262 (by kernel_rfl) (by kernel_rfl) (by kernel_rfl) (by kernel_rfl) (fun _ _ _ h => h) (Or.inl ⟨?hw262, ?hy262⟩) HS23.out ?rest262
        case ho262 => (simp only [List.getElem?_toArray, List.getElem?_cons_succ, List.getElem?_cons_zero] <;> rfl)
        case hw262 => rfl
        case hy262 => (intro w' hSw; go_simp; (try with_reducible rfl))
        case rest262 =>
        (try simp only [Act.put, List.setIfInBounds_toArray, List.set_cons_zero, List.set_cons_succ])
        refine Goes.done (by kernel_rfl) ?_ _
        refine NoPanic.normal ?_
        go_wp2_with fail
        go_ret
        exact ⟨by rw [← hE.out]; rfl, HS23.out⟩
end Go.Proofs.YtfpemobkkfobkaaGreatDoor

/- What the model makes of a number in decimal, and of a line of a word and numbers; nothing that was in memory turns; no condition but on lengths. -/
namespace Go.Proofs.YtfpemobkkfobkaaGreatDoor
open Go.RowKit
set_option linter.unusedVariables false
set_option maxRecDepth 8000

set_option maxHeartbeats 2000000 in
theorem sLine (a : List UInt8) (b off cap : Nat) (L : List Int) (w : World) (hb : b < w.heap.size) (hc : ∀ j (h : j < L.length), w.cell? ⟨b, off + j, none⟩ = some (.int .i64 L[j])) (hL : ∀ x ∈ L, 0 ≤ x ∧ x ≤ 1048576) (ha : a.length ≤ 1000000) (hn : L.length ≤ 1000) :
    Calls Tryz.prog 32 #[.string (SB a), .slice (some ⟨b, off, none⟩) L.length cap] w fun e w' => e = .returned (.string (SB (a ++ jt (L.map dg)))) ∧ Below w.heap.size w w' := by
  have HC : Hid _ := hc
  obtain ⟨n, hN⟩ : ∃ n, n = L.length := ⟨_, rfl⟩
  rw [← hN] at hn ⊢
  have HN : Hid (n = L.length) := hN
  clear hN
  go_enter Tryz.func32, Tryz.ntmps32
  go_wp2
  go_loopw [0, 5] (fun t i wr => ∃ (k : Nat) (d : List UInt8), k ≤ n ∧ i = .int .i64 k ∧ t = .string (SB d) ∧ d.length ≤ a.length + 22 * k ∧ Hid (d = a ++ jt ((L.take k).map dg)) ∧ Hid (Below w.heap.size w wr)) (fun _ i _ => n - (intOf i).toNat)
  case atStart => exact ⟨0, a, Nat.zero_le _, rfl, rfl, by omega, (by show _ = _; simp [jt]), Below.refl _ _⟩
  case round =>
    obtain ⟨k, d, hk, rfl, rfl, hd, hE, hbw⟩ := hrel
    by_cases hlt : k < n
    · have ck := (hbw.out.cell (p := ⟨b, off + k, none⟩) hb).trans (HC.out k (by have := HN.out; omega))
      obtain ⟨x0, x1⟩ := hL _ (List.getElem_mem (show k < L.length by have := HN.out; omega))
      have hE2 : Hid (d ++ 32 :: dg L[k] = a ++ jt ((L.take (k + 1)).map dg)) := by
        show _ = _
        have h := jt_take (L := L.map dg) (k := k) (by have := HN.out; simp; omega)
        rw [List.map_take, h, hE.out, List.append_assoc, List.map_take, List.getElem_map]
      clear hE hc
      have hkL : k < L.length := by have := HN.out; omega
      replace ck : wr.cell? ⟨b, off + k, none⟩ = some (.int .i64 (L[k]'hkL)) := ck
      generalize L[k]'hkL = x at *
      clear hkL
      obtain ⟨m, rfl⟩ : ∃ m : Nat, x = (m : Int) := ⟨x.toNat, by omega⟩
      have hdl := dg_len (n := (m : Int)) (by omega) (by omega)
      have hcon : Hid (∀ W, Calls Tryz.prog 33 #[.int .i64 m] W fun e w' => e = .returned (.string (SB (dg m))) ∧ Below W.heap.size W w') := fun W => sDigits m W (by omega)
      have hs1 : (SB d).size = d.length := SB_size _
      have hs2 : (SB (dg m)).size = (dg m).length := SB_size _
      have hs3 : ¬ 9223372036854775807 < d.length + 1 := by omega
      have hs4 : ¬ 9223372036854775807 < d.length + 1 + (dg m).length := by omega
      have hE3 : Hid (SB d ++ { data := #[32] } ++ SB (dg m) = SB (d ++ 32 :: dg m)) := by
        show _ = _
        have : ({ data := #[32] } : ByteArray) = SB [32] := rfl
        rw [this, SB_app, SB_app]; simp
      generalize dg m = D at *
      go_wp2_with fail
      refine (hcon.out _).mono ?_
      rintro e w2 ⟨rfl, hb2⟩
      have hb3 : Hid (Below w.heap.size w w2) := hbw.out.trans (hb2.mono hbw.out.size)
      clear hb2 hcon ck
      go_wp2_with fail
      go_roundw
      case rel => exact ⟨k + 1, d ++ 32 :: D, by omega, by go_num, by rw [hE3.out], by simp; omega, hE2, hb3⟩
      case measure => simp [intOf]; omega
    · obtain rfl : k = n := by omega
      have hE2 : Hid (d = a ++ jt (L.map dg)) := by show _ = _; rw [hE.out, List.take_of_length_le (by have := HN.out; omega)]
      go_wp2
      go_ret
      exact ⟨by rw [← hE2.out]; rfl, hbw.out⟩
end Go.Proofs.YtfpemobkkfobkaaGreatDoor

/- What the model's text of a world is; nothing that was in memory turns; no condition but on its size. Written by mktxw.py. -/
namespace Go.Proofs.YtfpemobkkfobkaaGreatDoor
open Go.RowKit
set_option linter.unusedVariables false
set_option maxRecDepth 8000

theorem gt_few {x : DWorld} (hT : totWorld x ≤ 1048576) (k : Nat) : (x.gt k).length ≤ 1048576 := by
  unfold totWorld totBss at hT
  show (x.2.2.2.1.getD k []).length ≤ 1048576
  rw [List.getD_eq_getElem?_getD]
  by_cases h : k < x.2.2.2.1.length
  · rw [List.getElem?_eq_getElem h]
    have := fsum_at List.length (l := x.2.2.2.1) (k := k) h
    show (x.2.2.2.1[k]).length ≤ 1048576
    omega
  · rw [List.getElem?_eq_none (by omega)]; simp
theorem side_len {c : DConn} {g : List Int} {k : Nat} (h : connF c = 0) (hs : c.subs.length ≤ 1048576) (hg : g.length ≤ 1048576) (hk : k ≤ 1) : (sideT c g k).length ≤ 60000000 ∧ (jt ([(k : Int), (c.wrote.length : Int), (g.length : Int), c.acked].map dg)).length ≤ 88 ∧ (jt (c.subs.map subT)).length ≤ 50000000 := by
  obtain ⟨h1, h2, h3⟩ := conn_okT h
  have a1 := jt_len ([(k : Int), (c.wrote.length : Int), (g.length : Int), c.acked].map dg) 21 (fun x hx => by
    simp only [List.map_cons, List.map_nil, List.mem_cons, List.not_mem_nil, or_false] at hx
    rcases hx with rfl | rfl | rfl | rfl <;> exact dg_len (by omega) (by omega))
  have a2 := jt_len (c.subs.map subT) 43 (fun x hx => by
    obtain ⟨s, hs, rfl⟩ := List.mem_map.1 hx
    exact sub_len (h3 s hs))
  simp only [List.length_map, List.length_cons, List.length_nil] at a1 a2
  refine ⟨?_, by omega, by omega⟩
  have hk : (kindB c.plain).length = 5 := by cases hp : c.plain <;> simp [kindB]
  unfold sideT sideB
  simp only [List.length_append, List.length_cons, List.length_nil, hk]
  omega
/-- The text ahead of side k. -/
def preT (x : DWorld) : Nat → List UInt8
  | 0 => nowB ++ jt ([x.1].map dg) ++ [10]
  | k + 1 => preT x k ++ sideT (x.cn k) (x.gt k) k
theorem worldT_pre (x : DWorld) : worldT x = preT x 2 ++ (bagB ++ jt ([(x.2.2.1.1.length : Int)].map dg) ++ [10]) := rfl
theorem SB_lit (l : List UInt8) : ({ data := l.toArray } : ByteArray) = SB l := rfl
noncomputable def wtS (x : DWorld) : ByteArray := if worldF x = 0 then SB (worldT x) else { data := #[] }
set_option maxHeartbeats 8000000 in
theorem sL16World (x : DWorld) (A : Array Value) (p : Nat) (w : World) (B : Nat) (hr : shWorld.Rd w B x A.toList) (hp : ∀ o, w.cell? ⟨p, o, none⟩ = A[o]?) (hpl : p < w.heap.size) (hB : B ≤ w.heap.size) (hF : worldF x = 0) (hT : totWorld x ≤ 1048576) :
    Calls Tryz.prog 15 #[.pointer (some ⟨p, 0, none⟩)] w fun e w' => e = .returned (.string (SB (worldT x))) ∧ Below w.heap.size w w' := by
  obtain ⟨sb, so, sc, na, nc, da, dc, gb, go, gc, eb, eo, ec, hWO⟩ := wo_all hr hF hT
  obtain ⟨⟨n0, n1⟩, -, -⟩ := world_okT hF
  obtain ⟨bn, hbn⟩ : ∃ n, n = x.2.2.1.1.length := ⟨_, rfl⟩
  have hb20 : bn ≤ 1048576 := by
    have h1 : totNet x.2.2.1 ≤ totWorld x := by unfold totWorld; omega
    have h2 : x.2.2.1.1.length ≤ totNet x.2.2.1 := by unfold totNet; unfold totSegms; omega
    omega
  have hA := hWO.eA
  rw [← hbn] at hA
  have hPT : preT x 0 = nowB ++ jt ([x.1].map dg) ++ [10] := rfl
  have hPE : worldT x = preT x 2 ++ (bagB ++ jt ([(bn : Int)].map dg) ++ [10]) := by rw [hbn]; rfl
  generalize x.2.2.1.2.1.length = dn at hA
  generalize hnow : x.1 = now at hA hPT n0 n1
  subst hA
  have HPC : Hid (∀ W, Below w.heap.size w W → ∀ o, W.cell? ⟨p, o, none⟩ = (#[.int .i64 now, .slice (some ⟨sb, so, none⟩) 2 sc, .slice na bn nc, .slice da dn dc, .slice (some ⟨gb, go, none⟩) 2 gc, .slice (some ⟨eb, eo, none⟩) 2 ec] : Array Value)[o]?) := fun W h o => (h.cell (p := ⟨p, o, none⟩) hpl).trans (hp o)
  have HSD : Hid (∀ k, k < 2 → ∃ (wn gn : Nat) (ak : Int) (pl : Bool) (a5 : Option Addr) (c5 : Nat) (a13 : Option Addr) (c13 : Nat) (gu : Option Addr) (guc : Nat) (l : List DSub), (sideT (x.cn k) (x.gt k) k = sideB ++ jt ([(k : Int), (wn : Int), (gn : Int), ak].map dg) ++ 32 :: kindB pl ++ jt (l.map subT) ++ [10]) ∧ (wn ≤ 300 ∧ gn ≤ 1048576 ∧ 0 ≤ ak ∧ ak ≤ 300 ∧ l.length ≤ 1048576) ∧ (∀ s ∈ l, (0 ≤ s.1 ∧ s.1 ≤ 2) ∧ (1 ≤ s.2.1 ∧ s.2.1 ≤ 4)) ∧
      (jt ([(k : Int), (wn : Int), (gn : Int), ak].map dg)).length ≤ 88 ∧ (jt (l.map subT)).length ≤ 50000000 ∧ (sideT (x.cn k) (x.gt k) k).length ≤ 60000000 ∧
      ∀ W, Below w.heap.size w W → W.cell? ⟨sb, so + k * 14 + 3, none⟩ = some (.bool pl) ∧ W.cell? ⟨sb, so + k * 14 + 5, none⟩ = some (.slice a5 wn c5) ∧ W.cell? ⟨sb, so + k * 14 + 7, none⟩ = some (.int .i64 ak) ∧ W.cell? ⟨sb, so + k * 14 + 13, none⟩ = some (.slice a13 l.length c13) ∧ W.cell? ⟨gb, go + k, none⟩ = some (.slice gu gn guc) ∧
        ∀ j (hj : j < l.length), ∃ b13 o13, a13 = some ⟨b13, o13, none⟩ ∧ W.cell? ⟨b13, o13 + j * 16, none⟩ = some (.int .i64 l[j].1) ∧ W.cell? ⟨b13, o13 + j * 16 + 1, none⟩ = some (.int .i64 l[j].2.1)) := fun k hk => by
    obtain ⟨C, hrg, hrd⟩ := hWO.cs k hk
    obtain ⟨u, uc, hgc, -⟩ := hWO.gs k hk
    obtain ⟨a5, c5, a9, c9, a10, c10, a13, c13, hC⟩ := cn_all hrd
    obtain ⟨q1, q2, q3⟩ := conn_okT (hWO.ok k hk)
    have hs3 : (x.cn k).subs.length ≤ 1048576 := by have h := hWO.tot k hk; unfold totConn totSubs at h; show (x.cn k).2.2.2.2.2.2.2.2.2.2.2.2.1.length ≤ 1048576; omega
    have hgn : (x.gt k).length ≤ 1048576 := gt_few hT k
    obtain ⟨l1, l2, l3⟩ := side_len (g := x.gt k) (k := k) (hWO.ok k hk) hs3 hgn (by omega)
    have hcell : ∀ (W : World) (h : Below w.heap.size w W) (j : Nat) (v : Value), C[j]? = some v → W.cell? ⟨sb, so + k * 14 + j, none⟩ = some v := fun W h j v hv => (h.cell (p := ⟨sb, so + k * 14 + j, none⟩) (Nat.lt_of_lt_of_le hWO.sl hB)).trans (hrg j v (by rw [Array.getElem?_toList]; exact hv))
    refine ⟨_, _, _, _, a5, c5, a13, c13, u, uc, (x.cn k).subs, rfl, ⟨q1, hgn, q2.1, q2.2, hs3⟩, q3, l2, l3, l1, fun W h => ⟨hcell W h 3 _ (by rw [hC.eA]; rfl), hcell W h 5 _ (by rw [hC.eA]; rfl), hcell W h 7 _ (by rw [hC.eA]; rfl), hcell W h 13 _ (by rw [hC.eA]; rfl), (h.cell (p := ⟨gb, go + k, none⟩) (Nat.lt_of_lt_of_le hWO.gl hB)).trans hgc, fun j hj => ?_⟩⟩
    obtain ⟨b13, o13, cs, e13, hb13, -, hrr, hsr⟩ := row_at hC.subs j hj
    obtain ⟨su, sv, ecs, -⟩ := rd_Sub hsr
    have hc0 : ∀ i v, cs[i]? = some v → W.cell? ⟨b13, o13 + j * 16 + i, none⟩ = some v := fun i v hv => (h.cell (p := ⟨b13, o13 + j * 16 + i, none⟩) (Nat.lt_of_lt_of_le hb13 hB)).trans (hrr i v hv)
    exact ⟨b13, o13, e13, hc0 0 _ (by rw [ecs]; rfl), hc0 1 _ (by rw [ecs]; rfl)⟩
  have HPS : Hid (∀ k, preT x (k + 1) = preT x k ++ sideT (x.cn k) (x.gt k) k) := fun k => rfl
  clear hWO hr hp hF hT hbn hnow
  have hdn := dg_len (n := now) n0 (by omega)
  have hdb := dg_len (n := (bn : Int)) (by omega) (by omega)
  have HL1 : Hid (∀ W b, W.cell? ⟨b, 0, none⟩ = some (.int .i64 now) → b < W.heap.size → Calls Tryz.prog 32 #[.string { data := #[110, 111, 119] }, .slice (some ⟨b, 0, none⟩) 1 1] W fun e w' => e = .returned (.string (SB (nowB ++ jt ([now].map dg)))) ∧ Below W.heap.size W w') := fun W b hc hb =>
    sLine nowB b 0 1 [now] W hb (fun j hj => by
      obtain rfl : j = 0 := by simp at hj; exact hj
      exact hc) (by simp; omega) (by decide) (by simp)

  obtain ⟨L0, hL0⟩ : ∃ L, L = nowB ++ jt ([now].map dg) := ⟨_, rfl⟩
  rw [← hL0] at HL1 hPT
  have hl0 : L0.length ≤ 30 := by rw [hL0]; unfold nowB; simp [jt]; omega
  clear hL0
  have hs1 : (SB L0).size = L0.length := SB_size _
  have hs2 : ¬ 9223372036854775807 < L0.length + 1 := by omega
  have e1 : Hid (SB L0 ++ { data := #[10] } = SB (preT x 0)) := by show _ = _; rw [hPT, ← SB_app]; rfl
  have HPL : Hid (∀ k, k ≤ 2 → (preT x k).length ≤ 120000100) := by
    have h0 : (preT x 0).length ≤ 100 := by rw [hPT]; simp; omega
    obtain ⟨_, _, _, _, _, _, _, _, _, _, _, -, -, -, -, -, m0, -⟩ := HSD.out 0 (by omega)
    obtain ⟨_, _, _, _, _, _, _, _, _, _, _, -, -, -, -, -, m1, -⟩ := HSD.out 1 (by omega)
    have h1 : (preT x 1).length ≤ 60000100 := by rw [HPS.out 0, List.length_append]; omega
    have h2 : (preT x 2).length ≤ 120000100 := by rw [HPS.out 1, List.length_append]; omega
    intro k hk
    rcases k with _ | _ | _ | k
    · omega
    · exact Nat.le_trans h1 (by omega)
    · exact h2
    · omega
  clear hPT
  have HPE : Hid _ := hPE
  clear hPE
  go_enter Tryz.func15, Tryz.ntmps15
  have kP := HPC.out w (Below.refl _ _)
  go_wp2_with fail
  refine (HL1.out _ _ (by simp) (by simp)).mono ?_
  rintro e w1 ⟨rfl, hb⟩
  obtain ⟨hb, -⟩ := bl_new hb
  have HB : Hid (Below w.heap.size w w1) := hb
  clear hb HL1 kP
  go_wp2_with fail
  rw [e1.out]
  clear e1 hs1 hs2 hl0
  go_loopw [3, 4] (fun t i wr => ∃ k : Nat, k ≤ 2 ∧ i = .int .i64 k ∧ t = .string (SB (preT x k)) ∧ Hid (Below w.heap.size w wr)) (fun _ i _ => 2 - (intOf i).toNat)
  case atStart => exact ⟨0, by omega, rfl, rfl, HB⟩
  case round =>
    clear HB
    obtain ⟨k, hk, rfl, rfl, HB⟩ := hrel
    by_cases hk2 : k < 2
    · obtain ⟨wn, gn, ak, pl, a5, c5, a13, c13, gu, guc, l, eT, ⟨q1, q2, q3, q4, q5⟩, hlb, j1, j2, j3, hcc⟩ := HSD.out k hk2
      have HCC : Hid _ := hcc
      clear hcc
      have hpk := HPL.out k hk
      have hps := HPS.out k
      generalize preT x k = d at *
      have HNX : Hid (preT x (k + 1) = d ++ (sideB ++ jt ([(k : Int), (wn : Int), (gn : Int), ak].map dg) ++ 32 :: kindB pl ++ jt (l.map subT) ++ [10])) := hps.trans (by rw [eT])
      clear hps eT
      have hkk : (k : Int) ≤ 1 := by omega
      obtain ⟨L1, hL1⟩ : ∃ L, L = sideB ++ jt ([(k : Int), (wn : Int), (gn : Int), ak].map dg) := ⟨_, rfl⟩
      have hl1 : L1.length ≤ 92 := by rw [hL1]; unfold sideB; simp only [List.length_append, List.length_cons, List.length_nil]; omega
      have HL2 : Hid (∀ W b, (∀ j (h : j < 4), W.cell? ⟨b, j, none⟩ = some (.int .i64 ([(k : Int), (wn : Int), (gn : Int), ak][j]))) → b < W.heap.size → Calls Tryz.prog 32 #[.string { data := #[115, 105, 100, 101] }, .slice (some ⟨b, 0, none⟩) 4 4] W fun e w' => e = .returned (.string (SB L1)) ∧ Below W.heap.size W w') := fun W b hc hb => by
        rw [hL1]; exact sLine sideB b 0 4 [(k : Int), (wn : Int), (gn : Int), ak] W hb (fun j hj => by rw [Nat.zero_add]; exact hc j hj) (fun z hz => by simp only [List.mem_cons, List.not_mem_nil, or_false] at hz; rcases hz with rfl | rfl | rfl | rfl <;> omega) (by decide) (by simp)
      rw [← hL1] at HNX
      clear hL1 j1
      have hs1 : (SB d).size = d.length := SB_size _
      have hs2 : (SB L1).size = L1.length := SB_size _
      have hs3 : ¬ 9223372036854775807 < d.length + L1.length := by omega
      have kP := HPC.out wr HB.out
      go_upto_region 6 with fail
      clear kP
      refine wp_region_noPanic ?_
      refine Goes.start (S := fun w' => Below wr.heap.size wr w') (z := 100) (by kernel_rfl) ?_
      refine Goes.take (i := 0) (oi := ?oi101) (x := ?vx101) ?ho101 (by kernel_rfl) (by kernel_rfl) (by kernel_rfl) (by kernel_rfl) (fun _ _ _ h => h) (Or.inl ⟨?hw101, ?hy101⟩) (Below.drew (Below.refl _ _)) ?rest101
      case ho101 => (simp only [List.getElem?_toArray, List.getElem?_cons_zero] <;> rfl)
      case hw101 => rfl
      case hy101 => (intro w' hSw; have jP := HPC.out w' (HB.out.trans (hSw.mono HB.out.size)); obtain ⟨c3, c5q, c7, c13q, cgq, -⟩ := HCC.out w' (HB.out.trans (hSw.mono HB.out.size)); go_simp; (try with_reducible rfl))
      case rest101 =>
      (try simp only [Act.put, List.setIfInBounds_toArray, List.set_cons_zero, List.set_cons_succ])
      refine Goes.take (i := 1) (oi := ?oi102) (x := ?vx102) ?ho102 (by kernel_rfl) (by kernel_rfl) (by kernel_rfl) (by kernel_rfl) (fun _ _ _ h => h) (Or.inl ⟨?hw102, ?hy102⟩) (Below.drew (Below.refl _ _)) ?rest102
      case ho102 => (simp only [List.getElem?_toArray, List.getElem?_cons_succ, List.getElem?_cons_zero] <;> rfl)
      case hw102 => rfl
      case hy102 => (intro w' hSw; have jP := HPC.out w' (HB.out.trans (hSw.mono HB.out.size)); obtain ⟨c3, c5q, c7, c13q, cgq, -⟩ := HCC.out w' (HB.out.trans (hSw.mono HB.out.size)); go_simp; (try with_reducible rfl))
      case rest102 =>
      (try simp only [Act.put, List.setIfInBounds_toArray, List.set_cons_zero, List.set_cons_succ])
      refine Goes.take (i := 2) (oi := ?oi103) (x := ?vx103) ?ho103 (by kernel_rfl) (by kernel_rfl) (by kernel_rfl) (by kernel_rfl) (fun _ _ _ h => h) (Or.inl ⟨?hw103, ?hy103⟩) (Below.drew (Below.refl _ _)) ?rest103
      case ho103 => (simp only [List.getElem?_toArray, List.getElem?_cons_succ, List.getElem?_cons_zero] <;> rfl)
      case hw103 => rfl
      case hy103 => (intro w' hSw; have jP := HPC.out w' (HB.out.trans (hSw.mono HB.out.size)); obtain ⟨c3, c5q, c7, c13q, cgq, -⟩ := HCC.out w' (HB.out.trans (hSw.mono HB.out.size)); go_simp; (try with_reducible rfl))
      case rest103 =>
      (try simp only [Act.put, List.setIfInBounds_toArray, List.set_cons_zero, List.set_cons_succ])
      refine Goes.take (i := 3) (oi := ?oi104) (x := ?vx104) ?ho104 (by kernel_rfl) (by kernel_rfl) (by kernel_rfl) (by kernel_rfl) (fun _ _ _ h => h) (Or.inl ⟨?hw104, ?hy104⟩) (Below.drew (Below.refl _ _)) ?rest104
      case ho104 => (simp only [List.getElem?_toArray, List.getElem?_cons_succ, List.getElem?_cons_zero] <;> rfl)
      case hw104 => rfl
      case hy104 => (intro w' hSw; have jP := HPC.out w' (HB.out.trans (hSw.mono HB.out.size)); obtain ⟨c3, c5q, c7, c13q, cgq, -⟩ := HCC.out w' (HB.out.trans (hSw.mono HB.out.size)); go_simp; (try with_reducible rfl))
      case rest104 =>
      (try simp only [Act.put, List.setIfInBounds_toArray, List.set_cons_zero, List.set_cons_succ])
      refine Goes.take (i := 4) (oi := ?oi105) (x := ?vx105) ?ho105 (by kernel_rfl) (by kernel_rfl) (by kernel_rfl) (by kernel_rfl) (fun _ _ _ h => h) (Or.inl ⟨?hw105, ?hy105⟩) (Below.drew (Below.refl _ _)) ?rest105
      case ho105 => (simp only [List.getElem?_toArray, List.getElem?_cons_succ, List.getElem?_cons_zero] <;> rfl)
      case hw105 => rfl
      case hy105 => (intro w' hSw; have jP := HPC.out w' (HB.out.trans (hSw.mono HB.out.size)); obtain ⟨c3, c5q, c7, c13q, cgq, -⟩ := HCC.out w' (HB.out.trans (hSw.mono HB.out.size)); go_simp; (try with_reducible rfl))
      case rest105 =>
      (try simp only [Act.put, List.setIfInBounds_toArray, List.set_cons_zero, List.set_cons_succ])
      refine Goes.take (i := 5) (oi := ?oi106) (x := ?vx106) ?ho106 (by kernel_rfl) (by kernel_rfl) (by kernel_rfl) (by kernel_rfl) (fun _ _ _ h => h) (Or.inl ⟨?hw106, ?hy106⟩) (Below.drew (Below.refl _ _)) ?rest106
      case ho106 => (simp only [List.getElem?_toArray, List.getElem?_cons_succ, List.getElem?_cons_zero] <;> rfl)
      case hw106 => rfl
      case hy106 => (intro w' hSw; have jP := HPC.out w' (HB.out.trans (hSw.mono HB.out.size)); obtain ⟨c3, c5q, c7, c13q, cgq, -⟩ := HCC.out w' (HB.out.trans (hSw.mono HB.out.size)); go_simp; (try with_reducible rfl))
      case rest106 =>
      (try simp only [Act.put, List.setIfInBounds_toArray, List.set_cons_zero, List.set_cons_succ])
      refine Goes.take (i := 6) (oi := ?oi107) (x := ?vx107) ?ho107 (by kernel_rfl) (by kernel_rfl) (by kernel_rfl) (by kernel_rfl) (fun _ _ _ h => h) (Or.inl ⟨?hw107, ?hy107⟩) (Below.drew (Below.refl _ _)) ?rest107
      case ho107 => (simp only [List.getElem?_toArray, List.getElem?_cons_succ, List.getElem?_cons_zero] <;> rfl)
      case hw107 => rfl
      case hy107 => (intro w' hSw; have jP := HPC.out w' (HB.out.trans (hSw.mono HB.out.size)); obtain ⟨c3, c5q, c7, c13q, cgq, -⟩ := HCC.out w' (HB.out.trans (hSw.mono HB.out.size)); go_simp; (try with_reducible rfl))
      case rest107 =>
      (try simp only [Act.put, List.setIfInBounds_toArray, List.set_cons_zero, List.set_cons_succ])
      refine Goes.take (i := 7) (oi := ?oi108) (x := ?vx108) ?ho108 (by kernel_rfl) (by kernel_rfl) (by kernel_rfl) (by kernel_rfl) (fun _ _ _ h => h) (Or.inl ⟨?hw108, ?hy108⟩) (Below.drew (Below.refl _ _)) ?rest108
      case ho108 => (simp only [List.getElem?_toArray, List.getElem?_cons_succ, List.getElem?_cons_zero] <;> rfl)
      case hw108 => rfl
      case hy108 => (intro w' hSw; have jP := HPC.out w' (HB.out.trans (hSw.mono HB.out.size)); obtain ⟨c3, c5q, c7, c13q, cgq, -⟩ := HCC.out w' (HB.out.trans (hSw.mono HB.out.size)); go_simp; (try with_reducible rfl))
      case rest108 =>
      (try simp only [Act.put, List.setIfInBounds_toArray, List.set_cons_zero, List.set_cons_succ])
      refine Goes.take (i := 8) (oi := ?oi109) (x := ?vx109) ?ho109 (by kernel_rfl) (by kernel_rfl) (by kernel_rfl) (by kernel_rfl) (fun _ _ _ h => h) (Or.inl ⟨?hw109, ?hy109⟩) (Below.drew (Below.refl _ _)) ?rest109
      case ho109 => (simp only [List.getElem?_toArray, List.getElem?_cons_succ, List.getElem?_cons_zero] <;> rfl)
      case hw109 => rfl
      case hy109 => (intro w' hSw; have jP := HPC.out w' (HB.out.trans (hSw.mono HB.out.size)); obtain ⟨c3, c5q, c7, c13q, cgq, -⟩ := HCC.out w' (HB.out.trans (hSw.mono HB.out.size)); go_simp; (try with_reducible rfl))
      case rest109 =>
      (try simp only [Act.put, List.setIfInBounds_toArray, List.set_cons_zero, List.set_cons_succ])
      refine Goes.take (i := 9) (oi := ?oi110) (x := ?vx110) ?ho110 (by kernel_rfl) (by kernel_rfl) (by kernel_rfl) (by kernel_rfl) (fun _ _ _ h => h) (Or.inl ⟨?hw110, ?hy110⟩) (Below.drew (Below.refl _ _)) ?rest110
      case ho110 => (simp only [List.getElem?_toArray, List.getElem?_cons_succ, List.getElem?_cons_zero] <;> rfl)
      case hw110 => rfl
      case hy110 => (intro w' hSw; have jP := HPC.out w' (HB.out.trans (hSw.mono HB.out.size)); obtain ⟨c3, c5q, c7, c13q, cgq, -⟩ := HCC.out w' (HB.out.trans (hSw.mono HB.out.size)); go_simp; (try with_reducible rfl))
      case rest110 =>
      (try simp only [Act.put, List.setIfInBounds_toArray, List.set_cons_zero, List.set_cons_succ])
      refine Goes.take (i := 10) (oi := ?oi111) (x := ?vx111) ?ho111 (by kernel_rfl) (by kernel_rfl) (by kernel_rfl) (by kernel_rfl) (fun _ _ _ h => h) (Or.inl ⟨?hw111, ?hy111⟩) (Below.drew (Below.refl _ _)) ?rest111
      case ho111 => (simp only [List.getElem?_toArray, List.getElem?_cons_succ, List.getElem?_cons_zero] <;> rfl)
      case hw111 => rfl
      case hy111 => (intro w' hSw; have jP := HPC.out w' (HB.out.trans (hSw.mono HB.out.size)); obtain ⟨c3, c5q, c7, c13q, cgq, -⟩ := HCC.out w' (HB.out.trans (hSw.mono HB.out.size)); go_simp; (try with_reducible rfl))
      case rest111 =>
      (try simp only [Act.put, List.setIfInBounds_toArray, List.set_cons_zero, List.set_cons_succ])
      refine Goes.take (i := 11) (oi := ?oi112) (x := ?vx112) ?ho112 (by kernel_rfl) (by kernel_rfl) (by kernel_rfl) (by kernel_rfl) (fun _ _ _ h => h) (Or.inl ⟨?hw112, ?hy112⟩) (Below.drew (Below.refl _ _)) ?rest112
      case ho112 => (simp only [List.getElem?_toArray, List.getElem?_cons_succ, List.getElem?_cons_zero] <;> rfl)
      case hw112 => rfl
      case hy112 => (intro w' hSw; have jP := HPC.out w' (HB.out.trans (hSw.mono HB.out.size)); obtain ⟨c3, c5q, c7, c13q, cgq, -⟩ := HCC.out w' (HB.out.trans (hSw.mono HB.out.size)); go_simp; (try with_reducible rfl))
      case rest112 =>
      (try simp only [Act.put, List.setIfInBounds_toArray, List.set_cons_zero, List.set_cons_succ])
      refine Goes.take (i := 12) (oi := ?oi113) (x := ?vx113) ?ho113 (by kernel_rfl) (by kernel_rfl) (by kernel_rfl) (by kernel_rfl) (fun _ _ _ h => h) (Or.inl ⟨?hw113, ?hy113⟩) (Below.drew (Below.refl _ _)) ?rest113
      case ho113 => (simp only [List.getElem?_toArray, List.getElem?_cons_succ, List.getElem?_cons_zero] <;> rfl)
      case hw113 => rfl
      case hy113 => (intro w' hSw; have jP := HPC.out w' (HB.out.trans (hSw.mono HB.out.size)); obtain ⟨c3, c5q, c7, c13q, cgq, -⟩ := HCC.out w' (HB.out.trans (hSw.mono HB.out.size)); go_simp; (try with_reducible rfl))
      case rest113 =>
      (try simp only [Act.put, List.setIfInBounds_toArray, List.set_cons_zero, List.set_cons_succ])
      refine Goes.take (i := 13) (oi := ?oi114) (x := ?vx114) ?ho114 (by kernel_rfl) (by kernel_rfl) (by kernel_rfl) (by kernel_rfl) (fun _ _ _ h => h) (Or.inl ⟨?hw114, ?hy114⟩) (Below.drew (Below.refl _ _)) ?rest114
      case ho114 => (simp only [List.getElem?_toArray, List.getElem?_cons_succ, List.getElem?_cons_zero] <;> rfl)
      case hw114 => rfl
      case hy114 => (intro w' hSw; have jP := HPC.out w' (HB.out.trans (hSw.mono HB.out.size)); obtain ⟨c3, c5q, c7, c13q, cgq, -⟩ := HCC.out w' (HB.out.trans (hSw.mono HB.out.size)); go_simp; (try with_reducible rfl))
      case rest114 =>
      (try simp only [Act.put, List.setIfInBounds_toArray, List.set_cons_zero, List.set_cons_succ])
      refine Goes.take (i := 14) (oi := ?oi115) (x := ?vx115) ?ho115 (by kernel_rfl) (by kernel_rfl) (by kernel_rfl) (by kernel_rfl) (fun _ _ _ h => h) (Or.inl ⟨?hw115, ?hy115⟩) (Below.drew (Below.refl _ _)) ?rest115
      case ho115 => (simp only [List.getElem?_toArray, List.getElem?_cons_succ, List.getElem?_cons_zero] <;> rfl)
      case hw115 => rfl
      case hy115 => (intro w' hSw; have jP := HPC.out w' (HB.out.trans (hSw.mono HB.out.size)); obtain ⟨c3, c5q, c7, c13q, cgq, -⟩ := HCC.out w' (HB.out.trans (hSw.mono HB.out.size)); go_simp; (try with_reducible rfl))
      case rest115 =>
      (try simp only [Act.put, List.setIfInBounds_toArray, List.set_cons_zero, List.set_cons_succ])
      refine Goes.take (i := 15) (oi := ?oi116) (x := ?vx116) ?ho116 (by kernel_rfl) (by kernel_rfl) (by kernel_rfl) (by kernel_rfl) (fun _ _ _ h => h) (Or.inl ⟨?hw116, ?hy116⟩) (Below.drew (Below.refl _ _)) ?rest116
      case ho116 => (simp only [List.getElem?_toArray, List.getElem?_cons_succ, List.getElem?_cons_zero] <;> rfl)
      case hw116 => rfl
      case hy116 => (intro w' hSw; have jP := HPC.out w' (HB.out.trans (hSw.mono HB.out.size)); obtain ⟨c3, c5q, c7, c13q, cgq, -⟩ := HCC.out w' (HB.out.trans (hSw.mono HB.out.size)); go_simp; (try with_reducible rfl))
      case rest116 =>
      (try simp only [Act.put, List.setIfInBounds_toArray, List.set_cons_zero, List.set_cons_succ])
      refine Goes.take (i := 16) (oi := ?oi117) (x := ?vx117) ?ho117 (by kernel_rfl) (by kernel_rfl) (by kernel_rfl) (by kernel_rfl) (fun _ _ _ h => h) (Or.inl ⟨?hw117, ?hy117⟩) (Below.drew (Below.refl _ _)) ?rest117
      case ho117 => (simp only [List.getElem?_toArray, List.getElem?_cons_succ, List.getElem?_cons_zero] <;> rfl)
      case hw117 => rfl
      case hy117 => (intro w' hSw; have jP := HPC.out w' (HB.out.trans (hSw.mono HB.out.size)); obtain ⟨c3, c5q, c7, c13q, cgq, -⟩ := HCC.out w' (HB.out.trans (hSw.mono HB.out.size)); go_simp; (try with_reducible rfl))
      case rest117 =>
      (try simp only [Act.put, List.setIfInBounds_toArray, List.set_cons_zero, List.set_cons_succ])
      refine Goes.take (i := 17) (oi := ?oi118) (x := ?vx118) ?ho118 (by kernel_rfl) (by kernel_rfl) (by kernel_rfl) (by kernel_rfl) (fun _ _ _ h => h) (Or.inl ⟨?hw118, ?hy118⟩) (Below.drew (Below.refl _ _)) ?rest118
      case ho118 => (simp only [List.getElem?_toArray, List.getElem?_cons_succ, List.getElem?_cons_zero] <;> rfl)
      case hw118 => rfl
      case hy118 => (intro w' hSw; have jP := HPC.out w' (HB.out.trans (hSw.mono HB.out.size)); obtain ⟨c3, c5q, c7, c13q, cgq, -⟩ := HCC.out w' (HB.out.trans (hSw.mono HB.out.size)); go_simp; (try with_reducible rfl))
      case rest118 =>
      (try simp only [Act.put, List.setIfInBounds_toArray, List.set_cons_zero, List.set_cons_succ])
      refine Goes.take (i := 18) (oi := ?oi119) (x := ?vx119) ?ho119 (by kernel_rfl) (by kernel_rfl) (by kernel_rfl) (by kernel_rfl) (fun _ _ _ h => h) (Or.inl ⟨?hw119, ?hy119⟩) (Below.drew (Below.refl _ _)) ?rest119
      case ho119 => (simp only [List.getElem?_toArray, List.getElem?_cons_succ, List.getElem?_cons_zero] <;> rfl)
      case hw119 => rfl
      case hy119 => (intro w' hSw; have jP := HPC.out w' (HB.out.trans (hSw.mono HB.out.size)); obtain ⟨c3, c5q, c7, c13q, cgq, -⟩ := HCC.out w' (HB.out.trans (hSw.mono HB.out.size)); go_simp; (try with_reducible rfl))
      case rest119 =>
      (try simp only [Act.put, List.setIfInBounds_toArray, List.set_cons_zero, List.set_cons_succ])
      refine Goes.all (rs := [19]) (by kernel_rfl) (by simp) ?_
      refine Ups.cons (i := 19) (o := ?oo11) ?ho11 (fun KQ hKQ => ?stp11) Ups.nil
      case ho11 => (simp only [List.getElem?_toArray, List.getElem?_cons_succ, List.getElem?_cons_zero] <;> rfl)
      case stp11 =>
      go_simp
      obtain ⟨v1, hv1⟩ : ∃ v, v = (wr.alloc (.cells #[.int .i64 (k : Int), .int .i64 (wn : Int), .int .i64 (gn : Int), .int .i64 ak] 2)).drew := ⟨_, rfl⟩
      rw [← hv1]
      have hb1 : Below wr.heap.size wr v1 := by rw [hv1]; exact ((Below.refl _ _).alloc (Nat.le_refl _) _).drew
      have hlt1 : wr.heap.size < v1.heap.size := by rw [hv1]; simp
      have hc1 : ∀ j (h : j < 4), v1.cell? ⟨wr.heap.size, j, none⟩ = some (.int .i64 ([(k : Int), (wn : Int), (gn : Int), ak][j])) := fun j h => by
        rw [hv1]
        rcases j with _ | _ | _ | _ | j
        · simp
        · simp
        · simp
        · simp
        · omega
      clear hv1
      have HS1 : Hid (Below wr.heap.size wr v1) := hb1
      clear hb1
      refine hKQ.out _ _ (Or.inr HS1.out) ?_
      clear hKQ KQ
      (try simp only [Act.put, List.setIfInBounds_toArray, List.set_cons_zero, List.set_cons_succ])
      refine Goes.all (rs := [20]) (by kernel_rfl) (by simp) ?_
      refine Ups.cons (i := 20) (o := ?oo12) ?ho12 (fun KQ hKQ => ?stp12) Ups.nil
      case ho12 => (simp only [List.getElem?_toArray, List.getElem?_cons_succ, List.getElem?_cons_zero] <;> rfl)
      case stp12 =>
      go_simp
      go_at_call 32
      refine (HL2.out _ _ hc1 hlt1).mono ?_
      rintro e v2 ⟨rfl, hbq⟩
      have HS2 : Hid (Below wr.heap.size wr v2) := HS1.out.trans (hbq.mono HS1.out.size)
      clear hbq hc1
      dsimp only
      refine hKQ.out _ _ (Or.inr HS2.out) ?_
      clear hKQ KQ
      (try simp only [Act.put, List.setIfInBounds_toArray, List.set_cons_zero, List.set_cons_succ])
      refine Goes.take (i := 21) (oi := ?oi201) (x := ?vx201) ?ho201 (by kernel_rfl) (by kernel_rfl) (by kernel_rfl) (by kernel_rfl) (fun _ _ _ h => h) (Or.inl ⟨?hw201, ?hy201⟩) HS2.out ?rest201
      case ho201 => (simp only [List.getElem?_toArray, List.getElem?_cons_succ, List.getElem?_cons_zero] <;> rfl)
      case hw201 => rfl
      case hy201 => (intro w' hSw; go_simp; (try with_reducible rfl))
      case rest201 =>
      (try simp only [Act.put, List.setIfInBounds_toArray, List.set_cons_zero, List.set_cons_succ])
      refine Goes.take (i := 22) (oi := ?oi202) (x := ?vx202) ?ho202 (by kernel_rfl) (by kernel_rfl) (by kernel_rfl) (by kernel_rfl) (fun _ _ _ h => h) (Or.inl ⟨?hw202, ?hy202⟩) HS2.out ?rest202
      case ho202 => (simp only [List.getElem?_toArray, List.getElem?_cons_succ, List.getElem?_cons_zero] <;> rfl)
      case hw202 => rfl
      case hy202 => (intro w' hSw; go_simp; (try with_reducible rfl))
      case rest202 =>
      (try simp only [Act.put, List.setIfInBounds_toArray, List.set_cons_zero, List.set_cons_succ])
      refine Goes.done (by kernel_rfl) ?_ _
      refine NoPanic.normal ?_
      rw [SB_app]
      have HB2 : Hid (Below w.heap.size w v2) := HB.out.trans (HS2.out.mono HB.out.size)
      clear HS2 HS1 HL2 hs1 hs2 hs3 hlt1
      obtain ⟨D2, hD2⟩ : ∃ D, D = d ++ L1 := ⟨_, rfl⟩
      have hd2 : D2.length ≤ 120000192 := by rw [hD2, List.length_append]; omega
      have HNY : Hid (preT x (k + 1) = D2 ++ 32 :: kindB pl ++ jt (l.map subT) ++ [10]) := HNX.out.trans (by rw [hD2]; simp)
      rw [← hD2]
      clear HNX hD2 hpk hl1
      obtain ⟨c3, -, -, c13q, -⟩ := HCC.out v2 HB2.out
      have hs1 : (SB D2).size = D2.length := SB_size _
      have hs2 : ¬ 9223372036854775807 < D2.length + 6 := by omega
      cases pl with
      | true =>
        obtain ⟨D3, hD3⟩ : ∃ D, D = D2 ++ 32 :: kindB true := ⟨_, rfl⟩
        have e3 : Hid (SB D2 ++ { data := #[32, 112, 108, 97, 105, 110] } = SB D3) := by show _ = _; rw [hD3, ← SB_app]; rfl
        have hd3 : D3.length ≤ 120000198 := by rw [hD3]; simp [kindB]; omega
        have HNZ : Hid (preT x (k + 1) = D3 ++ jt (l.map subT) ++ [10]) := HNY.out.trans (by rw [hD3])
        clear HNY hD3
        go_wp2_with fail
        rw [e3.out]
        clear e3 hs1 hs2 c3 c13q
        go_loopw [3, 6] (fun t i wq => ∃ i' : Nat, i' ≤ l.length ∧ i = .int .i64 i' ∧ t = .string (SB (D3 ++ jt ((l.take i').map subT))) ∧ Hid (Below w.heap.size w wq)) (fun _ i _ => l.length - (intOf i).toNat)
        case atStart => exact ⟨0, by omega, rfl, by rw [List.take_zero, List.map_nil]; show _ = Value.string (SB (D3 ++ [])); rw [List.append_nil], HB2⟩
        case round =>
          rename World => wq
          obtain ⟨i, hi, rfl, rfl, HBq⟩ := hrel
          by_cases hil : i < l.length
          · obtain ⟨b13, o13, ea, -, -⟩ := (HCC.out wq HBq.out).2.2.2.2.2 i hil
            obtain ⟨⟨z0, z1⟩, z2, z3⟩ := hlb _ (List.getElem_mem hil)
            have hsb : (jt ((l.take i).map subT)).length ≤ 50000000 := by
              have h := jt_app ((l.take i).map subT) ((l.drop i).map subT)
              rw [← List.map_append, List.take_append_drop] at h
              rw [h, List.length_append] at j2; omega
            have hnx : Hid (D3 ++ jt ((l.take i).map subT) ++ 32 :: subT l[i] = D3 ++ jt ((l.take (i + 1)).map subT)) := by
              show _ = _
              have h := jt_take (L := l.map subT) (k := i) (by simpa using hil)
              rw [List.map_take, List.map_take, h, List.getElem_map]; simp
            obtain ⟨pn, hpn⟩ : ∃ q : Nat, l[i].1 = (q : Int) := ⟨l[i].1.toNat, by omega⟩
            obtain ⟨sn, hsn⟩ : ∃ q : Nat, l[i].2.1 = (q : Int) := ⟨l[i].2.1.toNat, by omega⟩
            have HSS : Hid (∀ W, Below w.heap.size w W → W.cell? ⟨b13, o13 + i * 16, none⟩ = some (.int .i64 pn) ∧ W.cell? ⟨b13, o13 + i * 16 + 1, none⟩ = some (.int .i64 sn)) := fun W h => by
              obtain ⟨b', o', e', t0, t1⟩ := (HCC.out W h).2.2.2.2.2 i hil
              rw [ea] at e'; simp only [Option.some.injEq, Addr.mk.injEq, and_true] at e'; obtain ⟨rfl, rfl⟩ := e'
              rw [hpn] at t0; rw [hsn] at t1; exact ⟨t0, t1⟩
            have HCQ : Hid (∀ W, Below w.heap.size w W → W.cell? ⟨sb, so + k * 14 + 13, none⟩ = some (.slice (some ⟨b13, o13, none⟩) l.length c13)) := fun W h => by have q := (HCC.out W h).2.2.2.1; rw [ea] at q; exact q
            have hsx : subT l[i] = dg (pn : Int) ++ 58 :: dg (sn : Int) := by show dg l[i].1 ++ 58 :: dg l[i].2.1 = _; rw [hpn, hsn]
            have HP1 : Hid (∀ W, Calls Tryz.prog 33 #[.int .i64 pn] W fun e w' => e = .returned (.string (SB (dg pn))) ∧ Below W.heap.size W w') := fun W => sDigits pn W (by omega)
            have HP2 : Hid (∀ W, Calls Tryz.prog 33 #[.int .i64 sn] W fun e w' => e = .returned (.string (SB (dg sn))) ∧ Below W.heap.size W w') := fun W => sDigits sn W (by omega)
            have hv1 := dg_len (n := (pn : Int)) (by omega) (by omega)
            have hv2 := dg_len (n := (sn : Int)) (by omega) (by omega)
            rw [hsx] at hnx
            clear hpn hsn hsx ea z0 z1 z2 z3
            obtain ⟨E, hE⟩ : ∃ E, E = D3 ++ jt ((l.take i).map subT) := ⟨_, rfl⟩
            have hle : E.length ≤ 170000198 := by rw [hE, List.length_append]; omega
            rw [← hE] at hnx ⊢
            clear hE hsb
            generalize dg (pn : Int) = P1 at *
            generalize dg (sn : Int) = P2 at *
            have hz1 : (SB E).size = E.length := SB_size _
            have hz2 : (SB P1).size = P1.length := SB_size _
            have hz3 : (SB P2).size = P2.length := SB_size _
            have hz4 : ¬ 9223372036854775807 < E.length + 1 := by omega
            have hz5 : ¬ 9223372036854775807 < E.length + 1 + P1.length := by omega
            have hz6 : ¬ 9223372036854775807 < E.length + 1 + P1.length + 1 := by omega
            have hz7 : ¬ 9223372036854775807 < E.length + 1 + P1.length + 1 + P2.length := by omega
            have e5 : Hid (SB E ++ { data := #[32] } ++ SB P1 ++ { data := #[58] } ++ SB P2 = SB (E ++ 32 :: (P1 ++ 58 :: P2))) := by
              show _ = _
              rw [show ({ data := #[32] } : ByteArray) = SB [32] from rfl, show ({ data := #[58] } : ByteArray) = SB [58] from rfl, SB_app, SB_app, SB_app, SB_app]; simp
            have kC := HCQ.out wq HBq.out
            go_upto_region 13 with fail
            clear kC
            refine wp_region_noPanic ?_
            refine Goes.start (S := fun w' => Below wq.heap.size wq w') (z := 100) (by kernel_rfl) ?_
            refine Goes.take (i := 0) (oi := ?oi1301) (x := ?vx1301) ?ho1301 (by kernel_rfl) (by kernel_rfl) (by kernel_rfl) (by kernel_rfl) (fun _ _ _ h => h) (Or.inl ⟨?hw1301, ?hy1301⟩) (Below.drew (Below.refl _ _)) ?rest1301
            case ho1301 => (simp only [List.getElem?_toArray, List.getElem?_cons_zero] <;> rfl)
            case hw1301 => rfl
            case hy1301 => (intro w' hSw; have c13 := HCQ.out w' (HBq.out.trans (hSw.mono HBq.out.size)); obtain ⟨t0, t1⟩ := HSS.out w' (HBq.out.trans (hSw.mono HBq.out.size)); go_simp; (try with_reducible rfl))
            case rest1301 =>
            (try simp only [Act.put, List.setIfInBounds_toArray, List.set_cons_zero, List.set_cons_succ])
            refine Goes.take (i := 1) (oi := ?oi1302) (x := ?vx1302) ?ho1302 (by kernel_rfl) (by kernel_rfl) (by kernel_rfl) (by kernel_rfl) (fun _ _ _ h => h) (Or.inl ⟨?hw1302, ?hy1302⟩) (Below.drew (Below.refl _ _)) ?rest1302
            case ho1302 => (simp only [List.getElem?_toArray, List.getElem?_cons_succ, List.getElem?_cons_zero] <;> rfl)
            case hw1302 => rfl
            case hy1302 => (intro w' hSw; have c13 := HCQ.out w' (HBq.out.trans (hSw.mono HBq.out.size)); obtain ⟨t0, t1⟩ := HSS.out w' (HBq.out.trans (hSw.mono HBq.out.size)); go_simp; (try with_reducible rfl))
            case rest1302 =>
            (try simp only [Act.put, List.setIfInBounds_toArray, List.set_cons_zero, List.set_cons_succ])
            refine Goes.take (i := 2) (oi := ?oi1303) (x := ?vx1303) ?ho1303 (by kernel_rfl) (by kernel_rfl) (by kernel_rfl) (by kernel_rfl) (fun _ _ _ h => h) (Or.inl ⟨?hw1303, ?hy1303⟩) (Below.drew (Below.refl _ _)) ?rest1303
            case ho1303 => (simp only [List.getElem?_toArray, List.getElem?_cons_succ, List.getElem?_cons_zero] <;> rfl)
            case hw1303 => rfl
            case hy1303 => (intro w' hSw; have c13 := HCQ.out w' (HBq.out.trans (hSw.mono HBq.out.size)); obtain ⟨t0, t1⟩ := HSS.out w' (HBq.out.trans (hSw.mono HBq.out.size)); go_simp; (try with_reducible rfl))
            case rest1303 =>
            (try simp only [Act.put, List.setIfInBounds_toArray, List.set_cons_zero, List.set_cons_succ])
            refine Goes.take (i := 3) (oi := ?oi1304) (x := ?vx1304) ?ho1304 (by kernel_rfl) (by kernel_rfl) (by kernel_rfl) (by kernel_rfl) (fun _ _ _ h => h) (Or.inl ⟨?hw1304, ?hy1304⟩) (Below.drew (Below.refl _ _)) ?rest1304
            case ho1304 => (simp only [List.getElem?_toArray, List.getElem?_cons_succ, List.getElem?_cons_zero] <;> rfl)
            case hw1304 => rfl
            case hy1304 => (intro w' hSw; have c13 := HCQ.out w' (HBq.out.trans (hSw.mono HBq.out.size)); obtain ⟨t0, t1⟩ := HSS.out w' (HBq.out.trans (hSw.mono HBq.out.size)); go_simp; (try with_reducible rfl))
            case rest1304 =>
            (try simp only [Act.put, List.setIfInBounds_toArray, List.set_cons_zero, List.set_cons_succ])
            refine Goes.take (i := 4) (oi := ?oi1305) (x := ?vx1305) ?ho1305 (by kernel_rfl) (by kernel_rfl) (by kernel_rfl) (by kernel_rfl) (fun _ _ _ h => h) (Or.inl ⟨?hw1305, ?hy1305⟩) (Below.drew (Below.refl _ _)) ?rest1305
            case ho1305 => (simp only [List.getElem?_toArray, List.getElem?_cons_succ, List.getElem?_cons_zero] <;> rfl)
            case hw1305 => rfl
            case hy1305 => (intro w' hSw; have c13 := HCQ.out w' (HBq.out.trans (hSw.mono HBq.out.size)); obtain ⟨t0, t1⟩ := HSS.out w' (HBq.out.trans (hSw.mono HBq.out.size)); go_simp; (try with_reducible rfl))
            case rest1305 =>
            (try simp only [Act.put, List.setIfInBounds_toArray, List.set_cons_zero, List.set_cons_succ])
            refine Goes.take (i := 5) (oi := ?oi1306) (x := ?vx1306) ?ho1306 (by kernel_rfl) (by kernel_rfl) (by kernel_rfl) (by kernel_rfl) (fun _ _ _ h => h) (Or.inl ⟨?hw1306, ?hy1306⟩) (Below.drew (Below.refl _ _)) ?rest1306
            case ho1306 => (simp only [List.getElem?_toArray, List.getElem?_cons_succ, List.getElem?_cons_zero] <;> rfl)
            case hw1306 => rfl
            case hy1306 => (intro w' hSw; have c13 := HCQ.out w' (HBq.out.trans (hSw.mono HBq.out.size)); obtain ⟨t0, t1⟩ := HSS.out w' (HBq.out.trans (hSw.mono HBq.out.size)); go_simp; (try with_reducible rfl))
            case rest1306 =>
            (try simp only [Act.put, List.setIfInBounds_toArray, List.set_cons_zero, List.set_cons_succ])
            refine Goes.take (i := 6) (oi := ?oi1307) (x := ?vx1307) ?ho1307 (by kernel_rfl) (by kernel_rfl) (by kernel_rfl) (by kernel_rfl) (fun _ _ _ h => h) (Or.inl ⟨?hw1307, ?hy1307⟩) (Below.drew (Below.refl _ _)) ?rest1307
            case ho1307 => (simp only [List.getElem?_toArray, List.getElem?_cons_succ, List.getElem?_cons_zero] <;> rfl)
            case hw1307 => rfl
            case hy1307 => (intro w' hSw; have c13 := HCQ.out w' (HBq.out.trans (hSw.mono HBq.out.size)); obtain ⟨t0, t1⟩ := HSS.out w' (HBq.out.trans (hSw.mono HBq.out.size)); go_simp; (try with_reducible rfl))
            case rest1307 =>
            (try simp only [Act.put, List.setIfInBounds_toArray, List.set_cons_zero, List.set_cons_succ])
            refine Goes.take (i := 7) (oi := ?oi1308) (x := ?vx1308) ?ho1308 (by kernel_rfl) (by kernel_rfl) (by kernel_rfl) (by kernel_rfl) (fun _ _ _ h => h) (Or.inl ⟨?hw1308, ?hy1308⟩) (Below.drew (Below.refl _ _)) ?rest1308
            case ho1308 => (simp only [List.getElem?_toArray, List.getElem?_cons_succ, List.getElem?_cons_zero] <;> rfl)
            case hw1308 => rfl
            case hy1308 => (intro w' hSw; have c13 := HCQ.out w' (HBq.out.trans (hSw.mono HBq.out.size)); obtain ⟨t0, t1⟩ := HSS.out w' (HBq.out.trans (hSw.mono HBq.out.size)); go_simp; (try with_reducible rfl))
            case rest1308 =>
            (try simp only [Act.put, List.setIfInBounds_toArray, List.set_cons_zero, List.set_cons_succ])
            refine Goes.take (i := 8) (oi := ?oi1309) (x := ?vx1309) ?ho1309 (by kernel_rfl) (by kernel_rfl) (by kernel_rfl) (by kernel_rfl) (fun _ _ _ h => h) (Or.inl ⟨?hw1309, ?hy1309⟩) (Below.drew (Below.refl _ _)) ?rest1309
            case ho1309 => (simp only [List.getElem?_toArray, List.getElem?_cons_succ, List.getElem?_cons_zero] <;> rfl)
            case hw1309 => rfl
            case hy1309 => (intro w' hSw; have c13 := HCQ.out w' (HBq.out.trans (hSw.mono HBq.out.size)); obtain ⟨t0, t1⟩ := HSS.out w' (HBq.out.trans (hSw.mono HBq.out.size)); go_simp; (try with_reducible rfl))
            case rest1309 =>
            (try simp only [Act.put, List.setIfInBounds_toArray, List.set_cons_zero, List.set_cons_succ])
            refine Goes.take (i := 9) (oi := ?oi1310) (x := ?vx1310) ?ho1310 (by kernel_rfl) (by kernel_rfl) (by kernel_rfl) (by kernel_rfl) (fun _ _ _ h => h) (Or.inl ⟨?hw1310, ?hy1310⟩) (Below.drew (Below.refl _ _)) ?rest1310
            case ho1310 => (simp only [List.getElem?_toArray, List.getElem?_cons_succ, List.getElem?_cons_zero] <;> rfl)
            case hw1310 => rfl
            case hy1310 => (intro w' hSw; have c13 := HCQ.out w' (HBq.out.trans (hSw.mono HBq.out.size)); obtain ⟨t0, t1⟩ := HSS.out w' (HBq.out.trans (hSw.mono HBq.out.size)); go_simp; (try with_reducible rfl))
            case rest1310 =>
            (try simp only [Act.put, List.setIfInBounds_toArray, List.set_cons_zero, List.set_cons_succ])
            refine Goes.take (i := 13) (oi := ?oi1311) (x := ?vx1311) ?ho1311 (by kernel_rfl) (by kernel_rfl) (by kernel_rfl) (by kernel_rfl) (fun _ _ _ h => h) (Or.inl ⟨?hw1311, ?hy1311⟩) (Below.drew (Below.refl _ _)) ?rest1311
            case ho1311 => (simp only [List.getElem?_toArray, List.getElem?_cons_succ, List.getElem?_cons_zero] <;> rfl)
            case hw1311 => rfl
            case hy1311 => (intro w' hSw; have c13 := HCQ.out w' (HBq.out.trans (hSw.mono HBq.out.size)); obtain ⟨t0, t1⟩ := HSS.out w' (HBq.out.trans (hSw.mono HBq.out.size)); go_simp; (try with_reducible rfl))
            case rest1311 =>
            (try simp only [Act.put, List.setIfInBounds_toArray, List.set_cons_zero, List.set_cons_succ])
            refine Goes.take (i := 14) (oi := ?oi1312) (x := ?vx1312) ?ho1312 (by kernel_rfl) (by kernel_rfl) (by kernel_rfl) (by kernel_rfl) (fun _ _ _ h => h) (Or.inl ⟨?hw1312, ?hy1312⟩) (Below.drew (Below.refl _ _)) ?rest1312
            case ho1312 => (simp only [List.getElem?_toArray, List.getElem?_cons_succ, List.getElem?_cons_zero] <;> rfl)
            case hw1312 => rfl
            case hy1312 => (intro w' hSw; have c13 := HCQ.out w' (HBq.out.trans (hSw.mono HBq.out.size)); obtain ⟨t0, t1⟩ := HSS.out w' (HBq.out.trans (hSw.mono HBq.out.size)); go_simp; (try with_reducible rfl))
            case rest1312 =>
            (try simp only [Act.put, List.setIfInBounds_toArray, List.set_cons_zero, List.set_cons_succ])
            refine Goes.take (i := 15) (oi := ?oi1313) (x := ?vx1313) ?ho1313 (by kernel_rfl) (by kernel_rfl) (by kernel_rfl) (by kernel_rfl) (fun _ _ _ h => h) (Or.inl ⟨?hw1313, ?hy1313⟩) (Below.drew (Below.refl _ _)) ?rest1313
            case ho1313 => (simp only [List.getElem?_toArray, List.getElem?_cons_succ, List.getElem?_cons_zero] <;> rfl)
            case hw1313 => rfl
            case hy1313 => (intro w' hSw; have c13 := HCQ.out w' (HBq.out.trans (hSw.mono HBq.out.size)); obtain ⟨t0, t1⟩ := HSS.out w' (HBq.out.trans (hSw.mono HBq.out.size)); go_simp; (try with_reducible rfl))
            case rest1313 =>
            (try simp only [Act.put, List.setIfInBounds_toArray, List.set_cons_zero, List.set_cons_succ])
            refine Goes.take (i := 16) (oi := ?oi1314) (x := ?vx1314) ?ho1314 (by kernel_rfl) (by kernel_rfl) (by kernel_rfl) (by kernel_rfl) (fun _ _ _ h => h) (Or.inl ⟨?hw1314, ?hy1314⟩) (Below.drew (Below.refl _ _)) ?rest1314
            case ho1314 => (simp only [List.getElem?_toArray, List.getElem?_cons_succ, List.getElem?_cons_zero] <;> rfl)
            case hw1314 => rfl
            case hy1314 => (intro w' hSw; have c13 := HCQ.out w' (HBq.out.trans (hSw.mono HBq.out.size)); obtain ⟨t0, t1⟩ := HSS.out w' (HBq.out.trans (hSw.mono HBq.out.size)); go_simp; (try with_reducible rfl))
            case rest1314 =>
            (try simp only [Act.put, List.setIfInBounds_toArray, List.set_cons_zero, List.set_cons_succ])
            refine Goes.take (i := 17) (oi := ?oi1315) (x := ?vx1315) ?ho1315 (by kernel_rfl) (by kernel_rfl) (by kernel_rfl) (by kernel_rfl) (fun _ _ _ h => h) (Or.inl ⟨?hw1315, ?hy1315⟩) (Below.drew (Below.refl _ _)) ?rest1315
            case ho1315 => (simp only [List.getElem?_toArray, List.getElem?_cons_succ, List.getElem?_cons_zero] <;> rfl)
            case hw1315 => rfl
            case hy1315 => (intro w' hSw; have c13 := HCQ.out w' (HBq.out.trans (hSw.mono HBq.out.size)); obtain ⟨t0, t1⟩ := HSS.out w' (HBq.out.trans (hSw.mono HBq.out.size)); go_simp; (try with_reducible rfl))
            case rest1315 =>
            (try simp only [Act.put, List.setIfInBounds_toArray, List.set_cons_zero, List.set_cons_succ])
            refine Goes.take (i := 18) (oi := ?oi1316) (x := ?vx1316) ?ho1316 (by kernel_rfl) (by kernel_rfl) (by kernel_rfl) (by kernel_rfl) (fun _ _ _ h => h) (Or.inl ⟨?hw1316, ?hy1316⟩) (Below.drew (Below.refl _ _)) ?rest1316
            case ho1316 => (simp only [List.getElem?_toArray, List.getElem?_cons_succ, List.getElem?_cons_zero] <;> rfl)
            case hw1316 => rfl
            case hy1316 => (intro w' hSw; have c13 := HCQ.out w' (HBq.out.trans (hSw.mono HBq.out.size)); obtain ⟨t0, t1⟩ := HSS.out w' (HBq.out.trans (hSw.mono HBq.out.size)); go_simp; (try with_reducible rfl))
            case rest1316 =>
            (try simp only [Act.put, List.setIfInBounds_toArray, List.set_cons_zero, List.set_cons_succ])
            refine Goes.take (i := 19) (oi := ?oi1317) (x := ?vx1317) ?ho1317 (by kernel_rfl) (by kernel_rfl) (by kernel_rfl) (by kernel_rfl) (fun _ _ _ h => h) (Or.inl ⟨?hw1317, ?hy1317⟩) (Below.drew (Below.refl _ _)) ?rest1317
            case ho1317 => (simp only [List.getElem?_toArray, List.getElem?_cons_succ, List.getElem?_cons_zero] <;> rfl)
            case hw1317 => rfl
            case hy1317 => (intro w' hSw; have c13 := HCQ.out w' (HBq.out.trans (hSw.mono HBq.out.size)); obtain ⟨t0, t1⟩ := HSS.out w' (HBq.out.trans (hSw.mono HBq.out.size)); go_simp; (try with_reducible rfl))
            case rest1317 =>
            (try simp only [Act.put, List.setIfInBounds_toArray, List.set_cons_zero, List.set_cons_succ])
            refine Goes.take (i := 20) (oi := ?oi1318) (x := ?vx1318) ?ho1318 (by kernel_rfl) (by kernel_rfl) (by kernel_rfl) (by kernel_rfl) (fun _ _ _ h => h) (Or.inl ⟨?hw1318, ?hy1318⟩) (Below.drew (Below.refl _ _)) ?rest1318
            case ho1318 => (simp only [List.getElem?_toArray, List.getElem?_cons_succ, List.getElem?_cons_zero] <;> rfl)
            case hw1318 => rfl
            case hy1318 => (intro w' hSw; have c13 := HCQ.out w' (HBq.out.trans (hSw.mono HBq.out.size)); obtain ⟨t0, t1⟩ := HSS.out w' (HBq.out.trans (hSw.mono HBq.out.size)); go_simp; (try with_reducible rfl))
            case rest1318 =>
            (try simp only [Act.put, List.setIfInBounds_toArray, List.set_cons_zero, List.set_cons_succ])
            refine Goes.all (rs := [10]) (by kernel_rfl) (by simp) ?_
            refine Ups.cons (i := 10) (o := ?oo1319) ?ho1319 (fun KK hKK => ?stp1319) Ups.nil
            case ho1319 => (simp only [List.getElem?_toArray, List.getElem?_cons_succ, List.getElem?_cons_zero] <;> rfl)
            case stp1319 =>
            go_simp
            go_at_call 33
            refine (HP1.out _).mono ?_
            rintro e wa ⟨rfl, hbq⟩
            replace hbq := (Below.drew (Below.refl wq.heap.size wq)).trans hbq
            have HS1319 : Hid (Below wq.heap.size wq wa) := hbq
            clear hbq
            dsimp only
            refine hKK.out _ _ (Or.inr HS1319.out) ?_
            clear hKK KK
            (try simp only [Act.put, List.setIfInBounds_toArray, List.set_cons_zero, List.set_cons_succ])
            refine Goes.take (i := 11) (oi := ?oi1320) (x := ?vx1320) ?ho1320 (by kernel_rfl) (by kernel_rfl) (by kernel_rfl) (by kernel_rfl) (fun _ _ _ h => h) (Or.inl ⟨?hw1320, ?hy1320⟩) HS1319.out ?rest1320
            case ho1320 => (simp only [List.getElem?_toArray, List.getElem?_cons_succ, List.getElem?_cons_zero] <;> rfl)
            case hw1320 => rfl
            case hy1320 => (intro w' hSw; have c13 := HCQ.out w' (HBq.out.trans (hSw.mono HBq.out.size)); obtain ⟨t0, t1⟩ := HSS.out w' (HBq.out.trans (hSw.mono HBq.out.size)); go_simp; (try with_reducible rfl))
            case rest1320 =>
            (try simp only [Act.put, List.setIfInBounds_toArray, List.set_cons_zero, List.set_cons_succ])
            refine Goes.take (i := 12) (oi := ?oi1321) (x := ?vx1321) ?ho1321 (by kernel_rfl) (by kernel_rfl) (by kernel_rfl) (by kernel_rfl) (fun _ _ _ h => h) (Or.inl ⟨?hw1321, ?hy1321⟩) HS1319.out ?rest1321
            case ho1321 => (simp only [List.getElem?_toArray, List.getElem?_cons_succ, List.getElem?_cons_zero] <;> rfl)
            case hw1321 => rfl
            case hy1321 => (intro w' hSw; have c13 := HCQ.out w' (HBq.out.trans (hSw.mono HBq.out.size)); obtain ⟨t0, t1⟩ := HSS.out w' (HBq.out.trans (hSw.mono HBq.out.size)); go_simp; (try with_reducible rfl))
            case rest1321 =>
            (try simp only [Act.put, List.setIfInBounds_toArray, List.set_cons_zero, List.set_cons_succ])
            refine Goes.all (rs := [21]) (by kernel_rfl) (by simp) ?_
            refine Ups.cons (i := 21) (o := ?oo1322) ?ho1322 (fun KK hKK => ?stp1322) Ups.nil
            case ho1322 => (simp only [List.getElem?_toArray, List.getElem?_cons_succ, List.getElem?_cons_zero] <;> rfl)
            case stp1322 =>
            go_simp
            go_at_call 33
            refine (HP2.out _).mono ?_
            rintro e wb ⟨rfl, hbq⟩
            replace hbq := HS1319.out.trans (hbq.mono HS1319.out.size)
            have HS1322 : Hid (Below wq.heap.size wq wb) := hbq
            clear hbq
            dsimp only
            refine hKK.out _ _ (Or.inr HS1322.out) ?_
            clear hKK KK
            (try simp only [Act.put, List.setIfInBounds_toArray, List.set_cons_zero, List.set_cons_succ])
            refine Goes.take (i := 22) (oi := ?oi1323) (x := ?vx1323) ?ho1323 (by kernel_rfl) (by kernel_rfl) (by kernel_rfl) (by kernel_rfl) (fun _ _ _ h => h) (Or.inl ⟨?hw1323, ?hy1323⟩) HS1322.out ?rest1323
            case ho1323 => (simp only [List.getElem?_toArray, List.getElem?_cons_succ, List.getElem?_cons_zero] <;> rfl)
            case hw1323 => rfl
            case hy1323 => (intro w' hSw; have c13 := HCQ.out w' (HBq.out.trans (hSw.mono HBq.out.size)); obtain ⟨t0, t1⟩ := HSS.out w' (HBq.out.trans (hSw.mono HBq.out.size)); go_simp; (try with_reducible rfl))
            case rest1323 =>
            (try simp only [Act.put, List.setIfInBounds_toArray, List.set_cons_zero, List.set_cons_succ])
            refine Goes.take (i := 23) (oi := ?oi1324) (x := ?vx1324) ?ho1324 (by kernel_rfl) (by kernel_rfl) (by kernel_rfl) (by kernel_rfl) (fun _ _ _ h => h) (Or.inl ⟨?hw1324, ?hy1324⟩) HS1322.out ?rest1324
            case ho1324 => (simp only [List.getElem?_toArray, List.getElem?_cons_succ, List.getElem?_cons_zero] <;> rfl)
            case hw1324 => rfl
            case hy1324 => (intro w' hSw; have c13 := HCQ.out w' (HBq.out.trans (hSw.mono HBq.out.size)); obtain ⟨t0, t1⟩ := HSS.out w' (HBq.out.trans (hSw.mono HBq.out.size)); go_simp; (try with_reducible rfl))
            case rest1324 =>
            (try simp only [Act.put, List.setIfInBounds_toArray, List.set_cons_zero, List.set_cons_succ])
            refine Goes.done (by kernel_rfl) ?_ _
            refine NoPanic.normal ?_
            have HBb : Hid (Below w.heap.size w wb) := HBq.out.trans (HS1322.out.mono HBq.out.size)
            rw [e5.out]
            clear HP1 HP2 hz1 hz2 hz3 hz4 hz5 hz6 hz7 e5
            go_wp2_with fail
            go_roundw
            case rel => exact ⟨i + 1, by omega, by go_num, by rw [hnx.out], HBb⟩
            case measure => simp [intOf]; omega
          · obtain rfl : i = l.length := by omega
            rw [List.take_of_length_le (Nat.le_refl _)]
            have kC := (HCC.out wq HBq.out).2.2.2.1
            obtain ⟨E, hE⟩ : ∃ E, E = D3 ++ jt (l.map subT) := ⟨_, rfl⟩
            have hle : E.length ≤ 170000198 := by rw [hE, List.length_append]; omega
            rw [← hE] at HNZ ⊢
            clear hE
            have hz1 : (SB E).size = E.length := SB_size _
            have hz4 : ¬ 9223372036854775807 < E.length + 1 := by omega
            have e5 : Hid (SB E ++ { data := #[10] } = SB (preT x (k + 1))) := by show _ = _; rw [HNZ.out, ← SB_app]; rfl
            go_wp2_with fail
            go_roundw
            case rel => exact ⟨k + 1, by omega, by go_num, by rw [e5.out], HBq⟩
            case measure => simp [intOf]; omega
      | false =>
        obtain ⟨D3, hD3⟩ : ∃ D, D = D2 ++ 32 :: kindB false := ⟨_, rfl⟩
        have e3 : Hid (SB D2 ++ { data := #[32, 109, 117, 108, 116, 105] } = SB D3) := by show _ = _; rw [hD3, ← SB_app]; rfl
        have hd3 : D3.length ≤ 120000198 := by rw [hD3]; simp [kindB]; omega
        have HNZ : Hid (preT x (k + 1) = D3 ++ jt (l.map subT) ++ [10]) := HNY.out.trans (by rw [hD3])
        clear HNY hD3
        go_wp2_with fail
        rw [e3.out]
        clear e3 hs1 hs2 c3 c13q
        go_loopw [3, 6] (fun t i wq => ∃ i' : Nat, i' ≤ l.length ∧ i = .int .i64 i' ∧ t = .string (SB (D3 ++ jt ((l.take i').map subT))) ∧ Hid (Below w.heap.size w wq)) (fun _ i _ => l.length - (intOf i).toNat)
        case atStart => exact ⟨0, by omega, rfl, by rw [List.take_zero, List.map_nil]; show _ = Value.string (SB (D3 ++ [])); rw [List.append_nil], HB2⟩
        case round =>
          rename World => wq
          obtain ⟨i, hi, rfl, rfl, HBq⟩ := hrel
          by_cases hil : i < l.length
          · obtain ⟨b13, o13, ea, -, -⟩ := (HCC.out wq HBq.out).2.2.2.2.2 i hil
            obtain ⟨⟨z0, z1⟩, z2, z3⟩ := hlb _ (List.getElem_mem hil)
            have hsb : (jt ((l.take i).map subT)).length ≤ 50000000 := by
              have h := jt_app ((l.take i).map subT) ((l.drop i).map subT)
              rw [← List.map_append, List.take_append_drop] at h
              rw [h, List.length_append] at j2; omega
            have hnx : Hid (D3 ++ jt ((l.take i).map subT) ++ 32 :: subT l[i] = D3 ++ jt ((l.take (i + 1)).map subT)) := by
              show _ = _
              have h := jt_take (L := l.map subT) (k := i) (by simpa using hil)
              rw [List.map_take, List.map_take, h, List.getElem_map]; simp
            obtain ⟨pn, hpn⟩ : ∃ q : Nat, l[i].1 = (q : Int) := ⟨l[i].1.toNat, by omega⟩
            obtain ⟨sn, hsn⟩ : ∃ q : Nat, l[i].2.1 = (q : Int) := ⟨l[i].2.1.toNat, by omega⟩
            have HSS : Hid (∀ W, Below w.heap.size w W → W.cell? ⟨b13, o13 + i * 16, none⟩ = some (.int .i64 pn) ∧ W.cell? ⟨b13, o13 + i * 16 + 1, none⟩ = some (.int .i64 sn)) := fun W h => by
              obtain ⟨b', o', e', t0, t1⟩ := (HCC.out W h).2.2.2.2.2 i hil
              rw [ea] at e'; simp only [Option.some.injEq, Addr.mk.injEq, and_true] at e'; obtain ⟨rfl, rfl⟩ := e'
              rw [hpn] at t0; rw [hsn] at t1; exact ⟨t0, t1⟩
            have HCQ : Hid (∀ W, Below w.heap.size w W → W.cell? ⟨sb, so + k * 14 + 13, none⟩ = some (.slice (some ⟨b13, o13, none⟩) l.length c13)) := fun W h => by have q := (HCC.out W h).2.2.2.1; rw [ea] at q; exact q
            have hsx : subT l[i] = dg (pn : Int) ++ 58 :: dg (sn : Int) := by show dg l[i].1 ++ 58 :: dg l[i].2.1 = _; rw [hpn, hsn]
            have HP1 : Hid (∀ W, Calls Tryz.prog 33 #[.int .i64 pn] W fun e w' => e = .returned (.string (SB (dg pn))) ∧ Below W.heap.size W w') := fun W => sDigits pn W (by omega)
            have HP2 : Hid (∀ W, Calls Tryz.prog 33 #[.int .i64 sn] W fun e w' => e = .returned (.string (SB (dg sn))) ∧ Below W.heap.size W w') := fun W => sDigits sn W (by omega)
            have hv1 := dg_len (n := (pn : Int)) (by omega) (by omega)
            have hv2 := dg_len (n := (sn : Int)) (by omega) (by omega)
            rw [hsx] at hnx
            clear hpn hsn hsx ea z0 z1 z2 z3
            obtain ⟨E, hE⟩ : ∃ E, E = D3 ++ jt ((l.take i).map subT) := ⟨_, rfl⟩
            have hle : E.length ≤ 170000198 := by rw [hE, List.length_append]; omega
            rw [← hE] at hnx ⊢
            clear hE hsb
            generalize dg (pn : Int) = P1 at *
            generalize dg (sn : Int) = P2 at *
            have hz1 : (SB E).size = E.length := SB_size _
            have hz2 : (SB P1).size = P1.length := SB_size _
            have hz3 : (SB P2).size = P2.length := SB_size _
            have hz4 : ¬ 9223372036854775807 < E.length + 1 := by omega
            have hz5 : ¬ 9223372036854775807 < E.length + 1 + P1.length := by omega
            have hz6 : ¬ 9223372036854775807 < E.length + 1 + P1.length + 1 := by omega
            have hz7 : ¬ 9223372036854775807 < E.length + 1 + P1.length + 1 + P2.length := by omega
            have e5 : Hid (SB E ++ { data := #[32] } ++ SB P1 ++ { data := #[58] } ++ SB P2 = SB (E ++ 32 :: (P1 ++ 58 :: P2))) := by
              show _ = _
              rw [show ({ data := #[32] } : ByteArray) = SB [32] from rfl, show ({ data := #[58] } : ByteArray) = SB [58] from rfl, SB_app, SB_app, SB_app, SB_app]; simp
            have kC := HCQ.out wq HBq.out
            go_upto_region 13 with fail
            clear kC
            refine wp_region_noPanic ?_
            refine Goes.start (S := fun w' => Below wq.heap.size wq w') (z := 100) (by kernel_rfl) ?_
            refine Goes.take (i := 0) (oi := ?oi1401) (x := ?vx1401) ?ho1401 (by kernel_rfl) (by kernel_rfl) (by kernel_rfl) (by kernel_rfl) (fun _ _ _ h => h) (Or.inl ⟨?hw1401, ?hy1401⟩) (Below.drew (Below.refl _ _)) ?rest1401
            case ho1401 => (simp only [List.getElem?_toArray, List.getElem?_cons_zero] <;> rfl)
            case hw1401 => rfl
            case hy1401 => (intro w' hSw; have c13 := HCQ.out w' (HBq.out.trans (hSw.mono HBq.out.size)); obtain ⟨t0, t1⟩ := HSS.out w' (HBq.out.trans (hSw.mono HBq.out.size)); go_simp; (try with_reducible rfl))
            case rest1401 =>
            (try simp only [Act.put, List.setIfInBounds_toArray, List.set_cons_zero, List.set_cons_succ])
            refine Goes.take (i := 1) (oi := ?oi1402) (x := ?vx1402) ?ho1402 (by kernel_rfl) (by kernel_rfl) (by kernel_rfl) (by kernel_rfl) (fun _ _ _ h => h) (Or.inl ⟨?hw1402, ?hy1402⟩) (Below.drew (Below.refl _ _)) ?rest1402
            case ho1402 => (simp only [List.getElem?_toArray, List.getElem?_cons_succ, List.getElem?_cons_zero] <;> rfl)
            case hw1402 => rfl
            case hy1402 => (intro w' hSw; have c13 := HCQ.out w' (HBq.out.trans (hSw.mono HBq.out.size)); obtain ⟨t0, t1⟩ := HSS.out w' (HBq.out.trans (hSw.mono HBq.out.size)); go_simp; (try with_reducible rfl))
            case rest1402 =>
            (try simp only [Act.put, List.setIfInBounds_toArray, List.set_cons_zero, List.set_cons_succ])
            refine Goes.take (i := 2) (oi := ?oi1403) (x := ?vx1403) ?ho1403 (by kernel_rfl) (by kernel_rfl) (by kernel_rfl) (by kernel_rfl) (fun _ _ _ h => h) (Or.inl ⟨?hw1403, ?hy1403⟩) (Below.drew (Below.refl _ _)) ?rest1403
            case ho1403 => (simp only [List.getElem?_toArray, List.getElem?_cons_succ, List.getElem?_cons_zero] <;> rfl)
            case hw1403 => rfl
            case hy1403 => (intro w' hSw; have c13 := HCQ.out w' (HBq.out.trans (hSw.mono HBq.out.size)); obtain ⟨t0, t1⟩ := HSS.out w' (HBq.out.trans (hSw.mono HBq.out.size)); go_simp; (try with_reducible rfl))
            case rest1403 =>
            (try simp only [Act.put, List.setIfInBounds_toArray, List.set_cons_zero, List.set_cons_succ])
            refine Goes.take (i := 3) (oi := ?oi1404) (x := ?vx1404) ?ho1404 (by kernel_rfl) (by kernel_rfl) (by kernel_rfl) (by kernel_rfl) (fun _ _ _ h => h) (Or.inl ⟨?hw1404, ?hy1404⟩) (Below.drew (Below.refl _ _)) ?rest1404
            case ho1404 => (simp only [List.getElem?_toArray, List.getElem?_cons_succ, List.getElem?_cons_zero] <;> rfl)
            case hw1404 => rfl
            case hy1404 => (intro w' hSw; have c13 := HCQ.out w' (HBq.out.trans (hSw.mono HBq.out.size)); obtain ⟨t0, t1⟩ := HSS.out w' (HBq.out.trans (hSw.mono HBq.out.size)); go_simp; (try with_reducible rfl))
            case rest1404 =>
            (try simp only [Act.put, List.setIfInBounds_toArray, List.set_cons_zero, List.set_cons_succ])
            refine Goes.take (i := 4) (oi := ?oi1405) (x := ?vx1405) ?ho1405 (by kernel_rfl) (by kernel_rfl) (by kernel_rfl) (by kernel_rfl) (fun _ _ _ h => h) (Or.inl ⟨?hw1405, ?hy1405⟩) (Below.drew (Below.refl _ _)) ?rest1405
            case ho1405 => (simp only [List.getElem?_toArray, List.getElem?_cons_succ, List.getElem?_cons_zero] <;> rfl)
            case hw1405 => rfl
            case hy1405 => (intro w' hSw; have c13 := HCQ.out w' (HBq.out.trans (hSw.mono HBq.out.size)); obtain ⟨t0, t1⟩ := HSS.out w' (HBq.out.trans (hSw.mono HBq.out.size)); go_simp; (try with_reducible rfl))
            case rest1405 =>
            (try simp only [Act.put, List.setIfInBounds_toArray, List.set_cons_zero, List.set_cons_succ])
            refine Goes.take (i := 5) (oi := ?oi1406) (x := ?vx1406) ?ho1406 (by kernel_rfl) (by kernel_rfl) (by kernel_rfl) (by kernel_rfl) (fun _ _ _ h => h) (Or.inl ⟨?hw1406, ?hy1406⟩) (Below.drew (Below.refl _ _)) ?rest1406
            case ho1406 => (simp only [List.getElem?_toArray, List.getElem?_cons_succ, List.getElem?_cons_zero] <;> rfl)
            case hw1406 => rfl
            case hy1406 => (intro w' hSw; have c13 := HCQ.out w' (HBq.out.trans (hSw.mono HBq.out.size)); obtain ⟨t0, t1⟩ := HSS.out w' (HBq.out.trans (hSw.mono HBq.out.size)); go_simp; (try with_reducible rfl))
            case rest1406 =>
            (try simp only [Act.put, List.setIfInBounds_toArray, List.set_cons_zero, List.set_cons_succ])
            refine Goes.take (i := 6) (oi := ?oi1407) (x := ?vx1407) ?ho1407 (by kernel_rfl) (by kernel_rfl) (by kernel_rfl) (by kernel_rfl) (fun _ _ _ h => h) (Or.inl ⟨?hw1407, ?hy1407⟩) (Below.drew (Below.refl _ _)) ?rest1407
            case ho1407 => (simp only [List.getElem?_toArray, List.getElem?_cons_succ, List.getElem?_cons_zero] <;> rfl)
            case hw1407 => rfl
            case hy1407 => (intro w' hSw; have c13 := HCQ.out w' (HBq.out.trans (hSw.mono HBq.out.size)); obtain ⟨t0, t1⟩ := HSS.out w' (HBq.out.trans (hSw.mono HBq.out.size)); go_simp; (try with_reducible rfl))
            case rest1407 =>
            (try simp only [Act.put, List.setIfInBounds_toArray, List.set_cons_zero, List.set_cons_succ])
            refine Goes.take (i := 7) (oi := ?oi1408) (x := ?vx1408) ?ho1408 (by kernel_rfl) (by kernel_rfl) (by kernel_rfl) (by kernel_rfl) (fun _ _ _ h => h) (Or.inl ⟨?hw1408, ?hy1408⟩) (Below.drew (Below.refl _ _)) ?rest1408
            case ho1408 => (simp only [List.getElem?_toArray, List.getElem?_cons_succ, List.getElem?_cons_zero] <;> rfl)
            case hw1408 => rfl
            case hy1408 => (intro w' hSw; have c13 := HCQ.out w' (HBq.out.trans (hSw.mono HBq.out.size)); obtain ⟨t0, t1⟩ := HSS.out w' (HBq.out.trans (hSw.mono HBq.out.size)); go_simp; (try with_reducible rfl))
            case rest1408 =>
            (try simp only [Act.put, List.setIfInBounds_toArray, List.set_cons_zero, List.set_cons_succ])
            refine Goes.take (i := 8) (oi := ?oi1409) (x := ?vx1409) ?ho1409 (by kernel_rfl) (by kernel_rfl) (by kernel_rfl) (by kernel_rfl) (fun _ _ _ h => h) (Or.inl ⟨?hw1409, ?hy1409⟩) (Below.drew (Below.refl _ _)) ?rest1409
            case ho1409 => (simp only [List.getElem?_toArray, List.getElem?_cons_succ, List.getElem?_cons_zero] <;> rfl)
            case hw1409 => rfl
            case hy1409 => (intro w' hSw; have c13 := HCQ.out w' (HBq.out.trans (hSw.mono HBq.out.size)); obtain ⟨t0, t1⟩ := HSS.out w' (HBq.out.trans (hSw.mono HBq.out.size)); go_simp; (try with_reducible rfl))
            case rest1409 =>
            (try simp only [Act.put, List.setIfInBounds_toArray, List.set_cons_zero, List.set_cons_succ])
            refine Goes.take (i := 9) (oi := ?oi1410) (x := ?vx1410) ?ho1410 (by kernel_rfl) (by kernel_rfl) (by kernel_rfl) (by kernel_rfl) (fun _ _ _ h => h) (Or.inl ⟨?hw1410, ?hy1410⟩) (Below.drew (Below.refl _ _)) ?rest1410
            case ho1410 => (simp only [List.getElem?_toArray, List.getElem?_cons_succ, List.getElem?_cons_zero] <;> rfl)
            case hw1410 => rfl
            case hy1410 => (intro w' hSw; have c13 := HCQ.out w' (HBq.out.trans (hSw.mono HBq.out.size)); obtain ⟨t0, t1⟩ := HSS.out w' (HBq.out.trans (hSw.mono HBq.out.size)); go_simp; (try with_reducible rfl))
            case rest1410 =>
            (try simp only [Act.put, List.setIfInBounds_toArray, List.set_cons_zero, List.set_cons_succ])
            refine Goes.take (i := 13) (oi := ?oi1411) (x := ?vx1411) ?ho1411 (by kernel_rfl) (by kernel_rfl) (by kernel_rfl) (by kernel_rfl) (fun _ _ _ h => h) (Or.inl ⟨?hw1411, ?hy1411⟩) (Below.drew (Below.refl _ _)) ?rest1411
            case ho1411 => (simp only [List.getElem?_toArray, List.getElem?_cons_succ, List.getElem?_cons_zero] <;> rfl)
            case hw1411 => rfl
            case hy1411 => (intro w' hSw; have c13 := HCQ.out w' (HBq.out.trans (hSw.mono HBq.out.size)); obtain ⟨t0, t1⟩ := HSS.out w' (HBq.out.trans (hSw.mono HBq.out.size)); go_simp; (try with_reducible rfl))
            case rest1411 =>
            (try simp only [Act.put, List.setIfInBounds_toArray, List.set_cons_zero, List.set_cons_succ])
            refine Goes.take (i := 14) (oi := ?oi1412) (x := ?vx1412) ?ho1412 (by kernel_rfl) (by kernel_rfl) (by kernel_rfl) (by kernel_rfl) (fun _ _ _ h => h) (Or.inl ⟨?hw1412, ?hy1412⟩) (Below.drew (Below.refl _ _)) ?rest1412
            case ho1412 => (simp only [List.getElem?_toArray, List.getElem?_cons_succ, List.getElem?_cons_zero] <;> rfl)
            case hw1412 => rfl
            case hy1412 => (intro w' hSw; have c13 := HCQ.out w' (HBq.out.trans (hSw.mono HBq.out.size)); obtain ⟨t0, t1⟩ := HSS.out w' (HBq.out.trans (hSw.mono HBq.out.size)); go_simp; (try with_reducible rfl))
            case rest1412 =>
            (try simp only [Act.put, List.setIfInBounds_toArray, List.set_cons_zero, List.set_cons_succ])
            refine Goes.take (i := 15) (oi := ?oi1413) (x := ?vx1413) ?ho1413 (by kernel_rfl) (by kernel_rfl) (by kernel_rfl) (by kernel_rfl) (fun _ _ _ h => h) (Or.inl ⟨?hw1413, ?hy1413⟩) (Below.drew (Below.refl _ _)) ?rest1413
            case ho1413 => (simp only [List.getElem?_toArray, List.getElem?_cons_succ, List.getElem?_cons_zero] <;> rfl)
            case hw1413 => rfl
            case hy1413 => (intro w' hSw; have c13 := HCQ.out w' (HBq.out.trans (hSw.mono HBq.out.size)); obtain ⟨t0, t1⟩ := HSS.out w' (HBq.out.trans (hSw.mono HBq.out.size)); go_simp; (try with_reducible rfl))
            case rest1413 =>
            (try simp only [Act.put, List.setIfInBounds_toArray, List.set_cons_zero, List.set_cons_succ])
            refine Goes.take (i := 16) (oi := ?oi1414) (x := ?vx1414) ?ho1414 (by kernel_rfl) (by kernel_rfl) (by kernel_rfl) (by kernel_rfl) (fun _ _ _ h => h) (Or.inl ⟨?hw1414, ?hy1414⟩) (Below.drew (Below.refl _ _)) ?rest1414
            case ho1414 => (simp only [List.getElem?_toArray, List.getElem?_cons_succ, List.getElem?_cons_zero] <;> rfl)
            case hw1414 => rfl
            case hy1414 => (intro w' hSw; have c13 := HCQ.out w' (HBq.out.trans (hSw.mono HBq.out.size)); obtain ⟨t0, t1⟩ := HSS.out w' (HBq.out.trans (hSw.mono HBq.out.size)); go_simp; (try with_reducible rfl))
            case rest1414 =>
            (try simp only [Act.put, List.setIfInBounds_toArray, List.set_cons_zero, List.set_cons_succ])
            refine Goes.take (i := 17) (oi := ?oi1415) (x := ?vx1415) ?ho1415 (by kernel_rfl) (by kernel_rfl) (by kernel_rfl) (by kernel_rfl) (fun _ _ _ h => h) (Or.inl ⟨?hw1415, ?hy1415⟩) (Below.drew (Below.refl _ _)) ?rest1415
            case ho1415 => (simp only [List.getElem?_toArray, List.getElem?_cons_succ, List.getElem?_cons_zero] <;> rfl)
            case hw1415 => rfl
            case hy1415 => (intro w' hSw; have c13 := HCQ.out w' (HBq.out.trans (hSw.mono HBq.out.size)); obtain ⟨t0, t1⟩ := HSS.out w' (HBq.out.trans (hSw.mono HBq.out.size)); go_simp; (try with_reducible rfl))
            case rest1415 =>
            (try simp only [Act.put, List.setIfInBounds_toArray, List.set_cons_zero, List.set_cons_succ])
            refine Goes.take (i := 18) (oi := ?oi1416) (x := ?vx1416) ?ho1416 (by kernel_rfl) (by kernel_rfl) (by kernel_rfl) (by kernel_rfl) (fun _ _ _ h => h) (Or.inl ⟨?hw1416, ?hy1416⟩) (Below.drew (Below.refl _ _)) ?rest1416
            case ho1416 => (simp only [List.getElem?_toArray, List.getElem?_cons_succ, List.getElem?_cons_zero] <;> rfl)
            case hw1416 => rfl
            case hy1416 => (intro w' hSw; have c13 := HCQ.out w' (HBq.out.trans (hSw.mono HBq.out.size)); obtain ⟨t0, t1⟩ := HSS.out w' (HBq.out.trans (hSw.mono HBq.out.size)); go_simp; (try with_reducible rfl))
            case rest1416 =>
            (try simp only [Act.put, List.setIfInBounds_toArray, List.set_cons_zero, List.set_cons_succ])
            refine Goes.take (i := 19) (oi := ?oi1417) (x := ?vx1417) ?ho1417 (by kernel_rfl) (by kernel_rfl) (by kernel_rfl) (by kernel_rfl) (fun _ _ _ h => h) (Or.inl ⟨?hw1417, ?hy1417⟩) (Below.drew (Below.refl _ _)) ?rest1417
            case ho1417 => (simp only [List.getElem?_toArray, List.getElem?_cons_succ, List.getElem?_cons_zero] <;> rfl)
            case hw1417 => rfl
            case hy1417 => (intro w' hSw; have c13 := HCQ.out w' (HBq.out.trans (hSw.mono HBq.out.size)); obtain ⟨t0, t1⟩ := HSS.out w' (HBq.out.trans (hSw.mono HBq.out.size)); go_simp; (try with_reducible rfl))
            case rest1417 =>
            (try simp only [Act.put, List.setIfInBounds_toArray, List.set_cons_zero, List.set_cons_succ])
            refine Goes.take (i := 20) (oi := ?oi1418) (x := ?vx1418) ?ho1418 (by kernel_rfl) (by kernel_rfl) (by kernel_rfl) (by kernel_rfl) (fun _ _ _ h => h) (Or.inl ⟨?hw1418, ?hy1418⟩) (Below.drew (Below.refl _ _)) ?rest1418
            case ho1418 => (simp only [List.getElem?_toArray, List.getElem?_cons_succ, List.getElem?_cons_zero] <;> rfl)
            case hw1418 => rfl
            case hy1418 => (intro w' hSw; have c13 := HCQ.out w' (HBq.out.trans (hSw.mono HBq.out.size)); obtain ⟨t0, t1⟩ := HSS.out w' (HBq.out.trans (hSw.mono HBq.out.size)); go_simp; (try with_reducible rfl))
            case rest1418 =>
            (try simp only [Act.put, List.setIfInBounds_toArray, List.set_cons_zero, List.set_cons_succ])
            refine Goes.all (rs := [10]) (by kernel_rfl) (by simp) ?_
            refine Ups.cons (i := 10) (o := ?oo1419) ?ho1419 (fun KK hKK => ?stp1419) Ups.nil
            case ho1419 => (simp only [List.getElem?_toArray, List.getElem?_cons_succ, List.getElem?_cons_zero] <;> rfl)
            case stp1419 =>
            go_simp
            go_at_call 33
            refine (HP1.out _).mono ?_
            rintro e wa ⟨rfl, hbq⟩
            replace hbq := (Below.drew (Below.refl wq.heap.size wq)).trans hbq
            have HS1419 : Hid (Below wq.heap.size wq wa) := hbq
            clear hbq
            dsimp only
            refine hKK.out _ _ (Or.inr HS1419.out) ?_
            clear hKK KK
            (try simp only [Act.put, List.setIfInBounds_toArray, List.set_cons_zero, List.set_cons_succ])
            refine Goes.take (i := 11) (oi := ?oi1420) (x := ?vx1420) ?ho1420 (by kernel_rfl) (by kernel_rfl) (by kernel_rfl) (by kernel_rfl) (fun _ _ _ h => h) (Or.inl ⟨?hw1420, ?hy1420⟩) HS1419.out ?rest1420
            case ho1420 => (simp only [List.getElem?_toArray, List.getElem?_cons_succ, List.getElem?_cons_zero] <;> rfl)
            case hw1420 => rfl
            case hy1420 => (intro w' hSw; have c13 := HCQ.out w' (HBq.out.trans (hSw.mono HBq.out.size)); obtain ⟨t0, t1⟩ := HSS.out w' (HBq.out.trans (hSw.mono HBq.out.size)); go_simp; (try with_reducible rfl))
            case rest1420 =>
            (try simp only [Act.put, List.setIfInBounds_toArray, List.set_cons_zero, List.set_cons_succ])
            refine Goes.take (i := 12) (oi := ?oi1421) (x := ?vx1421) ?ho1421 (by kernel_rfl) (by kernel_rfl) (by kernel_rfl) (by kernel_rfl) (fun _ _ _ h => h) (Or.inl ⟨?hw1421, ?hy1421⟩) HS1419.out ?rest1421
            case ho1421 => (simp only [List.getElem?_toArray, List.getElem?_cons_succ, List.getElem?_cons_zero] <;> rfl)
            case hw1421 => rfl
            case hy1421 => (intro w' hSw; have c13 := HCQ.out w' (HBq.out.trans (hSw.mono HBq.out.size)); obtain ⟨t0, t1⟩ := HSS.out w' (HBq.out.trans (hSw.mono HBq.out.size)); go_simp; (try with_reducible rfl))
            case rest1421 =>
            (try simp only [Act.put, List.setIfInBounds_toArray, List.set_cons_zero, List.set_cons_succ])
            refine Goes.all (rs := [21]) (by kernel_rfl) (by simp) ?_
            refine Ups.cons (i := 21) (o := ?oo1422) ?ho1422 (fun KK hKK => ?stp1422) Ups.nil
            case ho1422 => (simp only [List.getElem?_toArray, List.getElem?_cons_succ, List.getElem?_cons_zero] <;> rfl)
            case stp1422 =>
            go_simp
            go_at_call 33
            refine (HP2.out _).mono ?_
            rintro e wb ⟨rfl, hbq⟩
            replace hbq := HS1419.out.trans (hbq.mono HS1419.out.size)
            have HS1422 : Hid (Below wq.heap.size wq wb) := hbq
            clear hbq
            dsimp only
            refine hKK.out _ _ (Or.inr HS1422.out) ?_
            clear hKK KK
            (try simp only [Act.put, List.setIfInBounds_toArray, List.set_cons_zero, List.set_cons_succ])
            refine Goes.take (i := 22) (oi := ?oi1423) (x := ?vx1423) ?ho1423 (by kernel_rfl) (by kernel_rfl) (by kernel_rfl) (by kernel_rfl) (fun _ _ _ h => h) (Or.inl ⟨?hw1423, ?hy1423⟩) HS1422.out ?rest1423
            case ho1423 => (simp only [List.getElem?_toArray, List.getElem?_cons_succ, List.getElem?_cons_zero] <;> rfl)
            case hw1423 => rfl
            case hy1423 => (intro w' hSw; have c13 := HCQ.out w' (HBq.out.trans (hSw.mono HBq.out.size)); obtain ⟨t0, t1⟩ := HSS.out w' (HBq.out.trans (hSw.mono HBq.out.size)); go_simp; (try with_reducible rfl))
            case rest1423 =>
            (try simp only [Act.put, List.setIfInBounds_toArray, List.set_cons_zero, List.set_cons_succ])
            refine Goes.take (i := 23) (oi := ?oi1424) (x := ?vx1424) ?ho1424 (by kernel_rfl) (by kernel_rfl) (by kernel_rfl) (by kernel_rfl) (fun _ _ _ h => h) (Or.inl ⟨?hw1424, ?hy1424⟩) HS1422.out ?rest1424
            case ho1424 => (simp only [List.getElem?_toArray, List.getElem?_cons_succ, List.getElem?_cons_zero] <;> rfl)
            case hw1424 => rfl
            case hy1424 => (intro w' hSw; have c13 := HCQ.out w' (HBq.out.trans (hSw.mono HBq.out.size)); obtain ⟨t0, t1⟩ := HSS.out w' (HBq.out.trans (hSw.mono HBq.out.size)); go_simp; (try with_reducible rfl))
            case rest1424 =>
            (try simp only [Act.put, List.setIfInBounds_toArray, List.set_cons_zero, List.set_cons_succ])
            refine Goes.done (by kernel_rfl) ?_ _
            refine NoPanic.normal ?_
            have HBb : Hid (Below w.heap.size w wb) := HBq.out.trans (HS1422.out.mono HBq.out.size)
            rw [e5.out]
            clear HP1 HP2 hz1 hz2 hz3 hz4 hz5 hz6 hz7 e5
            go_wp2_with fail
            go_roundw
            case rel => exact ⟨i + 1, by omega, by go_num, by rw [hnx.out], HBb⟩
            case measure => simp [intOf]; omega
          · obtain rfl : i = l.length := by omega
            rw [List.take_of_length_le (Nat.le_refl _)]
            have kC := (HCC.out wq HBq.out).2.2.2.1
            obtain ⟨E, hE⟩ : ∃ E, E = D3 ++ jt (l.map subT) := ⟨_, rfl⟩
            have hle : E.length ≤ 170000198 := by rw [hE, List.length_append]; omega
            rw [← hE] at HNZ ⊢
            clear hE
            have hz1 : (SB E).size = E.length := SB_size _
            have hz4 : ¬ 9223372036854775807 < E.length + 1 := by omega
            have e5 : Hid (SB E ++ { data := #[10] } = SB (preT x (k + 1))) := by show _ = _; rw [HNZ.out, ← SB_app]; rfl
            go_wp2_with fail
            go_roundw
            case rel => exact ⟨k + 1, by omega, by go_num, by rw [e5.out], HBq⟩
            case measure => simp [intOf]; omega
    · obtain rfl : k = 2 := by omega
      have kP := HPC.out wr HB.out
      obtain ⟨LB, hLB⟩ : ∃ L, L = bagB ++ jt ([(bn : Int)].map dg) := ⟨_, rfl⟩
      have hlb : LB.length ≤ 30 := by rw [hLB]; unfold bagB; simp [jt]; omega
      have HL3 : Hid (∀ W b, W.cell? ⟨b, 0, none⟩ = some (.int .i64 (bn : Int)) → b < W.heap.size → Calls Tryz.prog 32 #[.string { data := #[98, 97, 103] }, .slice (some ⟨b, 0, none⟩) 1 1] W fun e w' => e = .returned (.string (SB LB)) ∧ Below W.heap.size W w') := fun W b hc hb => by
        rw [hLB]; exact sLine bagB b 0 1 [(bn : Int)] W hb (fun j hj => by
          obtain rfl : j = 0 := by simp at hj; exact hj
          exact hc) (by simp; omega) (by decide) (by simp)
      rw [← hLB] at HPE
      have hpk := HPL.out 2 (by omega)
      generalize preT x 2 = d at *
      clear hLB
      have hz1 : (SB d).size = d.length := SB_size _
      have hz2 : (SB LB).size = LB.length := SB_size _
      have hz3 : ¬ 9223372036854775807 < d.length + LB.length := by omega
      have hz4 : ¬ 9223372036854775807 < d.length + LB.length + 1 := by omega
      have e5 : Hid (SB d ++ SB LB ++ { data := #[10] } = SB (worldT x)) := by
        show _ = _; rw [HPE.out, show ({ data := #[10] } : ByteArray) = SB [10] from rfl, SB_app, SB_app]; simp
      go_wp2_with fail
      refine (HL3.out _ _ (by simp) (by simp)).mono ?_
      rintro e w9 ⟨rfl, hb⟩
      obtain ⟨hb, -⟩ := bl_new hb
      have HB9 : Hid (Below w.heap.size w w9) := HB.out.trans (hb.mono HB.out.size)
      clear hb HL3 kP HB
      go_wp2_with fail
      go_ret
      exact ⟨by rw [← e5.out]; rfl, HB9.out⟩
end Go.Proofs.YtfpemobkkfobkaaGreatDoor

/- What the model's text of a world is; nothing that was in memory turns; no condition but on its size. Written by mktxw.py. -/
namespace Go.Proofs.YtfpemobkkfobkaaGreatDoor
open Go.RowKit
set_option linter.unusedVariables false
set_option maxRecDepth 8000

set_option maxHeartbeats 1000000 in
theorem sWorldText (x : DWorld) (A : Array Value) (w : World) (B : Nat) (hr : shWorld.Rd w B x A.toList) (hB : B ≤ w.heap.size) (hT : totWorld x ≤ 1048576) :
    Calls Tryz.prog 5 #[.agg A] w fun e w' => e = .returned (.agg #[.int .i64 (worldF x), .string (wtS x)]) ∧ Below w.heap.size w w' := by
  have HC : Hid (∀ W p, Below w.heap.size w W → (∀ o, W.cell? ⟨p, o, none⟩ = A[o]?) → p < W.heap.size → Calls Tryz.prog 14 #[.pointer (some ⟨p, 0, none⟩)] W fun e w' => e = .returned (.int .i64 (worldF x)) ∧ Below W.heap.size W w') := fun W p hW k hp => sL13Fault x A p W B (Sh.Rd.below hr hB hW) k hp (Nat.le_trans hB hW.size) hT
  have HT : Hid (worldF x = 0 → ∀ W p, Below w.heap.size w W → (∀ o, W.cell? ⟨p, o, none⟩ = A[o]?) → p < W.heap.size → Calls Tryz.prog 15 #[.pointer (some ⟨p, 0, none⟩)] W fun e w' => e = .returned (.string (SB (worldT x))) ∧ Below W.heap.size W w') := fun hF W p hW k hp => sL16World x A p W B (Sh.Rd.below hr hB hW) k hp (Nat.le_trans hB hW.size) hF hT
  have HV : Hid ((worldF x ≠ 0 → wtS x = { data := #[] }) ∧ (worldF x = 0 → wtS x = SB (worldT x))) := ⟨fun h => if_neg h, fun h => if_pos h⟩
  clear hr
  generalize wtS x = V at *
  generalize worldT x = T at *
  generalize worldF x = F at *
  go_enter Tryz.func5, Tryz.ntmps5
  go_wp2_with fail
  obtain ⟨W0, hW0⟩ : ∃ W0, W0 = (w.alloc (.cells A 39)).alloc (.cells #[.int .i64 0, .string { data := #[] }] 32) := ⟨_, rfl⟩
  have hb0 : Below w.heap.size w W0 := by rw [hW0]; exact ((Below.refl _ _).alloc (Nat.le_refl _) _).alloc (by simp) _
  have k0 : ∀ o, W0.cell? ⟨w.heap.size, o, none⟩ = A[o]? := fun o => by rw [hW0, (((Below.refl (w.heap.size + 1) (w.alloc (.cells A 39))).alloc (by simp) (.cells #[.int .i64 0, .string { data := #[] }] 32))).cell (p := ⟨w.heap.size, o, none⟩) (by simp)]; exact bx_al w _ _ o
  have k1 : ∀ o, W0.cell? ⟨w.heap.size + 1, o, none⟩ = (#[.int .i64 0, .string { data := #[] }] : Array Value)[o]? := fun o => by have h := bx_al (w.alloc (.cells A 39)) #[.int .i64 0, .string { data := #[] }] 32 o; rw [← hW0] at h; simpa using h
  have f1 : ∀ o, W0.frozen? ⟨w.heap.size + 1, o, none⟩ = false := fun o => by have h := fx_al (w.alloc (.cells A 39)) #[.int .i64 0, .string { data := #[] }] 32 o; rw [← hW0] at h; simpa using h
  have z1 : w.heap.size + 1 < W0.heap.size := by rw [hW0]; simp
  rw [← hW0]
  clear hW0
  refine (HC.out _ _ hb0 k0 (by omega)).mono ?_
  rintro e w1 ⟨rfl, hb1⟩
  have HB : Hid (Below w.heap.size w w1) := hb0.trans (hb1.mono hb0.size)
  replace k0 := bx_below k0 (by omega) hb1
  replace k1 := bx_below k1 z1 hb1
  replace f1 : ∀ o, w1.frozen? ⟨w.heap.size + 1, o, none⟩ = false := fun o => (hb1.frozen (p := ⟨w.heap.size + 1, o, none⟩) z1).trans (f1 o)
  replace z1 := Nat.lt_of_lt_of_le z1 hb1.size
  clear hb1 hb0 HC
  by_cases hF : F = 0
  · have hF1 : (F != 0) = false := by simp [hF]
    have HVV : Hid (V = SB T) := HV.out.2 hF
    clear HV
    have HT2 := HT.out hF
    subst hF
    go_wp2_with fail
    refine (HT2 _ _ HB.out k0 (by omega)).mono ?_
    rintro e w2 ⟨rfl, hb2⟩
    have HB2 : Hid (Below w.heap.size w w2) := HB.out.trans (hb2.mono HB.out.size)
    have k2 := bx_below k1 z1 hb2
    have f2 : ∀ o, w2.frozen? ⟨w.heap.size + 1, o, none⟩ = false := fun o => (hb2.frozen (p := ⟨w.heap.size + 1, o, none⟩) z1).trans (f1 o)
    clear hb2 HT HT2 k0 k1 f1
    go_wp2_with fail
    exact bodyPost_ret (v := .agg #[.int .i64 0, .string (SB T)]) (by simp [results, Tryz.results5, go_sem, k2]) rfl ⟨by rw [HVV.out], (HB2.out.setCell (by simp) _).setCell (by simp) _⟩
  · have hF1 : (F != 0) = true := by simp [hF]
    have HVV : Hid (V = { data := #[] }) := HV.out.1 hF
    clear HT k0 HV
    go_wp2_with fail
    exact bodyPost_ret (v := .agg #[.int .i64 F, .string { data := #[] }]) (by simp [results, Tryz.results5, go_sem, k1]) rfl ⟨by rw [HVV.out], (HB.out.setCell (by simp) _).setCell (by simp) _⟩
end Go.Proofs.YtfpemobkkfobkaaGreatDoor
