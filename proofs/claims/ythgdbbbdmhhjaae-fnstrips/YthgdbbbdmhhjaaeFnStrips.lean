/- Proved: whatever bytes come in, the law on segments that are stripped answers true, and the bytes are as they were; no condition. -/
import Derived.Test.YthgdbbbdmhhjaaeRows
import Derived.WalkKit
import Derived.ProofKit
import Derived.OpenShut
import Derived.ShutString
import Derived.ChangeOld
import Derived.Below
import Derived.Test.YthgdbbbdmhhjaaeBase
import Derived.Test.YthgdbbbdmhhjaaeDraws
import Derived.Test.YthgdbbbdmhhjaaeBytes
import Derived.Test.YthgdbbbdmhhjaaeAppBytes
import Derived.Test.YthgdbbbdmhhjaaeApp
import Derived.Test.YthgdbbbdmhhjaaeSeg
import Derived.Test.YthgdbbbdmhhjaaeStr
import Derived.Test.YthgdbbbdmhhjaaeSameDef
import Derived.Test.YthgdbbbdmhhjaaeStrip
import Derived.Test.YthgdbbbdmhhjaaeNum
import Derived.Test.YthgdbbbdmhhjaaeNumWalks
import Derived.Test.YthgdbbbdmhhjaaeLaw
import Derived.Test.YthgdbbbdmhhjaaeSpecPack
import Derived.Test.YthgdbbbdmhhjaaeImplSum
import Derived.Test.YthgdbbbdmhhjaaeSpecLoad
import Derived.Test.YthgdbbbdmhhjaaeWriter
import Derived.Test.YthgdbbbdmhhjaaeImplLoad
import Derived.Test.YthgdbbbdmhhjaaeDrawSeg
import Derived.Test.YthgdbbbdmhhjaaeDrawSeg2
import Derived.Test.YthgdbbbdmhhjaaeDrawSeg3
import Derived.Test.YthgdbbbdmhhjaaeSameSpec
import Derived.Test.YthgdbbbdmhhjaaeSameImpl
import Derived.Test.YthgdbbbdmhhjaaeDrawSeg4
import Derived.Test.YthgdbbbdmhhjaaeBox
namespace Go.Proofs.Ythgdbbbdmhhjaae.fnStrips
open Go.ChangeShapes Go.WideShapes Go.ChangeAt Go.RowKit
open Go.ChangeMaps (open_string shut_string)
set_option linter.unusedVariables false

theorem own : ownKnob Try.prog.godebug = none := by kernel_rfl
theorem laidOut : laidOutB Try.prog = true := by kernel_rfl

/-- WHAT THE WALK IS TOLD OF A SLICE OF INTEGERS THAT CAME IN: it is nil; or it leads to a row of 'cap' cells, the numbers 'zs' (the first 'len' are its elements, the rest its spare room), each fitting its kind. -/
def IsRow (k : IntKind) (w : World) (a : Option Addr) (len cap : Nat) (zs : List Int) : Prop :=
  (a = none ∧ len = 0 ∧ cap = 0 ∧ zs = []) ∨
  ∃ x, a = some x ∧ len ≤ cap ∧ cap ≤ maxLen ∧ zs.length = cap ∧ (∀ i, i < zs.length → w.cell? (x.add i) = some (.int k (zs.getD i 0))) ∧ ∀ n ∈ zs, (Lit.int k n).wf = true

theorem eqS_self (l : List Int) : eqS l l = true := by simp [eqS]
theorem same_self (s : Seg) (e : Bool) : sameS s s e = e := by simp [sameS]

set_option maxHeartbeats 8000000 in
theorem walk (a0 : Option Addr) (len0 cap0 : Nat) (z0 : List Int) (w : World) (w0 : IsRow .u8 w a0 len0 cap0 z0) :
    Calls Try.prog 3 #[.slice a0 len0 cap0] w fun e w' => e = .returned (.bool true) ∧ Below w.heap.size w w' := by
  have r0 : BRow .u8 w a0 len0 cap0 z0 := w0
  have hl := r0.lt
  by_cases hbig : 1048576 < len0
  · clear r0 hl w0
    go_enter Try.func3, Try.ntmps3
    go_wp2
    go_ret
    exact ⟨rfl, by go_grown⟩
  · clear w0
    go_enter Try.func3, Try.ntmps3
    go_wp2_with (first | (go_at_call 4; go_in) | fail)
    refine (dSame a0 len0 cap0 z0 w r0 hl).mono ?_
    rintro e w1 ⟨⟨y0, y1, b2, b3, b4, y5, y6, y7, y8, y9, y10, L⟩, ⟨x0, x1, d2, d3, d4, x5, x6, x7, x8, x9, x10, LB⟩, a1, a2, c1, c2, rfl, rs, rt, hnil, hL, hM, b1⟩
    simp only at rs rt hL hM ⊢
    clear r0 hl
    have RS : Hid (∀ W, Below w1.heap.size w1 W → RB W a1 L) := fun W h => rs.below (Nat.le_refl _) h
    have RT : Hid (∀ W, Below w1.heap.size w1 W → RB W a2 LB) := fun W h => rt.below (Nat.le_refl _) h
    have NI : Hid (a1 = none → c1 = 0) := hnil
    have B1 : Hid (Below w.heap.size w w1) := b1
    clear rs rt hnil b1
    generalize hN : L.length = N at *
    generalize hMM : LB.length = M at *
    have HN : Hid (L.length = N) := hN
    have HM : Hid (LB.length = M) := hMM
    have HL : Hid (N ≤ 10) := hL
    clear hN hMM hL hM
    go_wp2_with fail
    refine (iStrip ⟨y0, y1, b2, b3, b4, y5, y6, y7, y8, y9, y10, L⟩ a1 N c1 _ HN.out (RS.out _ (by go_grown)) NI.out (by have := HL.out; omega)).mono ?_
    rintro e w2 ⟨v2, rfl, ho2, hb2⟩
    simp only [Seg.strip] at ho2 ⊢
    obtain ⟨a5, c5, hv, r5, n5⟩ := ho2.rbn
    rw [HN.out] at hv
    subst hv
    have p3c : ∀ o, w2.cell? ⟨w1.heap.size, o, none⟩ = (#[.int .i64 y0, .int .i64 y1, .bool b2, .bool b3, .bool b4, .int .i64 y5, .int .i64 y6, .int .i64 y7, .int .i64 y8, .int .i64 y9, .int .i64 y10, .slice a1 N c1] : Array Value)[o]? := fun o => by rw [hb2.cell (p := ⟨w1.heap.size, o, none⟩) (by simp; omega)]; simp
    have p4c : ∀ o, w2.cell? ⟨w1.heap.size + 1, o, none⟩ = (#[.int .i64 x0, .int .i64 x1, .bool d2, .bool d3, .bool d4, .int .i64 x5, .int .i64 x6, .int .i64 x7, .int .i64 x8, .int .i64 x9, .int .i64 x10, .slice a2 M c2] : Array Value)[o]? := fun o => by rw [hb2.cell (p := ⟨w1.heap.size + 1, o, none⟩) (by simp)]; simp
    have z2 : w1.heap.size + 1 < w2.heap.size := by have := hb2.size; simp at this; omega
    have B2 : Hid (Below w1.heap.size w1 w2) := Below.trans (by go_grown) (hb2.mono (by simp; omega))
    have R5 : Hid (∀ W, Below w2.heap.size w2 W → RB W a5 L) := fun W h => r5.below (Nat.le_refl _) h
    have N5 : Hid (a5 = none → c5 = 0) := n5
    clear hb2 ho2 r5 n5
    go_wp2_with fail
    refine (iStrip ⟨y0, y1, b2, b3, b4, y5, y6, y7, 0, 0, 0, L⟩ a5 N c5 _ HN.out (R5.out _ (by go_grown)) N5.out (by have := HL.out; omega)).mono ?_
    rintro e w3 ⟨v3, rfl, ho3, hb3⟩
    simp only [Seg.strip] at ho3 ⊢
    obtain ⟨a6, c6, hv, r6, n6⟩ := ho3.rbn
    rw [HN.out] at hv
    subst hv
    replace p3c := fun o => (hb3.cell (p := ⟨w1.heap.size, o, none⟩) (by simp; omega)).trans ((((Below.refl w2.heap.size w2).alloc (Nat.le_refl _) _).cell (p := ⟨w1.heap.size, o, none⟩) (by dsimp only; omega)).trans (p3c o))
    replace p4c := fun o => (hb3.cell (p := ⟨w1.heap.size + 1, o, none⟩) (by simp; omega)).trans ((((Below.refl w2.heap.size w2).alloc (Nat.le_refl _) _).cell (p := ⟨w1.heap.size + 1, o, none⟩) (by dsimp only; omega)).trans (p4c o))
    have p5c : ∀ o, w3.cell? ⟨w2.heap.size, o, none⟩ = (#[.int .i64 y0, .int .i64 y1, .bool b2, .bool b3, .bool b4, .int .i64 y5, .int .i64 y6, .int .i64 y7, .int .i64 0, .int .i64 0, .int .i64 0, .slice a5 N c5] : Array Value)[o]? := fun o => by rw [hb3.cell (p := ⟨w2.heap.size, o, none⟩) (by simp)]; simp
    have z3 : w2.heap.size < w3.heap.size := by have := hb3.size; simp at this; omega
    have zz1 : w1.heap.size < w3.heap.size := by omega
    have zz2 : w1.heap.size + 1 < w3.heap.size := by omega
    have zz3 : w1.heap.size ≠ w3.heap.size + 1 := by omega
    have B3 : Hid (Below w2.heap.size w2 w3) := Below.trans (by go_grown) (hb3.mono (by simp))
    have R6 : Hid (∀ W, Below w3.heap.size w3 W → RB W a6 L) := fun W h => r6.below (Nat.le_refl _) h
    clear hb3 ho3 r6 n6
    go_wp2_with fail
    obtain ⟨W, hW⟩ : ∃ W, W = (w3.alloc (.cells #[.int .i64 y0, .int .i64 y1, .bool b2, .bool b3, .bool b4, .int .i64 y5, .int .i64 y6, .int .i64 y7, .int .i64 0, .int .i64 0, .int .i64 0, .slice a6 N c6] 25)).alloc (.cells #[.int .i64 y0, .int .i64 y1, .bool b2, .bool b3, .bool b4, .int .i64 y5, .int .i64 y6, .int .i64 y7, .int .i64 y8, .int .i64 y9, .int .i64 y10, .slice a5 N c5] 25) := ⟨_, rfl⟩
    rw [← hW]
    have hbW : Below w3.heap.size w3 W := by rw [hW]; exact ((Below.refl _ _).alloc (Nat.le_refl _) _).alloc (by simp) _
    replace p3c := bx_below p3c (by omega) hbW
    replace p4c := bx_below p4c (by omega) hbW
    replace p5c := bx_below p5c (by omega) hbW
    have p6c : ∀ o, W.cell? ⟨w3.heap.size, o, none⟩ = (#[.int .i64 y0, .int .i64 y1, .bool b2, .bool b3, .bool b4, .int .i64 y5, .int .i64 y6, .int .i64 y7, .int .i64 0, .int .i64 0, .int .i64 0, .slice a6 N c6] : Array Value)[o]? := fun o => by rw [hW]; simp
    have p7c : ∀ o, W.cell? ⟨w3.heap.size + 1, o, none⟩ = (#[.int .i64 y0, .int .i64 y1, .bool b2, .bool b3, .bool b4, .int .i64 y5, .int .i64 y6, .int .i64 y7, .int .i64 y8, .int .i64 y9, .int .i64 y10, .slice a5 N c5] : Array Value)[o]? := fun o => by rw [hW]; simp
    have zW : w3.heap.size + 1 < W.heap.size := by rw [hW]; simp
    clear hW
    have BW : Hid (Below w.heap.size w W) := B1.out.trans ((B2.out.trans ((B3.out.trans (hbW.mono B3.out.size)).mono B2.out.size)).mono B1.out.size)
    have RSW : Hid (∀ V, Below W.heap.size W V → RB V a1 L) := fun V h => RS.out V ((B2.out.trans ((B3.out.trans (hbW.mono B3.out.size)).mono B2.out.size)).trans (h.mono (by omega)))
    have RTW : Hid (∀ V, Below W.heap.size W V → RB V a2 LB) := fun V h => RT.out V ((B2.out.trans ((B3.out.trans (hbW.mono B3.out.size)).mono B2.out.size)).trans (h.mono (by omega)))
    have R5W : Hid (∀ V, Below W.heap.size W V → RB V a5 L) := fun V h => R5.out V ((B3.out.trans (hbW.mono B3.out.size)).trans (h.mono (by omega)))
    have R6W : Hid (∀ V, Below W.heap.size W V → RB V a6 L) := fun V h => R6.out V (hbW.trans (h.mono (by omega)))
    have C1 : Hid (∀ V, Below W.heap.size W V → Calls Try.prog 7 #[.agg #[.int .i64 y0, .int .i64 y1, .bool b2, .bool b3, .bool b4, .int .i64 y5, .int .i64 y6, .int .i64 y7, .int .i64 0, .int .i64 0, .int .i64 0, .slice a6 N c6], .agg #[.int .i64 y0, .int .i64 y1, .bool b2, .bool b3, .bool b4, .int .i64 y5, .int .i64 y6, .int .i64 y7, .int .i64 0, .int .i64 0, .int .i64 0, .slice a5 N c5]] V fun e w' => e = .returned (.bool true) ∧ Below V.heap.size V w') := fun V h => by
      have := iSame ⟨y0, y1, b2, b3, b4, y5, y6, y7, 0, 0, 0, L⟩ ⟨y0, y1, b2, b3, b4, y5, y6, y7, 0, 0, 0, L⟩ a6 a5 N N c6 c5 V HN.out HN.out (R6W.out V h) (R5W.out V h)
      rw [same_self, eqS_self] at this
      exact this
    have C2 : Hid (∀ V, Below W.heap.size W V → Calls Try.prog 7 #[.agg #[.int .i64 y0, .int .i64 y1, .bool b2, .bool b3, .bool b4, .int .i64 y5, .int .i64 y6, .int .i64 y7, .int .i64 y8, .int .i64 y9, .int .i64 y10, .slice a5 N c5], .agg #[.int .i64 y0, .int .i64 y1, .bool b2, .bool b3, .bool b4, .int .i64 y5, .int .i64 y6, .int .i64 y7, .int .i64 y8, .int .i64 y9, .int .i64 y10, .slice a1 N c1]] V fun e w' => e = .returned (.bool true) ∧ Below V.heap.size V w') := fun V h => by
      have := iSame ⟨y0, y1, b2, b3, b4, y5, y6, y7, y8, y9, y10, L⟩ ⟨y0, y1, b2, b3, b4, y5, y6, y7, y8, y9, y10, L⟩ a5 a1 N N c5 c1 V HN.out HN.out (R5W.out V h) (RSW.out V h)
      rw [same_self, eqS_self] at this
      exact this
    obtain ⟨E, hE⟩ : ∃ E, E = sameS ⟨y0, y1, b2, b3, b4, y5, y6, y7, y8, y9, y10, L⟩ ⟨x0, x1, d2, d3, d4, x5, x6, x7, x8, x9, x10, LB⟩ (eqS L LB) := ⟨_, rfl⟩
    have C3 : Hid (∀ V, Below W.heap.size W V → Calls Try.prog 7 #[.agg #[.int .i64 y0, .int .i64 y1, .bool b2, .bool b3, .bool b4, .int .i64 y5, .int .i64 y6, .int .i64 y7, .int .i64 y8, .int .i64 y9, .int .i64 y10, .slice a1 N c1], .agg #[.int .i64 x0, .int .i64 x1, .bool d2, .bool d3, .bool d4, .int .i64 x5, .int .i64 x6, .int .i64 x7, .int .i64 x8, .int .i64 x9, .int .i64 x10, .slice a2 M c2]] V fun e w' => e = .returned (.bool E) ∧ Below V.heap.size V w') := fun V h => by
      rw [hE]
      exact iSame ⟨y0, y1, b2, b3, b4, y5, y6, y7, y8, y9, y10, L⟩ ⟨x0, x1, d2, d3, d4, x5, x6, x7, x8, x9, x10, LB⟩ a1 a2 N M c1 c2 V HN.out HM.out (RSW.out V h) (RTW.out V h)
    have C4 : Hid (∀ V, Below W.heap.size W V → Calls Try.prog 8 #[.agg #[.int .i64 y0, .int .i64 y1, .bool b2, .bool b3, .bool b4, .int .i64 y5, .int .i64 y6, .int .i64 y7, .int .i64 y8, .int .i64 y9, .int .i64 y10, .slice a1 N c1], .agg #[.int .i64 x0, .int .i64 x1, .bool d2, .bool d3, .bool d4, .int .i64 x5, .int .i64 x6, .int .i64 x7, .int .i64 x8, .int .i64 x9, .int .i64 x10, .slice a2 M c2]] V fun e w' => e = .returned (.bool E) ∧ Below V.heap.size V w') := fun V h => by
      rw [hE]
      exact sSame ⟨y0, y1, b2, b3, b4, y5, y6, y7, y8, y9, y10, L⟩ ⟨x0, x1, d2, d3, d4, x5, x6, x7, x8, x9, x10, LB⟩ a1 a2 N M c1 c2 V HN.out HM.out (RSW.out V h) (RTW.out V h)
    obtain ⟨X, hX⟩ : ∃ X, X = sumB (loadB 3 L) := ⟨_, rfl⟩
    have C5 : Hid (∀ V, Below W.heap.size W V → Calls Try.prog 9 #[.int .i64 3, .slice a1 N c1] V fun e w' => e = .returned (.int .i64 X) ∧ Below V.heap.size V w') := fun V h => by
      rw [hX]; exact iSumLoad 3 a1 N c1 L V HN.out (RSW.out V h) NI.out (by have := HL.out; omega)
    have C6 : Hid (∀ V, Below W.heap.size W V → Calls Try.prog 10 #[.int .i64 3, .slice a1 N c1] V fun e w' => e = .returned (.int .i64 X) ∧ Below V.heap.size V w') := fun V h => by
      rw [hX]; exact sSumLoad 3 a1 N c1 L V HN.out (RSW.out V h) NI.out (by have := HL.out; omega)
    clear hE hX RS RT R5 R6 B1 B2 B3 hbW RSW RTW R5W R6W N5 NI HL
    generalize w1.heap.size = p3 at *
    generalize w2.heap.size = p5 at *
    generalize w3.heap.size = p6 at *
    generalize hp4 : p3 + 1 = p4 at *
    generalize hp7 : p6 + 1 = p7 at *
    have K : Hid (∀ w', Below W.heap.size W w' → (∀ o, w'.cell? ⟨p3, o, none⟩ = (#[.int .i64 y0, .int .i64 y1, .bool b2, .bool b3, .bool b4, .int .i64 y5, .int .i64 y6, .int .i64 y7, .int .i64 y8, .int .i64 y9, .int .i64 y10, .slice a1 N c1] : Array Value)[o]?) ∧ (∀ o, w'.cell? ⟨p4, o, none⟩ = (#[.int .i64 x0, .int .i64 x1, .bool d2, .bool d3, .bool d4, .int .i64 x5, .int .i64 x6, .int .i64 x7, .int .i64 x8, .int .i64 x9, .int .i64 x10, .slice a2 M c2] : Array Value)[o]?) ∧ (∀ o, w'.cell? ⟨p5, o, none⟩ = (#[.int .i64 y0, .int .i64 y1, .bool b2, .bool b3, .bool b4, .int .i64 y5, .int .i64 y6, .int .i64 y7, .int .i64 0, .int .i64 0, .int .i64 0, .slice a5 N c5] : Array Value)[o]?) ∧ (∀ o, w'.cell? ⟨p6, o, none⟩ = (#[.int .i64 y0, .int .i64 y1, .bool b2, .bool b3, .bool b4, .int .i64 y5, .int .i64 y6, .int .i64 y7, .int .i64 0, .int .i64 0, .int .i64 0, .slice a6 N c6] : Array Value)[o]?) ∧ (∀ o, w'.cell? ⟨p7, o, none⟩ = (#[.int .i64 y0, .int .i64 y1, .bool b2, .bool b3, .bool b4, .int .i64 y5, .int .i64 y6, .int .i64 y7, .int .i64 y8, .int .i64 y9, .int .i64 y10, .slice a5 N c5] : Array Value)[o]?)) := fun w' h => ⟨bx_below p3c (by omega) h, bx_below p4c (by omega) h, bx_below p5c (by omega) h, bx_below p6c (by omega) h, bx_below p7c (by omega) h⟩
    clear zz1 zz2 zz3 p3c p4c p5c p6c p7c hp4 hp7 z2 z3 zW
    have fk := K.out _ (Below.drew (Below.refl W.heap.size W))
    have T0 : Hid (Below W.heap.size W W.drew) := Below.drew (Below.refl W.heap.size W)
    have M1 : True := trivial
    have M2 : True := trivial
    have M3 : True := trivial
    go_region_held3 (fun w' => (∀ o, w'.cell? ⟨p3, o, none⟩ = (#[.int .i64 y0, .int .i64 y1, .bool b2, .bool b3, .bool b4, .int .i64 y5, .int .i64 y6, .int .i64 y7, .int .i64 y8, .int .i64 y9, .int .i64 y10, .slice a1 N c1] : Array Value)[o]?) ∧ (∀ o, w'.cell? ⟨p4, o, none⟩ = (#[.int .i64 x0, .int .i64 x1, .bool d2, .bool d3, .bool d4, .int .i64 x5, .int .i64 x6, .int .i64 x7, .int .i64 x8, .int .i64 x9, .int .i64 x10, .slice a2 M c2] : Array Value)[o]?) ∧ (∀ o, w'.cell? ⟨p5, o, none⟩ = (#[.int .i64 y0, .int .i64 y1, .bool b2, .bool b3, .bool b4, .int .i64 y5, .int .i64 y6, .int .i64 y7, .int .i64 0, .int .i64 0, .int .i64 0, .slice a5 N c5] : Array Value)[o]?) ∧ (∀ o, w'.cell? ⟨p6, o, none⟩ = (#[.int .i64 y0, .int .i64 y1, .bool b2, .bool b3, .bool b4, .int .i64 y5, .int .i64 y6, .int .i64 y7, .int .i64 0, .int .i64 0, .int .i64 0, .slice a6 N c6] : Array Value)[o]?) ∧ (∀ o, w'.cell? ⟨p7, o, none⟩ = (#[.int .i64 y0, .int .i64 y1, .bool b2, .bool b3, .bool b4, .int .i64 y5, .int .i64 y6, .int .i64 y7, .int .i64 y8, .int .i64 y9, .int .i64 y10, .slice a5 N c5] : Array Value)[o]?)) (first | assumption | exact fk | go_keep)
      (first
        | (go_at_call 7; first
            | (clear M1; refine (C1.out _ T0.out).mono ?_; rintro e wa ⟨rfl, hb⟩; have Ta : Hid (Below W.heap.size W wa) := T0.out.trans (hb.mono T0.out.size); clear hb; have fka := K.out _ Ta.out)
            | (clear M2; refine (C2.out _ Ta.out).mono ?_; rintro e wb ⟨rfl, hb⟩; have Tb : Hid (Below W.heap.size W wb) := Ta.out.trans (hb.mono Ta.out.size); clear hb; have fkb := K.out _ Tb.out)
            | (clear M3; refine (C3.out _ Tb.out).mono ?_; rintro e wc ⟨rfl, hb⟩; have Tc : Hid (Below W.heap.size W wc) := Tb.out.trans (hb.mono Tb.out.size); clear hb; have fkc := K.out _ Tc.out))
        | (go_at_call 8; refine (C4.out _ Tc.out).mono ?_; rintro e wd ⟨rfl, hb⟩; have Td : Hid (Below W.heap.size W wd) := Tc.out.trans (hb.mono Tc.out.size); clear hb; have fkd := K.out _ Td.out)
        | (go_at_call 9; refine (C5.out _ Td.out).mono ?_; rintro e we ⟨rfl, hb⟩; have Te : Hid (Below W.heap.size W we) := Td.out.trans (hb.mono Td.out.size); clear hb; have fke := K.out _ Te.out)
        | (go_at_call 10; refine (C6.out _ Te.out).mono ?_; rintro e wf ⟨rfl, hb⟩; have Tf : Hid (Below W.heap.size W wf) := Te.out.trans (hb.mono Te.out.size); clear hb; have fkf := K.out _ Tf.out))
    all_goals (go_wp2_with fail; go_ret; exact ⟨rfl, BW.out.trans (Tf.out.mono BW.out.size)⟩)

set_option maxRecDepth 100000 in
theorem lifted (os : Os) (started : os.Started) (H : Type) (enc : TypeId × Value → H) :
    ReturnsInHanded {} Try.checked os 3 .any (Rows.fnStripsSpec.pre6 enc Try.prog Try.f3 Rows.fnStripsRow.domain false) (Rows.fnStripsSpec.post enc Try.prog Try.f3 false true false false) := by
  refine returnsInHanded_of_change (C := Try.checked) own started (by kernel_rfl) Try.func3
    (ChangeSpec.witness6 (enc := enc) (C := Try.checked) false ⟨#[], #[.slice none 0 0], []⟩ 8 (by kernel_rfl) (by kernel_rfl) (by kernel_rfl) (by kernel_rfl)) ?_
  intro W base args ds gs before hval0 hW hcnd _
  have hval : ∀ (j : Nat) t v, Try.f3.params[j]? = some t → args[j]? = some v → Value.okWide Try.prog W .any base t v := hval0
  have hW' := hW
  obtain ⟨p, q, hA0, hV, rfl, hfz, hnd⟩ := hW
  have hA : DataW.TrodAll enc Try.prog W 0 (fun _ => true) true Try.f3.params.toList args.toList ds p := hA0
  rw [Try.params3] at hA hval
  obtain ⟨v0, vs0, d0, ds0, p0, q0, hargs, rfl, rfl, h0, r0⟩ := trodAll_cons hA
  obtain ⟨rfl, rfl, rfl⟩ := trodAll_nil r0
  obtain rfl : args = #[v0] := by cases args; simp_all
  obtain ⟨rfl, rfl⟩ := trodVars_none hV
  obtain ⟨a0, len0, cap0, rfl⟩ := okWide_slice Try.underlying22 (hval 0 22 v0 rfl rfl)
  have k0 := h0
  have lt0 : ∀ x ∈ p0, x.block < W.heap.size := by obtain ⟨m, hm⟩ := k0; exact DataW.trod_lt m _ _ _ hm
  obtain ⟨z0, w0⟩ : ∃ zs, IsRow .u8 W a0 len0 cap0 zs := by
    obtain ⟨fuel, hf⟩ := h0
    rcases open_ints Try.underlying22 Try.underlying5 (by kernel_rfl) hf with ⟨hcs, _⟩ | ⟨x, l, c, zs, hcs, _, hl, hm, hz, _, hcell, hwz⟩
    · simp [Value.cells] at hcs
      obtain ⟨rfl, rfl, rfl⟩ := hcs
      exact ⟨[], .inl ⟨rfl, rfl, rfl, rfl⟩⟩
    · simp [Value.cells] at hcs
      obtain ⟨rfl, rfl, rfl⟩ := hcs
      exact ⟨zs, .inr ⟨_, rfl, hl, hm, by simpa using hz, hcell, hwz⟩⟩
  clear hA0 hval0
  refine (walk a0 len0 cap0 z0 W w0).mono fun e W' ⟨he, bel⟩ => ?_
  subst he
  exact ⟨_, rfl, _, _, _, [], _, [], hW', trodAll_mk1 (shut_bool Try.underlying4 _), (trodAll_cons_mk (Below.trod laidOut (by kernel_rfl) (of_decide_eq_true (by kernel_rfl)) k0 bel lt0) trodAll_mk0), rfl, bel.frame _, fun h => by cases h⟩

theorem over : Rows.fnStripsRow.holds Try.pinned (OpenSpec.ofChange Rows.fnStripsSpec) :=
  OpenClaim.holds_of_wide 3 Try.f3 rfl rfl rfl rfl rfl rfl rfl ⟨rfl, rfl, rfl, rfl, rfl⟩ rfl rfl rfl rfl rfl (by kernel_rfl) Try.func3 (by kernel_rfl)
    (of_decide_eq_true (by kernel_rfl)) (by unfold Func.isWrapper; first | (rw [if_pos (by decide +kernel)]; kernel_rfl) | (rw [if_neg (by decide +kernel)]; exact ⟨rfl, rfl⟩))
    (fun os started H enc _ => lifted os started H enc)

theorem proved : Rows.FnStripsSaid := over
#print axioms proved
end Go.Proofs.Ythgdbbbdmhhjaae.fnStrips

namespace Go.Proofs.Ythgdbbbdmhhjaae
theorem fnStrips_holds : Rows.FnStripsSaid := fnStrips.proved
end Go.Proofs.Ythgdbbbdmhhjaae
