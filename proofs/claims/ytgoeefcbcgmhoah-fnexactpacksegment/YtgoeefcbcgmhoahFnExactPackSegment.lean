/- Proved: at every segment the program's PackSegment answers as its model does, code and bytes; the segment is as it was; the answer owns its memory; no condition. -/
import Derived.Test.YtgoeefcbcgmhoahRows
import Derived.WalkKit
import Derived.ProofKit
import Derived.OpenShut
import Derived.ShutString
import Derived.ChangeOld
import Derived.Below
import Derived.Test.YtgoeefcbcgmhoahBase
import Derived.Test.YtgoeefcbcgmhoahBytes
import Derived.Test.YtgoeefcbcgmhoahAppBytes
import Derived.Test.YtgoeefcbcgmhoahApp
import Derived.Test.YtgoeefcbcgmhoahSeg
import Derived.Test.YtgoeefcbcgmhoahOpenV
import Derived.Test.YtgoeefcbcgmhoahLaw
import Derived.Test.YtgoeefcbcgmhoahSpecSeg
import Derived.Test.YtgoeefcbcgmhoahImplSeg
import Derived.Test.YtgoeefcbcgmhoahSpecPack
import Derived.Test.YtgoeefcbcgmhoahImplSum
import Derived.Test.YtgoeefcbcgmhoahPackDef
import Derived.Test.YtgoeefcbcgmhoahSpecL2
import Derived.Test.YtgoeefcbcgmhoahWriter
import Derived.Test.YtgoeefcbcgmhoahImplPack
import Derived.Test.YtgoeefcbcgmhoahPackWalks
import Derived.Test.YtgoeefcbcgmhoahBytesRes
namespace Go.Proofs.Ytgoeefcbcgmhoah.fnExactPackSegment
open Go.ChangeShapes Go.WideShapes Go.ChangeAt Go.RowKit
set_option linter.unusedVariables false

theorem own : ownKnob Try.prog.godebug = none := by kernel_rfl
theorem laidOut : laidOutB Try.prog = true := by kernel_rfl


set_option maxHeartbeats 2000000 in
theorem walk {H : Type} (enc : TypeId × Value → H) (v0 : Value) (w : World) (base : Nat)
    (o0 : Value.okWide Try.prog w .any base 29 v0) (t0 : ∃ n y, DataW.trod enc Try.prog w 0 (fun _ => true) true n 29 v0.cells.toList = some y) :
    Calls Try.prog 5 #[v0] w fun e w' => e = .returned (.bool true) ∧ Below w.heap.size w w' := by
  obtain ⟨s0, pa0, pc0, zs0, rfl, hwf0, hrow, hr⟩ := open_segv o0 t0
  obtain ⟨mx0, hn⟩ := hrow.small
  have M0 : Hid _ := hn
  have P0 : Hid _ := hr
  have Q0 : Hid _ := hr
  clear hrow hr hn
  clear o0 t0 hwf0
  have HW : Hid (Below w.heap.size w w) := Below.refl _ _
  obtain ⟨kf, hkf⟩ : ∃ k, k = segFault s0 s0.load.length := ⟨_, rfl⟩
  obtain ⟨LP, hLP⟩ : ∃ L, L = packR s0 := ⟨_, rfl⟩
  have LR : Hid (LP.length ≤ 26) := by rw [hLP]; exact packR_length s0
  have CS : Hid (∀ (a : Option Addr) (cap : Nat) (W : World), RB W a s0.load → (a = none → cap = 0) → Calls Try.prog 17 #[.agg #[.int .i64 s0.path, .int .i64 s0.frm, .bool s0.syn, .bool s0.ackd, .bool s0.rst, .int .i64 s0.seq, .int .i64 s0.ack, .int .i64 s0.fin, .int .i64 s0.opt, .int .i64 s0.a, .int .i64 s0.b, .slice a s0.load.length cap]] W fun e w' => ∃ v, e = .returned (.agg #[.int .i64 kf, v]) ∧ OB w' W.heap.size v LP ∧ Below W.heap.size W w') := fun a cap W h1 h2 => by rw [hkf, hLP]; exact sPackSegment s0 a _ cap W rfl h1 h2
  have CI : Hid (∀ (a : Option Addr) (cap : Nat) (W : World), RB W a s0.load → (a = none → cap = 0) → Calls Try.prog 18 #[.agg #[.int .i64 s0.path, .int .i64 s0.frm, .bool s0.syn, .bool s0.ackd, .bool s0.rst, .int .i64 s0.seq, .int .i64 s0.ack, .int .i64 s0.fin, .int .i64 s0.opt, .int .i64 s0.a, .int .i64 s0.b, .slice a s0.load.length cap]] W fun e w' => ∃ v, e = .returned (.agg #[.int .i64 kf, v]) ∧ OB w' W.heap.size v LP ∧ Below W.heap.size W w') := fun a cap W h1 h2 => by rw [hkf, hLP]; exact iPackSegment s0 a _ cap W rfl h1 h2
  clear hkf hLP
  by_cases hbig0 : (1048576 : Int) < (s0.load.length : Int)
  · go_enter Try.func5, Try.ntmps5
    go_wp2_with fail
    have c := fun w => lSzSegment s0 pa0 _ pc0 (1048576) w mx0 (by omega) (by omega)
    rw [if_pos (show ((1048576 : Int) < (s0.load.length : Int)) by omega)] at c
    refine (c _).mono ?_
    rintro e w1 ⟨rfl, hb⟩
    clear c
    have B1 := box_new hb
    obtain ⟨hb, S1⟩ := below_new hb
    have Z1 : Hid (w.heap.size < w1.heap.size) := S1
    replace P0 : Hid _ := RB.below P0.out (Nat.le_refl _) hb
    replace HW : Hid _ := HW.out.trans (hb.mono HW.out.size)
    clear hb
    go_wp2_with fail
    go_ret
    exact ⟨rfl, HW.out⟩
  · skip
    go_enter Try.func5, Try.ntmps5
    go_wp2_with fail
    have c := fun w => lSzSegment s0 pa0 _ pc0 (1048576) w mx0 (by omega) (by omega)
    rw [if_neg (show ¬ ((1048576 : Int) < (s0.load.length : Int)) by omega)] at c
    refine (c _).mono ?_
    rintro e w1 ⟨rfl, hb⟩
    clear c
    have B1 := box_new hb
    obtain ⟨hb, S1⟩ := below_new hb
    have Z1 : Hid (w.heap.size < w1.heap.size) := S1
    replace P0 : Hid _ := RB.below P0.out (Nat.le_refl _) hb
    replace HW : Hid _ := HW.out.trans (hb.mono HW.out.size)
    clear hb
    go_wp2_with fail
    refine (lToSegment s0 pa0 _ pc0 _ rfl ?_ (by omega)).mono ?_
    · first | exact P0.out | exact RB.below P0.out (Nat.le_refl _) (by go_grown) | exact RB.below P0.out (Nat.le_refl _) (Below.drew (Below.refl _ _))
    rintro e w2 ⟨v, rfl, ho, hb⟩
    obtain ⟨a2, c2, rfl, hr, hn⟩ := ho.rbn
    have R2 : Hid _ := hr
    have N2 : Hid _ := hn
    clear ho hr hn
    have Z2 : Hid (w1.heap.size ≤ w2.heap.size) := hb.size
    replace B1 := box_below B1 S1 hb
    replace S1 := Nat.lt_of_lt_of_le S1 hb.size
    replace P0 : Hid _ := RB.below P0.out (Nat.le_refl _) hb
    replace HW : Hid _ := HW.out.trans (hb.mono HW.out.size)
    clear hb
    go_wp2_with fail
    refine (CS.out a2 c2 _ ?_ N2.out).mono ?_
    · first | exact R2.out | exact RB.below R2.out (Nat.le_refl _) (by go_grown) | exact RB.below R2.out (Nat.le_refl _) (Below.drew (Below.refl _ _))
    rintro e w3 ⟨v, rfl, ho, hb⟩
    obtain ⟨a3, c3, rfl, hr, hn⟩ := ho.rbn
    have R3 : Hid _ := hr
    have N3 : Hid _ := hn
    have I3 : Hid (∀ b, (Value.slice a3 LP.length c3).ownBlock = some b → w2.heap.size ≤ b ∧ b < w3.heap.size) := fun b e => by have h := OB.at ho b e; simpa using h
    have O3 : Hid (OB w3 w2.heap.size (.slice a3 LP.length c3) LP) := OB.mono ho (by simp)
    clear ho hr hn
    have Z3 : Hid (w2.heap.size ≤ w3.heap.size) := hb.size
    replace B1 := box_below B1 S1 hb
    replace S1 := Nat.lt_of_lt_of_le S1 hb.size
    replace P0 : Hid _ := RB.below P0.out (Nat.le_refl _) hb
    replace R2 : Hid _ := RB.below R2.out (Nat.le_refl _) hb
    replace HW : Hid _ := HW.out.trans (hb.mono HW.out.size)
    clear hb
    go_wp2_with fail
    refine (lToSegment s0 pa0 _ pc0 _ rfl ?_ (by omega)).mono ?_
    · first | exact P0.out | exact RB.below P0.out (Nat.le_refl _) (by go_grown) | exact RB.below P0.out (Nat.le_refl _) (Below.drew (Below.refl _ _))
    rintro e w4 ⟨v, rfl, ho, hb⟩
    obtain ⟨a4, c4, rfl, hr, hn⟩ := ho.rbn
    have R4 : Hid _ := hr
    have N4 : Hid _ := hn
    have I4 : Hid (∀ b, (Value.slice a4 s0.load.length c4).ownBlock = some b → w3.heap.size + 1 ≤ b ∧ b < w4.heap.size) := fun b e => by have h := OB.at ho b e; simpa using h
    have O4 : Hid (OB w4 w3.heap.size (.slice a4 s0.load.length c4) s0.load) := OB.mono ho (by simp)
    clear ho hr hn
    have B4 := box_new hb
    obtain ⟨hb, S4⟩ := below_new hb
    have Z4 : Hid (w3.heap.size < w4.heap.size) := S4
    replace B1 := box_below B1 S1 hb
    replace S1 := Nat.lt_of_lt_of_le S1 hb.size
    replace P0 : Hid _ := RB.below P0.out (Nat.le_refl _) hb
    replace R2 : Hid _ := RB.below R2.out (Nat.le_refl _) hb
    replace R3 : Hid _ := RB.below R3.out (Nat.le_refl _) hb
    replace O3 : Hid _ := OB.below O3.out (Nat.le_refl _) hb
    replace HW : Hid _ := HW.out.trans (hb.mono HW.out.size)
    clear hb
    go_wp2_with fail
    refine (CI.out a4 c4 _ ?_ N4.out).mono ?_
    · first | exact R4.out | exact RB.below R4.out (Nat.le_refl _) (by go_grown) | exact RB.below R4.out (Nat.le_refl _) (Below.drew (Below.refl _ _))
    rintro e w5 ⟨v, rfl, ho, hb⟩
    obtain ⟨a5, c5, rfl, hr, hn⟩ := ho.rbn
    have R5 : Hid _ := hr
    have N5 : Hid _ := hn
    have I5 : Hid (∀ b, (Value.slice a5 LP.length c5).ownBlock = some b → w4.heap.size + 1 ≤ b ∧ b < w5.heap.size) := fun b e => by have h := OB.at ho b e; simpa using h
    have O5 : Hid (OB w5 w4.heap.size (.slice a5 LP.length c5) LP) := OB.mono ho (by simp)
    clear ho hr hn
    have B5 := box_new hb
    obtain ⟨hb, S5⟩ := below_new hb
    have Z5 : Hid (w4.heap.size < w5.heap.size) := S5
    replace B1 := box_below B1 S1 hb
    replace S1 := Nat.lt_of_lt_of_le S1 hb.size
    replace B4 := box_below B4 S4 hb
    replace S4 := Nat.lt_of_lt_of_le S4 hb.size
    replace P0 : Hid _ := RB.below P0.out (Nat.le_refl _) hb
    replace R2 : Hid _ := RB.below R2.out (Nat.le_refl _) hb
    replace R3 : Hid _ := RB.below R3.out (Nat.le_refl _) hb
    replace R4 : Hid _ := RB.below R4.out (Nat.le_refl _) hb
    replace O3 : Hid _ := OB.below O3.out (Nat.le_refl _) hb
    replace O4 : Hid _ := OB.below O4.out (Nat.le_refl _) hb
    replace HW : Hid _ := HW.out.trans (hb.mono HW.out.size)
    clear hb
    go_wp2_with fail
    refine (lEqBytesResult (kf) a5 a3 _ c5 c3 (LP) _ rfl ?_ ?_ (by have := LR.out; omega)).mono ?_
    · first | exact R5.out | exact RB.below R5.out (Nat.le_refl _) (by go_grown) | exact RB.below R5.out (Nat.le_refl _) (Below.drew (Below.refl _ _))
    · first | exact R3.out | exact RB.below R3.out (Nat.le_refl _) (by go_grown) | exact RB.below R3.out (Nat.le_refl _) (Below.drew (Below.refl _ _))
    rintro e w6 ⟨rfl, hb⟩
    have B6 := box_new hb
    obtain ⟨hb, S6⟩ := below_new hb
    have Z6 : Hid (w5.heap.size < w6.heap.size) := S6
    replace B1 := box_below B1 S1 hb
    replace S1 := Nat.lt_of_lt_of_le S1 hb.size
    replace B4 := box_below B4 S4 hb
    replace S4 := Nat.lt_of_lt_of_le S4 hb.size
    replace B5 := box_below B5 S5 hb
    replace S5 := Nat.lt_of_lt_of_le S5 hb.size
    replace P0 : Hid _ := RB.below P0.out (Nat.le_refl _) hb
    replace R2 : Hid _ := RB.below R2.out (Nat.le_refl _) hb
    replace R3 : Hid _ := RB.below R3.out (Nat.le_refl _) hb
    replace R4 : Hid _ := RB.below R4.out (Nat.le_refl _) hb
    replace R5 : Hid _ := RB.below R5.out (Nat.le_refl _) hb
    replace O3 : Hid _ := OB.below O3.out (Nat.le_refl _) hb
    replace O4 : Hid _ := OB.below O4.out (Nat.le_refl _) hb
    replace O5 : Hid _ := OB.below O5.out (Nat.le_refl _) hb
    replace HW : Hid _ := HW.out.trans (hb.mono HW.out.size)
    clear hb
    go_wp2_with fail
    go_cut [31] (fun u wx => u = .bool false ∧ Below w6.heap.size w6 wx)
    case first =>
      go_region_with (first
        | (go_at_call 14; refine (lToSegment s0 pa0 _ pc0 _ rfl ?_ (by omega)).mono ?_; exact RB.below P0.out (Nat.le_refl _) (Below.drew (Below.refl _ _)); rintro e w7 ⟨v, rfl, ho, hb⟩; obtain ⟨a7, c7, rfl, hr, hn⟩ := ho.rbn; have R7 : Hid _ := hr; replace hb := below_drew hb; have HB : Hid _ := hb; replace B1 := box_below B1 S1 hb; replace S1 := Nat.lt_of_lt_of_le S1 hb.size; replace B4 := box_below B4 S4 hb; replace S4 := Nat.lt_of_lt_of_le S4 hb.size; replace B5 := box_below B5 S5 hb; replace S5 := Nat.lt_of_lt_of_le S5 hb.size; replace B6 := box_below B6 S6 hb; replace S6 := Nat.lt_of_lt_of_le S6 hb.size; clear ho hr hn hb)
        | (go_at_call 16; refine (lEqSegment s0 a4 a7 _ c4 c7 _ rfl ?_ ?_ (by omega)).mono ?_; exact RB.below R4.out (Nat.le_refl _) HB.out; exact R7.out; rintro e w' ⟨rfl, hb⟩; have HC : Hid _ := hb; clear hb))
      all_goals (go_wp2_with fail; go_meet; exact ⟨rfl, HB.out.trans (HC.out.mono HB.out.size)⟩)
    case rest =>
    rename World => w7
    obtain ⟨rfl, hb⟩ := hcut
    have Z7 : Hid (w6.heap.size ≤ w7.heap.size) := hb.size
    replace B1 := box_below B1 S1 hb
    replace S1 := Nat.lt_of_lt_of_le S1 hb.size
    replace B4 := box_below B4 S4 hb
    replace S4 := Nat.lt_of_lt_of_le S4 hb.size
    replace B5 := box_below B5 S5 hb
    replace S5 := Nat.lt_of_lt_of_le S5 hb.size
    replace B6 := box_below B6 S6 hb
    replace S6 := Nat.lt_of_lt_of_le S6 hb.size
    replace P0 : Hid _ := RB.below P0.out (Nat.le_refl _) hb
    replace R2 : Hid _ := RB.below R2.out (Nat.le_refl _) hb
    replace R3 : Hid _ := RB.below R3.out (Nat.le_refl _) hb
    replace R4 : Hid _ := RB.below R4.out (Nat.le_refl _) hb
    replace R5 : Hid _ := RB.below R5.out (Nat.le_refl _) hb
    replace O3 : Hid _ := OB.below O3.out (Nat.le_refl _) hb
    replace O4 : Hid _ := OB.below O4.out (Nat.le_refl _) hb
    replace O5 : Hid _ := OB.below O5.out (Nat.le_refl _) hb
    replace HW : Hid _ := HW.out.trans (hb.mono HW.out.size)
    clear hb
    go_wp2_with fail
    refine (lMarkSegment s0 (w3.heap.size) _ 1 _ ?_ (by omega) (by omega) (by omega)).mono ?_
    · exact O4.out
    rintro e w8 ⟨rfl, ho, hg⟩
    have Z8 : Hid (w7.heap.size ≤ w8.heap.size) := hg.size
    replace B1 := grown_box hg B1 S1 (fun e => by have := I4.out _ e; have := Z1.out; have := Z2.out; have := Z3.out; have := Z4.out; have := Z5.out; have := Z6.out; have := Z7.out; omega)
    replace S1 := Nat.lt_of_lt_of_le S1 hg.size
    replace B4 := grown_box hg B4 S4 (fun e => by have := I4.out _ e; have := Z1.out; have := Z2.out; have := Z3.out; have := Z4.out; have := Z5.out; have := Z6.out; have := Z7.out; omega)
    replace S4 := Nat.lt_of_lt_of_le S4 hg.size
    replace B5 := grown_box hg B5 S5 (fun e => by have := I4.out _ e; have := Z1.out; have := Z2.out; have := Z3.out; have := Z4.out; have := Z5.out; have := Z6.out; have := Z7.out; omega)
    replace S5 := Nat.lt_of_lt_of_le S5 hg.size
    replace B6 := grown_box hg B6 S6 (fun e => by have := I4.out _ e; have := Z1.out; have := Z2.out; have := Z3.out; have := Z4.out; have := Z5.out; have := Z6.out; have := Z7.out; omega)
    replace S6 := Nat.lt_of_lt_of_le S6 hg.size
    replace P0 : Hid _ := RB.grownLo Q0.out P0.out hg (Nat.le_refl _) (fun b e => by have := I4.out _ e; have := Z1.out; have := Z2.out; have := Z3.out; have := Z4.out; have := Z5.out; have := Z6.out; have := Z7.out; omega)
    clear R2
    replace O3 : Hid _ := OB.grown O3.out hg (fun b e e' => by have := I3.out _ e; have := I4.out _ e'; have := Z1.out; have := Z2.out; have := Z3.out; have := Z4.out; have := Z5.out; have := Z6.out; have := Z7.out; omega)
    replace R3 : Hid _ := OB.rbx O3.out
    replace O5 : Hid _ := OB.grown O5.out hg (fun b e e' => by have := I5.out _ e; have := I4.out _ e'; have := Z1.out; have := Z2.out; have := Z3.out; have := Z4.out; have := Z5.out; have := Z6.out; have := Z7.out; omega)
    replace R5 : Hid _ := OB.rbx O5.out
    clear O4 R4
    replace HW : Hid _ := below_grown HW.out HW.out.size hg (fun b e => by have := I4.out _ e; have := Z1.out; have := Z2.out; have := Z3.out; have := Z4.out; have := Z5.out; have := Z6.out; have := Z7.out; omega)
    clear ho hg
    go_wp2_with fail
    refine (lEqBytesResult (kf) a5 a3 _ c5 c3 (LP) _ rfl ?_ ?_ (by have := LR.out; omega)).mono ?_
    · first | exact R5.out | exact RB.below R5.out (Nat.le_refl _) (by go_grown) | exact RB.below R5.out (Nat.le_refl _) (Below.drew (Below.refl _ _))
    · first | exact R3.out | exact RB.below R3.out (Nat.le_refl _) (by go_grown) | exact RB.below R3.out (Nat.le_refl _) (Below.drew (Below.refl _ _))
    rintro e w9 ⟨rfl, hb⟩
    have Z9 : Hid (w8.heap.size ≤ w9.heap.size) := hb.size
    replace B1 := box_below B1 S1 hb
    replace S1 := Nat.lt_of_lt_of_le S1 hb.size
    replace B4 := box_below B4 S4 hb
    replace S4 := Nat.lt_of_lt_of_le S4 hb.size
    replace B5 := box_below B5 S5 hb
    replace S5 := Nat.lt_of_lt_of_le S5 hb.size
    replace B6 := box_below B6 S6 hb
    replace S6 := Nat.lt_of_lt_of_le S6 hb.size
    replace P0 : Hid _ := RB.below P0.out (Nat.le_refl _) hb
    replace R3 : Hid _ := RB.below R3.out (Nat.le_refl _) hb
    replace R5 : Hid _ := RB.below R5.out (Nat.le_refl _) hb
    replace O3 : Hid _ := OB.below O3.out (Nat.le_refl _) hb
    replace O5 : Hid _ := OB.below O5.out (Nat.le_refl _) hb
    replace HW : Hid _ := HW.out.trans (hb.mono HW.out.size)
    clear hb
    go_wp2_with fail
    refine (lMarkBytesResult (kf) (w4.heap.size) _ (LP) 1 _ ?_ (by have := LR.out; omega) (by omega) (by omega)).mono ?_
    · exact O5.out
    rintro e w10 ⟨rfl, ho, hg⟩
    have Z10 : Hid (w9.heap.size ≤ w10.heap.size) := hg.size
    replace B1 := grown_box hg B1 S1 (fun e => by have := I5.out _ e; have := Z1.out; have := Z2.out; have := Z3.out; have := Z4.out; have := Z5.out; have := Z6.out; have := Z7.out; have := Z8.out; have := Z9.out; omega)
    replace S1 := Nat.lt_of_lt_of_le S1 hg.size
    replace B4 := grown_box hg B4 S4 (fun e => by have := I5.out _ e; have := Z1.out; have := Z2.out; have := Z3.out; have := Z4.out; have := Z5.out; have := Z6.out; have := Z7.out; have := Z8.out; have := Z9.out; omega)
    replace S4 := Nat.lt_of_lt_of_le S4 hg.size
    replace B5 := grown_box hg B5 S5 (fun e => by have := I5.out _ e; have := Z1.out; have := Z2.out; have := Z3.out; have := Z4.out; have := Z5.out; have := Z6.out; have := Z7.out; have := Z8.out; have := Z9.out; omega)
    replace S5 := Nat.lt_of_lt_of_le S5 hg.size
    replace B6 := grown_box hg B6 S6 (fun e => by have := I5.out _ e; have := Z1.out; have := Z2.out; have := Z3.out; have := Z4.out; have := Z5.out; have := Z6.out; have := Z7.out; have := Z8.out; have := Z9.out; omega)
    replace S6 := Nat.lt_of_lt_of_le S6 hg.size
    replace P0 : Hid _ := RB.grownLo Q0.out P0.out hg (Nat.le_refl _) (fun b e => by have := I5.out _ e; have := Z1.out; have := Z2.out; have := Z3.out; have := Z4.out; have := Z5.out; have := Z6.out; have := Z7.out; have := Z8.out; have := Z9.out; omega)
    replace O3 : Hid _ := OB.grown O3.out hg (fun b e e' => by have := I3.out _ e; have := I5.out _ e'; have := Z1.out; have := Z2.out; have := Z3.out; have := Z4.out; have := Z5.out; have := Z6.out; have := Z7.out; have := Z8.out; have := Z9.out; omega)
    replace R3 : Hid _ := OB.rbx O3.out
    replace O5 : Hid _ := ho
    replace R5 : Hid _ := OB.rbx ho
    replace HW : Hid _ := below_grown HW.out HW.out.size hg (fun b e => by have := I5.out _ e; have := Z1.out; have := Z2.out; have := Z3.out; have := Z4.out; have := Z5.out; have := Z6.out; have := Z7.out; have := Z8.out; have := Z9.out; omega)
    clear ho hg
    go_wp2_with fail
    refine (lHeldBytesResult (kf) a5 _ c5 1 _ ?_ (by have := LR.out; omega) (by omega) (by omega)).mono ?_
    · first | exact R5.out | exact RB.below R5.out (Nat.le_refl _) (by go_grown) | exact RB.below R5.out (Nat.le_refl _) (Below.drew (Below.refl _ _))
    rintro e w11 ⟨rfl, hb⟩
    have Z11 : Hid (w10.heap.size ≤ w11.heap.size) := hb.size
    replace B1 := box_below B1 S1 hb
    replace S1 := Nat.lt_of_lt_of_le S1 hb.size
    replace B4 := box_below B4 S4 hb
    replace S4 := Nat.lt_of_lt_of_le S4 hb.size
    replace B5 := box_below B5 S5 hb
    replace S5 := Nat.lt_of_lt_of_le S5 hb.size
    replace B6 := box_below B6 S6 hb
    replace S6 := Nat.lt_of_lt_of_le S6 hb.size
    replace P0 : Hid _ := RB.below P0.out (Nat.le_refl _) hb
    replace R3 : Hid _ := RB.below R3.out (Nat.le_refl _) hb
    replace R5 : Hid _ := RB.below R5.out (Nat.le_refl _) hb
    replace O3 : Hid _ := OB.below O3.out (Nat.le_refl _) hb
    replace O5 : Hid _ := OB.below O5.out (Nat.le_refl _) hb
    replace HW : Hid _ := HW.out.trans (hb.mono HW.out.size)
    clear hb
    go_wp2_with fail
    refine (lToSegment s0 pa0 _ pc0 _ rfl ?_ (by omega)).mono ?_
    · first | exact P0.out | exact RB.below P0.out (Nat.le_refl _) (by go_grown) | exact RB.below P0.out (Nat.le_refl _) (Below.drew (Below.refl _ _))
    rintro e w12 ⟨v, rfl, ho, hb⟩
    obtain ⟨a12, c12, rfl, hr, hn⟩ := ho.rbn
    have R12 : Hid _ := hr
    have N12 : Hid _ := hn
    clear ho hr hn
    have Z12 : Hid (w11.heap.size ≤ w12.heap.size) := hb.size
    replace B1 := box_below B1 S1 hb
    replace S1 := Nat.lt_of_lt_of_le S1 hb.size
    replace B4 := box_below B4 S4 hb
    replace S4 := Nat.lt_of_lt_of_le S4 hb.size
    replace B5 := box_below B5 S5 hb
    replace S5 := Nat.lt_of_lt_of_le S5 hb.size
    replace B6 := box_below B6 S6 hb
    replace S6 := Nat.lt_of_lt_of_le S6 hb.size
    replace P0 : Hid _ := RB.below P0.out (Nat.le_refl _) hb
    replace R3 : Hid _ := RB.below R3.out (Nat.le_refl _) hb
    replace R5 : Hid _ := RB.below R5.out (Nat.le_refl _) hb
    replace O3 : Hid _ := OB.below O3.out (Nat.le_refl _) hb
    replace O5 : Hid _ := OB.below O5.out (Nat.le_refl _) hb
    replace HW : Hid _ := HW.out.trans (hb.mono HW.out.size)
    clear hb
    go_wp2_with fail
    refine (CI.out a12 c12 _ ?_ N12.out).mono ?_
    · first | exact R12.out | exact RB.below R12.out (Nat.le_refl _) (by go_grown) | exact RB.below R12.out (Nat.le_refl _) (Below.drew (Below.refl _ _))
    rintro e w13 ⟨v, rfl, ho, hb⟩
    obtain ⟨a13, c13, rfl, hr, hn⟩ := ho.rbn
    have R13 : Hid _ := hr
    have N13 : Hid _ := hn
    clear ho hr hn
    have Z13 : Hid (w12.heap.size ≤ w13.heap.size) := hb.size
    replace B1 := box_below B1 S1 hb
    replace S1 := Nat.lt_of_lt_of_le S1 hb.size
    replace B4 := box_below B4 S4 hb
    replace S4 := Nat.lt_of_lt_of_le S4 hb.size
    replace B5 := box_below B5 S5 hb
    replace S5 := Nat.lt_of_lt_of_le S5 hb.size
    replace B6 := box_below B6 S6 hb
    replace S6 := Nat.lt_of_lt_of_le S6 hb.size
    replace P0 : Hid _ := RB.below P0.out (Nat.le_refl _) hb
    replace R3 : Hid _ := RB.below R3.out (Nat.le_refl _) hb
    replace R5 : Hid _ := RB.below R5.out (Nat.le_refl _) hb
    replace R12 : Hid _ := RB.below R12.out (Nat.le_refl _) hb
    replace O3 : Hid _ := OB.below O3.out (Nat.le_refl _) hb
    replace O5 : Hid _ := OB.below O5.out (Nat.le_refl _) hb
    replace HW : Hid _ := HW.out.trans (hb.mono HW.out.size)
    clear hb
    go_wp2_with fail
    refine (lEqBytesResult (kf) a13 a3 _ c13 c3 (LP) _ rfl ?_ ?_ (by have := LR.out; omega)).mono ?_
    · first | exact R13.out | exact RB.below R13.out (Nat.le_refl _) (by go_grown) | exact RB.below R13.out (Nat.le_refl _) (Below.drew (Below.refl _ _))
    · first | exact R3.out | exact RB.below R3.out (Nat.le_refl _) (by go_grown) | exact RB.below R3.out (Nat.le_refl _) (Below.drew (Below.refl _ _))
    rintro e w14 ⟨rfl, hb⟩
    have B14 := box_new hb
    obtain ⟨hb, S14⟩ := below_new hb
    have Z14 : Hid (w13.heap.size < w14.heap.size) := S14
    replace B1 := box_below B1 S1 hb
    replace S1 := Nat.lt_of_lt_of_le S1 hb.size
    replace B4 := box_below B4 S4 hb
    replace S4 := Nat.lt_of_lt_of_le S4 hb.size
    replace B5 := box_below B5 S5 hb
    replace S5 := Nat.lt_of_lt_of_le S5 hb.size
    replace B6 := box_below B6 S6 hb
    replace S6 := Nat.lt_of_lt_of_le S6 hb.size
    replace P0 : Hid _ := RB.below P0.out (Nat.le_refl _) hb
    replace R3 : Hid _ := RB.below R3.out (Nat.le_refl _) hb
    replace R5 : Hid _ := RB.below R5.out (Nat.le_refl _) hb
    replace R12 : Hid _ := RB.below R12.out (Nat.le_refl _) hb
    replace R13 : Hid _ := RB.below R13.out (Nat.le_refl _) hb
    replace O3 : Hid _ := OB.below O3.out (Nat.le_refl _) hb
    replace O5 : Hid _ := OB.below O5.out (Nat.le_refl _) hb
    replace HW : Hid _ := HW.out.trans (hb.mono HW.out.size)
    clear hb
    go_wp2_with fail
    refine (lHeldBytesResult (kf) a5 _ c5 1 _ ?_ (by have := LR.out; omega) (by omega) (by omega)).mono ?_
    · first | exact R5.out | exact RB.below R5.out (Nat.le_refl _) (by go_grown) | exact RB.below R5.out (Nat.le_refl _) (Below.drew (Below.refl _ _))
    rintro e w15 ⟨rfl, hb⟩
    have Z15 : Hid (w14.heap.size ≤ w15.heap.size) := hb.size
    replace B1 := box_below B1 S1 hb
    replace S1 := Nat.lt_of_lt_of_le S1 hb.size
    replace B4 := box_below B4 S4 hb
    replace S4 := Nat.lt_of_lt_of_le S4 hb.size
    replace B5 := box_below B5 S5 hb
    replace S5 := Nat.lt_of_lt_of_le S5 hb.size
    replace B6 := box_below B6 S6 hb
    replace S6 := Nat.lt_of_lt_of_le S6 hb.size
    replace B14 := box_below B14 S14 hb
    replace S14 := Nat.lt_of_lt_of_le S14 hb.size
    replace P0 : Hid _ := RB.below P0.out (Nat.le_refl _) hb
    replace R3 : Hid _ := RB.below R3.out (Nat.le_refl _) hb
    replace R5 : Hid _ := RB.below R5.out (Nat.le_refl _) hb
    replace R12 : Hid _ := RB.below R12.out (Nat.le_refl _) hb
    replace R13 : Hid _ := RB.below R13.out (Nat.le_refl _) hb
    replace O3 : Hid _ := OB.below O3.out (Nat.le_refl _) hb
    replace O5 : Hid _ := OB.below O5.out (Nat.le_refl _) hb
    replace HW : Hid _ := HW.out.trans (hb.mono HW.out.size)
    clear hb
    go_wp2_with fail
    go_ret
    exact ⟨rfl, HW.out⟩

set_option maxRecDepth 100000 in
theorem lifted (os : Os) (started : os.Started) (H : Type) (enc : TypeId × Value → H) :
    ReturnsInHanded {} Try.checked os 5 .any (Rows.fnExactPackSegmentSpec.pre6 enc Try.prog Try.f5 Rows.fnExactPackSegmentRow.domain false) (Rows.fnExactPackSegmentSpec.post enc Try.prog Try.f5 false true false false) := by
  refine returnsInHanded_of_change (C := Try.checked) own started (by kernel_rfl) Try.func5
    (ChangeSpec.witness6 (enc := enc) (C := Try.checked) false ⟨#[], #[.agg #[.int .i64 0, .int .i64 0, .bool false, .bool false, .bool false, .int .i64 0, .int .i64 0, .int .i64 0, .int .i64 0, .int .i64 0, .int .i64 0, .slice none 0 0]], []⟩ 8 (by kernel_rfl) (by kernel_rfl) (by kernel_rfl) (by kernel_rfl)) ?_
  intro W base args ds gs before hval0 hW hcnd _
  have hval : ∀ (j : Nat) t v, Try.f5.params[j]? = some t → args[j]? = some v → Value.okWide Try.prog W .any base t v := hval0
  have hW' := hW
  obtain ⟨p, q, hA0, hV, rfl, hfz, hnd⟩ := hW
  have hA : DataW.TrodAll enc Try.prog W 0 (fun _ => true) true Try.f5.params.toList args.toList ds p := hA0
  rw [Try.params5] at hA hval
  obtain ⟨v0, vs0, d0, ds0, p0, q0, hargs, rfl, rfl, h0, r0⟩ := trodAll_cons hA
  obtain ⟨rfl, rfl, rfl⟩ := trodAll_nil r0
  obtain rfl : args = #[v0] := by cases args; simp_all
  obtain ⟨rfl, rfl⟩ := trodVars_none hV
  have lt0 : ∀ x ∈ p0, x.block < W.heap.size := by obtain ⟨m, hm⟩ := h0; exact DataW.trod_lt m _ _ _ hm
  have t0 : ∃ n y, DataW.trod enc Try.prog W 0 (fun _ => true) true n 29 v0.cells.toList = some y := by obtain ⟨m, hm⟩ := h0; exact ⟨m, _, hm⟩
  refine (walk enc v0 W base (hval 0 29 v0 rfl rfl) t0).mono fun e W' ⟨he, bel⟩ => ?_
  subst he
  exact ⟨_, rfl, _, _, _, [], _, [], hW', trodAll_mk1 (shut_bool Try.underlying4 _), (trodAll_cons_mk (Below.trod laidOut (by kernel_rfl) (of_decide_eq_true (by kernel_rfl)) h0 bel lt0) trodAll_mk0), rfl, bel.frame _, fun h => by cases h⟩

theorem over : Rows.fnExactPackSegmentRow.holds Try.pinned (OpenSpec.ofChange Rows.fnExactPackSegmentSpec) :=
  OpenClaim.holds_of_wide 5 Try.f5 rfl rfl rfl rfl rfl rfl rfl ⟨rfl, rfl, rfl, rfl, rfl⟩ rfl rfl rfl rfl rfl (by kernel_rfl) Try.func5 (by kernel_rfl)
    (of_decide_eq_true (by kernel_rfl)) (by unfold Func.isWrapper; first | (rw [if_pos (by decide +kernel)]; kernel_rfl) | (rw [if_neg (by decide +kernel)]; exact ⟨rfl, rfl⟩))
    (fun os started H enc _ => lifted os started H enc)

theorem proved : Rows.FnExactPackSegmentSaid := over
#print axioms proved
end Go.Proofs.Ytgoeefcbcgmhoah.fnExactPackSegment

namespace Go.Proofs.Ytgoeefcbcgmhoah
theorem fnExactPackSegment_holds : Rows.FnExactPackSegmentSaid := fnExactPackSegment.proved
end Go.Proofs.Ytgoeefcbcgmhoah
