/- Proved: at all bytes the program's UnpackSegment answers as its model does, code and every field of the segment; the bytes are as they were; the answer owns its memory; no condition. -/
import Derived.Test.YtmiomnpfjigojahRows
import Derived.WalkKit
import Derived.ProofKit
import Derived.OpenShut
import Derived.ShutString
import Derived.ChangeOld
import Derived.Below
import Derived.Test.YtmiomnpfjigojahBase
import Derived.Test.YtmiomnpfjigojahNum
import Derived.Test.YtmiomnpfjigojahNumWalks
import Derived.Test.YtmiomnpfjigojahBytes
import Derived.Test.YtmiomnpfjigojahAppBytes
import Derived.Test.YtmiomnpfjigojahApp
import Derived.Test.YtmiomnpfjigojahSeg
import Derived.Test.YtmiomnpfjigojahOpenV
import Derived.Test.YtmiomnpfjigojahLaw
import Derived.Test.YtmiomnpfjigojahSpecSeg
import Derived.Test.YtmiomnpfjigojahImplSeg
import Derived.Test.YtmiomnpfjigojahSpecPack
import Derived.Test.YtmiomnpfjigojahImplSum
import Derived.Test.YtmiomnpfjigojahSpecLoad
import Derived.Test.YtmiomnpfjigojahWriter
import Derived.Test.YtmiomnpfjigojahImplLoad
import Derived.Test.YtmiomnpfjigojahStr
import Derived.Test.YtmiomnpfjigojahStrip
import Derived.Test.YtmiomnpfjigojahPackDef
import Derived.Test.YtmiomnpfjigojahSpecL2
import Derived.Test.YtmiomnpfjigojahImplPack
import Derived.Test.YtmiomnpfjigojahPackWalks
import Derived.Test.YtmiomnpfjigojahBytesRes
import Derived.Test.YtmiomnpfjigojahTake
import Derived.Test.YtmiomnpfjigojahRead
import Derived.Test.YtmiomnpfjigojahSegRes
import Derived.Test.YtmiomnpfjigojahImplUnpack
import Derived.Test.YtmiomnpfjigojahUnpackFacts
import Derived.Test.YtmiomnpfjigojahRegionU
import Derived.Test.YtmiomnpfjigojahRegionQ
import Derived.Test.YtmiomnpfjigojahSpecUnpack
import Derived.Test.YtmiomnpfjigojahUpLaw
namespace Go.Proofs.Ytmiomnpfjigojah.fnExactUnpackSegment
open Go.ChangeShapes Go.WideShapes Go.ChangeAt Go.RowKit
set_option linter.unusedVariables false

theorem own : ownKnob Try.prog.godebug = none := by kernel_rfl
theorem laidOut : laidOutB Try.prog = true := by kernel_rfl


set_option maxHeartbeats 2000000 in
theorem walk {H : Type} (enc : TypeId × Value → H) (v0 : Value) (w : World) (base : Nat)
    (o0 : Value.okWide Try.prog w .any base 27 v0) (t0 : ∃ n y, DataW.trod enc Try.prog w 0 (fun _ => true) true n 27 v0.cells.toList = some y) :
    Calls Try.prog 6 #[v0] w fun e w' => e = .returned (.bool true) ∧ Below w.heap.size w w' := by
  obtain ⟨pa0, n0, pc0, zs0, rfl, hrow⟩ := open_bytesv o0 t0
  obtain ⟨hr, hl⟩ := hrow.rb
  obtain ⟨mx0, hn⟩ := hrow.small
  generalize zs0.take n0 = l0 at hr hl
  subst hl
  have M0 : Hid _ := hn
  have P0 : Hid _ := hr
  have Q0 : Hid _ := hr
  clear hrow hr hn
  clear o0 t0
  have HW : Hid (Below w.heap.size w w) := Below.refl _ _
  obtain ⟨kf, hkf⟩ : ∃ k, k = upC l0 := ⟨_, rfl⟩
  obtain ⟨GS, hGS⟩ : ∃ s, s = upS l0 := ⟨_, rfl⟩
  have LR : Hid (GS.load.length ≤ 8) := by rw [hGS]; exact upS_len l0
  have CS : Hid (∀ (a : Option Addr) (cap : Nat) (W : World), RB W a l0 → (l0.length ≤ cap ∧ cap ≤ 281474976710656) → l0.length ≤ 1048576 → Calls Try.prog 23 #[.slice a l0.length cap] W fun e w' => ∃ v, e = .returned (.agg #[.int .i64 kf, .int .i64 GS.path, .int .i64 GS.frm, .bool GS.syn, .bool GS.ackd, .bool GS.rst, .int .i64 GS.seq, .int .i64 GS.ack, .int .i64 GS.fin, .int .i64 GS.opt, .int .i64 GS.a, .int .i64 GS.b, v]) ∧ OB w' W.heap.size v GS.load ∧ Below W.heap.size W w') := fun a cap W h1 h2 h3 => by rw [hkf, hGS]; exact sUnpack l0 a _ cap W rfl h1 h2.1 h2.2 h3
  have CI : Hid (∀ (a : Option Addr) (cap : Nat) (W : World), RB W a l0 → (l0.length ≤ cap ∧ cap ≤ 281474976710656) → l0.length ≤ 1048576 → Calls Try.prog 25 #[.slice a l0.length cap] W fun e w' => ∃ v, e = .returned (.agg #[.int .i64 kf, .int .i64 GS.path, .int .i64 GS.frm, .bool GS.syn, .bool GS.ackd, .bool GS.rst, .int .i64 GS.seq, .int .i64 GS.ack, .int .i64 GS.fin, .int .i64 GS.opt, .int .i64 GS.a, .int .i64 GS.b, v]) ∧ OB w' W.heap.size v GS.load ∧ Below W.heap.size W w') := fun a cap W h1 h2 h3 => by rw [hkf, hGS]; exact iUnpack l0 a _ cap W rfl h1 h2.1 h2.2 h3
  clear hkf hGS
  by_cases hbig0 : 1048576 < l0.length
  · go_enter Try.func6, Try.ntmps6
    go_wp2_with fail
    go_ret
    exact ⟨rfl, by go_grown⟩
  · skip
    go_enter Try.func6, Try.ntmps6
    go_wp2_with fail
    refine (lToBytesX pa0 _ pc0 l0 _ rfl ?_ (by omega)).mono ?_
    · first | exact P0.out | exact RB.below P0.out (Nat.le_refl _) (by go_grown) | exact RB.below P0.out (Nat.le_refl _) (Below.drew (Below.refl _ _))
    rintro e w1 ⟨v, rfl, hx, ho, hb⟩
    obtain ⟨a1, c1, rfl, hn⟩ := hx
    have hr := OB.rbx ho
    have R1 : Hid _ := hr
    have N1 : Hid _ := hn
    clear ho hr hn
    have Z1 : Hid (w.heap.size ≤ w1.heap.size) := hb.size
    replace P0 : Hid _ := RB.below P0.out (Nat.le_refl _) hb
    replace HW : Hid _ := HW.out.trans (hb.mono HW.out.size)
    clear hb
    go_wp2_with fail
    refine (CS.out a1 c1 _ ?_ N1.out (by omega)).mono ?_
    · first | exact R1.out | exact RB.below R1.out (Nat.le_refl _) (by go_grown) | exact RB.below R1.out (Nat.le_refl _) (Below.drew (Below.refl _ _))
    rintro e w2 ⟨v, rfl, ho, hb⟩
    obtain ⟨a2, c2, rfl, hr, hn⟩ := ho.rbn
    have R2 : Hid _ := hr
    have N2 : Hid _ := hn
    have I2 : Hid (∀ b, (Value.slice a2 GS.load.length c2).ownBlock = some b → w1.heap.size ≤ b ∧ b < w2.heap.size) := fun b e => by have h := OB.at ho b e; simpa using h
    have O2 : Hid (OB w2 w1.heap.size (.slice a2 GS.load.length c2) GS.load) := OB.mono ho (by simp)
    clear ho hr hn
    have Z2 : Hid (w1.heap.size ≤ w2.heap.size) := hb.size
    replace P0 : Hid _ := RB.below P0.out (Nat.le_refl _) hb
    replace R1 : Hid _ := RB.below R1.out (Nat.le_refl _) hb
    replace HW : Hid _ := HW.out.trans (hb.mono HW.out.size)
    clear hb
    go_wp2_with fail
    refine (lToBytesX pa0 _ pc0 l0 _ rfl ?_ (by omega)).mono ?_
    · first | exact P0.out | exact RB.below P0.out (Nat.le_refl _) (by go_grown) | exact RB.below P0.out (Nat.le_refl _) (Below.drew (Below.refl _ _))
    rintro e w3 ⟨v, rfl, hx, ho, hb⟩
    obtain ⟨a3, c3, rfl, hn⟩ := hx
    have hr := OB.rbx ho
    have R3 : Hid _ := hr
    have N3 : Hid _ := hn
    have I3 : Hid (∀ b, (Value.slice a3 l0.length c3).ownBlock = some b → w2.heap.size + 1 ≤ b ∧ b < w3.heap.size) := fun b e => by have h := OB.at ho b e; simpa using h
    have O3 : Hid (OB w3 w2.heap.size (.slice a3 l0.length c3) l0) := OB.mono ho (by simp)
    clear ho hr hn
    have B3 := box_new hb
    obtain ⟨hb, S3⟩ := below_new hb
    have Z3 : Hid (w2.heap.size < w3.heap.size) := S3
    replace P0 : Hid _ := RB.below P0.out (Nat.le_refl _) hb
    replace R1 : Hid _ := RB.below R1.out (Nat.le_refl _) hb
    replace R2 : Hid _ := RB.below R2.out (Nat.le_refl _) hb
    replace O2 : Hid _ := OB.below O2.out (Nat.le_refl _) hb
    replace HW : Hid _ := HW.out.trans (hb.mono HW.out.size)
    clear hb
    go_wp2_with fail
    refine (CI.out a3 c3 _ ?_ N3.out (by omega)).mono ?_
    · first | exact R3.out | exact RB.below R3.out (Nat.le_refl _) (by go_grown) | exact RB.below R3.out (Nat.le_refl _) (Below.drew (Below.refl _ _))
    rintro e w4 ⟨v, rfl, ho, hb⟩
    obtain ⟨a4, c4, rfl, hr, hn⟩ := ho.rbn
    have R4 : Hid _ := hr
    have N4 : Hid _ := hn
    have I4 : Hid (∀ b, (Value.slice a4 GS.load.length c4).ownBlock = some b → w3.heap.size ≤ b ∧ b < w4.heap.size) := fun b e => by have h := OB.at ho b e; simpa using h
    have O4 : Hid (OB w4 w3.heap.size (.slice a4 GS.load.length c4) GS.load) := OB.mono ho (by simp)
    clear ho hr hn
    have Z4 : Hid (w3.heap.size ≤ w4.heap.size) := hb.size
    replace B3 := box_below B3 S3 hb
    replace S3 := Nat.lt_of_lt_of_le S3 hb.size
    replace P0 : Hid _ := RB.below P0.out (Nat.le_refl _) hb
    replace R1 : Hid _ := RB.below R1.out (Nat.le_refl _) hb
    replace R2 : Hid _ := RB.below R2.out (Nat.le_refl _) hb
    replace R3 : Hid _ := RB.below R3.out (Nat.le_refl _) hb
    replace O2 : Hid _ := OB.below O2.out (Nat.le_refl _) hb
    replace O3 : Hid _ := OB.below O3.out (Nat.le_refl _) hb
    replace HW : Hid _ := HW.out.trans (hb.mono HW.out.size)
    clear hb
    go_wp2_with fail
    refine (lEqSegmentResult kf GS a4 a2 _ c4 c2 _ rfl ?_ ?_ (by have := LR.out; omega)).mono ?_
    · first | exact R4.out | exact RB.below R4.out (Nat.le_refl _) (by go_grown) | exact RB.below R4.out (Nat.le_refl _) (Below.drew (Below.refl _ _))
    · first | exact R2.out | exact RB.below R2.out (Nat.le_refl _) (by go_grown) | exact RB.below R2.out (Nat.le_refl _) (Below.drew (Below.refl _ _))
    rintro e w5 ⟨rfl, hb⟩
    have B5 := box_new hb
    obtain ⟨hb, S5⟩ := below_new hb
    have Z5 : Hid (w4.heap.size < w5.heap.size) := S5
    replace B3 := box_below B3 S3 hb
    replace S3 := Nat.lt_of_lt_of_le S3 hb.size
    replace P0 : Hid _ := RB.below P0.out (Nat.le_refl _) hb
    replace R1 : Hid _ := RB.below R1.out (Nat.le_refl _) hb
    replace R2 : Hid _ := RB.below R2.out (Nat.le_refl _) hb
    replace R3 : Hid _ := RB.below R3.out (Nat.le_refl _) hb
    replace R4 : Hid _ := RB.below R4.out (Nat.le_refl _) hb
    replace O2 : Hid _ := OB.below O2.out (Nat.le_refl _) hb
    replace O3 : Hid _ := OB.below O3.out (Nat.le_refl _) hb
    replace O4 : Hid _ := OB.below O4.out (Nat.le_refl _) hb
    replace HW : Hid _ := HW.out.trans (hb.mono HW.out.size)
    clear hb
    go_wp2_with fail
    refine (lToBytesX pa0 _ pc0 l0 _ rfl ?_ (by omega)).mono ?_
    · first | exact P0.out | exact RB.below P0.out (Nat.le_refl _) (by go_grown) | exact RB.below P0.out (Nat.le_refl _) (Below.drew (Below.refl _ _))
    rintro e w6 ⟨v, rfl, hx, ho, hb⟩
    obtain ⟨a6, c6, rfl, hn⟩ := hx
    have hr := OB.rbx ho
    have R6 : Hid _ := hr
    have N6 : Hid _ := hn
    clear ho hr hn
    have Z6 : Hid (w5.heap.size ≤ w6.heap.size) := hb.size
    replace B3 := box_below B3 S3 hb
    replace S3 := Nat.lt_of_lt_of_le S3 hb.size
    replace B5 := box_below B5 S5 hb
    replace S5 := Nat.lt_of_lt_of_le S5 hb.size
    replace P0 : Hid _ := RB.below P0.out (Nat.le_refl _) hb
    replace R1 : Hid _ := RB.below R1.out (Nat.le_refl _) hb
    replace R2 : Hid _ := RB.below R2.out (Nat.le_refl _) hb
    replace R3 : Hid _ := RB.below R3.out (Nat.le_refl _) hb
    replace R4 : Hid _ := RB.below R4.out (Nat.le_refl _) hb
    replace O2 : Hid _ := OB.below O2.out (Nat.le_refl _) hb
    replace O3 : Hid _ := OB.below O3.out (Nat.le_refl _) hb
    replace O4 : Hid _ := OB.below O4.out (Nat.le_refl _) hb
    replace HW : Hid _ := HW.out.trans (hb.mono HW.out.size)
    clear hb
    go_wp2_with fail
    refine (lEqBytes a3 a6 _ c3 c6 l0 _ rfl ?_ ?_ (by omega)).mono ?_
    · first | exact R3.out | exact RB.below R3.out (Nat.le_refl _) (by go_grown) | exact RB.below R3.out (Nat.le_refl _) (Below.drew (Below.refl _ _))
    · first | exact R6.out | exact RB.below R6.out (Nat.le_refl _) (by go_grown) | exact RB.below R6.out (Nat.le_refl _) (Below.drew (Below.refl _ _))
    rintro e w7 ⟨rfl, hb⟩
    have Z7 : Hid (w6.heap.size ≤ w7.heap.size) := hb.size
    replace B3 := box_below B3 S3 hb
    replace S3 := Nat.lt_of_lt_of_le S3 hb.size
    replace B5 := box_below B5 S5 hb
    replace S5 := Nat.lt_of_lt_of_le S5 hb.size
    replace P0 : Hid _ := RB.below P0.out (Nat.le_refl _) hb
    replace R1 : Hid _ := RB.below R1.out (Nat.le_refl _) hb
    replace R2 : Hid _ := RB.below R2.out (Nat.le_refl _) hb
    replace R3 : Hid _ := RB.below R3.out (Nat.le_refl _) hb
    replace R4 : Hid _ := RB.below R4.out (Nat.le_refl _) hb
    replace R6 : Hid _ := RB.below R6.out (Nat.le_refl _) hb
    replace O2 : Hid _ := OB.below O2.out (Nat.le_refl _) hb
    replace O3 : Hid _ := OB.below O3.out (Nat.le_refl _) hb
    replace O4 : Hid _ := OB.below O4.out (Nat.le_refl _) hb
    replace HW : Hid _ := HW.out.trans (hb.mono HW.out.size)
    clear hb
    go_wp2_with fail
    refine (lMark (w2.heap.size) _ 1 l0 _ ?_ (by omega) (by omega) (by omega)).mono ?_
    · exact O3.out
    rintro e w8 ⟨rfl, ho, hg⟩
    have Z8 : Hid (w7.heap.size ≤ w8.heap.size) := hg.size
    replace B3 := grown_box hg B3 S3 (fun e => by have := I3.out _ e; have := Z1.out; have := Z2.out; have := Z3.out; have := Z4.out; have := Z5.out; have := Z6.out; have := Z7.out; omega)
    replace S3 := Nat.lt_of_lt_of_le S3 hg.size
    replace B5 := grown_box hg B5 S5 (fun e => by have := I3.out _ e; have := Z1.out; have := Z2.out; have := Z3.out; have := Z4.out; have := Z5.out; have := Z6.out; have := Z7.out; omega)
    replace S5 := Nat.lt_of_lt_of_le S5 hg.size
    replace P0 : Hid _ := RB.grownLo Q0.out P0.out hg (Nat.le_refl _) (fun b e => by have := I3.out _ e; have := Z1.out; have := Z2.out; have := Z3.out; have := Z4.out; have := Z5.out; have := Z6.out; have := Z7.out; omega)
    clear R1 R6
    replace O2 : Hid _ := OB.grown O2.out hg (fun b e e' => by have := I2.out _ e; have := I3.out _ e'; have := Z1.out; have := Z2.out; have := Z3.out; have := Z4.out; have := Z5.out; have := Z6.out; have := Z7.out; omega)
    replace R2 : Hid _ := OB.rbx O2.out
    replace O4 : Hid _ := OB.grown O4.out hg (fun b e e' => by have := I4.out _ e; have := I3.out _ e'; have := Z1.out; have := Z2.out; have := Z3.out; have := Z4.out; have := Z5.out; have := Z6.out; have := Z7.out; omega)
    replace R4 : Hid _ := OB.rbx O4.out
    clear O3 R3
    replace HW : Hid _ := below_grown HW.out HW.out.size hg (fun b e => by have := I3.out _ e; have := Z1.out; have := Z2.out; have := Z3.out; have := Z4.out; have := Z5.out; have := Z6.out; have := Z7.out; omega)
    clear ho hg
    go_wp2_with fail
    refine (lEqSegmentResult kf GS a4 a2 _ c4 c2 _ rfl ?_ ?_ (by have := LR.out; omega)).mono ?_
    · first | exact R4.out | exact RB.below R4.out (Nat.le_refl _) (by go_grown) | exact RB.below R4.out (Nat.le_refl _) (Below.drew (Below.refl _ _))
    · first | exact R2.out | exact RB.below R2.out (Nat.le_refl _) (by go_grown) | exact RB.below R2.out (Nat.le_refl _) (Below.drew (Below.refl _ _))
    rintro e w9 ⟨rfl, hb⟩
    have Z9 : Hid (w8.heap.size ≤ w9.heap.size) := hb.size
    replace B3 := box_below B3 S3 hb
    replace S3 := Nat.lt_of_lt_of_le S3 hb.size
    replace B5 := box_below B5 S5 hb
    replace S5 := Nat.lt_of_lt_of_le S5 hb.size
    replace P0 : Hid _ := RB.below P0.out (Nat.le_refl _) hb
    replace R2 : Hid _ := RB.below R2.out (Nat.le_refl _) hb
    replace R4 : Hid _ := RB.below R4.out (Nat.le_refl _) hb
    replace O2 : Hid _ := OB.below O2.out (Nat.le_refl _) hb
    replace O4 : Hid _ := OB.below O4.out (Nat.le_refl _) hb
    replace HW : Hid _ := HW.out.trans (hb.mono HW.out.size)
    clear hb
    go_wp2_with fail
    refine (lMarkSegmentResult kf GS (w3.heap.size) _ 1 _ ?_ (by have := LR.out; omega) (by omega) (by omega)).mono ?_
    · exact O4.out
    rintro e w10 ⟨rfl, ho, hg⟩
    have Z10 : Hid (w9.heap.size ≤ w10.heap.size) := hg.size
    replace B3 := grown_box hg B3 S3 (fun e => by have := I4.out _ e; have := Z1.out; have := Z2.out; have := Z3.out; have := Z4.out; have := Z5.out; have := Z6.out; have := Z7.out; have := Z8.out; have := Z9.out; omega)
    replace S3 := Nat.lt_of_lt_of_le S3 hg.size
    replace B5 := grown_box hg B5 S5 (fun e => by have := I4.out _ e; have := Z1.out; have := Z2.out; have := Z3.out; have := Z4.out; have := Z5.out; have := Z6.out; have := Z7.out; have := Z8.out; have := Z9.out; omega)
    replace S5 := Nat.lt_of_lt_of_le S5 hg.size
    replace P0 : Hid _ := RB.grownLo Q0.out P0.out hg (Nat.le_refl _) (fun b e => by have := I4.out _ e; have := Z1.out; have := Z2.out; have := Z3.out; have := Z4.out; have := Z5.out; have := Z6.out; have := Z7.out; have := Z8.out; have := Z9.out; omega)
    replace O2 : Hid _ := OB.grown O2.out hg (fun b e e' => by have := I2.out _ e; have := I4.out _ e'; have := Z1.out; have := Z2.out; have := Z3.out; have := Z4.out; have := Z5.out; have := Z6.out; have := Z7.out; have := Z8.out; have := Z9.out; omega)
    replace R2 : Hid _ := OB.rbx O2.out
    replace O4 : Hid _ := ho
    replace R4 : Hid _ := OB.rbx ho
    replace HW : Hid _ := below_grown HW.out HW.out.size hg (fun b e => by have := I4.out _ e; have := Z1.out; have := Z2.out; have := Z3.out; have := Z4.out; have := Z5.out; have := Z6.out; have := Z7.out; have := Z8.out; have := Z9.out; omega)
    clear ho hg
    go_wp2_with fail
    refine (lHeldSegmentResult kf GS a4 _ c4 1 _ ?_ (by have := LR.out; omega) (by omega) (by omega)).mono ?_
    · first | exact R4.out | exact RB.below R4.out (Nat.le_refl _) (by go_grown) | exact RB.below R4.out (Nat.le_refl _) (Below.drew (Below.refl _ _))
    rintro e w11 ⟨rfl, hb⟩
    have Z11 : Hid (w10.heap.size ≤ w11.heap.size) := hb.size
    replace B3 := box_below B3 S3 hb
    replace S3 := Nat.lt_of_lt_of_le S3 hb.size
    replace B5 := box_below B5 S5 hb
    replace S5 := Nat.lt_of_lt_of_le S5 hb.size
    replace P0 : Hid _ := RB.below P0.out (Nat.le_refl _) hb
    replace R2 : Hid _ := RB.below R2.out (Nat.le_refl _) hb
    replace R4 : Hid _ := RB.below R4.out (Nat.le_refl _) hb
    replace O2 : Hid _ := OB.below O2.out (Nat.le_refl _) hb
    replace O4 : Hid _ := OB.below O4.out (Nat.le_refl _) hb
    replace HW : Hid _ := HW.out.trans (hb.mono HW.out.size)
    clear hb
    go_wp2_with fail
    refine (lToBytesX pa0 _ pc0 l0 _ rfl ?_ (by omega)).mono ?_
    · first | exact P0.out | exact RB.below P0.out (Nat.le_refl _) (by go_grown) | exact RB.below P0.out (Nat.le_refl _) (Below.drew (Below.refl _ _))
    rintro e w12 ⟨v, rfl, hx, ho, hb⟩
    obtain ⟨a12, c12, rfl, hn⟩ := hx
    have hr := OB.rbx ho
    have R12 : Hid _ := hr
    have N12 : Hid _ := hn
    clear ho hr hn
    have Z12 : Hid (w11.heap.size ≤ w12.heap.size) := hb.size
    replace B3 := box_below B3 S3 hb
    replace S3 := Nat.lt_of_lt_of_le S3 hb.size
    replace B5 := box_below B5 S5 hb
    replace S5 := Nat.lt_of_lt_of_le S5 hb.size
    replace P0 : Hid _ := RB.below P0.out (Nat.le_refl _) hb
    replace R2 : Hid _ := RB.below R2.out (Nat.le_refl _) hb
    replace R4 : Hid _ := RB.below R4.out (Nat.le_refl _) hb
    replace O2 : Hid _ := OB.below O2.out (Nat.le_refl _) hb
    replace O4 : Hid _ := OB.below O4.out (Nat.le_refl _) hb
    replace HW : Hid _ := HW.out.trans (hb.mono HW.out.size)
    clear hb
    go_wp2_with fail
    refine (CI.out a12 c12 _ ?_ N12.out (by omega)).mono ?_
    · first | exact R12.out | exact RB.below R12.out (Nat.le_refl _) (by go_grown) | exact RB.below R12.out (Nat.le_refl _) (Below.drew (Below.refl _ _))
    rintro e w13 ⟨v, rfl, ho, hb⟩
    obtain ⟨a13, c13, rfl, hr, hn⟩ := ho.rbn
    have R13 : Hid _ := hr
    have N13 : Hid _ := hn
    clear ho hr hn
    have Z13 : Hid (w12.heap.size ≤ w13.heap.size) := hb.size
    replace B3 := box_below B3 S3 hb
    replace S3 := Nat.lt_of_lt_of_le S3 hb.size
    replace B5 := box_below B5 S5 hb
    replace S5 := Nat.lt_of_lt_of_le S5 hb.size
    replace P0 : Hid _ := RB.below P0.out (Nat.le_refl _) hb
    replace R2 : Hid _ := RB.below R2.out (Nat.le_refl _) hb
    replace R4 : Hid _ := RB.below R4.out (Nat.le_refl _) hb
    replace R12 : Hid _ := RB.below R12.out (Nat.le_refl _) hb
    replace O2 : Hid _ := OB.below O2.out (Nat.le_refl _) hb
    replace O4 : Hid _ := OB.below O4.out (Nat.le_refl _) hb
    replace HW : Hid _ := HW.out.trans (hb.mono HW.out.size)
    clear hb
    go_wp2_with fail
    refine (lEqSegmentResult kf GS a13 a2 _ c13 c2 _ rfl ?_ ?_ (by have := LR.out; omega)).mono ?_
    · first | exact R13.out | exact RB.below R13.out (Nat.le_refl _) (by go_grown) | exact RB.below R13.out (Nat.le_refl _) (Below.drew (Below.refl _ _))
    · first | exact R2.out | exact RB.below R2.out (Nat.le_refl _) (by go_grown) | exact RB.below R2.out (Nat.le_refl _) (Below.drew (Below.refl _ _))
    rintro e w14 ⟨rfl, hb⟩
    have B14 := box_new hb
    obtain ⟨hb, S14⟩ := below_new hb
    have Z14 : Hid (w13.heap.size < w14.heap.size) := S14
    replace B3 := box_below B3 S3 hb
    replace S3 := Nat.lt_of_lt_of_le S3 hb.size
    replace B5 := box_below B5 S5 hb
    replace S5 := Nat.lt_of_lt_of_le S5 hb.size
    replace P0 : Hid _ := RB.below P0.out (Nat.le_refl _) hb
    replace R2 : Hid _ := RB.below R2.out (Nat.le_refl _) hb
    replace R4 : Hid _ := RB.below R4.out (Nat.le_refl _) hb
    replace R12 : Hid _ := RB.below R12.out (Nat.le_refl _) hb
    replace R13 : Hid _ := RB.below R13.out (Nat.le_refl _) hb
    replace O2 : Hid _ := OB.below O2.out (Nat.le_refl _) hb
    replace O4 : Hid _ := OB.below O4.out (Nat.le_refl _) hb
    replace HW : Hid _ := HW.out.trans (hb.mono HW.out.size)
    clear hb
    go_wp2_with fail
    refine (lHeldSegmentResult kf GS a4 _ c4 1 _ ?_ (by have := LR.out; omega) (by omega) (by omega)).mono ?_
    · first | exact R4.out | exact RB.below R4.out (Nat.le_refl _) (by go_grown) | exact RB.below R4.out (Nat.le_refl _) (Below.drew (Below.refl _ _))
    rintro e w15 ⟨rfl, hb⟩
    have Z15 : Hid (w14.heap.size ≤ w15.heap.size) := hb.size
    replace B3 := box_below B3 S3 hb
    replace S3 := Nat.lt_of_lt_of_le S3 hb.size
    replace B5 := box_below B5 S5 hb
    replace S5 := Nat.lt_of_lt_of_le S5 hb.size
    replace B14 := box_below B14 S14 hb
    replace S14 := Nat.lt_of_lt_of_le S14 hb.size
    replace P0 : Hid _ := RB.below P0.out (Nat.le_refl _) hb
    replace R2 : Hid _ := RB.below R2.out (Nat.le_refl _) hb
    replace R4 : Hid _ := RB.below R4.out (Nat.le_refl _) hb
    replace R12 : Hid _ := RB.below R12.out (Nat.le_refl _) hb
    replace R13 : Hid _ := RB.below R13.out (Nat.le_refl _) hb
    replace O2 : Hid _ := OB.below O2.out (Nat.le_refl _) hb
    replace O4 : Hid _ := OB.below O4.out (Nat.le_refl _) hb
    replace HW : Hid _ := HW.out.trans (hb.mono HW.out.size)
    clear hb
    go_wp2_with fail
    go_ret
    exact ⟨rfl, HW.out⟩

set_option maxRecDepth 100000 in
theorem lifted (os : Os) (started : os.Started) (H : Type) (enc : TypeId × Value → H) :
    ReturnsInHanded {} Try.checked os 6 .any (Rows.fnExactUnpackSegmentSpec.pre6 enc Try.prog Try.f6 Rows.fnExactUnpackSegmentRow.domain false) (Rows.fnExactUnpackSegmentSpec.post enc Try.prog Try.f6 false true false false) := by
  refine returnsInHanded_of_change (C := Try.checked) own started (by kernel_rfl) Try.func6
    (ChangeSpec.witness6 (enc := enc) (C := Try.checked) false ⟨#[], #[.slice none 0 0], []⟩ 8 (by kernel_rfl) (by kernel_rfl) (by kernel_rfl) (by kernel_rfl)) ?_
  intro W base args ds gs before hval0 hW hcnd _
  have hval : ∀ (j : Nat) t v, Try.f6.params[j]? = some t → args[j]? = some v → Value.okWide Try.prog W .any base t v := hval0
  have hW' := hW
  obtain ⟨p, q, hA0, hV, rfl, hfz, hnd⟩ := hW
  have hA : DataW.TrodAll enc Try.prog W 0 (fun _ => true) true Try.f6.params.toList args.toList ds p := hA0
  rw [Try.params6] at hA hval
  obtain ⟨v0, vs0, d0, ds0, p0, q0, hargs, rfl, rfl, h0, r0⟩ := trodAll_cons hA
  obtain ⟨rfl, rfl, rfl⟩ := trodAll_nil r0
  obtain rfl : args = #[v0] := by cases args; simp_all
  obtain ⟨rfl, rfl⟩ := trodVars_none hV
  have lt0 : ∀ x ∈ p0, x.block < W.heap.size := by obtain ⟨m, hm⟩ := h0; exact DataW.trod_lt m _ _ _ hm
  have t0 : ∃ n y, DataW.trod enc Try.prog W 0 (fun _ => true) true n 27 v0.cells.toList = some y := by obtain ⟨m, hm⟩ := h0; exact ⟨m, _, hm⟩
  refine (walk enc v0 W base (hval 0 27 v0 rfl rfl) t0).mono fun e W' ⟨he, bel⟩ => ?_
  subst he
  exact ⟨_, rfl, _, _, _, [], _, [], hW', trodAll_mk1 (shut_bool Try.underlying4 _), (trodAll_cons_mk (Below.trod laidOut (by kernel_rfl) (of_decide_eq_true (by kernel_rfl)) h0 bel lt0) trodAll_mk0), rfl, bel.frame _, fun h => by cases h⟩

theorem over : Rows.fnExactUnpackSegmentRow.holds Try.pinned (OpenSpec.ofChange Rows.fnExactUnpackSegmentSpec) :=
  OpenClaim.holds_of_wide 6 Try.f6 rfl rfl rfl rfl rfl rfl rfl ⟨rfl, rfl, rfl, rfl, rfl⟩ rfl rfl rfl rfl rfl (by kernel_rfl) Try.func6 (by kernel_rfl)
    (of_decide_eq_true (by kernel_rfl)) (by unfold Func.isWrapper; first | (rw [if_pos (by decide +kernel)]; kernel_rfl) | (rw [if_neg (by decide +kernel)]; exact ⟨rfl, rfl⟩))
    (fun os started H enc _ => lifted os started H enc)

theorem proved : Rows.FnExactUnpackSegmentSaid := over
#print axioms proved
end Go.Proofs.Ytmiomnpfjigojah.fnExactUnpackSegment

namespace Go.Proofs.Ytmiomnpfjigojah
theorem fnExactUnpackSegment_holds : Rows.FnExactUnpackSegmentSaid := fnExactUnpackSegment.proved
end Go.Proofs.Ytmiomnpfjigojah
