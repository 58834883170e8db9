/- What a side tells of a path, by the program; the answer has no memory; nothing that was there turns; no condition but that there are at most a million parts and errors' own variable is as it is laid. Written by mktellT.py. -/
import Derived.Test.YtmpbejckggnfaaaGreatDoorRows
import Derived.Deep.RegionHeld3
import Derived.Deep.DeepCutAuto
import Derived.Deep.MidRow
import Derived.Test.YtmpbejckggnfaaaGreatDoorK01
import Derived.Test.YtmpbejckggnfaaaGreatDoorK02
import Derived.Test.YtmpbejckggnfaaaGreatDoorK03
import Derived.Test.YtmpbejckggnfaaaGreatDoorK04
import Derived.Test.YtmpbejckggnfaaaGreatDoorK05
import Derived.Test.YtmpbejckggnfaaaGreatDoorK06
import Derived.Test.YtmpbejckggnfaaaGreatDoorK07
import Derived.Test.YtmpbejckggnfaaaGreatDoorK09
import Derived.Test.YtmpbejckggnfaaaGreatDoorK10
import Derived.Test.YtmpbejckggnfaaaGreatDoorK11
import Derived.Test.YtmpbejckggnfaaaGreatDoorK12
import Derived.Test.YtmpbejckggnfaaaGreatDoorK13
import Derived.Test.YtmpbejckggnfaaaGreatDoorK14
import Derived.Test.YtmpbejckggnfaaaGreatDoorK15
import Derived.Test.YtmpbejckggnfaaaGreatDoorK16
import Derived.Test.YtmpbejckggnfaaaGreatDoorK20
import Derived.Test.YtmpbejckggnfaaaGreatDoorK21
import Derived.Test.YtmpbejckggnfaaaGreatDoorK22
import Derived.Test.YtmpbejckggnfaaaGreatDoorK23
import Derived.Test.YtmpbejckggnfaaaGreatDoorK24
import Derived.Test.YtmpbejckggnfaaaGreatDoorK25
import Derived.Test.YtmpbejckggnfaaaGreatDoorK26
namespace Go.Proofs.YtmpbejckggnfaaaGreatDoor
open Go.RowKit
set_option linter.unusedVariables false
set_option maxRecDepth 8000

theorem results_box2 {P : Program} {fn : Func} {p q : Tmp} {ty : TypeId} (h : fn.results = #[.cell p ty, .tmp q]) (tmps : Array Value) (w : World) (b : Nat) (A : Array Value) (v : Value) (d : TypeDesc)
    (hp : tmps.getD p undef = .pointer (some ⟨b, 0, none⟩)) (hq : tmps.getD q undef = v) (hj : ∀ o, w.cell? ⟨b, o, none⟩ = A[o]?) (hu : P.underlying ty = some d) (hd : d.isRow = true) (hi : (P.info? ty).map (·.size) = some A.size) :
    (results fn tmps).run P w = .ok (.tuple #[.agg A, v]) w := by
  have hp' : tmps[p]?.getD undef = .pointer (some ⟨b, 0, none⟩) := by simpa using hp
  have hq' : tmps[q]?.getD undef = v := by simpa using hq
  simp [results, h, hp', hq', asAddr, run_loadVar_mid w b 0 ty A.toList d (bx_range hj) hu hd (by simpa using hi)]
theorem ErrLaid.below {w W : World} (h : ErrLaid w) (hb : Below w.heap.size w W) : ErrLaid W := by
  have hlt : 0 < w.heap.size := by
    rcases Nat.eq_zero_or_pos w.heap.size with h0 | h1
    · unfold ErrLaid at h; simp [World.cell?, h0] at h
    · exact h1
  unfold ErrLaid at *
  rw [hb.cell (p := ⟨0, 0, none⟩) hlt]; exact h
theorem info_Sub16 : (Tryz.prog.info? 46).map (·.size) = some (#[.int .i64 0, .int .i64 0, .bool false, .int .i64 0, .int .i64 0, .int .i64 0, .int .i64 0, .int .i64 0, .int .i64 0, .slice none 0 0, .int .i64 0, .int .i64 0, .slice none 0 0, .int .i64 0, .int .i64 0, .int .i64 0] : Array Value).size := by kernel_rfl
set_option maxHeartbeats 2000000 in
theorem iOpenOnC (A : Array Value) (p : Int) (C V : Int) (hC : C ≠ 0) (w : World) (hA : A.size = 14)
    (HSO : ∀ W, Below w.heap.size w W → Calls Tryz.prog 13 #[.agg A, .int .i64 p] W fun e w' => e = .returned (.agg #[.int .i64 C, .int .i64 V]) ∧ Below W.heap.size W w') :
    Calls Tryz.prog 42 #[.agg A, .int .i64 p] w fun e w' => e = .returned (.tuple #[.agg #[.int .i64 0, .int .i64 0, .bool false, .int .i64 0, .int .i64 0, .int .i64 0, .int .i64 0, .int .i64 0, .int .i64 0, .slice none 0 0, .int .i64 0, .int .i64 0, .slice none 0 0, .int .i64 0, .int .i64 0, .int .i64 0], .iface 128 (.agg #[.int .i64 C])]) ∧ Below w.heap.size w w' := by
  have hC' : (C != 0) = true := by simp [hC]
  clear hC
  have HONZ : Hid ((#[.int .i64 0, .int .i64 0, .bool false, .int .i64 0, .int .i64 0, .int .i64 0, .int .i64 0, .int .i64 0, .int .i64 0, .slice none 0 0, .int .i64 0, .int .i64 0, .slice none 0 0, .int .i64 0, .int .i64 0, .int .i64 0] : Array Value).all (·.oneCell') = true) := by show _ = _; simp [Value.oneCell']
  obtain ⟨Z, hZ⟩ : ∃ Z : Array Value, Z = #[.int .i64 0, .int .i64 0, .bool false, .int .i64 0, .int .i64 0, .int .i64 0, .int .i64 0, .int .i64 0, .int .i64 0, .slice none 0 0, .int .i64 0, .int .i64 0, .slice none 0 0, .int .i64 0, .int .i64 0, .int .i64 0] := ⟨_, rfl⟩
  have HZ : Hid _ := hZ
  have HIZ : Hid ((Tryz.prog.info? 46).map (·.size) = some Z.size) := by show _ = _; rw [hZ]; exact info_Sub16
  have hZs : Z.size = 16 := by rw [hZ]; rfl
  have HZS : Hid _ := hZs
  rw [← hZ] at HONZ
  rw [← hZ]
  clear hZ hZs
  have HRGX : Hid (∀ W : World, (∀ o, W.cell? ⟨w.heap.size, o, none⟩ = A[o]?) → Hid (W.rangeAt w.heap.size 0 A.toList)) := fun W hk => bx_range hk
  have HI : Hid ((Tryz.prog.info? 29).map (·.size) = some A.toList.length) := by show _ = _; rw [Array.length_toList, hA]; exact (by kernel_rfl : (Tryz.prog.info? 29).map (·.size) = some 14)
  clear hA
  go_enter Tryz.func42, Tryz.ntmps42
  go_upto_region 1 with fail
  have HRG := HRGX.out ((w.alloc (.cells A 29)).alloc (.cells #[.int .i64 0, .int .i64 0, .bool false, .int .i64 0, .int .i64 0, .int .i64 0, .int .i64 0, .int .i64 0, .int .i64 0, .slice none 0 0, .int .i64 0, .int .i64 0, .slice none 0 0, .int .i64 0, .int .i64 0, .int .i64 0] 46)) (fun o => by simp [go_sem])
  go_wp2_with (refine wpList_load_mid rfl 29 _ rfl _ _ (by rfl) A.toList _ HRG.out Tryz.underlying29 rfl HI.out ?_)
  refine (HSO _ (by go_grown)).mono ?_
  rintro e w1 ⟨rfl, hb⟩
  obtain ⟨k0, kR, fR, hb1, z0⟩ := two_boxes hb
  have HB : Hid (Below w.heap.size w w1) := hb1
  clear hb hb1 HRG HSO
  go_upto_region 2 with fail
  have kI : ∀ o, (w1.alloc (.cells #[.int .i64 C, .int .i64 V] 48)).cell? ⟨w1.heap.size, o, none⟩ = (#[.int .i64 C, .int .i64 V] : Array Value)[o]? := bx_al w1 _ _
  have hb2 : Below w1.heap.size w1 (w1.alloc (.cells #[.int .i64 C, .int .i64 V] 48)) := (Below.refl _ _).alloc (Nat.le_refl _) _
  have zI : w1.heap.size < (w1.alloc (.cells #[.int .i64 C, .int .i64 V] 48)).heap.size := by simp
  generalize hW2 : (w1.alloc (.cells #[.int .i64 C, .int .i64 V] 48)) = W2 at kI hb2 zI ⊢
  clear hW2
  replace k0 := bx_below k0 (by omega) hb2
  replace kR := bx_below kR z0 hb2
  replace fR := bxF fR hb2 z0
  replace HB : Hid (Below w.heap.size w W2) := HB.out.trans (hb2.mono HB.out.size)
  clear hb2
  obtain ⟨iB, hiB⟩ : ∃ iB, iB = w1.heap.size := ⟨_, rfl⟩
  rw [← hiB] at z0 zI kI ⊢
  clear hiB
  have HTH : Hid (W2.there (w.heap.size + 1) 0 Z.size) := bx_there kR fR (by rw [HZS.out]; rfl)
  obtain ⟨m, hm⟩ : ∃ m, w.heap.size + m = iB + 1 := ⟨iB + 1 - w.heap.size, by omega⟩
  have HS : Hid (SB2 w m w.heap.size iB A #[.int .i64 C, .int .i64 V] W2) := ⟨HB.out, by omega, k0, kI⟩
  go_upto_region 3 with fail
  refine wp_region_noPanic ?_
  refine Goes.start (S := SB2 w m w.heap.size iB A #[.int .i64 C, .int .i64 V]) (z := 100) (by kernel_rfl) ?_
  replace kR : ∀ o, W2.drew.cell? ⟨w.heap.size + 1, o, none⟩ = (#[.int .i64 0, .int .i64 0, .bool false, .int .i64 0, .int .i64 0, .int .i64 0, .int .i64 0, .int .i64 0, .int .i64 0, .slice none 0 0, .int .i64 0, .int .i64 0, .slice none 0 0, .int .i64 0, .int .i64 0, .int .i64 0] : Array Value)[o]? := kR
  replace fR : ∀ o, W2.drew.frozen? ⟨w.heap.size + 1, o, none⟩ = false := fR
  replace HTH : Hid (W2.drew.there (w.heap.size + 1) 0 Z.size) := HTH
  replace HS : Hid (SB2 w m w.heap.size iB A #[.int .i64 C, .int .i64 V] W2.drew) := HS.out.drew
  clear k0 kI HB zI
  generalize hD : W2.drew = WD at kR fR HTH HS ⊢
  clear hD W2
  refine Goes.take (i := 0) (oi := ?oi11) (x := ?vx11) ?ho11 (by kernel_rfl) (by kernel_rfl) (by kernel_rfl) (by kernel_rfl) (fun _ _ _ h => h) (Or.inl ⟨?hw11, ?hy11⟩) HS.out ?rest11
  case ho11 => (simp only [List.getElem?_toArray, List.getElem?_cons_zero]; rfl)
  case hw11 => rfl
  case hy11 => (intro w' hSw; have j0 := hSw.k0; have j1 := hSw.k1; go_simp; (try with_reducible rfl))
  case rest11 =>
  (try simp only [Act.put, List.setIfInBounds_toArray, List.set_cons_zero, List.set_cons_succ])
  refine Goes.take (i := 1) (oi := ?oi12) (x := ?vx12) ?ho12 (by kernel_rfl) (by kernel_rfl) (by kernel_rfl) (by kernel_rfl) (fun _ _ _ h => h) (Or.inl ⟨?hw12, ?hy12⟩) HS.out ?rest12
  case ho12 => (simp only [List.getElem?_toArray, List.getElem?_cons_succ, List.getElem?_cons_zero]; rfl)
  case hw12 => rfl
  case hy12 => (intro w' hSw; have j0 := hSw.k0; have j1 := hSw.k1; go_simp; (try with_reducible rfl))
  case rest12 =>
  (try simp only [Act.put, List.setIfInBounds_toArray, List.set_cons_zero, List.set_cons_succ])
  refine Goes.take (i := 2) (oi := ?oi13) (x := ?vx13) ?ho13 (by kernel_rfl) (by kernel_rfl) (by kernel_rfl) (by kernel_rfl) (fun _ _ _ h => h) (Or.inl ⟨?hw13, ?hy13⟩) HS.out ?rest13
  case ho13 => (simp only [List.getElem?_toArray, List.getElem?_cons_succ, List.getElem?_cons_zero]; rfl)
  case hw13 => rfl
  case hy13 => (intro w' hSw; have j0 := hSw.k0; have j1 := hSw.k1; go_simp; (try with_reducible rfl))
  case rest13 =>
  (try simp only [Act.put, List.setIfInBounds_toArray, List.set_cons_zero, List.set_cons_succ])
  refine Goes.take (i := 3) (oi := ?oi14) (x := ?vx14) ?ho14 (by kernel_rfl) (by kernel_rfl) (by kernel_rfl) (by kernel_rfl) (fun _ _ _ h => h) (Or.inl ⟨?hw14, ?hy14⟩) HS.out ?rest14
  case ho14 => (simp only [List.getElem?_toArray, List.getElem?_cons_succ, List.getElem?_cons_zero]; rfl)
  case hw14 => rfl
  case hy14 => (intro w' hSw; have j0 := hSw.k0; have j1 := hSw.k1; go_simp; (try with_reducible rfl))
  case rest14 =>
  (try simp only [Act.put, List.setIfInBounds_toArray, List.set_cons_zero, List.set_cons_succ])
  refine Goes.take (i := 4) (oi := ?oi15) (x := ?vx15) ?ho15 (by kernel_rfl) (by kernel_rfl) (by kernel_rfl) (by kernel_rfl) (fun _ _ _ h => h) (Or.inl ⟨?hw15, ?hy15⟩) HS.out ?rest15
  case ho15 => (simp only [List.getElem?_toArray, List.getElem?_cons_succ, List.getElem?_cons_zero]; rfl)
  case hw15 => rfl
  case hy15 => (intro w' hSw; have j0 := hSw.k0; have j1 := hSw.k1; go_simp; (try with_reducible rfl))
  case rest15 =>
  (try simp only [Act.put, List.setIfInBounds_toArray, List.set_cons_zero, List.set_cons_succ])
  refine Goes.all (rs := [5]) (by kernel_rfl) (by simp) ?_
  refine Ups.cons (i := 5) (o := ?oo16) ?ho16 (fun KK hKK => ?stp16) Ups.nil
  case ho16 => (simp only [List.getElem?_toArray, List.getElem?_cons_succ, List.getElem?_cons_zero]; rfl)
  case stp16 =>
  rw [if_pos (by rfl)]
  refine wp_store_mid 46 _ _ rfl _ _ Z (by rfl) (by rw [HZ.out]; rfl) HTH.out HIZ.out HONZ.out ?_
  refine hKK.out _ _ (Or.inr (SB2.sets (g := w.heap.size + 1) HS.out (by omega) (by omega) (by omega))) ?_
  clear hKK KK
  (try simp only [Act.put])
  refine Goes.take (i := 6) (oi := ?oi17) (x := ?vx17) ?ho17 (by kernel_rfl) (by kernel_rfl) (by kernel_rfl) (by kernel_rfl) (fun _ _ _ h => h) (Or.inl ⟨?hw17, ?hy17⟩) (SB2.sets (g := w.heap.size + 1) HS.out (by omega) (by omega) (by omega)) ?rest17
  case ho17 => (simp only [List.getElem?_toArray, List.getElem?_cons_succ, List.getElem?_cons_zero]; rfl)
  case hw17 => rfl
  case hy17 => (intro w' hSw; have j0 := hSw.k0; have j1 := hSw.k1; go_simp; (try with_reducible rfl))
  case rest17 =>
  (try simp only [Act.put, List.setIfInBounds_toArray, List.set_cons_zero, List.set_cons_succ])
  refine Goes.done (by kernel_rfl) ?_ _
  refine NoPanic.normal ?_
  have kF : Hid (∀ o, (WD.setCells (w.heap.size + 1) 0 Z.toList).cell? ⟨w.heap.size + 1, o, none⟩ = Z[o]?) := bx_setCells kR (by rw [HZS.out]; rfl)
  go_wp2_with fail
  refine bodyPost_ret (results_box2 Tryz.results42 _ _ _ Z _ _ (by rfl) (by rfl) kF.out Tryz.underlying46 rfl HIZ.out) rfl ⟨rfl, ?_⟩
  exact setCells_below (by omega) _ _ _ _ HS.out.bl
set_option maxHeartbeats 2000000 in
theorem iOpenOnS (A : Array Value) (p : Int) (k b off n cap : Nat) (cs16 : List Value) (st : Int) (hst : st ≠ 3) (w : World) (hA : A.size = 14) (hsl : A[13]? = some (.slice (some ⟨b, off, none⟩) n cap)) (hkn : (k : Int) < (n : Int)) (hlen : cs16.length = 16) (h1 : cs16[1]? = some (.int .i64 st)) (hone : ∀ v ∈ cs16, v.oneCell' = true) (HSB : ∀ W, Below w.heap.size w W → W.rangeAt b (off + k * 16) cs16)
    (HSO : ∀ W, Below w.heap.size w W → Calls Tryz.prog 13 #[.agg A, .int .i64 p] W fun e w' => e = .returned (.agg #[.int .i64 0, .int .i64 (k : Int)]) ∧ Below W.heap.size W w') :
    Calls Tryz.prog 42 #[.agg A, .int .i64 p] w fun e w' => e = .returned (.tuple #[.agg #[.int .i64 0, .int .i64 0, .bool false, .int .i64 0, .int .i64 0, .int .i64 0, .int .i64 0, .int .i64 0, .int .i64 0, .slice none 0 0, .int .i64 0, .int .i64 0, .slice none 0 0, .int .i64 0, .int .i64 0, .int .i64 0], .iface 128 (.agg #[.int .i64 10])]) ∧ Below w.heap.size w w' := by
  have hst' : (st != 3) = true := by simp [hst]
  clear hst
  have HONZ : Hid ((#[.int .i64 0, .int .i64 0, .bool false, .int .i64 0, .int .i64 0, .int .i64 0, .int .i64 0, .int .i64 0, .int .i64 0, .slice none 0 0, .int .i64 0, .int .i64 0, .slice none 0 0, .int .i64 0, .int .i64 0, .int .i64 0] : Array Value).all (·.oneCell') = true) := by show _ = _; simp [Value.oneCell']
  obtain ⟨Z, hZ⟩ : ∃ Z : Array Value, Z = #[.int .i64 0, .int .i64 0, .bool false, .int .i64 0, .int .i64 0, .int .i64 0, .int .i64 0, .int .i64 0, .int .i64 0, .slice none 0 0, .int .i64 0, .int .i64 0, .slice none 0 0, .int .i64 0, .int .i64 0, .int .i64 0] := ⟨_, rfl⟩
  have HZ : Hid _ := hZ
  have HIZ : Hid ((Tryz.prog.info? 46).map (·.size) = some Z.size) := by show _ = _; rw [hZ]; exact info_Sub16
  have hZs : Z.size = 16 := by rw [hZ]; rfl
  have HZS : Hid _ := hZs
  rw [← hZ] at HONZ
  rw [← hZ]
  clear hZ hZs
  have hk0 : (0 : Int) ≤ (k : Int) := by omega
  have x1 : cs16.toArray[1]? = some (.int .i64 st) := by rw [List.getElem?_toArray]; exact h1
  have HIX : Hid ((Tryz.prog.info? 46).map (·.size) = some cs16.length) := by show _ = _; rw [hlen]; exact (by kernel_rfl : (Tryz.prog.info? 46).map (·.size) = some 16)
  have HIX2 : Hid ((Tryz.prog.info? 46).map (·.size) = some cs16.toArray.size) := by show _ = _; rw [List.size_toArray]; exact HIX.out
  have HIX3 : Hid ((Tryz.prog.info? 46).map (·.size) = some cs16.toArray.toList.length) := HIX
  have HONX : Hid (cs16.toArray.all (·.oneCell') = true) := all_oneCell_toArray hone
  have HLX : Hid (cs16.toArray.size = 16) := by show _ = _; rw [List.size_toArray]; exact hlen
  have HSBX : Hid _ := HSB
  clear hlen h1 hone HSB
  have HRGX : Hid (∀ W : World, (∀ o, W.cell? ⟨w.heap.size, o, none⟩ = A[o]?) → Hid (W.rangeAt w.heap.size 0 A.toList)) := fun W hk => bx_range hk
  have HI : Hid ((Tryz.prog.info? 29).map (·.size) = some A.toList.length) := by show _ = _; rw [Array.length_toList, hA]; exact (by kernel_rfl : (Tryz.prog.info? 29).map (·.size) = some 14)
  clear hA
  go_enter Tryz.func42, Tryz.ntmps42
  go_upto_region 1 with fail
  have HRG := HRGX.out ((w.alloc (.cells A 29)).alloc (.cells #[.int .i64 0, .int .i64 0, .bool false, .int .i64 0, .int .i64 0, .int .i64 0, .int .i64 0, .int .i64 0, .int .i64 0, .slice none 0 0, .int .i64 0, .int .i64 0, .slice none 0 0, .int .i64 0, .int .i64 0, .int .i64 0] 46)) (fun o => by simp [go_sem])
  go_wp2_with (refine wpList_load_mid rfl 29 _ rfl _ _ (by rfl) A.toList _ HRG.out Tryz.underlying29 rfl HI.out ?_)
  refine (HSO _ (by go_grown)).mono ?_
  rintro e w1 ⟨rfl, hb⟩
  obtain ⟨k0, kR, fR, hb1, z0⟩ := two_boxes hb
  have HB : Hid (Below w.heap.size w w1) := hb1
  clear hb hb1 HRG HSO
  go_upto_region 2 with fail
  have kI : ∀ o, (w1.alloc (.cells #[.int .i64 0, .int .i64 (k : Int)] 48)).cell? ⟨w1.heap.size, o, none⟩ = (#[.int .i64 0, .int .i64 (k : Int)] : Array Value)[o]? := bx_al w1 _ _
  have hb2 : Below w1.heap.size w1 (w1.alloc (.cells #[.int .i64 0, .int .i64 (k : Int)] 48)) := (Below.refl _ _).alloc (Nat.le_refl _) _
  have zI : w1.heap.size < (w1.alloc (.cells #[.int .i64 0, .int .i64 (k : Int)] 48)).heap.size := by simp
  generalize hW2 : (w1.alloc (.cells #[.int .i64 0, .int .i64 (k : Int)] 48)) = W2 at kI hb2 zI ⊢
  clear hW2
  replace k0 := bx_below k0 (by omega) hb2
  replace kR := bx_below kR z0 hb2
  replace fR := bxF fR hb2 z0
  replace HB : Hid (Below w.heap.size w W2) := HB.out.trans (hb2.mono HB.out.size)
  clear hb2
  obtain ⟨iB, hiB⟩ : ∃ iB, iB = w1.heap.size := ⟨_, rfl⟩
  rw [← hiB] at z0 zI kI ⊢
  clear hiB
  have HG : Hid (W2.rangeAt b (off + k * 16) cs16) := HSBX.out _ HB.out
  have HTX : Hid ((W2.alloc (.cells #[.int .i64 0, .int .i64 0, .bool false, .int .i64 0, .int .i64 0, .int .i64 0, .int .i64 0, .int .i64 0, .int .i64 0, .slice none 0 0, .int .i64 0, .int .i64 0, .slice none 0 0, .int .i64 0, .int .i64 0, .int .i64 0] 46)).there W2.heap.size 0 cs16.toArray.size) := bx_there (bx_al _ _ _) (fx_al _ _ _) (by rw [HLX.out]; rfl)
  have HW3 : Hid (Below W2.heap.size W2 ((W2.alloc (.cells #[.int .i64 0, .int .i64 0, .bool false, .int .i64 0, .int .i64 0, .int .i64 0, .int .i64 0, .int .i64 0, .int .i64 0, .slice none 0 0, .int .i64 0, .int .i64 0, .slice none 0 0, .int .i64 0, .int .i64 0, .int .i64 0] 46)).setCells W2.heap.size 0 cs16.toArray.toList) ∧ W2.heap.size < ((W2.alloc (.cells #[.int .i64 0, .int .i64 0, .bool false, .int .i64 0, .int .i64 0, .int .i64 0, .int .i64 0, .int .i64 0, .int .i64 0, .slice none 0 0, .int .i64 0, .int .i64 0, .slice none 0 0, .int .i64 0, .int .i64 0, .int .i64 0] 46)).setCells W2.heap.size 0 cs16.toArray.toList).heap.size ∧ (∀ o, ((W2.alloc (.cells #[.int .i64 0, .int .i64 0, .bool false, .int .i64 0, .int .i64 0, .int .i64 0, .int .i64 0, .int .i64 0, .int .i64 0, .slice none 0 0, .int .i64 0, .int .i64 0, .slice none 0 0, .int .i64 0, .int .i64 0, .int .i64 0] 46)).setCells W2.heap.size 0 cs16.toArray.toList).cell? ⟨W2.heap.size, o, none⟩ = cs16.toArray[o]?)) := ⟨setCells_below (Nat.le_refl _) _ _ _ _ ((Below.refl _ _).alloc (Nat.le_refl _) _), by rw [setCells_size]; simp, bx_setCells (bx_al W2 _ _) (by rw [HLX.out]; rfl)⟩
  go_upto_region 5 with (first | (refine wpList_load_mid rfl 46 _ rfl _ _ (by rfl) cs16 _ HG.out Tryz.underlying46 rfl HIX.out ?_) | (refine wpList_store_mid rfl 46 _ _ rfl _ _ cs16.toArray (by rfl) (by rfl) HTX.out HIX2.out HONX.out ?_))
  generalize hW3 : ((W2.alloc (.cells #[.int .i64 0, .int .i64 0, .bool false, .int .i64 0, .int .i64 0, .int .i64 0, .int .i64 0, .int .i64 0, .int .i64 0, .slice none 0 0, .int .i64 0, .int .i64 0, .slice none 0 0, .int .i64 0, .int .i64 0, .int .i64 0] 46)).setCells W2.heap.size 0 cs16.toArray.toList) = W3 at HW3 ⊢
  clear hW3 HTX HG HSBX
  obtain ⟨hb3, z3, kX⟩ := HW3.out
  replace kR := bx_below kR (by omega) hb3
  replace fR := bxF fR hb3 (by omega)
  replace HB : Hid (Below w.heap.size w W3) := HB.out.trans (hb3.mono HB.out.size)
  clear hb3 HW3 kI zI k0
  obtain ⟨xB, hxB⟩ : ∃ xB, xB = W2.heap.size := ⟨_, rfl⟩
  rw [← hxB] at z3 kX ⊢
  clear hxB
  have HTH : Hid (W3.there (w.heap.size + 1) 0 Z.size) := bx_there kR fR (by rw [HZS.out]; rfl)
  have kF : Hid (∀ o, (W3.setCells (w.heap.size + 1) 0 Z.toList).cell? ⟨w.heap.size + 1, o, none⟩ = Z[o]?) := bx_setCells kR (by rw [HZS.out]; rfl)
  go_wp2_with (refine wpList_store_mid rfl 46 _ _ rfl _ _ Z (by rfl) (by rw [HZ.out]; rfl) HTH.out HIZ.out HONZ.out ?_)
  refine bodyPost_ret (results_box2 Tryz.results42 _ _ _ Z _ _ (by rfl) (by rfl) kF.out Tryz.underlying46 rfl HIZ.out) rfl ⟨rfl, ?_⟩
  exact setCells_below (by omega) _ _ _ _ HB.out
set_option maxHeartbeats 2000000 in
theorem iOpenOnO (A : Array Value) (p : Int) (k b off n cap : Nat) (cs16 : List Value) (st : Int) (hst : st = 3) (w : World) (hA : A.size = 14) (hsl : A[13]? = some (.slice (some ⟨b, off, none⟩) n cap)) (hkn : (k : Int) < (n : Int)) (hlen : cs16.length = 16) (h1 : cs16[1]? = some (.int .i64 st)) (hone : ∀ v ∈ cs16, v.oneCell' = true) (HSB : ∀ W, Below w.heap.size w W → W.rangeAt b (off + k * 16) cs16)
    (HSO : ∀ W, Below w.heap.size w W → Calls Tryz.prog 13 #[.agg A, .int .i64 p] W fun e w' => e = .returned (.agg #[.int .i64 0, .int .i64 (k : Int)]) ∧ Below W.heap.size W w') :
    Calls Tryz.prog 42 #[.agg A, .int .i64 p] w fun e w' => e = .returned (.tuple #[.agg cs16.toArray, .nilIface]) ∧ Below w.heap.size w w' := by
  have hk0 : (0 : Int) ≤ (k : Int) := by omega
  have x1 : cs16.toArray[1]? = some (.int .i64 st) := by rw [List.getElem?_toArray]; exact h1
  have HIX : Hid ((Tryz.prog.info? 46).map (·.size) = some cs16.length) := by show _ = _; rw [hlen]; exact (by kernel_rfl : (Tryz.prog.info? 46).map (·.size) = some 16)
  have HIX2 : Hid ((Tryz.prog.info? 46).map (·.size) = some cs16.toArray.size) := by show _ = _; rw [List.size_toArray]; exact HIX.out
  have HIX3 : Hid ((Tryz.prog.info? 46).map (·.size) = some cs16.toArray.toList.length) := HIX
  have HONX : Hid (cs16.toArray.all (·.oneCell') = true) := all_oneCell_toArray hone
  have HLX : Hid (cs16.toArray.size = 16) := by show _ = _; rw [List.size_toArray]; exact hlen
  have HSBX : Hid _ := HSB
  clear hlen h1 hone HSB
  subst hst
  have HRGX : Hid (∀ W : World, (∀ o, W.cell? ⟨w.heap.size, o, none⟩ = A[o]?) → Hid (W.rangeAt w.heap.size 0 A.toList)) := fun W hk => bx_range hk
  have HI : Hid ((Tryz.prog.info? 29).map (·.size) = some A.toList.length) := by show _ = _; rw [Array.length_toList, hA]; exact (by kernel_rfl : (Tryz.prog.info? 29).map (·.size) = some 14)
  clear hA
  go_enter Tryz.func42, Tryz.ntmps42
  go_upto_region 1 with fail
  have HRG := HRGX.out ((w.alloc (.cells A 29)).alloc (.cells #[.int .i64 0, .int .i64 0, .bool false, .int .i64 0, .int .i64 0, .int .i64 0, .int .i64 0, .int .i64 0, .int .i64 0, .slice none 0 0, .int .i64 0, .int .i64 0, .slice none 0 0, .int .i64 0, .int .i64 0, .int .i64 0] 46)) (fun o => by simp [go_sem])
  go_wp2_with (refine wpList_load_mid rfl 29 _ rfl _ _ (by rfl) A.toList _ HRG.out Tryz.underlying29 rfl HI.out ?_)
  refine (HSO _ (by go_grown)).mono ?_
  rintro e w1 ⟨rfl, hb⟩
  obtain ⟨k0, kR, fR, hb1, z0⟩ := two_boxes hb
  have HB : Hid (Below w.heap.size w w1) := hb1
  clear hb hb1 HRG HSO
  go_upto_region 2 with fail
  have kI : ∀ o, (w1.alloc (.cells #[.int .i64 0, .int .i64 (k : Int)] 48)).cell? ⟨w1.heap.size, o, none⟩ = (#[.int .i64 0, .int .i64 (k : Int)] : Array Value)[o]? := bx_al w1 _ _
  have hb2 : Below w1.heap.size w1 (w1.alloc (.cells #[.int .i64 0, .int .i64 (k : Int)] 48)) := (Below.refl _ _).alloc (Nat.le_refl _) _
  have zI : w1.heap.size < (w1.alloc (.cells #[.int .i64 0, .int .i64 (k : Int)] 48)).heap.size := by simp
  generalize hW2 : (w1.alloc (.cells #[.int .i64 0, .int .i64 (k : Int)] 48)) = W2 at kI hb2 zI ⊢
  clear hW2
  replace k0 := bx_below k0 (by omega) hb2
  replace kR := bx_below kR z0 hb2
  replace fR := bxF fR hb2 z0
  replace HB : Hid (Below w.heap.size w W2) := HB.out.trans (hb2.mono HB.out.size)
  clear hb2
  obtain ⟨iB, hiB⟩ : ∃ iB, iB = w1.heap.size := ⟨_, rfl⟩
  rw [← hiB] at z0 zI kI ⊢
  clear hiB
  have HG : Hid (W2.rangeAt b (off + k * 16) cs16) := HSBX.out _ HB.out
  have HTX : Hid ((W2.alloc (.cells #[.int .i64 0, .int .i64 0, .bool false, .int .i64 0, .int .i64 0, .int .i64 0, .int .i64 0, .int .i64 0, .int .i64 0, .slice none 0 0, .int .i64 0, .int .i64 0, .slice none 0 0, .int .i64 0, .int .i64 0, .int .i64 0] 46)).there W2.heap.size 0 cs16.toArray.size) := bx_there (bx_al _ _ _) (fx_al _ _ _) (by rw [HLX.out]; rfl)
  have HW3 : Hid (Below W2.heap.size W2 ((W2.alloc (.cells #[.int .i64 0, .int .i64 0, .bool false, .int .i64 0, .int .i64 0, .int .i64 0, .int .i64 0, .int .i64 0, .int .i64 0, .slice none 0 0, .int .i64 0, .int .i64 0, .slice none 0 0, .int .i64 0, .int .i64 0, .int .i64 0] 46)).setCells W2.heap.size 0 cs16.toArray.toList) ∧ W2.heap.size < ((W2.alloc (.cells #[.int .i64 0, .int .i64 0, .bool false, .int .i64 0, .int .i64 0, .int .i64 0, .int .i64 0, .int .i64 0, .int .i64 0, .slice none 0 0, .int .i64 0, .int .i64 0, .slice none 0 0, .int .i64 0, .int .i64 0, .int .i64 0] 46)).setCells W2.heap.size 0 cs16.toArray.toList).heap.size ∧ (∀ o, ((W2.alloc (.cells #[.int .i64 0, .int .i64 0, .bool false, .int .i64 0, .int .i64 0, .int .i64 0, .int .i64 0, .int .i64 0, .int .i64 0, .slice none 0 0, .int .i64 0, .int .i64 0, .slice none 0 0, .int .i64 0, .int .i64 0, .int .i64 0] 46)).setCells W2.heap.size 0 cs16.toArray.toList).cell? ⟨W2.heap.size, o, none⟩ = cs16.toArray[o]?)) := ⟨setCells_below (Nat.le_refl _) _ _ _ _ ((Below.refl _ _).alloc (Nat.le_refl _) _), by rw [setCells_size]; simp, bx_setCells (bx_al W2 _ _) (by rw [HLX.out]; rfl)⟩
  go_upto_region 5 with (first | (refine wpList_load_mid rfl 46 _ rfl _ _ (by rfl) cs16 _ HG.out Tryz.underlying46 rfl HIX.out ?_) | (refine wpList_store_mid rfl 46 _ _ rfl _ _ cs16.toArray (by rfl) (by rfl) HTX.out HIX2.out HONX.out ?_))
  generalize hW3 : ((W2.alloc (.cells #[.int .i64 0, .int .i64 0, .bool false, .int .i64 0, .int .i64 0, .int .i64 0, .int .i64 0, .int .i64 0, .int .i64 0, .slice none 0 0, .int .i64 0, .int .i64 0, .slice none 0 0, .int .i64 0, .int .i64 0, .int .i64 0] 46)).setCells W2.heap.size 0 cs16.toArray.toList) = W3 at HW3 ⊢
  clear hW3 HTX HG HSBX
  obtain ⟨hb3, z3, kX⟩ := HW3.out
  replace kR := bx_below kR (by omega) hb3
  replace fR := bxF fR hb3 (by omega)
  replace HB : Hid (Below w.heap.size w W3) := HB.out.trans (hb3.mono HB.out.size)
  clear hb3 HW3 kI zI k0
  obtain ⟨xB, hxB⟩ : ∃ xB, xB = W2.heap.size := ⟨_, rfl⟩
  rw [← hxB] at z3 kX ⊢
  clear hxB
  have HTH : Hid (W3.there (w.heap.size + 1) 0 cs16.toArray.size) := bx_there kR fR (by rw [HLX.out]; rfl)
  have kF : Hid (∀ o, (W3.setCells (w.heap.size + 1) 0 cs16.toArray.toList).cell? ⟨w.heap.size + 1, o, none⟩ = cs16.toArray[o]?) := bx_setCells kR (by rw [HLX.out]; rfl)
  go_wp2_with (first | (refine wpList_load_mid rfl 46 _ rfl _ _ (by rfl) cs16.toArray.toList _ (bx_range kX) Tryz.underlying46 rfl HIX3.out ?_) | (refine wpList_store_mid rfl 46 _ _ rfl _ _ cs16.toArray (by rfl) (by rfl) HTH.out HIX2.out HONX.out ?_))
  refine bodyPost_ret (results_box2 Tryz.results42 _ _ _ cs16.toArray _ _ (by rfl) (by rfl) kF.out Tryz.underlying46 rfl HIX2.out) rfl ⟨rfl, ?_⟩
  exact setCells_below (by omega) _ _ _ _ HB.out
set_option maxHeartbeats 4000000 in
theorem iTellSegment (c : DConn) (A : Array Value) (p : Int) (w : World) (B : Nat) (hr : shConn.Rd w B c A.toList) (hB : B ≤ w.heap.size) (hT : totConn c ≤ 1048576) (hE : ErrLaid w) :
    Calls Tryz.prog 11 #[.agg A, .int .i64 p] w fun e w' => ∃ N : Array Value, e = .returned (.agg N) ∧ Own w' w.heap.size w'.heap.size shSR (telV c p) N.toList ∧ Below w.heap.size w w' := by
  suffices H : Calls Tryz.prog 11 #[.agg A, .int .i64 p] w fun e w' => e = .returned (.agg (srA (telV c p))) ∧ Below w.heap.size w w' from
    H.mono (by rintro e w' ⟨rfl, hb⟩; exact ⟨_, rfl, own_SR (telV_wf hr hT) (telV_nil c p), hb⟩)
  have hzA : A.size = 14 := rd_size hr
  have HI : Hid ((Tryz.prog.info? 29).map (·.size) = some A.toList.length) := by show _ = _; rw [Array.length_toList, hzA]; exact (by kernel_rfl : (Tryz.prog.info? 29).map (·.size) = some 14)
  have HRGX : Hid (∀ W : World, (∀ o, W.cell? ⟨w.heap.size, o, none⟩ = A[o]?) → Hid (W.rangeAt w.heap.size 0 A.toList)) := fun W hk => bx_range hk
  have HSO : ∀ W, Below w.heap.size w W → Calls Tryz.prog 13 #[.agg A, .int .i64 p] W fun e w' => e = .returned (.agg #[.int .i64 (subOnC c p), .int .i64 (subOnV c p)]) ∧ Below W.heap.size W w' := fun W hW => iSubOn c A p W B (Sh.Rd.below hr hB hW) (Nat.le_trans hB hW.size) hT
  have HCO : Hid (∀ (C : Int) W, Below w.heap.size w W → Calls Tryz.prog 43 #[.iface 128 (.agg #[.int .i64 C])] W fun e w' => e = .returned (.int .i64 C) ∧ Below W.heap.size W w') := fun C W hW => dCode C W (ErrLaid.below hE hW)
  obtain ⟨N, hN⟩ : ∃ N : Array Value, N = srA (telV c p) := ⟨_, rfl⟩
  rw [← hN]
  have hNz : N.size = 13 := by rw [hN]; rfl
  have HIN : Hid ((Tryz.prog.info? 35).map (·.size) = some N.size) := by show _ = _; rw [hNz]; exact (by kernel_rfl : (Tryz.prog.info? 35).map (·.size) = some 13)
  have HONE : Hid (N.all (·.oneCell') = true) := by show _ = _; rw [hN]; simp [srA, Value.oneCell']
  have HNZ : Hid _ := hNz
  clear hNz
  by_cases hC : subOnC c p = 0
  case neg =>
    have HOP : Hid (∀ W, Below w.heap.size w W → Calls Tryz.prog 42 #[.agg A, .int .i64 p] W fun e w' => e = .returned (.tuple #[.agg #[.int .i64 0, .int .i64 0, .bool false, .int .i64 0, .int .i64 0, .int .i64 0, .int .i64 0, .int .i64 0, .int .i64 0, .slice none 0 0, .int .i64 0, .int .i64 0, .slice none 0 0, .int .i64 0, .int .i64 0, .int .i64 0], .iface 128 (.agg #[.int .i64 (subOnC c p)])]) ∧ Below W.heap.size W w') := fun W hW => iOpenOnC A p _ _ hC W hzA (fun W' hW' => HSO W' (hW.trans (hW'.mono hW.size)))
    have hNN : N = #[.int .i64 (subOnC c p), .int .i64 0, .int .i64 0, .bool false, .bool false, .bool false, .int .i64 0, .int .i64 0, .int .i64 0, .int .i64 0, .int .i64 0, .int .i64 0, .slice none 0 0] := by rw [hN, telV_code hC]; rfl
    have HN : Hid _ := hNN
    clear hN hNN hr hC HSO hzA hE
    generalize subOnC c p = C at *
    obtain ⟨X, hX⟩ : ∃ X : Array Value, X = #[.int .i64 0, .int .i64 0, .bool false, .int .i64 0, .int .i64 0, .int .i64 0, .int .i64 0, .int .i64 0, .int .i64 0, .slice none 0 0, .int .i64 0, .int .i64 0, .slice none 0 0, .int .i64 0, .int .i64 0, .int .i64 0] := ⟨_, rfl⟩
    have HLX : Hid (X.size = 16) := by show _ = _; rw [hX]; rfl
    have HIX2 : Hid ((Tryz.prog.info? 46).map (·.size) = some X.size) := by show _ = _; rw [hX]; exact info_Sub16
    have HONX : Hid (X.all (·.oneCell') = true) := by show _ = _; rw [hX]; simp [Value.oneCell']
    rw [← hX] at HOP
    clear hX
    go_enter Tryz.func11, Tryz.ntmps11
    go_upto_region 1 with fail
    have HRG := HRGX.out ((w.alloc (.cells A 29)).alloc (.cells #[.int .i64 0, .int .i64 0, .int .i64 0, .bool false, .bool false, .bool false, .int .i64 0, .int .i64 0, .int .i64 0, .int .i64 0, .int .i64 0, .int .i64 0, .slice none 0 0] 35)) (fun o => by simp [go_sem])
    go_wp2_with (refine wpList_load_mid rfl 29 _ rfl _ _ (by rfl) A.toList _ HRG.out Tryz.underlying29 rfl HI.out ?_)
    refine (HOP.out _ (by go_grown)).mono ?_
    rintro e w1 ⟨rfl, hb⟩
    obtain ⟨k0, kR, fR, hb1, z0⟩ := two_boxes hb
    have HB : Hid (Below w.heap.size w w1) := hb1
    clear hb hb1 HRG HOP
    have HTX : Hid ((w1.alloc (.cells #[.int .i64 0, .int .i64 0, .bool false, .int .i64 0, .int .i64 0, .int .i64 0, .int .i64 0, .int .i64 0, .int .i64 0, .slice none 0 0, .int .i64 0, .int .i64 0, .slice none 0 0, .int .i64 0, .int .i64 0, .int .i64 0] 46)).there w1.heap.size 0 X.size) := bx_there (bx_al _ _ _) (fx_al _ _ _) (by rw [HLX.out]; rfl)
    have HW3 : Hid (Below w1.heap.size w1 ((w1.alloc (.cells #[.int .i64 0, .int .i64 0, .bool false, .int .i64 0, .int .i64 0, .int .i64 0, .int .i64 0, .int .i64 0, .int .i64 0, .slice none 0 0, .int .i64 0, .int .i64 0, .slice none 0 0, .int .i64 0, .int .i64 0, .int .i64 0] 46)).setCells w1.heap.size 0 X.toList) ∧ w1.heap.size < ((w1.alloc (.cells #[.int .i64 0, .int .i64 0, .bool false, .int .i64 0, .int .i64 0, .int .i64 0, .int .i64 0, .int .i64 0, .int .i64 0, .slice none 0 0, .int .i64 0, .int .i64 0, .slice none 0 0, .int .i64 0, .int .i64 0, .int .i64 0] 46)).setCells w1.heap.size 0 X.toList).heap.size ∧ (∀ o, ((w1.alloc (.cells #[.int .i64 0, .int .i64 0, .bool false, .int .i64 0, .int .i64 0, .int .i64 0, .int .i64 0, .int .i64 0, .int .i64 0, .slice none 0 0, .int .i64 0, .int .i64 0, .slice none 0 0, .int .i64 0, .int .i64 0, .int .i64 0] 46)).setCells w1.heap.size 0 X.toList).cell? ⟨w1.heap.size, o, none⟩ = X[o]?)) := ⟨setCells_below (Nat.le_refl _) _ _ _ _ ((Below.refl _ _).alloc (Nat.le_refl _) _), by rw [setCells_size]; simp, bx_setCells (bx_al w1 _ _) (by rw [HLX.out]; rfl)⟩
    go_upto_region 2 with (refine wpList_store_mid rfl 46 _ _ rfl _ _ X (by rfl) (by rfl) HTX.out HIX2.out HONX.out ?_)
    generalize hW3 : ((w1.alloc (.cells #[.int .i64 0, .int .i64 0, .bool false, .int .i64 0, .int .i64 0, .int .i64 0, .int .i64 0, .int .i64 0, .int .i64 0, .slice none 0 0, .int .i64 0, .int .i64 0, .slice none 0 0, .int .i64 0, .int .i64 0, .int .i64 0] 46)).setCells w1.heap.size 0 X.toList) = W3 at HW3 ⊢
    clear hW3 HTX
    obtain ⟨hb3, z3, kX⟩ := HW3.out
    replace k0 := bx_below k0 (by omega) hb3
    replace kR := bx_below kR z0 hb3
    replace fR := bxF fR hb3 z0
    replace HB : Hid (Below w.heap.size w W3) := HB.out.trans (hb3.mono HB.out.size)
    have zz3 : w.heap.size + 1 < W3.heap.size := Nat.lt_of_lt_of_le z0 hb3.size
    clear hb3 HW3 z0
    obtain ⟨xB, hxB⟩ : ∃ xB, xB = w1.heap.size := ⟨_, rfl⟩
    rw [← hxB] at z3 kX ⊢
    clear hxB
    have HTH : Hid (W3.there (w.heap.size + 1) 0 N.size) := bx_there kR fR (by rw [HNZ.out]; rfl)
    have kF : Hid (∀ o, (W3.setCells (w.heap.size + 1) 0 N.toList).cell? ⟨w.heap.size + 1, o, none⟩ = N[o]?) := bx_setCells kR (by rw [HNZ.out]; rfl)
    go_wp2_with fail
    refine (HCO.out C _ HB.out).mono ?_
    rintro e W4 ⟨rfl, hb⟩
    replace kR := bx_below kR zz3 hb
    replace fR := bxF fR hb zz3
    replace HB : Hid (Below w.heap.size w W4) := HB.out.trans (hb.mono HB.out.size)
    clear hb HTH kF HCO
    have HTH : Hid (W4.there (w.heap.size + 1) 0 N.size) := bx_there kR fR (by rw [HNZ.out]; rfl)
    have kF : Hid (∀ o, (W4.setCells (w.heap.size + 1) 0 N.toList).cell? ⟨w.heap.size + 1, o, none⟩ = N[o]?) := bx_setCells kR (by rw [HNZ.out]; rfl)
    go_wp2_with (refine wpList_store_mid rfl 35 _ _ rfl _ _ N (by rfl) (by rw [HN.out]; rfl) HTH.out HIN.out HONE.out ?_)
    refine bodyPost_ret (results_box Tryz.results11 _ _ _ N _ (by rfl) kF.out Tryz.underlying35 rfl HIN.out) rfl ⟨rfl, ?_⟩
    exact setCells_below (by omega) _ _ _ _ HB.out
  have hFF := subOn_ok hC
  obtain ⟨k, hk, hkl, hV, hAV⟩ := telV_at hC
  obtain ⟨cs16, b, off, n, cap, hsl, hbB, hlen, hrg, hrs, hln⟩ := sub_of hr hkl
  have hkn : (k : Int) < (n : Int) := by omega
  obtain ⟨x0, x1, x2, x3, x4, x6, x10⟩ := sub_cells hrs
  rw [hC, hV] at HSO
  by_cases hst : c.subs[k].2.1 = 3
  case neg =>
    have HOP : Hid (∀ W, Below w.heap.size w W → Calls Tryz.prog 42 #[.agg A, .int .i64 p] W fun e w' => e = .returned (.tuple #[.agg #[.int .i64 0, .int .i64 0, .bool false, .int .i64 0, .int .i64 0, .int .i64 0, .int .i64 0, .int .i64 0, .int .i64 0, .slice none 0 0, .int .i64 0, .int .i64 0, .slice none 0 0, .int .i64 0, .int .i64 0, .int .i64 0], .iface 128 (.agg #[.int .i64 10])]) ∧ Below W.heap.size W w') := fun W hW => iOpenOnS A p k b off n cap cs16 _ hst W hzA hsl hkn hlen x1 (rd_one _ _ _ hrs) (fun W' hW' => range_below hrg (hW.trans (hW'.mono hW.size)) (by omega)) (fun W' hW' => HSO W' (hW.trans (hW'.mono hW.size)))
    have hNN : N = #[.int .i64 10, .int .i64 0, .int .i64 0, .bool false, .bool false, .bool false, .int .i64 0, .int .i64 0, .int .i64 0, .int .i64 0, .int .i64 0, .int .i64 0, .slice none 0 0] := by rw [hN, hAV, if_neg hst]; rfl
    have HN : Hid _ := hNN
    clear hN hNN hr hC HSO hzA hE hFF hV hAV hlen hrg hrs hln hkn x0 x1 x2 x3 x4 x6 x10 hst hk hsl
    obtain ⟨X, hX⟩ : ∃ X : Array Value, X = #[.int .i64 0, .int .i64 0, .bool false, .int .i64 0, .int .i64 0, .int .i64 0, .int .i64 0, .int .i64 0, .int .i64 0, .slice none 0 0, .int .i64 0, .int .i64 0, .slice none 0 0, .int .i64 0, .int .i64 0, .int .i64 0] := ⟨_, rfl⟩
    have HLX : Hid (X.size = 16) := by show _ = _; rw [hX]; rfl
    have HIX2 : Hid ((Tryz.prog.info? 46).map (·.size) = some X.size) := by show _ = _; rw [hX]; exact info_Sub16
    have HONX : Hid (X.all (·.oneCell') = true) := by show _ = _; rw [hX]; simp [Value.oneCell']
    rw [← hX] at HOP
    clear hX
    go_enter Tryz.func11, Tryz.ntmps11
    go_upto_region 1 with fail
    have HRG := HRGX.out ((w.alloc (.cells A 29)).alloc (.cells #[.int .i64 0, .int .i64 0, .int .i64 0, .bool false, .bool false, .bool false, .int .i64 0, .int .i64 0, .int .i64 0, .int .i64 0, .int .i64 0, .int .i64 0, .slice none 0 0] 35)) (fun o => by simp [go_sem])
    go_wp2_with (refine wpList_load_mid rfl 29 _ rfl _ _ (by rfl) A.toList _ HRG.out Tryz.underlying29 rfl HI.out ?_)
    refine (HOP.out _ (by go_grown)).mono ?_
    rintro e w1 ⟨rfl, hb⟩
    obtain ⟨k0, kR, fR, hb1, z0⟩ := two_boxes hb
    have HB : Hid (Below w.heap.size w w1) := hb1
    clear hb hb1 HRG HOP
    have HTX : Hid ((w1.alloc (.cells #[.int .i64 0, .int .i64 0, .bool false, .int .i64 0, .int .i64 0, .int .i64 0, .int .i64 0, .int .i64 0, .int .i64 0, .slice none 0 0, .int .i64 0, .int .i64 0, .slice none 0 0, .int .i64 0, .int .i64 0, .int .i64 0] 46)).there w1.heap.size 0 X.size) := bx_there (bx_al _ _ _) (fx_al _ _ _) (by rw [HLX.out]; rfl)
    have HW3 : Hid (Below w1.heap.size w1 ((w1.alloc (.cells #[.int .i64 0, .int .i64 0, .bool false, .int .i64 0, .int .i64 0, .int .i64 0, .int .i64 0, .int .i64 0, .int .i64 0, .slice none 0 0, .int .i64 0, .int .i64 0, .slice none 0 0, .int .i64 0, .int .i64 0, .int .i64 0] 46)).setCells w1.heap.size 0 X.toList) ∧ w1.heap.size < ((w1.alloc (.cells #[.int .i64 0, .int .i64 0, .bool false, .int .i64 0, .int .i64 0, .int .i64 0, .int .i64 0, .int .i64 0, .int .i64 0, .slice none 0 0, .int .i64 0, .int .i64 0, .slice none 0 0, .int .i64 0, .int .i64 0, .int .i64 0] 46)).setCells w1.heap.size 0 X.toList).heap.size ∧ (∀ o, ((w1.alloc (.cells #[.int .i64 0, .int .i64 0, .bool false, .int .i64 0, .int .i64 0, .int .i64 0, .int .i64 0, .int .i64 0, .int .i64 0, .slice none 0 0, .int .i64 0, .int .i64 0, .slice none 0 0, .int .i64 0, .int .i64 0, .int .i64 0] 46)).setCells w1.heap.size 0 X.toList).cell? ⟨w1.heap.size, o, none⟩ = X[o]?)) := ⟨setCells_below (Nat.le_refl _) _ _ _ _ ((Below.refl _ _).alloc (Nat.le_refl _) _), by rw [setCells_size]; simp, bx_setCells (bx_al w1 _ _) (by rw [HLX.out]; rfl)⟩
    go_upto_region 2 with (refine wpList_store_mid rfl 46 _ _ rfl _ _ X (by rfl) (by rfl) HTX.out HIX2.out HONX.out ?_)
    generalize hW3 : ((w1.alloc (.cells #[.int .i64 0, .int .i64 0, .bool false, .int .i64 0, .int .i64 0, .int .i64 0, .int .i64 0, .int .i64 0, .int .i64 0, .slice none 0 0, .int .i64 0, .int .i64 0, .slice none 0 0, .int .i64 0, .int .i64 0, .int .i64 0] 46)).setCells w1.heap.size 0 X.toList) = W3 at HW3 ⊢
    clear hW3 HTX
    obtain ⟨hb3, z3, kX⟩ := HW3.out
    replace k0 := bx_below k0 (by omega) hb3
    replace kR := bx_below kR z0 hb3
    replace fR := bxF fR hb3 z0
    replace HB : Hid (Below w.heap.size w W3) := HB.out.trans (hb3.mono HB.out.size)
    have zz3 : w.heap.size + 1 < W3.heap.size := Nat.lt_of_lt_of_le z0 hb3.size
    clear hb3 HW3 z0
    obtain ⟨xB, hxB⟩ : ∃ xB, xB = w1.heap.size := ⟨_, rfl⟩
    rw [← hxB] at z3 kX ⊢
    clear hxB
    have HTH : Hid (W3.there (w.heap.size + 1) 0 N.size) := bx_there kR fR (by rw [HNZ.out]; rfl)
    have kF : Hid (∀ o, (W3.setCells (w.heap.size + 1) 0 N.toList).cell? ⟨w.heap.size + 1, o, none⟩ = N[o]?) := bx_setCells kR (by rw [HNZ.out]; rfl)
    go_wp2_with fail
    refine (HCO.out 10 _ HB.out).mono ?_
    rintro e W4 ⟨rfl, hb⟩
    replace kR := bx_below kR zz3 hb
    replace fR := bxF fR hb zz3
    replace HB : Hid (Below w.heap.size w W4) := HB.out.trans (hb.mono HB.out.size)
    clear hb HTH kF HCO
    have HTH : Hid (W4.there (w.heap.size + 1) 0 N.size) := bx_there kR fR (by rw [HNZ.out]; rfl)
    have kF : Hid (∀ o, (W4.setCells (w.heap.size + 1) 0 N.toList).cell? ⟨w.heap.size + 1, o, none⟩ = N[o]?) := bx_setCells kR (by rw [HNZ.out]; rfl)
    go_wp2_with (refine wpList_store_mid rfl 35 _ _ rfl _ _ N (by rfl) (by rw [HN.out]; rfl) HTH.out HIN.out HONE.out ?_)
    refine bodyPost_ret (results_box Tryz.results11 _ _ _ N _ (by rfl) kF.out Tryz.underlying35 rfl HIN.out) rfl ⟨rfl, ?_⟩
    exact setCells_below (by omega) _ _ _ _ HB.out
  have HOP : Hid (∀ W, Below w.heap.size w W → Calls Tryz.prog 42 #[.agg A, .int .i64 p] W fun e w' => e = .returned (.tuple #[.agg cs16.toArray, .nilIface]) ∧ Below W.heap.size W w') := fun W hW => iOpenOnO A p k b off n cap cs16 _ hst W hzA hsl hkn hlen x1 (rd_one _ _ _ hrs) (fun W' hW' => range_below hrg (hW.trans (hW'.mono hW.size)) (by omega)) (fun W' hW' => HSO W' (hW.trans (hW'.mono hW.size)))
  have HAO : Hid (∀ W, Below w.heap.size w W → Calls Tryz.prog 44 #[.agg A, .agg cs16.toArray] W fun e w' => e = .returned (.agg (segA (telS c c.subs[k]))) ∧ Below W.heap.size W w') := fun W hW => iKnownOf c c.subs[k] A cs16.toArray W B (Sh.Rd.below hr hB hW) (Sh.Rd.below (s := shSub) hrs hB hW) (Nat.le_trans hB hW.size) hT (subs_tot hT hkl) (subs_ok _ _ (conn_subs hFF) k hkl)
  obtain ⟨sg, hsg⟩ : ∃ s, s = telS c c.subs[k] := ⟨_, rfl⟩
  rw [← hsg] at HAO hAV
  have hNN : N = #[.int .i64 0, .int .i64 sg.1, .int .i64 sg.2.1, .bool sg.2.2.1, .bool sg.2.2.2.1, .bool sg.2.2.2.2.1, .int .i64 sg.2.2.2.2.2.1, .int .i64 sg.2.2.2.2.2.2.1, .int .i64 sg.2.2.2.2.2.2.2.1, .int .i64 sg.2.2.2.2.2.2.2.2.1, .int .i64 sg.2.2.2.2.2.2.2.2.2.1, .int .i64 sg.2.2.2.2.2.2.2.2.2.2.1, .slice none 0 0] := by rw [hN, hAV, if_pos hst]; rfl
  have HN : Hid _ := hNN
  obtain ⟨X, hX⟩ : ∃ X : Array Value, X = cs16.toArray := ⟨_, rfl⟩
  have HLX : Hid (X.size = 16) := by show _ = _; rw [hX, List.size_toArray]; exact hlen
  have HIX2 : Hid ((Tryz.prog.info? 46).map (·.size) = some X.size) := by show _ = _; rw [HLX.out]; exact (by kernel_rfl : (Tryz.prog.info? 46).map (·.size) = some 16)
  have HIX3 : Hid ((Tryz.prog.info? 46).map (·.size) = some X.toList.length) := by show _ = _; rw [Array.length_toList]; exact HIX2.out
  have HONX : Hid (X.all (·.oneCell') = true) := by show _ = _; rw [hX]; exact all_oneCell_toArray (rd_one _ _ _ hrs)
  rw [← hX] at HOP HAO
  clear hX hN hNN hr hC HSO hzA hE hFF hV hAV hlen hrg hrs hln hkn x0 x1 x2 x3 x4 x6 x10 hst hk hsl hsg HCO
  go_enter Tryz.func11, Tryz.ntmps11
  go_upto_region 1 with fail
  have HRG := HRGX.out ((w.alloc (.cells A 29)).alloc (.cells #[.int .i64 0, .int .i64 0, .int .i64 0, .bool false, .bool false, .bool false, .int .i64 0, .int .i64 0, .int .i64 0, .int .i64 0, .int .i64 0, .int .i64 0, .slice none 0 0] 35)) (fun o => by simp [go_sem])
  go_wp2_with (refine wpList_load_mid rfl 29 _ rfl _ _ (by rfl) A.toList _ HRG.out Tryz.underlying29 rfl HI.out ?_)
  refine (HOP.out _ (by go_grown)).mono ?_
  rintro e w1 ⟨rfl, hb⟩
  obtain ⟨k0, kR, fR, hb1, z0⟩ := two_boxes hb
  have HB : Hid (Below w.heap.size w w1) := hb1
  clear hb hb1 HRG HOP
  have HTX : Hid ((w1.alloc (.cells #[.int .i64 0, .int .i64 0, .bool false, .int .i64 0, .int .i64 0, .int .i64 0, .int .i64 0, .int .i64 0, .int .i64 0, .slice none 0 0, .int .i64 0, .int .i64 0, .slice none 0 0, .int .i64 0, .int .i64 0, .int .i64 0] 46)).there w1.heap.size 0 X.size) := bx_there (bx_al _ _ _) (fx_al _ _ _) (by rw [HLX.out]; rfl)
  have HW3 : Hid (Below w1.heap.size w1 ((w1.alloc (.cells #[.int .i64 0, .int .i64 0, .bool false, .int .i64 0, .int .i64 0, .int .i64 0, .int .i64 0, .int .i64 0, .int .i64 0, .slice none 0 0, .int .i64 0, .int .i64 0, .slice none 0 0, .int .i64 0, .int .i64 0, .int .i64 0] 46)).setCells w1.heap.size 0 X.toList) ∧ w1.heap.size < ((w1.alloc (.cells #[.int .i64 0, .int .i64 0, .bool false, .int .i64 0, .int .i64 0, .int .i64 0, .int .i64 0, .int .i64 0, .int .i64 0, .slice none 0 0, .int .i64 0, .int .i64 0, .slice none 0 0, .int .i64 0, .int .i64 0, .int .i64 0] 46)).setCells w1.heap.size 0 X.toList).heap.size ∧ (∀ o, ((w1.alloc (.cells #[.int .i64 0, .int .i64 0, .bool false, .int .i64 0, .int .i64 0, .int .i64 0, .int .i64 0, .int .i64 0, .int .i64 0, .slice none 0 0, .int .i64 0, .int .i64 0, .slice none 0 0, .int .i64 0, .int .i64 0, .int .i64 0] 46)).setCells w1.heap.size 0 X.toList).cell? ⟨w1.heap.size, o, none⟩ = X[o]?)) := ⟨setCells_below (Nat.le_refl _) _ _ _ _ ((Below.refl _ _).alloc (Nat.le_refl _) _), by rw [setCells_size]; simp, bx_setCells (bx_al w1 _ _) (by rw [HLX.out]; rfl)⟩
  go_upto_region 2 with (refine wpList_store_mid rfl 46 _ _ rfl _ _ X (by rfl) (by rfl) HTX.out HIX2.out HONX.out ?_)
  generalize hW3 : ((w1.alloc (.cells #[.int .i64 0, .int .i64 0, .bool false, .int .i64 0, .int .i64 0, .int .i64 0, .int .i64 0, .int .i64 0, .int .i64 0, .slice none 0 0, .int .i64 0, .int .i64 0, .slice none 0 0, .int .i64 0, .int .i64 0, .int .i64 0] 46)).setCells w1.heap.size 0 X.toList) = W3 at HW3 ⊢
  clear hW3 HTX
  obtain ⟨hb3, z3, kX⟩ := HW3.out
  replace k0 := bx_below k0 (by omega) hb3
  replace kR := bx_below kR z0 hb3
  replace fR := bxF fR hb3 z0
  replace HB : Hid (Below w.heap.size w W3) := HB.out.trans (hb3.mono HB.out.size)
  have zz3 : w.heap.size + 1 < W3.heap.size := Nat.lt_of_lt_of_le z0 hb3.size
  clear hb3 HW3 z0
  obtain ⟨xB, hxB⟩ : ∃ xB, xB = w1.heap.size := ⟨_, rfl⟩
  rw [← hxB] at z3 kX ⊢
  clear hxB
  have HTH : Hid (W3.there (w.heap.size + 1) 0 N.size) := bx_there kR fR (by rw [HNZ.out]; rfl)
  have kF : Hid (∀ o, (W3.setCells (w.heap.size + 1) 0 N.toList).cell? ⟨w.heap.size + 1, o, none⟩ = N[o]?) := bx_setCells kR (by rw [HNZ.out]; rfl)
  go_wp2_with (first | (refine wpList_load_mid rfl 29 _ rfl _ _ (by rfl) A.toList _ (bx_range k0) Tryz.underlying29 rfl HI.out ?_) | (refine wpList_load_mid rfl 46 _ rfl _ _ (by rfl) X.toList _ (bx_range kX) Tryz.underlying46 rfl HIX3.out ?_))
  refine (HAO.out _ HB.out).mono ?_
  rintro e W4 ⟨rfl, hb⟩
  replace kR := bx_below kR zz3 hb
  replace fR := bxF fR hb zz3
  replace HB : Hid (Below w.heap.size w W4) := HB.out.trans (hb.mono HB.out.size)
  clear hb HTH kF HAO k0 kX
  unfold segA
  have HTH : Hid (W4.there (w.heap.size + 1) 0 N.size) := bx_there kR fR (by rw [HNZ.out]; rfl)
  have kF : Hid (∀ o, (W4.setCells (w.heap.size + 1) 0 N.toList).cell? ⟨w.heap.size + 1, o, none⟩ = N[o]?) := bx_setCells kR (by rw [HNZ.out]; rfl)
  go_wp2_with (refine wpList_store_mid rfl 35 _ _ rfl _ _ N (by rfl) (by rw [HN.out]; rfl) HTH.out HIN.out HONE.out ?_)
  refine bodyPost_ret (results_box Tryz.results11 _ _ _ N _ (by rfl) kF.out Tryz.underlying35 rfl HIN.out) rfl ⟨rfl, ?_⟩
  exact setCells_below (by omega) _ _ _ _ HB.out
end Go.Proofs.YtmpbejckggnfaaaGreatDoor
