/- What the law's own helpers (measure, copy, compare) make of slices of conns; no condition but that there are at most a million parts. Written by mks.py. -/
import Derived.Test.YtcbgedlckcjjnaaRows
import Derived.Deep.DeepCutAuto
import Derived.Deep.RegionHeld3
import Derived.Deep.MidRow
import Derived.Test.YtcbgedlckcjjnaaK01
import Derived.Test.YtcbgedlckcjjnaaK02
import Derived.Test.YtcbgedlckcjjnaaK03
import Derived.Test.YtcbgedlckcjjnaaK04
import Derived.Test.YtcbgedlckcjjnaaK09
import Derived.Test.YtcbgedlckcjjnaaK10
import Derived.Test.YtcbgedlckcjjnaaK11
import Derived.Test.YtcbgedlckcjjnaaK17
import Derived.Test.YtcbgedlckcjjnaaK20
import Derived.Test.YtcbgedlckcjjnaaK55
import Derived.Test.YtcbgedlckcjjnaaK57
namespace Go.Proofs.Ytcbgedlckcjjnaa
open Go.RowKit
set_option linter.unusedVariables false
set_option maxRecDepth 8000

abbrev shConns : Sh := .row 42 shConn
def totConns (l : List DConn) : Nat := l.length + fsum totConn l



set_option maxHeartbeats 4000000 in
theorem lEqConns (l : List DConn) (v u : Value) (w : World) (B : Nat) (hr : shConns.Rd w B l [v]) (hr' : shConns.Rd w B l [u]) (hB : B ≤ w.heap.size) (hT : totConns l ≤ 1048576) :
    Calls Try.prog 26 #[v, u] w fun e w' => e = .returned (.bool true) ∧ Below w.heap.size w w' := by
  obtain ⟨a, cap, ev⟩ := row_form hr
  simp only [List.cons.injEq, and_true] at ev
  subst ev
  obtain ⟨a', cap', ev⟩ := row_form hr'
  simp only [List.cons.injEq, and_true] at ev
  subst ev
  have hmx : l.length ≤ 9223372036854775807 := row_max hr
  have HT : Hid (∀ k (hk : k < l.length), totConn l[k] ≤ 1048576) := fun k hk => by have := fsum_at totConn hk; unfold totConns at hT; omega
  obtain ⟨n, hn⟩ : ∃ n, l.length = n := ⟨_, rfl⟩
  rw [hn] at hr hr' hmx ⊢
  have HR1 : Hid (∀ W, Below w.heap.size w W → shConns.Rd W B l [.slice a n cap]) := fun W hW => hr.below hB hW
  have HR2 : Hid (∀ W, Below w.heap.size w W → shConns.Rd W B l [.slice a' n cap']) := fun W hW => hr'.below hB hW
  have HN : Hid (l.length = n) := hn
  clear hr hr' hT hn
  go_enter Try.func26, Try.ntmps26
  go_wp2_with fail
  go_loopw [5] (fun i wr => ∃ (k : Nat), k ≤ n ∧ i = .int .i64 k ∧ Below w.heap.size w wr) (fun i _ => n - (intOf i).toNat)
  case atStart => exact ⟨0, Nat.zero_le _, rfl, Below.refl _ _⟩
  case round =>
    obtain ⟨k, hk, rfl, hbl⟩ := hrel
    by_cases hlt : k < n
    · have hkl : k < l.length := by have := HN.out; omega
      have hki : (k : Int) < (n : Int) := by omega
      have hk0 : (0 : Int) ≤ (k : Int) := by omega
      obtain ⟨b0, off0, cs0, ha, hb0, hlen0, hrg0, r0⟩ := row_at (HR1.out wr hbl) k hkl
      subst ha
      replace hlen0 : cs0.length = 14 := hlen0
      replace hrg0 : wr.rangeAt b0 (off0 + k * 14) cs0 := hrg0
      have HI0 : (Try.prog.info? 42).map (·.size) = some cs0.length := by rw [hlen0]; exact (by kernel_rfl : (Try.prog.info? 42).map (·.size) = some 14)
      obtain ⟨b1, off1, cs1, ha, hb1, hlen1, hrg1, r1⟩ := row_at (HR2.out wr hbl) k hkl
      subst ha
      replace hlen1 : cs1.length = 14 := hlen1
      replace hrg1 : wr.rangeAt b1 (off1 + k * 14) cs1 := hrg1
      have HI1 : (Try.prog.info? 42).map (·.size) = some cs1.length := by rw [hlen1]; exact (by kernel_rfl : (Try.prog.info? 42).map (·.size) = some 14)
      have HC : Hid (∀ W, Below wr.heap.size wr W → Calls Try.prog 39 #[.agg cs0.toArray, .agg cs1.toArray] W fun e w' => e = .returned (.bool true) ∧ Below W.heap.size W w') := fun W hW => lEqConn l[k] cs0.toArray cs1.toArray W B (r0.below (Nat.le_trans hB hbl.size) hW) (r1.below (Nat.le_trans hB hbl.size) hW) (Nat.le_trans hB (Nat.le_trans hbl.size hW.size)) (HT.out k hkl)
      have hz0 : b0 < wr.heap.size := by have := hbl.size; omega
      have hz1 : b1 < wr.heap.size := by have := hbl.size; omega
      have HBl : Hid _ := hbl
      have HG0 : Hid (∀ W, Below wr.heap.size wr W → W.rangeAt b0 (off0 + k * 14) cs0) := fun W hW => range_below hrg0 hW hz0
      have HG1 : Hid (∀ W, Below wr.heap.size wr W → W.rangeAt b1 (off1 + k * 14) cs1) := fun W hW => range_below hrg1 hW hz1
      clear r0 r1 hbl hrg0 hrg1
      go_upto_region 6 with fail
      refine wp_region_noPanic ?_
      refine Goes.start (S := fun w' => Below wr.heap.size wr w') (z := 100) (by kernel_rfl) ?_
      refine Goes.take (i := 0) (oi := ?oi1) (x := ?vx1) ?ho1 (by kernel_rfl) (by kernel_rfl) (by kernel_rfl) (by kernel_rfl) (fun _ _ _ h => h) (Or.inl ⟨?hw1, ?hy1⟩) (Below.drew (Below.refl _ _)) ?rest1
      case ho1 => (simp only [List.getElem?_toArray, List.getElem?_cons_zero]; rfl)
      case hw1 => rfl
      case hy1 => (intro w' hSw; go_simp; (try with_reducible rfl))
      case rest1 =>
      (try simp only [Act.put, List.setIfInBounds_toArray, List.set_cons_zero, List.set_cons_succ])
      refine Goes.take (i := 1) (oi := ?oi2) (x := ?vx2) ?ho2 (by kernel_rfl) (by kernel_rfl) (by kernel_rfl) (by kernel_rfl) (fun _ _ _ h => h) (Or.inl ⟨?hw2, ?hy2⟩) (Below.drew (Below.refl _ _)) ?rest2
      case ho2 => (simp only [List.getElem?_toArray, List.getElem?_cons_succ, List.getElem?_cons_zero]; rfl)
      case hw2 => rfl
      case hy2 => (intro w' hSw; go_simp; (try with_reducible rfl))
      case rest2 =>
      (try simp only [Act.put, List.setIfInBounds_toArray, List.set_cons_zero, List.set_cons_succ])
      refine Goes.take (i := 2) (oi := ?oi3) (x := ?vx3) ?ho3 (by kernel_rfl) (by kernel_rfl) (by kernel_rfl) (by kernel_rfl) (fun _ _ _ h => h) (Or.inl ⟨?hw3, ?hy3⟩) (Below.drew (Below.refl _ _)) ?rest3
      case ho3 => (simp only [List.getElem?_toArray, List.getElem?_cons_succ, List.getElem?_cons_zero]; rfl)
      case hw3 => rfl
      case hy3 => (intro w' hSw; go_simp; (try with_reducible rfl))
      case rest3 =>
      (try simp only [Act.put, List.setIfInBounds_toArray, List.set_cons_zero, List.set_cons_succ])
      refine Goes.take (i := 3) (oi := ?oi4) (x := .agg cs0.toArray) ?ho4 (by kernel_rfl) (by kernel_rfl) (by kernel_rfl) (by kernel_rfl) (fun _ _ _ h => h) ?hy4 (Below.drew (Below.refl _ _)) ?rest4
      case ho4 => (simp only [List.getElem?_toArray, List.getElem?_cons_succ, List.getElem?_cons_zero]; rfl)
      case hy4 => exact yieldsIf_load_mid (by rfl) 42 _ rfl b0 (off0 + k * 14) (by rfl) cs0 _ (fun w' hSw => HG0.out w' hSw) Try.underlying42 rfl HI0
      case rest4 =>
      (try simp only [Act.put, List.setIfInBounds_toArray, List.set_cons_zero, List.set_cons_succ])
      refine Goes.take (i := 4) (oi := ?oi5) (x := ?vx5) ?ho5 (by kernel_rfl) (by kernel_rfl) (by kernel_rfl) (by kernel_rfl) (fun _ _ _ h => h) (Or.inl ⟨?hw5, ?hy5⟩) (Below.drew (Below.refl _ _)) ?rest5
      case ho5 => (simp only [List.getElem?_toArray, List.getElem?_cons_succ, List.getElem?_cons_zero]; rfl)
      case hw5 => rfl
      case hy5 => (intro w' hSw; go_simp; (try with_reducible rfl))
      case rest5 =>
      (try simp only [Act.put, List.setIfInBounds_toArray, List.set_cons_zero, List.set_cons_succ])
      refine Goes.take (i := 5) (oi := ?oi6) (x := ?vx6) ?ho6 (by kernel_rfl) (by kernel_rfl) (by kernel_rfl) (by kernel_rfl) (fun _ _ _ h => h) (Or.inl ⟨?hw6, ?hy6⟩) (Below.drew (Below.refl _ _)) ?rest6
      case ho6 => (simp only [List.getElem?_toArray, List.getElem?_cons_succ, List.getElem?_cons_zero]; rfl)
      case hw6 => rfl
      case hy6 => (intro w' hSw; go_simp; (try with_reducible rfl))
      case rest6 =>
      (try simp only [Act.put, List.setIfInBounds_toArray, List.set_cons_zero, List.set_cons_succ])
      refine Goes.take (i := 6) (oi := ?oi7) (x := ?vx7) ?ho7 (by kernel_rfl) (by kernel_rfl) (by kernel_rfl) (by kernel_rfl) (fun _ _ _ h => h) (Or.inl ⟨?hw7, ?hy7⟩) (Below.drew (Below.refl _ _)) ?rest7
      case ho7 => (simp only [List.getElem?_toArray, List.getElem?_cons_succ, List.getElem?_cons_zero]; rfl)
      case hw7 => rfl
      case hy7 => (intro w' hSw; go_simp; (try with_reducible rfl))
      case rest7 =>
      (try simp only [Act.put, List.setIfInBounds_toArray, List.set_cons_zero, List.set_cons_succ])
      refine Goes.take (i := 7) (oi := ?oi8) (x := .agg cs1.toArray) ?ho8 (by kernel_rfl) (by kernel_rfl) (by kernel_rfl) (by kernel_rfl) (fun _ _ _ h => h) ?hy8 (Below.drew (Below.refl _ _)) ?rest8
      case ho8 => (simp only [List.getElem?_toArray, List.getElem?_cons_succ, List.getElem?_cons_zero]; rfl)
      case hy8 => exact yieldsIf_load_mid (by rfl) 42 _ rfl b1 (off1 + k * 14) (by rfl) cs1 _ (fun w' hSw => HG1.out w' hSw) Try.underlying42 rfl HI1
      case rest8 =>
      (try simp only [Act.put, List.setIfInBounds_toArray, List.set_cons_zero, List.set_cons_succ])
      refine Goes.all (rs := [8]) (by kernel_rfl) (by simp) ?_
      refine Ups.cons (i := 8) (o := ?oo50) ?ho50 (fun KK hKK => ?stp50) Ups.nil
      case ho50 => (simp only [List.getElem?_toArray, List.getElem?_cons_succ, List.getElem?_cons_zero]; rfl)
      case stp50 =>
      go_simp
      go_at_call 39
      refine (HC.out _ (Below.drew (Below.refl _ _))).mono ?_
      rintro e w1 ⟨rfl, hb1⟩
      replace hb1 := (Below.drew (Below.refl wr.heap.size wr)).trans hb1
      have HB1 : Hid (Below w.heap.size w w1) := HBl.out.trans (hb1.mono HBl.out.size)
      have HB2 : Hid (Below wr.heap.size wr w1) := hb1
      clear hb1
      dsimp only
      refine hKK.out _ _ (Or.inr HB2.out) ?_
      clear hKK KK
      (try simp only [Act.put, List.setIfInBounds_toArray, List.set_cons_zero, List.set_cons_succ])
      refine Goes.all (rs := [9]) (by kernel_rfl) (by simp) ?_
      refine Ups.cons (i := 9) (o := ?oo51) ?ho51 (fun KK hKK => ?stp51) Ups.nil
      case ho51 => (simp only [List.getElem?_toArray, List.getElem?_cons_succ, List.getElem?_cons_zero]; rfl)
      case stp51 =>
      go_simp
      refine hKK.out _ _ (Or.inr HB2.out) ?_
      clear hKK KK
      (try simp only [Act.put, List.setIfInBounds_toArray, List.set_cons_zero, List.set_cons_succ])
      refine Goes.done (by kernel_rfl) ?_ _
      refine NoPanic.normal ?_
      go_wp2_with fail
      go_roundw
      case rel => exact ⟨k + 1, by omega, by go_num, HB1.out⟩
      case measure => simp [intOf]; omega
    · obtain rfl : k = n := by omega
      go_wp2_with fail
      go_ret
      exact ⟨rfl, hbl⟩
end Go.Proofs.Ytcbgedlckcjjnaa

/- What the law's own helpers (measure, copy, compare) make of slices of slices of bytes; no condition but that there are at most a million parts. Written by mkbss.py. -/
namespace Go.Proofs.Ytcbgedlckcjjnaa
open Go.RowKit
set_option linter.unusedVariables false
set_option maxRecDepth 8000

abbrev shBss : Sh := .row 22 u8s
def totBss (l : List (List Int)) : Nat := l.length + fsum List.length l
theorem bss_at {w : World} {B : Nat} {l : List (List Int)} {a : Option Addr} {n cap : Nat} (h : shBss.Rd w B l [.slice a n cap]) (k : Nat) (hk : k < l.length) :
    ∃ b off u uc, a = some ⟨b, off, none⟩ ∧ b < B ∧ w.cell? ⟨b, off + k, none⟩ = some (.slice u l[k].length uc) ∧ u8s.Rd w B l[k] [.slice u l[k].length uc] := by
  obtain ⟨b, off, cs, ha, hb, hlen, hrg, r3⟩ := row_at h k hk
  obtain ⟨u, uc, e⟩ := row_form r3
  subst e
  refine ⟨b, off, u, uc, ha, hb, ?_, r3⟩
  have := hrg 0 _ rfl
  simpa [Sh.sz] using this
theorem lEqBoolsU (l : List Bool) (v u : Value) (w : World) (B : Nat) (hr : (bls 4).Rd w B l [v]) (hr' : (bls 4).Rd w B l [u]) (hB : B ≤ w.heap.size) (hT : l.length ≤ 1048576) :
    Calls Try.prog 29 #[v, u] w fun e w' => e = .returned (.bool true) ∧ Below w.heap.size w w' := lEqBools _ _ l v u w B hr hr' hB hT
theorem rd_NetD {w : World} {B : Nat} {x : DNet} {cs : List Value} (h : shNet.Rd w B x cs) : ∃ a c a' c', cs = [.slice a x.1.length c, .slice a' x.2.1.length c'] ∧ shSegms.Rd w B x.1 [.slice a x.1.length c] ∧ (bls 4).Rd w B x.2.1 [.slice a' x.2.1.length c'] := rd_Net h
theorem lEqNetU (x : DNet) (v u v' u' : Value) (w : World) (B : Nat) (hr : shNet.Rd w B x [v, u]) (hr' : shNet.Rd w B x [v', u']) (hB : B ≤ w.heap.size) (hT : totNet x ≤ 1048576) :
    Calls Try.prog 27 #[.agg #[v, u], .agg #[v', u']] w fun e w' => e = .returned (.bool true) ∧ Below w.heap.size w w' := lEqNet x #[v, u] #[v', u'] w B hr hr' hB hT

set_option maxHeartbeats 4000000 in
theorem lEqBss (l : List (List Int)) (v u : Value) (w : World) (B : Nat) (hr : shBss.Rd w B l [v]) (hr' : shBss.Rd w B l [u]) (hB : B ≤ w.heap.size) (hT : totBss l ≤ 1048576) :
    Calls Try.prog 28 #[v, u] w fun e w' => e = .returned (.bool true) ∧ Below w.heap.size w w' := by
  obtain ⟨a, cap, ev⟩ := row_form hr
  simp only [List.cons.injEq, and_true] at ev
  subst ev
  obtain ⟨a', cap', ev⟩ := row_form hr'
  simp only [List.cons.injEq, and_true] at ev
  subst ev
  have hmx : l.length ≤ 9223372036854775807 := row_max hr
  have HT : Hid (∀ k (hk : k < l.length), l[k].length ≤ 1048576) := fun k hk => by have := fsum_at List.length hk; unfold totBss at hT; omega
  obtain ⟨n, hn⟩ : ∃ n, l.length = n := ⟨_, rfl⟩
  rw [hn] at hr hr' hmx ⊢
  have HR1 : Hid (∀ W, Below w.heap.size w W → shBss.Rd W B l [.slice a n cap]) := fun W hW => hr.below hB hW
  have HR2 : Hid (∀ W, Below w.heap.size w W → shBss.Rd W B l [.slice a' n cap']) := fun W hW => hr'.below hB hW
  have HN : Hid (l.length = n) := hn
  clear hr hr' hT hn
  go_enter Try.func28, Try.ntmps28
  go_wp2_with fail
  go_loopw [5] (fun i wr => ∃ (k : Nat), k ≤ n ∧ i = .int .i64 k ∧ Below w.heap.size w wr) (fun i _ => n - (intOf i).toNat)
  case atStart => exact ⟨0, Nat.zero_le _, rfl, Below.refl _ _⟩
  case round =>
    obtain ⟨k, hk, rfl, hbl⟩ := hrel
    by_cases hlt : k < n
    · have hkl : k < l.length := by have := HN.out; omega
      have hki : (k : Int) < (n : Int) := by omega
      have hk0 : (0 : Int) ≤ (k : Int) := by omega
      obtain ⟨b0, off0, u0, uc0, ha, hb0, hck0, r0⟩ := bss_at (HR1.out wr hbl) k hkl
      subst ha
      obtain ⟨b1, off1, u1, uc1, ha, hb1, hck1, r1⟩ := bss_at (HR2.out wr hbl) k hkl
      subst ha
      have HC : Hid (∀ W, Below wr.heap.size wr W → Calls Try.prog 13 #[.slice u0 l[k].length uc0, .slice u1 l[k].length uc1] W fun e w' => e = .returned (.bool true) ∧ Below W.heap.size W w') := fun W hW => lEqBytes l[k] _ _ W B (Sh.Rd.below (s := u8s) r0 (Nat.le_trans hB hbl.size) hW) (Sh.Rd.below (s := u8s) r1 (Nat.le_trans hB hbl.size) hW) (Nat.le_trans hB (Nat.le_trans hbl.size hW.size)) (HT.out k hkl)
      have hz0 : b0 < wr.heap.size := by have := hbl.size; omega
      have hz1 : b1 < wr.heap.size := by have := hbl.size; omega
      have HBl : Hid _ := hbl
      clear r0 r1 hbl
      generalize l[k].length = q at *
      go_upto_region 6 with fail
      refine wp_region_noPanic ?_
      refine Goes.start (S := fun w' => Below wr.heap.size wr w') (z := 100) (by kernel_rfl) ?_
      refine Goes.take (i := 0) (oi := ?oi2) (x := ?vx2) ?ho2 (by kernel_rfl) (by kernel_rfl) (by kernel_rfl) (by kernel_rfl) (fun _ _ _ h => h) (Or.inl ⟨?hw2, ?hy2⟩) (Below.drew (Below.refl _ _)) ?rest2
      case ho2 => (simp only [List.getElem?_toArray, List.getElem?_cons_zero] <;> rfl)
      case hw2 => rfl
      case hy2 => (intro w' hSw; have kk0 := (hSw.cell (p := ⟨b0, off0 + k, none⟩) hz0).trans hck0; have kk1 := (hSw.cell (p := ⟨b1, off1 + k, none⟩) hz1).trans hck1; go_simp; (try with_reducible rfl))
      case rest2 =>
      (try simp only [Act.put, List.setIfInBounds_toArray, List.set_cons_zero, List.set_cons_succ])
      refine Goes.take (i := 1) (oi := ?oi3) (x := ?vx3) ?ho3 (by kernel_rfl) (by kernel_rfl) (by kernel_rfl) (by kernel_rfl) (fun _ _ _ h => h) (Or.inl ⟨?hw3, ?hy3⟩) (Below.drew (Below.refl _ _)) ?rest3
      case ho3 => (simp only [List.getElem?_toArray, List.getElem?_cons_succ, List.getElem?_cons_zero] <;> rfl)
      case hw3 => rfl
      case hy3 => (intro w' hSw; have kk0 := (hSw.cell (p := ⟨b0, off0 + k, none⟩) hz0).trans hck0; have kk1 := (hSw.cell (p := ⟨b1, off1 + k, none⟩) hz1).trans hck1; go_simp; (try with_reducible rfl))
      case rest3 =>
      (try simp only [Act.put, List.setIfInBounds_toArray, List.set_cons_zero, List.set_cons_succ])
      refine Goes.take (i := 2) (oi := ?oi4) (x := ?vx4) ?ho4 (by kernel_rfl) (by kernel_rfl) (by kernel_rfl) (by kernel_rfl) (fun _ _ _ h => h) (Or.inl ⟨?hw4, ?hy4⟩) (Below.drew (Below.refl _ _)) ?rest4
      case ho4 => (simp only [List.getElem?_toArray, List.getElem?_cons_succ, List.getElem?_cons_zero] <;> rfl)
      case hw4 => rfl
      case hy4 => (intro w' hSw; have kk0 := (hSw.cell (p := ⟨b0, off0 + k, none⟩) hz0).trans hck0; have kk1 := (hSw.cell (p := ⟨b1, off1 + k, none⟩) hz1).trans hck1; go_simp; (try with_reducible rfl))
      case rest4 =>
      (try simp only [Act.put, List.setIfInBounds_toArray, List.set_cons_zero, List.set_cons_succ])
      refine Goes.take (i := 3) (oi := ?oi5) (x := ?vx5) ?ho5 (by kernel_rfl) (by kernel_rfl) (by kernel_rfl) (by kernel_rfl) (fun _ _ _ h => h) (Or.inl ⟨?hw5, ?hy5⟩) (Below.drew (Below.refl _ _)) ?rest5
      case ho5 => (simp only [List.getElem?_toArray, List.getElem?_cons_succ, List.getElem?_cons_zero] <;> rfl)
      case hw5 => rfl
      case hy5 => (intro w' hSw; have kk0 := (hSw.cell (p := ⟨b0, off0 + k, none⟩) hz0).trans hck0; have kk1 := (hSw.cell (p := ⟨b1, off1 + k, none⟩) hz1).trans hck1; go_simp; (try with_reducible rfl))
      case rest5 =>
      (try simp only [Act.put, List.setIfInBounds_toArray, List.set_cons_zero, List.set_cons_succ])
      refine Goes.take (i := 4) (oi := ?oi6) (x := ?vx6) ?ho6 (by kernel_rfl) (by kernel_rfl) (by kernel_rfl) (by kernel_rfl) (fun _ _ _ h => h) (Or.inl ⟨?hw6, ?hy6⟩) (Below.drew (Below.refl _ _)) ?rest6
      case ho6 => (simp only [List.getElem?_toArray, List.getElem?_cons_succ, List.getElem?_cons_zero] <;> rfl)
      case hw6 => rfl
      case hy6 => (intro w' hSw; have kk0 := (hSw.cell (p := ⟨b0, off0 + k, none⟩) hz0).trans hck0; have kk1 := (hSw.cell (p := ⟨b1, off1 + k, none⟩) hz1).trans hck1; go_simp; (try with_reducible rfl))
      case rest6 =>
      (try simp only [Act.put, List.setIfInBounds_toArray, List.set_cons_zero, List.set_cons_succ])
      refine Goes.take (i := 5) (oi := ?oi7) (x := ?vx7) ?ho7 (by kernel_rfl) (by kernel_rfl) (by kernel_rfl) (by kernel_rfl) (fun _ _ _ h => h) (Or.inl ⟨?hw7, ?hy7⟩) (Below.drew (Below.refl _ _)) ?rest7
      case ho7 => (simp only [List.getElem?_toArray, List.getElem?_cons_succ, List.getElem?_cons_zero] <;> rfl)
      case hw7 => rfl
      case hy7 => (intro w' hSw; have kk0 := (hSw.cell (p := ⟨b0, off0 + k, none⟩) hz0).trans hck0; have kk1 := (hSw.cell (p := ⟨b1, off1 + k, none⟩) hz1).trans hck1; go_simp; (try with_reducible rfl))
      case rest7 =>
      (try simp only [Act.put, List.setIfInBounds_toArray, List.set_cons_zero, List.set_cons_succ])
      refine Goes.take (i := 6) (oi := ?oi8) (x := ?vx8) ?ho8 (by kernel_rfl) (by kernel_rfl) (by kernel_rfl) (by kernel_rfl) (fun _ _ _ h => h) (Or.inl ⟨?hw8, ?hy8⟩) (Below.drew (Below.refl _ _)) ?rest8
      case ho8 => (simp only [List.getElem?_toArray, List.getElem?_cons_succ, List.getElem?_cons_zero] <;> rfl)
      case hw8 => rfl
      case hy8 => (intro w' hSw; have kk0 := (hSw.cell (p := ⟨b0, off0 + k, none⟩) hz0).trans hck0; have kk1 := (hSw.cell (p := ⟨b1, off1 + k, none⟩) hz1).trans hck1; go_simp; (try with_reducible rfl))
      case rest8 =>
      (try simp only [Act.put, List.setIfInBounds_toArray, List.set_cons_zero, List.set_cons_succ])
      refine Goes.take (i := 7) (oi := ?oi9) (x := ?vx9) ?ho9 (by kernel_rfl) (by kernel_rfl) (by kernel_rfl) (by kernel_rfl) (fun _ _ _ h => h) (Or.inl ⟨?hw9, ?hy9⟩) (Below.drew (Below.refl _ _)) ?rest9
      case ho9 => (simp only [List.getElem?_toArray, List.getElem?_cons_succ, List.getElem?_cons_zero] <;> rfl)
      case hw9 => rfl
      case hy9 => (intro w' hSw; have kk0 := (hSw.cell (p := ⟨b0, off0 + k, none⟩) hz0).trans hck0; have kk1 := (hSw.cell (p := ⟨b1, off1 + k, none⟩) hz1).trans hck1; go_simp; (try with_reducible rfl))
      case rest9 =>
      (try simp only [Act.put, List.setIfInBounds_toArray, List.set_cons_zero, List.set_cons_succ])
      refine Goes.all (rs := [8]) (by kernel_rfl) (by simp) ?_
      refine Ups.cons (i := 8) (o := ?oo10) ?ho10 (fun KK hKK => ?stp10) Ups.nil
      case ho10 => (simp only [List.getElem?_toArray, List.getElem?_cons_succ, List.getElem?_cons_zero] <;> rfl)
      case stp10 =>
      go_simp
      go_at_call 13
      refine (HC.out _ (Below.drew (Below.refl _ _))).mono ?_
      rintro e w1 ⟨rfl, hbq⟩
      replace hbq := (Below.drew (Below.refl wr.heap.size wr)).trans hbq
      have HS10 : Hid (Below wr.heap.size wr w1) := hbq
      clear hbq
      dsimp only
      refine hKK.out _ _ (Or.inr HS10.out) ?_
      clear hKK KK
      (try simp only [Act.put, List.setIfInBounds_toArray, List.set_cons_zero, List.set_cons_succ])
      have HBx : Hid (Below w.heap.size w w1) := HBl.out.trans (HS10.out.mono HBl.out.size)
      refine Goes.all (rs := [9]) (by kernel_rfl) (by simp) ?_
      refine Ups.cons (i := 9) (o := ?oo11) ?ho11 (fun KK hKK => ?stp11) Ups.nil
      case ho11 => (simp only [List.getElem?_toArray, List.getElem?_cons_succ, List.getElem?_cons_zero] <;> rfl)
      case stp11 =>
      go_simp
      refine hKK.out _ _ (Or.inr HS10.out) ?_
      clear hKK KK
      (try simp only [Act.put, List.setIfInBounds_toArray, List.set_cons_zero, List.set_cons_succ])
      refine Goes.done (by kernel_rfl) ?_ _
      refine NoPanic.normal ?_
      go_wp2_with fail
      go_roundw
      case rel => exact ⟨k + 1, by omega, by go_num, HBx.out⟩
      case measure => simp [intOf]; omega
    · obtain rfl : k = n := by omega
      go_wp2_with fail
      go_ret
      exact ⟨rfl, hbl⟩
end Go.Proofs.Ytcbgedlckcjjnaa
