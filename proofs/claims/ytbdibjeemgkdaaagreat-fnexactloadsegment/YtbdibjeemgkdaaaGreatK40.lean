/- The segment of a flight, by program and model; the answer owns its memory; nothing that was in memory turns; no condition but that there are at most a million parts. Written by mkload.py. -/
import Derived.Test.YtbdibjeemgkdaaaGreatRows
import Derived.Deep.RegionHeld3
import Derived.Deep.DeepCutAuto
import Derived.Deep.DeepMust
import Derived.Deep.MidRow
import Derived.Test.YtbdibjeemgkdaaaGreatK01
import Derived.Test.YtbdibjeemgkdaaaGreatK02
import Derived.Test.YtbdibjeemgkdaaaGreatK03
import Derived.Test.YtbdibjeemgkdaaaGreatK04
import Derived.Test.YtbdibjeemgkdaaaGreatK05
import Derived.Test.YtbdibjeemgkdaaaGreatK06
import Derived.Test.YtbdibjeemgkdaaaGreatK09
import Derived.Test.YtbdibjeemgkdaaaGreatK10
import Derived.Test.YtbdibjeemgkdaaaGreatK11
import Derived.Test.YtbdibjeemgkdaaaGreatK12
import Derived.Test.YtbdibjeemgkdaaaGreatK13
import Derived.Test.YtbdibjeemgkdaaaGreatK14
import Derived.Test.YtbdibjeemgkdaaaGreatK16
import Derived.Test.YtbdibjeemgkdaaaGreatK20
import Derived.Test.YtbdibjeemgkdaaaGreatK21
import Derived.Test.YtbdibjeemgkdaaaGreatK22
import Derived.Test.YtbdibjeemgkdaaaGreatK26
import Derived.Test.YtbdibjeemgkdaaaGreatK30
import Derived.Test.YtbdibjeemgkdaaaGreatK39
import Derived.Test.YtbdibjeemgkdaaaGreatK42
namespace Go.Proofs.YtbdibjeemgkdaaaGreat
open Go.RowKit
set_option linter.unusedVariables false
set_option maxRecDepth 8000

def zFl : DFlight := (0, 0, [], 0, 0, ())
def subI (c : DConn) (i : Int) : DSub := c.subs.getD i.toNat zSubA
def flI (x : DSub) (k : Int) : DFlight := x.snd.2.2.2.1.getD k.toNat zFl
/-- The segment of a flight. -/
def lodS (c : DConn) (x : DSub) (f : DFlight) : DSegm :=
  (x.1, c.1, false, true, false, wrp (x.2.2.2.2.2.2.1.1 + f.1), wrp (x.2.2.2.2.2.2.2.1.1 + x.2.2.2.2.2.2.2.1.2.1), endD c, (if c.2.2.2.1 then 0 else 4), (if c.2.2.2.1 then 0 else dackD c + 1000 * f.2.1), (if c.2.2.2.1 then 0 else sumB (loadB f.2.1 f.2.2.1)), f.2.2.1, ())
def lodV (c : DConn) (i k : Int) : DSR := if connF c = 0 then (if inD i 0 ((c.subs.length : Int) - 1) = true then (if inD k 0 (((subI c i).snd.2.2.2.1.length : Int) - 1) = true then (0, lodS c (subI c i) (flI (subI c i) k), ()) else (4, zSegm, ())) else (4, zSegm, ())) else (connF c, zSegm, ())
theorem own_Sg {w : World} {lo hi : Nat} {y0 y1 : Int} {y2 y3 y4 : Bool} {y5 y6 y7 y8 y9 y10 : Int} {ld : List Int} {u : Value} (h : Own w lo hi u8s ld [u]) (w0 : (Lit.int .i64 y0).wf = true) (w1 : (Lit.int .i64 y1).wf = true) (w5 : (Lit.int .i64 y5).wf = true) (w6 : (Lit.int .i64 y6).wf = true) (w7 : (Lit.int .i64 y7).wf = true) (w8 : (Lit.int .i64 y8).wf = true) (w9 : (Lit.int .i64 y9).wf = true) (w10 : (Lit.int .i64 y10).wf = true) :
    Own w lo hi shSegm (y0, y1, y2, y3, y4, y5, y6, y7, y8, y9, y10, ld, ()) [.int .i64 y0, .int .i64 y1, .bool y2, .bool y3, .bool y4, .int .i64 y5, .int .i64 y6, .int .i64 y7, .int .i64 y8, .int .i64 y9, .int .i64 y10, u] := by
  obtain ⟨bs, hL, hnd, hb⟩ := h
  exact ⟨bs, mk_Segm hL w0 w1 w5 w6 w7 w8 w9 w10, hnd, hb⟩
theorem iPlaceInS (i : Int) (a : Option Addr) (n cap : Nat) (hn : n ≤ 1048576) (w : World) : Calls Tryz.prog 27 #[.int .i64 i, .slice a n cap] w fun e w' => e = .returned (.bool (inD i 0 ((n : Int) - 1))) ∧ w' = w := by
  by_cases h0 : 0 ≤ i
  case neg =>
    have e : inD i 0 ((n : Int) - 1) = false := by simp [inD, h0]
    rw [e]
    have h0' : decide (0 ≤ i) = false := decide_eq_false h0
    clear e
    go_enter Tryz.func27, Tryz.ntmps27
    go_wp2_with fail
    go_ret
    exact ⟨rfl, rfl⟩
  by_cases h1 : i < (n : Int)
  case pos =>
    have e : inD i 0 ((n : Int) - 1) = true := by simp [inD]; omega
    rw [e]
    have h0' : decide (0 ≤ i) = true := decide_eq_true h0
    have h1' : decide (i < (n : Int)) = true := decide_eq_true h1
    clear e
    go_enter Tryz.func27, Tryz.ntmps27
    go_wp2_with fail
    go_ret
    exact ⟨rfl, rfl⟩
  case neg =>
    have e : inD i 0 ((n : Int) - 1) = false := by simp [inD]; omega
    rw [e]
    have h0' : decide (0 ≤ i) = true := decide_eq_true h0
    have h1' : decide (i < (n : Int)) = false := decide_eq_false h1
    clear e
    go_enter Tryz.func27, Tryz.ntmps27
    go_wp2_with fail
    go_ret
    exact ⟨rfl, rfl⟩
theorem iPlaceInF (i : Int) (a : Option Addr) (n cap : Nat) (hn : n ≤ 1048576) (w : World) : Calls Tryz.prog 28 #[.int .i64 i, .slice a n cap] w fun e w' => e = .returned (.bool (inD i 0 ((n : Int) - 1))) ∧ w' = w := by
  by_cases h0 : 0 ≤ i
  case neg =>
    have e : inD i 0 ((n : Int) - 1) = false := by simp [inD, h0]
    rw [e]
    have h0' : decide (0 ≤ i) = false := decide_eq_false h0
    clear e
    go_enter Tryz.func28, Tryz.ntmps28
    go_wp2_with fail
    go_ret
    exact ⟨rfl, rfl⟩
  by_cases h1 : i < (n : Int)
  case pos =>
    have e : inD i 0 ((n : Int) - 1) = true := by simp [inD]; omega
    rw [e]
    have h0' : decide (0 ≤ i) = true := decide_eq_true h0
    have h1' : decide (i < (n : Int)) = true := decide_eq_true h1
    clear e
    go_enter Tryz.func28, Tryz.ntmps28
    go_wp2_with fail
    go_ret
    exact ⟨rfl, rfl⟩
  case neg =>
    have e : inD i 0 ((n : Int) - 1) = false := by simp [inD]; omega
    rw [e]
    have h0' : decide (0 ≤ i) = true := decide_eq_true h0
    have h1' : decide (i < (n : Int)) = false := decide_eq_false h1
    clear e
    go_enter Tryz.func28, Tryz.ntmps28
    go_wp2_with fail
    go_ret
    exact ⟨rfl, rfl⟩
set_option maxHeartbeats 4000000 in
theorem iLoadOf0 (A X F5 : Array Value) (k : Nat) (pa sd SQ0 AK EN OP OA : Int) (pl : Bool) (s0 s1 s2 fat fda SC SQ SU : Int) (fb foff fn fc : Nat) (fla : Option Addr) (fln flc : Nat) (fl : List Int) (w : World) (hA : A.size = 14) (hX : X.size = 16) (hF5 : F5.size = 5) (hone : F5.all (·.oneCell') = true)
    (x3 : A[3]? = some (.bool pl)) (x6 : X[6]? = some (.int .i64 s0)) (x7 : X[7]? = some (.int .i64 s1)) (x8 : X[8]? = some (.int .i64 s2)) (x9 : X[9]? = some (.slice (some ⟨fb, foff, none⟩) fn fc)) (hk : k < fn) (hfn : fn ≤ 1048576) (hfb : fb < w.heap.size) (hrf : w.rangeAt fb (foff + k * 5) F5.toList) (f0 : F5[0]? = some (.int .i64 fat)) (f1 : F5[1]? = some (.int .i64 fda)) (f2 : F5[2]? = some (.slice fla fln flc)) (hOA : 0 ≤ OA ∧ OA ≤ 1000000000) (hda : 0 ≤ fda ∧ fda ≤ 1000000000)
    (hKO : ∀ W, Below w.heap.size w W → Calls Tryz.prog 59 #[.agg A, .agg X] W fun e w' => e = .returned (.agg #[.int .i64 pa, .int .i64 sd, .bool false, .bool true, .bool false, .int .i64 SQ0, .int .i64 AK, .int .i64 EN, .int .i64 OP, .int .i64 OA, .int .i64 0, .slice none 0 0]) ∧ Below W.heap.size W w')
    (hSO : ∀ W, Below w.heap.size w W → Calls Tryz.prog 60 #[.agg #[.int .i64 s0, .int .i64 s1, .int .i64 s2, .slice (some ⟨fb, foff, none⟩) fn fc], .int .i64 fat] W fun e w' => e = .returned (.agg #[.int .i64 SC, .int .i64 SQ]) ∧ Below W.heap.size W w')
    (hCB : ∀ W, Below w.heap.size w W → Calls Tryz.prog 61 #[.slice fla fln flc] W fun e w' => ∃ b1 c1, e = .returned (.slice b1 fln c1) ∧ Own w' W.heap.size w'.heap.size u8s fl [.slice b1 fln c1] ∧ Below W.heap.size W w')
    (hSU : ∀ W, Below w.heap.size w W → Calls Tryz.prog 62 #[.int .i64 fda, .slice fla fln flc] W fun e w' => e = .returned (.int .i64 SU) ∧ Below W.heap.size W w') :
    Calls Tryz.prog 29 #[.agg A, .agg X, .int .i64 (k : Int)] w fun e w' => ∃ u, e = .returned (.agg #[.int .i64 pa, .int .i64 sd, .bool false, .bool true, .bool false, .int .i64 SQ, .int .i64 AK, .int .i64 EN, .int .i64 OP, .int .i64 (if pl then OA else OA + 1000 * fda), .int .i64 (if pl then 0 else SU), u]) ∧ Own w' w.heap.size w'.heap.size u8s fl [u] ∧ Below w.heap.size w w' := by
  have HIA : Hid ((Tryz.prog.info? 40).map (·.size) = some A.toList.length) := by show _ = _; rw [Array.length_toList, hA]; exact (by kernel_rfl : (Tryz.prog.info? 40).map (·.size) = some 14)
  have HIX : Hid ((Tryz.prog.info? 66).map (·.size) = some X.toList.length) := by show _ = _; rw [Array.length_toList, hX]; exact (by kernel_rfl : (Tryz.prog.info? 66).map (·.size) = some 16)
  obtain ⟨G, hG⟩ : ∃ G : Array Value, G = #[.int .i64 pa, .int .i64 sd, .bool false, .bool true, .bool false, .int .i64 SQ0, .int .i64 AK, .int .i64 EN, .int .i64 OP, .int .i64 OA, .int .i64 0, .slice none 0 0] := ⟨_, rfl⟩
  have HG : Hid _ := hG
  have HGZ : Hid (G.size = 12) := by show _ = _; rw [hG]; rfl
  have HIG : Hid ((Tryz.prog.info? 31).map (·.size) = some G.size) := by show _ = _; rw [HGZ.out]; exact (by kernel_rfl : (Tryz.prog.info? 31).map (·.size) = some 12)
  have HONG : Hid (G.all (·.oneCell') = true) := by show _ = _; rw [hG]; simp [Value.oneCell']
  have HZ5 : Hid (F5.size = 5) := hF5
  have HI5 : Hid ((Tryz.prog.info? 70).map (·.size) = some F5.size) := by show _ = _; rw [hF5]; exact (by kernel_rfl : (Tryz.prog.info? 70).map (·.size) = some 5)
  have HI5' : Hid ((Tryz.prog.info? 70).map (·.size) = some F5.toList.length) := by show _ = _; rw [Array.length_toList]; exact HI5.out
  have HON5 : Hid (F5.all (·.oneCell') = true) := hone
  rw [← hG] at hKO
  have HKO : Hid _ := hKO
  have HSO : Hid _ := hSO
  have HCB : Hid _ := hCB
  have HSU : Hid _ := hSU
  have HRF : Hid _ := hrf
  have HIS : Hid ((Tryz.prog.info? 59).map (·.size) = some [Value.int .i64 s0, .int .i64 s1, .int .i64 s2, .slice (some ⟨fb, foff, none⟩) fn fc].length) := (by kernel_rfl : (Tryz.prog.info? 59).map (·.size) = some 4)
  have hkI : (k : Int) < (fn : Int) := by omega
  have hk0 : (0 : Int) ≤ (k : Int) := by omega
  have hfld := fldI
  clear hA hX hF5 hone hG hKO hSO hCB hSU hrf
  have HWA : Hid (Below w.heap.size w (((w.alloc (.cells A 40)).alloc (.cells X 66)).alloc (.cells #[.int .i64 0, .int .i64 0, .bool false, .bool false, .bool false, .int .i64 0, .int .i64 0, .int .i64 0, .int .i64 0, .int .i64 0, .int .i64 0, .slice none 0 0] 31)) ∧ (((w.alloc (.cells A 40)).alloc (.cells X 66)).alloc (.cells #[.int .i64 0, .int .i64 0, .bool false, .bool false, .bool false, .int .i64 0, .int .i64 0, .int .i64 0, .int .i64 0, .int .i64 0, .int .i64 0, .slice none 0 0] 31)).heap.size = w.heap.size + 3 ∧ (∀ o, (((w.alloc (.cells A 40)).alloc (.cells X 66)).alloc (.cells #[.int .i64 0, .int .i64 0, .bool false, .bool false, .bool false, .int .i64 0, .int .i64 0, .int .i64 0, .int .i64 0, .int .i64 0, .int .i64 0, .slice none 0 0] 31)).cell? ⟨w.heap.size, o, none⟩ = A[o]?) ∧ (∀ o, (((w.alloc (.cells A 40)).alloc (.cells X 66)).alloc (.cells #[.int .i64 0, .int .i64 0, .bool false, .bool false, .bool false, .int .i64 0, .int .i64 0, .int .i64 0, .int .i64 0, .int .i64 0, .int .i64 0, .slice none 0 0] 31)).cell? ⟨w.heap.size + 1, o, none⟩ = X[o]?) ∧ (∀ o, (((w.alloc (.cells A 40)).alloc (.cells X 66)).alloc (.cells #[.int .i64 0, .int .i64 0, .bool false, .bool false, .bool false, .int .i64 0, .int .i64 0, .int .i64 0, .int .i64 0, .int .i64 0, .int .i64 0, .slice none 0 0] 31)).cell? ⟨w.heap.size + 2, o, none⟩ = (#[.int .i64 0, .int .i64 0, .bool false, .bool false, .bool false, .int .i64 0, .int .i64 0, .int .i64 0, .int .i64 0, .int .i64 0, .int .i64 0, .slice none 0 0] : Array Value)[o]?) ∧ (∀ o, (((w.alloc (.cells A 40)).alloc (.cells X 66)).alloc (.cells #[.int .i64 0, .int .i64 0, .bool false, .bool false, .bool false, .int .i64 0, .int .i64 0, .int .i64 0, .int .i64 0, .int .i64 0, .int .i64 0, .slice none 0 0] 31)).frozen? ⟨w.heap.size + 2, o, none⟩ = false)) := ⟨(((Below.refl _ _).alloc (Nat.le_refl _) _).alloc (by simp) _).alloc (by simp; omega) _, by simp, fun o => by simp [go_sem], fun o => by simp [go_sem], fun o => by simp [go_sem], fun o => by simp [go_sem]⟩
  go_enter Tryz.func29, Tryz.ntmps29
  go_upto_region 1 with fail
  generalize hWW : (((w.alloc (.cells A 40)).alloc (.cells X 66)).alloc (.cells #[.int .i64 0, .int .i64 0, .bool false, .bool false, .bool false, .int .i64 0, .int .i64 0, .int .i64 0, .int .i64 0, .int .i64 0, .int .i64 0, .slice none 0 0] 31)) = W1 at HWA ⊢
  clear hWW
  obtain ⟨hb, hsz, kA, kX, kR, fR⟩ := HWA.out
  clear HWA
  have HB : Hid (Below w.heap.size w W1) := hb
  have zA : w.heap.size < W1.heap.size := by omega
  have zX : w.heap.size + 1 < W1.heap.size := by omega
  have zR : w.heap.size + 2 < W1.heap.size := by omega
  clear hb hsz
  have HRW : Hid (W1.rangeAt fb (foff + k * 5) F5.toList) := range_below HRF.out HB.out hfb
  have hk5 : (foff : Int) + (k : Int) * 5 = ((foff + k * 5 : Nat) : Int) := by omega
  have HTH : Hid ((W1.alloc (.cells #[.int .i64 0, .int .i64 0, .slice none 0 0, .int .i64 0, .int .i64 0] 70)).there W1.heap.size 0 F5.size) := bx_there (bx_al _ _ _) (fx_al _ _ _) (by rw [HZ5.out]; rfl)
  have HWN : Hid (Below W1.heap.size W1 ((W1.alloc (.cells #[.int .i64 0, .int .i64 0, .slice none 0 0, .int .i64 0, .int .i64 0] 70)).setCells W1.heap.size 0 F5.toList) ∧ W1.heap.size < ((W1.alloc (.cells #[.int .i64 0, .int .i64 0, .slice none 0 0, .int .i64 0, .int .i64 0] 70)).setCells W1.heap.size 0 F5.toList).heap.size ∧ (∀ o, ((W1.alloc (.cells #[.int .i64 0, .int .i64 0, .slice none 0 0, .int .i64 0, .int .i64 0] 70)).setCells W1.heap.size 0 F5.toList).cell? ⟨W1.heap.size, o, none⟩ = F5[o]?) ∧ (∀ o, ((W1.alloc (.cells #[.int .i64 0, .int .i64 0, .slice none 0 0, .int .i64 0, .int .i64 0] 70)).setCells W1.heap.size 0 F5.toList).frozen? ⟨W1.heap.size, o, none⟩ = false)) := ⟨setCells_below (Nat.le_refl _) _ _ _ _ ((Below.refl _ _).alloc (Nat.le_refl _) _), by rw [setCells_size]; simp, bx_setCells (bx_al W1 _ _) (by rw [HZ5.out]; rfl), fx_sets (fx_al _ _ _)⟩
  go_upto_region 2 with (first | (refine wpList_load_mid rfl 70 _ rfl _ _ (by rfl) F5.toList _ HRW.out Tryz.underlying70 rfl HI5'.out ?_) | (refine wpList_store_mid rfl 70 _ _ rfl _ _ F5 (by rfl) (by rfl) HTH.out HI5.out HON5.out ?_))
  generalize hWW : ((W1.alloc (.cells #[.int .i64 0, .int .i64 0, .slice none 0 0, .int .i64 0, .int .i64 0] 70)).setCells W1.heap.size 0 F5.toList) = W2 at HWN ⊢
  clear hWW HTH
  obtain ⟨hb, zF, kF, fF⟩ := HWN.out
  clear HWN
  obtain ⟨bF, hq⟩ : ∃ q, q = W1.heap.size := ⟨_, rfl⟩
  rw [← hq] at zF kF fF ⊢
  have lAF : w.heap.size < bF := by rw [hq]; exact zA
  have lXF : w.heap.size + 1 < bF := by rw [hq]; exact zX
  have lRF : w.heap.size + 2 < bF := by rw [hq]; exact zR
  have lwF : w.heap.size ≤ bF := by rw [hq]; exact HB.out.size
  clear hq
  replace kA := bx_below kA zA hb
  replace zA := Nat.lt_of_lt_of_le zA hb.size
  replace kX := bx_below kX zX hb
  replace zX := Nat.lt_of_lt_of_le zX hb.size
  replace kR := bx_below kR zR hb
  replace fR := bxF fR hb zR
  replace zR := Nat.lt_of_lt_of_le zR hb.size
  replace HB : Hid (Below w.heap.size w W2) := HB.out.trans (hb.mono HB.out.size)
  clear hb
  clear HRW HRF
  go_wp2_with (first | (refine wpList_load_mid rfl 40 _ rfl _ _ (by rfl) A.toList _ (bx_range kA) Tryz.underlying40 rfl HIA.out ?_) | (refine wpList_load_mid rfl 66 _ rfl _ _ (by rfl) X.toList _ (bx_range kX) Tryz.underlying66 rfl HIX.out ?_))
  refine (HKO.out _ HB.out).mono ?_
  rintro e W3 ⟨rfl, hb⟩
  replace kA := bx_below kA zA hb
  replace zA := Nat.lt_of_lt_of_le zA hb.size
  replace kX := bx_below kX zX hb
  replace zX := Nat.lt_of_lt_of_le zX hb.size
  replace kR := bx_below kR zR hb
  replace fR := bxF fR hb zR
  replace zR := Nat.lt_of_lt_of_le zR hb.size
  replace kF := bx_below kF zF hb
  replace fF := bxF fF hb zF
  replace zF := Nat.lt_of_lt_of_le zF hb.size
  replace HB : Hid (Below w.heap.size w W3) := HB.out.trans (hb.mono HB.out.size)
  clear hb
  clear HKO
  have HTH : Hid ((W3.alloc (.cells #[.int .i64 0, .int .i64 0, .bool false, .bool false, .bool false, .int .i64 0, .int .i64 0, .int .i64 0, .int .i64 0, .int .i64 0, .int .i64 0, .slice none 0 0] 31)).there W3.heap.size 0 G.size) := bx_there (bx_al _ _ _) (fx_al _ _ _) (by rw [HGZ.out]; rfl)
  have HWN : Hid (Below W3.heap.size W3 ((W3.alloc (.cells #[.int .i64 0, .int .i64 0, .bool false, .bool false, .bool false, .int .i64 0, .int .i64 0, .int .i64 0, .int .i64 0, .int .i64 0, .int .i64 0, .slice none 0 0] 31)).setCells W3.heap.size 0 G.toList) ∧ W3.heap.size < ((W3.alloc (.cells #[.int .i64 0, .int .i64 0, .bool false, .bool false, .bool false, .int .i64 0, .int .i64 0, .int .i64 0, .int .i64 0, .int .i64 0, .int .i64 0, .slice none 0 0] 31)).setCells W3.heap.size 0 G.toList).heap.size ∧ (∀ o, ((W3.alloc (.cells #[.int .i64 0, .int .i64 0, .bool false, .bool false, .bool false, .int .i64 0, .int .i64 0, .int .i64 0, .int .i64 0, .int .i64 0, .int .i64 0, .slice none 0 0] 31)).setCells W3.heap.size 0 G.toList).cell? ⟨W3.heap.size, o, none⟩ = G[o]?) ∧ (∀ o, ((W3.alloc (.cells #[.int .i64 0, .int .i64 0, .bool false, .bool false, .bool false, .int .i64 0, .int .i64 0, .int .i64 0, .int .i64 0, .int .i64 0, .int .i64 0, .slice none 0 0] 31)).setCells W3.heap.size 0 G.toList).frozen? ⟨W3.heap.size, o, none⟩ = false)) := ⟨setCells_below (Nat.le_refl _) _ _ _ _ ((Below.refl _ _).alloc (Nat.le_refl _) _), by rw [setCells_size]; simp, bx_setCells (bx_al W3 _ _) (by rw [HGZ.out]; rfl), fx_sets (fx_al _ _ _)⟩
  go_upto_region 3 with (first | (refine wpList_store_mid rfl 31 _ _ rfl _ _ G (by rfl) (by rfl) HTH.out HIG.out HONG.out ?_))
  generalize hWW : ((W3.alloc (.cells #[.int .i64 0, .int .i64 0, .bool false, .bool false, .bool false, .int .i64 0, .int .i64 0, .int .i64 0, .int .i64 0, .int .i64 0, .int .i64 0, .slice none 0 0] 31)).setCells W3.heap.size 0 G.toList) = W4 at HWN ⊢
  clear hWW HTH
  obtain ⟨hb, zG, kG, fG⟩ := HWN.out
  clear HWN
  obtain ⟨bG, hq⟩ : ∃ q, q = W3.heap.size := ⟨_, rfl⟩
  rw [← hq] at zG kG fG ⊢
  have lAG : w.heap.size < bG := by rw [hq]; exact zA
  have lXG : w.heap.size + 1 < bG := by rw [hq]; exact zX
  have lRG : w.heap.size + 2 < bG := by rw [hq]; exact zR
  have lFG : bF < bG := by rw [hq]; exact zF
  have lwG : w.heap.size ≤ bG := by rw [hq]; exact HB.out.size
  clear hq
  replace kA := bx_below kA zA hb
  replace zA := Nat.lt_of_lt_of_le zA hb.size
  replace kX := bx_below kX zX hb
  replace zX := Nat.lt_of_lt_of_le zX hb.size
  replace kR := bx_below kR zR hb
  replace fR := bxF fR hb zR
  replace zR := Nat.lt_of_lt_of_le zR hb.size
  replace kF := bx_below kF zF hb
  replace fF := bxF fF hb zF
  replace zF := Nat.lt_of_lt_of_le zF hb.size
  replace HB : Hid (Below w.heap.size w W4) := HB.out.trans (hb.mono HB.out.size)
  clear hb
  rw [HG.out] at kG
  clear HG HGZ HIG HONG
  go_wp2_with (refine wpList_load_mid rfl 59 _ rfl _ _ (by rfl) [.int .i64 s0, .int .i64 s1, .int .i64 s2, .slice (some ⟨fb, foff, none⟩) fn fc] _ (bx_sub kX (sub4 x6 x7 x8 x9)) Tryz.underlying59 rfl HIS.out ?_)
  refine (HSO.out _ HB.out).mono ?_
  rintro e W5 ⟨rfl, hb⟩
  replace kA := bx_below kA zA hb
  replace zA := Nat.lt_of_lt_of_le zA hb.size
  replace kX := bx_below kX zX hb
  replace zX := Nat.lt_of_lt_of_le zX hb.size
  replace kR := bx_below kR zR hb
  replace fR := bxF fR hb zR
  replace zR := Nat.lt_of_lt_of_le zR hb.size
  replace kF := bx_below kF zF hb
  replace fF := bxF fF hb zF
  replace zF := Nat.lt_of_lt_of_le zF hb.size
  replace kG := bx_below kG zG hb
  replace fG := bxF fG hb zG
  replace zG := Nat.lt_of_lt_of_le zG hb.size
  replace HB : Hid (Below w.heap.size w W5) := HB.out.trans (hb.mono HB.out.size)
  clear hb
  clear HSO
  go_upto_region 4 with fail
  replace kG := bx_put kG (k := 5) (v := .int .i64 SQ) (by simp)
  simp only [List.setIfInBounds_toArray, List.set_cons_zero, List.set_cons_succ] at kG
  replace kA : ∀ o, (W5.setCell ⟨bG, 5, none⟩ (.int .i64 SQ)).cell? ⟨w.heap.size, o, none⟩ = (A)[o]? := bx_setC kA (by omega)
  replace zA : w.heap.size < (W5.setCell ⟨bG, 5, none⟩ (.int .i64 SQ)).heap.size := by have h : (W5.setCell ⟨bG, 5, none⟩ (.int .i64 SQ)).heap.size = W5.heap.size := (by simp); omega
  replace kX : ∀ o, (W5.setCell ⟨bG, 5, none⟩ (.int .i64 SQ)).cell? ⟨w.heap.size + 1, o, none⟩ = (X)[o]? := bx_setC kX (by omega)
  replace zX : w.heap.size + 1 < (W5.setCell ⟨bG, 5, none⟩ (.int .i64 SQ)).heap.size := by have h : (W5.setCell ⟨bG, 5, none⟩ (.int .i64 SQ)).heap.size = W5.heap.size := (by simp); omega
  replace kR : ∀ o, (W5.setCell ⟨bG, 5, none⟩ (.int .i64 SQ)).cell? ⟨w.heap.size + 2, o, none⟩ = (#[.int .i64 0, .int .i64 0, .bool false, .bool false, .bool false, .int .i64 0, .int .i64 0, .int .i64 0, .int .i64 0, .int .i64 0, .int .i64 0, .slice none 0 0] : Array Value)[o]? := bx_setC kR (by omega)
  replace fR : ∀ o, (W5.setCell ⟨bG, 5, none⟩ (.int .i64 SQ)).frozen? ⟨w.heap.size + 2, o, none⟩ = false := fx_setC fR
  replace zR : w.heap.size + 2 < (W5.setCell ⟨bG, 5, none⟩ (.int .i64 SQ)).heap.size := by have h : (W5.setCell ⟨bG, 5, none⟩ (.int .i64 SQ)).heap.size = W5.heap.size := (by simp); omega
  replace kF : ∀ o, (W5.setCell ⟨bG, 5, none⟩ (.int .i64 SQ)).cell? ⟨bF, o, none⟩ = (F5)[o]? := bx_setC kF (by omega)
  replace fF : ∀ o, (W5.setCell ⟨bG, 5, none⟩ (.int .i64 SQ)).frozen? ⟨bF, o, none⟩ = false := fx_setC fF
  replace zF : bF < (W5.setCell ⟨bG, 5, none⟩ (.int .i64 SQ)).heap.size := by have h : (W5.setCell ⟨bG, 5, none⟩ (.int .i64 SQ)).heap.size = W5.heap.size := (by simp); omega
  replace fG : ∀ o, (W5.setCell ⟨bG, 5, none⟩ (.int .i64 SQ)).frozen? ⟨bG, o, none⟩ = false := fx_setC fG
  replace zG : bG < (W5.setCell ⟨bG, 5, none⟩ (.int .i64 SQ)).heap.size := by have h : (W5.setCell ⟨bG, 5, none⟩ (.int .i64 SQ)).heap.size = W5.heap.size := (by simp); omega
  replace HB : Hid (Below w.heap.size w (W5.setCell ⟨bG, 5, none⟩ (.int .i64 SQ))) := Below.setCell (p := ⟨bG, 5, none⟩) HB.out (by dsimp only; omega) _
  generalize hWW : (W5.setCell ⟨bG, 5, none⟩ (.int .i64 SQ)) = W6 at kA zA kX zX kR zR fR kF zF fF kG zG fG HB ⊢
  clear hWW
  go_wp2_with fail
  refine (HCB.out _ HB.out).mono ?_
  rintro e W7 ⟨b1, c1, rfl, ho, hb⟩
  obtain ⟨hY, ehY⟩ : ∃ x, x = W6.heap.size := ⟨_, rfl⟩
  obtain ⟨tY, etY⟩ : ∃ x, x = W7.heap.size := ⟨_, rfl⟩
  have lAY : w.heap.size < hY := by rw [ehY]; exact zA
  have lXY : w.heap.size + 1 < hY := by rw [ehY]; exact zX
  have lRY : w.heap.size + 2 < hY := by rw [ehY]; exact zR
  have lFY : bF < hY := by rw [ehY]; exact zF
  have lGY : bG < hY := by rw [ehY]; exact zG
  replace kA := bx_below kA zA hb
  replace zA := Nat.lt_of_lt_of_le zA hb.size
  replace kX := bx_below kX zX hb
  replace zX := Nat.lt_of_lt_of_le zX hb.size
  replace kR := bx_below kR zR hb
  replace fR := bxF fR hb zR
  replace zR := Nat.lt_of_lt_of_le zR hb.size
  replace kF := bx_below kF zF hb
  replace fF := bxF fF hb zF
  replace zF := Nat.lt_of_lt_of_le zF hb.size
  replace kG := bx_below kG zG hb
  replace fG := bxF fG hb zG
  replace zG := Nat.lt_of_lt_of_le zG hb.size
  replace HB : Hid (Below w.heap.size w W7) := HB.out.trans (hb.mono HB.out.size)
  clear hb
  rw [← ehY, ← etY] at ho
  have lY : tY ≤ W7.heap.size := by omega
  have Y : Hid (Own W7 hY tY u8s fl [.slice b1 fln c1]) := ho
  clear ho ehY etY
  clear HCB
  go_upto_region 5 with fail
  replace kG := bx_put kG (k := 11) (v := .slice b1 fln c1) (by simp)
  simp only [List.setIfInBounds_toArray, List.set_cons_zero, List.set_cons_succ] at kG
  replace kA : ∀ o, (W7.setCell ⟨bG, 11, none⟩ (.slice b1 fln c1)).cell? ⟨w.heap.size, o, none⟩ = (A)[o]? := bx_setC kA (by omega)
  replace zA : w.heap.size < (W7.setCell ⟨bG, 11, none⟩ (.slice b1 fln c1)).heap.size := by have h : (W7.setCell ⟨bG, 11, none⟩ (.slice b1 fln c1)).heap.size = W7.heap.size := (by simp); omega
  replace kX : ∀ o, (W7.setCell ⟨bG, 11, none⟩ (.slice b1 fln c1)).cell? ⟨w.heap.size + 1, o, none⟩ = (X)[o]? := bx_setC kX (by omega)
  replace zX : w.heap.size + 1 < (W7.setCell ⟨bG, 11, none⟩ (.slice b1 fln c1)).heap.size := by have h : (W7.setCell ⟨bG, 11, none⟩ (.slice b1 fln c1)).heap.size = W7.heap.size := (by simp); omega
  replace kR : ∀ o, (W7.setCell ⟨bG, 11, none⟩ (.slice b1 fln c1)).cell? ⟨w.heap.size + 2, o, none⟩ = (#[.int .i64 0, .int .i64 0, .bool false, .bool false, .bool false, .int .i64 0, .int .i64 0, .int .i64 0, .int .i64 0, .int .i64 0, .int .i64 0, .slice none 0 0] : Array Value)[o]? := bx_setC kR (by omega)
  replace fR : ∀ o, (W7.setCell ⟨bG, 11, none⟩ (.slice b1 fln c1)).frozen? ⟨w.heap.size + 2, o, none⟩ = false := fx_setC fR
  replace zR : w.heap.size + 2 < (W7.setCell ⟨bG, 11, none⟩ (.slice b1 fln c1)).heap.size := by have h : (W7.setCell ⟨bG, 11, none⟩ (.slice b1 fln c1)).heap.size = W7.heap.size := (by simp); omega
  replace kF : ∀ o, (W7.setCell ⟨bG, 11, none⟩ (.slice b1 fln c1)).cell? ⟨bF, o, none⟩ = (F5)[o]? := bx_setC kF (by omega)
  replace fF : ∀ o, (W7.setCell ⟨bG, 11, none⟩ (.slice b1 fln c1)).frozen? ⟨bF, o, none⟩ = false := fx_setC fF
  replace zF : bF < (W7.setCell ⟨bG, 11, none⟩ (.slice b1 fln c1)).heap.size := by have h : (W7.setCell ⟨bG, 11, none⟩ (.slice b1 fln c1)).heap.size = W7.heap.size := (by simp); omega
  replace fG : ∀ o, (W7.setCell ⟨bG, 11, none⟩ (.slice b1 fln c1)).frozen? ⟨bG, o, none⟩ = false := fx_setC fG
  replace zG : bG < (W7.setCell ⟨bG, 11, none⟩ (.slice b1 fln c1)).heap.size := by have h : (W7.setCell ⟨bG, 11, none⟩ (.slice b1 fln c1)).heap.size = W7.heap.size := (by simp); omega
  replace Y : Hid (Own (W7.setCell ⟨bG, 11, none⟩ (.slice b1 fln c1)) hY tY u8s fl [.slice b1 fln c1]) := Own.keep Y.out (fun b h1 h2 => Below.heap_setCell _ _ _ _ (by dsimp only; omega))
  replace lY : tY ≤ (W7.setCell ⟨bG, 11, none⟩ (.slice b1 fln c1)).heap.size := by have h : (W7.setCell ⟨bG, 11, none⟩ (.slice b1 fln c1)).heap.size = W7.heap.size := (by simp); omega
  replace HB : Hid (Below w.heap.size w (W7.setCell ⟨bG, 11, none⟩ (.slice b1 fln c1))) := Below.setCell (p := ⟨bG, 11, none⟩) HB.out (by dsimp only; omega) _
  generalize hWW : (W7.setCell ⟨bG, 11, none⟩ (.slice b1 fln c1)) = W8 at kA zA kX zX kR zR fR kF zF fF kG zG fG Y lY HB ⊢
  clear hWW
  cases pl with
  | true =>
    skip
    obtain ⟨N, hN⟩ : ∃ N : Array Value, N = #[.int .i64 pa, .int .i64 sd, .bool false, .bool true, .bool false, .int .i64 SQ, .int .i64 AK, .int .i64 EN, .int .i64 OP, .int .i64 OA, .int .i64 0, .slice b1 fln c1] := ⟨_, rfl⟩
    rw [← hN] at kG
    have hNz : N.size = 12 := by rw [hN]; rfl
    have HIN : Hid ((Tryz.prog.info? 31).map (·.size) = some N.size) := by show _ = _; rw [hNz]; exact (by kernel_rfl : (Tryz.prog.info? 31).map (·.size) = some 12)
    have HIN' : Hid ((Tryz.prog.info? 31).map (·.size) = some N.toList.length) := by show _ = _; rw [Array.length_toList]; exact HIN.out
    have HN : Hid _ := hN
    have HONN : Hid (N.all (·.oneCell') = true) := by show _ = _; rw [hN]; simp [Value.oneCell']
    have HTHN : Hid (W8.there (w.heap.size + 2) 0 N.size) := bx_there kR fR (by rw [hNz]; rfl)
    have kF : Hid (∀ o, (W8.setCells (w.heap.size + 2) 0 N.toList).cell? ⟨w.heap.size + 2, o, none⟩ = N[o]?) := bx_setCells kR (by rw [hNz]; rfl)
    clear hN hNz
    go_wp2_with (first | (refine wpList_load_mid rfl 31 _ rfl _ _ (by rfl) N.toList _ (bx_range kG) Tryz.underlying31 rfl HIN'.out ?_) | (refine wpList_store_mid rfl 31 _ _ rfl _ _ N (by rfl) (by rfl) HTHN.out HIN.out HONN.out ?_))
    refine bodyPost_ret (results_box Tryz.results29 _ _ _ N _ (by rfl) kF.out Tryz.underlying31 rfl HIN.out) rfl ⟨.slice b1 fln c1, ?_, ?_, ?_⟩
    · rw [HN.out]
    · refine Own.mono (Own.keep Y.out fun b hb hlt => setCells_block (by omega) _ _ _) (by omega) (by rw [setCells_size]; omega)
    · exact setCells_below (by omega) _ _ _ _ HB.out
  | false =>
    have hw64 : IntKind.i64.wrap (1000 * fda) = 1000 * fda := by simp only [IntKind.wrap, IntKind.bits, IntKind.signed]; simp; omega
    have hw65 : IntKind.i64.wrap (OA + 1000 * fda) = OA + 1000 * fda := by simp only [IntKind.wrap, IntKind.bits, IntKind.signed]; simp; omega
    go_upto_region 7 with fail
    replace kG := bx_put kG (k := 9) (v := .int .i64 (OA + 1000 * fda)) (by simp)
    simp only [List.setIfInBounds_toArray, List.set_cons_zero, List.set_cons_succ] at kG
    replace kA : ∀ o, (W8.setCell ⟨bG, 9, none⟩ (.int .i64 (OA + 1000 * fda))).cell? ⟨w.heap.size, o, none⟩ = (A)[o]? := bx_setC kA (by omega)
    replace zA : w.heap.size < (W8.setCell ⟨bG, 9, none⟩ (.int .i64 (OA + 1000 * fda))).heap.size := by have h : (W8.setCell ⟨bG, 9, none⟩ (.int .i64 (OA + 1000 * fda))).heap.size = W8.heap.size := (by simp); omega
    replace kX : ∀ o, (W8.setCell ⟨bG, 9, none⟩ (.int .i64 (OA + 1000 * fda))).cell? ⟨w.heap.size + 1, o, none⟩ = (X)[o]? := bx_setC kX (by omega)
    replace zX : w.heap.size + 1 < (W8.setCell ⟨bG, 9, none⟩ (.int .i64 (OA + 1000 * fda))).heap.size := by have h : (W8.setCell ⟨bG, 9, none⟩ (.int .i64 (OA + 1000 * fda))).heap.size = W8.heap.size := (by simp); omega
    replace kR : ∀ o, (W8.setCell ⟨bG, 9, none⟩ (.int .i64 (OA + 1000 * fda))).cell? ⟨w.heap.size + 2, o, none⟩ = (#[.int .i64 0, .int .i64 0, .bool false, .bool false, .bool false, .int .i64 0, .int .i64 0, .int .i64 0, .int .i64 0, .int .i64 0, .int .i64 0, .slice none 0 0] : Array Value)[o]? := bx_setC kR (by omega)
    replace fR : ∀ o, (W8.setCell ⟨bG, 9, none⟩ (.int .i64 (OA + 1000 * fda))).frozen? ⟨w.heap.size + 2, o, none⟩ = false := fx_setC fR
    replace zR : w.heap.size + 2 < (W8.setCell ⟨bG, 9, none⟩ (.int .i64 (OA + 1000 * fda))).heap.size := by have h : (W8.setCell ⟨bG, 9, none⟩ (.int .i64 (OA + 1000 * fda))).heap.size = W8.heap.size := (by simp); omega
    replace kF : ∀ o, (W8.setCell ⟨bG, 9, none⟩ (.int .i64 (OA + 1000 * fda))).cell? ⟨bF, o, none⟩ = (F5)[o]? := bx_setC kF (by omega)
    replace fF : ∀ o, (W8.setCell ⟨bG, 9, none⟩ (.int .i64 (OA + 1000 * fda))).frozen? ⟨bF, o, none⟩ = false := fx_setC fF
    replace zF : bF < (W8.setCell ⟨bG, 9, none⟩ (.int .i64 (OA + 1000 * fda))).heap.size := by have h : (W8.setCell ⟨bG, 9, none⟩ (.int .i64 (OA + 1000 * fda))).heap.size = W8.heap.size := (by simp); omega
    replace fG : ∀ o, (W8.setCell ⟨bG, 9, none⟩ (.int .i64 (OA + 1000 * fda))).frozen? ⟨bG, o, none⟩ = false := fx_setC fG
    replace zG : bG < (W8.setCell ⟨bG, 9, none⟩ (.int .i64 (OA + 1000 * fda))).heap.size := by have h : (W8.setCell ⟨bG, 9, none⟩ (.int .i64 (OA + 1000 * fda))).heap.size = W8.heap.size := (by simp); omega
    replace Y : Hid (Own (W8.setCell ⟨bG, 9, none⟩ (.int .i64 (OA + 1000 * fda))) hY tY u8s fl [.slice b1 fln c1]) := Own.keep Y.out (fun b h1 h2 => Below.heap_setCell _ _ _ _ (by dsimp only; omega))
    replace lY : tY ≤ (W8.setCell ⟨bG, 9, none⟩ (.int .i64 (OA + 1000 * fda))).heap.size := by have h : (W8.setCell ⟨bG, 9, none⟩ (.int .i64 (OA + 1000 * fda))).heap.size = W8.heap.size := (by simp); omega
    replace HB : Hid (Below w.heap.size w (W8.setCell ⟨bG, 9, none⟩ (.int .i64 (OA + 1000 * fda)))) := Below.setCell (p := ⟨bG, 9, none⟩) HB.out (by dsimp only; omega) _
    generalize hWW : (W8.setCell ⟨bG, 9, none⟩ (.int .i64 (OA + 1000 * fda))) = W9 at kA zA kX zX kR zR fR kF zF fF kG zG fG Y lY HB ⊢
    clear hWW
    go_wp2_with fail
    refine (HSU.out _ HB.out).mono ?_
    rintro e W10 ⟨rfl, hb⟩
    replace kA := bx_below kA zA hb
    replace zA := Nat.lt_of_lt_of_le zA hb.size
    replace kX := bx_below kX zX hb
    replace zX := Nat.lt_of_lt_of_le zX hb.size
    replace kR := bx_below kR zR hb
    replace fR := bxF fR hb zR
    replace zR := Nat.lt_of_lt_of_le zR hb.size
    replace kF := bx_below kF zF hb
    replace fF := bxF fF hb zF
    replace zF := Nat.lt_of_lt_of_le zF hb.size
    replace kG := bx_below kG zG hb
    replace fG := bxF fG hb zG
    replace zG := Nat.lt_of_lt_of_le zG hb.size
    replace Y : Hid (Own W10 hY tY u8s fl [.slice b1 fln c1]) := Own.below Y.out (by omega) hb
    replace lY : tY ≤ W10.heap.size := Nat.le_trans lY hb.size
    replace HB : Hid (Below w.heap.size w W10) := HB.out.trans (hb.mono HB.out.size)
    clear hb
    go_upto_region 8 with fail
    replace kG := bx_put kG (k := 10) (v := .int .i64 SU) (by simp)
    simp only [List.setIfInBounds_toArray, List.set_cons_zero, List.set_cons_succ] at kG
    replace kA : ∀ o, (W10.setCell ⟨bG, 10, none⟩ (.int .i64 SU)).cell? ⟨w.heap.size, o, none⟩ = (A)[o]? := bx_setC kA (by omega)
    replace zA : w.heap.size < (W10.setCell ⟨bG, 10, none⟩ (.int .i64 SU)).heap.size := by have h : (W10.setCell ⟨bG, 10, none⟩ (.int .i64 SU)).heap.size = W10.heap.size := (by simp); omega
    replace kX : ∀ o, (W10.setCell ⟨bG, 10, none⟩ (.int .i64 SU)).cell? ⟨w.heap.size + 1, o, none⟩ = (X)[o]? := bx_setC kX (by omega)
    replace zX : w.heap.size + 1 < (W10.setCell ⟨bG, 10, none⟩ (.int .i64 SU)).heap.size := by have h : (W10.setCell ⟨bG, 10, none⟩ (.int .i64 SU)).heap.size = W10.heap.size := (by simp); omega
    replace kR : ∀ o, (W10.setCell ⟨bG, 10, none⟩ (.int .i64 SU)).cell? ⟨w.heap.size + 2, o, none⟩ = (#[.int .i64 0, .int .i64 0, .bool false, .bool false, .bool false, .int .i64 0, .int .i64 0, .int .i64 0, .int .i64 0, .int .i64 0, .int .i64 0, .slice none 0 0] : Array Value)[o]? := bx_setC kR (by omega)
    replace fR : ∀ o, (W10.setCell ⟨bG, 10, none⟩ (.int .i64 SU)).frozen? ⟨w.heap.size + 2, o, none⟩ = false := fx_setC fR
    replace zR : w.heap.size + 2 < (W10.setCell ⟨bG, 10, none⟩ (.int .i64 SU)).heap.size := by have h : (W10.setCell ⟨bG, 10, none⟩ (.int .i64 SU)).heap.size = W10.heap.size := (by simp); omega
    replace kF : ∀ o, (W10.setCell ⟨bG, 10, none⟩ (.int .i64 SU)).cell? ⟨bF, o, none⟩ = (F5)[o]? := bx_setC kF (by omega)
    replace fF : ∀ o, (W10.setCell ⟨bG, 10, none⟩ (.int .i64 SU)).frozen? ⟨bF, o, none⟩ = false := fx_setC fF
    replace zF : bF < (W10.setCell ⟨bG, 10, none⟩ (.int .i64 SU)).heap.size := by have h : (W10.setCell ⟨bG, 10, none⟩ (.int .i64 SU)).heap.size = W10.heap.size := (by simp); omega
    replace fG : ∀ o, (W10.setCell ⟨bG, 10, none⟩ (.int .i64 SU)).frozen? ⟨bG, o, none⟩ = false := fx_setC fG
    replace zG : bG < (W10.setCell ⟨bG, 10, none⟩ (.int .i64 SU)).heap.size := by have h : (W10.setCell ⟨bG, 10, none⟩ (.int .i64 SU)).heap.size = W10.heap.size := (by simp); omega
    replace Y : Hid (Own (W10.setCell ⟨bG, 10, none⟩ (.int .i64 SU)) hY tY u8s fl [.slice b1 fln c1]) := Own.keep Y.out (fun b h1 h2 => Below.heap_setCell _ _ _ _ (by dsimp only; omega))
    replace lY : tY ≤ (W10.setCell ⟨bG, 10, none⟩ (.int .i64 SU)).heap.size := by have h : (W10.setCell ⟨bG, 10, none⟩ (.int .i64 SU)).heap.size = W10.heap.size := (by simp); omega
    replace HB : Hid (Below w.heap.size w (W10.setCell ⟨bG, 10, none⟩ (.int .i64 SU))) := Below.setCell (p := ⟨bG, 10, none⟩) HB.out (by dsimp only; omega) _
    generalize hWW : (W10.setCell ⟨bG, 10, none⟩ (.int .i64 SU)) = W11 at kA zA kX zX kR zR fR kF zF fF kG zG fG Y lY HB ⊢
    clear hWW
    obtain ⟨N, hN⟩ : ∃ N : Array Value, N = #[.int .i64 pa, .int .i64 sd, .bool false, .bool true, .bool false, .int .i64 SQ, .int .i64 AK, .int .i64 EN, .int .i64 OP, .int .i64 (OA + 1000 * fda), .int .i64 SU, .slice b1 fln c1] := ⟨_, rfl⟩
    rw [← hN] at kG
    have hNz : N.size = 12 := by rw [hN]; rfl
    have HIN : Hid ((Tryz.prog.info? 31).map (·.size) = some N.size) := by show _ = _; rw [hNz]; exact (by kernel_rfl : (Tryz.prog.info? 31).map (·.size) = some 12)
    have HIN' : Hid ((Tryz.prog.info? 31).map (·.size) = some N.toList.length) := by show _ = _; rw [Array.length_toList]; exact HIN.out
    have HN : Hid _ := hN
    have HONN : Hid (N.all (·.oneCell') = true) := by show _ = _; rw [hN]; simp [Value.oneCell']
    have HTHN : Hid (W11.there (w.heap.size + 2) 0 N.size) := bx_there kR fR (by rw [hNz]; rfl)
    have kF : Hid (∀ o, (W11.setCells (w.heap.size + 2) 0 N.toList).cell? ⟨w.heap.size + 2, o, none⟩ = N[o]?) := bx_setCells kR (by rw [hNz]; rfl)
    clear hN hNz
    go_wp2_with (first | (refine wpList_load_mid rfl 31 _ rfl _ _ (by rfl) N.toList _ (bx_range kG) Tryz.underlying31 rfl HIN'.out ?_) | (refine wpList_store_mid rfl 31 _ _ rfl _ _ N (by rfl) (by rfl) HTHN.out HIN.out HONN.out ?_))
    refine bodyPost_ret (results_box Tryz.results29 _ _ _ N _ (by rfl) kF.out Tryz.underlying31 rfl HIN.out) rfl ⟨.slice b1 fln c1, ?_, ?_, ?_⟩
    · rw [HN.out]
    · refine Own.mono (Own.keep Y.out fun b hb hlt => setCells_block (by omega) _ _ _) (by omega) (by rw [setCells_size]; omega)
    · exact setCells_below (by omega) _ _ _ _ HB.out
set_option maxHeartbeats 8000000 in
theorem sL11Load0 (cb of sb so : Nat) (F5 : Array Value) (pa sd SQ0 AK EN OP OA DA : Int) (pl : Bool) (s0 fat fda SQ SU : Int) (fla : Option Addr) (fln flc : Nat) (fl : List Int) (w : World) (hF5 : F5.size = 5) (hcb : cb < w.heap.size) (hsb : sb < w.heap.size)
    (c3 : w.cell? ⟨cb, of + 3, none⟩ = some (.bool pl)) (s6 : w.cell? ⟨sb, so + 6, none⟩ = some (.int .i64 s0)) (f0 : F5[0]? = some (.int .i64 fat)) (f1 : F5[1]? = some (.int .i64 fda)) (f2 : F5[2]? = some (.slice fla fln flc)) (hl : fl.length = fln) (hrb : RB w fla fl) (hnil : fla = none → flc = 0) (hfn : fln ≤ 1048576) (hDA : 0 ≤ DA ∧ DA ≤ 1000000000) (hda : 0 ≤ fda ∧ fda ≤ 1000000000) (hSQ : wrp (s0 + fat) = SQ)
    (hTE : ∀ W, Below w.heap.size w W → Calls Tryz.prog 48 #[.pointer (some ⟨cb, of, none⟩), .pointer (some ⟨sb, so, none⟩)] W fun e w' => e = .returned (.agg #[.int .i64 pa, .int .i64 sd, .bool false, .bool true, .bool false, .int .i64 SQ0, .int .i64 AK, .int .i64 EN, .int .i64 OP, .int .i64 OA, .int .i64 0, .slice none 0 0]) ∧ Below W.heap.size W w')
    (hDK : ∀ W, Below w.heap.size w W → Calls Tryz.prog 50 #[.pointer (some ⟨cb, of, none⟩)] W fun e w' => e = .returned (.int .i64 DA) ∧ Below W.heap.size W w')
    (hSU : ∀ W, Below w.heap.size w W → Calls Tryz.prog 51 #[.int .i64 fda, .slice fla fln flc] W fun e w' => e = .returned (.int .i64 SU) ∧ Below W.heap.size W w') :
    Calls Tryz.prog 22 #[.pointer (some ⟨cb, of, none⟩), .pointer (some ⟨sb, so, none⟩), .agg F5] w fun e w' => ∃ u, e = .returned (.agg #[.int .i64 pa, .int .i64 sd, .bool false, .bool true, .bool false, .int .i64 SQ, .int .i64 AK, .int .i64 EN, .int .i64 OP, .int .i64 (if pl then OA else DA + 1000 * fda), .int .i64 (if pl then 0 else SU), u]) ∧ Own w' w.heap.size w'.heap.size u8s fl [u] ∧ Below w.heap.size w w' := by
  obtain ⟨G, hG⟩ : ∃ G : Array Value, G = #[.int .i64 pa, .int .i64 sd, .bool false, .bool true, .bool false, .int .i64 SQ0, .int .i64 AK, .int .i64 EN, .int .i64 OP, .int .i64 OA, .int .i64 0, .slice none 0 0] := ⟨_, rfl⟩
  have HG : Hid _ := hG
  have HGZ : Hid (G.size = 12) := by show _ = _; rw [hG]; rfl
  have HIG : Hid ((Tryz.prog.info? 31).map (·.size) = some G.size) := by show _ = _; rw [HGZ.out]; exact (by kernel_rfl : (Tryz.prog.info? 31).map (·.size) = some 12)
  have HONG : Hid (G.all (·.oneCell') = true) := by show _ = _; rw [hG]; simp [Value.oneCell']
  rw [← hG] at hTE
  have HTE : Hid _ := hTE
  have HDK : Hid _ := hDK
  have HSU : Hid _ := hSU
  have HL : Hid _ := hl
  have HNI : Hid _ := hnil
  have HRB : Hid (∀ W, Below w.heap.size w W → RB W fla fl) := fun W hW => hrb.below (Nat.le_refl _) hW
  have HAD : Hid (∀ W, Calls Tryz.prog 49 #[.int .i64 s0, .int .i64 fat] W fun e w' => e = .returned (.int .i64 SQ) ∧ w' = W) := fun W => by have h := sAdd s0 fat W; rw [hSQ] at h; exact h
  clear hG hTE hDK hSU hl hnil hrb hSQ hF5
  have HWA : Hid (Below w.heap.size w ((w.alloc (.cells F5 70)).alloc (.cells #[.int .i64 0, .int .i64 0, .bool false, .bool false, .bool false, .int .i64 0, .int .i64 0, .int .i64 0, .int .i64 0, .int .i64 0, .int .i64 0, .slice none 0 0] 31)) ∧ ((w.alloc (.cells F5 70)).alloc (.cells #[.int .i64 0, .int .i64 0, .bool false, .bool false, .bool false, .int .i64 0, .int .i64 0, .int .i64 0, .int .i64 0, .int .i64 0, .int .i64 0, .slice none 0 0] 31)).heap.size = w.heap.size + 2 ∧ (∀ o, ((w.alloc (.cells F5 70)).alloc (.cells #[.int .i64 0, .int .i64 0, .bool false, .bool false, .bool false, .int .i64 0, .int .i64 0, .int .i64 0, .int .i64 0, .int .i64 0, .int .i64 0, .slice none 0 0] 31)).cell? ⟨w.heap.size, o, none⟩ = F5[o]?) ∧ (∀ o, ((w.alloc (.cells F5 70)).alloc (.cells #[.int .i64 0, .int .i64 0, .bool false, .bool false, .bool false, .int .i64 0, .int .i64 0, .int .i64 0, .int .i64 0, .int .i64 0, .int .i64 0, .slice none 0 0] 31)).cell? ⟨w.heap.size + 1, o, none⟩ = (#[.int .i64 0, .int .i64 0, .bool false, .bool false, .bool false, .int .i64 0, .int .i64 0, .int .i64 0, .int .i64 0, .int .i64 0, .int .i64 0, .slice none 0 0] : Array Value)[o]?) ∧ (∀ o, ((w.alloc (.cells F5 70)).alloc (.cells #[.int .i64 0, .int .i64 0, .bool false, .bool false, .bool false, .int .i64 0, .int .i64 0, .int .i64 0, .int .i64 0, .int .i64 0, .int .i64 0, .slice none 0 0] 31)).frozen? ⟨w.heap.size + 1, o, none⟩ = false)) := ⟨((Below.refl _ _).alloc (Nat.le_refl _) _).alloc (by simp) _, by simp, fun o => by simp [go_sem], fun o => by simp [go_sem], fun o => by simp [go_sem]⟩
  go_enter Tryz.func22, Tryz.ntmps22
  go_upto_region 1 with fail
  generalize hWW : ((w.alloc (.cells F5 70)).alloc (.cells #[.int .i64 0, .int .i64 0, .bool false, .bool false, .bool false, .int .i64 0, .int .i64 0, .int .i64 0, .int .i64 0, .int .i64 0, .int .i64 0, .slice none 0 0] 31)) = W1 at HWA ⊢
  clear hWW
  obtain ⟨hb, hsz, kF, kR, fR⟩ := HWA.out
  clear HWA
  have HB : Hid (Below w.heap.size w W1) := hb
  have zF : w.heap.size < W1.heap.size := by omega
  have zR : w.heap.size + 1 < W1.heap.size := by omega
  clear hb hsz
  go_wp2_with fail
  refine (HTE.out _ HB.out).mono ?_
  rintro e W3 ⟨rfl, hb⟩
  replace kF := bx_below kF zF hb
  replace zF := Nat.lt_of_lt_of_le zF hb.size
  replace kR := bx_below kR zR hb
  replace fR := bxF fR hb zR
  replace zR := Nat.lt_of_lt_of_le zR hb.size
  replace HB : Hid (Below w.heap.size w W3) := HB.out.trans (hb.mono HB.out.size)
  clear hb
  clear HTE
  have HTH : Hid ((W3.alloc (.cells #[.int .i64 0, .int .i64 0, .bool false, .bool false, .bool false, .int .i64 0, .int .i64 0, .int .i64 0, .int .i64 0, .int .i64 0, .int .i64 0, .slice none 0 0] 31)).there W3.heap.size 0 G.size) := bx_there (bx_al _ _ _) (fx_al _ _ _) (by rw [HGZ.out]; rfl)
  have HWN : Hid (Below W3.heap.size W3 ((W3.alloc (.cells #[.int .i64 0, .int .i64 0, .bool false, .bool false, .bool false, .int .i64 0, .int .i64 0, .int .i64 0, .int .i64 0, .int .i64 0, .int .i64 0, .slice none 0 0] 31)).setCells W3.heap.size 0 G.toList) ∧ W3.heap.size < ((W3.alloc (.cells #[.int .i64 0, .int .i64 0, .bool false, .bool false, .bool false, .int .i64 0, .int .i64 0, .int .i64 0, .int .i64 0, .int .i64 0, .int .i64 0, .slice none 0 0] 31)).setCells W3.heap.size 0 G.toList).heap.size ∧ (∀ o, ((W3.alloc (.cells #[.int .i64 0, .int .i64 0, .bool false, .bool false, .bool false, .int .i64 0, .int .i64 0, .int .i64 0, .int .i64 0, .int .i64 0, .int .i64 0, .slice none 0 0] 31)).setCells W3.heap.size 0 G.toList).cell? ⟨W3.heap.size, o, none⟩ = G[o]?) ∧ (∀ o, ((W3.alloc (.cells #[.int .i64 0, .int .i64 0, .bool false, .bool false, .bool false, .int .i64 0, .int .i64 0, .int .i64 0, .int .i64 0, .int .i64 0, .int .i64 0, .slice none 0 0] 31)).setCells W3.heap.size 0 G.toList).frozen? ⟨W3.heap.size, o, none⟩ = false)) := ⟨setCells_below (Nat.le_refl _) _ _ _ _ ((Below.refl _ _).alloc (Nat.le_refl _) _), by rw [setCells_size]; simp, bx_setCells (bx_al W3 _ _) (by rw [HGZ.out]; rfl), fx_sets (fx_al _ _ _)⟩
  go_upto_region 2 with (first | (refine wpList_store_mid rfl 31 _ _ rfl _ _ G (by rfl) (by rfl) HTH.out HIG.out HONG.out ?_))
  generalize hWW : ((W3.alloc (.cells #[.int .i64 0, .int .i64 0, .bool false, .bool false, .bool false, .int .i64 0, .int .i64 0, .int .i64 0, .int .i64 0, .int .i64 0, .int .i64 0, .slice none 0 0] 31)).setCells W3.heap.size 0 G.toList) = W4 at HWN ⊢
  clear hWW HTH
  obtain ⟨hb, zG, kG, fG⟩ := HWN.out
  clear HWN
  obtain ⟨bG, hq⟩ : ∃ q, q = W3.heap.size := ⟨_, rfl⟩
  rw [← hq] at zG kG fG ⊢
  have lFG : w.heap.size < bG := by rw [hq]; exact zF
  have lRG : w.heap.size + 1 < bG := by rw [hq]; exact zR
  have lwG : w.heap.size ≤ bG := by rw [hq]; exact HB.out.size
  clear hq
  replace kF := bx_below kF zF hb
  replace zF := Nat.lt_of_lt_of_le zF hb.size
  replace kR := bx_below kR zR hb
  replace fR := bxF fR hb zR
  replace zR := Nat.lt_of_lt_of_le zR hb.size
  replace HB : Hid (Below w.heap.size w W4) := HB.out.trans (hb.mono HB.out.size)
  clear hb
  rw [HG.out] at kG
  clear HG HGZ HIG HONG
  have HB0 : Hid (Below w.heap.size w W4) := HB.out
  have kF0 := kF
  have zF0 := zF
  refine wp_region_noPanic ?_
  refine Goes.start (S := fun w' => Below W4.heap.size W4 w') (z := 9) (by kernel_rfl) ?_
  have hb : Below W4.heap.size W4 W4.drew := Below.drew (Below.refl _ _)
  generalize hWW : W4.drew = W5 at hb ⊢
  clear hWW
  have HS0 : Hid (Below W4.heap.size W4 W5) := hb
  replace kF := bx_below kF zF hb
  replace zF := Nat.lt_of_lt_of_le zF hb.size
  replace kR := bx_below kR zR hb
  replace fR := bxF fR hb zR
  replace zR := Nat.lt_of_lt_of_le zR hb.size
  replace kG := bx_below kG zG hb
  replace fG := bxF fG hb zG
  replace zG := Nat.lt_of_lt_of_le zG hb.size
  replace HB : Hid (Below w.heap.size w W5) := HB.out.trans (hb.mono HB.out.size)
  clear hb
  refine Goes.take (i := 0) (oi := ?oi11) (x := ?vx11) ?ho11 (by kernel_rfl) (by kernel_rfl) (by kernel_rfl) (by kernel_rfl) (fun _ _ _ h => h) (Or.inl ⟨?hw11, ?hy11⟩) HS0.out ?rest11
  case ho11 => (simp only [List.getElem?_toArray, List.getElem?_cons_zero]; rfl)
  case hw11 => rfl
  case hy11 => (intro w' hSw; have j6 := ((HB0.out.trans (hSw.mono HB0.out.size)).cell (p := ⟨sb, so + 6, none⟩) hsb).trans s6; have jF := fun o => (hSw.cell (p := ⟨w.heap.size, o, none⟩) zF0).trans (kF0 o); go_simp; (try with_reducible rfl))
  case rest11 =>
  (try simp only [Act.put, List.setIfInBounds_toArray, List.set_cons_zero, List.set_cons_succ])
  refine Goes.take (i := 1) (oi := ?oi12) (x := ?vx12) ?ho12 (by kernel_rfl) (by kernel_rfl) (by kernel_rfl) (by kernel_rfl) (fun _ _ _ h => h) (Or.inl ⟨?hw12, ?hy12⟩) HS0.out ?rest12
  case ho12 => (simp only [List.getElem?_toArray, List.getElem?_cons_succ, List.getElem?_cons_zero]; rfl)
  case hw12 => rfl
  case hy12 => (intro w' hSw; have j6 := ((HB0.out.trans (hSw.mono HB0.out.size)).cell (p := ⟨sb, so + 6, none⟩) hsb).trans s6; have jF := fun o => (hSw.cell (p := ⟨w.heap.size, o, none⟩) zF0).trans (kF0 o); go_simp; (try with_reducible rfl))
  case rest12 =>
  (try simp only [Act.put, List.setIfInBounds_toArray, List.set_cons_zero, List.set_cons_succ])
  refine Goes.take (i := 2) (oi := ?oi13) (x := ?vx13) ?ho13 (by kernel_rfl) (by kernel_rfl) (by kernel_rfl) (by kernel_rfl) (fun _ _ _ h => h) (Or.inl ⟨?hw13, ?hy13⟩) HS0.out ?rest13
  case ho13 => (simp only [List.getElem?_toArray, List.getElem?_cons_succ, List.getElem?_cons_zero]; rfl)
  case hw13 => rfl
  case hy13 => (intro w' hSw; have j6 := ((HB0.out.trans (hSw.mono HB0.out.size)).cell (p := ⟨sb, so + 6, none⟩) hsb).trans s6; have jF := fun o => (hSw.cell (p := ⟨w.heap.size, o, none⟩) zF0).trans (kF0 o); go_simp; (try with_reducible rfl))
  case rest13 =>
  (try simp only [Act.put, List.setIfInBounds_toArray, List.set_cons_zero, List.set_cons_succ])
  refine Goes.take (i := 3) (oi := ?oi14) (x := ?vx14) ?ho14 (by kernel_rfl) (by kernel_rfl) (by kernel_rfl) (by kernel_rfl) (fun _ _ _ h => h) (Or.inl ⟨?hw14, ?hy14⟩) HS0.out ?rest14
  case ho14 => (simp only [List.getElem?_toArray, List.getElem?_cons_succ, List.getElem?_cons_zero]; rfl)
  case hw14 => rfl
  case hy14 => (intro w' hSw; have j6 := ((HB0.out.trans (hSw.mono HB0.out.size)).cell (p := ⟨sb, so + 6, none⟩) hsb).trans s6; have jF := fun o => (hSw.cell (p := ⟨w.heap.size, o, none⟩) zF0).trans (kF0 o); go_simp; (try with_reducible rfl))
  case rest14 =>
  (try simp only [Act.put, List.setIfInBounds_toArray, List.set_cons_zero, List.set_cons_succ])
  refine Goes.take (i := 4) (oi := ?oi15) (x := ?vx15) ?ho15 (by kernel_rfl) (by kernel_rfl) (by kernel_rfl) (by kernel_rfl) (fun _ _ _ h => h) (Or.inl ⟨?hw15, ?hy15⟩) HS0.out ?rest15
  case ho15 => (simp only [List.getElem?_toArray, List.getElem?_cons_succ, List.getElem?_cons_zero]; rfl)
  case hw15 => rfl
  case hy15 => (intro w' hSw; have j6 := ((HB0.out.trans (hSw.mono HB0.out.size)).cell (p := ⟨sb, so + 6, none⟩) hsb).trans s6; have jF := fun o => (hSw.cell (p := ⟨w.heap.size, o, none⟩) zF0).trans (kF0 o); go_simp; (try with_reducible rfl))
  case rest15 =>
  (try simp only [Act.put, List.setIfInBounds_toArray, List.set_cons_zero, List.set_cons_succ])
  refine Goes.take (i := 5) (oi := ?oi16) (x := ?vx16) ?ho16 (by kernel_rfl) (by kernel_rfl) (by kernel_rfl) (by kernel_rfl) (fun _ _ _ h => h) (Or.inl ⟨?hw16, ?hy16⟩) HS0.out ?rest16
  case ho16 => (simp only [List.getElem?_toArray, List.getElem?_cons_succ, List.getElem?_cons_zero]; rfl)
  case hw16 => rfl
  case hy16 => (intro w' hSw; have j6 := ((HB0.out.trans (hSw.mono HB0.out.size)).cell (p := ⟨sb, so + 6, none⟩) hsb).trans s6; have jF := fun o => (hSw.cell (p := ⟨w.heap.size, o, none⟩) zF0).trans (kF0 o); go_simp; (try with_reducible rfl))
  case rest16 =>
  (try simp only [Act.put, List.setIfInBounds_toArray, List.set_cons_zero, List.set_cons_succ])
  refine Goes.take (i := 6) (oi := ?oi17) (x := ?vx17) ?ho17 (by kernel_rfl) (by kernel_rfl) (by kernel_rfl) (by kernel_rfl) (fun _ _ _ h => h) (Or.inl ⟨?hw17, ?hy17⟩) HS0.out ?rest17
  case ho17 => (simp only [List.getElem?_toArray, List.getElem?_cons_succ, List.getElem?_cons_zero]; rfl)
  case hw17 => rfl
  case hy17 => (intro w' hSw; have j6 := ((HB0.out.trans (hSw.mono HB0.out.size)).cell (p := ⟨sb, so + 6, none⟩) hsb).trans s6; have jF := fun o => (hSw.cell (p := ⟨w.heap.size, o, none⟩) zF0).trans (kF0 o); go_simp; (try with_reducible rfl))
  case rest17 =>
  (try simp only [Act.put, List.setIfInBounds_toArray, List.set_cons_zero, List.set_cons_succ])
  refine Goes.call (i := 7) (oi := ?oi18) (x := .int .i64 SQ) ?ho18 (by kernel_rfl) (by kernel_rfl) (by kernel_rfl) (by kernel_rfl) (fun _ _ _ h => h) ?hq18 HS0.out ?rest18
  case ho18 => (simp only [List.getElem?_toArray, List.getElem?_cons_succ, List.getElem?_cons_zero]; rfl)
  case hq18 => exact ⟨rfl, fun w' hSw => ⟨49, #[.int .i64 s0, .int .i64 fat], (by go_simp), HAD.out w'⟩⟩
  case rest18 =>
  (try simp only [Act.put, List.setIfInBounds_toArray, List.set_cons_zero, List.set_cons_succ])
  refine Goes.take (i := 8) (oi := ?oi19) (x := ?vx19) ?ho19 (by kernel_rfl) (by kernel_rfl) (by kernel_rfl) (by kernel_rfl) (fun _ _ _ h => h) (Or.inl ⟨?hw19, ?hy19⟩) HS0.out ?rest19
  case ho19 => (simp only [List.getElem?_toArray, List.getElem?_cons_succ, List.getElem?_cons_zero]; rfl)
  case hw19 => rfl
  case hy19 => (intro w' hSw; have j6 := ((HB0.out.trans (hSw.mono HB0.out.size)).cell (p := ⟨sb, so + 6, none⟩) hsb).trans s6; have jF := fun o => (hSw.cell (p := ⟨w.heap.size, o, none⟩) zF0).trans (kF0 o); go_simp; (try with_reducible rfl))
  case rest19 =>
  (try simp only [Act.put, List.setIfInBounds_toArray, List.set_cons_zero, List.set_cons_succ])
  refine Goes.all (rs := [9]) (by kernel_rfl) (by simp) ?_
  refine Ups.cons (i := 9) (o := ?oo20) ?ho20 (fun KK hKK => ?stp20) Ups.nil
  case ho20 => (simp only [List.getElem?_toArray, List.getElem?_cons_succ, List.getElem?_cons_zero]; rfl)
  case stp20 =>
  go_simp
  refine hKK.out _ _ (Or.inl rfl) ?_
  clear hKK KK
  (try simp only [Act.put])
  refine Goes.done (by kernel_rfl) ?_ _
  refine NoPanic.normal ?_
  clear HS0 HB0 kF0 zF0 HAD
  replace kG := bx_put kG (k := 5) (v := .int .i64 SQ) (by simp)
  simp only [List.setIfInBounds_toArray, List.set_cons_zero, List.set_cons_succ] at kG
  replace kF : ∀ o, (W5.setCell ⟨bG, 5, none⟩ (.int .i64 SQ)).cell? ⟨w.heap.size, o, none⟩ = (F5)[o]? := bx_setC kF (by omega)
  replace zF : w.heap.size < (W5.setCell ⟨bG, 5, none⟩ (.int .i64 SQ)).heap.size := by have h : (W5.setCell ⟨bG, 5, none⟩ (.int .i64 SQ)).heap.size = W5.heap.size := (by simp); omega
  replace kR : ∀ o, (W5.setCell ⟨bG, 5, none⟩ (.int .i64 SQ)).cell? ⟨w.heap.size + 1, o, none⟩ = (#[.int .i64 0, .int .i64 0, .bool false, .bool false, .bool false, .int .i64 0, .int .i64 0, .int .i64 0, .int .i64 0, .int .i64 0, .int .i64 0, .slice none 0 0] : Array Value)[o]? := bx_setC kR (by omega)
  replace fR : ∀ o, (W5.setCell ⟨bG, 5, none⟩ (.int .i64 SQ)).frozen? ⟨w.heap.size + 1, o, none⟩ = false := fx_setC fR
  replace zR : w.heap.size + 1 < (W5.setCell ⟨bG, 5, none⟩ (.int .i64 SQ)).heap.size := by have h : (W5.setCell ⟨bG, 5, none⟩ (.int .i64 SQ)).heap.size = W5.heap.size := (by simp); omega
  replace fG : ∀ o, (W5.setCell ⟨bG, 5, none⟩ (.int .i64 SQ)).frozen? ⟨bG, o, none⟩ = false := fx_setC fG
  replace zG : bG < (W5.setCell ⟨bG, 5, none⟩ (.int .i64 SQ)).heap.size := by have h : (W5.setCell ⟨bG, 5, none⟩ (.int .i64 SQ)).heap.size = W5.heap.size := (by simp); omega
  replace HB : Hid (Below w.heap.size w (W5.setCell ⟨bG, 5, none⟩ (.int .i64 SQ))) := Below.setCell (p := ⟨bG, 5, none⟩) HB.out (by dsimp only; omega) _
  generalize hWW : (W5.setCell ⟨bG, 5, none⟩ (.int .i64 SQ)) = W6 at kF zF kR zR fR kG zG fG HB ⊢
  clear hWW
  go_upto_region 4 with (at_builtin; go_loud (refine app_pl (W6.alloc (.cells #[] 5)) rfl _ _ 22 22 rfl Tryz.underlying22 Tryz.underlying22 W6.heap.size (.slice (some ⟨W6.heap.size, 0, none⟩) 0 0) [] (by rfl) (ob_made9 W6 W6.heap.size (Nat.le_refl _)) fla fl fln flc HL.out (by rfl) (HRB.out _ (HB.out.trans (((Below.refl _ _).alloc (Nat.le_refl _) _).mono HB.out.size))) HNI.out (by have h : ([] : List Int).length = 0 := rfl; omega) (by simp) ?_; intro u6 w6 ho6 hb6 hg6 hat6; rw [List.nil_append] at ho6; obtain ⟨b1, c1, hv, -, -⟩ := ho6.rbn; rw [HL.out] at hv; subst hv; have hb : Below W6.heap.size W6 w6 := ((Below.refl _ _).alloc (Nat.le_refl _) _).trans hb6; have ho : Own w6 W6.heap.size w6.heap.size u8s fl [.slice b1 fln c1] := own_bytes ho6 (Nat.le_refl _); clear ho6 hb6 hg6 hat6; obtain ⟨hY, ehY⟩ : ∃ x, x = W6.heap.size := ⟨_, rfl⟩; obtain ⟨tY, etY⟩ : ∃ x, x = w6.heap.size := ⟨_, rfl⟩; have lFY : w.heap.size < hY := (by rw [ehY]; exact zF); have lRY : w.heap.size + 1 < hY := (by rw [ehY]; exact zR); have lGY : bG < hY := (by rw [ehY]; exact zG); replace kF := bx_below kF zF hb; replace zF := Nat.lt_of_lt_of_le zF hb.size; replace kR := bx_below kR zR hb; replace fR := bxF fR hb zR; replace zR := Nat.lt_of_lt_of_le zR hb.size; replace kG := bx_below kG zG hb; replace fG := bxF fG hb zG; replace zG := Nat.lt_of_lt_of_le zG hb.size; replace HB : Hid (Below w.heap.size w w6) := HB.out.trans (hb.mono HB.out.size); clear hb; rw [← ehY, ← etY] at ho; have lY : tY ≤ w6.heap.size := (by omega); have Y : Hid (Own w6 hY tY u8s fl [.slice b1 fln c1]) := ho; clear ho ehY etY))
  replace kG := bx_put kG (k := 11) (v := .slice b1 fln c1) (by simp)
  simp only [List.setIfInBounds_toArray, List.set_cons_zero, List.set_cons_succ] at kG
  replace kF : ∀ o, (w6.setCell ⟨bG, 11, none⟩ (.slice b1 fln c1)).cell? ⟨w.heap.size, o, none⟩ = (F5)[o]? := bx_setC kF (by omega)
  replace zF : w.heap.size < (w6.setCell ⟨bG, 11, none⟩ (.slice b1 fln c1)).heap.size := by have h : (w6.setCell ⟨bG, 11, none⟩ (.slice b1 fln c1)).heap.size = w6.heap.size := (by simp); omega
  replace kR : ∀ o, (w6.setCell ⟨bG, 11, none⟩ (.slice b1 fln c1)).cell? ⟨w.heap.size + 1, o, none⟩ = (#[.int .i64 0, .int .i64 0, .bool false, .bool false, .bool false, .int .i64 0, .int .i64 0, .int .i64 0, .int .i64 0, .int .i64 0, .int .i64 0, .slice none 0 0] : Array Value)[o]? := bx_setC kR (by omega)
  replace fR : ∀ o, (w6.setCell ⟨bG, 11, none⟩ (.slice b1 fln c1)).frozen? ⟨w.heap.size + 1, o, none⟩ = false := fx_setC fR
  replace zR : w.heap.size + 1 < (w6.setCell ⟨bG, 11, none⟩ (.slice b1 fln c1)).heap.size := by have h : (w6.setCell ⟨bG, 11, none⟩ (.slice b1 fln c1)).heap.size = w6.heap.size := (by simp); omega
  replace fG : ∀ o, (w6.setCell ⟨bG, 11, none⟩ (.slice b1 fln c1)).frozen? ⟨bG, o, none⟩ = false := fx_setC fG
  replace zG : bG < (w6.setCell ⟨bG, 11, none⟩ (.slice b1 fln c1)).heap.size := by have h : (w6.setCell ⟨bG, 11, none⟩ (.slice b1 fln c1)).heap.size = w6.heap.size := (by simp); omega
  replace Y : Hid (Own (w6.setCell ⟨bG, 11, none⟩ (.slice b1 fln c1)) hY tY u8s fl [.slice b1 fln c1]) := Own.keep Y.out (fun b h1 h2 => Below.heap_setCell _ _ _ _ (by dsimp only; omega))
  replace lY : tY ≤ (w6.setCell ⟨bG, 11, none⟩ (.slice b1 fln c1)).heap.size := by have h : (w6.setCell ⟨bG, 11, none⟩ (.slice b1 fln c1)).heap.size = w6.heap.size := (by simp); omega
  replace HB : Hid (Below w.heap.size w (w6.setCell ⟨bG, 11, none⟩ (.slice b1 fln c1))) := Below.setCell (p := ⟨bG, 11, none⟩) HB.out (by dsimp only; omega) _
  generalize hWW : (w6.setCell ⟨bG, 11, none⟩ (.slice b1 fln c1)) = W8 at kF zF kR zR fR kG zG fG Y lY HB ⊢
  clear hWW
  have c3W : W8.cell? ⟨cb, of + 3, none⟩ = some (.bool pl) := (HB.out.cell (p := ⟨cb, of + 3, none⟩) hcb).trans c3
  cases pl with
  | true =>
    obtain ⟨N, hN⟩ : ∃ N : Array Value, N = #[.int .i64 pa, .int .i64 sd, .bool false, .bool true, .bool false, .int .i64 SQ, .int .i64 AK, .int .i64 EN, .int .i64 OP, .int .i64 OA, .int .i64 0, .slice b1 fln c1] := ⟨_, rfl⟩
    rw [← hN] at kG
    have hNz : N.size = 12 := by rw [hN]; rfl
    have HIN : Hid ((Tryz.prog.info? 31).map (·.size) = some N.size) := by show _ = _; rw [hNz]; exact (by kernel_rfl : (Tryz.prog.info? 31).map (·.size) = some 12)
    have HIN' : Hid ((Tryz.prog.info? 31).map (·.size) = some N.toList.length) := by show _ = _; rw [Array.length_toList]; exact HIN.out
    have HN : Hid _ := hN
    have HONN : Hid (N.all (·.oneCell') = true) := by show _ = _; rw [hN]; simp [Value.oneCell']
    have HTHN : Hid (W8.there (w.heap.size + 1) 0 N.size) := bx_there kR fR (by rw [hNz]; rfl)
    have kF : Hid (∀ o, (W8.setCells (w.heap.size + 1) 0 N.toList).cell? ⟨w.heap.size + 1, o, none⟩ = N[o]?) := bx_setCells kR (by rw [hNz]; rfl)
    clear hN hNz
    go_wp2_with (first | (refine wpList_load_mid rfl 31 _ rfl _ _ (by rfl) N.toList _ (bx_range kG) Tryz.underlying31 rfl HIN'.out ?_) | (refine wpList_store_mid rfl 31 _ _ rfl _ _ N (by rfl) (by rfl) HTHN.out HIN.out HONN.out ?_))
    refine bodyPost_ret (results_box Tryz.results22 _ _ _ N _ (by rfl) kF.out Tryz.underlying31 rfl HIN.out) rfl ⟨.slice b1 fln c1, ?_, ?_, ?_⟩
    · rw [HN.out]
    · refine Own.mono (Own.keep Y.out fun b hb hlt => setCells_block (by omega) _ _ _) (by omega) (by rw [setCells_size]; omega)
    · exact setCells_below (by omega) _ _ _ _ HB.out
  | false =>
    have hw64 : IntKind.i64.wrap (fda * 1000) = 1000 * fda := by simp only [IntKind.wrap, IntKind.bits, IntKind.signed]; simp; omega
    have hw65 : IntKind.i64.wrap (1000 * fda + DA) = DA + 1000 * fda := by simp only [IntKind.wrap, IntKind.bits, IntKind.signed]; simp; omega
    go_upto_region 5 with fail
    have HB0 : Hid (Below w.heap.size w W8) := HB.out
    have kF0 := kF
    have zF0 := zF
    refine wp_region_noPanic ?_
    refine Goes.start (S := fun w' => Below W8.heap.size W8 w') (z := 7) (by kernel_rfl) ?_
    have hb : Below W8.heap.size W8 W8.drew := Below.drew (Below.refl _ _)
    generalize hWW : W8.drew = W9 at hb ⊢
    clear hWW
    have HS0 : Hid (Below W8.heap.size W8 W9) := hb
    replace kF := bx_below kF zF hb
    replace zF := Nat.lt_of_lt_of_le zF hb.size
    replace kR := bx_below kR zR hb
    replace fR := bxF fR hb zR
    replace zR := Nat.lt_of_lt_of_le zR hb.size
    replace kG := bx_below kG zG hb
    replace fG := bxF fG hb zG
    replace zG := Nat.lt_of_lt_of_le zG hb.size
    replace Y : Hid (Own W9 hY tY u8s fl [.slice b1 fln c1]) := Own.below Y.out (by omega) hb
    replace lY : tY ≤ W9.heap.size := Nat.le_trans lY hb.size
    replace HB : Hid (Below w.heap.size w W9) := HB.out.trans (hb.mono HB.out.size)
    clear hb
    refine Goes.take (i := 0) (oi := ?oi41) (x := ?vx41) ?ho41 (by kernel_rfl) (by kernel_rfl) (by kernel_rfl) (by kernel_rfl) (fun _ _ _ h => h) (Or.inl ⟨?hw41, ?hy41⟩) HS0.out ?rest41
    case ho41 => (simp only [List.getElem?_toArray, List.getElem?_cons_zero]; rfl)
    case hw41 => rfl
    case hy41 => (intro w' hSw; have jF := fun o => (hSw.cell (p := ⟨w.heap.size, o, none⟩) zF0).trans (kF0 o); go_simp; (try with_reducible rfl))
    case rest41 =>
    (try simp only [Act.put, List.setIfInBounds_toArray, List.set_cons_zero, List.set_cons_succ])
    refine Goes.take (i := 1) (oi := ?oi42) (x := ?vx42) ?ho42 (by kernel_rfl) (by kernel_rfl) (by kernel_rfl) (by kernel_rfl) (fun _ _ _ h => h) (Or.inl ⟨?hw42, ?hy42⟩) HS0.out ?rest42
    case ho42 => (simp only [List.getElem?_toArray, List.getElem?_cons_succ, List.getElem?_cons_zero]; rfl)
    case hw42 => rfl
    case hy42 => (intro w' hSw; have jF := fun o => (hSw.cell (p := ⟨w.heap.size, o, none⟩) zF0).trans (kF0 o); go_simp; (try with_reducible rfl))
    case rest42 =>
    (try simp only [Act.put, List.setIfInBounds_toArray, List.set_cons_zero, List.set_cons_succ])
    refine Goes.take (i := 2) (oi := ?oi43) (x := ?vx43) ?ho43 (by kernel_rfl) (by kernel_rfl) (by kernel_rfl) (by kernel_rfl) (fun _ _ _ h => h) (Or.inl ⟨?hw43, ?hy43⟩) HS0.out ?rest43
    case ho43 => (simp only [List.getElem?_toArray, List.getElem?_cons_succ, List.getElem?_cons_zero]; rfl)
    case hw43 => rfl
    case hy43 => (intro w' hSw; have jF := fun o => (hSw.cell (p := ⟨w.heap.size, o, none⟩) zF0).trans (kF0 o); go_simp; (try with_reducible rfl))
    case rest43 =>
    (try simp only [Act.put, List.setIfInBounds_toArray, List.set_cons_zero, List.set_cons_succ])
    (try rw [hw64])
    refine Goes.take (i := 3) (oi := ?oi44) (x := ?vx44) ?ho44 (by kernel_rfl) (by kernel_rfl) (by kernel_rfl) (by kernel_rfl) (fun _ _ _ h => h) (Or.inl ⟨?hw44, ?hy44⟩) HS0.out ?rest44
    case ho44 => (simp only [List.getElem?_toArray, List.getElem?_cons_succ, List.getElem?_cons_zero]; rfl)
    case hw44 => rfl
    case hy44 => (intro w' hSw; have jF := fun o => (hSw.cell (p := ⟨w.heap.size, o, none⟩) zF0).trans (kF0 o); go_simp; (try with_reducible rfl))
    case rest44 =>
    (try simp only [Act.put, List.setIfInBounds_toArray, List.set_cons_zero, List.set_cons_succ])
    refine Goes.all (rs := [4]) (by kernel_rfl) (by simp) ?_
    refine Ups.cons (i := 4) (o := ?oo45) ?ho45 (fun KK hKK => ?stp45) Ups.nil
    case ho45 => (simp only [List.getElem?_toArray, List.getElem?_cons_succ, List.getElem?_cons_zero]; rfl)
    case stp45 =>
    go_simp
    go_at_call 50
    refine (HDK.out _ HB.out).mono ?_
    rintro e W10 ⟨rfl, hb⟩
    have HS1 : Hid (Below W8.heap.size W8 W10) := HS0.out.trans (hb.mono HS0.out.size)
    replace kF := bx_below kF zF hb
    replace zF := Nat.lt_of_lt_of_le zF hb.size
    replace kR := bx_below kR zR hb
    replace fR := bxF fR hb zR
    replace zR := Nat.lt_of_lt_of_le zR hb.size
    replace kG := bx_below kG zG hb
    replace fG := bxF fG hb zG
    replace zG := Nat.lt_of_lt_of_le zG hb.size
    replace Y : Hid (Own W10 hY tY u8s fl [.slice b1 fln c1]) := Own.below Y.out (by omega) hb
    replace lY : tY ≤ W10.heap.size := Nat.le_trans lY hb.size
    replace HB : Hid (Below w.heap.size w W10) := HB.out.trans (hb.mono HB.out.size)
    clear hb
    dsimp only
    refine hKK.out _ _ (Or.inr HS1.out) ?_
    clear hKK KK
    (try simp only [Act.put, List.setIfInBounds_toArray, List.set_cons_zero, List.set_cons_succ])
    refine Goes.take (i := 5) (oi := ?oi46) (x := ?vx46) ?ho46 (by kernel_rfl) (by kernel_rfl) (by kernel_rfl) (by kernel_rfl) (fun _ _ _ h => h) (Or.inl ⟨?hw46, ?hy46⟩) HS1.out ?rest46
    case ho46 => (simp only [List.getElem?_toArray, List.getElem?_cons_succ, List.getElem?_cons_zero]; rfl)
    case hw46 => rfl
    case hy46 => (intro w' hSw; have jF := fun o => (hSw.cell (p := ⟨w.heap.size, o, none⟩) zF0).trans (kF0 o); go_simp; (try with_reducible rfl))
    case rest46 =>
    (try simp only [Act.put, List.setIfInBounds_toArray, List.set_cons_zero, List.set_cons_succ])
    (try rw [hw65])
    refine Goes.take (i := 6) (oi := ?oi47) (x := ?vx47) ?ho47 (by kernel_rfl) (by kernel_rfl) (by kernel_rfl) (by kernel_rfl) (fun _ _ _ h => h) (Or.inl ⟨?hw47, ?hy47⟩) HS1.out ?rest47
    case ho47 => (simp only [List.getElem?_toArray, List.getElem?_cons_succ, List.getElem?_cons_zero]; rfl)
    case hw47 => rfl
    case hy47 => (intro w' hSw; have jF := fun o => (hSw.cell (p := ⟨w.heap.size, o, none⟩) zF0).trans (kF0 o); go_simp; (try with_reducible rfl))
    case rest47 =>
    (try simp only [Act.put, List.setIfInBounds_toArray, List.set_cons_zero, List.set_cons_succ])
    refine Goes.all (rs := [7]) (by kernel_rfl) (by simp) ?_
    refine Ups.cons (i := 7) (o := ?oo48) ?ho48 (fun KK hKK => ?stp48) Ups.nil
    case ho48 => (simp only [List.getElem?_toArray, List.getElem?_cons_succ, List.getElem?_cons_zero]; rfl)
    case stp48 =>
    go_simp
    refine hKK.out _ _ (Or.inl rfl) ?_
    clear hKK KK
    (try simp only [Act.put])
    refine Goes.done (by kernel_rfl) ?_ _
    refine NoPanic.normal ?_
    clear HS0 HS1 HB0 kF0 zF0
    replace kG := bx_put kG (k := 9) (v := .int .i64 (DA + 1000 * fda)) (by simp)
    simp only [List.setIfInBounds_toArray, List.set_cons_zero, List.set_cons_succ] at kG
    replace kF : ∀ o, (W10.setCell ⟨bG, 9, none⟩ (.int .i64 (DA + 1000 * fda))).cell? ⟨w.heap.size, o, none⟩ = (F5)[o]? := bx_setC kF (by omega)
    replace zF : w.heap.size < (W10.setCell ⟨bG, 9, none⟩ (.int .i64 (DA + 1000 * fda))).heap.size := by have h : (W10.setCell ⟨bG, 9, none⟩ (.int .i64 (DA + 1000 * fda))).heap.size = W10.heap.size := (by simp); omega
    replace kR : ∀ o, (W10.setCell ⟨bG, 9, none⟩ (.int .i64 (DA + 1000 * fda))).cell? ⟨w.heap.size + 1, o, none⟩ = (#[.int .i64 0, .int .i64 0, .bool false, .bool false, .bool false, .int .i64 0, .int .i64 0, .int .i64 0, .int .i64 0, .int .i64 0, .int .i64 0, .slice none 0 0] : Array Value)[o]? := bx_setC kR (by omega)
    replace fR : ∀ o, (W10.setCell ⟨bG, 9, none⟩ (.int .i64 (DA + 1000 * fda))).frozen? ⟨w.heap.size + 1, o, none⟩ = false := fx_setC fR
    replace zR : w.heap.size + 1 < (W10.setCell ⟨bG, 9, none⟩ (.int .i64 (DA + 1000 * fda))).heap.size := by have h : (W10.setCell ⟨bG, 9, none⟩ (.int .i64 (DA + 1000 * fda))).heap.size = W10.heap.size := (by simp); omega
    replace fG : ∀ o, (W10.setCell ⟨bG, 9, none⟩ (.int .i64 (DA + 1000 * fda))).frozen? ⟨bG, o, none⟩ = false := fx_setC fG
    replace zG : bG < (W10.setCell ⟨bG, 9, none⟩ (.int .i64 (DA + 1000 * fda))).heap.size := by have h : (W10.setCell ⟨bG, 9, none⟩ (.int .i64 (DA + 1000 * fda))).heap.size = W10.heap.size := (by simp); omega
    replace Y : Hid (Own (W10.setCell ⟨bG, 9, none⟩ (.int .i64 (DA + 1000 * fda))) hY tY u8s fl [.slice b1 fln c1]) := Own.keep Y.out (fun b h1 h2 => Below.heap_setCell _ _ _ _ (by dsimp only; omega))
    replace lY : tY ≤ (W10.setCell ⟨bG, 9, none⟩ (.int .i64 (DA + 1000 * fda))).heap.size := by have h : (W10.setCell ⟨bG, 9, none⟩ (.int .i64 (DA + 1000 * fda))).heap.size = W10.heap.size := (by simp); omega
    replace HB : Hid (Below w.heap.size w (W10.setCell ⟨bG, 9, none⟩ (.int .i64 (DA + 1000 * fda)))) := Below.setCell (p := ⟨bG, 9, none⟩) HB.out (by dsimp only; omega) _
    generalize hWW : (W10.setCell ⟨bG, 9, none⟩ (.int .i64 (DA + 1000 * fda))) = W11 at kF zF kR zR fR kG zG fG Y lY HB ⊢
    clear hWW
    go_wp2_with fail
    refine (HSU.out _ HB.out).mono ?_
    rintro e W12 ⟨rfl, hb⟩
    replace kF := bx_below kF zF hb
    replace zF := Nat.lt_of_lt_of_le zF hb.size
    replace kR := bx_below kR zR hb
    replace fR := bxF fR hb zR
    replace zR := Nat.lt_of_lt_of_le zR hb.size
    replace kG := bx_below kG zG hb
    replace fG := bxF fG hb zG
    replace zG := Nat.lt_of_lt_of_le zG hb.size
    replace Y : Hid (Own W12 hY tY u8s fl [.slice b1 fln c1]) := Own.below Y.out (by omega) hb
    replace lY : tY ≤ W12.heap.size := Nat.le_trans lY hb.size
    replace HB : Hid (Below w.heap.size w W12) := HB.out.trans (hb.mono HB.out.size)
    clear hb
    go_upto_region 7 with fail
    replace kG := bx_put kG (k := 10) (v := .int .i64 SU) (by simp)
    simp only [List.setIfInBounds_toArray, List.set_cons_zero, List.set_cons_succ] at kG
    replace kF : ∀ o, (W12.setCell ⟨bG, 10, none⟩ (.int .i64 SU)).cell? ⟨w.heap.size, o, none⟩ = (F5)[o]? := bx_setC kF (by omega)
    replace zF : w.heap.size < (W12.setCell ⟨bG, 10, none⟩ (.int .i64 SU)).heap.size := by have h : (W12.setCell ⟨bG, 10, none⟩ (.int .i64 SU)).heap.size = W12.heap.size := (by simp); omega
    replace kR : ∀ o, (W12.setCell ⟨bG, 10, none⟩ (.int .i64 SU)).cell? ⟨w.heap.size + 1, o, none⟩ = (#[.int .i64 0, .int .i64 0, .bool false, .bool false, .bool false, .int .i64 0, .int .i64 0, .int .i64 0, .int .i64 0, .int .i64 0, .int .i64 0, .slice none 0 0] : Array Value)[o]? := bx_setC kR (by omega)
    replace fR : ∀ o, (W12.setCell ⟨bG, 10, none⟩ (.int .i64 SU)).frozen? ⟨w.heap.size + 1, o, none⟩ = false := fx_setC fR
    replace zR : w.heap.size + 1 < (W12.setCell ⟨bG, 10, none⟩ (.int .i64 SU)).heap.size := by have h : (W12.setCell ⟨bG, 10, none⟩ (.int .i64 SU)).heap.size = W12.heap.size := (by simp); omega
    replace fG : ∀ o, (W12.setCell ⟨bG, 10, none⟩ (.int .i64 SU)).frozen? ⟨bG, o, none⟩ = false := fx_setC fG
    replace zG : bG < (W12.setCell ⟨bG, 10, none⟩ (.int .i64 SU)).heap.size := by have h : (W12.setCell ⟨bG, 10, none⟩ (.int .i64 SU)).heap.size = W12.heap.size := (by simp); omega
    replace Y : Hid (Own (W12.setCell ⟨bG, 10, none⟩ (.int .i64 SU)) hY tY u8s fl [.slice b1 fln c1]) := Own.keep Y.out (fun b h1 h2 => Below.heap_setCell _ _ _ _ (by dsimp only; omega))
    replace lY : tY ≤ (W12.setCell ⟨bG, 10, none⟩ (.int .i64 SU)).heap.size := by have h : (W12.setCell ⟨bG, 10, none⟩ (.int .i64 SU)).heap.size = W12.heap.size := (by simp); omega
    replace HB : Hid (Below w.heap.size w (W12.setCell ⟨bG, 10, none⟩ (.int .i64 SU))) := Below.setCell (p := ⟨bG, 10, none⟩) HB.out (by dsimp only; omega) _
    generalize hWW : (W12.setCell ⟨bG, 10, none⟩ (.int .i64 SU)) = W13 at kF zF kR zR fR kG zG fG Y lY HB ⊢
    clear hWW
    obtain ⟨N, hN⟩ : ∃ N : Array Value, N = #[.int .i64 pa, .int .i64 sd, .bool false, .bool true, .bool false, .int .i64 SQ, .int .i64 AK, .int .i64 EN, .int .i64 OP, .int .i64 (DA + 1000 * fda), .int .i64 SU, .slice b1 fln c1] := ⟨_, rfl⟩
    rw [← hN] at kG
    have hNz : N.size = 12 := by rw [hN]; rfl
    have HIN : Hid ((Tryz.prog.info? 31).map (·.size) = some N.size) := by show _ = _; rw [hNz]; exact (by kernel_rfl : (Tryz.prog.info? 31).map (·.size) = some 12)
    have HIN' : Hid ((Tryz.prog.info? 31).map (·.size) = some N.toList.length) := by show _ = _; rw [Array.length_toList]; exact HIN.out
    have HN : Hid _ := hN
    have HONN : Hid (N.all (·.oneCell') = true) := by show _ = _; rw [hN]; simp [Value.oneCell']
    have HTHN : Hid (W13.there (w.heap.size + 1) 0 N.size) := bx_there kR fR (by rw [hNz]; rfl)
    have kF : Hid (∀ o, (W13.setCells (w.heap.size + 1) 0 N.toList).cell? ⟨w.heap.size + 1, o, none⟩ = N[o]?) := bx_setCells kR (by rw [hNz]; rfl)
    clear hN hNz
    go_wp2_with (first | (refine wpList_load_mid rfl 31 _ rfl _ _ (by rfl) N.toList _ (bx_range kG) Tryz.underlying31 rfl HIN'.out ?_) | (refine wpList_store_mid rfl 31 _ _ rfl _ _ N (by rfl) (by rfl) HTHN.out HIN.out HONN.out ?_))
    refine bodyPost_ret (results_box Tryz.results22 _ _ _ N _ (by rfl) kF.out Tryz.underlying31 rfl HIN.out) rfl ⟨.slice b1 fln c1, ?_, ?_, ?_⟩
    · rw [HN.out]
    · refine Own.mono (Own.keep Y.out fun b hb hlt => setCells_block (by omega) _ _ _) (by omega) (by rw [setCells_size]; omega)
    · exact setCells_below (by omega) _ _ _ _ HB.out
end Go.Proofs.YtbdibjeemgkdaaaGreat
