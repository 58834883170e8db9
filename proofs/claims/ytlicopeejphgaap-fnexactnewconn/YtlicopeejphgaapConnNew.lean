/- A new conn by program and model, and what the law's own helpers make of its answer, which owns no memory; nothing that was in memory turns; no condition. Written by mknew.py. -/
import Derived.Test.YtlicopeejphgaapRows
import Derived.Test.YtlicopeejphgaapBase
import Derived.Test.YtlicopeejphgaapBytes
import Derived.Test.YtlicopeejphgaapMem
import Derived.Test.YtlicopeejphgaapMemOpen
import Derived.Test.YtlicopeejphgaapMemRow
import Derived.Test.YtlicopeejphgaapHBase
import Derived.Test.YtlicopeejphgaapHFlight
import Derived.Test.YtlicopeejphgaapHSender
import Derived.Test.YtlicopeejphgaapHSpan
import Derived.Test.YtlicopeejphgaapHCatch
import Derived.Test.YtlicopeejphgaapFlightDef
import Derived.Test.YtlicopeejphgaapSpecFlight
import Derived.Test.YtlicopeejphgaapImplFlight
import Derived.Test.YtlicopeejphgaapCatDef
import Derived.Test.YtlicopeejphgaapCtrl
import Derived.Test.YtlicopeejphgaapHSub
import Derived.Test.YtlicopeejphgaapSubDef
import Derived.Test.YtlicopeejphgaapSubSpec
import Derived.Test.YtlicopeejphgaapSubImpl
import Derived.Test.YtlicopeejphgaapHSubA
import Derived.Test.YtlicopeejphgaapHSubs
import Derived.Test.YtlicopeejphgaapGath
import Derived.Test.YtlicopeejphgaapGathLaw
import Derived.Test.YtlicopeejphgaapSpecGath
import Derived.Test.YtlicopeejphgaapImplGath
import Derived.Test.YtlicopeejphgaapAgg
import Derived.Test.YtlicopeejphgaapRegionU
import Derived.Test.YtlicopeejphgaapRegionQ
import Derived.Test.YtlicopeejphgaapBox
import Derived.Test.YtlicopeejphgaapSubBox
import Derived.Test.YtlicopeejphgaapHConn
import Derived.Test.YtlicopeejphgaapConnDef
import Derived.Test.YtlicopeejphgaapConnSpec
import Derived.Test.YtlicopeejphgaapConnImpl
import Derived.Test.YtlicopeejphgaapHOpen0
import Derived.Deep.RegionHeld3
import Derived.Deep.DeepCutAuto
import Derived.Deep.MidRow
namespace Go.Proofs.Ytlicopeejphgaap
open Go.RowKit
set_option linter.unusedVariables false
set_option maxRecDepth 8000

theorem nil_markByteS (a : Option Addr) (cap : Nat) (k : Int) (w : World) : Calls Try.prog 25 #[.slice a 0 cap, .int .i64 k] w fun e w' => e = .returned (.int .i64 k) ∧ w' = w := by
  go_enter Try.func25, Try.ntmps25
  go_wp2_with fail
  go_loopw [1, 5] (fun t i wr => t = .int .i64 k ∧ i = .int .i64 0 ∧ wr = w) (fun _ _ _ => 0)
  case atStart => exact ⟨rfl, rfl, rfl⟩
  case round =>
    obtain ⟨rfl, rfl, hw⟩ := hrel
    subst wr
    go_wp2_with fail
    go_ret
    exact ⟨rfl, rfl⟩
theorem nil_heldByteS (a : Option Addr) (cap : Nat) (k : Int) (w : World) : Calls Try.prog 28 #[.slice a 0 cap, .int .i64 k] w fun e w' => e = .returned (.int .i64 k) ∧ w' = w := by
  go_enter Try.func28, Try.ntmps28
  go_wp2_with fail
  go_loopw [1, 5] (fun t i wr => t = .int .i64 k ∧ i = .int .i64 0 ∧ wr = w) (fun _ _ _ => 0)
  case atStart => exact ⟨rfl, rfl, rfl⟩
  case round =>
    obtain ⟨rfl, rfl, hw⟩ := hrel
    subst wr
    go_wp2_with fail
    go_ret
    exact ⟨rfl, rfl⟩
theorem nil_markPieceS (a : Option Addr) (cap : Nat) (k : Int) (w : World) : Calls Try.prog 62 #[.slice a 0 cap, .int .i64 k] w fun e w' => e = .returned (.int .i64 k) ∧ w' = w := by
  go_enter Try.func62, Try.ntmps62
  go_wp2_with fail
  go_loopw [1, 5] (fun t i wr => t = .int .i64 k ∧ i = .int .i64 0 ∧ wr = w) (fun _ _ _ => 0)
  case atStart => exact ⟨rfl, rfl, rfl⟩
  case round =>
    obtain ⟨rfl, rfl, hw⟩ := hrel
    subst wr
    go_wp2_with fail
    go_ret
    exact ⟨rfl, rfl⟩
theorem nil_heldPieceS (a : Option Addr) (cap : Nat) (k : Int) (w : World) : Calls Try.prog 65 #[.slice a 0 cap, .int .i64 k] w fun e w' => e = .returned (.int .i64 k) ∧ w' = w := by
  go_enter Try.func65, Try.ntmps65
  go_wp2_with fail
  go_loopw [1, 5] (fun t i wr => t = .int .i64 k ∧ i = .int .i64 0 ∧ wr = w) (fun _ _ _ => 0)
  case atStart => exact ⟨rfl, rfl, rfl⟩
  case round =>
    obtain ⟨rfl, rfl, hw⟩ := hrel
    subst wr
    go_wp2_with fail
    go_ret
    exact ⟨rfl, rfl⟩
theorem nil_markSubS (a : Option Addr) (cap : Nat) (k : Int) (w : World) : Calls Try.prog 43 #[.slice a 0 cap, .int .i64 k] w fun e w' => e = .returned (.int .i64 k) ∧ w' = w := by
  go_enter Try.func43, Try.ntmps43
  go_wp2_with fail
  go_loopw [1, 5] (fun t i wr => t = .int .i64 k ∧ i = .int .i64 0 ∧ wr = w) (fun _ _ _ => 0)
  case atStart => exact ⟨rfl, rfl, rfl⟩
  case round =>
    obtain ⟨rfl, rfl, hw⟩ := hrel
    subst wr
    go_wp2_with fail
    go_ret
    exact ⟨rfl, rfl⟩
theorem nil_heldSubS (a : Option Addr) (cap : Nat) (k : Int) (w : World) : Calls Try.prog 45 #[.slice a 0 cap, .int .i64 k] w fun e w' => e = .returned (.int .i64 k) ∧ w' = w := by
  go_enter Try.func45, Try.ntmps45
  go_wp2_with fail
  go_loopw [1, 5] (fun t i wr => t = .int .i64 k ∧ i = .int .i64 0 ∧ wr = w) (fun _ _ _ => 0)
  case atStart => exact ⟨rfl, rfl, rfl⟩
  case round =>
    obtain ⟨rfl, rfl, hw⟩ := hrel
    subst wr
    go_wp2_with fail
    go_ret
    exact ⟨rfl, rfl⟩
theorem nil_markSegmentS (a : Option Addr) (cap : Nat) (k : Int) (w : World) : Calls Try.prog 24 #[.slice a 0 cap, .int .i64 k] w fun e w' => e = .returned (.int .i64 k) ∧ w' = w := by
  go_enter Try.func24, Try.ntmps24
  go_wp2_with fail
  go_loopw [1, 5] (fun t i wr => t = .int .i64 k ∧ i = .int .i64 0 ∧ wr = w) (fun _ _ _ => 0)
  case atStart => exact ⟨rfl, rfl, rfl⟩
  case round =>
    obtain ⟨rfl, rfl, hw⟩ := hrel
    subst wr
    go_wp2_with fail
    go_ret
    exact ⟨rfl, rfl⟩
theorem nil_heldSegmentS (a : Option Addr) (cap : Nat) (k : Int) (w : World) : Calls Try.prog 27 #[.slice a 0 cap, .int .i64 k] w fun e w' => e = .returned (.int .i64 k) ∧ w' = w := by
  go_enter Try.func27, Try.ntmps27
  go_wp2_with fail
  go_loopw [1, 5] (fun t i wr => t = .int .i64 k ∧ i = .int .i64 0 ∧ wr = w) (fun _ _ _ => 0)
  case atStart => exact ⟨rfl, rfl, rfl⟩
  case round =>
    obtain ⟨rfl, rfl, hw⟩ := hrel
    subst wr
    go_wp2_with fail
    go_ret
    exact ⟨rfl, rfl⟩
theorem nil_eqSegmentS (a a' : Option Addr) (cap cap' : Nat) (w : World) : Calls Try.prog 21 #[.slice a 0 cap, .slice a' 0 cap'] w fun e w' => e = .returned (.bool true) ∧ w' = w := by
  go_enter Try.func21, Try.ntmps21
  go_wp2_with fail
  go_loopw [5] (fun i wr => i = .int .i64 0 ∧ wr = w) (fun _ _ => 0)
  case atStart => exact ⟨rfl, rfl⟩
  case round =>
    obtain ⟨rfl, hw⟩ := hrel
    subst wr
    go_wp2_with fail
    go_ret
    exact ⟨rfl, rfl⟩
theorem nil_markGather (k : Int) (hk : 0 ≤ k) (w : World) : Calls Try.prog 42 #[.agg #[.slice none 0 0, .slice none 0 0], .int .i64 k] w fun e w' => e = .returned (.int .i64 k) ∧ Below w.heap.size w w' := by
  have hk' : ¬ k < 0 := by omega
  go_enter Try.func42, Try.ntmps42
  go_wp2_with (first | (go_at_call 25; refine (nil_markByteS _ _ _ _).mono ?_; rintro e w' ⟨rfl, hw⟩; subst w') | (go_at_call 62; refine (nil_markPieceS _ _ _ _).mono ?_; rintro e w' ⟨rfl, hw⟩; subst w'))
  go_ret
  exact ⟨rfl, by go_grown⟩
theorem nil_markConn (A : Array Value) (k : Int) (hk : 0 ≤ k) (w : World) (a5 : A[5]? = some (.slice none 0 0)) (a9 : A[9]? = some (.slice none 0 0)) (a10 : A[10]? = some (.slice none 0 0)) (a13 : A[13]? = some (.slice none 0 0)) :
    Calls Try.prog 23 #[.agg A, .int .i64 k] w fun e w' => e = .returned (.int .i64 k) ∧ Below w.heap.size w w' := by
  have hk' : ¬ k < 0 := by omega
  go_enter Try.func23, Try.ntmps23
  go_wp2_with (first | (go_at_call 25; refine (nil_markByteS _ _ _ _).mono ?_; rintro e w' ⟨rfl, hw⟩; subst w'))
  refine (nil_markGather k hk _).mono ?_
  rintro e w1 ⟨rfl, hb⟩
  have k0 := bx_new hb
  replace hb := (bl_new hb).1
  have HB : Hid _ := hb
  clear hb
  go_wp2_with (first | (go_at_call 43; refine (nil_markSubS _ _ _ _).mono ?_; rintro e w' ⟨rfl, hw⟩; subst w'))
  go_ret
  exact ⟨rfl, HB.out⟩
theorem nil_heldGather (k : Int) (hk : 0 ≤ k) (w : World) : Calls Try.prog 44 #[.agg #[.slice none 0 0, .slice none 0 0], .int .i64 k] w fun e w' => e = .returned (.int .i64 k) ∧ Below w.heap.size w w' := by
  have hk' : ¬ k < 0 := by omega
  go_enter Try.func44, Try.ntmps44
  go_wp2_with (first | (go_at_call 28; refine (nil_heldByteS _ _ _ _).mono ?_; rintro e w' ⟨rfl, hw⟩; subst w') | (go_at_call 65; refine (nil_heldPieceS _ _ _ _).mono ?_; rintro e w' ⟨rfl, hw⟩; subst w'))
  go_ret
  exact ⟨rfl, by go_grown⟩
theorem nil_heldConn (A : Array Value) (k : Int) (hk : 0 ≤ k) (w : World) (a5 : A[5]? = some (.slice none 0 0)) (a9 : A[9]? = some (.slice none 0 0)) (a10 : A[10]? = some (.slice none 0 0)) (a13 : A[13]? = some (.slice none 0 0)) :
    Calls Try.prog 26 #[.agg A, .int .i64 k] w fun e w' => e = .returned (.int .i64 k) ∧ Below w.heap.size w w' := by
  have hk' : ¬ k < 0 := by omega
  go_enter Try.func26, Try.ntmps26
  go_wp2_with (first | (go_at_call 28; refine (nil_heldByteS _ _ _ _).mono ?_; rintro e w' ⟨rfl, hw⟩; subst w'))
  refine (nil_heldGather k hk _).mono ?_
  rintro e w1 ⟨rfl, hb⟩
  have k0 := bx_new hb
  replace hb := (bl_new hb).1
  have HB : Hid _ := hb
  clear hb
  go_wp2_with (first | (go_at_call 45; refine (nil_heldSubS _ _ _ _).mono ?_; rintro e w' ⟨rfl, hw⟩; subst w'))
  go_ret
  exact ⟨rfl, HB.out⟩
/-- What owns no block reads, wherever. -/
theorem nil_rd {w w' : World} {B : Nat} : ∀ (s : Sh) (d : s.El) (cs : List Value), s.Ow w [] d cs → s.Rd w' B d cs
  | .int _, _, _, h => h.2
  | .bool, _, _, h => h.2
  | .row t e, l, cs, h => by
    rcases h with ⟨_, h1, rfl⟩ | ⟨g, cap, cur, F, h1, h2, _⟩
    · exact ⟨none, 0, h1, ⟨Nat.le_refl _, Nat.zero_le _⟩, fun _ => rfl, 0, 0, fun h => absurd rfl h, fun i hi => by simp at hi⟩
    · cases h2
  | .rowO t e, l, cs, h => by
    rcases h with ⟨_, rfl, a, cap, h1, hm, hn⟩ | ⟨g, off, cap, cur, F, h1, h2, _⟩
    · exact ⟨a, cap, h1, ⟨Nat.zero_le _, hm⟩, hn, 0, 0, fun h => absurd rfl h, fun i hi => by simp at hi⟩
    · cases h2
  | .nil, _, _, h => h.2
  | .cons f r, d, cs, ⟨b1, b2, c1, c2, h0, h1, h2, h3⟩ => by
    have e1 : b1 = [] := (List.append_eq_nil_iff.1 h0.symm).1
    have e2 : b2 = [] := (List.append_eq_nil_iff.1 h0.symm).2
    subst e1 e2
    exact ⟨c1, c2, h1, nil_rd f _ _ h2, nil_rd r _ _ h3⟩
def nc14 (s k f : Int) : List Value := [.int .i64 s, .int .i64 k, .int .i64 0, .bool false, .bool false, .slice none 0 0, .bool false, .int .i64 0, .bool false, .slice none 0 0, .slice none 0 0, .int .i64 f, .int .i64 0, .slice none 0 0]
def nc18 (c s k f : Int) : Array Value := #[.int .i64 c, .int .i64 s, .int .i64 k, .int .i64 0, .bool false, .bool false, .slice none 0 0, .bool false, .int .i64 0, .bool false, .slice none 0 0, .slice none 0 0, .int .i64 f, .int .i64 0, .slice none 0 0, .slice none 0 0, .slice none 0 0, .bool false]
def nconn (s k f : Int) : DConn := (s, k, 0, false, false, [], false, 0, false, ([], [], ()), f, 0, [], ())
theorem nconn_rd (w : World) (B : Nat) {s k f : Int} (hs : (Lit.int .i64 s).wf = true) (hk : (Lit.int .i64 k).wf = true) (hf : (Lit.int .i64 f).wf = true) : shConn.Rd w B (nconn s k f) (nc14 s k f) := by
  have h := own_Conn (w := w) (lo := 0) (hi := 0) (m5 := 0) (m9 := 0) (y0 := s) (y1 := k) (y2 := 0) (y3 := false) (y4 := false) (d5 := []) (y6 := false) (y7 := 0) (y8 := false) (d9 := ([], [], ())) (y10 := f) (y11 := 0) (d12 := []) (a5xa := none) (a5xc := 0) (a9xa := none) (a9xc := 0) (a9ya := none) (a9yc := 0) (a12xa := none) (a12xc := 0)
    ⟨[], Or.inl ⟨rfl, rfl, rfl⟩, by simp, by simp⟩ ⟨[], ⟨[], [], _, _, rfl, rfl, Or.inl ⟨rfl, rfl, rfl⟩, [], [], _, _, rfl, rfl, Or.inl ⟨rfl, rfl, rfl⟩, rfl, rfl⟩, by simp, by simp⟩ ⟨[], Or.inl ⟨rfl, rfl, rfl⟩, by simp, by simp⟩ (Nat.le_refl _) (Nat.le_refl _) (Nat.le_refl _) ⟨hs, hk, wf_zero _, wf_zero _, hf, wf_zero _⟩
  obtain ⟨bs, h1, -, h3⟩ := h
  have hb : bs = [] := by cases bs with | nil => rfl | cons b _ => exact absurd (h3 b (by simp)).2 (by omega)
  subst hb
  exact nil_rd shConn _ _ h1
theorem info_C14 : (Try.prog.info? 28).map (·.size) = some 14 := by kernel_rfl
theorem info_C18 : (Try.prog.info? 31).map (·.size) = some 18 := by kernel_rfl
/-- The conn within a new answer's box. -/
theorem nc_range {w : World} {b : Nat} {c s k f : Int} (h : ∀ o, w.cell? ⟨b, o, none⟩ = (nc18 c s k f)[o]?) : w.rangeAt b 1 (nc14 s k f) := fun j v hv => by
  rw [h (1 + j), Nat.add_comm 1 j]
  have e : (nc18 c s k f)[j + 1]? = ((nc14 s k f) ++ [.slice none 0 0, .slice none 0 0, .bool false])[j]? := by unfold nc18 nc14; rw [List.getElem?_toArray, List.getElem?_cons_succ]; rfl
  rw [e, List.getElem?_append_left (List.getElem?_eq_some_iff.1 hv).1]
  exact hv
set_option maxHeartbeats 1000000 in
theorem nil_eqConnResult (c s k f : Int) (hs : (Lit.int .i64 s).wf = true) (hk : (Lit.int .i64 k).wf = true) (hf : (Lit.int .i64 f).wf = true) (w : World) : Calls Try.prog 7 #[.agg (nc18 c s k f), .agg (nc18 c s k f)] w fun e w' => e = .returned (.bool true) ∧ Below w.heap.size w w' := by
  have HE : Hid (∀ W, Calls Try.prog 15 #[.agg (nc14 s k f).toArray, .agg (nc14 s k f).toArray] W fun e w' => e = .returned (.bool true) ∧ Below W.heap.size W w') := fun W => lEqConn (nconn s k f) _ _ W W.heap.size (nconn_rd W _ hs hk hf) (nconn_rd W _ hs hk hf) (Nat.le_refl _) (by show 0 + (0 + (0 + 0)) + (0 + 0) ≤ 1048576; omega)
  have HBY : Hid (∀ W, Calls Try.prog 22 #[.slice none 0 0, .slice none 0 0] W fun e w' => e = .returned (.bool true) ∧ Below W.heap.size W w') := fun W => lEqBytes [] _ _ W W.heap.size (nil_rd (w := W) u8s [] _ (Or.inl ⟨rfl, rfl, rfl⟩)) (nil_rd (w := W) u8s [] _ (Or.inl ⟨rfl, rfl, rfl⟩)) (Nat.le_refl _) (by simp)
  have HR0 : Hid (∀ W : World, (∀ o, W.cell? ⟨w.heap.size, o, none⟩ = (nc18 c s k f)[o]?) → W.rangeAt w.heap.size 1 (nc14 s k f)) := fun W h => nc_range h
  have HR1 : Hid (∀ W : World, (∀ o, W.cell? ⟨w.heap.size + 1, o, none⟩ = (nc18 c s k f)[o]?) → W.rangeAt (w.heap.size + 1) 1 (nc14 s k f)) := fun W h => nc_range h
  have n0 : (nc18 c s k f)[0]? = some (.int .i64 c) := rfl
  have n15 : (nc18 c s k f)[15]? = some (.slice none 0 0) := rfl
  have n16 : (nc18 c s k f)[16]? = some (.slice none 0 0) := rfl
  have n17 : (nc18 c s k f)[17]? = some (.bool false) := rfl
  have HI : Hid ((Try.prog.info? 28).map (·.size) = some (nc14 s k f).length) := info_C14
  generalize nc18 c s k f = N at *
  generalize nc14 s k f = M at *
  go_enter Try.func7, Try.ntmps7
  go_upto_region 3 with fail
  have r0 : Hid (((w.alloc (.cells N 31)).alloc (.cells N 31)).rangeAt w.heap.size 1 M) := HR0.out _ (fun o => by simp [go_sem])
  have r1 : Hid (((w.alloc (.cells N 31)).alloc (.cells N 31)).rangeAt (w.heap.size + 1) 1 M) := HR1.out _ (fun o => by simp [go_sem])
  go_wp2_with (first | (refine wpList_load_mid rfl 28 _ rfl _ _ (by rfl) M _ r0.out Try.underlying28 rfl HI.out ?_) | (refine wpList_load_mid rfl 28 _ rfl _ _ (by rfl) M _ r1.out Try.underlying28 rfl HI.out ?_))
  refine (HE.out _).mono ?_
  rintro e w1 ⟨rfl, hb⟩
  have j0 : ∀ o, w1.cell? ⟨w.heap.size, o, none⟩ = N[o]? := fun o => by rw [hb.cell (p := ⟨w.heap.size, o, none⟩) (by simp; omega)]; simp [go_sem]
  have j1 : ∀ o, w1.cell? ⟨w.heap.size + 1, o, none⟩ = N[o]? := fun o => by rw [hb.cell (p := ⟨w.heap.size + 1, o, none⟩) (by simp)]; simp [go_sem]
  have HB : Hid (Below w.heap.size w w1) := Below.trans (((Below.refl _ _).alloc (Nat.le_refl _) _).alloc (by simp) _) (hb.mono (by simp; omega))
  have z1 : w.heap.size + 1 < w1.heap.size := by have := hb.size; simp at this; omega
  clear hb HE HR0 HR1
  go_wp2_with (go_at_call 21; refine (nil_eqSegmentS _ _ _ _ _).mono ?_; rintro e w' ⟨rfl, hw⟩; subst w')
  refine (HBY.out _).mono ?_
  rintro e w2 ⟨rfl, hb⟩
  replace j0 := bx_below j0 (by omega) hb
  replace j1 := bx_below j1 z1 hb
  replace HB : Hid (Below w.heap.size w w2) := HB.out.trans (hb.mono HB.out.size)
  clear hb
  go_wp2_with fail
  go_ret
  exact ⟨rfl, HB.out⟩
theorem nil_markConnResult (c s k f : Int) (q : Int) (hq : 0 ≤ q) (w : World) : Calls Try.prog 8 #[.agg (nc18 c s k f), .int .i64 q] w fun e w' => e = .returned (.int .i64 q) ∧ Below w.heap.size w w' := by
  have HE : Hid (∀ W, Calls Try.prog 23 #[.agg (nc14 s k f).toArray, .int .i64 q] W fun e w' => e = .returned (.int .i64 q) ∧ Below W.heap.size W w') := fun W => nil_markConn _ q hq W rfl rfl rfl rfl
  have HR0 : Hid ((w.alloc (.cells (nc18 c s k f) 31)).rangeAt w.heap.size 1 (nc14 s k f)) := nc_range (bx_al w _ _)
  have n15 : (nc18 c s k f)[15]? = some (.slice none 0 0) := rfl
  have n16 : (nc18 c s k f)[16]? = some (.slice none 0 0) := rfl
  have HI : Hid ((Try.prog.info? 28).map (·.size) = some (nc14 s k f).length) := info_C14
  have hq' : ¬ q < 0 := by omega
  generalize nc18 c s k f = N at *
  generalize nc14 s k f = M at *
  go_enter Try.func8, Try.ntmps8
  go_wp2_with (refine wpList_load_mid rfl 28 _ rfl _ _ (by rfl) M _ HR0.out Try.underlying28 rfl HI.out ?_)
  refine (HE.out _).mono ?_
  rintro e w1 ⟨rfl, hb⟩
  have j0 := bx_new hb
  have HB : Hid (Below w.heap.size w w1) := (bl_new hb).1
  clear hb HE HR0
  go_wp2_with (first | (go_at_call 24; refine (nil_markSegmentS _ _ _ _).mono ?_; rintro e w' ⟨rfl, hw⟩; subst w') | (go_at_call 25; refine (nil_markByteS _ _ _ _).mono ?_; rintro e w' ⟨rfl, hw⟩; subst w'))
  go_ret
  exact ⟨rfl, HB.out⟩
theorem nil_heldConnResult (c s k f : Int) (q : Int) (hq : 0 ≤ q) (w : World) : Calls Try.prog 9 #[.agg (nc18 c s k f), .int .i64 q] w fun e w' => e = .returned (.int .i64 q) ∧ Below w.heap.size w w' := by
  have HE : Hid (∀ W, Calls Try.prog 26 #[.agg (nc14 s k f).toArray, .int .i64 q] W fun e w' => e = .returned (.int .i64 q) ∧ Below W.heap.size W w') := fun W => nil_heldConn _ q hq W rfl rfl rfl rfl
  have HR0 : Hid ((w.alloc (.cells (nc18 c s k f) 31)).rangeAt w.heap.size 1 (nc14 s k f)) := nc_range (bx_al w _ _)
  have n15 : (nc18 c s k f)[15]? = some (.slice none 0 0) := rfl
  have n16 : (nc18 c s k f)[16]? = some (.slice none 0 0) := rfl
  have HI : Hid ((Try.prog.info? 28).map (·.size) = some (nc14 s k f).length) := info_C14
  have hq' : ¬ q < 0 := by omega
  generalize nc18 c s k f = N at *
  generalize nc14 s k f = M at *
  go_enter Try.func9, Try.ntmps9
  go_wp2_with (refine wpList_load_mid rfl 28 _ rfl _ _ (by rfl) M _ HR0.out Try.underlying28 rfl HI.out ?_)
  refine (HE.out _).mono ?_
  rintro e w1 ⟨rfl, hb⟩
  have j0 := bx_new hb
  have HB : Hid (Below w.heap.size w w1) := (bl_new hb).1
  clear hb HE HR0
  go_wp2_with (first | (go_at_call 27; refine (nil_heldSegmentS _ _ _ _).mono ?_; rintro e w' ⟨rfl, hw⟩; subst w') | (go_at_call 28; refine (nil_heldByteS _ _ _ _).mono ?_; rintro e w' ⟨rfl, hw⟩; subst w'))
  go_ret
  exact ⟨rfl, HB.out⟩
def newC (s k : Int) : Int := if (inD s 0 1 && keyD k) = true then 0 else 3
def newA (s k : Int) : Array Value := if (inD s 0 1 && keyD k) = true then nc18 0 s k (-1) else nc18 3 0 0 0
theorem nc_one (c s k f : Int) : (nc18 c s k f).all (·.oneCell') = true := by unfold nc18; simp [Value.oneCell']
theorem sL9Bad (q : Int) (w : World) : Calls Try.prog 18 #[.int .i64 q] w fun e w' => e = .returned (.agg (nc18 q 0 0 0)) ∧ Below w.heap.size w w' := by
  obtain ⟨N, hN⟩ : ∃ N, N = nc18 q 0 0 0 := ⟨_, rfl⟩
  have HN : Hid _ := hN
  have hz : N.size = 18 := by rw [hN]; rfl
  have HI : Hid ((Try.prog.info? 31).map (·.size) = some N.size) := by show _ = _; rw [hz]; exact info_C18
  have HONE : Hid (N.all (·.oneCell') = true) := by show _ = _; rw [hN]; exact nc_one _ _ _ _
  rw [← hN]
  clear hN
  have kR := bx_al w (#[.int .i64 0, .int .i64 0, .int .i64 0, .int .i64 0, .bool false, .bool false, .slice none 0 0, .bool false, .int .i64 0, .bool false, .slice none 0 0, .slice none 0 0, .int .i64 0, .int .i64 0, .slice none 0 0, .slice none 0 0, .slice none 0 0, .bool false]) 31
  have HTH : Hid ((w.alloc (.cells #[.int .i64 0, .int .i64 0, .int .i64 0, .int .i64 0, .bool false, .bool false, .slice none 0 0, .bool false, .int .i64 0, .bool false, .slice none 0 0, .slice none 0 0, .int .i64 0, .int .i64 0, .slice none 0 0, .slice none 0 0, .slice none 0 0, .bool false] 31)).there w.heap.size 0 N.size) := bx_there kR (fx_al _ _ _) (by rw [hz]; rfl)
  have HB : Hid (Below w.heap.size w (w.alloc (.cells #[.int .i64 0, .int .i64 0, .int .i64 0, .int .i64 0, .bool false, .bool false, .slice none 0 0, .bool false, .int .i64 0, .bool false, .slice none 0 0, .slice none 0 0, .int .i64 0, .int .i64 0, .slice none 0 0, .slice none 0 0, .slice none 0 0, .bool false] 31))) := (Below.refl _ _).alloc (Nat.le_refl _) _
  have HZ : Hid _ := hz
  clear hz
  have HK : Hid _ := kR
  clear kR
  go_enter Try.func18, Try.ntmps18
  go_wp2_with (refine wpList_store_mid rfl 31 _ _ rfl _ _ N (by rfl) (by rw [HN.out]; rfl) HTH.out HI.out HONE.out ?_)
  have hz := HZ.out
  have kR := HK.out
  refine bodyPost_ret (results_box Try.results18 _ _ _ N _ (by rfl) (bx_setCells (A' := N) kR (by rw [hz]; rfl)) Try.underlying31 rfl HI.out) rfl ⟨rfl, ?_⟩
  exact setCells_below (Nat.le_refl _) _ _ _ _ HB.out
set_option maxHeartbeats 1000000 in
theorem sNewConn (s k : Int) (w : World) : Calls Try.prog 5 #[.int .i64 s, .int .i64 k] w fun e w' => e = .returned (.agg (newA s k)) ∧ Below w.heap.size w w' := by
  have kR := bx_al w (#[.int .i64 0, .int .i64 0, .int .i64 0, .int .i64 0, .bool false, .bool false, .slice none 0 0, .bool false, .int .i64 0, .bool false, .slice none 0 0, .slice none 0 0, .int .i64 0, .int .i64 0, .slice none 0 0, .slice none 0 0, .slice none 0 0, .bool false]) 31
  have HB : Hid (Below w.heap.size w (w.alloc (.cells #[.int .i64 0, .int .i64 0, .int .i64 0, .int .i64 0, .bool false, .bool false, .slice none 0 0, .bool false, .int .i64 0, .bool false, .slice none 0 0, .slice none 0 0, .int .i64 0, .int .i64 0, .slice none 0 0, .slice none 0 0, .slice none 0 0, .bool false] 31))) := (Below.refl _ _).alloc (Nat.le_refl _) _
  cases h0 : inD s 0 1 with
  | false =>
    have hA : newA s k = nc18 3 0 0 0 := by unfold newA; simp [h0]
    rw [hA]
    clear hA
    obtain ⟨N, hN⟩ : ∃ N, N = nc18 3 0 0 0 := ⟨_, rfl⟩
    have HN : Hid _ := hN
    have hz : N.size = 18 := by rw [hN]; rfl
    have HI : Hid ((Try.prog.info? 31).map (·.size) = some N.size) := by show _ = _; rw [hz]; exact info_C18
    have HONE : Hid (N.all (·.oneCell') = true) := by show _ = _; rw [hN]; exact nc_one _ _ _ _
    rw [← hN]
    clear hN
    have HTX : Hid ((w.alloc (.cells #[.int .i64 0, .int .i64 0, .int .i64 0, .int .i64 0, .bool false, .bool false, .slice none 0 0, .bool false, .int .i64 0, .bool false, .slice none 0 0, .slice none 0 0, .int .i64 0, .int .i64 0, .slice none 0 0, .slice none 0 0, .slice none 0 0, .bool false] 31)).there w.heap.size 0 N.size) := bx_there kR (fx_al _ _ _) (by rw [hz]; rfl)
    have HZ : Hid _ := hz
    clear hz
    have HK : Hid _ := kR
    clear kR
    go_enter Try.func5, Try.ntmps5
    go_wp2_with (first | (go_at_call 16; refine (sInD _ _ _ _).mono ?_; rintro e w' ⟨rfl, hw⟩; subst w') | (go_at_call 17; refine (sKeyD _ _).mono ?_; rintro e w' ⟨rfl, hw⟩; subst w'))
    refine (sL9Bad 3 _).mono ?_
    rintro e w1 ⟨rfl, hb⟩
    have hz := HZ.out
    have kR := bx_new hb
    have fR : ∀ o, w1.frozen? ⟨w.heap.size, o, none⟩ = false := fun o => by rw [hb.frozen (p := ⟨w.heap.size, o, none⟩) (by simp)]; simp [go_sem]
    replace HTX : Hid (w1.there w.heap.size 0 N.size) := bx_there kR fR (by rw [hz]; rfl)
    replace HB : Hid (Below w.heap.size w w1) := (bl_new hb).1
    clear hb fR
    rw [← HN.out]
    replace HK : Hid _ := kR
    clear kR hz
    go_wp2_with (refine wpList_store_mid rfl 31 _ _ rfl _ _ N (by rfl) (by rfl) HTX.out HI.out HONE.out ?_)
    have hz := HZ.out
    have kR := HK.out
    refine bodyPost_ret (results_box Try.results5 _ _ _ N _ (by rfl) (bx_setCells (A' := N) kR (by rw [hz]; rfl)) Try.underlying31 rfl HI.out) rfl ⟨rfl, ?_⟩
    exact setCells_below (Nat.le_refl _) _ _ _ _ HB.out
  | true =>
    cases h1 : keyD k with
    | false =>
      have hA : newA s k = nc18 3 0 0 0 := by unfold newA; simp [h0, h1]
      rw [hA]
      clear hA
      obtain ⟨N, hN⟩ : ∃ N, N = nc18 3 0 0 0 := ⟨_, rfl⟩
      have HN : Hid _ := hN
      have hz : N.size = 18 := by rw [hN]; rfl
      have HI : Hid ((Try.prog.info? 31).map (·.size) = some N.size) := by show _ = _; rw [hz]; exact info_C18
      have HONE : Hid (N.all (·.oneCell') = true) := by show _ = _; rw [hN]; exact nc_one _ _ _ _
      rw [← hN]
      clear hN
      have HTX : Hid ((w.alloc (.cells #[.int .i64 0, .int .i64 0, .int .i64 0, .int .i64 0, .bool false, .bool false, .slice none 0 0, .bool false, .int .i64 0, .bool false, .slice none 0 0, .slice none 0 0, .int .i64 0, .int .i64 0, .slice none 0 0, .slice none 0 0, .slice none 0 0, .bool false] 31)).there w.heap.size 0 N.size) := bx_there kR (fx_al _ _ _) (by rw [hz]; rfl)
      have HZ : Hid _ := hz
      clear hz
      have HK : Hid _ := kR
      clear kR
      go_enter Try.func5, Try.ntmps5
      go_wp2_with (first | (go_at_call 16; refine (sInD _ _ _ _).mono ?_; rintro e w' ⟨rfl, hw⟩; subst w') | (go_at_call 17; refine (sKeyD _ _).mono ?_; rintro e w' ⟨rfl, hw⟩; subst w'))
      refine (sL9Bad 3 _).mono ?_
      rintro e w1 ⟨rfl, hb⟩
      have hz := HZ.out
      have kR := bx_new hb
      have fR : ∀ o, w1.frozen? ⟨w.heap.size, o, none⟩ = false := fun o => by rw [hb.frozen (p := ⟨w.heap.size, o, none⟩) (by simp)]; simp [go_sem]
      replace HTX : Hid (w1.there w.heap.size 0 N.size) := bx_there kR fR (by rw [hz]; rfl)
      replace HB : Hid (Below w.heap.size w w1) := (bl_new hb).1
      clear hb fR
      rw [← HN.out]
      replace HK : Hid _ := kR
      clear kR hz
      go_wp2_with (refine wpList_store_mid rfl 31 _ _ rfl _ _ N (by rfl) (by rfl) HTX.out HI.out HONE.out ?_)
      have hz := HZ.out
      have kR := HK.out
      refine bodyPost_ret (results_box Try.results5 _ _ _ N _ (by rfl) (bx_setCells (A' := N) kR (by rw [hz]; rfl)) Try.underlying31 rfl HI.out) rfl ⟨rfl, ?_⟩
      exact setCells_below (Nat.le_refl _) _ _ _ _ HB.out
    | true =>
      have hA : newA s k = nc18 0 s k (-1) := by unfold newA; simp [h0, h1]
      rw [hA]
      clear hA
      obtain ⟨N, hN⟩ : ∃ N, N = nc18 0 s k (-1) := ⟨_, rfl⟩
      have HN : Hid _ := hN
      have hz : N.size = 18 := by rw [hN]; rfl
      have HI : Hid ((Try.prog.info? 31).map (·.size) = some N.size) := by show _ = _; rw [hz]; exact info_C18
      have HONE : Hid (N.all (·.oneCell') = true) := by show _ = _; rw [hN]; exact nc_one _ _ _ _
      rw [← hN]
      clear hN
      have HTX : Hid ((w.alloc (.cells #[.int .i64 0, .int .i64 0, .int .i64 0, .int .i64 0, .bool false, .bool false, .slice none 0 0, .bool false, .int .i64 0, .bool false, .slice none 0 0, .slice none 0 0, .int .i64 0, .int .i64 0, .slice none 0 0, .slice none 0 0, .slice none 0 0, .bool false] 31)).there w.heap.size 0 N.size) := bx_there kR (fx_al _ _ _) (by rw [hz]; rfl)
      have HZ : Hid _ := hz
      clear hz
      have HK : Hid _ := kR
      clear kR
      go_enter Try.func5, Try.ntmps5
      go_wp2_with (first | (go_at_call 16; refine (sInD _ _ _ _).mono ?_; rintro e w' ⟨rfl, hw⟩; subst w') | (go_at_call 17; refine (sKeyD _ _).mono ?_; rintro e w' ⟨rfl, hw⟩; subst w') | (refine wpList_store_mid rfl 31 _ _ rfl _ _ N (by rfl) (by rw [HN.out]; rfl) HTX.out HI.out HONE.out ?_))
      have hz := HZ.out
      have kR := HK.out
      refine bodyPost_ret (results_box Try.results5 _ _ _ N _ (by rfl) (bx_setCells (A' := N) kR (by rw [hz]; rfl)) Try.underlying31 rfl HI.out) rfl ⟨rfl, ?_⟩
      exact setCells_below (Nat.le_refl _) _ _ _ _ HB.out
set_option maxHeartbeats 1000000 in
theorem iNewConn (s k : Int) (w : World) : Calls Try.prog 6 #[.int .i64 s, .int .i64 k] w fun e w' => e = .returned (.agg (newA s k)) ∧ Below w.heap.size w w' := by
  have kR := bx_al w (#[.int .i64 0, .int .i64 0, .int .i64 0, .int .i64 0, .bool false, .bool false, .slice none 0 0, .bool false, .int .i64 0, .bool false, .slice none 0 0, .slice none 0 0, .int .i64 0, .int .i64 0, .slice none 0 0, .slice none 0 0, .slice none 0 0, .bool false]) 31
  have HB : Hid (Below w.heap.size w (w.alloc (.cells #[.int .i64 0, .int .i64 0, .int .i64 0, .int .i64 0, .bool false, .bool false, .slice none 0 0, .bool false, .int .i64 0, .bool false, .slice none 0 0, .slice none 0 0, .int .i64 0, .int .i64 0, .slice none 0 0, .slice none 0 0, .slice none 0 0, .bool false] 31))) := (Below.refl _ _).alloc (Nat.le_refl _) _
  have HKF : Hid (∀ k W, Calls Try.prog 20 #[.int .i64 k] W fun e w' => e = .returned (.int .i64 (if keyD k = true then 0 else 3)) ∧ w' = W) := fun k W => iKeyF k W
  cases h0 : inD s 0 1 with
  | false =>
    have hA : newA s k = nc18 3 0 0 0 := by unfold newA; simp [h0]
    rw [hA]
    clear hA
    obtain ⟨N, hN⟩ : ∃ N, N = nc18 3 0 0 0 := ⟨_, rfl⟩
    have HN : Hid _ := hN
    have hz : N.size = 18 := by rw [hN]; rfl
    have HI : Hid ((Try.prog.info? 31).map (·.size) = some N.size) := by show _ = _; rw [hz]; exact info_C18
    have HONE : Hid (N.all (·.oneCell') = true) := by show _ = _; rw [hN]; exact nc_one _ _ _ _
    rw [← hN]
    clear hN
    have HTX : Hid ((w.alloc (.cells #[.int .i64 0, .int .i64 0, .int .i64 0, .int .i64 0, .bool false, .bool false, .slice none 0 0, .bool false, .int .i64 0, .bool false, .slice none 0 0, .slice none 0 0, .int .i64 0, .int .i64 0, .slice none 0 0, .slice none 0 0, .slice none 0 0, .bool false] 31)).there w.heap.size 0 N.size) := bx_there kR (fx_al _ _ _) (by rw [hz]; rfl)
    have HZ : Hid _ := hz
    clear hz
    have HK : Hid _ := kR
    clear kR
    go_enter Try.func6, Try.ntmps6
    go_wp2_with (first | (go_at_call 19; refine (iInD _ _ _ _).mono ?_; rintro e w' ⟨rfl, hw⟩; subst w') | (go_at_call 20; refine (HKF.out _ _).mono ?_; rintro e w' ⟨rfl, hw⟩; subst w') | (refine wpList_store_mid rfl 31 _ _ rfl _ _ N (by rfl) (by rw [HN.out]; rfl) HTX.out HI.out HONE.out ?_))
    have hz := HZ.out
    have kR := HK.out
    refine bodyPost_ret (results_box Try.results6 _ _ _ N _ (by rfl) (bx_setCells (A' := N) kR (by rw [hz]; rfl)) Try.underlying31 rfl HI.out) rfl ⟨rfl, ?_⟩
    exact setCells_below (Nat.le_refl _) _ _ _ _ HB.out
  | true =>
    cases h1 : keyD k with
    | false =>
      have hA : newA s k = nc18 3 0 0 0 := by unfold newA; simp [h0, h1]
      rw [hA]
      clear hA
      obtain ⟨N, hN⟩ : ∃ N, N = nc18 3 0 0 0 := ⟨_, rfl⟩
      have HN : Hid _ := hN
      have hz : N.size = 18 := by rw [hN]; rfl
      have HI : Hid ((Try.prog.info? 31).map (·.size) = some N.size) := by show _ = _; rw [hz]; exact info_C18
      have HONE : Hid (N.all (·.oneCell') = true) := by show _ = _; rw [hN]; exact nc_one _ _ _ _
      rw [← hN]
      clear hN
      have HTX : Hid ((w.alloc (.cells #[.int .i64 0, .int .i64 0, .int .i64 0, .int .i64 0, .bool false, .bool false, .slice none 0 0, .bool false, .int .i64 0, .bool false, .slice none 0 0, .slice none 0 0, .int .i64 0, .int .i64 0, .slice none 0 0, .slice none 0 0, .slice none 0 0, .bool false] 31)).there w.heap.size 0 N.size) := bx_there kR (fx_al _ _ _) (by rw [hz]; rfl)
      have HZ : Hid _ := hz
      clear hz
      have HK : Hid _ := kR
      clear kR
      go_enter Try.func6, Try.ntmps6
      go_wp2_with (first | (go_at_call 19; refine (iInD _ _ _ _).mono ?_; rintro e w' ⟨rfl, hw⟩; subst w') | (go_at_call 20; refine (HKF.out _ _).mono ?_; rintro e w' ⟨rfl, hw⟩; subst w') | (refine wpList_store_mid rfl 31 _ _ rfl _ _ N (by rfl) (by rw [HN.out]; rfl) HTX.out HI.out HONE.out ?_))
      have hz := HZ.out
      have kR := HK.out
      refine bodyPost_ret (results_box Try.results6 _ _ _ N _ (by rfl) (bx_setCells (A' := N) kR (by rw [hz]; rfl)) Try.underlying31 rfl HI.out) rfl ⟨rfl, ?_⟩
      exact setCells_below (Nat.le_refl _) _ _ _ _ HB.out
    | true =>
      have hA : newA s k = nc18 0 s k (-1) := by unfold newA; simp [h0, h1]
      rw [hA]
      clear hA
      obtain ⟨N, hN⟩ : ∃ N, N = nc18 0 s k (-1) := ⟨_, rfl⟩
      have HN : Hid _ := hN
      have hz : N.size = 18 := by rw [hN]; rfl
      have HI : Hid ((Try.prog.info? 31).map (·.size) = some N.size) := by show _ = _; rw [hz]; exact info_C18
      have HONE : Hid (N.all (·.oneCell') = true) := by show _ = _; rw [hN]; exact nc_one _ _ _ _
      rw [← hN]
      clear hN
      have HTX : Hid ((w.alloc (.cells #[.int .i64 0, .int .i64 0, .int .i64 0, .int .i64 0, .bool false, .bool false, .slice none 0 0, .bool false, .int .i64 0, .bool false, .slice none 0 0, .slice none 0 0, .int .i64 0, .int .i64 0, .slice none 0 0, .slice none 0 0, .slice none 0 0, .bool false] 31)).there w.heap.size 0 N.size) := bx_there kR (fx_al _ _ _) (by rw [hz]; rfl)
      have HZ : Hid _ := hz
      clear hz
      have HK : Hid _ := kR
      clear kR
      go_enter Try.func6, Try.ntmps6
      go_wp2_with (first | (go_at_call 19; refine (iInD _ _ _ _).mono ?_; rintro e w' ⟨rfl, hw⟩; subst w') | (go_at_call 20; refine (HKF.out _ _).mono ?_; rintro e w' ⟨rfl, hw⟩; subst w') | (refine wpList_store_mid rfl 31 _ _ rfl _ _ N (by rfl) (by rw [HN.out]; rfl) HTX.out HI.out HONE.out ?_))
      have hz := HZ.out
      have kR := HK.out
      refine bodyPost_ret (results_box Try.results6 _ _ _ N _ (by rfl) (bx_setCells (A' := N) kR (by rw [hz]; rfl)) Try.underlying31 rfl HI.out) rfl ⟨rfl, ?_⟩
      exact setCells_below (Nat.le_refl _) _ _ _ _ HB.out
end Go.Proofs.Ytlicopeejphgaap
