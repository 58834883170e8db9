/- What the program's iterator over flights tells: those that are so, in order, each with its place; no condition but that what is asked of each is answered and changes nothing. -/
import Derived.RangeFuncNested
import Derived.RangeFuncBound
import Derived.RangeFuncCalls
import Derived.RangeFuncLeaves
import Derived.RangeFuncBox
import Derived.Shelf.Abstract
import Derived.Shelf.RegionOpen
import Derived.WalkKit
import Derived.OwnWalkIn
import Derived.TacticsInMore
import Derived.LoopNIn
import Derived.LoopIn
import Derived.Test.YtebgibjokljlbaaRows
import Derived.Maps.AppendAt
import Derived.Test.YtebgibjokljlbaaS01
import Derived.Test.YtebgibjokljlbaaS03
import Derived.Test.YtebgibjokljlbaaS04
import Derived.Test.YtebgibjokljlbaaS05
namespace Go.Proofs.Ytebgibjokljlbaa
open Go.RowKit Go.Shelf
set_option linter.unusedVariables false
attribute [local go_sem] Oper.semAt_some
theorem grown_below {W W' : World} (h : Below W.heap.size W W') : W.grownBy W' none := ⟨h.os, h.tape, h.output, h.size, fun k hk _ => h.block k hk⟩
def KpF (n₀ Bf : Nat) (W W' : World) : Prop := Below n₀ W W' ∧ W'.heap[Bf]? = W.heap[Bf]?
theorem KpF.trans {n₀ Bf : Nat} {A B C : World} (h : KpF n₀ Bf A B) (h' : KpF n₀ Bf B C) : KpF n₀ Bf A C := ⟨h.1.trans h'.1, h'.2.trans h.2⟩
def soUp {n : Nat} (p : Fin n → Bool) : Nat → List (Fin n)
  | 0 => []
  | k + 1 => if h : k < n then (if p ⟨k, h⟩ = true then soUp p k ++ [⟨k, h⟩] else soUp p k) else soUp p k
theorem soUp_yes {n : Nat} (p : Fin n → Bool) {k : Nat} (h : k < n) (hp : p ⟨k, h⟩ = true) : soUp p (k + 1) = soUp p k ++ [⟨k, h⟩] := by rw [soUp, dif_pos h, if_pos hp]
theorem soUp_no {n : Nat} (p : Fin n → Bool) {k : Nat} (h : k < n) (hp : p ⟨k, h⟩ = false) : soUp p (k + 1) = soUp p k := by rw [soUp, dif_pos h, if_neg (by simp [hp])]
theorem soUp_len {n : Nat} (p : Fin n → Bool) : ∀ k, (soUp p k).length ≤ k
  | 0 => by simp [soUp]
  | k + 1 => by
    have := soUp_len p k
    rw [soUp]
    split
    · split <;> simp <;> omega
    · omega
set_option maxRecDepth 100000 in
set_option maxHeartbeats 2000000 in
theorem those_in (m : Nat) (a : Option Addr) (len cap fs : Nat) (lb : Array Value) (w : World) :
    CallsIn Fence.wide m Try.prog 92 #[.slice a len cap, .func (.func fs) #[] lb] w fun e w' => e = .returned (.func (.func 130) #[] #[.pointer (some ⟨w.heap.size, 0, none⟩), .pointer (some ⟨w.heap.size + 1, 0, none⟩)]) ∧ w' = (w.alloc (.cells #[.slice a len cap] 134)).alloc (.cells #[.func (.func fs) #[] lb] 131) := by
  refine callsIn_of_wp Try.func92 rfl trivial ?_ rfl
  simp only [Try.ntmps92, List.size_toArray, List.length_cons, List.length_nil, Nat.reduceAdd, Nat.reduceSub, Array.replicate_succ, Array.replicate_zero, List.push_toArray, List.append_toArray, List.nil_append, List.cons_append]
  gi_wp2
  go_ret
  exact ⟨rfl, rfl⟩
set_option maxRecDepth 100000 in
set_option maxHeartbeats 4000000 in
theorem those1_in (m : Nat) (hm : 1 ≤ m) (l Bl Bf n₀ b off len cap : Nat) (hl : len ≤ 1000000) (Z0 Z1 Z3 Z4 : Fin len → Int) (VA : Fin len → Option Addr) (VN VC : Fin len → Nat) (fs : Nat) (eg : ∀ args w, (callFunc fs args).run Try.prog w = .ok (.enter fs args) w) (lb : Array Value) (p : Fin len → Bool) (J Jx : List (Fin len) → World → Prop)
    (W : World) (hBl : W.cell? ⟨Bl, 0, none⟩ = some (.slice (some ⟨b, off, none⟩) len cap)) (hBf : W.cell? ⟨Bf, 0, none⟩ = some (.func (.func fs) #[] lb)) (hn₀ : n₀ ≤ W.heap.size) (hBf2 : Bf < W.heap.size)
    (hc0 : ∀ (k : Fin len), W.cell? ⟨b, off + k.1 * 5, none⟩ = some (.int .i64 (Z0 k))) (hc1 : ∀ (k : Fin len), W.cell? ⟨b, off + k.1 * 5 + 1, none⟩ = some (.int .i64 (Z1 k))) (hc2 : ∀ (k : Fin len), W.cell? ⟨b, off + k.1 * 5 + 2, none⟩ = some (.slice (VA k) (VN k) (VC k))) (hc3 : ∀ (k : Fin len), W.cell? ⟨b, off + k.1 * 5 + 3, none⟩ = some (.int .i64 (Z3 k))) (hc4 : ∀ (k : Fin len), W.cell? ⟨b, off + k.1 * 5 + 4, none⟩ = some (.int .i64 (Z4 k))) (hb : b < n₀)
    (hS : ∀ W' (k : Fin len), Below n₀ W W' → CallsIn Fence.wide (m - 1) Try.prog fs (#[.agg #[.int .i64 (Z0 k), .int .i64 (Z1 k), .slice (VA k) (VN k) (VC k), .int .i64 (Z3 k), .int .i64 (Z4 k)]] ++ lb) W' fun e W'' => e = .returned (.bool (p k)) ∧ Below W'.heap.size W' W'')
    (hJ : AbidesFrom W.heap.size J)
    (hY : ∀ pre x W1, J pre W1 → pre.length < len → YieldAt Fence.wide (m - 1) Try.prog l #[.int .i64 (x.1 : Int), .agg #[.int .i64 (Z0 x), .int .i64 (Z1 x), .slice (VA x) (VN x) (VC x), .int .i64 (Z3 x), .int .i64 (Z4 x)]] W1 fun e W' =>
      (e = .returned (.bool true) ∧ J (pre ++ [x]) W' ∧ KpF n₀ Bf W1 W') ∨ (e = .returned (.bool false) ∧ Jx (pre ++ [x]) W')) (h0 : J [] W) :
    CallsIn Fence.wide m Try.prog 130 #[.func (.yield l) #[] #[], .pointer (some ⟨Bl, 0, none⟩), .pointer (some ⟨Bf, 0, none⟩)] W fun e W' => (∃ v, e = .returned v) ∧
      ((∃ ys, ys = soUp p len ∧ J ys W') ∨ (∃ pre, (∃ k : Nat, ∃ (hk : k < len), p ⟨k, hk⟩ = true ∧ pre = soUp p (k + 1)) ∧ Jx pre W')) := by
  refine callsIn_of_wp Try.func130 rfl trivial ?_ rfl
  simp only [Try.ntmps130, List.size_toArray, List.length_cons, List.length_nil, Nat.reduceAdd, Nat.reduceSub, Array.replicate_succ, Array.replicate_zero, List.push_toArray, List.append_toArray, List.nil_append, List.cons_append]
  gi_wp2
  gi_loopw [8] (fun i wr => ∃ k : Nat, k ≤ len ∧ i = .int .i64 k ∧ J (soUp p k) wr ∧ Below n₀ W wr ∧ wr.cell? ⟨Bf, 0, none⟩ = some (.func (.func fs) #[] lb))
    (fun i _ => len - (intOf i).toNat)
  case atStart => exact ⟨0, Nat.zero_le _, rfl, h0, Below.refl _ _, hBf⟩
  case round =>
    obtain ⟨k, hk, rfl, hJs, hnx, hfb⟩ := hrel
    by_cases hlt : k < len
    · have hlt' : (k : Int) < (len : Int) := by omega
      have q0 : wr.cell? ⟨b, off + k * 5, none⟩ = some (.int .i64 (Z0 ⟨k, hlt⟩)) := (hnx.cell (p := ⟨b, off + k * 5, none⟩) hb).trans (hc0 ⟨k, hlt⟩)
      have q1 : wr.cell? ⟨b, off + k * 5 + 1, none⟩ = some (.int .i64 (Z1 ⟨k, hlt⟩)) := (hnx.cell (p := ⟨b, off + k * 5 + 1, none⟩) hb).trans (hc1 ⟨k, hlt⟩)
      have q2 : wr.cell? ⟨b, off + k * 5 + 2, none⟩ = some (.slice (VA ⟨k, hlt⟩) (VN ⟨k, hlt⟩) (VC ⟨k, hlt⟩)) := (hnx.cell (p := ⟨b, off + k * 5 + 2, none⟩) hb).trans (hc2 ⟨k, hlt⟩)
      have q3 : wr.cell? ⟨b, off + k * 5 + 3, none⟩ = some (.int .i64 (Z3 ⟨k, hlt⟩)) := (hnx.cell (p := ⟨b, off + k * 5 + 3, none⟩) hb).trans (hc3 ⟨k, hlt⟩)
      have q4 : wr.cell? ⟨b, off + k * 5 + 4, none⟩ = some (.int .i64 (Z4 ⟨k, hlt⟩)) := (hnx.cell (p := ⟨b, off + k * 5 + 4, none⟩) hb).trans (hc4 ⟨k, hlt⟩)
      have hSk : Hid (∀ W', Below n₀ W W' → CallsIn Fence.wide (m - 1) Try.prog fs (#[.agg #[.int .i64 (Z0 ⟨k, hlt⟩), .int .i64 (Z1 ⟨k, hlt⟩), .slice (VA ⟨k, hlt⟩) (VN ⟨k, hlt⟩) (VC ⟨k, hlt⟩), .int .i64 (Z3 ⟨k, hlt⟩), .int .i64 (Z4 ⟨k, hlt⟩)]] ++ lb) W' fun e W'' => e = .returned (.bool (p ⟨k, hlt⟩)) ∧ Below W'.heap.size W' W'') := fun W' h => hS W' ⟨k, hlt⟩ h
      have hYk : Hid (∀ pre W1, J pre W1 → pre.length < len → YieldAt Fence.wide (m - 1) Try.prog l #[.int .i64 (k : Int), .agg #[.int .i64 (Z0 ⟨k, hlt⟩), .int .i64 (Z1 ⟨k, hlt⟩), .slice (VA ⟨k, hlt⟩) (VN ⟨k, hlt⟩) (VC ⟨k, hlt⟩), .int .i64 (Z3 ⟨k, hlt⟩), .int .i64 (Z4 ⟨k, hlt⟩)]] W1 fun e W' =>
        (e = .returned (.bool true) ∧ J (pre ++ [⟨k, hlt⟩]) W' ∧ KpF n₀ Bf W1 W') ∨ (e = .returned (.bool false) ∧ Jx (pre ++ [⟨k, hlt⟩]) W')) := fun pre W1 h h2 => hY pre ⟨k, hlt⟩ W1 h h2
      have hYes : Hid (p ⟨k, hlt⟩ = true → soUp p (k + 1) = soUp p k ++ [⟨k, hlt⟩]) := fun h => soUp_yes p hlt h
      have hNo : Hid (p ⟨k, hlt⟩ = false → soUp p (k + 1) = soUp p k) := fun h => soUp_no p hlt h
      have hLn : Hid ((soUp p k).length < len) := by have := soUp_len p k; show _ < _; omega
      have hbf3 : Bf < wr.heap.size := cell_lt hfb
      have HQ : Hid (∀ pre, pre = soUp p (k + 1) → p ⟨k, hlt⟩ = true → ∃ k : Nat, ∃ (hk : k < len), p ⟨k, hk⟩ = true ∧ pre = soUp p (k + 1)) := fun pre h h2 => ⟨k, hlt, h2, h⟩
      generalize Z0 ⟨k, hlt⟩ = z0 at *
      generalize Z1 ⟨k, hlt⟩ = z1 at *
      generalize Z3 ⟨k, hlt⟩ = z3 at *
      generalize Z4 ⟨k, hlt⟩ = z4 at *
      generalize VA ⟨k, hlt⟩ = va at *
      generalize VN ⟨k, hlt⟩ = vn at *
      generalize VC ⟨k, hlt⟩ = vc at *
      clear hc0 hc1 hc2 hc3 hc4 hS hY
      gi_wp2_with fail
      refine ⟨trivial, ?_⟩
      gi_wp2_with fail
      have hwr : n₀ ≤ wr.heap.size := Nat.le_trans hn₀ hnx.size
      refine (hSk.out _ (hnx.alloc hwr _)).mono ?_
      rintro e W2 ⟨rfl, hb2⟩
      have hbb : Below wr.heap.size wr W2 := ((Below.refl _ _).alloc (Nat.le_refl _) _).trans (hb2.mono (by simp))
      have hJ2 : J (soUp p k) W2 := hJ _ wr W2 none hJs (grown_below hbb) (fun r e => by cases e)
      have hfb2 : W2.cell? ⟨Bf, 0, none⟩ = some (.func (.func fs) #[] lb) := (hbb.cell (p := ⟨Bf, 0, none⟩) hbf3).trans hfb
      have k5 : ∀ o, W2.cell? ⟨wr.heap.size, o, none⟩ = (#[.int .i64 z0, .int .i64 z1, .slice va vn vc, .int .i64 z3, .int .i64 z4] : Array Value)[o]? := fun o => by rw [hb2.cell (p := ⟨wr.heap.size, o, none⟩) (by simp)]; simp [go_sem]
      have hnx2 : Below n₀ W W2 := hnx.trans (hbb.mono hwr)
      clear hb2 hbb hSk q0 q1 q2 q3 q4 hJs
      by_cases hP : p ⟨k, hlt⟩ = true
      · obtain ⟨fn, tmps, assign, body, hy, hR⟩ := hYk.out _ W2 hJ2 hLn.out
        rw [hP]
        have hy2 := hYes.out hP
        have hq := HQ.out _ hy2.symm hP
        gi_wp2
        refine hR.mono ?_
        rintro e W3 (⟨rfl, hJ3, hk3⟩ | ⟨rfl, hJx3⟩)
        · have hf3 : W3.cell? ⟨Bf, 0, none⟩ = some (.func (.func fs) #[] lb) := (World.cell?_of_block (w := W2) (a := ⟨Bf, 0, none⟩) hk3.2).trans hfb2
          gi_wp2
          go_roundw
          case rel => exact ⟨k + 1, by omega, by simp, by rw [hy2]; exact hJ3, hnx2.trans hk3.1, hf3⟩
          case measure => simp [intOf]; omega
        · gi_wp2
          refine bodyPost_ret (results_none rfl _ _ _) rfl ?_
          exact ⟨⟨_, rfl⟩, .inr ⟨_, hq, hJx3⟩⟩
      · replace hP : p ⟨k, hlt⟩ = false := by simpa using hP
        have hy2 := hNo.out hP
        rw [hP]
        gi_wp2
        refine ⟨fun _ h => (by cases h), ?_⟩
        gi_wp2
        go_roundw
        case rel => exact ⟨k + 1, by omega, by simp, by rw [hy2]; exact hJ2, hnx2, hfb2⟩
        case measure => simp [intOf]; omega
    · obtain rfl : k = len := by omega
      gi_wp2
      go_end0
      exact ⟨⟨_, rfl⟩, .inl ⟨_, rfl, hJs⟩⟩
set_option maxRecDepth 100000 in
set_option maxHeartbeats 2000000 in
theorem those1_nil (m : Nat) (l Bl Bf cap : Nat) (a : Option Addr) (R : World → Prop) (W : World) (hBl : W.cell? ⟨Bl, 0, none⟩ = some (.slice a 0 cap)) (h0 : R W) :
    CallsIn Fence.wide m Try.prog 130 #[.func (.yield l) #[] #[], .pointer (some ⟨Bl, 0, none⟩), .pointer (some ⟨Bf, 0, none⟩)] W fun e W' => (∃ v, e = .returned v) ∧ R W' := by
  refine callsIn_of_wp Try.func130 rfl trivial ?_ rfl
  simp only [Try.ntmps130, List.size_toArray, List.length_cons, List.length_nil, Nat.reduceAdd, Nat.reduceSub, Array.replicate_succ, Array.replicate_zero, List.push_toArray, List.append_toArray, List.nil_append, List.cons_append]
  gi_wp2
  gi_loopw [8] (fun i wr => i = .int .i64 0 ∧ R wr) (fun _ _ => 0)
  case atStart => exact ⟨rfl, h0⟩
  case round =>
    obtain ⟨rfl, hJs⟩ := hrel
    gi_wp2
    go_end0
    exact ⟨⟨_, rfl⟩, hJs⟩
structure FlCells (W : World) (n₀ : Nat) (a : Option Addr) (len : Nat) (Z0 Z1 Z3 Z4 : Fin len → Int) (VA : Fin len → Option Addr) (VN VC : Fin len → Nat) : Prop where
  at_ : ∀ k : Fin len, ∃ b off, a = some ⟨b, off, none⟩ ∧ b < n₀ ∧ W.cell? ⟨b, off + k.1 * 5, none⟩ = some (.int .i64 (Z0 k)) ∧ W.cell? ⟨b, off + k.1 * 5 + 1, none⟩ = some (.int .i64 (Z1 k)) ∧ W.cell? ⟨b, off + k.1 * 5 + 2, none⟩ = some (.slice (VA k) (VN k) (VC k)) ∧ W.cell? ⟨b, off + k.1 * 5 + 3, none⟩ = some (.int .i64 (Z3 k)) ∧ W.cell? ⟨b, off + k.1 * 5 + 4, none⟩ = some (.int .i64 (Z4 k))
theorem FlCells.below {W W' : World} {n₀ : Nat} {a : Option Addr} {len : Nat} {Z0 Z1 Z3 Z4 : Fin len → Int} {VA : Fin len → Option Addr} {VN VC : Fin len → Nat} (h : FlCells W n₀ a len Z0 Z1 Z3 Z4 VA VN VC) (hb : Below n₀ W W') : FlCells W' n₀ a len Z0 Z1 Z3 Z4 VA VN VC := ⟨fun k => by
  obtain ⟨b, off, ha, hlt, h0, h1, h2, h3, h4⟩ := h.at_ k
  exact ⟨b, off, ha, hlt, (hb.cell (p := ⟨b, off + k.1 * 5, none⟩) hlt).trans h0, (hb.cell (p := ⟨b, off + k.1 * 5 + 1, none⟩) hlt).trans h1, (hb.cell (p := ⟨b, off + k.1 * 5 + 2, none⟩) hlt).trans h2, (hb.cell (p := ⟨b, off + k.1 * 5 + 3, none⟩) hlt).trans h3, (hb.cell (p := ⟨b, off + k.1 * 5 + 4, none⟩) hlt).trans h4⟩⟩
theorem those_stops (m : Nat) (hm : 1 ≤ m) (Bl Bf n₀ : Nat) (a : Option Addr) (len cap : Nat) (hl : len ≤ 1000000) (Z0 Z1 Z3 Z4 : Fin len → Int) (VA : Fin len → Option Addr) (VN VC : Fin len → Nat) (fs : Nat) (eg : ∀ args w, (callFunc fs args).run Try.prog w = .ok (.enter fs args) w) (lb : Array Value) (p : Fin len → Bool) (w : World)
    (hBl : Bl < w.heap.size) (hBf : Bf < w.heap.size) (hn₀ : n₀ ≤ w.heap.size) (cl : w.cell? ⟨Bl, 0, none⟩ = some (.slice a len cap)) (cf : w.cell? ⟨Bf, 0, none⟩ = some (.func (.func fs) #[] lb)) (hc : FlCells w n₀ a len Z0 Z1 Z3 Z4 VA VN VC)
    (hS : ∀ W' (k : Fin len), Below n₀ w W' → CallsIn Fence.wide (m - 1) Try.prog fs (#[.agg #[.int .i64 (Z0 k), .int .i64 (Z1 k), .slice (VA k) (VN k) (VC k), .int .i64 (Z3 k), .int .i64 (Z4 k)]] ++ lb) W' fun e W'' => e = .returned (.bool (p k)) ∧ Below W'.heap.size W' W'') :
    SeqStopsK Fence.wide m Try.prog 130 #[.pointer (some ⟨Bl, 0, none⟩), .pointer (some ⟨Bf, 0, none⟩)] (fun x : Fin len => #[Value.int .i64 (x.1 : Int), .agg #[.int .i64 (Z0 x), .int .i64 (Z1 x), .slice (VA x) (VN x) (VC x), .int .i64 (Z3 x), .int .i64 (Z4 x)]]) (KpF n₀ Bf) (fun ys => ys = soUp p len) (fun pre => ∃ k : Nat, ∃ (hk : k < len), p ⟨k, hk⟩ = true ∧ pre = soUp p (k + 1)) len w := fun l J Jx W hW hJ hJx hY h0 => by
  have cl' := (hW.cell (p := ⟨Bl, 0, none⟩) hBl).trans cl
  have cf' := (hW.cell (p := ⟨Bf, 0, none⟩) hBf).trans cf
  have hc' := hc.below (hW.mono hn₀)
  by_cases hz : len = 0
  · subst hz
    exact (those1_nil m l Bl Bf cap a (J []) W cl' h0).mono fun e W' ⟨he, hj⟩ => ⟨he, .inl ⟨_, rfl, hj⟩⟩
  · obtain ⟨b, off, ha, hlt, -⟩ := hc'.at_ ⟨0, by omega⟩
    subst ha
    have hat : ∀ k, W.cell? ⟨b, off + k.1 * 5, none⟩ = some (.int .i64 (Z0 k)) ∧ W.cell? ⟨b, off + k.1 * 5 + 1, none⟩ = some (.int .i64 (Z1 k)) ∧ W.cell? ⟨b, off + k.1 * 5 + 2, none⟩ = some (.slice (VA k) (VN k) (VC k)) ∧ W.cell? ⟨b, off + k.1 * 5 + 3, none⟩ = some (.int .i64 (Z3 k)) ∧ W.cell? ⟨b, off + k.1 * 5 + 4, none⟩ = some (.int .i64 (Z4 k)) := fun k => by
      obtain ⟨b', off', ha', -, h⟩ := hc'.at_ k
      simp only [Option.some.injEq, Addr.mk.injEq, and_true] at ha'
      obtain ⟨rfl, rfl⟩ := ha'
      exact h
    exact those1_in m hm l Bl Bf n₀ b off len cap hl Z0 Z1 Z3 Z4 VA VN VC fs eg lb p J Jx W cl' cf' (Nat.le_trans hn₀ hW.size) (Nat.lt_of_lt_of_le hBf hW.size) (fun k => (hat k).1) (fun k => (hat k).2.1) (fun k => (hat k).2.2.1) (fun k => (hat k).2.2.2.1) (fun k => (hat k).2.2.2.2) hlt (fun W' k h => hS W' k ((hW.mono hn₀).trans h)) hJ hY h0
end Go.Proofs.Ytebgibjokljlbaa
namespace Go.Proofs.Ytebgibjokljlbaa
open Go.RowKit Go.Shelf
set_option linter.unusedVariables false
attribute [local go_sem] Oper.semAt_some
theorem fl_cellsS {w : World} {B : Nat} {l : List DFlight} {a : Option Addr} {n cap : Nat} (h : shFlights.Rd w B l [.slice a n cap]) :
    ∃ (VA : Fin l.length → Option Addr) (VN VC : Fin l.length → Nat), FlCells w B a l.length (fun k => l[k].1) (fun k => l[k].2.1) (fun k => l[k].2.2.2.1) (fun k => l[k].2.2.2.2.1) VA VN VC ∧ (∀ k, VN k = l[k].2.2.1.length) ∧
      (∀ k, shFlight.Rd w B l[k] [.int .i64 l[k].1, .int .i64 l[k].2.1, .slice (VA k) (VN k) (VC k), .int .i64 l[k].2.2.2.1, .int .i64 l[k].2.2.2.2.1]) := by
  have h1 : ∀ k : Fin l.length, ∃ t : Option Addr × Nat × Nat, (∃ b off, a = some ⟨b, off, none⟩ ∧ b < B ∧ w.cell? ⟨b, off + k.1 * 5, none⟩ = some (.int .i64 l[k].1) ∧ w.cell? ⟨b, off + k.1 * 5 + 1, none⟩ = some (.int .i64 l[k].2.1) ∧ w.cell? ⟨b, off + k.1 * 5 + 2, none⟩ = some (.slice t.1 t.2.1 t.2.2) ∧ w.cell? ⟨b, off + k.1 * 5 + 3, none⟩ = some (.int .i64 l[k].2.2.2.1) ∧ w.cell? ⟨b, off + k.1 * 5 + 4, none⟩ = some (.int .i64 l[k].2.2.2.2.1)) ∧ t.2.1 = l[k].2.2.1.length ∧ shFlight.Rd w B l[k] [.int .i64 l[k].1, .int .i64 l[k].2.1, .slice t.1 t.2.1 t.2.2, .int .i64 l[k].2.2.2.1, .int .i64 l[k].2.2.2.2.1] := fun k => by
    obtain ⟨b, off, v, ha, hb, q0, q1, q2, q3, q4, r3⟩ := at_Flights h k.1 k.2
    obtain ⟨vv, ev, rk, -⟩ := rd_Flight r3
    simp only [List.cons.injEq, and_true, true_and] at ev
    subst ev
    obtain ⟨va, vc, ev2⟩ := row_form rk
    simp only [List.cons.injEq, and_true] at ev2
    subst ev2
    exact ⟨(va, _, vc), ⟨b, off, ha, hb, q0, q1, q2, q3, q4⟩, rfl, r3⟩
  obtain ⟨f, hf⟩ := Classical.axiomOfChoice h1
  exact ⟨fun k => (f k).1, fun k => (f k).2.1, fun k => (f k).2.2, ⟨fun k => (hf k).1⟩, fun k => (hf k).2.1, fun k => (hf k).2.2⟩
theorem FlCells.monoS {W : World} {n₀ n₁ : Nat} {a : Option Addr} {len : Nat} {Z0 Z1 Z3 Z4 : Fin len → Int} {VA : Fin len → Option Addr} {VN VC : Fin len → Nat} (h : FlCells W n₀ a len Z0 Z1 Z3 Z4 VA VN VC) (hb : n₀ ≤ n₁) : FlCells W n₁ a len Z0 Z1 Z3 Z4 VA VN VC := ⟨fun k => by
  obtain ⟨b, off, ha, hlt, h⟩ := h.at_ k
  exact ⟨b, off, ha, Nat.lt_of_lt_of_le hlt hb, h⟩⟩
theorem kpF_bS {n₀ Bf : Nat} {w : World} (hn : n₀ ≤ w.heap.size) (hf : Bf < w.heap.size) (W : World) (l : Nat) (o o' : Obj) (hl : w.heap.size ≤ l) (h : W.heap[l]? = some o) (h1 : o.isCells = false) (h2 : o.isWalk = false) : KpF n₀ Bf W (W.putObj l o') :=
  ⟨belowK_b hn W l o o' hl h h1 h2, (grownBy_putObj' W l o').block Bf (by have := (Array.getElem?_eq_some_iff.1 h).1; omega) (fun e => by cases e; omega)⟩
end Go.Proofs.Ytebgibjokljlbaa
