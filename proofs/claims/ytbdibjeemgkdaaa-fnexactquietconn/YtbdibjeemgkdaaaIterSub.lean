/- What the program's iterator over subs tells: those that are so, in order, each with its place, and whether there is one; no condition but that what is asked of each is answered and changes nothing. Written by mkiters.py. -/
import Derived.RangeFuncNested
import Derived.RangeFuncBound
import Derived.RangeFuncCalls
import Derived.RangeFuncLeaves
import Derived.RangeFuncBox
import Derived.Shelf.Abstract
import Derived.Shelf.RegionOpen
import Derived.WalkKit
import Derived.OwnWalkIn
import Derived.TacticsInMore
import Derived.LoopNIn
import Derived.LoopIn
import Derived.Deep.MidRow
import Derived.Test.YtbdibjeemgkdaaaRows
import Derived.Test.YtbdibjeemgkdaaaBase
import Derived.Test.YtbdibjeemgkdaaaMem
import Derived.Test.YtbdibjeemgkdaaaHBase
import Derived.Test.YtbdibjeemgkdaaaHFlight
import Derived.Test.YtbdibjeemgkdaaaHSender
import Derived.Test.YtbdibjeemgkdaaaFlightDef
import Derived.Test.YtbdibjeemgkdaaaBox
import Derived.Test.YtbdibjeemgkdaaaAgg
import Derived.Test.YtbdibjeemgkdaaaIter
namespace Go.Proofs.Ytbdibjeemgkdaaa
open Go.RowKit Go.Shelf
set_option linter.unusedVariables false
attribute [local go_sem] Oper.semAt_some

section
variable {F : Fence} {n : Nat} {P : Program} {ops : Array Oper} {Q : Exit → Act → World → Prop} {a : Act} {w : World} {rest : List Oper} {op : Oper}
/-- A load that is known to yield, inside a fence. -/
theorem wpListIn_ld (hw : Region.wanted op (yielded ops a.tmps) = true) (ty : TypeId) (x : Operand) (ho : op.op = .load ty x) (b o : Nat) (hx : a.eval x = .pointer (some ⟨b, o, none⟩)) (v : Value) (hl : (Instr.loadAt ty (.pointer (some ⟨b, o, none⟩))).run P w = .ok v w)
    (h : wpListIn F n P ops Q rest (a.put op.dst v) w) : wpListIn F n P ops Q (op :: rest) a w := by
  simp only [wpListIn, hw, if_true]
  refine ⟨fun f hf => by simp [Oper.about, ho] at hf, ?_⟩
  rw [Oper.semAt_plain F _ _ (fun c => by rw [ho]; simp)]
  unfold execOp
  simp only [ho, hx, Sem.run_bind, hl, Result.andThen_ok, Sem.run_pure]
  exact h
/-- A store that is known to be made, inside a fence. -/
theorem wpListIn_st (hw : Region.wanted op (yielded ops a.tmps) = true) (ty : TypeId) (x y : Operand) (ho : op.op = .store ty x y) (b o : Nat) (hx : a.eval x = .pointer (some ⟨b, o, none⟩)) (v : Value) (hy : a.eval y = v) (w' : World) (hl : (Instr.storeAt ty (.pointer (some ⟨b, o, none⟩)) v).run P w = .ok () w')
    (h : wpListIn F n P ops Q rest (a.put op.dst undef) w') : wpListIn F n P ops Q (op :: rest) a w := by
  simp only [wpListIn, hw, if_true]
  refine ⟨fun f hf => by simp [Oper.about, ho] at hf, ?_⟩
  rw [Oper.semAt_plain F _ _ (fun c => by rw [ho]; simp)]
  unfold execOp
  simp only [ho, hx, hy, Sem.run_bind, hl, Result.andThen_ok, Sem.run_pure]
  exact h
end
theorem so_noneS {n : Nat} (p : Fin n → Bool) : ∀ k, k ≤ n → soUp p k = [] → ∀ i : Fin n, i.1 < k → p i = false
  | 0, _, _, i, hi => by omega
  | k + 1, h, hs, i, hi => by
    have hk : k < n := by omega
    cases hp : p ⟨k, hk⟩ with
    | true => rw [soUp_yes p hk hp] at hs; simp at hs
    | false =>
      rw [soUp_no p hk hp] at hs
      by_cases he : i.1 = k
      · have : i = ⟨k, hk⟩ := Fin.ext he
        rw [this]; exact hp
      · exact so_noneS p k (by omega) hs i (by omega)
theorem kpF_bU {n₀ Bf : Nat} {w : World} (hn : n₀ ≤ w.heap.size) (hf : Bf < w.heap.size) (W : World) (l : Nat) (o o' : Obj) (hl : w.heap.size ≤ l) (h : W.heap[l]? = some o) (h1 : o.isCells = false) (h2 : o.isWalk = false) : KpF n₀ Bf W (W.putObj l o') :=
  ⟨belowK_b hn W l o o' hl h h1 h2, (grownBy_putObj' W l o').block Bf (by have := (Array.getElem?_eq_some_iff.1 h).1; omega) (fun e => by cases e; omega)⟩
/-- The cells of a row of structs of 16 cells, below n₀. -/
structure SbCells (W : World) (n₀ : Nat) (a : Option Addr) (len : Nat) (VS : Fin len → List Value) : Prop where
  at_ : ∀ k : Fin len, ∃ b off, a = some ⟨b, off, none⟩ ∧ b < n₀ ∧ W.rangeAt b (off + k.1 * 16) (VS k) ∧ (VS k).length = 16 ∧ ∀ v ∈ VS k, v.oneCell' = true
theorem SbCells.below {W W' : World} {n₀ : Nat} {a : Option Addr} {len : Nat} {VS : Fin len → List Value} (h : SbCells W n₀ a len VS) (hb : Below n₀ W W') : SbCells W' n₀ a len VS := ⟨fun k => by
  obtain ⟨b, off, ha, hlt, h0, h1⟩ := h.at_ k
  exact ⟨b, off, ha, hlt, range_below h0 hb hlt, h1⟩⟩
set_option maxRecDepth 100000 in
set_option maxHeartbeats 2000000 in
theorem those_inS (m : Nat) (a : Option Addr) (len cap fs : Nat) (lb : Array Value) (w : World) :
    CallsIn Fence.wide m Try.prog 38 #[.slice a len cap, .func (.func fs) #[] lb] w fun e w' => e = .returned (.func (.func 59) #[] #[.pointer (some ⟨w.heap.size, 0, none⟩), .pointer (some ⟨w.heap.size + 1, 0, none⟩)]) ∧ w' = (w.alloc (.cells #[.slice a len cap] 50)).alloc (.cells #[.func (.func fs) #[] lb] 62) := by
  refine callsIn_of_wp Try.func38 rfl trivial ?_ rfl
  simp only [Try.ntmps38, List.size_toArray, List.length_cons, List.length_nil, Nat.reduceAdd, Nat.reduceSub, Array.replicate_succ, Array.replicate_zero, List.push_toArray, List.append_toArray, List.nil_append, List.cons_append]
  gi_wp2
  go_ret
  exact ⟨rfl, rfl⟩
set_option maxRecDepth 100000 in
set_option maxHeartbeats 4000000 in
theorem those1_inS (m : Nat) (hm : 1 ≤ m) (l Bl Bf n₀ b off len cap : Nat) (hl : len ≤ 1048576) (VS : Fin len → List Value) (fs : Nat) (eg : ∀ args w, (callFunc fs args).run Try.prog w = .ok (.enter fs args) w) (lb : Array Value) (p : Fin len → Bool) (J Jx : List (Fin len) → World → Prop)
    (W : World) (hBl : W.cell? ⟨Bl, 0, none⟩ = some (.slice (some ⟨b, off, none⟩) len cap)) (hBf : W.cell? ⟨Bf, 0, none⟩ = some (.func (.func fs) #[] lb)) (hn₀ : n₀ ≤ W.heap.size) (hBf2 : Bf < W.heap.size)
    (hc0 : ∀ (k : Fin len), W.rangeAt b (off + k.1 * 16) (VS k)) (hc1 : ∀ (k : Fin len), (VS k).length = 16) (hc2 : ∀ (k : Fin len), ∀ v ∈ VS k, v.oneCell' = true) (hb : b < n₀)
    (hS : ∀ W' (k : Fin len), Below n₀ W W' → CallsIn Fence.wide (m - 1) Try.prog fs (#[.agg (VS k).toArray] ++ lb) W' fun e W'' => e = .returned (.bool (p k)) ∧ Below W'.heap.size W' W'')
    (hJ : AbidesFrom W.heap.size J)
    (hY : ∀ pre x W1, J pre W1 → pre.length < len → YieldAt Fence.wide (m - 1) Try.prog l #[.int .i64 (x.1 : Int), .agg (VS x).toArray] W1 fun e W' =>
      (e = .returned (.bool true) ∧ J (pre ++ [x]) W' ∧ KpF n₀ Bf W1 W') ∨ (e = .returned (.bool false) ∧ Jx (pre ++ [x]) W')) (h0 : J [] W) :
    CallsIn Fence.wide m Try.prog 59 #[.func (.yield l) #[] #[], .pointer (some ⟨Bl, 0, none⟩), .pointer (some ⟨Bf, 0, none⟩)] W fun e W' => (∃ v, e = .returned v) ∧
      ((∃ ys, ys = soUp p len ∧ J ys W') ∨ (∃ pre, (∃ k : Nat, ∃ (hk : k < len), p ⟨k, hk⟩ = true ∧ pre = soUp p (k + 1)) ∧ Jx pre W')) := by
  refine callsIn_of_wp Try.func59 rfl trivial ?_ rfl
  simp only [Try.ntmps59, List.size_toArray, List.length_cons, List.length_nil, Nat.reduceAdd, Nat.reduceSub, Array.replicate_succ, Array.replicate_zero, List.push_toArray, List.append_toArray, List.nil_append, List.cons_append]
  gi_wp2
  gi_loopw [8] (fun i wr => ∃ k : Nat, k ≤ len ∧ i = .int .i64 k ∧ J (soUp p k) wr ∧ Below n₀ W wr ∧ wr.cell? ⟨Bf, 0, none⟩ = some (.func (.func fs) #[] lb))
    (fun i _ => len - (intOf i).toNat)
  case atStart => exact ⟨0, Nat.zero_le _, rfl, h0, Below.refl _ _, hBf⟩
  case round =>
    obtain ⟨k, hk, rfl, hJs, hnx, hfb⟩ := hrel
    by_cases hlt : k < len
    · have hlt' : (k : Int) < (len : Int) := by omega
      have hSk : Hid (∀ W', Below n₀ W W' → CallsIn Fence.wide (m - 1) Try.prog fs (#[.agg (VS ⟨k, hlt⟩).toArray] ++ lb) W' fun e W'' => e = .returned (.bool (p ⟨k, hlt⟩)) ∧ Below W'.heap.size W' W'') := fun W' h => hS W' ⟨k, hlt⟩ h
      have hYk : Hid (∀ pre W1, J pre W1 → pre.length < len → YieldAt Fence.wide (m - 1) Try.prog l #[.int .i64 (k : Int), .agg (VS ⟨k, hlt⟩).toArray] W1 fun e W' =>
        (e = .returned (.bool true) ∧ J (pre ++ [⟨k, hlt⟩]) W' ∧ KpF n₀ Bf W1 W') ∨ (e = .returned (.bool false) ∧ Jx (pre ++ [⟨k, hlt⟩]) W')) := fun pre W1 h h2 => hY pre ⟨k, hlt⟩ W1 h h2
      have hYes : Hid (p ⟨k, hlt⟩ = true → soUp p (k + 1) = soUp p k ++ [⟨k, hlt⟩]) := fun h => soUp_yes p hlt h
      have hNo : Hid (p ⟨k, hlt⟩ = false → soUp p (k + 1) = soUp p k) := fun h => soUp_no p hlt h
      have hLn : Hid ((soUp p k).length < len) := by have := soUp_len p k; show _ < _; omega
      have hbf3 : Bf < wr.heap.size := cell_lt hfb
      have HQ : Hid (∀ pre, pre = soUp p (k + 1) → p ⟨k, hlt⟩ = true → ∃ k : Nat, ∃ (hk : k < len), p ⟨k, hk⟩ = true ∧ pre = soUp p (k + 1)) := fun pre h h2 => ⟨k, hlt, h2, h⟩
      have hrg : wr.rangeAt b (off + k * 16) (VS ⟨k, hlt⟩) := range_below (hc0 ⟨k, hlt⟩) hnx hb
      have hl16 := hc1 ⟨k, hlt⟩
      have hone := hc2 ⟨k, hlt⟩
      have hwr : n₀ ≤ wr.heap.size := Nat.le_trans hn₀ hnx.size
      clear hc0 hc1 hc2 hS hY
      generalize VS ⟨k, hlt⟩ = vs at *
      have HI : (Try.prog.info? 61).map (·.size) = some vs.length := by rw [hl16]; exact (by kernel_rfl : (Try.prog.info? 61).map (·.size) = some 16)
      have hld1 : (Instr.loadAt 61 (.pointer (some ⟨b, off + k * 16, none⟩))).run Try.prog wr = .ok (.agg vs.toArray) wr := run_loadAt_mid wr b (off + k * 16) 61 vs _ hrg Try.underlying61 rfl HI
      obtain ⟨W1, hW1⟩ : ∃ W1, W1 = (wr.alloc (.cells #[.int .i64 0, .int .i64 0, .bool false, .int .i64 0, .int .i64 0, .int .i64 0, .int .i64 0, .int .i64 0, .int .i64 0, .slice none 0 0, .int .i64 0, .int .i64 0, .slice none 0 0, .int .i64 0, .int .i64 0, .int .i64 0] 61)).setCells wr.heap.size 0 vs.toArray.toList := ⟨_, rfl⟩
      have hst1 : (Instr.storeAt 61 (.pointer (some ⟨wr.heap.size, 0, none⟩)) (.agg vs.toArray)).run Try.prog (wr.alloc (.cells #[.int .i64 0, .int .i64 0, .bool false, .int .i64 0, .int .i64 0, .int .i64 0, .int .i64 0, .int .i64 0, .int .i64 0, .slice none 0 0, .int .i64 0, .int .i64 0, .slice none 0 0, .int .i64 0, .int .i64 0, .int .i64 0] 61)) = .ok () W1 := by
        rw [hW1]
        exact run_storeAt_mid _ _ _ _ _ (bx_there (bx_al _ _ _) (fx_al _ _ _) (by rw [List.size_toArray, hl16]; rfl)) (by rw [List.size_toArray]; exact HI) (all_oneCell_toArray hone)
      have kb1 : ∀ o, W1.cell? ⟨wr.heap.size, o, none⟩ = vs.toArray[o]? := by rw [hW1]; exact bx_setCells (A' := vs.toArray) (bx_al wr _ _) (by rw [List.size_toArray, hl16]; rfl)
      have hB1 : Below wr.heap.size wr W1 := by rw [hW1]; exact setCells_below (Nat.le_refl _) _ _ _ _ ((Below.refl _ _).alloc (Nat.le_refl _) _)
      have hz1 : wr.heap.size < W1.heap.size := by rw [hW1, setCells_size]; simp
      clear hW1
      have hld2 : (Instr.loadAt 61 (.pointer (some ⟨wr.heap.size, 0, none⟩))).run Try.prog W1 = .ok (.agg vs.toArray) W1 := run_loadAt_mid W1 wr.heap.size 0 61 vs _ (bx_range (A := vs.toArray) kb1) Try.underlying61 rfl HI
      have hfb1 : W1.cell? ⟨Bf, 0, none⟩ = some (.func (.func fs) #[] lb) := (hB1.cell (p := ⟨Bf, 0, none⟩) hbf3).trans hfb
      have hld3 : Hid (∀ W2, Below W1.heap.size W1 W2 → (Instr.loadAt 61 (.pointer (some ⟨wr.heap.size, 0, none⟩))).run Try.prog W2 = .ok (.agg vs.toArray) W2) := fun W2 h2 => run_loadAt_mid W2 wr.heap.size 0 61 vs _ (bx_range (A := vs.toArray) (bx_below kb1 hz1 h2)) Try.underlying61 rfl HI
      clear hrg hl16 hone HI kb1
      gi_wp2_with (first | (refine wpListIn_ld (by rfl) 61 _ rfl _ _ (by rfl) _ hld1 ?_) | (refine wpListIn_st (by rfl) 61 _ _ rfl _ _ (by rfl) _ (by rfl) _ hst1 ?_) | (refine wpListIn_ld (by rfl) 61 _ rfl _ _ (by rfl) _ hld2 ?_))
      refine ⟨trivial, ?_⟩
      gi_wp2_with fail
      refine (hSk.out _ (hnx.trans (hB1.mono hwr))).mono ?_
      rintro e W2 ⟨rfl, hb2⟩
      have hbb : Below wr.heap.size wr W2 := hB1.trans (hb2.mono hB1.size)
      have hJ2 : J (soUp p k) W2 := hJ _ wr W2 none hJs (grown_below hbb) (fun r e => by cases e)
      have hfb2 : W2.cell? ⟨Bf, 0, none⟩ = some (.func (.func fs) #[] lb) := (hbb.cell (p := ⟨Bf, 0, none⟩) hbf3).trans hfb
      have hld4 := hld3.out W2 hb2
      have hnx2 : Below n₀ W W2 := hnx.trans (hbb.mono hwr)
      clear hb2 hbb hSk hJs hld1 hld2 hst1 hld3 hfb1
      by_cases hP : p ⟨k, hlt⟩ = true
      · obtain ⟨fn, tmps, assign, body, hy, hR⟩ := hYk.out _ W2 hJ2 hLn.out
        rw [hP]
        have hy2 := hYes.out hP
        have hq := HQ.out _ hy2.symm hP
        gi_wp2_with (refine wpListIn_ld (by rfl) 61 _ rfl _ _ (by rfl) _ hld4 ?_)
        refine hR.mono ?_
        rintro e W3 (⟨rfl, hJ3, hk3⟩ | ⟨rfl, hJx3⟩)
        · have hf3 : W3.cell? ⟨Bf, 0, none⟩ = some (.func (.func fs) #[] lb) := (World.cell?_of_block (w := W2) (a := ⟨Bf, 0, none⟩) hk3.2).trans hfb2
          gi_wp2
          go_roundw
          case rel => exact ⟨k + 1, by omega, by simp, by rw [hy2]; exact hJ3, hnx2.trans hk3.1, hf3⟩
          case measure => simp [intOf]; omega
        · gi_wp2
          refine bodyPost_ret (results_none rfl _ _ _) rfl ?_
          exact ⟨⟨_, rfl⟩, .inr ⟨_, hq, hJx3⟩⟩
      · replace hP : p ⟨k, hlt⟩ = false := by simpa using hP
        have hy2 := hNo.out hP
        rw [hP]
        gi_wp2
        refine ⟨fun _ h => (by cases h), ?_⟩
        gi_wp2
        go_roundw
        case rel => exact ⟨k + 1, by omega, by simp, by rw [hy2]; exact hJ2, hnx2, hfb2⟩
        case measure => simp [intOf]; omega
    · obtain rfl : k = len := by omega
      gi_wp2
      go_end0
      exact ⟨⟨_, rfl⟩, .inl ⟨_, rfl, hJs⟩⟩

set_option maxRecDepth 100000 in
set_option maxHeartbeats 2000000 in
theorem those1_nilS (m : Nat) (l Bl Bf cap : Nat) (a : Option Addr) (R : World → Prop) (W : World) (hBl : W.cell? ⟨Bl, 0, none⟩ = some (.slice a 0 cap)) (h0 : R W) :
    CallsIn Fence.wide m Try.prog 59 #[.func (.yield l) #[] #[], .pointer (some ⟨Bl, 0, none⟩), .pointer (some ⟨Bf, 0, none⟩)] W fun e W' => (∃ v, e = .returned v) ∧ R W' := by
  refine callsIn_of_wp Try.func59 rfl trivial ?_ rfl
  simp only [Try.ntmps59, List.size_toArray, List.length_cons, List.length_nil, Nat.reduceAdd, Nat.reduceSub, Array.replicate_succ, Array.replicate_zero, List.push_toArray, List.append_toArray, List.nil_append, List.cons_append]
  gi_wp2
  gi_loopw [8] (fun i wr => i = .int .i64 0 ∧ R wr) (fun _ _ => 0)
  case atStart => exact ⟨rfl, h0⟩
  case round =>
    obtain ⟨rfl, hJs⟩ := hrel
    gi_wp2
    go_end0
    exact ⟨⟨_, rfl⟩, hJs⟩

theorem those_stopsS (m : Nat) (hm : 1 ≤ m) (Bl Bf n₀ : Nat) (a : Option Addr) (len cap : Nat) (hl : len ≤ 1048576) (VS : Fin len → List Value) (fs : Nat) (eg : ∀ args w, (callFunc fs args).run Try.prog w = .ok (.enter fs args) w) (lb : Array Value) (p : Fin len → Bool) (w : World)
    (hBl : Bl < w.heap.size) (hBf : Bf < w.heap.size) (hn₀ : n₀ ≤ w.heap.size) (cl : w.cell? ⟨Bl, 0, none⟩ = some (.slice a len cap)) (cf : w.cell? ⟨Bf, 0, none⟩ = some (.func (.func fs) #[] lb)) (hc : SbCells w n₀ a len VS)
    (hS : ∀ W' (k : Fin len), Below n₀ w W' → CallsIn Fence.wide (m - 1) Try.prog fs (#[.agg (VS k).toArray] ++ lb) W' fun e W'' => e = .returned (.bool (p k)) ∧ Below W'.heap.size W' W'') :
    SeqStopsK Fence.wide m Try.prog 59 #[.pointer (some ⟨Bl, 0, none⟩), .pointer (some ⟨Bf, 0, none⟩)] (fun x : Fin len => #[Value.int .i64 (x.1 : Int), .agg (VS x).toArray]) (KpF n₀ Bf) (fun ys => ys = soUp p len) (fun pre => ∃ k : Nat, ∃ (hk : k < len), p ⟨k, hk⟩ = true ∧ pre = soUp p (k + 1)) len w := fun l J Jx W hW hJ hJx hY h0 => by
  have cl' := (hW.cell (p := ⟨Bl, 0, none⟩) hBl).trans cl
  have cf' := (hW.cell (p := ⟨Bf, 0, none⟩) hBf).trans cf
  have hc' := hc.below (hW.mono hn₀)
  by_cases hz : len = 0
  · subst hz
    exact (those1_nilS m l Bl Bf cap a (J []) W cl' h0).mono fun e W' ⟨he, hj⟩ => ⟨he, .inl ⟨_, rfl, hj⟩⟩
  · obtain ⟨b, off, ha, hlt, -⟩ := hc'.at_ ⟨0, by omega⟩
    subst ha
    have hat : ∀ k, W.rangeAt b (off + k.1 * 16) (VS k) ∧ (VS k).length = 16 ∧ ∀ v ∈ VS k, v.oneCell' = true := fun k => by
      obtain ⟨b', off', ha', -, h⟩ := hc'.at_ k
      simp only [Option.some.injEq, Addr.mk.injEq, and_true] at ha'
      obtain ⟨rfl, rfl⟩ := ha'
      exact h
    exact those1_inS m hm l Bl Bf n₀ b off len cap hl VS fs eg lb p J Jx W cl' cf' (Nat.le_trans hn₀ hW.size) (Nat.lt_of_lt_of_le hBf hW.size) (fun k => (hat k).1) (fun k => (hat k).2.1) (fun k => (hat k).2.2) hlt (fun W' k h => hS W' k ((hW.mono hn₀).trans h)) hJ hY h0
set_option maxRecDepth 100000 in
set_option maxHeartbeats 4000000 in
theorem iHasOneS (a : Option Addr) (len cap : Nat) (hl : len ≤ 1048576) (VS : Fin len → List Value) (fs : Nat) (eg : ∀ args w, (callFunc fs args).run Try.prog w = .ok (.enter fs args) w) (lb : Array Value) (p : Fin len → Bool) (R : Bool) (w : World)
    (hR1 : R = true → ∃ i, p i = true) (hR2 : R = false → ∀ i, p i = false) (hc : SbCells w w.heap.size a len VS)
    (hS : ∀ W' (k : Fin len), Below w.heap.size w W' → Calls Try.prog fs (#[.agg (VS k).toArray] ++ lb) W' fun e W'' => e = .returned (.bool (p k)) ∧ Below W'.heap.size W' W'') :
    Calls Try.prog 18 #[.slice a len cap, .func (.func fs) #[] lb] w fun e w' => e = .returned (.bool R) ∧ Below w.heap.size w w' := by
  refine (callsIn_wide (n := 6)).1 ?_
  refine callsIn_of_wp_marks Try.func18 rfl trivial ?_ rfl
  simp only [Try.ntmps18, List.size_toArray, List.length_cons, List.length_nil, Nat.reduceAdd, Nat.reduceSub, Array.replicate_succ, Array.replicate_zero, List.push_toArray, List.append_toArray, List.nil_append, List.cons_append]
  gi_wp2_with (refine ⟨trivial, ?_⟩; gi_at_call 38; refine (those_inS _ _ _ _ _ _ _).mono ?_; rintro e w' ⟨rfl, rfl⟩)
  have bO := ((Boxed.new w 4 (.bool false)).alloc (.cells #[.slice a len cap] 50)).alloc (.cells #[.func (.func fs) #[] lb] 62)
  have bL := (Boxed.new (w.alloc (.cells #[.bool false] 4)) 50 (.slice a len cap)).alloc (.cells #[.func (.func fs) #[] lb] 62)
  have bF := Boxed.new ((w.alloc (.cells #[.bool false] 4)).alloc (.cells #[.slice a len cap] 50)) 62 (.func (.func fs) #[] lb)
  rw [World.size_alloc] at bL
  rw [World.size_alloc, World.size_alloc] at bF
  have hB5 : Below w.heap.size w (((w.alloc (.cells #[.bool false] 4)).alloc (.cells #[.slice a len cap] 50)).alloc (.cells #[.func (.func fs) #[] lb] 62)) := (((Below.refl _ w).alloc (Nat.le_refl _) _).alloc (by simp) _).alloc (by simp; omega) _
  obtain ⟨W5, hW5⟩ : ∃ W5, W5 = ((w.alloc (.cells #[.bool false] 4)).alloc (.cells #[.slice a len cap] 50)).alloc (.cells #[.func (.func fs) #[] lb] 62) := ⟨_, rfl⟩
  have hz5 : W5.heap.size = w.heap.size + 1 + 1 + 1 := by rw [hW5]; simp
  rw [← hW5] at bO bL bF hB5 ⊢
  clear hW5
  refine wpIn_rangeFunc_ownG rfl (by decide) (gf := 59) (lb := #[.pointer (some ⟨w.heap.size + 1, 0, none⟩), .pointer (some ⟨w.heap.size + 1 + 1, 0, none⟩)]) rfl trivial (enters_of Try.func59 (by kernel_rfl) rfl)
    (those_stopsS _ (by decide) (w.heap.size + 1) (w.heap.size + 1 + 1) w.heap.size a len cap hl VS fs eg lb p W5 (by omega) (by omega) (by omega) bL.cell bF.cell (hc.below hB5) (fun W' k hW' => callsIn_wide.2 (hS W' k (hB5.trans hW'))))
    KpF.trans (kpF_bU (by omega) (by omega)) (Below.refl _ _) (fun _ => rfl)
    (fun pre W => (pre = [] ∧ Boxed W w.heap.size 4 (.bool false)) ∧ Below w.heap.size w W)
    (fun c pre W => (c = .ret ∧ Boxed W w.heap.size 4 (.bool true)) ∧ Below w.heap.size w W)
    (OwnFrom.and (OwnFrom.and (ownFrom_pure _ _) (Go.Own.from (boxed_own _ _ _) _)) (ownFrom_below (Nat.le_refl _) (by omega)))
    (fun c => OwnFrom.and (OwnFrom.and (ownFrom_pure _ _) (Go.Own.from (boxed_own _ _ _) _)) (ownFrom_below (Nat.le_refl _) (by omega)))
    ⟨⟨rfl, bO⟩, hB5⟩ ?a1 ?assign ?body ?done ?stop
  case assign =>
    intro l x W K hK
    gi_wp2
    exact hK
  case body =>
    rintro lr pre x W ⟨⟨hp, hv⟩, hB⟩ hlt
    have hcc := hv.cell
    have hff := hv.frozen
    gi_wp2
    exact ⟨(KeepsOthers.setCell _ _ _).from _, ⟨rfl, hv.set _⟩, hB.setCell (p := ⟨w.heap.size, 0, none⟩) (Nat.le_refl _) _⟩
  case done =>
    rintro D ys W hD hys ⟨⟨hp, hv⟩, hB⟩ hK
    have hcc := hv.cell
    have hff := hv.frozen
    have hR : R = false := by
      cases R with
      | false => rfl
      | true =>
        obtain ⟨i, hi⟩ := hR1 rfl
        have := so_noneS p len (Nat.le_refl _) (by rw [← hys]; exact hp) i i.2
        rw [this] at hi; cases hi
    subst hR
    gi_wp2
    have hK' := (KeepsOthers.setCell W ⟨w.heap.size, 0, none⟩ (.bool false)).same D _ hK rfl
    refine ⟨by simp, .inl ⟨_, _, rfl, run_takeDeferred hK', ?_⟩⟩
    have hc5 := cell_kept (hv.set (.bool false)).cell (grownBy_putObj' _ D (.deferred none)) (fun r e => by cases e; exact ⟨_, hK', rfl⟩)
    refine ⟨.bool false, by simp [results, Try.results18, go_sem, hc5], rfl, (hB.setCell (p := ⟨w.heap.size, 0, none⟩) (Nat.le_refl _) _).trans (belowK_b (w := w) (Nat.le_refl _) _ D _ _ (by omega) hK' rfl rfl)⟩
  case stop =>
    rintro D c pre W hD ⟨k, hk, hpk, -⟩ ⟨⟨rfl, hv⟩, hB⟩ hK
    have hR : R = true := by
      cases R with
      | true => rfl
      | false => have := hR2 rfl ⟨k, hk⟩; rw [this] at hpk; cases hpk
    subst hR
    gi_wp2
    refine ⟨by simp, .inl ⟨_, _, rfl, run_takeDeferred hK, ?_⟩⟩
    have hc5 := cell_kept hv.cell (grownBy_putObj' _ D (.deferred none)) (fun r e => by cases e; exact ⟨_, hK, rfl⟩)
    refine ⟨.bool true, by simp [results, Try.results18, go_sem, hc5], rfl, hB.trans (belowK_b (w := w) (Nat.le_refl _) W D _ _ (by omega) hK rfl rfl)⟩
end Go.Proofs.Ytbdibjeemgkdaaa
