/- Two paths compared by how many flights of them are stale, as orderOf's closure does it; nothing that was in memory turns; no condition but that there are at most a million parts. Written by mkord2.py. -/
import Derived.Test.YtcbgedlckcjjnaaGreatRows
import Derived.Deep.RegionHeld3
import Derived.Deep.DeepCutAuto
import Derived.Deep.DeepMust
import Derived.Deep.MidRow
import Derived.RangeFuncNested
import Derived.RangeFuncBound
import Derived.RangeFuncCalls
import Derived.RangeFuncLeaves
import Derived.RangeFuncBox
import Derived.Shelf.Abstract
import Derived.Shelf.RegionOpen
import Derived.WalkKit
import Derived.OwnWalkIn
import Derived.TacticsInMore
import Derived.LoopNIn
import Derived.LoopIn
import Derived.Maps.AppendAt
import Derived.WalkSmall
import Derived.Test.YtcbgedlckcjjnaaGreatK01
import Derived.Test.YtcbgedlckcjjnaaGreatK02
import Derived.Test.YtcbgedlckcjjnaaGreatK03
import Derived.Test.YtcbgedlckcjjnaaGreatK04
import Derived.Test.YtcbgedlckcjjnaaGreatK05
import Derived.Test.YtcbgedlckcjjnaaGreatK08
import Derived.Test.YtcbgedlckcjjnaaGreatK09
import Derived.Test.YtcbgedlckcjjnaaGreatK10
import Derived.Test.YtcbgedlckcjjnaaGreatK11
import Derived.Test.YtcbgedlckcjjnaaGreatK12
import Derived.Test.YtcbgedlckcjjnaaGreatK13
import Derived.Test.YtcbgedlckcjjnaaGreatK14
import Derived.Test.YtcbgedlckcjjnaaGreatK15
import Derived.Test.YtcbgedlckcjjnaaGreatK16
import Derived.Test.YtcbgedlckcjjnaaGreatK17
import Derived.Test.YtcbgedlckcjjnaaGreatK21
import Derived.Test.YtcbgedlckcjjnaaGreatK28
import Derived.Test.YtcbgedlckcjjnaaGreatK72
import Derived.Test.YtcbgedlckcjjnaaGreatK73
namespace Go.Proofs.YtcbgedlckcjjnaaGreat
open Go.RowKit
set_option linter.unusedVariables false
set_option maxRecDepth 8000
theorem fldO (a b : Value) (w : World) : Sem.run Tryz.prog (Instr.field 160 (.agg #[a, b]) 1) w = .ok b w := by
  kernel_rfl
theorem iStaleOfA (x : DSub) (A : Array Value) (w : World) (B : Nat) (hr : shSub.Rd w B x A.toList) (hB : B ≤ w.heap.size) (hT : totSub x ≤ 1048576) :
    Calls Tryz.prog 98 #[.agg A] w fun e w' => e = .returned (.agg #[.int .i64 (subF x), .int .i64 (stlV x)]) ∧ Below w.heap.size w w' := by
  obtain ⟨u, v, e, -⟩ := rd_Sub hr
  rw [e] at hr
  rw [arr_of e]
  exact iStaleOf x u v w B hr hB hT
set_option maxHeartbeats 4000000 in
theorem iCmpStale (l : List DSub) (va : Option Addr) (n c pb : Nat) (w : World) (B : Nat) (hr : shSubs.Rd w B l [.slice va n c]) (hB : B ≤ w.heap.size) (hn : l.length = n) (hT : totSubs l ≤ 1048576) (hp : w.cell? ⟨pb, 0, none⟩ = some (.slice va n c)) (hpb : pb < w.heap.size) (i j : Nat) (hi : i < l.length) (hj : j < l.length) :
    Calls Tryz.prog 96 #[.int .i64 i, .int .i64 j, .pointer (some ⟨pb, 0, none⟩)] w fun e w' => e = .returned (.int .i64 (sgnC (stlV l[i]) (stlV l[j]))) ∧ Below w.heap.size w w' := by
  have HT : Hid (∀ k (hk : k < l.length), totSub l[k] ≤ 1048576) := fun k hk => by have := fsum_at totSub hk; unfold totSubs at hT; omega
  obtain ⟨b, off, cs, ha, hb, hlen, hrg, r3, -⟩ := sub_at hr i hi
  subst ha
  obtain ⟨b', off', ds, ha', hb', hlen', hrg', r3', -⟩ := sub_at hr j hj
  simp only [Option.some.injEq, Addr.mk.injEq, and_true] at ha'
  obtain ⟨rfl, rfl⟩ := ha'
  have HI : Hid ((Tryz.prog.info? 145).map (·.size) = some cs.length) := by show _ = _; rw [hlen]; exact (by kernel_rfl : (Tryz.prog.info? 145).map (·.size) = some 16)
  have HJ : Hid ((Tryz.prog.info? 145).map (·.size) = some ds.length) := by show _ = _; rw [hlen']; exact (by kernel_rfl : (Tryz.prog.info? 145).map (·.size) = some 16)
  have HG : Hid (w.rangeAt b (off + i * 16) cs) := hrg
  have HH : Hid (w.rangeAt b (off + j * 16) ds) := hrg'
  have HC : Hid (∀ W, Below w.heap.size w W → Calls Tryz.prog 98 #[.agg cs.toArray] W fun e w' => e = .returned (.agg #[.int .i64 (subF l[i]), .int .i64 (stlV l[i])]) ∧ Below W.heap.size W w') := fun W hW => iStaleOfA l[i] cs.toArray W B (Sh.Rd.below (s := shSub) r3 hB hW) (Nat.le_trans hB hW.size) (HT.out i hi)
  have HD : Hid (∀ W, Below w.heap.size w W → Calls Tryz.prog 98 #[.agg ds.toArray] W fun e w' => e = .returned (.agg #[.int .i64 (subF l[j]), .int .i64 (stlV l[j])]) ∧ Below W.heap.size W w') := fun W hW => iStaleOfA l[j] ds.toArray W B (Sh.Rd.below (s := shSub) r3' hB hW) (Nat.le_trans hB hW.size) (HT.out j hj)
  have hin : (i : Int) < (n : Int) := by omega
  have hjn : (j : Int) < (n : Int) := by omega
  have hi0 : (0 : Int) ≤ (i : Int) := by omega
  have hj0 : (0 : Int) ≤ (j : Int) := by omega
  have hbw : b < w.heap.size := Nat.lt_of_lt_of_le hb hB
  clear hr hT HT hlen hlen' hrg hrg' r3 r3'
  generalize subF l[i] = f1 at *
  generalize subF l[j] = f2 at *
  generalize stlV l[i] = s1 at *
  generalize stlV l[j] = s2 at *
  go_enter Tryz.func96, Tryz.ntmps96
  go_upto_region 1 with fail
  refine wp_region_noPanic ?_
  refine Goes.start (S := fun w' => Below w.heap.size w w') (z := 100) (by kernel_rfl) ?_
  refine Goes.take (i := 0) (oi := ?oi1) (x := ?vx1) ?ho1 (by kernel_rfl) (by kernel_rfl) (by kernel_rfl) (by kernel_rfl) (fun _ _ _ h => h) (Or.inl ⟨?hw1, ?hy1⟩) (Below.drew (Below.refl _ _)) ?rest1
  case ho1 => (simp only [List.getElem?_toArray, List.getElem?_cons_zero] <;> rfl)
  case hw1 => rfl
  case hy1 => (intro w' hSw; have kp := (hSw.cell (p := ⟨pb, 0, none⟩) hpb).trans hp; go_simp; (try with_reducible rfl))
  case rest1 =>
  (try simp only [Act.put, List.setIfInBounds_toArray, List.set_cons_zero, List.set_cons_succ])
  refine Goes.take (i := 1) (oi := ?oi2) (x := ?vx2) ?ho2 (by kernel_rfl) (by kernel_rfl) (by kernel_rfl) (by kernel_rfl) (fun _ _ _ h => h) (Or.inl ⟨?hw2, ?hy2⟩) (Below.drew (Below.refl _ _)) ?rest2
  case ho2 => (simp only [List.getElem?_toArray, List.getElem?_cons_succ, List.getElem?_cons_zero] <;> rfl)
  case hw2 => rfl
  case hy2 => (intro w' hSw; have kp := (hSw.cell (p := ⟨pb, 0, none⟩) hpb).trans hp; go_simp; (try with_reducible rfl))
  case rest2 =>
  (try simp only [Act.put, List.setIfInBounds_toArray, List.set_cons_zero, List.set_cons_succ])
  refine Goes.take (i := 2) (oi := ?oi3) (x := ?vx3) ?ho3 (by kernel_rfl) (by kernel_rfl) (by kernel_rfl) (by kernel_rfl) (fun _ _ _ h => h) (Or.inl ⟨?hw3, ?hy3⟩) (Below.drew (Below.refl _ _)) ?rest3
  case ho3 => (simp only [List.getElem?_toArray, List.getElem?_cons_succ, List.getElem?_cons_zero] <;> rfl)
  case hw3 => rfl
  case hy3 => (intro w' hSw; have kp := (hSw.cell (p := ⟨pb, 0, none⟩) hpb).trans hp; go_simp; (try with_reducible rfl))
  case rest3 =>
  (try simp only [Act.put, List.setIfInBounds_toArray, List.set_cons_zero, List.set_cons_succ])
  refine Goes.take (i := 3) (oi := ?oi4) (x := .agg (cs).toArray) ?ho4 (by kernel_rfl) (by kernel_rfl) (by kernel_rfl) (by kernel_rfl) (fun _ _ _ h => h) ?hy4 (Below.drew (Below.refl _ _)) ?rest4
  case ho4 => (simp only [List.getElem?_toArray, List.getElem?_cons_succ, List.getElem?_cons_zero] <;> rfl)
  case hy4 => exact yieldsIf_load_mid (by rfl) 145 _ rfl (b) (off + i * 16) (by rfl) (cs) _ (fun w' hSw => range_below HG.out hSw hbw) Tryz.underlying145 rfl HI.out
  case rest4 =>
  (try simp only [Act.put, List.setIfInBounds_toArray, List.set_cons_zero, List.set_cons_succ])
  refine Goes.take (i := 6) (oi := ?oi5) (x := ?vx5) ?ho5 (by kernel_rfl) (by kernel_rfl) (by kernel_rfl) (by kernel_rfl) (fun _ _ _ h => h) (Or.inl ⟨?hw5, ?hy5⟩) (Below.drew (Below.refl _ _)) ?rest5
  case ho5 => (simp only [List.getElem?_toArray, List.getElem?_cons_succ, List.getElem?_cons_zero] <;> rfl)
  case hw5 => rfl
  case hy5 => (intro w' hSw; have kp := (hSw.cell (p := ⟨pb, 0, none⟩) hpb).trans hp; go_simp; (try with_reducible rfl))
  case rest5 =>
  (try simp only [Act.put, List.setIfInBounds_toArray, List.set_cons_zero, List.set_cons_succ])
  refine Goes.take (i := 7) (oi := ?oi6) (x := ?vx6) ?ho6 (by kernel_rfl) (by kernel_rfl) (by kernel_rfl) (by kernel_rfl) (fun _ _ _ h => h) (Or.inl ⟨?hw6, ?hy6⟩) (Below.drew (Below.refl _ _)) ?rest6
  case ho6 => (simp only [List.getElem?_toArray, List.getElem?_cons_succ, List.getElem?_cons_zero] <;> rfl)
  case hw6 => rfl
  case hy6 => (intro w' hSw; have kp := (hSw.cell (p := ⟨pb, 0, none⟩) hpb).trans hp; go_simp; (try with_reducible rfl))
  case rest6 =>
  (try simp only [Act.put, List.setIfInBounds_toArray, List.set_cons_zero, List.set_cons_succ])
  refine Goes.take (i := 8) (oi := ?oi7) (x := ?vx7) ?ho7 (by kernel_rfl) (by kernel_rfl) (by kernel_rfl) (by kernel_rfl) (fun _ _ _ h => h) (Or.inl ⟨?hw7, ?hy7⟩) (Below.drew (Below.refl _ _)) ?rest7
  case ho7 => (simp only [List.getElem?_toArray, List.getElem?_cons_succ, List.getElem?_cons_zero] <;> rfl)
  case hw7 => rfl
  case hy7 => (intro w' hSw; have kp := (hSw.cell (p := ⟨pb, 0, none⟩) hpb).trans hp; go_simp; (try with_reducible rfl))
  case rest7 =>
  (try simp only [Act.put, List.setIfInBounds_toArray, List.set_cons_zero, List.set_cons_succ])
  refine Goes.take (i := 9) (oi := ?oi8) (x := .agg (ds).toArray) ?ho8 (by kernel_rfl) (by kernel_rfl) (by kernel_rfl) (by kernel_rfl) (fun _ _ _ h => h) ?hy8 (Below.drew (Below.refl _ _)) ?rest8
  case ho8 => (simp only [List.getElem?_toArray, List.getElem?_cons_succ, List.getElem?_cons_zero] <;> rfl)
  case hy8 => exact yieldsIf_load_mid (by rfl) 145 _ rfl (b) (off + j * 16) (by rfl) (ds) _ (fun w' hSw => range_below HH.out hSw hbw) Tryz.underlying145 rfl HJ.out
  case rest8 =>
  (try simp only [Act.put, List.setIfInBounds_toArray, List.set_cons_zero, List.set_cons_succ])
  refine Goes.all (rs := [4]) (by kernel_rfl) (by simp) ?_
  refine Ups.cons (i := 4) (o := ?oo9) ?ho9 (fun KK hKK => ?stp9) Ups.nil
  case ho9 => (simp only [List.getElem?_toArray, List.getElem?_cons_succ, List.getElem?_cons_zero] <;> rfl)
  case stp9 =>
  go_simp
  go_at_call 98
  refine (HC.out _ (Below.drew (Below.refl _ _))).mono ?_
  rintro e w1 ⟨rfl, hbq⟩
  replace hbq := (Below.drew (Below.refl w.heap.size w)).trans hbq
  have HS9 : Hid (Below w.heap.size w w1) := hbq
  clear hbq
  dsimp only
  refine hKK.out _ _ (Or.inr HS9.out) ?_
  clear hKK KK
  (try simp only [Act.put, List.setIfInBounds_toArray, List.set_cons_zero, List.set_cons_succ])
  refine Goes.take (i := 5) (oi := ?oi10) (x := .int .i64 s1) ?ho10 (by kernel_rfl) (by kernel_rfl) (by kernel_rfl) (by kernel_rfl) (fun _ _ _ h => h) (Or.inl ⟨?hw10, ?hy10⟩) HS9.out ?rest10
  case ho10 => (simp only [List.getElem?_toArray, List.getElem?_cons_succ, List.getElem?_cons_zero] <;> rfl)
  case hw10 => rfl
  case hy10 => (intro w' hSw; go_simp; rw [fldO]; rfl)
  case rest10 =>
  (try simp only [Act.put, List.setIfInBounds_toArray, List.set_cons_zero, List.set_cons_succ])
  refine Goes.all (rs := [10]) (by kernel_rfl) (by simp) ?_
  refine Ups.cons (i := 10) (o := ?oo11) ?ho11 (fun KK hKK => ?stp11) Ups.nil
  case ho11 => (simp only [List.getElem?_toArray, List.getElem?_cons_succ, List.getElem?_cons_zero] <;> rfl)
  case stp11 =>
  go_simp
  go_at_call 98
  refine (HD.out _ HS9.out).mono ?_
  rintro e w2 ⟨rfl, hbq⟩
  replace hbq := HS9.out.trans (hbq.mono HS9.out.size)
  have HS11 : Hid (Below w.heap.size w w2) := hbq
  clear hbq
  dsimp only
  refine hKK.out _ _ (Or.inr HS11.out) ?_
  clear hKK KK
  (try simp only [Act.put, List.setIfInBounds_toArray, List.set_cons_zero, List.set_cons_succ])
  refine Goes.take (i := 11) (oi := ?oi12) (x := .int .i64 s2) ?ho12 (by kernel_rfl) (by kernel_rfl) (by kernel_rfl) (by kernel_rfl) (fun _ _ _ h => h) (Or.inl ⟨?hw12, ?hy12⟩) HS11.out ?rest12
  case ho12 => (simp only [List.getElem?_toArray, List.getElem?_cons_succ, List.getElem?_cons_zero] <;> rfl)
  case hw12 => rfl
  case hy12 => (intro w' hSw; go_simp; rw [fldO]; rfl)
  case rest12 =>
  (try simp only [Act.put, List.setIfInBounds_toArray, List.set_cons_zero, List.set_cons_succ])
  refine Goes.all (rs := [12]) (by kernel_rfl) (by simp) ?_
  refine Ups.cons (i := 12) (o := ?oo13) ?ho13 (fun KK hKK => ?stp13) Ups.nil
  case ho13 => (simp only [List.getElem?_toArray, List.getElem?_cons_succ, List.getElem?_cons_zero] <;> rfl)
  case stp13 =>
  go_simp
  go_at_call 97
  refine (iCompare s1 s2 _).mono ?_
  rintro e w3 ⟨rfl, hw3⟩
  subst w3
  dsimp only
  refine hKK.out _ _ (Or.inr HS11.out) ?_
  clear hKK KK
  (try simp only [Act.put, List.setIfInBounds_toArray, List.set_cons_zero, List.set_cons_succ])
  refine Goes.all (rs := [13]) (by kernel_rfl) (by simp) ?_
  refine Ups.cons (i := 13) (o := ?oo14) ?ho14 (fun KK hKK => ?stp14) Ups.nil
  case ho14 => (simp only [List.getElem?_toArray, List.getElem?_cons_succ, List.getElem?_cons_zero] <;> rfl)
  case stp14 =>
  go_simp
  refine hKK.out _ _ (Or.inr HS11.out) ?_
  clear hKK KK
  (try simp only [Act.put, List.setIfInBounds_toArray, List.set_cons_zero, List.set_cons_succ])
  refine Goes.done (by kernel_rfl) ?_ _
  refine NoPanic.normal ?_
  go_wp2_with fail
  go_ret
  exact ⟨rfl, HS11.out⟩
end Go.Proofs.YtcbgedlckcjjnaaGreat

/- Which paths are open: the question, and the list of their places as the iterator gives it; no condition. -/
namespace Go.Proofs.YtcbgedlckcjjnaaGreat
open Go.RowKit
set_option linter.unusedVariables false
set_option maxRecDepth 8000
attribute [local go_sem] Oper.semAt_some

theorem iIsOpen (X : Array Value) (st : Int) (w : World) (x1 : X[1]? = some (.int .i64 st)) :
    Calls Tryz.prog 94 #[.agg X] w fun e w' => e = .returned (.bool (decide (st = 3))) ∧ Below w.heap.size w w' := by
  by_cases h3 : st = 3
  · have e3 : (st == 3) = true := by simp [h3]
    have hR : decide (st = 3) = true := by simp [h3]
    rw [hR]
    clear h3 hR
    go_enter Tryz.func94, Tryz.ntmps94
    go_wp2_with fail
    go_ret
    exact ⟨rfl, by go_grown⟩
  · have e3 : (st == 3) = false := by simp [h3]
    have hR : decide (st = 3) = false := by simp [h3]
    rw [hR]
    clear h3 hR
    go_enter Tryz.func94, Tryz.ntmps94
    go_wp2_with fail
    go_ret
    exact ⟨rfl, by go_grown⟩
/-- A path's state. -/
def opnS (l : List DSub) (k : Nat) : Int := (l.map fun x => x.2.1).getD k 0
theorem opnS_at {l : List DSub} {k : Nat} (hk : k < l.length) : opnS l k = l[k].2.1 := by
  unfold opnS
  rw [List.getD_eq_getElem?_getD, List.getElem?_eq_getElem (by rw [List.length_map]; exact hk), List.getElem_map]
  rfl
/-- The open places. -/
def opnK (l : List DSub) (k : Nat) : List Int := ((List.range k).filter fun i => decide (opnS l i = 3)).map fun i : Nat => (i : Int)
def opnL (l : List DSub) : List Int := opnK l l.length
theorem opn_so (l : List DSub) (n : Nat) : ∀ k, k ≤ n → (soUp (fun i : Fin n => decide (opnS l i.1 = 3)) k).map (fun i => (i.1 : Int)) = opnK l k
  | 0, _ => by simp [soUp, opnK]
  | k + 1, h => by
    have ih := opn_so l n k (by omega)
    by_cases hq : decide (opnS l k = 3) = true
    · rw [soUp_yes _ (show k < n by omega) hq, List.map_append, ih]
      unfold opnK
      rw [List.range_succ, List.filter_append, List.map_append]
      congr 1
      simp only [List.filter_cons, hq, if_true, List.filter_nil, List.map_cons, List.map_nil]
    · rw [soUp_no _ (show k < n by omega) (by simpa using hq), ih]
      unfold opnK
      rw [List.range_succ, List.filter_append]
      have e : [k].filter (fun i => decide (opnS l i = 3)) = [] := by
        rw [List.filter_cons, if_neg hq, List.filter_nil]
      rw [e, List.append_nil]
theorem opn_bd {l : List DSub} {k : Nat} {y : Int} (h : y ∈ opnK l k) : 0 ≤ y ∧ y < k := by
  unfold opnK at h
  obtain ⟨i, hi, rfl⟩ := List.mem_map.1 h
  have := List.mem_range.1 (List.mem_filter.1 hi).1
  omega
theorem opn_len (l : List DSub) (k : Nat) : (opnK l k).length ≤ k := by
  unfold opnK
  rw [List.length_map]
  exact Nat.le_trans (List.length_filter_le _ _) (by rw [List.length_range]; exact Nat.le_refl _)
end Go.Proofs.YtcbgedlckcjjnaaGreat

/- The order of the open paths, by the program: its iterator, then the library's stable sort; the answer owns its memory; nothing that was there turns; no condition but that there are few paths. Written by mkord3.py. -/
namespace Go.Proofs.YtcbgedlckcjjnaaGreat
open Go.RowKit
set_option linter.unusedVariables false
set_option maxRecDepth 8000
attribute [local go_sem] Oper.semAt_some

theorem infoI64N : (Tryz.prog.info? 2).map (fun i => (i.zero, i.size, i.bytes)) = some (some (.int .i64 0), 1, 8) := by kernel_rfl
theorem so_own {W : World} {base g cs n : Nat} {cur : Array Value} {D : List Int} (hg : W.heap[g]? = some (.cells cur 2 (0, 0))) (hl : D.length = n) (hn : n ≤ cs) (hz : cur.size = cs * 1) (ht : cur.toList.take (n * 1) = D.map (Value.int .i64)) : SoW W g cs D W := by
  refine ⟨rfl, rfl, rfl, Nat.le_refl _, fun _ _ _ => rfl, ?_, cur, hg, by omega, by omega, fun i hi => ?_⟩
  · by_cases h : g < W.heap.size
    · exact h
    · rw [Array.getElem?_eq_none (by omega)] at hg; cases hg
  · have h : (cur.toList.take (n * 1))[i]? = some (.int .i64 D[i]) := by rw [ht, List.getElem?_map, List.getElem?_eq_getElem hi]; rfl
    rw [List.getElem?_take_of_lt (by omega)] at h
    simpa using h
theorem own_so {w W : World} {base g cs : Nat} {D : List Int} (h : SoW w g cs D W) (hb : base ≤ g) (hc : cs ≤ maxLen) : W.ownsRow base 2 1 (.slice (some ⟨g, 0, none⟩) D.length cs) D.length (D.map (Value.int .i64)) := by
  obtain ⟨cur, q1, q2, q3, q4⟩ := h.row
  refine ⟨by rw [List.length_map, Nat.mul_one], Or.inr ⟨g, cs, cur, rfl, hb, q1, q3, hc, by omega, ?_⟩⟩
  refine List.ext_getElem? fun i => ?_
  by_cases hi : i < D.length
  · rw [List.getElem?_take_of_lt (by omega), List.getElem?_map, List.getElem?_eq_getElem hi]
    have := q4 i hi
    simpa using this
  · rw [List.getElem?_eq_none (by rw [List.length_take]; omega), List.getElem?_eq_none (by rw [List.length_map]; omega)]
theorem SoW.bel {w W : World} {g cs C : Nat} {D : List Int} (h : SoW w g cs D W) (hc : C ≤ g) : Below C w W :=
  { os := h.os, tape := h.tape, output := h.out, size := h.sz, block := fun b hb => h.bk b (Nat.lt_trans (Nat.lt_of_lt_of_le hb hc) h.gw) (by omega) }
theorem sb_cells1 {w : World} {B : Nat} {l : List DSub} {a : Option Addr} {n cap : Nat} (h : shSubs.Rd w B l [.slice a n cap]) (hn : l.length = n) :
    ∃ VS : Fin n → List Value, SbCells w B a n VS ∧ ∀ k : Fin n, (VS k)[1]? = some (.int .i64 (opnS l k.1)) := by
  have h1 : ∀ k : Fin n, ∃ cs : List Value, (∃ b off, a = some ⟨b, off, none⟩ ∧ b < B ∧ w.rangeAt b (off + k.1 * 16) cs ∧ cs.length = 16 ∧ ∀ v ∈ cs, v.oneCell' = true) ∧ cs[1]? = some (.int .i64 (opnS l k.1)) := fun k => by
    have hk : k.1 < l.length := by have := k.2; omega
    obtain ⟨b, off, cs, ha, hb, hl, hrg, hr, -⟩ := sub_at h k.1 hk
    rw [opnS_at hk]
    obtain ⟨u, v, e, -⟩ := rd_Sub hr
    exact ⟨cs, ⟨b, off, ha, hb, hrg, hl, rd_one _ _ _ hr⟩, by rw [e]; rfl⟩
  obtain ⟨f, hf⟩ := Classical.axiomOfChoice h1
  exact ⟨f, ⟨fun k => (hf k).1⟩, fun k => (hf k).2⟩
set_option maxRecDepth 100000 in
set_option maxHeartbeats 4000000 in
theorem iOrderP (l : List DSub) (a : Option Addr) (n cap : Nat) (w : World) (B : Nat) (hr : shSubs.Rd w B l [.slice a n cap]) (hB : B ≤ w.heap.size) (hn : l.length = n) (hm : n < 20) (hT : totSubs l ≤ 1048576) (F : Int → Int) (hF : ∀ k (hk : k < l.length), F (k : Int) = stlV l[k]) :
    Calls Tryz.prog 35 #[.slice a n cap] w fun e w' => ∃ u, e = .returned u ∧ Own w' w.heap.size w'.heap.size i64s (ordL F (opnL l)) [u] ∧ Below w.heap.size w w' := by
  obtain ⟨VS, hcs, hvs⟩ := sb_cells1 hr hn
  have HSO : Hid ((soUp (fun i : Fin n => decide (opnS l i.1 = 3)) n).map (fun i => (i.1 : Int)) = opnL l) := by
    show _ = _
    rw [opn_so l n n (Nat.le_refl _)]
    unfold opnL
    rw [hn]
  have HQ : Hid (∀ (k : Fin n) (W : World), Calls Tryz.prog 94 (#[.agg (VS k).toArray] ++ #[]) W fun e w' => e = .returned (.bool (decide (opnS l k.1 = 3))) ∧ Below W.heap.size W w') := fun k W => iIsOpen (VS k).toArray _ W (by rw [List.getElem?_toArray]; exact hvs k)
  have HLN : Hid ((opnL l).length ≤ n) := by show _ ≤ _; rw [← hn]; exact opn_len l _
  have HWF : Hid (∀ y ∈ opnL l, 0 ≤ y ∧ y < (n : Int)) := fun y hy => by have := opn_bd hy; omega
  have HCM : Hid (∀ (pb : Nat) (W : World), Below w.heap.size w W → W.cell? ⟨pb, 0, none⟩ = some (.slice a n cap) → pb < W.heap.size → ∀ x y : Int, (0 ≤ x ∧ x < (n : Int)) → (0 ≤ y ∧ y < (n : Int)) → Calls Tryz.prog 96 #[.int .i64 x, .int .i64 y, .pointer (some ⟨pb, 0, none⟩)] W fun e w' => ∃ r : Int, e = .returned (.int .i64 r) ∧ (r < 0 ↔ F x < F y) ∧ Below W.heap.size W w') := fun pb W hW hp hpb x y hx hy => by
    obtain ⟨i, rfl⟩ : ∃ i : Nat, x = i := ⟨x.toNat, by omega⟩
    obtain ⟨j, rfl⟩ : ∃ j : Nat, y = j := ⟨y.toNat, by omega⟩
    have hi : i < l.length := by omega
    have hj : j < l.length := by omega
    refine (iCmpStale l a n cap pb W B (Sh.Rd.below (s := shSubs) hr hB hW) (Nat.le_trans hB hW.size) hn hT hp hpb i j hi hj).mono ?_
    rintro e w' ⟨rfl, hb⟩
    exact ⟨_, rfl, by rw [hF i hi, hF j hj, sgn_lt], hb⟩
  clear hr hvs hT hF
  generalize opnL l = OL at *
  generalize hPP : (fun i : Fin n => decide (opnS l i.1 = 3)) = PP at *
  have HPP : Hid (∀ k : Fin n, decide (opnS l k.1 = 3) = PP k) := fun k => by rw [← hPP]
  clear hPP
  refine (callsIn_wide (n := 6)).1 ?_
  refine callsIn_of_wp_marks Tryz.func35 rfl trivial ?_ rfl
  simp only [Tryz.ntmps35, List.size_toArray, List.length_cons, List.length_nil, Nat.reduceAdd, Nat.reduceSub, Array.replicate_succ, Array.replicate_zero, List.push_toArray, List.append_toArray, List.nil_append, List.cons_append]
  gi_wp2_with (refine ⟨trivial, ?_⟩; gi_at_call 93; refine (those_inS _ _ _ _ _ _ _).mono ?_; rintro e w' ⟨rfl, rfl⟩)
  obtain ⟨w1, hw1⟩ : ∃ w1, w1 = w.alloc (.cells #[.slice a n cap] 37) := ⟨_, rfl⟩
  have hz1 : w1.heap.size = w.heap.size + 1 := by rw [hw1]; simp
  have c1 : w1.cell? ⟨w.heap.size, 0, none⟩ = some (.slice a n cap) := by rw [hw1]; simp [go_sem]
  have HB1 : Hid (Below w.heap.size w w1) := by rw [hw1]; exact (Below.refl _ _).alloc (Nat.le_refl _) _
  (try simp only [World.size_alloc])
  rw [← hw1, ← hz1]
  have hlt1 : w.heap.size < w1.heap.size := by omega
  clear hw1 hz1
  have bO := ((Boxed.new w1 30 (.slice none 0 0)).alloc (.cells #[.slice a n cap] 154)).alloc (.cells #[(.func (.func 94) #[] #[])] 156)
  have bL := (Boxed.new (w1.alloc (.cells #[.slice none 0 0] 30)) 154 (.slice a n cap)).alloc (.cells #[(.func (.func 94) #[] #[])] 156)
  have bF := Boxed.new ((w1.alloc (.cells #[.slice none 0 0] 30)).alloc (.cells #[.slice a n cap] 154)) 156 (.func (.func 94) #[] #[])
  rw [World.size_alloc] at bL
  rw [World.size_alloc, World.size_alloc] at bF
  have hB5 : Below w1.heap.size w1 (((w1.alloc (.cells #[.slice none 0 0] 30)).alloc (.cells #[.slice a n cap] 154)).alloc (.cells #[(.func (.func 94) #[] #[])] 156)) := (((Below.refl _ w1).alloc (Nat.le_refl _) _).alloc (by simp) _).alloc (by simp; omega) _
  obtain ⟨W5, hW5⟩ : ∃ W5, W5 = (((w1.alloc (.cells #[.slice none 0 0] 30)).alloc (.cells #[.slice a n cap] 154)).alloc (.cells #[(.func (.func 94) #[] #[])] 156)) := ⟨_, rfl⟩
  have hz5 : W5.heap.size = w1.heap.size + 1 + 1 + 1 := by rw [hW5]; simp
  rw [← hW5] at bO bL bF hB5 ⊢
  clear hW5
  have hI : OwnFrom W5.heap.size (fun (pre : List (Fin n)) (W : World) => ((∃ v, Boxed W w1.heap.size 30 v ∧ W.ownsRow w1.heap.size 2 1 v pre.length (pre.map (fun i => Value.int .i64 (i.1 : Int))) ∧ True) ∧ Boxed W (w1.heap.size + 1 + 1) 156 (.func (.func 94) #[] #[])) ∧ Below w1.heap.size w1 W) :=
    OwnFrom.and (OwnFrom.and (Go.Own.from (holdsRow_own w1.heap.size w1.heap.size 30 2 1 (fun pre : List (Fin n) => pre.length) (fun pre => pre.map (fun i => Value.int .i64 (i.1 : Int))) (fun _ _ => True)) _) (Go.Own.from (boxed_own _ _ _) _)) (ownFrom_below (Nat.le_refl _) (by omega))
  obtain ⟨i0, hi, hz0, hzz1, hz2⟩ := info_parts infoI64N
  refine wpIn_rangeFunc_ownG rfl (by decide) (gf := 148) (lb := #[.pointer (some ⟨w1.heap.size + 1, 0, none⟩), .pointer (some ⟨w1.heap.size + 1 + 1, 0, none⟩)]) rfl trivial (enters_of Tryz.func148 (by kernel_rfl) rfl)
    (those_stopsS _ (by decide) (w1.heap.size + 1) (w1.heap.size + 1 + 1) w1.heap.size a n cap (by omega) VS 94 (enters_of Tryz.func94 (by kernel_rfl) rfl) #[] PP W5 (by omega) (by omega) (by omega) bL.cell bF.cell
      ((SbCells.below hcs ((HB1.out.trans (hB5.mono HB1.out.size)).mono hB)).mono (by omega))
      (fun W' k hW' => callsIn_wide.2 (by have h := HQ.out k W'; rw [HPP.out k] at h; exact h)))
    KpF.trans (kpF_bU (by omega) (by omega)) (Below.refl _ _) (fun _ => rfl)
    (fun pre W => ((∃ v, Boxed W w1.heap.size 30 v ∧ W.ownsRow w1.heap.size 2 1 v pre.length (pre.map (fun i => Value.int .i64 (i.1 : Int))) ∧ True) ∧ Boxed W (w1.heap.size + 1 + 1) 156 (.func (.func 94) #[] #[])) ∧ Below w1.heap.size w1 W)
    (fun _ _ _ => False) hI (fun _ _ _ _ _ hs _ _ => hs) ⟨⟨⟨_, bO, World.ownsRow_nil _ _ _ _, trivial⟩, bF⟩, hB5⟩ ?a1 ?assign ?body ?done ?stop
  case assign =>
    intro l x W K hK
    gi_wp2
    exact hK
  case body =>
    rintro lr pre x W ⟨⟨⟨v, hv, hrow, -⟩, hbf⟩, hB⟩ hlt
    have hc := hv.cell
    gi_wp2_with (gi_at_builtin; refine wpListIn_append_own _ rfl _ _ 30 rfl w1.heap.size 2 i0 (.int .i64 0) 1 8 Tryz.underlying30 hi hz0 hzz1 hz2 rfl (by decide) _ _ _ rfl (hrow.alloc _) ⟨W.heap.size, 0, none⟩ 1 1 [.int .i64 (x.1 : Int)] rfl rfl (cell_one_new _ _ _) (by simp [Value.oneCell']) (by unfold maxLen; omega) (by omega) (by have := hB.size; simp; omega) ?_; intro v' w3 hown' hgrow _; obtain ⟨g', cap', rfl⟩ := ownsRow_succ hown'; obtain ⟨hv1, hv2, hr2, hk2, hb2⟩ := hv.appended (by decide) hrow hB.size (Nat.le_refl _) hown' hgrow; have hc1 := hv1.cell; have hf1 := hv1.frozen)
    have hnr : some (w1.heap.size + 1 + 1) ≠ v.ownBlock := hbf.not_row (by decide) hrow
    have hbf3 : Boxed w3 (w1.heap.size + 1 + 1) 156 (.func (.func 94) #[] #[]) := (hbf.alloc (.cells #[.int .i64 (x.1 : Int)] 2)).kept hgrow hnr
    have hbf' := fun u => hbf3.other (B' := w1.heap.size) (by omega) u
    exact ⟨hk2.from _, ⟨hb2, (show _ = _ from hbf' _).trans (show _ = _ from hbf).symm⟩, ⟨⟨_, hv2, by simpa using hr2, trivial⟩, hbf' _⟩, hB.trans hb2⟩
  case done =>
    rintro D ys W hD rfl ⟨⟨⟨v, hv, hrow, -⟩, hbf⟩, hB⟩ hK
    have hc := hv.cell
    have hnb := hv.not_row (by decide) hrow
    have eL : (soUp PP n).length = OL.length := by rw [← HSO.out, List.length_map]
    have HR : Hid (W.ownsRow w1.heap.size 2 1 v OL.length (OL.map (Value.int .i64))) := by
      rw [← HSO.out, List.length_map, List.map_map]; exact hrow
    have c2 : W.cell? ⟨w.heap.size, 0, none⟩ = some (.slice a n cap) := (hB.cell (p := ⟨w.heap.size, 0, none⟩) (by dsimp only; omega)).trans c1
    have HBW : Hid (Below w.heap.size w W) := HB1.out.trans (hB.mono HB1.out.size)
    have hszW := hB.size
    have hDl : w1.heap.size ≤ D := by omega
    have HWO : Hid (∀ y ∈ ordL F OL, (Lit.int .i64 y).wf = true) := fun y hy => by have := HWF.out y (ord_mem F OL hy); exact WalkArith.wf_i64 (by omega)
    clear hrow hbf hI
    obtain ⟨-, ⟨ev, ez⟩ | ⟨g, cs, cur, ev, hgb, hgc, hgn, hgm, hgz, hgt⟩⟩ := HR.out
    · subst ev
      have eo : OL = [] := List.eq_nil_of_length_eq_zero ez
      subst eo
      clear HR
      gi_wp2_with (refine ⟨trivial, ?_⟩; gi_at_call 95; refine (callsIn_wide.2 (iSortStable0 _ _)).mono ?_; rintro e W2 ⟨rfl, hW2⟩; subst W2)
      refine ⟨by simp, .inl ⟨_, _, rfl, run_takeDeferred hK, ?_⟩⟩
      refine ⟨.slice none 0 0, by simp [results, Tryz.results35, go_sem], _, rfl, ?_, HBW.out.trans (belowK_b (w := w) (Nat.le_refl _) W D _ _ (by omega) hK rfl rfl)⟩
      exact ⟨[], Or.inl ⟨rfl, rfl, rfl⟩, by simp, by simp⟩
    · subst ev
      have hgD : D ≠ g := fun e => by rw [e, hgc] at hK; cases hK
      have hgO : w1.heap.size ≠ g := fun e => hnb (by rw [e]; rfl)
      have HS : Hid (SoW W g cs OL W) := so_own (base := w1.heap.size) hgc rfl hgn hgz hgt
      have hDz : D < W.heap.size := by
        by_cases h : D < W.heap.size
        · exact h
        · rw [Array.getElem?_eq_none (by omega)] at hK; cases hK
      have HSS : Hid (Calls Tryz.prog 95 #[.slice (some ⟨g, 0, none⟩) OL.length cs, .func (.func 96) #[] #[.pointer (some ⟨w.heap.size, 0, none⟩)]] W fun e w' => e = .returned (.tuple #[]) ∧ SoW W g cs (ordL F OL) w') :=
        iSortStable F (fun y => 0 ≤ y ∧ y < (n : Int)) _ g cs OL.length OL W rfl (by have := HLN.out; omega) hgn HWF.out HS.out (fun D' W' hs x y hx hy => HCM.out w.heap.size W' (HBW.out.trans (hs.bel (by omega))) (((hs.bel (C := w1.heap.size) hgb).cell (p := ⟨w.heap.size, 0, none⟩) (by dsimp only; omega)).trans c2) (by have := hs.sz; omega) x y hx hy)
      have HHV : Hid (∀ W2, SoW W g cs (ordL F OL) W2 → W2.cell? ⟨w1.heap.size, 0, none⟩ = some (.slice (some ⟨g, 0, none⟩) OL.length cs) ∧ W2.heap[D]? = W.heap[D]? ∧ Below w.heap.size w W2 ∧ W2.ownsRow w1.heap.size 2 1 (.slice (some ⟨g, 0, none⟩) OL.length cs) (ordL F OL).length ((ordL F OL).map (Value.int .i64)) ∧ W.heap.size ≤ W2.heap.size) := fun W2 h => by
        refine ⟨?_, h.bk D hDz hgD, HBW.out.trans (h.bel (by omega)), ?_, h.sz⟩
        · rw [← hc]
          have hq := h.bk w1.heap.size hv.lt hgO
          simp only [World.cell?, hq]
        · have h9 := own_so (base := w1.heap.size) h hgb hgm
          rw [ord_len] at h9 ⊢
          exact h9
      clear HR HS hgc hgz hgt hnb
      gi_wp2_with (refine ⟨trivial, ?_⟩; gi_at_call 95; refine (callsIn_wide.2 HSS.out).mono ?_; rintro e W2 ⟨rfl, hs2⟩; obtain ⟨hc2, hd2, hb2, ho2, hz2'⟩ := HHV.out W2 hs2)
      have hK2 := hd2.trans hK
      refine ⟨by simp, .inl ⟨_, _, rfl, run_takeDeferred hK2, ?_⟩⟩
      refine ⟨.slice (some ⟨g, 0, none⟩) OL.length cs, by simp [results, Tryz.results35, go_sem], _, rfl, ?_, hb2.trans (belowK_b (w := w) (Nat.le_refl _) W2 D _ _ (by omega) hK2 rfl rfl)⟩
      exact Own.mono (own_ints ⟨ownsRow_putObj ho2 _ hK2 rfl, HWO.out⟩ (Nat.le_refl _)) (by omega) (Nat.le_refl _)
  case stop =>
    rintro D c pre W _ _ h _
    exact h.elim
end Go.Proofs.YtcbgedlckcjjnaaGreat
