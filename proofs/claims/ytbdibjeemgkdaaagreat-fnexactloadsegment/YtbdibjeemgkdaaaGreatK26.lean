/- How a join is proved, by program and model; the answer has no memory; nothing that was there turns; no condition but that there are at most a million parts. Written by mkprove.py. -/
import Derived.Test.YtbdibjeemgkdaaaGreatRows
import Derived.Deep.RegionHeld3
import Derived.Deep.DeepCutAuto
import Derived.Deep.MidRow
import Derived.Test.YtbdibjeemgkdaaaGreatK01
import Derived.Test.YtbdibjeemgkdaaaGreatK02
import Derived.Test.YtbdibjeemgkdaaaGreatK03
import Derived.Test.YtbdibjeemgkdaaaGreatK04
import Derived.Test.YtbdibjeemgkdaaaGreatK05
import Derived.Test.YtbdibjeemgkdaaaGreatK06
import Derived.Test.YtbdibjeemgkdaaaGreatK07
import Derived.Test.YtbdibjeemgkdaaaGreatK09
import Derived.Test.YtbdibjeemgkdaaaGreatK10
import Derived.Test.YtbdibjeemgkdaaaGreatK11
import Derived.Test.YtbdibjeemgkdaaaGreatK12
import Derived.Test.YtbdibjeemgkdaaaGreatK13
import Derived.Test.YtbdibjeemgkdaaaGreatK14
import Derived.Test.YtbdibjeemgkdaaaGreatK15
import Derived.Test.YtbdibjeemgkdaaaGreatK16
import Derived.Test.YtbdibjeemgkdaaaGreatK20
import Derived.Test.YtbdibjeemgkdaaaGreatK21
import Derived.Test.YtbdibjeemgkdaaaGreatK22
import Derived.Test.YtbdibjeemgkdaaaGreatK23
import Derived.Test.YtbdibjeemgkdaaaGreatK24
namespace Go.Proofs.YtbdibjeemgkdaaaGreat
open Go.RowKit
set_option linter.unusedVariables false
set_option maxRecDepth 8000

theorem seq_ok {x : DSender} (h : sndFault x = 0) : seqV x x.2.1 = wrp (x.1 + x.2.1) := by
  have hh : sndHead x = true := by
    by_cases h2 : sndHead x = false
    · unfold sndFault at h; rw [if_pos h2] at h; cases h
    · simpa using h2
  unfold sndHead at hh
  simp only [Bool.and_eq_true] at hh
  unfold seqV; rw [if_pos h, if_pos hh.1.2]
theorem ack_ok {x : DCatch} (h : caF x = 0) : ackqV x = wrp (x.1 + x.2.1) := by unfold ackqV; rw [if_pos h]
theorem conn_out {w : World} {B : Nat} {c : DConn} {A : Array Value} (hr : shConn.Rd w B c A.toList) : ∃ a cap, A[5]? = some (.slice a c.2.2.2.2.2.1.length cap) ∧ A[6]? = some (.bool c.2.2.2.2.2.2.1) := by
  obtain ⟨y0, y1, y2, y3, y4, d5, y6, y7, y8, d9, y10, y11, l, ⟨⟩⟩ := c
  obtain ⟨a5, c5, a9, c9, a9', c9', a12, c12, eA, -⟩ := rd_Conn hr
  exact ⟨a5, c5, get_of eA 5, get_of eA 6⟩
theorem conn_wlen {c : DConn} (h : totConn c ≤ 1048576) : c.2.2.2.2.2.1.length ≤ 1048576 := by unfold totConn at h; omega
theorem sub_tots {x : DSub} (h : totSub x ≤ 1048576) : totSender x.2.2.2.2.2.2.1 ≤ 1048576 ∧ totCatch x.2.2.2.2.2.2.2.1 ≤ 1048576 := by unfold totSub at h; constructor <;> omega
theorem subs_tot {c : DConn} (h : totConn c ≤ 1048576) {k : Nat} (hk : k < c.subs.length) : totSub c.subs[k] ≤ 1048576 := by
  have h1 := fsum_at totSub hk
  have h2 : c.2.2.2.2.2.1.length + gtTot c.2.2.2.2.2.2.2.2.2.1 + (c.subs.length + fsum totSub c.subs) ≤ 1048576 := h
  omega
/-- The subs of a conn without a fault have none. -/
theorem subs_ok : ∀ (l pre : List DSub), subsFrom pre l = 0 → ∀ (k : Nat) (hk : k < l.length), subF l[k] = 0
  | [], _, _, k, hk => absurd hk (by simp)
  | x :: xs, pre, h, k, hk => by
    rw [subsFrom] at h
    by_cases h1 : subF x ≠ 0
    · rw [if_pos h1] at h; exact absurd h h1
    · rw [if_neg h1] at h
      match k, hk with
      | 0, _ => simpa using h1
      | k + 1, hk =>
        by_cases h2 : (pre.any fun y => decide (y.1 = x.1)) = true
        · rw [if_pos h2] at h; cases h
        · rw [if_neg h2] at h
          by_cases h3 : x.2.2.1 ≠ decide (0 < pre.length)
          · rw [if_pos h3] at h; cases h
          · rw [if_neg h3] at h
            exact subs_ok xs _ h k (by simpa using hk)
theorem conn_subs {c : DConn} (h : connF c = 0) : subsF c.subs = 0 := (conn_ok h).2.2.2.2.2.2.2.2.1
theorem subF_parts {x : DSub} (h : subF x = 0) : sndFault x.2.2.2.2.2.2.1 = 0 ∧ caF x.2.2.2.2.2.2.2.1 = 0 := by
  unfold subF at h
  split at h
  · cases h
  · split at h
    · rename_i h1
      split at h
      · rename_i h2; exact ⟨h1, h2⟩
      · rename_i h2; exact absurd h h2
    · rename_i h1; exact absurd h h1
theorem iKnownOf (c : DConn) (x : DSub) (A X : Array Value) (w : World) (B : Nat) (hc : shConn.Rd w B c A.toList) (hx : shSub.Rd w B x X.toList) (hB : B ≤ w.heap.size) (hT : totConn c ≤ 1048576) (hTx : totSub x ≤ 1048576) (hF : subF x = 0) :
    Calls Tryz.prog 59 #[.agg A, .agg X] w fun e w' => e = .returned (.agg (segA (telS c x))) ∧ Below w.heap.size w w' := by
  obtain ⟨a0, a1, a2, a3, -⟩ := conn_cells hc
  obtain ⟨a, cap, a5, a6⟩ := conn_out hc
  obtain ⟨hf1, hf2⟩ := subF_parts hF
  obtain ⟨ht1, ht2⟩ := sub_tots hTx
  have hzA : A.size = 14 := rd_size hc
  have hzX : X.size = 16 := rd_size hx
  obtain ⟨u, v, e, hs, hk, -⟩ := rd_Sub hx
  have q1 := seq_ok hf1
  have q2 := ack_ok hf2
  have H := iKnownOf0 A X c.1 x.1 c.2.2.2.1 x.2.2.2.2.2.2.1.1 x.2.2.2.2.2.2.1.2.1 x.2.2.2.2.2.2.1.2.2.1 u x.2.2.2.2.2.2.2.1.1 x.2.2.2.2.2.2.2.1.2.1 v _ _ _ _ _ _ w hzA hzX a0 a3 (get_of e 0) (get_of e 6) (get_of e 7) (get_of e 8) (get_of e 9) (get_of e 10) (get_of e 11) (get_of e 12)
    (fun W hW => iSeqOf x.2.2.2.2.2.2.1 u x.2.2.2.2.2.2.1.2.1 W B (Sh.Rd.below hs hB hW) (Nat.le_trans hB hW.size) ht1)
    (fun W hW => iAckOf x.2.2.2.2.2.2.2.1 v W B (Sh.Rd.below hk hB hW) (Nat.le_trans hB hW.size) ht2)
    (fun W hW => iEndTold A _ a _ cap a5 a6 (conn_wlen hT) W)
    (fun W hW => iDataAck c A W B (Sh.Rd.below hc hB hW) (Nat.le_trans hB hW.size) hT)
  rw [q1, q2] at H
  exact H
end Go.Proofs.YtbdibjeemgkdaaaGreat

/- What is told of a path and how a join is proved, by the model; the answer has no memory; nothing that was there turns; no condition but that there are at most a million parts. Written by mkprove2.py. -/
namespace Go.Proofs.YtbdibjeemgkdaaaGreat
open Go.RowKit
set_option linter.unusedVariables false
set_option maxRecDepth 8000

theorem sL9End (cb of : Nat) (fin : Bool) (a : Option Addr) (n cap : Nat) (w : World) (h5 : w.cell? ⟨cb, of + 5, none⟩ = some (.slice a n cap)) (h6 : w.cell? ⟨cb, of + 6, none⟩ = some (.bool fin)) (hn : n ≤ 1048576) :
    Calls Tryz.prog 81 #[.pointer (some ⟨cb, of, none⟩)] w fun e w' => e = .returned (.int .i64 (if fin then (n : Int) + 1 else 0)) ∧ w' = w := by
  cases fin
  · go_enter Tryz.func81, Tryz.ntmps81
    go_wp2_with fail
    go_ret
    exact ⟨rfl, rfl⟩
  · go_enter Tryz.func81, Tryz.ntmps81
    go_wp2_with fail
    go_ret
    exact ⟨rfl, rfl⟩
set_option maxHeartbeats 4000000 in
theorem sL9Tell0 (cb of sb so : Nat) (sd : Int) (pl : Bool) (pa t0 t1 d0 d1 EN DA : Int) (w : World) (hcb : cb < w.heap.size) (hsb : sb < w.heap.size) (c0 : w.cell? ⟨cb, of, none⟩ = some (.int .i64 sd)) (c3 : w.cell? ⟨cb, of + 3, none⟩ = some (.bool pl)) (s0 : w.cell? ⟨sb, so, none⟩ = some (.int .i64 pa)) (s6 : w.cell? ⟨sb, so + 6, none⟩ = some (.int .i64 t0)) (s7 : w.cell? ⟨sb, so + 7, none⟩ = some (.int .i64 t1)) (s10 : w.cell? ⟨sb, so + 10, none⟩ = some (.int .i64 d0)) (s11 : w.cell? ⟨sb, so + 11, none⟩ = some (.int .i64 d1))
    (HE : ∀ W, Below w.heap.size w W → Calls Tryz.prog 81 #[.pointer (some ⟨cb, of, none⟩)] W fun e w' => e = .returned (.int .i64 EN) ∧ w' = W)
    (HD : ∀ W, Below w.heap.size w W → Calls Tryz.prog 50 #[.pointer (some ⟨cb, of, none⟩)] W fun e w' => e = .returned (.int .i64 DA) ∧ Below W.heap.size W w') :
    Calls Tryz.prog 48 #[.pointer (some ⟨cb, of, none⟩), .pointer (some ⟨sb, so, none⟩)] w fun e w' => e = .returned (.agg #[.int .i64 pa, .int .i64 sd, .bool false, .bool true, .bool false, .int .i64 (wrp (t0 + t1)), .int .i64 (wrp (d0 + d1)), .int .i64 EN, .int .i64 (if pl then 0 else 4), .int .i64 (if pl then 0 else DA), .int .i64 0, .slice none 0 0]) ∧ Below w.heap.size w w' := by
  have HC : Hid (∀ W, Below w.heap.size w W → W.cell? ⟨cb, of, none⟩ = some (.int .i64 sd) ∧ W.cell? ⟨cb, of + 3, none⟩ = some (.bool pl) ∧ W.cell? ⟨sb, so, none⟩ = some (.int .i64 pa) ∧ W.cell? ⟨sb, so + 6, none⟩ = some (.int .i64 t0) ∧ W.cell? ⟨sb, so + 7, none⟩ = some (.int .i64 t1) ∧ W.cell? ⟨sb, so + 10, none⟩ = some (.int .i64 d0) ∧ W.cell? ⟨sb, so + 11, none⟩ = some (.int .i64 d1)) := fun W hW => ⟨(hW.cell (p := ⟨cb, of, none⟩) (by assumption)).trans c0, (hW.cell (p := ⟨cb, of + 3, none⟩) (by assumption)).trans c3, (hW.cell (p := ⟨sb, so, none⟩) (by assumption)).trans s0, (hW.cell (p := ⟨sb, so + 6, none⟩) (by assumption)).trans s6, (hW.cell (p := ⟨sb, so + 7, none⟩) (by assumption)).trans s7, (hW.cell (p := ⟨sb, so + 10, none⟩) (by assumption)).trans s10, (hW.cell (p := ⟨sb, so + 11, none⟩) (by assumption)).trans s11⟩
  clear c0 c3 s0 s6 s7 s10 s11
  have HA1 : Hid (∀ W, Calls Tryz.prog 49 #[.int .i64 t0, .int .i64 t1] W fun e w' => e = .returned (.int .i64 (wrp (t0 + t1))) ∧ w' = W) := fun W => sAdd t0 t1 W
  have HA2 : Hid (∀ W, Calls Tryz.prog 49 #[.int .i64 d0, .int .i64 d1] W fun e w' => e = .returned (.int .i64 (wrp (d0 + d1))) ∧ w' = W) := fun W => sAdd d0 d1 W
  generalize wrp (t0 + t1) = SQ at *
  generalize wrp (d0 + d1) = AK at *
  obtain ⟨OP, hOP⟩ : ∃ x : Int, x = (if pl then 0 else 4) := ⟨_, rfl⟩
  obtain ⟨OA, hOA⟩ : ∃ x : Int, x = (if pl then 0 else DA) := ⟨_, rfl⟩
  rw [← hOP, ← hOA]
  have HOP : Hid _ := hOP
  have HOA : Hid _ := hOA
  clear hOP hOA
  obtain ⟨G, hG⟩ : ∃ G : Array Value, G = #[.int .i64 pa, .int .i64 sd, .bool false, .bool true, .bool false, .int .i64 SQ, .int .i64 AK, .int .i64 EN, .int .i64 0, .int .i64 0, .int .i64 0, .slice none 0 0] := ⟨_, rfl⟩
  have HG : Hid _ := hG
  have hGz : G.size = 12 := by rw [hG]; rfl
  have HGZ : Hid _ := hGz
  have HIG : Hid ((Tryz.prog.info? 31).map (·.size) = some G.size) := by show _ = _; rw [hGz]; exact (by kernel_rfl : (Tryz.prog.info? 31).map (·.size) = some 12)
  have HONE : Hid (G.all (·.oneCell') = true) := by show _ = _; rw [hG]; simp [Value.oneCell']
  clear hG hGz
  go_enter Tryz.func48, Tryz.ntmps48
  go_upto_region 1 with fail
  have kR : ∀ o, (w.alloc (.cells #[.int .i64 0, .int .i64 0, .bool false, .bool false, .bool false, .int .i64 0, .int .i64 0, .int .i64 0, .int .i64 0, .int .i64 0, .int .i64 0, .slice none 0 0] 31)).cell? ⟨w.heap.size, o, none⟩ = (#[.int .i64 0, .int .i64 0, .bool false, .bool false, .bool false, .int .i64 0, .int .i64 0, .int .i64 0, .int .i64 0, .int .i64 0, .int .i64 0, .slice none 0 0] : Array Value)[o]? := bx_al w _ _
  have fR : ∀ o, (w.alloc (.cells #[.int .i64 0, .int .i64 0, .bool false, .bool false, .bool false, .int .i64 0, .int .i64 0, .int .i64 0, .int .i64 0, .int .i64 0, .int .i64 0, .slice none 0 0] 31)).frozen? ⟨w.heap.size, o, none⟩ = false := fx_al w _ _
  have HB : Hid (Below w.heap.size w (w.alloc (.cells #[.int .i64 0, .int .i64 0, .bool false, .bool false, .bool false, .int .i64 0, .int .i64 0, .int .i64 0, .int .i64 0, .int .i64 0, .int .i64 0, .slice none 0 0] 31))) := (Below.refl _ _).alloc (Nat.le_refl _) _
  have zR : w.heap.size < (w.alloc (.cells #[.int .i64 0, .int .i64 0, .bool false, .bool false, .bool false, .int .i64 0, .int .i64 0, .int .i64 0, .int .i64 0, .int .i64 0, .int .i64 0, .slice none 0 0] 31)).heap.size := by simp
  generalize hWA : (w.alloc (.cells #[.int .i64 0, .int .i64 0, .bool false, .bool false, .bool false, .int .i64 0, .int .i64 0, .int .i64 0, .int .i64 0, .int .i64 0, .int .i64 0, .slice none 0 0] 31)) = WA at kR fR HB zR ⊢
  clear hWA
  go_upto_region 1 with fail
  refine wp_region_noPanic ?_
  refine Goes.start (S := fun w' => Below w.heap.size w w') (z := 100) (by kernel_rfl) ?_
  replace kR : ∀ o, WA.drew.cell? ⟨w.heap.size, o, none⟩ = (#[.int .i64 0, .int .i64 0, .bool false, .bool false, .bool false, .int .i64 0, .int .i64 0, .int .i64 0, .int .i64 0, .int .i64 0, .int .i64 0, .slice none 0 0] : Array Value)[o]? := kR
  replace fR : ∀ o, WA.drew.frozen? ⟨w.heap.size, o, none⟩ = false := fR
  replace zR : w.heap.size < WA.drew.heap.size := zR
  replace HB : Hid (Below w.heap.size w WA.drew) := HB.out.drew
  generalize hD : WA.drew = WD at kR fR zR HB ⊢
  clear hD WA
  refine Goes.take (i := 0) (oi := ?oi11) (x := ?vx11) ?ho11 (by kernel_rfl) (by kernel_rfl) (by kernel_rfl) (by kernel_rfl) (fun _ _ _ h => h) (Or.inl ⟨?hw11, ?hy11⟩) HB.out ?rest11
  case ho11 => (simp only [List.getElem?_toArray, List.getElem?_cons_zero]; rfl)
  case hw11 => rfl
  case hy11 => (intro w' hSw; obtain ⟨jc0, jc3, js0, js6, js7, js10, js11⟩ := HC.out _ hSw; go_simp; (try with_reducible rfl))
  case rest11 =>
  (try simp only [Act.put, List.setIfInBounds_toArray, List.set_cons_zero, List.set_cons_succ])
  refine Goes.take (i := 1) (oi := ?oi12) (x := ?vx12) ?ho12 (by kernel_rfl) (by kernel_rfl) (by kernel_rfl) (by kernel_rfl) (fun _ _ _ h => h) (Or.inl ⟨?hw12, ?hy12⟩) HB.out ?rest12
  case ho12 => (simp only [List.getElem?_toArray, List.getElem?_cons_succ, List.getElem?_cons_zero]; rfl)
  case hw12 => rfl
  case hy12 => (intro w' hSw; obtain ⟨jc0, jc3, js0, js6, js7, js10, js11⟩ := HC.out _ hSw; go_simp; (try with_reducible rfl))
  case rest12 =>
  (try simp only [Act.put, List.setIfInBounds_toArray, List.set_cons_zero, List.set_cons_succ])
  refine Goes.take (i := 2) (oi := ?oi13) (x := ?vx13) ?ho13 (by kernel_rfl) (by kernel_rfl) (by kernel_rfl) (by kernel_rfl) (fun _ _ _ h => h) (Or.inl ⟨?hw13, ?hy13⟩) HB.out ?rest13
  case ho13 => (simp only [List.getElem?_toArray, List.getElem?_cons_succ, List.getElem?_cons_zero]; rfl)
  case hw13 => rfl
  case hy13 => (intro w' hSw; obtain ⟨jc0, jc3, js0, js6, js7, js10, js11⟩ := HC.out _ hSw; go_simp; (try with_reducible rfl))
  case rest13 =>
  (try simp only [Act.put, List.setIfInBounds_toArray, List.set_cons_zero, List.set_cons_succ])
  refine Goes.take (i := 3) (oi := ?oi14) (x := ?vx14) ?ho14 (by kernel_rfl) (by kernel_rfl) (by kernel_rfl) (by kernel_rfl) (fun _ _ _ h => h) (Or.inl ⟨?hw14, ?hy14⟩) HB.out ?rest14
  case ho14 => (simp only [List.getElem?_toArray, List.getElem?_cons_succ, List.getElem?_cons_zero]; rfl)
  case hw14 => rfl
  case hy14 => (intro w' hSw; obtain ⟨jc0, jc3, js0, js6, js7, js10, js11⟩ := HC.out _ hSw; go_simp; (try with_reducible rfl))
  case rest14 =>
  (try simp only [Act.put, List.setIfInBounds_toArray, List.set_cons_zero, List.set_cons_succ])
  refine Goes.take (i := 4) (oi := ?oi15) (x := ?vx15) ?ho15 (by kernel_rfl) (by kernel_rfl) (by kernel_rfl) (by kernel_rfl) (fun _ _ _ h => h) (Or.inl ⟨?hw15, ?hy15⟩) HB.out ?rest15
  case ho15 => (simp only [List.getElem?_toArray, List.getElem?_cons_succ, List.getElem?_cons_zero]; rfl)
  case hw15 => rfl
  case hy15 => (intro w' hSw; obtain ⟨jc0, jc3, js0, js6, js7, js10, js11⟩ := HC.out _ hSw; go_simp; (try with_reducible rfl))
  case rest15 =>
  (try simp only [Act.put, List.setIfInBounds_toArray, List.set_cons_zero, List.set_cons_succ])
  refine Goes.take (i := 5) (oi := ?oi16) (x := ?vx16) ?ho16 (by kernel_rfl) (by kernel_rfl) (by kernel_rfl) (by kernel_rfl) (fun _ _ _ h => h) (Or.inl ⟨?hw16, ?hy16⟩) HB.out ?rest16
  case ho16 => (simp only [List.getElem?_toArray, List.getElem?_cons_succ, List.getElem?_cons_zero]; rfl)
  case hw16 => rfl
  case hy16 => (intro w' hSw; obtain ⟨jc0, jc3, js0, js6, js7, js10, js11⟩ := HC.out _ hSw; go_simp; (try with_reducible rfl))
  case rest16 =>
  (try simp only [Act.put, List.setIfInBounds_toArray, List.set_cons_zero, List.set_cons_succ])
  refine Goes.take (i := 6) (oi := ?oi17) (x := ?vx17) ?ho17 (by kernel_rfl) (by kernel_rfl) (by kernel_rfl) (by kernel_rfl) (fun _ _ _ h => h) (Or.inl ⟨?hw17, ?hy17⟩) HB.out ?rest17
  case ho17 => (simp only [List.getElem?_toArray, List.getElem?_cons_succ, List.getElem?_cons_zero]; rfl)
  case hw17 => rfl
  case hy17 => (intro w' hSw; obtain ⟨jc0, jc3, js0, js6, js7, js10, js11⟩ := HC.out _ hSw; go_simp; (try with_reducible rfl))
  case rest17 =>
  (try simp only [Act.put, List.setIfInBounds_toArray, List.set_cons_zero, List.set_cons_succ])
  refine Goes.take (i := 7) (oi := ?oi18) (x := ?vx18) ?ho18 (by kernel_rfl) (by kernel_rfl) (by kernel_rfl) (by kernel_rfl) (fun _ _ _ h => h) (Or.inl ⟨?hw18, ?hy18⟩) HB.out ?rest18
  case ho18 => (simp only [List.getElem?_toArray, List.getElem?_cons_succ, List.getElem?_cons_zero]; rfl)
  case hw18 => rfl
  case hy18 => (intro w' hSw; obtain ⟨jc0, jc3, js0, js6, js7, js10, js11⟩ := HC.out _ hSw; go_simp; (try with_reducible rfl))
  case rest18 =>
  (try simp only [Act.put, List.setIfInBounds_toArray, List.set_cons_zero, List.set_cons_succ])
  refine Goes.take (i := 8) (oi := ?oi19) (x := ?vx19) ?ho19 (by kernel_rfl) (by kernel_rfl) (by kernel_rfl) (by kernel_rfl) (fun _ _ _ h => h) (Or.inl ⟨?hw19, ?hy19⟩) HB.out ?rest19
  case ho19 => (simp only [List.getElem?_toArray, List.getElem?_cons_succ, List.getElem?_cons_zero]; rfl)
  case hw19 => rfl
  case hy19 => (intro w' hSw; obtain ⟨jc0, jc3, js0, js6, js7, js10, js11⟩ := HC.out _ hSw; go_simp; (try with_reducible rfl))
  case rest19 =>
  (try simp only [Act.put, List.setIfInBounds_toArray, List.set_cons_zero, List.set_cons_succ])
  refine Goes.take (i := 9) (oi := ?oi20) (x := ?vx20) ?ho20 (by kernel_rfl) (by kernel_rfl) (by kernel_rfl) (by kernel_rfl) (fun _ _ _ h => h) (Or.inl ⟨?hw20, ?hy20⟩) HB.out ?rest20
  case ho20 => (simp only [List.getElem?_toArray, List.getElem?_cons_succ, List.getElem?_cons_zero]; rfl)
  case hw20 => rfl
  case hy20 => (intro w' hSw; obtain ⟨jc0, jc3, js0, js6, js7, js10, js11⟩ := HC.out _ hSw; go_simp; (try with_reducible rfl))
  case rest20 =>
  (try simp only [Act.put, List.setIfInBounds_toArray, List.set_cons_zero, List.set_cons_succ])
  refine Goes.take (i := 10) (oi := ?oi21) (x := ?vx21) ?ho21 (by kernel_rfl) (by kernel_rfl) (by kernel_rfl) (by kernel_rfl) (fun _ _ _ h => h) (Or.inl ⟨?hw21, ?hy21⟩) HB.out ?rest21
  case ho21 => (simp only [List.getElem?_toArray, List.getElem?_cons_succ, List.getElem?_cons_zero]; rfl)
  case hw21 => rfl
  case hy21 => (intro w' hSw; obtain ⟨jc0, jc3, js0, js6, js7, js10, js11⟩ := HC.out _ hSw; go_simp; (try with_reducible rfl))
  case rest21 =>
  (try simp only [Act.put, List.setIfInBounds_toArray, List.set_cons_zero, List.set_cons_succ])
  refine Goes.take (i := 11) (oi := ?oi22) (x := ?vx22) ?ho22 (by kernel_rfl) (by kernel_rfl) (by kernel_rfl) (by kernel_rfl) (fun _ _ _ h => h) (Or.inl ⟨?hw22, ?hy22⟩) HB.out ?rest22
  case ho22 => (simp only [List.getElem?_toArray, List.getElem?_cons_succ, List.getElem?_cons_zero]; rfl)
  case hw22 => rfl
  case hy22 => (intro w' hSw; obtain ⟨jc0, jc3, js0, js6, js7, js10, js11⟩ := HC.out _ hSw; go_simp; (try with_reducible rfl))
  case rest22 =>
  (try simp only [Act.put, List.setIfInBounds_toArray, List.set_cons_zero, List.set_cons_succ])
  refine Goes.take (i := 12) (oi := ?oi23) (x := ?vx23) ?ho23 (by kernel_rfl) (by kernel_rfl) (by kernel_rfl) (by kernel_rfl) (fun _ _ _ h => h) (Or.inl ⟨?hw23, ?hy23⟩) HB.out ?rest23
  case ho23 => (simp only [List.getElem?_toArray, List.getElem?_cons_succ, List.getElem?_cons_zero]; rfl)
  case hw23 => rfl
  case hy23 => (intro w' hSw; obtain ⟨jc0, jc3, js0, js6, js7, js10, js11⟩ := HC.out _ hSw; go_simp; (try with_reducible rfl))
  case rest23 =>
  (try simp only [Act.put, List.setIfInBounds_toArray, List.set_cons_zero, List.set_cons_succ])
  refine Goes.take (i := 13) (oi := ?oi24) (x := ?vx24) ?ho24 (by kernel_rfl) (by kernel_rfl) (by kernel_rfl) (by kernel_rfl) (fun _ _ _ h => h) (Or.inl ⟨?hw24, ?hy24⟩) HB.out ?rest24
  case ho24 => (simp only [List.getElem?_toArray, List.getElem?_cons_succ, List.getElem?_cons_zero]; rfl)
  case hw24 => rfl
  case hy24 => (intro w' hSw; obtain ⟨jc0, jc3, js0, js6, js7, js10, js11⟩ := HC.out _ hSw; go_simp; (try with_reducible rfl))
  case rest24 =>
  (try simp only [Act.put, List.setIfInBounds_toArray, List.set_cons_zero, List.set_cons_succ])
  refine Goes.take (i := 14) (oi := ?oi25) (x := ?vx25) ?ho25 (by kernel_rfl) (by kernel_rfl) (by kernel_rfl) (by kernel_rfl) (fun _ _ _ h => h) (Or.inl ⟨?hw25, ?hy25⟩) HB.out ?rest25
  case ho25 => (simp only [List.getElem?_toArray, List.getElem?_cons_succ, List.getElem?_cons_zero]; rfl)
  case hw25 => rfl
  case hy25 => (intro w' hSw; obtain ⟨jc0, jc3, js0, js6, js7, js10, js11⟩ := HC.out _ hSw; go_simp; (try with_reducible rfl))
  case rest25 =>
  (try simp only [Act.put, List.setIfInBounds_toArray, List.set_cons_zero, List.set_cons_succ])
  refine Goes.take (i := 15) (oi := ?oi26) (x := ?vx26) ?ho26 (by kernel_rfl) (by kernel_rfl) (by kernel_rfl) (by kernel_rfl) (fun _ _ _ h => h) (Or.inl ⟨?hw26, ?hy26⟩) HB.out ?rest26
  case ho26 => (simp only [List.getElem?_toArray, List.getElem?_cons_succ, List.getElem?_cons_zero]; rfl)
  case hw26 => rfl
  case hy26 => (intro w' hSw; obtain ⟨jc0, jc3, js0, js6, js7, js10, js11⟩ := HC.out _ hSw; go_simp; (try with_reducible rfl))
  case rest26 =>
  (try simp only [Act.put, List.setIfInBounds_toArray, List.set_cons_zero, List.set_cons_succ])
  refine Goes.take (i := 16) (oi := ?oi27) (x := ?vx27) ?ho27 (by kernel_rfl) (by kernel_rfl) (by kernel_rfl) (by kernel_rfl) (fun _ _ _ h => h) (Or.inl ⟨?hw27, ?hy27⟩) HB.out ?rest27
  case ho27 => (simp only [List.getElem?_toArray, List.getElem?_cons_succ, List.getElem?_cons_zero]; rfl)
  case hw27 => rfl
  case hy27 => (intro w' hSw; obtain ⟨jc0, jc3, js0, js6, js7, js10, js11⟩ := HC.out _ hSw; go_simp; (try with_reducible rfl))
  case rest27 =>
  (try simp only [Act.put, List.setIfInBounds_toArray, List.set_cons_zero, List.set_cons_succ])
  refine Goes.take (i := 17) (oi := ?oi28) (x := ?vx28) ?ho28 (by kernel_rfl) (by kernel_rfl) (by kernel_rfl) (by kernel_rfl) (fun _ _ _ h => h) (Or.inl ⟨?hw28, ?hy28⟩) HB.out ?rest28
  case ho28 => (simp only [List.getElem?_toArray, List.getElem?_cons_succ, List.getElem?_cons_zero]; rfl)
  case hw28 => rfl
  case hy28 => (intro w' hSw; obtain ⟨jc0, jc3, js0, js6, js7, js10, js11⟩ := HC.out _ hSw; go_simp; (try with_reducible rfl))
  case rest28 =>
  (try simp only [Act.put, List.setIfInBounds_toArray, List.set_cons_zero, List.set_cons_succ])
  refine Goes.call (i := 18) (oi := ?oi29) (x := .int .i64 SQ) ?ho29 (by kernel_rfl) (by kernel_rfl) (by kernel_rfl) (by kernel_rfl) (fun _ _ _ h => h) ?hq29 HB.out ?rest29
  case ho29 => (simp only [List.getElem?_toArray, List.getElem?_cons_succ, List.getElem?_cons_zero]; rfl)
  case hq29 => exact ⟨rfl, fun w' hSw => ⟨49, #[.int .i64 t0, .int .i64 t1], (by go_simp), HA1.out w'⟩⟩
  case rest29 =>
  (try simp only [Act.put, List.setIfInBounds_toArray, List.set_cons_zero, List.set_cons_succ])
  refine Goes.take (i := 19) (oi := ?oi30) (x := ?vx30) ?ho30 (by kernel_rfl) (by kernel_rfl) (by kernel_rfl) (by kernel_rfl) (fun _ _ _ h => h) (Or.inl ⟨?hw30, ?hy30⟩) HB.out ?rest30
  case ho30 => (simp only [List.getElem?_toArray, List.getElem?_cons_succ, List.getElem?_cons_zero]; rfl)
  case hw30 => rfl
  case hy30 => (intro w' hSw; obtain ⟨jc0, jc3, js0, js6, js7, js10, js11⟩ := HC.out _ hSw; go_simp; (try with_reducible rfl))
  case rest30 =>
  (try simp only [Act.put, List.setIfInBounds_toArray, List.set_cons_zero, List.set_cons_succ])
  refine Goes.take (i := 20) (oi := ?oi31) (x := ?vx31) ?ho31 (by kernel_rfl) (by kernel_rfl) (by kernel_rfl) (by kernel_rfl) (fun _ _ _ h => h) (Or.inl ⟨?hw31, ?hy31⟩) HB.out ?rest31
  case ho31 => (simp only [List.getElem?_toArray, List.getElem?_cons_succ, List.getElem?_cons_zero]; rfl)
  case hw31 => rfl
  case hy31 => (intro w' hSw; obtain ⟨jc0, jc3, js0, js6, js7, js10, js11⟩ := HC.out _ hSw; go_simp; (try with_reducible rfl))
  case rest31 =>
  (try simp only [Act.put, List.setIfInBounds_toArray, List.set_cons_zero, List.set_cons_succ])
  refine Goes.take (i := 21) (oi := ?oi32) (x := ?vx32) ?ho32 (by kernel_rfl) (by kernel_rfl) (by kernel_rfl) (by kernel_rfl) (fun _ _ _ h => h) (Or.inl ⟨?hw32, ?hy32⟩) HB.out ?rest32
  case ho32 => (simp only [List.getElem?_toArray, List.getElem?_cons_succ, List.getElem?_cons_zero]; rfl)
  case hw32 => rfl
  case hy32 => (intro w' hSw; obtain ⟨jc0, jc3, js0, js6, js7, js10, js11⟩ := HC.out _ hSw; go_simp; (try with_reducible rfl))
  case rest32 =>
  (try simp only [Act.put, List.setIfInBounds_toArray, List.set_cons_zero, List.set_cons_succ])
  refine Goes.take (i := 22) (oi := ?oi33) (x := ?vx33) ?ho33 (by kernel_rfl) (by kernel_rfl) (by kernel_rfl) (by kernel_rfl) (fun _ _ _ h => h) (Or.inl ⟨?hw33, ?hy33⟩) HB.out ?rest33
  case ho33 => (simp only [List.getElem?_toArray, List.getElem?_cons_succ, List.getElem?_cons_zero]; rfl)
  case hw33 => rfl
  case hy33 => (intro w' hSw; obtain ⟨jc0, jc3, js0, js6, js7, js10, js11⟩ := HC.out _ hSw; go_simp; (try with_reducible rfl))
  case rest33 =>
  (try simp only [Act.put, List.setIfInBounds_toArray, List.set_cons_zero, List.set_cons_succ])
  refine Goes.take (i := 23) (oi := ?oi34) (x := ?vx34) ?ho34 (by kernel_rfl) (by kernel_rfl) (by kernel_rfl) (by kernel_rfl) (fun _ _ _ h => h) (Or.inl ⟨?hw34, ?hy34⟩) HB.out ?rest34
  case ho34 => (simp only [List.getElem?_toArray, List.getElem?_cons_succ, List.getElem?_cons_zero]; rfl)
  case hw34 => rfl
  case hy34 => (intro w' hSw; obtain ⟨jc0, jc3, js0, js6, js7, js10, js11⟩ := HC.out _ hSw; go_simp; (try with_reducible rfl))
  case rest34 =>
  (try simp only [Act.put, List.setIfInBounds_toArray, List.set_cons_zero, List.set_cons_succ])
  refine Goes.take (i := 24) (oi := ?oi35) (x := ?vx35) ?ho35 (by kernel_rfl) (by kernel_rfl) (by kernel_rfl) (by kernel_rfl) (fun _ _ _ h => h) (Or.inl ⟨?hw35, ?hy35⟩) HB.out ?rest35
  case ho35 => (simp only [List.getElem?_toArray, List.getElem?_cons_succ, List.getElem?_cons_zero]; rfl)
  case hw35 => rfl
  case hy35 => (intro w' hSw; obtain ⟨jc0, jc3, js0, js6, js7, js10, js11⟩ := HC.out _ hSw; go_simp; (try with_reducible rfl))
  case rest35 =>
  (try simp only [Act.put, List.setIfInBounds_toArray, List.set_cons_zero, List.set_cons_succ])
  refine Goes.take (i := 25) (oi := ?oi36) (x := ?vx36) ?ho36 (by kernel_rfl) (by kernel_rfl) (by kernel_rfl) (by kernel_rfl) (fun _ _ _ h => h) (Or.inl ⟨?hw36, ?hy36⟩) HB.out ?rest36
  case ho36 => (simp only [List.getElem?_toArray, List.getElem?_cons_succ, List.getElem?_cons_zero]; rfl)
  case hw36 => rfl
  case hy36 => (intro w' hSw; obtain ⟨jc0, jc3, js0, js6, js7, js10, js11⟩ := HC.out _ hSw; go_simp; (try with_reducible rfl))
  case rest36 =>
  (try simp only [Act.put, List.setIfInBounds_toArray, List.set_cons_zero, List.set_cons_succ])
  refine Goes.take (i := 26) (oi := ?oi37) (x := ?vx37) ?ho37 (by kernel_rfl) (by kernel_rfl) (by kernel_rfl) (by kernel_rfl) (fun _ _ _ h => h) (Or.inl ⟨?hw37, ?hy37⟩) HB.out ?rest37
  case ho37 => (simp only [List.getElem?_toArray, List.getElem?_cons_succ, List.getElem?_cons_zero]; rfl)
  case hw37 => rfl
  case hy37 => (intro w' hSw; obtain ⟨jc0, jc3, js0, js6, js7, js10, js11⟩ := HC.out _ hSw; go_simp; (try with_reducible rfl))
  case rest37 =>
  (try simp only [Act.put, List.setIfInBounds_toArray, List.set_cons_zero, List.set_cons_succ])
  refine Goes.take (i := 27) (oi := ?oi38) (x := ?vx38) ?ho38 (by kernel_rfl) (by kernel_rfl) (by kernel_rfl) (by kernel_rfl) (fun _ _ _ h => h) (Or.inl ⟨?hw38, ?hy38⟩) HB.out ?rest38
  case ho38 => (simp only [List.getElem?_toArray, List.getElem?_cons_succ, List.getElem?_cons_zero]; rfl)
  case hw38 => rfl
  case hy38 => (intro w' hSw; obtain ⟨jc0, jc3, js0, js6, js7, js10, js11⟩ := HC.out _ hSw; go_simp; (try with_reducible rfl))
  case rest38 =>
  (try simp only [Act.put, List.setIfInBounds_toArray, List.set_cons_zero, List.set_cons_succ])
  refine Goes.take (i := 28) (oi := ?oi39) (x := ?vx39) ?ho39 (by kernel_rfl) (by kernel_rfl) (by kernel_rfl) (by kernel_rfl) (fun _ _ _ h => h) (Or.inl ⟨?hw39, ?hy39⟩) HB.out ?rest39
  case ho39 => (simp only [List.getElem?_toArray, List.getElem?_cons_succ, List.getElem?_cons_zero]; rfl)
  case hw39 => rfl
  case hy39 => (intro w' hSw; obtain ⟨jc0, jc3, js0, js6, js7, js10, js11⟩ := HC.out _ hSw; go_simp; (try with_reducible rfl))
  case rest39 =>
  (try simp only [Act.put, List.setIfInBounds_toArray, List.set_cons_zero, List.set_cons_succ])
  refine Goes.call (i := 29) (oi := ?oi40) (x := .int .i64 AK) ?ho40 (by kernel_rfl) (by kernel_rfl) (by kernel_rfl) (by kernel_rfl) (fun _ _ _ h => h) ?hq40 HB.out ?rest40
  case ho40 => (simp only [List.getElem?_toArray, List.getElem?_cons_succ, List.getElem?_cons_zero]; rfl)
  case hq40 => exact ⟨rfl, fun w' hSw => ⟨49, #[.int .i64 d0, .int .i64 d1], (by go_simp), HA2.out w'⟩⟩
  case rest40 =>
  (try simp only [Act.put, List.setIfInBounds_toArray, List.set_cons_zero, List.set_cons_succ])
  refine Goes.take (i := 30) (oi := ?oi41) (x := ?vx41) ?ho41 (by kernel_rfl) (by kernel_rfl) (by kernel_rfl) (by kernel_rfl) (fun _ _ _ h => h) (Or.inl ⟨?hw41, ?hy41⟩) HB.out ?rest41
  case ho41 => (simp only [List.getElem?_toArray, List.getElem?_cons_succ, List.getElem?_cons_zero]; rfl)
  case hw41 => rfl
  case hy41 => (intro w' hSw; obtain ⟨jc0, jc3, js0, js6, js7, js10, js11⟩ := HC.out _ hSw; go_simp; (try with_reducible rfl))
  case rest41 =>
  (try simp only [Act.put, List.setIfInBounds_toArray, List.set_cons_zero, List.set_cons_succ])
  refine Goes.call (i := 31) (oi := ?oi42) (x := .int .i64 EN) ?ho42 (by kernel_rfl) (by kernel_rfl) (by kernel_rfl) (by kernel_rfl) (fun _ _ _ h => h) ?hq42 HB.out ?rest42
  case ho42 => (simp only [List.getElem?_toArray, List.getElem?_cons_succ, List.getElem?_cons_zero]; rfl)
  case hq42 => exact ⟨rfl, fun w' hSw => ⟨81, #[.pointer (some ⟨cb, of, none⟩)], (by go_simp), HE w' hSw⟩⟩
  case rest42 =>
  (try simp only [Act.put, List.setIfInBounds_toArray, List.set_cons_zero, List.set_cons_succ])
  refine Goes.take (i := 32) (oi := ?oi43) (x := ?vx43) ?ho43 (by kernel_rfl) (by kernel_rfl) (by kernel_rfl) (by kernel_rfl) (fun _ _ _ h => h) (Or.inl ⟨?hw43, ?hy43⟩) HB.out ?rest43
  case ho43 => (simp only [List.getElem?_toArray, List.getElem?_cons_succ, List.getElem?_cons_zero]; rfl)
  case hw43 => rfl
  case hy43 => (intro w' hSw; obtain ⟨jc0, jc3, js0, js6, js7, js10, js11⟩ := HC.out _ hSw; go_simp; (try with_reducible rfl))
  case rest43 =>
  (try simp only [Act.put, List.setIfInBounds_toArray, List.set_cons_zero, List.set_cons_succ])
  refine Goes.all (rs := [33]) (by kernel_rfl) (by simp) ?_
  refine Ups.cons (i := 33) (o := ?oo44) ?ho44 (fun KK hKK => ?stp44) Ups.nil
  case ho44 => (simp only [List.getElem?_toArray, List.getElem?_cons_succ, List.getElem?_cons_zero]; rfl)
  case stp44 =>
  go_simp
  refine hKK.out _ _ (Or.inr (Below.alloc HB.out (Below.size HB.out) _)) ?_
  clear hKK KK
  (try simp only [Act.put, List.setIfInBounds_toArray, List.set_cons_zero, List.set_cons_succ])
  have kG : ∀ o, (WD.alloc (.cells #[.int .i64 0, .int .i64 0, .bool false, .bool false, .bool false, .int .i64 0, .int .i64 0, .int .i64 0, .int .i64 0, .int .i64 0, .int .i64 0, .slice none 0 0] 31)).cell? ⟨WD.heap.size, o, none⟩ = (#[.int .i64 0, .int .i64 0, .bool false, .bool false, .bool false, .int .i64 0, .int .i64 0, .int .i64 0, .int .i64 0, .int .i64 0, .int .i64 0, .slice none 0 0] : Array Value)[o]? := bx_al WD _ _
  have fG : ∀ o, (WD.alloc (.cells #[.int .i64 0, .int .i64 0, .bool false, .bool false, .bool false, .int .i64 0, .int .i64 0, .int .i64 0, .int .i64 0, .int .i64 0, .int .i64 0, .slice none 0 0] 31)).frozen? ⟨WD.heap.size, o, none⟩ = false := fx_al WD _ _
  have hbB : Below WD.heap.size WD (WD.alloc (.cells #[.int .i64 0, .int .i64 0, .bool false, .bool false, .bool false, .int .i64 0, .int .i64 0, .int .i64 0, .int .i64 0, .int .i64 0, .int .i64 0, .slice none 0 0] 31)) := (Below.refl _ _).alloc (Nat.le_refl _) _
  have zG : WD.heap.size < (WD.alloc (.cells #[.int .i64 0, .int .i64 0, .bool false, .bool false, .bool false, .int .i64 0, .int .i64 0, .int .i64 0, .int .i64 0, .int .i64 0, .int .i64 0, .slice none 0 0] 31)).heap.size := by simp
  generalize hWB : (WD.alloc (.cells #[.int .i64 0, .int .i64 0, .bool false, .bool false, .bool false, .int .i64 0, .int .i64 0, .int .i64 0, .int .i64 0, .int .i64 0, .int .i64 0, .slice none 0 0] 31)) = WB at kG fG hbB zG ⊢
  clear hWB
  replace kR := bx_below kR zR hbB
  replace fR := bxF fR hbB zR
  replace HB : Hid (Below w.heap.size w WB) := HB.out.trans (hbB.mono HB.out.size)
  clear hbB
  obtain ⟨g, hg⟩ : ∃ g, g = WD.heap.size := ⟨_, rfl⟩
  rw [← hg] at zR kG fG zG ⊢
  clear hg WD
  have HTH : Hid (WB.there g 0 G.size) := bx_there kG fG (by rw [HGZ.out]; rfl)
  refine Goes.all (rs := [34]) (by kernel_rfl) (by simp) ?_
  refine Ups.cons (i := 34) (o := ?oo45) ?ho45 (fun KK hKK => ?stp45) Ups.nil
  case ho45 => (simp only [List.getElem?_toArray, List.getElem?_cons_succ, List.getElem?_cons_zero]; rfl)
  case stp45 =>
  rw [if_pos (by rfl)]
  refine wp_store_mid 31 _ _ rfl _ _ G (by rfl) (by rw [HG.out]; rfl) HTH.out HIG.out HONE.out ?_
  refine hKK.out _ _ (Or.inr (setCells_below (show w.heap.size ≤ g by omega) _ _ _ _ HB.out)) ?_
  clear hKK KK
  (try simp only [Act.put])
  refine Goes.done (by kernel_rfl) ?_ _
  refine NoPanic.normal ?_
  replace kG : ∀ o, (WB.setCells g 0 G.toList).cell? ⟨g, o, none⟩ = G[o]? := bx_setCells kG (by rw [HGZ.out]; rfl)
  replace fG : ∀ o, (WB.setCells g 0 G.toList).frozen? ⟨g, o, none⟩ = false := fx_sets fG
  replace kR : ∀ o, (WB.setCells g 0 G.toList).cell? ⟨w.heap.size, o, none⟩ = (#[.int .i64 0, .int .i64 0, .bool false, .bool false, .bool false, .int .i64 0, .int .i64 0, .int .i64 0, .int .i64 0, .int .i64 0, .int .i64 0, .slice none 0 0] : Array Value)[o]? := bx_setOff kR (by omega)
  replace fR : ∀ o, (WB.setCells g 0 G.toList).frozen? ⟨w.heap.size, o, none⟩ = false := fx_sets fR
  replace HB : Hid (Below w.heap.size w (WB.setCells g 0 G.toList)) := setCells_below (show w.heap.size ≤ g by omega) _ _ _ _ HB.out
  replace zG : g < (WB.setCells g 0 G.toList).heap.size := by rw [setCells_size]; exact zG
  generalize hWC : (WB.setCells g 0 G.toList) = WC at kG fG kR fR HB zG ⊢
  clear hWC HTH
  have g8 : G[8]? = some (.int .i64 0) := by rw [HG.out]; rfl
  have g9 : G[9]? = some (.int .i64 0) := by rw [HG.out]; rfl
  obtain ⟨jc0, jc3, js0, js6, js7, js10, js11⟩ := HC.out _ HB.out
  cases pl
  case true =>
    go_upto_region 5 with fail
    obtain ⟨N, hN⟩ : ∃ N : Array Value, N = #[.int .i64 pa, .int .i64 sd, .bool false, .bool true, .bool false, .int .i64 SQ, .int .i64 AK, .int .i64 EN, .int .i64 0, .int .i64 0, .int .i64 0, .slice none 0 0] := ⟨_, rfl⟩
    have HN : Hid _ := hN
    have hNz : N.size = 12 := by rw [hN]; rfl
    have HIN : Hid ((Tryz.prog.info? 31).map (·.size) = some N.size) := by show _ = _; rw [hNz]; exact (by kernel_rfl : (Tryz.prog.info? 31).map (·.size) = some 12)
    have HIN' : Hid ((Tryz.prog.info? 31).map (·.size) = some N.toList.length) := by show _ = _; rw [Array.length_toList]; exact HIN.out
    have HONEN : Hid (N.all (·.oneCell') = true) := by show _ = _; rw [hN]; simp [Value.oneCell']
    have kN : ∀ o, WC.cell? ⟨g, o, none⟩ = N[o]? := by
      have h0 := kG
      rw [HG.out] at h0
      have h2 := h0
      rw [hN]
      simpa using h2
    have kQ : ∀ o, WC.cell? ⟨w.heap.size, o, none⟩ = (#[.int .i64 0, .int .i64 0, .bool false, .bool false, .bool false, .int .i64 0, .int .i64 0, .int .i64 0, .int .i64 0, .int .i64 0, .int .i64 0, .slice none 0 0] : Array Value)[o]? := kR
    have fQ : ∀ o, WC.frozen? ⟨w.heap.size, o, none⟩ = false := fR
    have HBW : Hid (Below w.heap.size w WC) := HB.out
    clear kG fG kR fR
    generalize hWW : WC = W9 at kN kQ fQ HBW ⊢
    clear hWW
    have HTHN : Hid (W9.there w.heap.size 0 N.size) := bx_there kQ fQ (by rw [hNz]; rfl)
    have kF : Hid (∀ o, (W9.setCells w.heap.size 0 N.toList).cell? ⟨w.heap.size, o, none⟩ = N[o]?) := bx_setCells kQ (by rw [hNz]; rfl)
    clear hN hNz kQ fQ
    go_wp2_with (first | (refine wpList_load_mid rfl 31 _ rfl _ _ (by rfl) N.toList _ (bx_range kN) Tryz.underlying31 rfl HIN'.out ?_) | (refine wpList_store_mid rfl 31 _ _ rfl _ _ N (by rfl) (by rfl) HTHN.out HIN.out HONEN.out ?_))
    refine bodyPost_ret (results_box Tryz.results48 _ _ _ N _ (by rfl) kF.out Tryz.underlying31 rfl HIN.out) rfl ⟨?_, setCells_below (Nat.le_refl _) _ _ _ _ HBW.out⟩
    rw [HN.out, HOP.out, HOA.out]
    rfl
  case false =>
    go_upto_region 4 with fail
    have k8 : ∀ o, (WC.setCell ⟨g, 8, none⟩ (.int .i64 4)).cell? ⟨g, o, none⟩ = (G.setIfInBounds 8 (.int .i64 4))[o]? := bx_put kG (by rw [HGZ.out]; omega)
    have f8 : ∀ o, (WC.setCell ⟨g, 8, none⟩ (.int .i64 4)).frozen? ⟨g, o, none⟩ = false := fx_setC fG
    replace kR : ∀ o, (WC.setCell ⟨g, 8, none⟩ (.int .i64 4)).cell? ⟨w.heap.size, o, none⟩ = (#[.int .i64 0, .int .i64 0, .bool false, .bool false, .bool false, .int .i64 0, .int .i64 0, .int .i64 0, .int .i64 0, .int .i64 0, .int .i64 0, .slice none 0 0] : Array Value)[o]? := bx_setC kR (show w.heap.size ≠ g by omega)
    replace fR : ∀ o, (WC.setCell ⟨g, 8, none⟩ (.int .i64 4)).frozen? ⟨w.heap.size, o, none⟩ = false := fx_setC fR
    have HB4 : Hid (Below w.heap.size w (WC.setCell ⟨g, 8, none⟩ (.int .i64 4))) := Below.setCell (p := ⟨g, 8, none⟩) HB.out (show w.heap.size ≤ g by omega) _
    have z8 : g < (WC.setCell ⟨g, 8, none⟩ (.int .i64 4)).heap.size := by simpa using zG
    have m9 : (G.setIfInBounds 8 (.int .i64 4))[9]? = some (.int .i64 0) := by rw [HG.out]; rfl
    have m10 : (G.setIfInBounds 8 (.int .i64 4))[10]? = some (.int .i64 0) := by rw [HG.out]; rfl
    generalize hM : G.setIfInBounds 8 (.int .i64 4) = M at k8 m9 m10
    have HM : Hid _ := hM
    generalize hWX : WC.setCell ⟨g, 8, none⟩ (.int .i64 4) = WX at k8 f8 kR fR HB4 z8 ⊢
    clear hM hWX kG fG zG HB
    go_wp2_with fail
    refine (HD _ HB4.out).mono ?_
    rintro e W2 ⟨rfl, hbq⟩
    replace k8 := bx_below k8 z8 hbq
    replace f8 := bxF f8 hbq z8
    replace kR := bx_below kR (by omega) hbq
    replace fR := bxF fR hbq (by omega)
    replace HB4 : Hid (Below w.heap.size w W2) := HB4.out.trans (hbq.mono HB4.out.size)
    clear hbq
    go_upto_region 5 with fail
    obtain ⟨N, hN⟩ : ∃ N : Array Value, N = #[.int .i64 pa, .int .i64 sd, .bool false, .bool true, .bool false, .int .i64 SQ, .int .i64 AK, .int .i64 EN, .int .i64 4, .int .i64 DA, .int .i64 0, .slice none 0 0] := ⟨_, rfl⟩
    have HN : Hid _ := hN
    have hNz : N.size = 12 := by rw [hN]; rfl
    have HIN : Hid ((Tryz.prog.info? 31).map (·.size) = some N.size) := by show _ = _; rw [hNz]; exact (by kernel_rfl : (Tryz.prog.info? 31).map (·.size) = some 12)
    have HIN' : Hid ((Tryz.prog.info? 31).map (·.size) = some N.toList.length) := by show _ = _; rw [Array.length_toList]; exact HIN.out
    have HONEN : Hid (N.all (·.oneCell') = true) := by show _ = _; rw [hN]; simp [Value.oneCell']
    have kN : ∀ o, (W2.setCell ⟨g, 9, none⟩ (.int .i64 DA)).cell? ⟨g, o, none⟩ = N[o]? := by
      have h0 := k8
      rw [← HM.out, HG.out] at h0
      have h2 := (bx_put h0 (k := 9) (v := .int .i64 DA) (by simp))
      rw [hN]
      simpa using h2
    have kQ : ∀ o, (W2.setCell ⟨g, 9, none⟩ (.int .i64 DA)).cell? ⟨w.heap.size, o, none⟩ = (#[.int .i64 0, .int .i64 0, .bool false, .bool false, .bool false, .int .i64 0, .int .i64 0, .int .i64 0, .int .i64 0, .int .i64 0, .int .i64 0, .slice none 0 0] : Array Value)[o]? := (bx_setC kR (show w.heap.size ≠ g by omega))
    have fQ : ∀ o, (W2.setCell ⟨g, 9, none⟩ (.int .i64 DA)).frozen? ⟨w.heap.size, o, none⟩ = false := (fx_setC fR)
    have HBW : Hid (Below w.heap.size w (W2.setCell ⟨g, 9, none⟩ (.int .i64 DA))) := (Below.setCell (p := ⟨g, 9, none⟩) HB4.out (show w.heap.size ≤ g by omega) _)
    clear k8 f8 kR fR
    generalize hWW : (W2.setCell ⟨g, 9, none⟩ (.int .i64 DA)) = W9 at kN kQ fQ HBW ⊢
    clear hWW
    have HTHN : Hid (W9.there w.heap.size 0 N.size) := bx_there kQ fQ (by rw [hNz]; rfl)
    have kF : Hid (∀ o, (W9.setCells w.heap.size 0 N.toList).cell? ⟨w.heap.size, o, none⟩ = N[o]?) := bx_setCells kQ (by rw [hNz]; rfl)
    clear hN hNz kQ fQ
    go_wp2_with (first | (refine wpList_load_mid rfl 31 _ rfl _ _ (by rfl) N.toList _ (bx_range kN) Tryz.underlying31 rfl HIN'.out ?_) | (refine wpList_store_mid rfl 31 _ _ rfl _ _ N (by rfl) (by rfl) HTHN.out HIN.out HONEN.out ?_))
    refine bodyPost_ret (results_box Tryz.results48 _ _ _ N _ (by rfl) kF.out Tryz.underlying31 rfl HIN.out) rfl ⟨?_, setCells_below (Nat.le_refl _) _ _ _ _ HBW.out⟩
    rw [HN.out, HOP.out, HOA.out]
    rfl
theorem sL9Tell (c : DConn) (A : Array Value) (cb of : Nat) (x : DSub) (cs : List Value) (sb so : Nat) (w : World) (B : Nat) (h : ConnAt w B c A cb of) (hs : w.rangeAt sb so cs) (hsb : sb < w.heap.size) (hx : shSub.Rd w B x cs) :
    Calls Tryz.prog 48 #[.pointer (some ⟨cb, of, none⟩), .pointer (some ⟨sb, so, none⟩)] w fun e w' => e = .returned (.agg (segA (telS c x))) ∧ Below w.heap.size w w' := by
  obtain ⟨a0, a1, a2, a3, -⟩ := conn_cells h.rd
  obtain ⟨a, cap, a5, a6⟩ := conn_out h.rd
  obtain ⟨u, v, e, -⟩ := rd_Sub hx
  have q : ∀ j v, A[j]? = some v → w.cell? ⟨cb, of + j, none⟩ = some v := fun j v hv => h.at_ j v (by rw [Array.getElem?_toList]; exact hv)
  exact sL9Tell0 cb of sb so c.1 c.2.2.2.1 x.1 _ _ _ _ _ _ w h.lt hsb (q 0 _ a0) (q 3 _ a3) (hs 0 _ (by rw [e]; rfl)) (hs 6 _ (by rw [e]; rfl)) (hs 7 _ (by rw [e]; rfl)) (hs 10 _ (by rw [e]; rfl)) (hs 11 _ (by rw [e]; rfl))
    (fun W hW => sL9End cb of _ a _ cap W ((hW.cell (p := ⟨cb, of + 5, none⟩) h.lt).trans (q 5 _ a5)) ((hW.cell (p := ⟨cb, of + 6, none⟩) h.lt).trans (q 6 _ a6)) (conn_wlen h.tot))
    (fun W hW => sL9DataAck c A cb of W B (h.below hW))
end Go.Proofs.YtbdibjeemgkdaaaGreat
