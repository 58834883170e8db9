/- WhereData answers alike, by program and model: where the load of a segment belongs; nothing that was in memory turns; no condition but that there are at most a million parts and errors' own variable is as it is laid. -/
import Derived.Test.YtbdibjeemgkdaaaGreatDoorRows
import Derived.Deep.DeepCutAuto
import Derived.Test.YtbdibjeemgkdaaaGreatDoorK01
import Derived.Test.YtbdibjeemgkdaaaGreatDoorK02
import Derived.Test.YtbdibjeemgkdaaaGreatDoorK03
import Derived.Test.YtbdibjeemgkdaaaGreatDoorK04
import Derived.Test.YtbdibjeemgkdaaaGreatDoorK05
import Derived.Test.YtbdibjeemgkdaaaGreatDoorK06
import Derived.Test.YtbdibjeemgkdaaaGreatDoorK09
import Derived.Test.YtbdibjeemgkdaaaGreatDoorK10
import Derived.Test.YtbdibjeemgkdaaaGreatDoorK11
import Derived.Test.YtbdibjeemgkdaaaGreatDoorK12
import Derived.Test.YtbdibjeemgkdaaaGreatDoorK13
import Derived.Test.YtbdibjeemgkdaaaGreatDoorK14
import Derived.Test.YtbdibjeemgkdaaaGreatDoorK15
import Derived.Test.YtbdibjeemgkdaaaGreatDoorK16
import Derived.Test.YtbdibjeemgkdaaaGreatDoorK17
import Derived.Test.YtbdibjeemgkdaaaGreatDoorK20
import Derived.Test.YtbdibjeemgkdaaaGreatDoorK21
import Derived.Test.YtbdibjeemgkdaaaGreatDoorK25
import Derived.Test.YtbdibjeemgkdaaaGreatDoorK39
import Derived.Test.YtbdibjeemgkdaaaGreatDoorK43
import Derived.Test.YtbdibjeemgkdaaaGreatDoorK44
import Derived.Test.YtbdibjeemgkdaaaGreatDoorK45
namespace Go.Proofs.YtbdibjeemgkdaaaGreatDoor
open Go.RowKit
set_option linter.unusedVariables false
set_option maxRecDepth 8000
/-- Where the load of a segment belongs: code and place. -/
def whP (c : DConn) (s : Seg) : Int × Int :=
  if connF c = 0 then
    (if segFault s s.load.length = 0 then
      (if placeD c.subs s.path < 0 then (4, 0)
       else if plqC (subD c s.path).cat s.seq = 0 then
         (if c.plain = true then (plqC (subD c s.path).cat s.seq, plqV (subD c s.path).cat s.seq) else if s.opt = 4 then (if s.b = sumB (loadB (s.a / 1000) s.load) then (0, s.a / 1000) else (6, 0)) else if 1 < c.subs.length then (10, 0) else (plqC (subD c s.path).cat s.seq, plqV (subD c s.path).cat s.seq))
       else (plqC (subD c s.path).cat s.seq, plqV (subD c s.path).cat s.seq))
     else (segFault s s.load.length, 0))
  else (connF c, 0)
def arr2 (p : Int × Int) : Array Value := #[.int .i64 p.1, .int .i64 p.2]
theorem ca_near {x : DCatch} (h : caF x = 0) : (0 ≤ x.1 ∧ x.1 ≤ 65535) ∧ (0 ≤ x.2.1 ∧ x.2.1 ≤ 1000000) := by
  unfold caF at h
  split at h
  · cases h
  · rename_i h1
    simp only [caHead, inC, Bool.not_eq_false, Bool.and_eq_true, decide_eq_true_eq] at h1
    exact ⟨h1.1, h1.2⟩
theorem plq_ok {x : DCatch} (h : caF x = 0) (q : Int) : plqC x q = 0 ∨ (plqC x q = 4 ∧ plqV x q = 0) := by
  have h1 := (ca_near h).2
  have hn : ¬ (x.2.1 < 0 ∨ 1000000000 < x.2.1) := by omega
  unfold plqC plqV unwC unwV
  simp only [if_pos h, if_neg hn]
  split
  · exact Or.inr ⟨rfl, rfl⟩
  · exact Or.inl rfl
theorem seg_ok {s : Seg} {n : Nat} (h : segFault s n = 0) : (0 ≤ s.seq ∧ s.seq ≤ 65535) ∧ (0 ≤ s.a ∧ s.a ≤ 1000000000) := by
  unfold segFault at h
  split at h
  · cases h
  · rename_i h1
    simp only [rangeOk9, inB9, Bool.not_eq_false, Bool.and_eq_true, decide_eq_true_eq] at h1
    exact ⟨h1.1.1.1.1.2, by have := h1.1.2; omega⟩
theorem subs_okW : ∀ (l pre : List DSub), subsFrom pre l = 0 → ∀ (k : Nat) (hk : k < l.length), subF l[k] = 0
  | [], _, _, k, hk => absurd hk (by simp)
  | x :: xs, pre, h, k, hk => by
    rw [subsFrom] at h
    by_cases h1 : subF x ≠ 0
    · rw [if_pos h1] at h; exact absurd h h1
    · rw [if_neg h1] at h
      match k, hk with
      | 0, _ => simpa using h1
      | k + 1, hk =>
        by_cases h2 : (pre.any fun y => decide (y.1 = x.1)) = true
        · rw [if_pos h2] at h; cases h
        · rw [if_neg h2] at h
          by_cases h3 : x.2.2.1 ≠ decide (0 < pre.length)
          · rw [if_pos h3] at h; cases h
          · rw [if_neg h3] at h
            exact subs_okW xs _ h k (by simpa using hk)
theorem conn13 {w : World} {B : Nat} {c : DConn} {A : Array Value} (hr : shConn.Rd w B c A.toList) (hT : totConn c ≤ 1048576) : ∃ a cap, A[13]? = some (.slice a c.subs.length cap) ∧ shSubs.Rd w B c.subs [.slice a c.subs.length cap] ∧ c.subs.length ≤ 1048576 := by
  obtain ⟨y0, y1, y2, y3, y4, d5, y6, y7, y8, d9, y10, y11, l, ⟨⟩⟩ := c
  obtain ⟨a5, c5, a9, c9, a9', c9', a12, c12, eA, -, -, r12, -⟩ := rd_Conn hr
  have h2 : d5.length + gtTot d9 + (l.length + fsum totSub l) ≤ 1048576 := hT
  exact ⟨a12, c12, get_of eA 13, r12, by show l.length ≤ _; omega⟩
theorem sub_catL {w : World} {B : Nat} {x : DSub} {cs : List Value} (hr : shSub.Rd w B x cs) : ∃ v, cs[10]? = some (.int .i64 x.cat.1) ∧ cs[11]? = some (.int .i64 x.cat.2.1) ∧ cs[12]? = some v ∧ shCatch.Rd w B x.cat [.int .i64 x.cat.1, .int .i64 x.cat.2.1, v] := by
  obtain ⟨u, v, e, -, hc, -⟩ := rd_Sub hr
  exact ⟨v, by rw [e]; rfl, by rw [e]; rfl, by rw [e]; rfl, hc⟩
theorem wh_if {c : Prop} [Decidable c] (p q : Int × Int) : arr2 (if c then p else q) = if c then arr2 p else arr2 q := by split <;> rfl
set_option maxHeartbeats 1000000 in
theorem iWhereData (c : DConn) (A : Array Value) (s : Seg) (a : Option Addr) (n cap : Nat) (w : World) (B : Nat) (hr : shConn.Rd w B c A.toList) (hB : B ≤ w.heap.size) (hT : totConn c ≤ 1048576) (hl : s.load.length = n) (hrb : RB w a s.load) (hnil : a = none → cap = 0) (hn : n ≤ 1048576) (hE : ErrLaid w) :
    Calls Tryz.prog 21 #[.agg A, .agg #[.int .i64 s.path, .int .i64 s.frm, .bool s.syn, .bool s.ackd, .bool s.rst, .int .i64 s.seq, .int .i64 s.ack, .int .i64 s.fin, .int .i64 s.opt, .int .i64 s.a, .int .i64 s.b, .slice a n cap]] w fun e w' => e = .returned (.agg (arr2 (whP c s))) ∧ Below w.heap.size w w' := by
  subst hl
  have hA : A.size = 14 := rd_size hr
  have HM : ∀ W, Below w.heap.size w W → Calls Tryz.prog 49 #[.agg A, .agg #[.int .i64 s.path, .int .i64 s.frm, .bool s.syn, .bool s.ackd, .bool s.rst, .int .i64 s.seq, .int .i64 s.ack, .int .i64 s.fin, .int .i64 s.opt, .int .i64 s.a, .int .i64 s.b, .slice a s.load.length cap]] W fun e w' => e = .returned (if connF c = 0 then (if segFault s s.load.length = 0 then .nilIface else .iface 128 (.agg #[.int .i64 (segFault s s.load.length)])) else .iface 128 (.agg #[.int .i64 (connF c)])) ∧ Below W.heap.size W w' := fun W hW =>
    iMayPlace A _ _ _ W hA rfl (fun W' hW' => iConnFault c A W' B (Sh.Rd.below hr hB (hW.trans (hW'.mono hW.size))) (Nat.le_trans hB (hW.trans (hW'.mono hW.size)).size) hT) (fun W' hW' => iSegmentFault s a s.load.length cap W')
  unfold whP
  by_cases hC : connF c = 0
  case neg =>
    rw [if_neg hC]
    exact iWhereBad A _ w hA rfl (connF c) hE (fun W hW => by have h := HM W hW; rw [if_neg hC] at h; exact h)
  rw [if_pos hC]
  by_cases hG : segFault s s.load.length = 0
  case neg =>
    rw [if_neg hG]
    exact iWhereBad A _ w hA rfl _ hE (fun W hW => by have h := HM W hW; rw [if_pos hC, if_neg hG] at h; exact h)
  rw [if_pos hG]
  have HN : ∀ W, Below w.heap.size w W → Calls Tryz.prog 49 #[.agg A, .agg #[.int .i64 s.path, .int .i64 s.frm, .bool s.syn, .bool s.ackd, .bool s.rst, .int .i64 s.seq, .int .i64 s.ack, .int .i64 s.fin, .int .i64 s.opt, .int .i64 s.a, .int .i64 s.b, .slice a s.load.length cap]] W fun e w' => e = .returned .nilIface ∧ Below W.heap.size W w' := fun W hW => by have h := HM W hW; rw [if_pos hC, if_pos hG] at h; exact h
  clear HM
  obtain ⟨a13, c13, x13, r13, hsn⟩ := conn13 hr hT
  have HPO : ∀ W, Below w.heap.size w W → Calls Tryz.prog 50 #[.slice a13 c.subs.length c13, .int .i64 s.path] W fun e w' => e = .returned (.int .i64 (placeD c.subs s.path)) ∧ Below W.heap.size W w' := fun W hW => iPlaceOn c.subs a13 _ c13 s.path W B (Sh.Rd.below (s := shSubs) r13 hB hW) (Nat.le_trans hB hW.size) rfl hsn
  by_cases hp : placeD c.subs s.path < 0
  · rw [if_pos hp]
    exact iWhere4 A _ w hA rfl s.path a13 _ c13 x13 rfl _ HN HPO hp
  rw [if_neg hp]
  obtain ⟨k, hk, hkl⟩ : ∃ k : Nat, placeD c.subs s.path = k ∧ k < c.subs.length := by
    rcases place_bd c.subs s.path with h | ⟨k, h1, h2⟩
    · omega
    · exact ⟨k, h1, h2⟩
  rw [subD_at hk hkl]
  obtain ⟨cs16, b, off, n', cap', hsl, hbB, hlen, hrg, hrs, hln⟩ := sub_of hr hkl
  have hsF := sub_ok (subs_okW _ _ (conn_ok hC).2.2.2.2.2.2.2.2.1 k hkl)
  obtain ⟨cv, e10, e11, e12, hcat⟩ := sub_catL hrs
  obtain ⟨q1, q2⟩ := seg_ok hG
  obtain ⟨a0, a1, a2, a3, -⟩ := conn_cells hr
  have hTx : totCatch c.subs[k].cat ≤ 1048576 := by
    have h1 := fsum_at totSub hkl
    have h2 : totSub c.subs[k] = totSender c.subs[k].snd + totCatch c.subs[k].cat := rfl
    obtain ⟨y0, y1, y2, y3, y4, d5, y6, y7, y8, d9, y10, y11, l, ⟨⟩⟩ := c
    have h3 : d5.length + gtTot d9 + (l.length + fsum totSub l) ≤ 1048576 := hT
    have h4 : totSub l[k] ≤ fsum totSub l := h1
    have h5 : totSub l[k] = totSender l[k].snd + totCatch l[k].cat := rfl
    show totCatch l[k].cat ≤ _
    omega
  obtain ⟨M, hM⟩ : ∃ M : Array Value, M = if s.b = sumB (loadB (s.a / 1000) s.load) then #[.int .i64 0, .int .i64 (s.a / 1000)] else #[.int .i64 6, .int .i64 0] := ⟨_, rfl⟩
  have hMZ : M.size = 2 := by rw [hM]; split <;> rfl
  have hMO : M.all (·.oneCell') = true := by rw [hM]; split <;> simp [Value.oneCell']
  have HLO : ∀ W, Below w.heap.size w W → Calls Tryz.prog 51 #[.agg A, .agg cs16.toArray, .agg #[.int .i64 s.path, .int .i64 s.frm, .bool s.syn, .bool s.ackd, .bool s.rst, .int .i64 s.seq, .int .i64 s.ack, .int .i64 s.fin, .int .i64 s.opt, .int .i64 s.a, .int .i64 s.b, .slice a s.load.length cap]] W fun e w' => e = .returned (.agg (if plqC c.subs[k].cat s.seq = 0 then (if c.plain = true then #[.int .i64 (plqC c.subs[k].cat s.seq), .int .i64 (plqV c.subs[k].cat s.seq)] else if s.opt = 4 then M else if 1 < c.subs.length then #[.int .i64 10, .int .i64 0] else #[.int .i64 (plqC c.subs[k].cat s.seq), .int .i64 (plqV c.subs[k].cat s.seq)]) else #[.int .i64 (plqC c.subs[k].cat s.seq), .int .i64 (plqV c.subs[k].cat s.seq)])) ∧ Below W.heap.size W w' := fun W hW =>
    iPlaceOfLoad0 A cs16.toArray _ c.plain c.subs[k].cat.1 c.subs[k].cat.2.1 s.seq s.opt _ _ cv M a13 c.subs.length c13 W hA (by rw [List.size_toArray]; exact hlen) rfl hMZ hMO a3 x13 hsn (by rw [List.getElem?_toArray]; exact e10) (by rw [List.getElem?_toArray]; exact e11) (by rw [List.getElem?_toArray]; exact e12) rfl rfl
      (fun W' hW' => iPlaceOfSeq c.subs[k].cat cv s.seq W' B (Sh.Rd.below (s := shCatch) hcat hB (hW.trans (hW'.mono hW.size))) (Nat.le_trans hB (hW.trans (hW'.mono hW.size)).size) hTx)
      (fun W' hW' => by rw [hM]; exact iMapped _ s.a s.b _ a s.load.length cap W' rfl rfl rfl q2 (fun W'' hW'' => iSumLoad (s.a / 1000) a _ cap s.load W'' rfl (hrb.below (Nat.le_refl _) ((hW.trans (hW'.mono hW.size)).trans (hW''.mono (hW.trans (hW'.mono hW.size)).size))) hnil hn))
  rw [hsl] at x13
  simp only [Option.some.injEq, Value.slice.injEq] at x13
  obtain ⟨e1, e2, e3⟩ := x13
  subst e1 e3
  have H := iWhereOk A _ w hA rfl s.path _ c.subs.length _ (by rw [hsl, hln]) rfl _ HN HPO k b off hk rfl hkl hsn (by omega) cs16 hlen hrg _ (by split <;> (try split) <;> (try split) <;> (try split) <;> first | rfl | exact hMZ) (by split <;> (try split) <;> (try split) <;> (try split) <;> first | exact hMO | simp [Value.oneCell']) HLO
  refine H.mono ?_
  rintro e w' ⟨rfl, hb⟩
  refine ⟨?_, hb⟩
  simp only [wh_if]
  rw [hM]
  rfl
set_option maxHeartbeats 1000000 in
theorem sWhereData (c : DConn) (A : Array Value) (s : Seg) (a : Option Addr) (n cap : Nat) (w : World) (B : Nat) (hr : shConn.Rd w B c A.toList) (hB : B ≤ w.heap.size) (hT : totConn c ≤ 1048576) (hl : s.load.length = n) (hrb : RB w a s.load) (hnil : a = none → cap = 0) (hn : n ≤ 1048576) :
    Calls Tryz.prog 19 #[.agg A, .agg #[.int .i64 s.path, .int .i64 s.frm, .bool s.syn, .bool s.ackd, .bool s.rst, .int .i64 s.seq, .int .i64 s.ack, .int .i64 s.fin, .int .i64 s.opt, .int .i64 s.a, .int .i64 s.b, .slice a n cap]] w fun e w' => e = .returned (.agg (arr2 (whP c s))) ∧ Below w.heap.size w w' := by
  subst hl
  have HAT : ∀ W, Below w.heap.size w W → (∀ o, W.cell? ⟨w.heap.size, o, none⟩ = A[o]?) → ConnAt W B c A w.heap.size 0 := fun W hW hk => ConnAt.of (bx_range hk) (Sh.Rd.below hr hB hW) (Nat.le_trans hB hW.size) hT
  have HF : ∀ W, Below w.heap.size w W → (∀ o, W.cell? ⟨w.heap.size, o, none⟩ = A[o]?) → Calls Tryz.prog 29 #[.pointer (some ⟨w.heap.size, 0, none⟩)] W fun e w' => e = .returned (.int .i64 (connF c)) ∧ Below W.heap.size W w' := fun W hW hk => sL9Fault c A w.heap.size 0 W B (HAT W hW hk)
  have HG : ∀ W, Below w.heap.size w W → Calls Tryz.prog 46 #[.agg #[.int .i64 s.path, .int .i64 s.frm, .bool s.syn, .bool s.ackd, .bool s.rst, .int .i64 s.seq, .int .i64 s.ack, .int .i64 s.fin, .int .i64 s.opt, .int .i64 s.a, .int .i64 s.b, .slice a s.load.length cap]] W fun e w' => e = .returned (.int .i64 (segFault s s.load.length)) ∧ Below W.heap.size W w' := fun W hW => sSegmentFault s a s.load.length cap W
  unfold whP
  by_cases hC : connF c = 0
  case neg =>
    rw [if_neg hC]
    exact sWhereF A _ w rfl _ hC HF
  rw [if_pos hC]
  rw [hC] at HF
  by_cases hG : segFault s s.load.length = 0
  case neg =>
    rw [if_neg hG]
    exact sWhereG A _ w rfl _ hG HF HG
  rw [if_pos hG]
  rw [hG] at HG
  have HO : ∀ W, Below w.heap.size w W → (∀ o, W.cell? ⟨w.heap.size, o, none⟩ = A[o]?) → Calls Tryz.prog 47 #[.pointer (some ⟨w.heap.size, 0, none⟩), .int .i64 s.path] W fun e w' => e = .returned (.int .i64 (placeD c.subs s.path)) ∧ w' = W := fun W hW hk => sL9On c A w.heap.size 0 s.path W B (HAT W hW hk)
  by_cases hp : placeD c.subs s.path < 0
  · rw [if_pos hp]
    exact sWhere4 A _ w rfl HF HG s.path _ rfl HO hp
  rw [if_neg hp]
  obtain ⟨k, hk, hkl⟩ : ∃ k : Nat, placeD c.subs s.path = k ∧ k < c.subs.length := by
    rcases place_bd c.subs s.path with h | ⟨k, h1, h2⟩
    · omega
    · exact ⟨k, h1, h2⟩
  rw [subD_at hk hkl]
  obtain ⟨a13, c13, x13, r13, hsn⟩ := conn13 hr hT
  obtain ⟨cs16, b, off, n', cap', hsl, hbB, hlen, hrg, hrs, hln⟩ := sub_of hr hkl
  have hsF := sub_ok (subs_okW _ _ (conn_ok hC).2.2.2.2.2.2.2.2.1 k hkl)
  obtain ⟨cv, e10, e11, e12, hcat⟩ := sub_catL hrs
  obtain ⟨q1, q2⟩ := seg_ok hG
  have hcn := ca_near hsF.2.2.1
  obtain ⟨a0, a1, a2, a3, -⟩ := conn_cells hr
  rw [hsl] at x13
  simp only [Option.some.injEq, Value.slice.injEq] at x13
  obtain ⟨e1, e2, e3⟩ := x13
  subst e1 e3
  have hpC : plqC c.subs[k].cat s.seq = unwC (s.seq - c.subs[k].cat.1) c.subs[k].cat.2.1 := by unfold plqC; rw [if_pos hsF.2.2.1]
  have hpV : plqV c.subs[k].cat s.seq = unwV (s.seq - c.subs[k].cat.1) c.subs[k].cat.2.1 := by unfold plqV; rw [if_pos hsF.2.2.1]
  have hx13 : A[13]? = some (.slice (some ⟨b, off, none⟩) c.subs.length cap') := by rw [hsl, hln]
  have HLW : ∀ W, Below w.heap.size w W → (∀ o, W.cell? ⟨w.heap.size, o, none⟩ = A[o]?) → Calls Tryz.prog 48 #[.pointer (some ⟨w.heap.size, 0, none⟩), .pointer (some ⟨b, off + k * 16, none⟩), .agg #[.int .i64 s.path, .int .i64 s.frm, .bool s.syn, .bool s.ackd, .bool s.rst, .int .i64 s.seq, .int .i64 s.ack, .int .i64 s.fin, .int .i64 s.opt, .int .i64 s.a, .int .i64 s.b, .slice a s.load.length cap]] W fun e w' => e = .returned (.tuple (if plqC c.subs[k].cat s.seq = 0 then (if c.plain = true then #[.int .i64 (plqV c.subs[k].cat s.seq), .int .i64 0] else if s.opt = 4 then (if s.b = sumB (loadB (s.a / 1000) s.load) then #[.int .i64 (s.a / 1000), .int .i64 0] else #[.int .i64 0, .int .i64 6]) else if c.subs.length = 1 then #[.int .i64 (plqV c.subs[k].cat s.seq), .int .i64 0] else #[.int .i64 0, .int .i64 10]) else #[.int .i64 0, .int .i64 4])) ∧ Below W.heap.size W w' := fun W hW hk => by
    have hr2 := range_below hrg hW (show b < w.heap.size by omega)
    rw [hpC, hpV]
    exact sL10Where0 w.heap.size 0 b (off + k * 16) _ c.plain c.subs[k].cat.1 c.subs[k].cat.2.1 s.seq s.opt s.a s.b _ _ _ a s.load.length cap (some ⟨b, off, none⟩) c.subs.length cap' W (by have := (HAT W hW hk).lt; exact this) (by have := hW.size; omega) (by rw [Nat.zero_add, hk]; exact a3) (by rw [Nat.zero_add, hk]; exact hx13) (hr2 10 _ e10) (hr2 11 _ e11) rfl rfl rfl rfl rfl hsn q2 (by omega)
      (fun W' hW' => sSumLoad (s.a / 1000) a _ cap s.load W' rfl (hrb.below (Nat.le_refl _) (hW.trans (hW'.mono hW.size))) hnil hn)
      (fun W' => sUnwrap _ _ W')
  have FIN : ∀ (RV RC : Int), (∀ W, Below w.heap.size w W → (∀ o, W.cell? ⟨w.heap.size, o, none⟩ = A[o]?) → Calls Tryz.prog 48 #[.pointer (some ⟨w.heap.size, 0, none⟩), .pointer (some ⟨b, off + k * 16, none⟩), .agg #[.int .i64 s.path, .int .i64 s.frm, .bool s.syn, .bool s.ackd, .bool s.rst, .int .i64 s.seq, .int .i64 s.ack, .int .i64 s.fin, .int .i64 s.opt, .int .i64 s.a, .int .i64 s.b, .slice a s.load.length cap]] W fun e w' => e = .returned (.tuple #[.int .i64 RV, .int .i64 RC]) ∧ Below W.heap.size W w') → Calls Tryz.prog 19 #[.agg A, .agg #[.int .i64 s.path, .int .i64 s.frm, .bool s.syn, .bool s.ackd, .bool s.rst, .int .i64 s.seq, .int .i64 s.ack, .int .i64 s.fin, .int .i64 s.opt, .int .i64 s.a, .int .i64 s.b, .slice a s.load.length cap]] w fun e w' => e = .returned (.agg (if RC = 0 then #[.int .i64 0, .int .i64 RV] else #[.int .i64 RC, .int .i64 0])) ∧ Below w.heap.size w w' := fun RV RC h =>
    sWhereOk A _ w rfl HF HG s.path _ rfl HO k b off c.subs.length cap' hx13 hk hkl hsn RV RC h
  rcases plq_ok hsF.2.2.1 s.seq with hq | ⟨hq, hq2⟩
  case inr =>
    rw [if_neg (by rw [hq]; decide), hq, hq2]
    have H := FIN 0 4 (fun W hW hk => by have h := HLW W hW hk; rw [if_neg (by rw [hq]; decide)] at h; exact h)
    rw [if_neg (by decide)] at H
    exact H
  rw [if_pos hq]
  by_cases h1 : c.plain = true
  · rw [if_pos h1, hq]
    have H := FIN _ 0 (fun W hW hk => by have h := HLW W hW hk; rw [if_pos hq, if_pos h1] at h; exact h)
    rw [if_pos rfl] at H
    exact H
  rw [if_neg h1]
  by_cases h2 : s.opt = 4
  · rw [if_pos h2]
    by_cases h3 : s.b = sumB (loadB (s.a / 1000) s.load)
    · rw [if_pos h3]
      have H := FIN _ 0 (fun W hW hk => by have h := HLW W hW hk; rw [if_pos hq, if_neg h1, if_pos h2, if_pos h3] at h; exact h)
      rw [if_pos rfl] at H
      exact H
    · rw [if_neg h3]
      have H := FIN _ 6 (fun W hW hk => by have h := HLW W hW hk; rw [if_pos hq, if_neg h1, if_pos h2, if_neg h3] at h; exact h)
      rw [if_neg (by decide)] at H
      exact H
  rw [if_neg h2]
  by_cases h3 : c.subs.length = 1
  · rw [if_neg (by omega), hq]
    have H := FIN _ 0 (fun W hW hk => by have h := HLW W hW hk; rw [if_pos hq, if_neg h1, if_neg h2, if_pos h3] at h; exact h)
    rw [if_pos rfl] at H
    exact H
  · rw [if_pos (by omega)]
    have H := FIN _ 10 (fun W hW hk => by have h := HLW W hW hk; rw [if_pos hq, if_neg h1, if_neg h2, if_neg h3] at h; exact h)
    rw [if_neg (by decide)] at H
    exact H
end Go.Proofs.YtbdibjeemgkdaaaGreatDoor
