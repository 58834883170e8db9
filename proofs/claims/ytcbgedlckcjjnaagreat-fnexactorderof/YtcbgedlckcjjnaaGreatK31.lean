/- What program and model make of a copy of a conn without a fault: it owns its memory; nothing that was in memory turns; no condition but that there are at most a million parts. Written by mkcopyc.py. -/
import Derived.Test.YtcbgedlckcjjnaaGreatRows
import Derived.Deep.RegionHeld3
import Derived.Deep.DeepCutAuto
import Derived.Deep.DeepMust
import Derived.Deep.MidRow
import Derived.Test.YtcbgedlckcjjnaaGreatK01
import Derived.Test.YtcbgedlckcjjnaaGreatK02
import Derived.Test.YtcbgedlckcjjnaaGreatK03
import Derived.Test.YtcbgedlckcjjnaaGreatK04
import Derived.Test.YtcbgedlckcjjnaaGreatK09
import Derived.Test.YtcbgedlckcjjnaaGreatK10
import Derived.Test.YtcbgedlckcjjnaaGreatK11
import Derived.Test.YtcbgedlckcjjnaaGreatK12
import Derived.Test.YtcbgedlckcjjnaaGreatK17
import Derived.Test.YtcbgedlckcjjnaaGreatK18
import Derived.Test.YtcbgedlckcjjnaaGreatK19
import Derived.Test.YtcbgedlckcjjnaaGreatK29
import Derived.Test.YtcbgedlckcjjnaaGreatK30
import Derived.Test.YtcbgedlckcjjnaaGreatK42
import Derived.Test.YtcbgedlckcjjnaaGreatK64
namespace Go.Proofs.YtcbgedlckcjjnaaGreat
open Go.RowKit
set_option linter.unusedVariables false
set_option maxRecDepth 8000

theorem info_S16 : (Tryz.prog.info? 145).map (fun i => (i.zero, i.size, i.bytes)) = some (some (.agg #[.int .i64 0, .int .i64 0, .bool false, .int .i64 0, .int .i64 0, .int .i64 0, .int .i64 0, .int .i64 0, .int .i64 0, .slice none 0 0, .int .i64 0, .int .i64 0, .slice none 0 0, .int .i64 0, .int .i64 0, .int .i64 0]), 16, 160) := by kernel_rfl
theorem own_subs0 (w : World) (lo hi : Nat) : Own w lo hi shSubsO [] [.slice none 0 0] := ⟨[], Or.inl ⟨rfl, rfl, rfl⟩, by simp, by simp⟩
/-- A sub without a fault that reads, by its cells. -/
theorem sub_open {w : World} {B : Nat} {x : DSub} {cs : List Value} (hr : shSub.Rd w B x cs) (hB : B ≤ w.heap.size) (hF : subF x = 0) :
    ∃ (t0 t1 : Int) (t2 : Bool) (t3 t4 t5 s0 s1 s2 : Int) (fl : List DFlight) (e0 e1 : Int) (sp : List DSpan) (k0 k1 k2 : Int) (ua : Option Addr) (fn uc : Nat) (ga : Option Addr) (sn gc : Nat), x = (t0, t1, t2, t3, t4, t5, (s0, s1, s2, fl, ()), (e0, e1, sp, ()), (k0, k1, k2, ()), ()) ∧ cs = [.int .i64 t0, .int .i64 t1, .bool t2, .int .i64 t3, .int .i64 t4, .int .i64 t5, .int .i64 s0, .int .i64 s1, .int .i64 s2, .slice ua fn uc, .int .i64 e0, .int .i64 e1, .slice ga sn gc, .int .i64 k0, .int .i64 k1, .int .i64 k2] ∧ SubIn w B fl sp s0 s1 s2 e0 e1 ua fn uc ga sn gc ∧ SubWf (t0, t1, t2, t3, t4, t5, (s0, s1, s2, fl, ()), (e0, e1, sp, ()), (k0, k1, k2, ()), ()) := by
  obtain ⟨t0, t1, t2, t3, t4, t5, ⟨s0, s1, s2, fl, ⟨⟩⟩, ⟨e0, e1, sp, ⟨⟩⟩, ⟨k0, k1, k2, ⟨⟩⟩, ⟨⟩⟩ := x
  have h12 : sndFault (s0, s1, s2, fl, ()) = 0 ∧ caF (e0, e1, sp, ()) = 0 := by
    unfold subF at hF
    split at hF
    · cases hF
    · split at hF
      · rename_i h1
        split at hF
        · rename_i h2; exact ⟨h1, h2⟩
        · rename_i h2; exact absurd hF h2
      · rename_i h1; exact absurd hF h1
  obtain ⟨u, v, e, hs, hc, hw⟩ := rd_Sub hr
  obtain ⟨vv, ev, rk, -⟩ := rd_Sender hs
  simp only [List.cons.injEq, and_true, true_and] at ev
  subst ev
  obtain ⟨ua, uc, ev2⟩ := row_form rk
  simp only [List.cons.injEq, and_true] at ev2
  subst ev2
  obtain ⟨vw, ew, rw', -⟩ := rd_Catch hc
  simp only [List.cons.injEq, and_true, true_and] at ew
  subst ew
  obtain ⟨ga, gc, ew2⟩ := row_form rw'
  simp only [List.cons.injEq, and_true] at ew2
  subst ew2
  exact ⟨t0, t1, t2, t3, t4, t5, s0, s1, s2, fl, e0, e1, sp, k0, k1, k2, ua, _, uc, ga, _, gc, rfl, e, SubIn.of hs hc rfl rfl hB h12.1 h12.2, hw⟩
theorem own_ConnO9 {w : World} {lo hi m5 m9 : Nat} {y0 : Int} {y1 : Int} {y2 : Int} {y3 : Bool} {y4 : Bool} {d5 : (List Int)} {y6 : Bool} {y7 : Int} {y8 : Bool} {d9 : (Gt)} {y10 : Int} {y11 : Int} {d12 : (List DSub)} {v5 v9 v10 v13 : Value} (h5 : Own w lo m5 u8s d5 [v5]) (h9 : Own w m5 m9 gtS d9 [v9, v10]) (h12 : Own w m9 hi shSubsO d12 [v13]) (l0 : lo ≤ m5) (l1 : m5 ≤ m9) (l2 : m9 ≤ hi) (hw : ConnWf (y0, y1, y2, y3, y4, d5, y6, y7, y8, d9, y10, y11, d12, ())) : Own w lo hi shConnO (y0, y1, y2, y3, y4, d5, y6, y7, y8, d9, y10, y11, d12, ()) [.int .i64 y0, .int .i64 y1, .int .i64 y2, .bool y3, .bool y4, v5, .bool y6, .int .i64 y7, .bool y8, v9, v10, .int .i64 y10, .int .i64 y11, v13] := by
  obtain ⟨w0, w1, w2, w7, w10, w11⟩ := hw
  have LE3 : hi ≤ hi := Nat.le_refl _
  have LE0 : lo ≤ hi := by omega
  have LE1 : m5 ≤ hi := by omega
  have LE2 : m9 ≤ hi := by omega
  exact hOwnCons (hOwnInt w lo lo w0) (hOwnCons (hOwnInt w lo lo w1) (hOwnCons (hOwnInt w lo lo w2) (hOwnCons (hOwnBool w lo lo y3) (hOwnCons (hOwnBool w lo lo y4) (hOwnCons h5 (hOwnCons (hOwnBool w m5 m5 y6) (hOwnCons (hOwnInt w m5 m5 w7) (hOwnCons (hOwnBool w m5 m5 y8) (hOwnCons h9 (hOwnCons (hOwnInt w m9 m9 w10) (hOwnCons (hOwnInt w m9 m9 w11) (hOwnCons h12 (hOwnNil w hi hi) l2 LE3) (Nat.le_refl _) LE2) (Nat.le_refl _) LE2) l1 LE2) (Nat.le_refl _) LE1) (Nat.le_refl _) LE1) (Nat.le_refl _) LE1) l0 LE1) (Nat.le_refl _) LE0) (Nat.le_refl _) LE0) (Nat.le_refl _) LE0) (Nat.le_refl _) LE0) (Nat.le_refl _) LE0
theorem subs_ok9 : ∀ (l pre : List DSub), subsFrom pre l = 0 → ∀ (k : Nat) (hk : k < l.length), subF l[k] = 0
  | [], _, _, k, hk => absurd hk (by simp)
  | x :: xs, pre, h, k, hk => by
    rw [subsFrom] at h
    by_cases h1 : subF x ≠ 0
    · rw [if_pos h1] at h; exact absurd h h1
    · rw [if_neg h1] at h
      match k, hk with
      | 0, _ => simpa using h1
      | k + 1, hk =>
        by_cases h2 : (pre.any fun y => decide (y.1 = x.1)) = true
        · rw [if_pos h2] at h; cases h
        · rw [if_neg h2] at h
          by_cases h3 : x.2.2.1 ≠ decide (0 < pre.length)
          · rw [if_pos h3] at h; cases h
          · rw [if_neg h3] at h
            exact subs_ok9 xs _ h k (by simpa using hk)
theorem iCopySubA (x : DSub) (cs : List Value) (w : World) (B : Nat) (hr : shSub.Rd w B x cs) (hB : B ≤ w.heap.size) (hF : subF x = 0) :
    Calls Tryz.prog 171 #[.agg cs.toArray] w fun e w' => ∃ N : Array Value, e = .returned (.pointer (some ⟨w.heap.size, 0, none⟩)) ∧ (∀ o, w'.cell? ⟨w.heap.size, o, none⟩ = N[o]?) ∧ Own w' (w.heap.size + 1) w'.heap.size shSubO x N.toList ∧ w.heap.size < w'.heap.size ∧ Below w.heap.size w w' := by
  obtain ⟨t0, t1, t2, t3, t4, t5, s0, s1, s2, fl, e0, e1, sp, k0, k1, k2, ua, fn, uc, ga, sn, gc, rfl, rfl, hin, hsw⟩ := sub_open hr hB hF
  refine (iCopySub t0 t1 t2 t3 t4 t5 s0 s1 s2 e0 e1 k0 k1 k2 fl sp ua fn uc ga sn gc w B hin).mono ?_
  rintro e w' ⟨qa, qc, ra, rc, m, rfl, hk, -, ho, hz, hb⟩
  exact ⟨_, rfl, hk, own_SubO ho.s ho.c ho.lm ho.mh hsw, hz, hb⟩
theorem sL8CopyA (x : DSub) (cs : List Value) (w : World) (B : Nat) (hr : shSub.Rd w B x cs) (hB : B ≤ w.heap.size) (hF : subF x = 0) :
    Calls Tryz.prog 163 #[.agg cs.toArray] w fun e w' => ∃ N : Array Value, e = .returned (.agg N) ∧ Own w' w.heap.size w'.heap.size shSubO x N.toList ∧ Below w.heap.size w w' := by
  obtain ⟨t0, t1, t2, t3, t4, t5, s0, s1, s2, fl, e0, e1, sp, k0, k1, k2, ua, fn, uc, ga, sn, gc, rfl, rfl, hin, hsw⟩ := sub_open hr hB hF
  refine (sL8Copy t0 t1 t2 t3 t4 t5 s0 s1 s2 e0 e1 k0 k1 k2 fl sp ua fn uc ga sn gc w B hin).mono ?_
  rintro e w' ⟨qa, qc, ra, rc, m, rfl, ho, hb⟩
  exact ⟨_, rfl, own_SubO ho.s ho.c ho.lm ho.mh hsw, hb⟩
/-- A copy of a conn, part by part: its bytes, what came in, its subs, one behind the other. -/
def CopP (w : World) (lo : Nat) (c : DConn) (N : Array Value) : Prop := ∃ (m5 m9 : Nat) (v5 v9 v10 v13 : Value), N = #[.int .i64 c.1, .int .i64 c.2.1, .int .i64 c.2.2.1, .bool c.2.2.2.1, .bool c.2.2.2.2.1, v5, .bool c.2.2.2.2.2.2.1, .int .i64 c.2.2.2.2.2.2.2.1, .bool c.2.2.2.2.2.2.2.2.1, v9, v10, .int .i64 c.2.2.2.2.2.2.2.2.2.2.1, .int .i64 c.2.2.2.2.2.2.2.2.2.2.2.1, v13] ∧ Own w lo m5 u8s c.2.2.2.2.2.1 [v5] ∧ Own w m5 m9 gtS c.2.2.2.2.2.2.2.2.2.1 [v9, v10] ∧ Own w m9 w.heap.size shSubsO c.2.2.2.2.2.2.2.2.2.2.2.2.1 [v13] ∧ lo ≤ m5 ∧ m5 ≤ m9 ∧ m9 ≤ w.heap.size ∧ ConnWf c
theorem CopP.keep {W W' : World} {lo lo' : Nat} {c : DConn} {N : Array Value} (h : CopP W lo c N) (hl : lo' ≤ lo) (hk : ∀ b, lo ≤ b → W'.heap[b]? = W.heap[b]?) (hz : W'.heap.size = W.heap.size) : CopP W' lo' c N := by
  obtain ⟨m5, m9, v5, v9, v10, v13, e, h5, h9, h12, l0, l1, l2, hw⟩ := h
  refine ⟨m5, m9, v5, v9, v10, v13, e, (h5.keep fun b h1 _ => hk b h1).mono hl (Nat.le_refl _), h9.keep fun b h1 _ => hk b (by omega), ?_, by omega, l1, by omega, hw⟩
  rw [hz]
  exact h12.keep fun b h1 _ => hk b (by omega)
theorem CopP.own {W : World} {lo : Nat} {c : DConn} {N : Array Value} (h : CopP W lo c N) : Own W lo W.heap.size shConnO c N.toList := by
  obtain ⟨m5, m9, v5, v9, v10, v13, e, h5, h9, h12, l0, l1, l2, hw⟩ := h
  rw [e]
  obtain ⟨y0, y1, y2, y3, y4, d5, y6, y7, y8, d9, y10, y11, d12, ⟨⟩⟩ := c
  exact own_ConnO9 h5 h9 h12 l0 l1 l2 hw
theorem arr16 {A : Array Value} (h : A.size = 16) : ∃ n_0 n_1 n_2 n_3 n_4 n_5 n_6 n_7 n_8 n_9 n_10 n_11 n_12 n_13 n_14 n_15, A = #[n_0, n_1, n_2, n_3, n_4, n_5, n_6, n_7, n_8, n_9, n_10, n_11, n_12, n_13, n_14, n_15] := by
  obtain ⟨l⟩ := A
  rw [List.size_toArray] at h
  rcases l with _ | ⟨n_0, l⟩
  · simp at h
  rcases l with _ | ⟨n_1, l⟩
  · simp at h
  rcases l with _ | ⟨n_2, l⟩
  · simp at h
  rcases l with _ | ⟨n_3, l⟩
  · simp at h
  rcases l with _ | ⟨n_4, l⟩
  · simp at h
  rcases l with _ | ⟨n_5, l⟩
  · simp at h
  rcases l with _ | ⟨n_6, l⟩
  · simp at h
  rcases l with _ | ⟨n_7, l⟩
  · simp at h
  rcases l with _ | ⟨n_8, l⟩
  · simp at h
  rcases l with _ | ⟨n_9, l⟩
  · simp at h
  rcases l with _ | ⟨n_10, l⟩
  · simp at h
  rcases l with _ | ⟨n_11, l⟩
  · simp at h
  rcases l with _ | ⟨n_12, l⟩
  · simp at h
  rcases l with _ | ⟨n_13, l⟩
  · simp at h
  rcases l with _ | ⟨n_14, l⟩
  · simp at h
  rcases l with _ | ⟨n_15, l⟩
  · simp at h
  rcases l with _ | ⟨y, l⟩
  · exact ⟨n_0, n_1, n_2, n_3, n_4, n_5, n_6, n_7, n_8, n_9, n_10, n_11, n_12, n_13, n_14, n_15, rfl⟩
  · simp at h
set_option maxHeartbeats 8000000 in
theorem iCopyConnS (c : DConn) (A : Array Value) (w : World) (B : Nat) (hr : shConn.Rd w B c A.toList) (hB : B ≤ w.heap.size) (hT : totConn c ≤ 1048576) (hF : connF c = 0) :
    Calls Tryz.prog 123 #[.agg A] w fun e w' => ∃ N : Array Value, e = .returned (.agg N) ∧ CopP w' w.heap.size c N ∧ Below w.heap.size w w' := by
  have hok := conn_ok hF
  have hgf : gtFault c.inn = 0 := hok.2.2.2.2.1
  have hsf : subsF c.subs = 0 := hok.2.2.2.2.2.2.2.2.1
  clear hok hF
  obtain ⟨y0, y1, y2, y3, y4, d5, y6, y7, y8, ⟨dn, ps, ⟨⟩⟩, y10, y11, l, ⟨⟩⟩ := c
  obtain ⟨a5, c5, a9, c9, a9', c9', a12, c12, eA, r5, r9, r12, hwf⟩ := rd_Conn hr
  have hT2 : d5.length + (dn.length + pcsTot ps) + totSubs l ≤ 1048576 := hT
  have h40 : ps.length ≤ 1000 := by have h : ps.length ≤ 40 := (gt_in hgf).2.1; omega
  obtain ⟨sa5, sc5, es5, rb5, hnil5, -⟩ := rd_bytes r5
  simp only [List.cons.injEq, Value.slice.injEq, and_true, true_and] at es5
  obtain ⟨rfl, rfl⟩ := es5
  have HSF : Hid (∀ k (hk : k < l.length), subF l[k] = 0) := fun k hk => subs_ok9 l [] hsf k hk
  have hl1 : l.length ≤ 1048576 := by unfold totSubs at hT2; omega
  have h51 : d5.length ≤ 1048576 := by omega
  have HGC : Hid (∀ W, Below w.heap.size w W → Calls Tryz.prog 170 #[.agg #[.slice a9 dn.length c9, .slice a9' ps.length c9']] W fun e w' => ∃ u1 u2, e = .returned (.agg #[u1, u2]) ∧ Own w' W.heap.size w'.heap.size gtS (dn, ps, ()) [u1, u2] ∧ Below W.heap.size W w') := fun W hW => iCopyGather (dn, ps, ()) _ _ W B (Sh.Rd.below r9 hB hW) (Nat.le_trans hB hW.size) (by show dn.length + pcsTot ps ≤ _; omega) h40
  have HRB : Hid (∀ W, Below w.heap.size w W → RB W a5 d5) := fun W hW => rb5.below (Nat.le_refl _) hW
  have HNI : Hid _ := hnil5
  have HWF : Hid _ := hwf
  obtain ⟨n, hn⟩ : ∃ n, l.length = n := ⟨_, rfl⟩
  have HN : Hid (l.length = n) := hn
  have HRd : Hid (∀ W, Below w.heap.size w W → shSubs.Rd W B l [.slice a12 n c12]) := fun W hW => by have h := Sh.Rd.below (s := shSubs) r12 hB hW; rw [← hn]; exact h
  obtain ⟨n5, h5n⟩ : ∃ n5, d5.length = n5 := ⟨_, rfl⟩
  have HN5 : Hid (d5.length = n5) := h5n
  have eA2 : A = #[.int .i64 y0, .int .i64 y1, .int .i64 y2, .bool y3, .bool y4, .slice a5 n5 c5, .bool y6, .int .i64 y7, .bool y8, .slice a9 dn.length c9, .slice a9' ps.length c9', .int .i64 y10, .int .i64 y11, .slice a12 n c12] := by rw [arr_of eA, hn, h5n]
  rw [hn] at hl1
  rw [h5n] at h51
  subst eA2
  clear hr eA r5 r9 r12 rb5 hnil5 hT hT2 hgf hsf hwf hn h5n h40
  obtain ⟨n9, hn9⟩ : ∃ n9, dn.length = n9 := ⟨_, rfl⟩
  obtain ⟨n10, hn10⟩ : ∃ n10, ps.length = n10 := ⟨_, rfl⟩
  have HN9 : Hid (dn.length = n9) := hn9
  have HN10 : Hid (ps.length = n10) := hn10
  rw [hn9, hn10] at HGC ⊢
  clear hn9 hn10
  have HC5 : Hid (∀ W, Below w.heap.size w W → Calls Tryz.prog 124 #[.slice a5 n5 c5] W fun e w' => ∃ b1 k1, e = .returned (.slice b1 n5 k1) ∧ Own w' W.heap.size w'.heap.size u8s d5 [.slice b1 n5 k1] ∧ Below W.heap.size W w') := fun W hW => iCopyB9 a5 _ c5 d5 W HN5.out (HRB.out W hW) HNI.out h51
  go_enter Tryz.func123, Tryz.ntmps123
  go_wp2_with fail
  refine (HC5.out _ (by go_grown)).mono ?_
  rintro e w1 ⟨b5, d5c, rfl, ho5, hb1⟩
  obtain ⟨kA, kR, fR, hbq, z0⟩ := two_boxesG hb1
  have fA : ∀ o, w1.frozen? ⟨w.heap.size, o, none⟩ = false := fun o => by rw [hb1.frozen (p := ⟨w.heap.size, o, none⟩) (by simp; omega)]; simp [go_sem]
  have HO5 : Hid (Own w1 (w.heap.size + 1 + 1) w1.heap.size u8s d5 [.slice b5 n5 d5c]) := by show Own _ _ _ _ _ _; simpa using ho5
  have HB : Hid (Below w.heap.size w w1) := hbq
  clear ho5 hb1 hbq HC5
  go_upto_region 2 with fail
  replace kA := bx_put kA (k := 5) (v := .slice b5 n5 d5c) (by simp)
  simp only [List.setIfInBounds_toArray, List.set_cons_zero, List.set_cons_succ] at kA
  replace fA : ∀ o, (w1.setCell ⟨w.heap.size, 5, none⟩ (.slice b5 n5 d5c)).frozen? ⟨w.heap.size, o, none⟩ = false := fx_setC fA
  replace kR : ∀ o, (w1.setCell ⟨w.heap.size, 5, none⟩ (.slice b5 n5 d5c)).cell? ⟨w.heap.size + 1, o, none⟩ = (#[.int .i64 0, .int .i64 0, .int .i64 0, .bool false, .bool false, .slice none 0 0, .bool false, .int .i64 0, .bool false, .slice none 0 0, .slice none 0 0, .int .i64 0, .int .i64 0, .slice none 0 0] : Array Value)[o]? := bx_setC kR (by omega)
  replace fR : ∀ o, (w1.setCell ⟨w.heap.size, 5, none⟩ (.slice b5 n5 d5c)).frozen? ⟨w.heap.size + 1, o, none⟩ = false := fx_setC fR
  replace HO5 : Hid (Own (w1.setCell ⟨w.heap.size, 5, none⟩ (.slice b5 n5 d5c)) (w.heap.size + 1 + 1) w1.heap.size u8s d5 [.slice b5 n5 d5c]) := Own.keep HO5.out (fun b h1 h2 => Below.heap_setCell _ _ _ _ (by dsimp only; omega))
  replace HB : Hid (Below w.heap.size w (w1.setCell ⟨w.heap.size, 5, none⟩ (.slice b5 n5 d5c))) := Below.setCell (p := ⟨w.heap.size, 5, none⟩) HB.out (Nat.le_refl _) _
  have zz1 : w1.heap.size ≤ (w1.setCell ⟨w.heap.size, 5, none⟩ (.slice b5 n5 d5c)).heap.size := by simp
  generalize hW2 : w1.setCell ⟨w.heap.size, 5, none⟩ (.slice b5 n5 d5c) = W2 at kA fA kR fR HO5 HB zz1 ⊢
  clear hW2
  obtain ⟨m5, hm5⟩ : ∃ m5, m5 = w1.heap.size := ⟨_, rfl⟩
  rw [← hm5] at z0 HO5 zz1
  clear hm5
  go_wp2_with fail
  refine (HGC.out _ HB.out).mono ?_
  rintro e w3 ⟨g1, g2, rfl, ho9, hb3⟩
  obtain ⟨q1, p1, q2, p2, eg, -, -⟩ := rd_gt (ho9.rd (Nat.le_refl _))
  replace eg : [g1, g2] = [Value.slice q1 dn.length p1, Value.slice q2 ps.length p2] := eg
  rw [HN9.out, HN10.out] at eg
  simp only [List.cons.injEq, and_true] at eg
  obtain ⟨rfl, rfl⟩ := eg
  replace kA := bx_below kA (by omega) hb3
  replace fA := bxF fA hb3 (by omega)
  replace kR := bx_below kR (by omega) hb3
  replace fR := bxF fR hb3 (by omega)
  replace HO5 : Hid (Own w3 (w.heap.size + 1 + 1) m5 u8s d5 [.slice b5 n5 d5c]) := HO5.out.below (by omega) hb3
  have HO9 : Hid (Own w3 m5 w3.heap.size gtS (dn, ps, ()) [.slice q1 n9 p1, .slice q2 n10 p2]) := Own.mono ho9 (by omega) (Nat.le_refl _)
  have zz3 := hb3.size
  replace HB : Hid (Below w.heap.size w w3) := HB.out.trans (hb3.mono HB.out.size)
  clear ho9 hb3 HGC
  go_upto_region 4 with fail
  replace kA := (bx_put (bx_put kA (k := 9) (v := .slice q1 n9 p1) (by simp)) (k := 10) (v := .slice q2 n10 p2) (by simp))
  simp only [List.setIfInBounds_toArray, List.set_cons_zero, List.set_cons_succ] at kA
  replace fA : ∀ o, ((w3.setCell ⟨w.heap.size, 9, none⟩ (.slice q1 n9 p1)).setCell ⟨w.heap.size, 10, none⟩ (.slice q2 n10 p2)).frozen? ⟨w.heap.size, o, none⟩ = false := (fx_setC (fx_setC fA))
  replace kR : ∀ o, ((w3.setCell ⟨w.heap.size, 9, none⟩ (.slice q1 n9 p1)).setCell ⟨w.heap.size, 10, none⟩ (.slice q2 n10 p2)).cell? ⟨w.heap.size + 1, o, none⟩ = (#[.int .i64 0, .int .i64 0, .int .i64 0, .bool false, .bool false, .slice none 0 0, .bool false, .int .i64 0, .bool false, .slice none 0 0, .slice none 0 0, .int .i64 0, .int .i64 0, .slice none 0 0] : Array Value)[o]? := (bx_setC (bx_setC kR (show w.heap.size + 1 ≠ w.heap.size by omega)) (show w.heap.size + 1 ≠ w.heap.size by omega))
  replace fR : ∀ o, ((w3.setCell ⟨w.heap.size, 9, none⟩ (.slice q1 n9 p1)).setCell ⟨w.heap.size, 10, none⟩ (.slice q2 n10 p2)).frozen? ⟨w.heap.size + 1, o, none⟩ = false := (fx_setC (fx_setC fR))
  replace HB : Hid (Below w.heap.size w ((w3.setCell ⟨w.heap.size, 9, none⟩ (.slice q1 n9 p1)).setCell ⟨w.heap.size, 10, none⟩ (.slice q2 n10 p2))) := (Below.setCell (p := ⟨w.heap.size, 10, none⟩) (Below.setCell (p := ⟨w.heap.size, 9, none⟩) HB.out (Nat.le_refl _) (.slice q1 n9 p1)) (Nat.le_refl _) (.slice q2 n10 p2))
  replace HO5 : Hid (Own ((w3.setCell ⟨w.heap.size, 9, none⟩ (.slice q1 n9 p1)).setCell ⟨w.heap.size, 10, none⟩ (.slice q2 n10 p2)) (w.heap.size + 1 + 1) m5 u8s d5 [.slice b5 n5 d5c]) := Own.keep HO5.out (fun b h1 h2 => by repeat rw [Below.heap_setCell _ _ _ _ (by dsimp only; omega)])
  replace HO9 : Hid (Own ((w3.setCell ⟨w.heap.size, 9, none⟩ (.slice q1 n9 p1)).setCell ⟨w.heap.size, 10, none⟩ (.slice q2 n10 p2)) m5 w3.heap.size gtS (dn, ps, ()) [.slice q1 n9 p1, .slice q2 n10 p2]) := Own.keep HO9.out (fun b h1 h2 => by repeat rw [Below.heap_setCell _ _ _ _ (by dsimp only; omega)])
  have znW4 : w3.heap.size ≤ ((w3.setCell ⟨w.heap.size, 9, none⟩ (.slice q1 n9 p1)).setCell ⟨w.heap.size, 10, none⟩ (.slice q2 n10 p2)).heap.size := by simp
  generalize hWW4 : ((w3.setCell ⟨w.heap.size, 9, none⟩ (.slice q1 n9 p1)).setCell ⟨w.heap.size, 10, none⟩ (.slice q2 n10 p2)) = W4 at kA fA kR fR HB znW4 HO5 HO9 ⊢
  clear hWW4
  obtain ⟨m9, hm9⟩ : ∃ m9, m9 = w3.heap.size := ⟨_, rfl⟩
  rw [← hm9] at zz3 znW4 HO9
  clear hm9
  go_upto_region 5 with fail
  replace kA := (bx_put kA (k := 13) (v := .slice none 0 0) (by simp))
  simp only [List.setIfInBounds_toArray, List.set_cons_zero, List.set_cons_succ] at kA
  replace fA : ∀ o, (W4.setCell ⟨w.heap.size, 13, none⟩ (.slice none 0 0)).frozen? ⟨w.heap.size, o, none⟩ = false := (fx_setC fA)
  replace kR : ∀ o, (W4.setCell ⟨w.heap.size, 13, none⟩ (.slice none 0 0)).cell? ⟨w.heap.size + 1, o, none⟩ = (#[.int .i64 0, .int .i64 0, .int .i64 0, .bool false, .bool false, .slice none 0 0, .bool false, .int .i64 0, .bool false, .slice none 0 0, .slice none 0 0, .int .i64 0, .int .i64 0, .slice none 0 0] : Array Value)[o]? := (bx_setC kR (show w.heap.size + 1 ≠ w.heap.size by omega))
  replace fR : ∀ o, (W4.setCell ⟨w.heap.size, 13, none⟩ (.slice none 0 0)).frozen? ⟨w.heap.size + 1, o, none⟩ = false := (fx_setC fR)
  replace HB : Hid (Below w.heap.size w (W4.setCell ⟨w.heap.size, 13, none⟩ (.slice none 0 0))) := (Below.setCell (p := ⟨w.heap.size, 13, none⟩) HB.out (Nat.le_refl _) (.slice none 0 0))
  replace HO5 : Hid (Own (W4.setCell ⟨w.heap.size, 13, none⟩ (.slice none 0 0)) (w.heap.size + 1 + 1) m5 u8s d5 [.slice b5 n5 d5c]) := Own.keep HO5.out (fun b h1 h2 => by repeat rw [Below.heap_setCell _ _ _ _ (by dsimp only; omega)])
  replace HO9 : Hid (Own (W4.setCell ⟨w.heap.size, 13, none⟩ (.slice none 0 0)) m5 m9 gtS (dn, ps, ()) [.slice q1 n9 p1, .slice q2 n10 p2]) := Own.keep HO9.out (fun b h1 h2 => by repeat rw [Below.heap_setCell _ _ _ _ (by dsimp only; omega)])
  have znW5 : W4.heap.size ≤ (W4.setCell ⟨w.heap.size, 13, none⟩ (.slice none 0 0)).heap.size := by simp
  generalize hWW5 : (W4.setCell ⟨w.heap.size, 13, none⟩ (.slice none 0 0)) = W5 at kA fA kR fR HB znW5 HO5 HO9 ⊢
  clear hWW5
  have hm9 : m9 ≤ W5.heap.size := Nat.le_trans znW4 znW5
  have hm59 : m5 ≤ m9 := Nat.le_trans zz1 zz3
  clear zz1 zz3 znW4 znW5
  go_upto_region 6 with fail
  go_loopw [19] (fun i wr => ∃ (k : Nat) (va : Option Addr) (vc : Nat), k ≤ n ∧ i = .int .i64 k ∧ (∀ o, wr.cell? ⟨w.heap.size + 1, o, none⟩ = (#[.int .i64 0, .int .i64 0, .int .i64 0, .bool false, .bool false, .slice none 0 0, .bool false, .int .i64 0, .bool false, .slice none 0 0, .slice none 0 0, .int .i64 0, .int .i64 0, .slice none 0 0] : Array Value)[o]?) ∧ (∀ o, wr.frozen? ⟨w.heap.size + 1, o, none⟩ = false) ∧ (∀ o, wr.cell? ⟨w.heap.size, o, none⟩ = (#[.int .i64 y0, .int .i64 y1, .int .i64 y2, .bool y3, .bool y4, .slice b5 n5 d5c, .bool y6, .int .i64 y7, .bool y8, .slice q1 n9 p1, .slice q2 n10 p2, .int .i64 y10, .int .i64 y11, .slice va k vc] : Array Value)[o]?) ∧ (∀ o, wr.frozen? ⟨w.heap.size, o, none⟩ = false) ∧ Hid (Own wr m9 wr.heap.size shSubsO (l.take k) [.slice va k vc]) ∧ Hid (Own wr (w.heap.size + 1 + 1) m5 u8s d5 [.slice b5 n5 d5c]) ∧ Hid (Own wr m5 m9 gtS (dn, ps, ()) [.slice q1 n9 p1, .slice q2 n10 p2]) ∧ Hid (Below w.heap.size w wr) ∧ m9 ≤ wr.heap.size) (fun i _ => n - (intOf i).toNat)
  case atStart => exact ⟨0, none, 0, Nat.zero_le _, rfl, kR, fR, kA, fA, own_subs0 _ _ _, HO5, HO9, HB, hm9⟩
  case round =>
    clear kR fR kA fA HO5 HO9 HB hm9
    obtain ⟨k, va, vc, hk, rfl, kR, fR, kA, fA, HO, HO5, HO9, HB, hm9⟩ := hrel
    by_cases hlt : k < n
    · have hkl : k < l.length := by have := HN.out; omega
      obtain ⟨b, off, cs, ha, hb, hlen, hrg, hrs, -⟩ := sub_at (HRd.out wr HB.out) k hkl
      subst ha
      have HTK : Hid (l.take (k + 1) = l.take k ++ [l[k]]) := List.take_succ_eq_append_getElem hkl
      have HLL : Hid ((l.take k).length = k) := by show _ = _; simp; omega
      have HCF : Hid (∀ W, Below wr.heap.size wr W → Calls Tryz.prog 171 #[.agg cs.toArray] W fun e w' => ∃ N : Array Value, e = .returned (.pointer (some ⟨W.heap.size, 0, none⟩)) ∧ (∀ o, w'.cell? ⟨W.heap.size, o, none⟩ = N[o]?) ∧ Own w' (W.heap.size + 1) w'.heap.size shSubO l[k] N.toList ∧ W.heap.size < w'.heap.size ∧ Below W.heap.size W w') := fun W hW => iCopySubA l[k] cs W B (Sh.Rd.below (s := shSub) hrs (Nat.le_trans hB HB.out.size) hW) (Nat.le_trans (Nat.le_trans hB HB.out.size) hW.size) (HSF.out k hkl)
      have HIX : Hid ((Tryz.prog.info? 145).map (·.size) = some cs.length) := by show _ = _; rw [hlen]; exact (by kernel_rfl : (Tryz.prog.info? 145).map (·.size) = some 16)
      have HIX2 : Hid ((Tryz.prog.info? 145).map (·.size) = some cs.toArray.size) := by show _ = _; rw [List.size_toArray]; exact HIX.out
      have HIX3 : Hid ((Tryz.prog.info? 145).map (·.size) = some cs.toArray.toList.length) := HIX
      have HONX : Hid (cs.toArray.all (·.oneCell') = true) := all_oneCell_toArray (rd_one _ _ _ hrs)
      have HLX : Hid (cs.toArray.size = 16) := by show _ = _; rw [List.size_toArray]; exact hlen
      have HG : Hid (wr.rangeAt b (off + k * 16) cs) := hrg
      have hbw : b < w.heap.size := by omega
      have hszw := HB.out.size
      clear hrs hlen hrg
      generalize l[k] = x at *
      have hk0 : (0 : Int) ≤ (k : Int) := by omega
      have hkn : (k : Int) < (n : Int) := by omega
      have HTX : Hid ((wr.alloc (.cells #[.int .i64 0, .int .i64 0, .bool false, .int .i64 0, .int .i64 0, .int .i64 0, .int .i64 0, .int .i64 0, .int .i64 0, .slice none 0 0, .int .i64 0, .int .i64 0, .slice none 0 0, .int .i64 0, .int .i64 0, .int .i64 0] 145)).there wr.heap.size 0 cs.toArray.size) := bx_there (bx_al _ _ _) (fx_al _ _ _) (by rw [HLX.out]; rfl)
      have HW3 : Hid (Below wr.heap.size wr ((wr.alloc (.cells #[.int .i64 0, .int .i64 0, .bool false, .int .i64 0, .int .i64 0, .int .i64 0, .int .i64 0, .int .i64 0, .int .i64 0, .slice none 0 0, .int .i64 0, .int .i64 0, .slice none 0 0, .int .i64 0, .int .i64 0, .int .i64 0] 145)).setCells wr.heap.size 0 cs.toArray.toList) ∧ wr.heap.size < ((wr.alloc (.cells #[.int .i64 0, .int .i64 0, .bool false, .int .i64 0, .int .i64 0, .int .i64 0, .int .i64 0, .int .i64 0, .int .i64 0, .slice none 0 0, .int .i64 0, .int .i64 0, .slice none 0 0, .int .i64 0, .int .i64 0, .int .i64 0] 145)).setCells wr.heap.size 0 cs.toArray.toList).heap.size ∧ (∀ o, ((wr.alloc (.cells #[.int .i64 0, .int .i64 0, .bool false, .int .i64 0, .int .i64 0, .int .i64 0, .int .i64 0, .int .i64 0, .int .i64 0, .slice none 0 0, .int .i64 0, .int .i64 0, .slice none 0 0, .int .i64 0, .int .i64 0, .int .i64 0] 145)).setCells wr.heap.size 0 cs.toArray.toList).cell? ⟨wr.heap.size, o, none⟩ = cs.toArray[o]?)) := ⟨setCells_below (Nat.le_refl _) _ _ _ _ ((Below.refl _ _).alloc (Nat.le_refl _) _), by rw [setCells_size]; simp, bx_setCells (bx_al wr _ _) (by rw [HLX.out]; rfl)⟩
      go_upto_region 8 with (first | (refine wpList_load_mid rfl 145 _ rfl _ _ (by rfl) cs _ HG.out Tryz.underlying145 rfl HIX.out ?_) | (refine wpList_store_mid rfl 145 _ _ rfl _ _ cs.toArray (by rfl) (by rfl) HTX.out HIX2.out HONX.out ?_))
      generalize hV : ((wr.alloc (.cells #[.int .i64 0, .int .i64 0, .bool false, .int .i64 0, .int .i64 0, .int .i64 0, .int .i64 0, .int .i64 0, .int .i64 0, .slice none 0 0, .int .i64 0, .int .i64 0, .slice none 0 0, .int .i64 0, .int .i64 0, .int .i64 0] 145)).setCells wr.heap.size 0 cs.toArray.toList) = V at HW3 ⊢
      clear hV HTX HG
      obtain ⟨hbV, hVz, kP⟩ := HW3.out
      clear HW3
      replace kR := bx_below kR (by omega) hbV
      replace fR := bxF fR hbV (by omega)
      replace kA := bx_below kA (by omega) hbV
      replace fA := bxF fA hbV (by omega)
      have HOV : Hid (Own V m9 wr.heap.size shSubsO (l.take k) [.slice va k vc]) := HO.out.below (Nat.le_refl _) hbV
      replace HO5 : Hid (Own V (w.heap.size + 1 + 1) m5 u8s d5 [.slice b5 n5 d5c]) := HO5.out.below (by omega) hbV
      replace HO9 : Hid (Own V m5 m9 gtS (dn, ps, ()) [.slice q1 n9 p1, .slice q2 n10 p2]) := HO9.out.below (by omega) hbV
      replace HB : Hid (Below w.heap.size w V) := HB.out.trans (hbV.mono HB.out.size)
      obtain ⟨pB, hpB⟩ : ∃ pB, pB = wr.heap.size := ⟨_, rfl⟩
      have HBV : Hid (Below wr.heap.size wr V) := hbV
      rw [← hpB] at hm9 kP hVz HOV hszw ⊢
      have HCG : Hid (∀ W, Below V.heap.size V W → Calls Tryz.prog 171 #[.agg cs.toArray] W fun e w' => ∃ N : Array Value, e = .returned (.pointer (some ⟨W.heap.size, 0, none⟩)) ∧ (∀ o, w'.cell? ⟨W.heap.size, o, none⟩ = N[o]?) ∧ Own w' (W.heap.size + 1) w'.heap.size shSubO x N.toList ∧ W.heap.size < w'.heap.size ∧ Below W.heap.size W w') := fun W hW => HCF.out W (HBV.out.trans (hW.mono (by omega)))
      clear hbV HBV hpB HO HCF
      obtain ⟨mm, hmm⟩ : ∃ mm, w.heap.size + mm = pB + 1 := ⟨pB + 1 - w.heap.size, by omega⟩
      have HS : Hid (SB2 w mm w.heap.size pB #[.int .i64 y0, .int .i64 y1, .int .i64 y2, .bool y3, .bool y4, .slice b5 n5 d5c, .bool y6, .int .i64 y7, .bool y8, .slice q1 n9 p1, .slice q2 n10 p2, .int .i64 y10, .int .i64 y11, .slice va k vc] cs.toArray V) := ⟨HB.out, by omega, kA, kP⟩
      clear kA kP
      refine wp_region_noPanic ?_
      refine Goes.start (S := SB2 w mm w.heap.size pB #[.int .i64 y0, .int .i64 y1, .int .i64 y2, .bool y3, .bool y4, .slice b5 n5 d5c, .bool y6, .int .i64 y7, .bool y8, .slice q1 n9 p1, .slice q2 n10 p2, .int .i64 y10, .int .i64 y11, .slice va k vc] cs.toArray) (z := 9) (by kernel_rfl) ?_
      refine Goes.take (i := 0) (oi := ?oi11) (x := ?vx11) ?ho11 (by kernel_rfl) (by kernel_rfl) (by kernel_rfl) (by kernel_rfl) (fun _ _ _ h => h) (Or.inl ⟨?hw11, ?hy11⟩) HS.out.drew ?rest11
      case ho11 => (simp only [List.getElem?_toArray, List.getElem?_cons_zero] <;> rfl)
      case hw11 => rfl
      case hy11 => (intro w' hSw; have j0 := hSw.k0; have j1 := hSw.k1; go_simp; (try with_reducible rfl))
      case rest11 =>
      (try simp only [Act.put, List.setIfInBounds_toArray, List.set_cons_zero, List.set_cons_succ])
      refine Goes.take (i := 1) (oi := ?oi12) (x := ?vx12) ?ho12 (by kernel_rfl) (by kernel_rfl) (by kernel_rfl) (by kernel_rfl) (fun _ _ _ h => h) (Or.inl ⟨?hw12, ?hy12⟩) HS.out.drew ?rest12
      case ho12 => (simp only [List.getElem?_toArray, List.getElem?_cons_succ, List.getElem?_cons_zero] <;> rfl)
      case hw12 => rfl
      case hy12 => (intro w' hSw; have j0 := hSw.k0; have j1 := hSw.k1; go_simp; (try with_reducible rfl))
      case rest12 =>
      (try simp only [Act.put, List.setIfInBounds_toArray, List.set_cons_zero, List.set_cons_succ])
      refine Goes.take (i := 2) (oi := ?oi13) (x := .agg (cs.toArray.toList).toArray) ?ho13 (by kernel_rfl) (by kernel_rfl) (by kernel_rfl) (by kernel_rfl) (fun _ _ _ h => h) ?hy13 HS.out.drew ?rest13
      case ho13 => (simp only [List.getElem?_toArray, List.getElem?_cons_succ, List.getElem?_cons_zero] <;> rfl)
      case hy13 => exact yieldsIf_load_mid (by rfl) 145 _ rfl (pB) (0) (by rfl) (cs.toArray.toList) _ (fun w' hSw => bx_range hSw.k1) Tryz.underlying145 rfl HIX3.out
      case rest13 =>
      (try simp only [Act.put, List.setIfInBounds_toArray, List.set_cons_zero, List.set_cons_succ])
      refine Goes.all (rs := [3]) (by kernel_rfl) (by simp) ?_
      refine Ups.cons (i := 3) (o := ?oo14) ?ho14 (fun KK hKK => ?stp14) Ups.nil
      case ho14 => (simp only [List.getElem?_toArray, List.getElem?_cons_succ, List.getElem?_cons_zero] <;> rfl)
      case stp14 =>
      go_simp
      go_at_call 171
      refine (HCG.out _ (Below.drew (Below.refl _ _))).mono ?_
      rintro e w2 ⟨N, rfl, kN, ho2, hz2', hbq⟩
      have HS6 : Hid (SB2 w mm w.heap.size pB #[.int .i64 y0, .int .i64 y1, .int .i64 y2, .bool y3, .bool y4, .slice b5 n5 d5c, .bool y6, .int .i64 y7, .bool y8, .slice q1 n9 p1, .slice q2 n10 p2, .int .i64 y10, .int .i64 y11, .slice va k vc] cs.toArray w2) := SB2.below HS.out.drew hbq (by omega) (by omega)
      replace hbq := (Below.drew (Below.refl V.heap.size V)).trans hbq
      replace kN : ∀ o, w2.cell? ⟨V.heap.size, o, none⟩ = N[o]? := kN
      have hz2 : V.heap.size < w2.heap.size := hz2'
      have HE1 : Hid (Own w2 (V.heap.size + 1) w2.heap.size shSubO x N.toList) := ho2
      have hNz : N.size = 16 := rd_size (s := shSubO) (ho2.rd (Nat.le_refl _))
      have HIN : Hid ((Tryz.prog.info? 145).map (·.size) = some N.toList.length) := by show _ = _; rw [Array.length_toList, hNz]; exact (by kernel_rfl : (Tryz.prog.info? 145).map (·.size) = some 16)
      have HNZ : Hid (N.size = 16) := hNz
      have HKN : Hid (w2.rangeAt V.heap.size 0 N.toList) := bx_range kN
      have HOW : Hid (Own w2 m9 pB shSubsO (l.take k) [.slice va k vc]) := HOV.out.below (by omega) hbq
      replace HO5 : Hid (Own w2 (w.heap.size + 1 + 1) m5 u8s d5 [.slice b5 n5 d5c]) := HO5.out.below (by omega) hbq
      replace HO9 : Hid (Own w2 m5 m9 gtS (dn, ps, ()) [.slice q1 n9 p1, .slice q2 n10 p2]) := HO9.out.below (by omega) hbq
      replace kR := bx_below kR (by omega) hbq
      replace fR := bxF fR hbq (by omega)
      replace fA := bxF fA hbq (by omega)
      clear ho2 hbq HOV HCG kN hNz hz2'
      dsimp only
      refine hKK.out _ _ (Or.inr HS6.out) ?_
      clear hKK KK
      (try simp only [Act.put, List.setIfInBounds_toArray, List.set_cons_zero, List.set_cons_succ])
      refine Goes.take (i := 4) (oi := ?oi15) (x := ?vx15) ?ho15 (by kernel_rfl) (by kernel_rfl) (by kernel_rfl) (by kernel_rfl) (fun _ _ _ h => h) (Or.inl ⟨?hw15, ?hy15⟩) HS6.out ?rest15
      case ho15 => (simp only [List.getElem?_toArray, List.getElem?_cons_succ, List.getElem?_cons_zero] <;> rfl)
      case hw15 => rfl
      case hy15 => (intro w' hSw; have j0 := hSw.k0; have j1 := hSw.k1; go_simp; (try with_reducible rfl))
      case rest15 =>
      (try simp only [Act.put, List.setIfInBounds_toArray, List.set_cons_zero, List.set_cons_succ])
      refine Goes.all (rs := [5]) (by kernel_rfl) (by simp) ?_
      refine Ups.cons (i := 5) (o := ?oo16) ?ho16 (fun KK hKK => ?stp16) Ups.nil
      case ho16 => (simp only [List.getElem?_toArray, List.getElem?_cons_succ, List.getElem?_cons_zero] <;> rfl)
      case stp16 =>
      rw [if_pos (by rfl)]
      refine wp_load_mid 145 _ rfl _ _ (by rfl) N.toList _ HKN.out Tryz.underlying145 rfl HIN.out ?_
      refine hKK.out _ _ (Or.inr HS6.out) ?_
      clear hKK KK
      (try simp only [Act.put, List.setIfInBounds_toArray, List.set_cons_zero, List.set_cons_succ])
      obtain ⟨n_0, n_1, n_2, n_3, n_4, n_5, n_6, n_7, n_8, n_9, n_10, n_11, n_12, n_13, n_14, n_15, hN⟩ := arr16 HNZ.out
      subst hN
      refine Goes.all (rs := [6]) (by kernel_rfl) (by simp) ?_
      refine Ups.cons (i := 6) (o := ?oo17) ?ho17 (fun KK hKK => ?stp17) Ups.nil
      case ho17 => (simp only [List.getElem?_toArray, List.getElem?_cons_succ, List.getElem?_cons_zero] <;> rfl)
      case stp17 =>
      go_simp
      refine hKK.out _ _ (Or.inr (SB2.alloc HS6.out _ (by omega) (by omega))) ?_
      clear hKK KK
      (try simp only [Act.put, List.setIfInBounds_toArray, List.set_cons_zero, List.set_cons_succ])
      refine Goes.all (rs := [7]) (by kernel_rfl) (by simp) ?_
      refine Ups.cons (i := 7) (o := ?oo18) ?ho18 (fun KK hKK => ?stp18) Ups.nil
      case ho18 => (simp only [List.getElem?_toArray, List.getElem?_cons_succ, List.getElem?_cons_zero] <;> rfl)
      case stp18 =>
      refine app_elem_st w2 (by rfl) _ _ 37 145 (by rfl) shSubO (.agg #[.int .i64 0, .int .i64 0, .bool false, .int .i64 0, .int .i64 0, .int .i64 0, .int .i64 0, .int .i64 0, .int .i64 0, .slice none 0 0, .int .i64 0, .int .i64 0, .slice none 0 0, .int .i64 0, .int .i64 0, .int .i64 0]) 160 Tryz.underlying37 info_S16 rfl (by decide) (by decide) m9 pB (V.heap.size + 1) w2.heap.size (l.take k) (.slice va k vc) (by rfl) w2.heap.size rfl (by rfl) HOW.out x [n_0, n_1, n_2, n_3, n_4, n_5, n_6, n_7, n_8, n_9, n_10, n_11, n_12, n_13, n_14, n_15] HE1.out hm9 (by omega) (Nat.le_refl _) (by have := HLL.out; omega) (by omega) ?_
      intro v3 w3' ho3 hb3 hk3 hs3
      obtain ⟨va3, vc3, hv3⟩ := row_form (ho3.rd (Nat.le_refl _))
      simp only [List.cons.injEq, and_true, List.length_append, List.length_cons, List.length_nil, HLL.out] at hv3
      subst hv3
      have HO3 : Hid (Own w3' m9 w3'.heap.size shSubsO (l.take (k + 1)) [.slice va3 (k + 1) vc3]) := by rw [HTK.out]; exact ho3
      have hno : (Value.slice va k vc).ownBlock ≠ some pB := fun e => by have := HOW.out.blk e; omega
      have HS9 : Hid (SB2 w mm w.heap.size pB #[.int .i64 y0, .int .i64 y1, .int .i64 y2, .bool y3, .bool y4, .slice b5 n5 d5c, .bool y6, .int .i64 y7, .bool y8, .slice q1 n9 p1, .slice q2 n10 p2, .int .i64 y10, .int .i64 y11, .slice va k vc] cs.toArray w3') := ⟨HS6.out.bl.trans (hb3.mono (by omega)), Nat.le_trans HS6.out.sz (Nat.le_of_lt hs3), bxC HS6.out.k0 hb3 (show w.heap.size < m9 by omega), fun o => (World.cell?_of_block (hk3 pB (by have := HS6.out.sz; omega) hno)).trans (HS6.out.k1 o)⟩
      replace HO5 : Hid (Own w3' (w.heap.size + 1 + 1) m5 u8s d5 [.slice b5 n5 d5c]) := HO5.out.below (show m5 ≤ m9 by omega) hb3
      replace HO9 : Hid (Own w3' m5 m9 gtS (dn, ps, ()) [.slice q1 n9 p1, .slice q2 n10 p2]) := HO9.out.below (Nat.le_refl _) hb3
      replace kR := bxC kR hb3 (show w.heap.size + 1 < m9 by omega)
      replace fR := fxC fR hb3 (show w.heap.size + 1 < m9 by omega)
      replace fA := fxC fA hb3 (show w.heap.size < m9 by omega)
      have hz3 : m9 ≤ w3'.heap.size := by omega
      clear ho3 hb3 hk3 HOW HE1 hs3
      refine hKK.out _ _ (Or.inr HS9.out) ?_
      clear hKK KK
      (try simp only [Act.put, List.setIfInBounds_toArray, List.set_cons_zero, List.set_cons_succ])
      refine Goes.take (i := 8) (oi := ?oi19) (x := ?vx19) ?ho19 (by kernel_rfl) (by kernel_rfl) (by kernel_rfl) (by kernel_rfl) (fun _ _ _ h => h) (Or.inl ⟨?hw19, ?hy19⟩) HS9.out ?rest19
      case ho19 => (simp only [List.getElem?_toArray, List.getElem?_cons_succ, List.getElem?_cons_zero] <;> rfl)
      case hw19 => rfl
      case hy19 => (intro w' hSw; have j0 := hSw.k0; have j1 := hSw.k1; go_simp; (try with_reducible rfl))
      case rest19 =>
      (try simp only [Act.put, List.setIfInBounds_toArray, List.set_cons_zero, List.set_cons_succ])
      refine Goes.all (rs := [9]) (by kernel_rfl) (by simp) ?_
      refine Ups.cons (i := 9) (o := ?oo20) ?ho20 (fun KK hKK => ?stp20) Ups.nil
      case ho20 => (simp only [List.getElem?_toArray, List.getElem?_cons_succ, List.getElem?_cons_zero] <;> rfl)
      case stp20 =>
      have kA := HS9.out.k0
      go_simp
      refine hKK.out _ _ (Or.inl rfl) ?_
      clear hKK KK
      (try simp only [Act.put])
      refine Goes.done (by kernel_rfl) ?_ _
      refine NoPanic.normal ?_
      go_wp2_with fail
      replace kA := bx_put kA (k := 13) (v := .slice va3 (k + 1) vc3) (by simp)
      simp only [List.setIfInBounds_toArray, List.set_cons_zero, List.set_cons_succ] at kA
      go_roundw
      case rel => exact ⟨k + 1, va3, vc3, by omega, by go_num, bx_setC kR (show w.heap.size + 1 ≠ w.heap.size by omega), fx_setC fR, kA, fx_setC fA, Own.mono (Own.keep HO3.out fun b h1 h2 => Below.heap_setCell _ _ _ _ (by dsimp only; omega)) (Nat.le_refl _) (by simp), Own.keep HO5.out (fun b h1 h2 => Below.heap_setCell _ _ _ _ (by dsimp only; omega)), Own.keep HO9.out (fun b h1 h2 => Below.heap_setCell _ _ _ _ (by dsimp only; omega)), Below.setCell (p := ⟨w.heap.size, 13, none⟩) HS9.out.bl (Nat.le_refl _) _, by simp; omega⟩
      case measure => simp [intOf]; omega
    · obtain rfl : k = n := by omega
      have HO2 : Hid (Own wr m9 wr.heap.size shSubsO l [.slice va k vc]) := by have h := HO.out; rw [← HN.out, List.take_length] at h; rw [← HN.out]; exact h
      have hszw := HB.out.size
      obtain ⟨N, hN⟩ : ∃ N : Array Value, N = #[.int .i64 y0, .int .i64 y1, .int .i64 y2, .bool y3, .bool y4, .slice b5 n5 d5c, .bool y6, .int .i64 y7, .bool y8, .slice q1 n9 p1, .slice q2 n10 p2, .int .i64 y10, .int .i64 y11, .slice va k vc] := ⟨_, rfl⟩
      have hNz : N.size = 14 := by rw [hN]; rfl
      have HIN : Hid ((Tryz.prog.info? 39).map (·.size) = some N.size) := by show _ = _; rw [hNz]; exact (by kernel_rfl : (Tryz.prog.info? 39).map (·.size) = some 14)
      have HIN' : Hid ((Tryz.prog.info? 39).map (·.size) = some N.toList.length) := by show _ = _; rw [Array.length_toList]; exact HIN.out
      have HONE : Hid (N.all (·.oneCell') = true) := by show _ = _; rw [hN]; simp [Value.oneCell']
      have HRES : Hid (CopP wr (w.heap.size + 1 + 1) (y0, y1, y2, y3, y4, d5, y6, y7, y8, (dn, ps, ()), y10, y11, l, ()) N) := ⟨_, _, _, _, _, _, hN, HO5.out, HO9.out, HO2.out, by omega, by omega, by omega, HWF.out⟩
      have HTH : Hid (wr.there (w.heap.size + 1) 0 N.size) := bx_there kR fR (by rw [hNz]; rfl)
      rw [← hN] at kA
      have HKR : Hid (∀ o, (wr.setCells (w.heap.size + 1) 0 N.toList).cell? ⟨w.heap.size + 1, o, none⟩ = N[o]?) := bx_setCells kR (by rw [hNz]; rfl)
      clear hN hNz HO HO2 HO5 HO9 kR fR
      go_wp2_with (first | (refine wpList_load_mid rfl 39 _ rfl _ _ (by rfl) N.toList _ (bx_range kA) Tryz.underlying39 rfl HIN'.out ?_) | (refine wpList_store_mid rfl 39 _ _ rfl _ _ N (by rfl) (by rfl) HTH.out HIN.out HONE.out ?_))
      refine bodyPost_ret (results_box Tryz.results123 _ _ _ N _ (by rfl) HKR.out Tryz.underlying39 rfl (by exact HIN.out)) rfl ⟨N, rfl, ?_, ?_⟩
      · exact CopP.keep HRES.out (by omega) (fun b hb => setCells_block (by omega) _ _ _) (by rw [setCells_size])
      · exact setCells_below (by omega) _ _ _ _ HB.out
theorem iCopyConn (c : DConn) (A : Array Value) (w : World) (B : Nat) (hr : shConn.Rd w B c A.toList) (hB : B ≤ w.heap.size) (hT : totConn c ≤ 1048576) (hF : connF c = 0) :
    Calls Tryz.prog 123 #[.agg A] w fun e w' => ∃ N : Array Value, e = .returned (.agg N) ∧ Own w' w.heap.size w'.heap.size shConnO c N.toList ∧ Below w.heap.size w w' :=
  (iCopyConnS c A w B hr hB hT hF).mono (by rintro e w' ⟨N, rfl, h, hb⟩; exact ⟨N, rfl, h.own, hb⟩)
theorem own_subs1 (W : World) : Own (W.alloc (.cells #[] 145)) W.heap.size (W.heap.size + 1) shSubsO [] [.slice (some ⟨W.heap.size, 0, none⟩) 0 0] :=
  Own.row_of (e := shSubO) (l := []) (xs := []) (World.ownsRow_made W #[] 0 (Nat.le_refl _) (by decide) (by simp)) (fun b hb => by simp [Value.ownBlock] at hb; omega) [] rfl (by simp) (by simp) (fun i hi => absurd hi (by simp))
set_option maxHeartbeats 8000000 in
theorem sL9CopyS (c : DConn) (A : Array Value) (w : World) (B : Nat) (hr : shConn.Rd w B c A.toList) (hB : B ≤ w.heap.size) (hT : totConn c ≤ 1048576) (hF : connF c = 0) :
    Calls Tryz.prog 116 #[.agg A] w fun e w' => ∃ N : Array Value, e = .returned (.agg N) ∧ CopP w' w.heap.size c N ∧ Below w.heap.size w w' := by
  have hok := conn_ok hF
  have hgf : gtFault c.inn = 0 := hok.2.2.2.2.1
  have hsf : subsF c.subs = 0 := hok.2.2.2.2.2.2.2.2.1
  clear hok hF
  obtain ⟨y0, y1, y2, y3, y4, d5, y6, y7, y8, ⟨dn, ps, ⟨⟩⟩, y10, y11, l, ⟨⟩⟩ := c
  obtain ⟨a5, c5, a9, c9, a9', c9', a12, c12, eA, r5, r9, r12, hwf⟩ := rd_Conn hr
  have hT2 : d5.length + (dn.length + pcsTot ps) + totSubs l ≤ 1048576 := hT
  have h40 : ps.length ≤ 1000 := by have h : ps.length ≤ 40 := (gt_in hgf).2.1; omega
  obtain ⟨sa5, sc5, es5, rb5, hnil5, -⟩ := rd_bytes r5
  simp only [List.cons.injEq, Value.slice.injEq, and_true, true_and] at es5
  obtain ⟨rfl, rfl⟩ := es5
  have HSF : Hid (∀ k (hk : k < l.length), subF l[k] = 0) := fun k hk => subs_ok9 l [] hsf k hk
  have hl1 : l.length ≤ 1048576 := by unfold totSubs at hT2; omega
  have h51 : d5.length ≤ 1048576 := by omega
  have HGC : Hid (∀ W, Below w.heap.size w W → Calls Tryz.prog 162 #[.agg #[.slice a9 dn.length c9, .slice a9' ps.length c9']] W fun e w' => ∃ u1 u2, e = .returned (.agg #[u1, u2]) ∧ Own w' W.heap.size w'.heap.size gtS (dn, ps, ()) [u1, u2] ∧ Below W.heap.size W w') := fun W hW => sL3Copy (dn, ps, ()) _ _ W B (Sh.Rd.below r9 hB hW) (Nat.le_trans hB hW.size) (by show dn.length + pcsTot ps ≤ _; omega) h40
  have HRB : Hid (∀ W, Below w.heap.size w W → RB W a5 d5) := fun W hW => rb5.below (Nat.le_refl _) hW
  have HNI : Hid _ := hnil5
  have HWF : Hid _ := hwf
  obtain ⟨n, hn⟩ : ∃ n, l.length = n := ⟨_, rfl⟩
  have HN : Hid (l.length = n) := hn
  have HRd : Hid (∀ W, Below w.heap.size w W → shSubs.Rd W B l [.slice a12 n c12]) := fun W hW => by have h := Sh.Rd.below (s := shSubs) r12 hB hW; rw [← hn]; exact h
  obtain ⟨n5, h5n⟩ : ∃ n5, d5.length = n5 := ⟨_, rfl⟩
  have HN5 : Hid (d5.length = n5) := h5n
  have eA2 : A = #[.int .i64 y0, .int .i64 y1, .int .i64 y2, .bool y3, .bool y4, .slice a5 n5 c5, .bool y6, .int .i64 y7, .bool y8, .slice a9 dn.length c9, .slice a9' ps.length c9', .int .i64 y10, .int .i64 y11, .slice a12 n c12] := by rw [arr_of eA, hn, h5n]
  rw [hn] at hl1
  rw [h5n] at h51
  subst eA2
  clear hr eA r5 r9 r12 rb5 hnil5 hT hT2 hgf hsf hwf hn h5n h40
  obtain ⟨n9, hn9⟩ : ∃ n9, dn.length = n9 := ⟨_, rfl⟩
  obtain ⟨n10, hn10⟩ : ∃ n10, ps.length = n10 := ⟨_, rfl⟩
  have HN9 : Hid (dn.length = n9) := hn9
  have HN10 : Hid (ps.length = n10) := hn10
  rw [hn9, hn10] at HGC ⊢
  clear hn9 hn10
  have HWA : Hid ((∀ o, ((w.alloc (.cells #[.int .i64 y0, .int .i64 y1, .int .i64 y2, .bool y3, .bool y4, .slice a5 n5 c5, .bool y6, .int .i64 y7, .bool y8, .slice a9 n9 c9, .slice a9' n10 c9', .int .i64 y10, .int .i64 y11, .slice a12 n c12] 39)).alloc (.cells #[.int .i64 0, .int .i64 0, .int .i64 0, .bool false, .bool false, .slice none 0 0, .bool false, .int .i64 0, .bool false, .slice none 0 0, .slice none 0 0, .int .i64 0, .int .i64 0, .slice none 0 0] 39)).cell? ⟨w.heap.size, o, none⟩ = (#[.int .i64 y0, .int .i64 y1, .int .i64 y2, .bool y3, .bool y4, .slice a5 n5 c5, .bool y6, .int .i64 y7, .bool y8, .slice a9 n9 c9, .slice a9' n10 c9', .int .i64 y10, .int .i64 y11, .slice a12 n c12] : Array Value)[o]?) ∧ (∀ o, ((w.alloc (.cells #[.int .i64 y0, .int .i64 y1, .int .i64 y2, .bool y3, .bool y4, .slice a5 n5 c5, .bool y6, .int .i64 y7, .bool y8, .slice a9 n9 c9, .slice a9' n10 c9', .int .i64 y10, .int .i64 y11, .slice a12 n c12] 39)).alloc (.cells #[.int .i64 0, .int .i64 0, .int .i64 0, .bool false, .bool false, .slice none 0 0, .bool false, .int .i64 0, .bool false, .slice none 0 0, .slice none 0 0, .int .i64 0, .int .i64 0, .slice none 0 0] 39)).frozen? ⟨w.heap.size, o, none⟩ = false) ∧ (∀ o, ((w.alloc (.cells #[.int .i64 y0, .int .i64 y1, .int .i64 y2, .bool y3, .bool y4, .slice a5 n5 c5, .bool y6, .int .i64 y7, .bool y8, .slice a9 n9 c9, .slice a9' n10 c9', .int .i64 y10, .int .i64 y11, .slice a12 n c12] 39)).alloc (.cells #[.int .i64 0, .int .i64 0, .int .i64 0, .bool false, .bool false, .slice none 0 0, .bool false, .int .i64 0, .bool false, .slice none 0 0, .slice none 0 0, .int .i64 0, .int .i64 0, .slice none 0 0] 39)).cell? ⟨w.heap.size + 1, o, none⟩ = (#[.int .i64 0, .int .i64 0, .int .i64 0, .bool false, .bool false, .slice none 0 0, .bool false, .int .i64 0, .bool false, .slice none 0 0, .slice none 0 0, .int .i64 0, .int .i64 0, .slice none 0 0] : Array Value)[o]?) ∧ (∀ o, ((w.alloc (.cells #[.int .i64 y0, .int .i64 y1, .int .i64 y2, .bool y3, .bool y4, .slice a5 n5 c5, .bool y6, .int .i64 y7, .bool y8, .slice a9 n9 c9, .slice a9' n10 c9', .int .i64 y10, .int .i64 y11, .slice a12 n c12] 39)).alloc (.cells #[.int .i64 0, .int .i64 0, .int .i64 0, .bool false, .bool false, .slice none 0 0, .bool false, .int .i64 0, .bool false, .slice none 0 0, .slice none 0 0, .int .i64 0, .int .i64 0, .slice none 0 0] 39)).frozen? ⟨w.heap.size + 1, o, none⟩ = false) ∧ Below w.heap.size w ((w.alloc (.cells #[.int .i64 y0, .int .i64 y1, .int .i64 y2, .bool y3, .bool y4, .slice a5 n5 c5, .bool y6, .int .i64 y7, .bool y8, .slice a9 n9 c9, .slice a9' n10 c9', .int .i64 y10, .int .i64 y11, .slice a12 n c12] 39)).alloc (.cells #[.int .i64 0, .int .i64 0, .int .i64 0, .bool false, .bool false, .slice none 0 0, .bool false, .int .i64 0, .bool false, .slice none 0 0, .slice none 0 0, .int .i64 0, .int .i64 0, .slice none 0 0] 39)) ∧ w.heap.size + 1 < ((w.alloc (.cells #[.int .i64 y0, .int .i64 y1, .int .i64 y2, .bool y3, .bool y4, .slice a5 n5 c5, .bool y6, .int .i64 y7, .bool y8, .slice a9 n9 c9, .slice a9' n10 c9', .int .i64 y10, .int .i64 y11, .slice a12 n c12] 39)).alloc (.cells #[.int .i64 0, .int .i64 0, .int .i64 0, .bool false, .bool false, .slice none 0 0, .bool false, .int .i64 0, .bool false, .slice none 0 0, .slice none 0 0, .int .i64 0, .int .i64 0, .slice none 0 0] 39)).heap.size) := ⟨fun o => by simp [go_sem], fun o => by simp [go_sem], fun o => by simp [go_sem], fun o => by simp [go_sem], ((Below.refl _ _).alloc (Nat.le_refl _) _).alloc (by simp) _, by simp⟩
  go_enter Tryz.func116, Tryz.ntmps116
  go_upto_region 1 with fail
  generalize hWA : ((w.alloc (.cells #[.int .i64 y0, .int .i64 y1, .int .i64 y2, .bool y3, .bool y4, .slice a5 n5 c5, .bool y6, .int .i64 y7, .bool y8, .slice a9 n9 c9, .slice a9' n10 c9', .int .i64 y10, .int .i64 y11, .slice a12 n c12] 39)).alloc (.cells #[.int .i64 0, .int .i64 0, .int .i64 0, .bool false, .bool false, .slice none 0 0, .bool false, .int .i64 0, .bool false, .slice none 0 0, .slice none 0 0, .int .i64 0, .int .i64 0, .slice none 0 0] 39)) = WA at HWA ⊢
  clear hWA
  obtain ⟨kA, fA, kR, fR, hbA, zA⟩ := HWA.out
  have HB : Hid (Below w.heap.size w WA) := hbA
  clear HWA hbA
  have kA0 : ∀ o, (WA.alloc (.cells #[] 5)).cell? ⟨w.heap.size, o, none⟩ = (#[.int .i64 y0, .int .i64 y1, .int .i64 y2, .bool y3, .bool y4, .slice a5 n5 c5, .bool y6, .int .i64 y7, .bool y8, .slice a9 n9 c9, .slice a9' n10 c9', .int .i64 y10, .int .i64 y11, .slice a12 n c12] : Array Value)[o]? := bx_below kA (by omega) ((Below.refl _ _).alloc (Nat.le_refl _) _)
  go_upto_region 2 with (at_builtin; refine app_pl (WA.alloc (.cells #[] 5)) rfl _ _ 22 22 rfl Tryz.underlying22 Tryz.underlying22 WA.heap.size (.slice (some ⟨WA.heap.size, 0, none⟩) 0 0) [] (by rfl) (ob_made9 WA WA.heap.size (Nat.le_refl _)) a5 d5 n5 c5 HN5.out (by rfl) (HRB.out _ (HB.out.alloc HB.out.size _)) HNI.out (by simp; omega) (by simp) ?_; intro v1 w1 ho1 hb1 hg1 hat1; obtain ⟨b5, d5c, hv1, -, -⟩ := ho1.rbn; rw [List.nil_append, HN5.out] at hv1; subst hv1; have hbq : Below WA.heap.size WA w1 := (show Below WA.heap.size WA (WA.alloc (.cells #[] 5)) from (Below.refl _ _).alloc (Nat.le_refl _) _).trans hb1; have z0 : w.heap.size + 1 < w1.heap.size := Nat.lt_of_lt_of_le zA hbq.size; have HO5 : Hid (Own w1 (w.heap.size + 1 + 1) w1.heap.size u8s d5 [.slice b5 n5 d5c]) := (by have h := own_bytes ho1 (Nat.le_refl _); rw [List.nil_append] at h; exact Own.mono h zA (Nat.le_refl _)); replace kA := bx_below kA (by omega) hbq; replace fA := bxF fA hbq (by omega); replace kR := bx_below kR zA hbq; replace fR := bxF fR hbq zA; replace HB : Hid (Below w.heap.size w w1) := HB.out.trans (hbq.mono HB.out.size); clear ho1 hb1 hg1 hat1 hbq kA0 zA)
  replace kA := bx_put kA (k := 5) (v := .slice b5 n5 d5c) (by simp)
  simp only [List.setIfInBounds_toArray, List.set_cons_zero, List.set_cons_succ] at kA
  replace fA : ∀ o, (w1.setCell ⟨w.heap.size, 5, none⟩ (.slice b5 n5 d5c)).frozen? ⟨w.heap.size, o, none⟩ = false := fx_setC fA
  replace kR : ∀ o, (w1.setCell ⟨w.heap.size, 5, none⟩ (.slice b5 n5 d5c)).cell? ⟨w.heap.size + 1, o, none⟩ = (#[.int .i64 0, .int .i64 0, .int .i64 0, .bool false, .bool false, .slice none 0 0, .bool false, .int .i64 0, .bool false, .slice none 0 0, .slice none 0 0, .int .i64 0, .int .i64 0, .slice none 0 0] : Array Value)[o]? := bx_setC kR (by omega)
  replace fR : ∀ o, (w1.setCell ⟨w.heap.size, 5, none⟩ (.slice b5 n5 d5c)).frozen? ⟨w.heap.size + 1, o, none⟩ = false := fx_setC fR
  replace HO5 : Hid (Own (w1.setCell ⟨w.heap.size, 5, none⟩ (.slice b5 n5 d5c)) (w.heap.size + 1 + 1) w1.heap.size u8s d5 [.slice b5 n5 d5c]) := Own.keep HO5.out (fun b h1 h2 => Below.heap_setCell _ _ _ _ (by dsimp only; omega))
  replace HB : Hid (Below w.heap.size w (w1.setCell ⟨w.heap.size, 5, none⟩ (.slice b5 n5 d5c))) := Below.setCell (p := ⟨w.heap.size, 5, none⟩) HB.out (Nat.le_refl _) _
  have zz1 : w1.heap.size ≤ (w1.setCell ⟨w.heap.size, 5, none⟩ (.slice b5 n5 d5c)).heap.size := by simp
  generalize hW2 : w1.setCell ⟨w.heap.size, 5, none⟩ (.slice b5 n5 d5c) = W2 at kA fA kR fR HO5 HB zz1 ⊢
  clear hW2
  obtain ⟨m5, hm5⟩ : ∃ m5, m5 = w1.heap.size := ⟨_, rfl⟩
  rw [← hm5] at z0 HO5 zz1
  clear hm5
  go_wp2_with fail
  refine (HGC.out _ HB.out).mono ?_
  rintro e w3 ⟨g1, g2, rfl, ho9, hb3⟩
  obtain ⟨q1, p1, q2, p2, eg, -, -⟩ := rd_gt (ho9.rd (Nat.le_refl _))
  replace eg : [g1, g2] = [Value.slice q1 dn.length p1, Value.slice q2 ps.length p2] := eg
  rw [HN9.out, HN10.out] at eg
  simp only [List.cons.injEq, and_true] at eg
  obtain ⟨rfl, rfl⟩ := eg
  replace kA := bx_below kA (by omega) hb3
  replace fA := bxF fA hb3 (by omega)
  replace kR := bx_below kR (by omega) hb3
  replace fR := bxF fR hb3 (by omega)
  replace HO5 : Hid (Own w3 (w.heap.size + 1 + 1) m5 u8s d5 [.slice b5 n5 d5c]) := HO5.out.below (by omega) hb3
  have HO9 : Hid (Own w3 m5 w3.heap.size gtS (dn, ps, ()) [.slice q1 n9 p1, .slice q2 n10 p2]) := Own.mono ho9 (by omega) (Nat.le_refl _)
  have zz3 := hb3.size
  replace HB : Hid (Below w.heap.size w w3) := HB.out.trans (hb3.mono HB.out.size)
  clear ho9 hb3 HGC
  go_upto_region 3 with fail
  replace kA := (bx_put (bx_put kA (k := 9) (v := .slice q1 n9 p1) (by simp)) (k := 10) (v := .slice q2 n10 p2) (by simp))
  simp only [List.setIfInBounds_toArray, List.set_cons_zero, List.set_cons_succ] at kA
  replace fA : ∀ o, ((w3.setCell ⟨w.heap.size, 9, none⟩ (.slice q1 n9 p1)).setCell ⟨w.heap.size, 10, none⟩ (.slice q2 n10 p2)).frozen? ⟨w.heap.size, o, none⟩ = false := (fx_setC (fx_setC fA))
  replace kR : ∀ o, ((w3.setCell ⟨w.heap.size, 9, none⟩ (.slice q1 n9 p1)).setCell ⟨w.heap.size, 10, none⟩ (.slice q2 n10 p2)).cell? ⟨w.heap.size + 1, o, none⟩ = (#[.int .i64 0, .int .i64 0, .int .i64 0, .bool false, .bool false, .slice none 0 0, .bool false, .int .i64 0, .bool false, .slice none 0 0, .slice none 0 0, .int .i64 0, .int .i64 0, .slice none 0 0] : Array Value)[o]? := (bx_setC (bx_setC kR (show w.heap.size + 1 ≠ w.heap.size by omega)) (show w.heap.size + 1 ≠ w.heap.size by omega))
  replace fR : ∀ o, ((w3.setCell ⟨w.heap.size, 9, none⟩ (.slice q1 n9 p1)).setCell ⟨w.heap.size, 10, none⟩ (.slice q2 n10 p2)).frozen? ⟨w.heap.size + 1, o, none⟩ = false := (fx_setC (fx_setC fR))
  replace HB : Hid (Below w.heap.size w ((w3.setCell ⟨w.heap.size, 9, none⟩ (.slice q1 n9 p1)).setCell ⟨w.heap.size, 10, none⟩ (.slice q2 n10 p2))) := (Below.setCell (p := ⟨w.heap.size, 10, none⟩) (Below.setCell (p := ⟨w.heap.size, 9, none⟩) HB.out (Nat.le_refl _) (.slice q1 n9 p1)) (Nat.le_refl _) (.slice q2 n10 p2))
  replace HO5 : Hid (Own ((w3.setCell ⟨w.heap.size, 9, none⟩ (.slice q1 n9 p1)).setCell ⟨w.heap.size, 10, none⟩ (.slice q2 n10 p2)) (w.heap.size + 1 + 1) m5 u8s d5 [.slice b5 n5 d5c]) := Own.keep HO5.out (fun b h1 h2 => by repeat rw [Below.heap_setCell _ _ _ _ (by dsimp only; omega)])
  replace HO9 : Hid (Own ((w3.setCell ⟨w.heap.size, 9, none⟩ (.slice q1 n9 p1)).setCell ⟨w.heap.size, 10, none⟩ (.slice q2 n10 p2)) m5 w3.heap.size gtS (dn, ps, ()) [.slice q1 n9 p1, .slice q2 n10 p2]) := Own.keep HO9.out (fun b h1 h2 => by repeat rw [Below.heap_setCell _ _ _ _ (by dsimp only; omega)])
  have znW4 : w3.heap.size ≤ ((w3.setCell ⟨w.heap.size, 9, none⟩ (.slice q1 n9 p1)).setCell ⟨w.heap.size, 10, none⟩ (.slice q2 n10 p2)).heap.size := by simp
  generalize hWW4 : ((w3.setCell ⟨w.heap.size, 9, none⟩ (.slice q1 n9 p1)).setCell ⟨w.heap.size, 10, none⟩ (.slice q2 n10 p2)) = W4 at kA fA kR fR HB znW4 HO5 HO9 ⊢
  clear hWW4
  obtain ⟨m9, hm9⟩ : ∃ m9, m9 = w3.heap.size := ⟨_, rfl⟩
  rw [← hm9] at zz3 znW4 HO9
  clear hm9
  have HW5 : Hid (Below W4.heap.size W4 (W4.alloc (.cells #[] 145)) ∧ Own (W4.alloc (.cells #[] 145)) m9 (W4.alloc (.cells #[] 145)).heap.size shSubsO (l.take 0) [.slice (some ⟨W4.heap.size, 0, none⟩) 0 0]) := ⟨(Below.refl _ _).alloc (Nat.le_refl _) _, Own.mono (own_subs1 W4) znW4 (by simp)⟩
  go_upto_region 5 with fail
  generalize hW5 : W4.alloc (.cells #[] 145) = W5 at HW5 ⊢
  clear hW5
  obtain ⟨hb5, ho0⟩ := HW5.out
  have HO0 : Hid _ := ho0
  clear HW5 ho0
  replace kA := bx_below kA (by omega) hb5
  replace fA := bxF fA hb5 (by omega)
  replace kR := bx_below kR (by omega) hb5
  replace fR := bxF fR hb5 (by omega)
  replace HO5 : Hid (Own W5 (w.heap.size + 1 + 1) m5 u8s d5 [.slice b5 n5 d5c]) := HO5.out.below (by omega) hb5
  replace HO9 : Hid (Own W5 m5 m9 gtS (dn, ps, ()) [.slice q1 n9 p1, .slice q2 n10 p2]) := HO9.out.below (by omega) hb5
  replace HB : Hid (Below w.heap.size w W5) := HB.out.trans (hb5.mono HB.out.size)
  have hm9 : m9 ≤ W5.heap.size := Nat.le_trans znW4 hb5.size
  have hm59 : m5 ≤ m9 := Nat.le_trans zz1 zz3
  clear zz1 zz3 hb5
  generalize W4.heap.size = gB at *
  clear znW4
  go_loopw [3, 4] (fun t i wr => ∃ (k : Nat) (va : Option Addr) (vc : Nat), k ≤ n ∧ i = .int .i64 k ∧ t = .slice va k vc ∧ (∀ o, wr.cell? ⟨w.heap.size + 1, o, none⟩ = (#[.int .i64 0, .int .i64 0, .int .i64 0, .bool false, .bool false, .slice none 0 0, .bool false, .int .i64 0, .bool false, .slice none 0 0, .slice none 0 0, .int .i64 0, .int .i64 0, .slice none 0 0] : Array Value)[o]?) ∧ (∀ o, wr.frozen? ⟨w.heap.size + 1, o, none⟩ = false) ∧ (∀ o, wr.cell? ⟨w.heap.size, o, none⟩ = (#[.int .i64 y0, .int .i64 y1, .int .i64 y2, .bool y3, .bool y4, .slice b5 n5 d5c, .bool y6, .int .i64 y7, .bool y8, .slice q1 n9 p1, .slice q2 n10 p2, .int .i64 y10, .int .i64 y11, .slice a12 n c12] : Array Value)[o]?) ∧ (∀ o, wr.frozen? ⟨w.heap.size, o, none⟩ = false) ∧ Hid (Own wr m9 wr.heap.size shSubsO (l.take k) [.slice va k vc]) ∧ Hid (Own wr (w.heap.size + 1 + 1) m5 u8s d5 [.slice b5 n5 d5c]) ∧ Hid (Own wr m5 m9 gtS (dn, ps, ()) [.slice q1 n9 p1, .slice q2 n10 p2]) ∧ Hid (Below w.heap.size w wr) ∧ m9 ≤ wr.heap.size) (fun _ i _ => n - (intOf i).toNat)
  case atStart => exact ⟨0, _, 0, Nat.zero_le _, rfl, rfl, kR, fR, kA, fA, HO0, HO5, HO9, HB, hm9⟩
  case round =>
    clear kR fR kA fA HO5 HO9 HB hm9 HO0
    obtain ⟨k, va, vc, hk, rfl, rfl, kR, fR, kA, fA, HO, HO5, HO9, HB, hm9⟩ := hrel
    by_cases hlt : k < n
    · have hkl : k < l.length := by have := HN.out; omega
      obtain ⟨b, off, cs, ha, hb, hlen, hrg, hrs, -⟩ := sub_at (HRd.out wr HB.out) k hkl
      subst ha
      have HTK : Hid (l.take (k + 1) = l.take k ++ [l[k]]) := List.take_succ_eq_append_getElem hkl
      have HLL : Hid ((l.take k).length = k) := by show _ = _; simp; omega
      have HCF : Hid (∀ W, Below wr.heap.size wr W → Calls Tryz.prog 163 #[.agg cs.toArray] W fun e w' => ∃ N : Array Value, e = .returned (.agg N) ∧ Own w' W.heap.size w'.heap.size shSubO l[k] N.toList ∧ Below W.heap.size W w') := fun W hW => sL8CopyA l[k] cs W B (Sh.Rd.below (s := shSub) hrs (Nat.le_trans hB HB.out.size) hW) (Nat.le_trans (Nat.le_trans hB HB.out.size) hW.size) (HSF.out k hkl)
      have HIX : Hid ((Tryz.prog.info? 145).map (·.size) = some cs.length) := by show _ = _; rw [hlen]; exact (by kernel_rfl : (Tryz.prog.info? 145).map (·.size) = some 16)
      have HG : Hid (wr.rangeAt b (off + k * 16) cs) := hrg
      have hbw : b < w.heap.size := by omega
      have hszw := HB.out.size
      clear hrs hlen hrg
      generalize l[k] = x at *
      have hk0 : (0 : Int) ≤ (k : Int) := by omega
      have hkn : (k : Int) < (n : Int) := by omega
      go_wp2_with (refine wpList_load_mid rfl 145 _ rfl _ _ (by rfl) cs _ HG.out Tryz.underlying145 rfl HIX.out ?_)
      refine (HCF.out _ (Below.refl _ _)).mono ?_
      rintro e w2 ⟨N, rfl, ho2, hbq⟩
      have hNz : N.size = 16 := rd_size (s := shSubO) (ho2.rd (Nat.le_refl _))
      obtain ⟨n_0, n_1, n_2, n_3, n_4, n_5, n_6, n_7, n_8, n_9, n_10, n_11, n_12, n_13, n_14, n_15, hN⟩ := arr16 hNz
      subst hN
      have HE1 : Hid (Own w2 wr.heap.size w2.heap.size shSubO x [n_0, n_1, n_2, n_3, n_4, n_5, n_6, n_7, n_8, n_9, n_10, n_11, n_12, n_13, n_14, n_15]) := ho2
      have HOW : Hid (Own w2 m9 wr.heap.size shSubsO (l.take k) [.slice va k vc]) := HO.out.below (Nat.le_refl _) hbq
      replace HO5 : Hid (Own w2 (w.heap.size + 1 + 1) m5 u8s d5 [.slice b5 n5 d5c]) := HO5.out.below (by omega) hbq
      replace HO9 : Hid (Own w2 m5 m9 gtS (dn, ps, ()) [.slice q1 n9 p1, .slice q2 n10 p2]) := HO9.out.below (by omega) hbq
      replace kR := bx_below kR (by omega) hbq
      replace fR := bxF fR hbq (by omega)
      replace kA := bx_below kA (by omega) hbq
      replace fA := bxF fA hbq (by omega)
      have hz2 := hbq.size
      replace HB : Hid (Below w.heap.size w w2) := HB.out.trans (hbq.mono HB.out.size)
      clear ho2 hbq HCF hNz HG HO
      go_wp2_with (at_builtin; refine app_elem w2 rfl _ _ 37 145 rfl shSubO (.agg #[.int .i64 0, .int .i64 0, .bool false, .int .i64 0, .int .i64 0, .int .i64 0, .int .i64 0, .int .i64 0, .int .i64 0, .slice none 0 0, .int .i64 0, .int .i64 0, .slice none 0 0, .int .i64 0, .int .i64 0, .int .i64 0]) 160 Tryz.underlying37 info_S16 rfl (by decide) (by decide) m9 wr.heap.size wr.heap.size w2.heap.size (l.take k) (.slice va k vc) (by rfl) (by rfl) HOW.out x [n_0, n_1, n_2, n_3, n_4, n_5, n_6, n_7, n_8, n_9, n_10, n_11, n_12, n_13, n_14, n_15] HE1.out hm9 (Nat.le_refl _) (Nat.le_refl _) (by have := HLL.out; omega) (by omega) ?_; intro v3 w3' ho3 hb3 hk3 hs3; obtain ⟨va3, vc3, hv3⟩ := row_form (ho3.rd (Nat.le_refl _)); simp only [List.cons.injEq, and_true, List.length_append, List.length_cons, List.length_nil, HLL.out] at hv3; subst hv3; have HO3 : Hid (Own w3' m9 w3'.heap.size shSubsO (l.take (k + 1)) [.slice va3 (k + 1) vc3]) := (by rw [HTK.out]; exact ho3); replace HO5 : Hid (Own w3' (w.heap.size + 1 + 1) m5 u8s d5 [.slice b5 n5 d5c]) := HO5.out.below hm59 hb3; replace HO9 : Hid (Own w3' m5 m9 gtS (dn, ps, ()) [.slice q1 n9 p1, .slice q2 n10 p2]) := HO9.out.below (Nat.le_refl _) hb3; replace kR := bxC kR hb3 (show w.heap.size + 1 < m9 by omega); replace fR := fxC fR hb3 (show w.heap.size + 1 < m9 by omega); replace kA := bxC kA hb3 (show w.heap.size < m9 by omega); replace fA := fxC fA hb3 (show w.heap.size < m9 by omega); have hz3 : m9 ≤ w3'.heap.size := (by omega); replace HB : Hid (Below w.heap.size w w3') := HB.out.trans (hb3.mono (by omega)); clear ho3 hb3 hk3 HOW HE1 hs3)
      go_roundw
      case rel => exact ⟨k + 1, va3, vc3, by omega, by go_num, rfl, kR, fR, kA, fA, HO3, HO5, HO9, HB, hz3⟩
      case measure => simp [intOf]; omega
    · obtain rfl : k = n := by omega
      have hszw := HB.out.size
      go_upto_region 9 with fail
      replace kA := (bx_put kA (k := 13) (v := .slice va k vc) (by simp))
      simp only [List.setIfInBounds_toArray, List.set_cons_zero, List.set_cons_succ] at kA
      replace fA : ∀ o, (wr.setCell ⟨w.heap.size, 13, none⟩ (.slice va k vc)).frozen? ⟨w.heap.size, o, none⟩ = false := (fx_setC fA)
      replace kR : ∀ o, (wr.setCell ⟨w.heap.size, 13, none⟩ (.slice va k vc)).cell? ⟨w.heap.size + 1, o, none⟩ = (#[.int .i64 0, .int .i64 0, .int .i64 0, .bool false, .bool false, .slice none 0 0, .bool false, .int .i64 0, .bool false, .slice none 0 0, .slice none 0 0, .int .i64 0, .int .i64 0, .slice none 0 0] : Array Value)[o]? := (bx_setC kR (show w.heap.size + 1 ≠ w.heap.size by omega))
      replace fR : ∀ o, (wr.setCell ⟨w.heap.size, 13, none⟩ (.slice va k vc)).frozen? ⟨w.heap.size + 1, o, none⟩ = false := (fx_setC fR)
      replace HB : Hid (Below w.heap.size w (wr.setCell ⟨w.heap.size, 13, none⟩ (.slice va k vc))) := (Below.setCell (p := ⟨w.heap.size, 13, none⟩) HB.out (Nat.le_refl _) (.slice va k vc))
      replace HO5 : Hid (Own (wr.setCell ⟨w.heap.size, 13, none⟩ (.slice va k vc)) (w.heap.size + 1 + 1) m5 u8s d5 [.slice b5 n5 d5c]) := Own.keep HO5.out (fun b h1 h2 => by repeat rw [Below.heap_setCell _ _ _ _ (by dsimp only; omega)])
      replace HO9 : Hid (Own (wr.setCell ⟨w.heap.size, 13, none⟩ (.slice va k vc)) m5 m9 gtS (dn, ps, ()) [.slice q1 n9 p1, .slice q2 n10 p2]) := Own.keep HO9.out (fun b h1 h2 => by repeat rw [Below.heap_setCell _ _ _ _ (by dsimp only; omega)])
      replace HO : Hid (Own (wr.setCell ⟨w.heap.size, 13, none⟩ (.slice va k vc)) m9 wr.heap.size shSubsO (l.take k) [.slice va k vc]) := Own.keep HO.out (fun b h1 h2 => by repeat rw [Below.heap_setCell _ _ _ _ (by dsimp only; omega)])
      have znW6 : wr.heap.size ≤ (wr.setCell ⟨w.heap.size, 13, none⟩ (.slice va k vc)).heap.size := by simp
      generalize hWW6 : (wr.setCell ⟨w.heap.size, 13, none⟩ (.slice va k vc)) = W6 at kA fA kR fR HB znW6 HO5 HO9 HO ⊢
      clear hWW6
      replace HO : Hid (Own W6 m9 W6.heap.size shSubsO (l.take k) [.slice va k vc]) := Own.mono HO.out (Nat.le_refl _) znW6
      replace hm9 : m9 ≤ W6.heap.size := Nat.le_trans hm9 znW6
      clear znW6 hszw
      have HO2 : Hid (Own W6 m9 W6.heap.size shSubsO l [.slice va k vc]) := by have h := HO.out; rw [← HN.out, List.take_length] at h; rw [← HN.out]; exact h
      have hszw := HB.out.size
      obtain ⟨N, hN⟩ : ∃ N : Array Value, N = #[.int .i64 y0, .int .i64 y1, .int .i64 y2, .bool y3, .bool y4, .slice b5 n5 d5c, .bool y6, .int .i64 y7, .bool y8, .slice q1 n9 p1, .slice q2 n10 p2, .int .i64 y10, .int .i64 y11, .slice va k vc] := ⟨_, rfl⟩
      have hNz : N.size = 14 := by rw [hN]; rfl
      have HIN : Hid ((Tryz.prog.info? 39).map (·.size) = some N.size) := by show _ = _; rw [hNz]; exact (by kernel_rfl : (Tryz.prog.info? 39).map (·.size) = some 14)
      have HIN' : Hid ((Tryz.prog.info? 39).map (·.size) = some N.toList.length) := by show _ = _; rw [Array.length_toList]; exact HIN.out
      have HONE : Hid (N.all (·.oneCell') = true) := by show _ = _; rw [hN]; simp [Value.oneCell']
      have HRES : Hid (CopP W6 (w.heap.size + 1 + 1) (y0, y1, y2, y3, y4, d5, y6, y7, y8, (dn, ps, ()), y10, y11, l, ()) N) := ⟨_, _, _, _, _, _, hN, HO5.out, HO9.out, HO2.out, by omega, by omega, by omega, HWF.out⟩
      have HTH : Hid (W6.there (w.heap.size + 1) 0 N.size) := bx_there kR fR (by rw [hNz]; rfl)
      rw [← hN] at kA
      have HKR : Hid (∀ o, (W6.setCells (w.heap.size + 1) 0 N.toList).cell? ⟨w.heap.size + 1, o, none⟩ = N[o]?) := bx_setCells kR (by rw [hNz]; rfl)
      clear hN hNz HO HO2 HO5 HO9 kR fR
      go_wp2_with (first | (refine wpList_load_mid rfl 39 _ rfl _ _ (by rfl) N.toList _ (bx_range kA) Tryz.underlying39 rfl HIN'.out ?_) | (refine wpList_store_mid rfl 39 _ _ rfl _ _ N (by rfl) (by rfl) HTH.out HIN.out HONE.out ?_))
      refine bodyPost_ret (results_box Tryz.results116 _ _ _ N _ (by rfl) HKR.out Tryz.underlying39 rfl (by exact HIN.out)) rfl ⟨N, rfl, ?_, ?_⟩
      · exact CopP.keep HRES.out (by omega) (fun b hb => setCells_block (by omega) _ _ _) (by rw [setCells_size])
      · exact setCells_below (by omega) _ _ _ _ HB.out
theorem sL9Copy (c : DConn) (A : Array Value) (w : World) (B : Nat) (hr : shConn.Rd w B c A.toList) (hB : B ≤ w.heap.size) (hT : totConn c ≤ 1048576) (hF : connF c = 0) :
    Calls Tryz.prog 116 #[.agg A] w fun e w' => ∃ N : Array Value, e = .returned (.agg N) ∧ Own w' w.heap.size w'.heap.size shConnO c N.toList ∧ Below w.heap.size w w' :=
  (sL9CopyS c A w B hr hB hT hF).mono (by rintro e w' ⟨N, rfl, h, hb⟩; exact ⟨N, rfl, h.own, hb⟩)
end Go.Proofs.YtcbgedlckcjjnaaGreat
