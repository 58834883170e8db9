/- LoadSegment by program and model; the answer owns its memory; nothing that was in memory turns; no condition but that there are at most a million parts. Written by mkload2.py. -/
import Derived.Test.YtbdibjeemgkdaaaGreatRows
import Derived.Deep.RegionHeld3
import Derived.Deep.DeepCutAuto
import Derived.Deep.DeepMust
import Derived.Deep.MidRow
import Derived.Test.YtbdibjeemgkdaaaGreatK01
import Derived.Test.YtbdibjeemgkdaaaGreatK02
import Derived.Test.YtbdibjeemgkdaaaGreatK03
import Derived.Test.YtbdibjeemgkdaaaGreatK04
import Derived.Test.YtbdibjeemgkdaaaGreatK05
import Derived.Test.YtbdibjeemgkdaaaGreatK06
import Derived.Test.YtbdibjeemgkdaaaGreatK09
import Derived.Test.YtbdibjeemgkdaaaGreatK10
import Derived.Test.YtbdibjeemgkdaaaGreatK11
import Derived.Test.YtbdibjeemgkdaaaGreatK12
import Derived.Test.YtbdibjeemgkdaaaGreatK13
import Derived.Test.YtbdibjeemgkdaaaGreatK14
import Derived.Test.YtbdibjeemgkdaaaGreatK16
import Derived.Test.YtbdibjeemgkdaaaGreatK20
import Derived.Test.YtbdibjeemgkdaaaGreatK21
import Derived.Test.YtbdibjeemgkdaaaGreatK22
import Derived.Test.YtbdibjeemgkdaaaGreatK26
import Derived.Test.YtbdibjeemgkdaaaGreatK30
import Derived.Test.YtbdibjeemgkdaaaGreatK39
import Derived.Test.YtbdibjeemgkdaaaGreatK40
import Derived.Test.YtbdibjeemgkdaaaGreatK42
namespace Go.Proofs.YtbdibjeemgkdaaaGreat
open Go.RowKit
set_option linter.unusedVariables false
set_option maxRecDepth 8000

/-- The cells of a segment, its load's slice beside. -/
def sgA (s : DSegm) (u : Value) : Array Value := #[.int .i64 s.1, .int .i64 s.2.1, .bool s.2.2.1, .bool s.2.2.2.1, .bool s.2.2.2.2.1, .int .i64 s.2.2.2.2.2.1, .int .i64 s.2.2.2.2.2.2.1, .int .i64 s.2.2.2.2.2.2.2.1, .int .i64 s.2.2.2.2.2.2.2.2.1, .int .i64 s.2.2.2.2.2.2.2.2.2.1, .int .i64 s.2.2.2.2.2.2.2.2.2.2.1, u]
theorem fls_where (next : Int) : ∀ (l : List DFlight) (e : Int), flsFault next e l = 0 → e ≤ next ∧ ∀ x ∈ l, e ≤ x.1 ∧ x.1 ≤ next ∧ (0 ≤ x.2.1 ∧ x.2.1 ≤ 400) ∧ x.2.2.1.length ≤ 8
  | [], e, h => by
    rw [flsFault] at h
    split at h
    · exact ⟨by omega, by simp⟩
    · cases h
  | x :: l, e, h => by
    rw [flsFault] at h
    split at h
    · rename_i hx
      obtain ⟨h1, h2⟩ := fls_where next l _ h
      unfold flFault at hx
      split at hx
      · cases hx
      · rename_i p1
        split at hx
        · cases hx
        · rename_i p2
          simp only [plcD, lodD, inD, Bool.not_eq_false, Bool.and_eq_true, decide_eq_true_eq] at p1 p2
          refine ⟨by omega, fun y hy => ?_⟩
          rcases List.mem_cons.1 hy with rfl | hy
          · exact ⟨by omega, by omega, by omega, by omega⟩
          · have := h2 y hy
            exact ⟨by omega, by omega, this.2.2.1, this.2.2.2⟩
    · rename_i hx; exact absurd h hx
theorem lod_ok {x : DSub} (hF : subF x = 0) {k : Nat} (hk : k < x.snd.2.2.2.1.length) : inD x.snd.2.2.2.1[k].1 0 1000000 = true ∧ (0 ≤ x.snd.2.2.2.1[k].2.1 ∧ x.snd.2.2.2.1[k].2.1 ≤ 400) ∧ x.snd.2.2.2.1[k].2.2.1.length ≤ 8 ∧ x.snd.2.2.2.1.length ≤ 12 := by
  have h0 := (subF_parts hF).1
  obtain ⟨h1, h2, h3, h4⟩ := snd_ok h0
  obtain ⟨g1, g2, g3, g4⟩ := (fls_where _ _ _ (snd_fls h0)).2 _ (List.getElem_mem hk)
  simp only [inD, Bool.and_eq_true, decide_eq_true_eq] at h1 h2 h3 ⊢
  exact ⟨⟨by omega, by omega⟩, g3, g4, h4⟩
theorem seq_at {x : DSender} (h : sndFault x = 0) {a : Int} (ha : inD a 0 1000000 = true) : seqV x a = wrp (x.1 + a) := by unfold seqV; rw [if_pos h, if_pos ha]
theorem dack_bd {c : DConn} (hT : totConn c ≤ 1048576) : 0 ≤ dackD c ∧ dackD c ≤ 1000000000 := by
  have h : c.inn.1.length ≤ 1048576 := by
    obtain ⟨y0, y1, y2, y3, y4, d5, y6, y7, y8, ⟨dn, ps, ⟨⟩⟩, y10, y11, l, ⟨⟩⟩ := c
    have h2 : d5.length + (dn.length + pcsTot ps) + totSubs l ≤ 1048576 := hT
    show dn.length ≤ _
    omega
  unfold dackD
  split <;> omega
theorem sub_flL {w : World} {B : Nat} {x : DSub} {cs : List Value} (hr : shSub.Rd w B x cs) : ∃ fa fc, cs[9]? = some (.slice fa x.snd.2.2.2.1.length fc) ∧ shFlights.Rd w B x.snd.2.2.2.1 [.slice fa x.snd.2.2.2.1.length fc] := by
  obtain ⟨u, v, e, hs, -, -⟩ := rd_Sub hr
  obtain ⟨vv, e1, hfl, -⟩ := rd_Sender hs
  simp only [List.cons.injEq, and_true, true_and] at e1
  subst e1
  obtain ⟨ua, uc, va, vc, e2, -⟩ := rd_SubG (by rw [e] at hr; exact hr)
  rw [e2] at hfl e
  exact ⟨ua, uc, by rw [e]; rfl, hfl⟩
/-- A flight at its place. -/
theorem fl_get {w : World} {B : Nat} {l : List DFlight} {fa : Option Addr} {n fc : Nat} (h : shFlights.Rd w B l [.slice fa n fc]) {k : Nat} (hk : k < l.length) : ∃ (fb foff : Nat) (cs : List Value) (la : Option Addr) (lc : Nat), fa = some ⟨fb, foff, none⟩ ∧ fb < B ∧ cs.length = 5 ∧ w.rangeAt fb (foff + k * 5) cs ∧ shFlight.Rd w B l[k] cs ∧ cs[0]? = some (.int .i64 l[k].1) ∧ cs[1]? = some (.int .i64 l[k].2.1) ∧ cs[2]? = some (.slice la l[k].2.2.1.length lc) ∧ RB w la l[k].2.2.1 ∧ (la = none → lc = 0) := by
  obtain ⟨fb, foff, cs, ea, hb, hlen, hrg, hrf⟩ := row_at h k hk
  obtain ⟨fv, ef, hby, -⟩ := rd_Flight hrf
  obtain ⟨la, lc, el, hrb, hnil, -⟩ := rd_bytes hby
  simp only [List.cons.injEq, and_true] at el
  refine ⟨fb, foff, cs, la, lc, ea, hb, hlen, hrg, hrf, by rw [ef]; rfl, by rw [ef]; rfl, by rw [ef, el]; rfl, hrb, hnil⟩
theorem lodS_wf {w : World} {B : Nat} {c : DConn} {A : Array Value} (hr : shConn.Rd w B c A.toList) (hT : totConn c ≤ 1048576) {x : DSub} {cs : List Value} (hx : shSub.Rd w B x cs) (hF : subF x = 0) {k : Nat} (hk : k < x.snd.2.2.2.1.length) : SRWf (0, lodS c x x.snd.2.2.2.1[k], ()) := by
  have h1 := sub_wf hx
  have h2 := (conn_cells hr).2.2.2.2
  obtain ⟨-, hd, -, -⟩ := lod_ok hF hk
  have h3 := dack_bd hT
  have h4 := sumB_bd (loadB x.snd.2.2.2.1[k].2.1 x.snd.2.2.2.1[k].2.2.1)
  refine ⟨wf0, h1.1, h2.1, wrp_wf _, wrp_wf _, endD_wf hT, ?_, ?_, ?_⟩
  · show (Lit.int .i64 (if c.2.2.2.1 = true then 0 else 4)).wf = true
    split <;> decide
  · show (Lit.int .i64 (if c.2.2.2.1 = true then 0 else dackD c + 1000 * x.snd.2.2.2.1[k].2.1)).wf = true
    split
    · exact wf0
    · exact wf_i64' (by omega)
  · show (Lit.int .i64 (if c.2.2.2.1 = true then 0 else sumB (loadB x.snd.2.2.2.1[k].2.1 x.snd.2.2.2.1[k].2.2.1))).wf = true
    split
    · exact wf0
    · exact wf_i64' (by omega)
theorem own_SRs {w : World} {lo hi : Nat} {s : DSegm} {u : Value} (hl : lo ≤ hi) (hw : SRWf (0, s, ())) (h : Own w lo hi u8s s.2.2.2.2.2.2.2.2.2.2.2.1 [u]) : Own w lo hi shSR (0, s, ()) (.int .i64 0 :: (sgA s u).toList) := by
  obtain ⟨y0, y1, y2, y3, y4, y5, y6, y7, y8, y9, y10, ld, ⟨⟩⟩ := s
  obtain ⟨f, f0, f1, f5, f6, f7, f8, f9, f10⟩ := hw
  exact hOwnCons (hOwnInt w lo lo wf0) (hOwnCons (own_Sg h f0 f1 f5 f6 f7 f8 f9 f10) (hOwnNil w hi hi) hl (Nat.le_refl _)) (Nat.le_refl _) hl
theorem iLoadOf (c : DConn) (x : DSub) (A X : Array Value) (k : Nat) (w : World) (B : Nat) (hc : shConn.Rd w B c A.toList) (hx : shSub.Rd w B x X.toList) (hB : B ≤ w.heap.size) (hT : totConn c ≤ 1048576) (hTx : totSub x ≤ 1048576) (hF : subF x = 0) (hk : k < x.snd.2.2.2.1.length) :
    Calls Tryz.prog 29 #[.agg A, .agg X, .int .i64 (k : Int)] w fun e w' => ∃ u, e = .returned (.agg (sgA (lodS c x x.snd.2.2.2.1[k]) u)) ∧ Own w' w.heap.size w'.heap.size u8s x.snd.2.2.2.1[k].2.2.1 [u] ∧ Below w.heap.size w w' := by
  obtain ⟨hs1, hs2⟩ := subF_parts hF
  obtain ⟨ht1, ht2⟩ := sub_tots hTx
  obtain ⟨a0, a1, a2, a3, -⟩ := conn_cells hc
  obtain ⟨u, v, e, hs, -, -⟩ := rd_Sub hx
  obtain ⟨fa, fc, e9, hfl⟩ := sub_flL hx
  obtain ⟨fb, foff, cs, la, lc, ea, hb, hlen, hrg, hrf, g0, g1, g2, hrb, hnil⟩ := fl_get hfl hk
  subst ea
  obtain ⟨b1, b2, b3, b4⟩ := lod_ok hF hk
  have q := seq_at hs1 b1
  have hu : u = .slice (some ⟨fb, foff, none⟩) x.snd.2.2.2.1.length fc := by rw [e] at e9; simpa using e9
  subst hu
  have hd := dack_bd hT
  have hOA : 0 ≤ (if c.2.2.2.1 = true then (0 : Int) else dackD c) ∧ (if c.2.2.2.1 = true then (0 : Int) else dackD c) ≤ 1000000000 := by split <;> omega
  have H := iLoadOf0 A X cs.toArray k _ _ _ _ _ _ _ c.2.2.2.1 x.snd.1 x.snd.2.1 x.snd.2.2.1 x.snd.2.2.2.1[k].1 x.snd.2.2.2.1[k].2.1 _ _ _ fb foff x.snd.2.2.2.1.length fc la x.snd.2.2.2.1[k].2.2.1.length lc x.snd.2.2.2.1[k].2.2.1 w (rd_size hc) (rd_size hx) (by rw [List.size_toArray]; exact hlen) (all_oneCell_toArray (rd_one _ _ _ hrf)) a3 (get_of e 6) (get_of e 7) (get_of e 8) (get_of e 9) hk (by omega) (by omega) hrg (by rw [List.getElem?_toArray]; exact g0) (by rw [List.getElem?_toArray]; exact g1) (by rw [List.getElem?_toArray]; exact g2) hOA (by omega)
    (fun W hW => iKnownOf c x A X W B (Sh.Rd.below hc hB hW) (Sh.Rd.below hx hB hW) (Nat.le_trans hB hW.size) hT hTx hF)
    (fun W hW => iSeqOf x.snd _ x.snd.2.2.2.1[k].1 W B (Sh.Rd.below hs hB hW) (Nat.le_trans hB hW.size) ht1)
    (fun W hW => iCopyB9 la _ lc x.snd.2.2.2.1[k].2.2.1 W rfl (hrb.below (Nat.le_refl _) hW) hnil (by omega))
    (fun W hW => iSumLoad x.snd.2.2.2.1[k].2.1 la _ lc x.snd.2.2.2.1[k].2.2.1 W rfl (hrb.below (Nat.le_refl _) hW) hnil (by omega))
  refine H.mono ?_
  rintro e w' ⟨u, rfl, ho, hb⟩
  refine ⟨u, ?_, ho, hb⟩
  rw [q]
  cases hp : c.2.2.2.1 <;> simp [sgA, lodS, telS, hp]
theorem sL11Load (c : DConn) (A : Array Value) (cb of : Nat) (x : DSub) (cs : List Value) (sb so : Nat) (k : Nat) (hk : k < x.snd.2.2.2.1.length) (c5 : List Value) (la : Option Addr) (lc : Nat) (w : World) (B : Nat) (h : ConnAt w B c A cb of) (hs : w.rangeAt sb so cs) (hsb : sb < w.heap.size) (hx : shSub.Rd w B x cs) (hF : subF x = 0) (h5 : c5.length = 5) (g0 : c5[0]? = some (.int .i64 x.snd.2.2.2.1[k].1)) (g1 : c5[1]? = some (.int .i64 x.snd.2.2.2.1[k].2.1)) (g2 : c5[2]? = some (.slice la x.snd.2.2.2.1[k].2.2.1.length lc)) (hrb : RB w la x.snd.2.2.2.1[k].2.2.1) (hnil : la = none → lc = 0) :
    Calls Tryz.prog 22 #[.pointer (some ⟨cb, of, none⟩), .pointer (some ⟨sb, so, none⟩), .agg c5.toArray] w fun e w' => ∃ u, e = .returned (.agg (sgA (lodS c x x.snd.2.2.2.1[k]) u)) ∧ Own w' w.heap.size w'.heap.size u8s x.snd.2.2.2.1[k].2.2.1 [u] ∧ Below w.heap.size w w' := by
  obtain ⟨a0, a1, a2, a3, -⟩ := conn_cells h.rd
  obtain ⟨u, v, e, -⟩ := rd_Sub hx
  obtain ⟨b1, b2, b3, b4⟩ := lod_ok hF hk
  have hd := dack_bd h.tot
  have q : ∀ j v, A[j]? = some v → w.cell? ⟨cb, of + j, none⟩ = some v := fun j v hv => h.at_ j v (by rw [Array.getElem?_toList]; exact hv)
  have H := sL11Load0 cb of sb so c5.toArray _ _ _ _ _ _ _ (dackD c) c.2.2.2.1 x.snd.1 x.snd.2.2.2.1[k].1 x.snd.2.2.2.1[k].2.1 _ _ la _ lc x.snd.2.2.2.1[k].2.2.1 w (by rw [List.size_toArray]; exact h5) h.lt hsb (q 3 _ a3) (hs 6 _ (by rw [e]; rfl)) (by rw [List.getElem?_toArray]; exact g0) (by rw [List.getElem?_toArray]; exact g1) (by rw [List.getElem?_toArray]; exact g2) rfl hrb hnil (by omega) hd (by omega) rfl
    (fun W hW => sL9Tell c A cb of x cs sb so W B (h.below hW) (range_below hs hW hsb) (Nat.lt_of_lt_of_le hsb hW.size) (Sh.Rd.below (s := shSub) hx h.hB hW))
    (fun W hW => sL9DataAck c A cb of W B (h.below hW))
    (fun W hW => sSumLoad x.snd.2.2.2.1[k].2.1 la _ lc x.snd.2.2.2.1[k].2.2.1 W rfl (hrb.below (Nat.le_refl _) hW) hnil (by omega))
  refine H.mono ?_
  rintro e w' ⟨u, rfl, ho, hb⟩
  refine ⟨u, ?_, ho, hb⟩
  cases hp : c.2.2.2.1 <;> simp [sgA, lodS, telS, hp]
set_option maxHeartbeats 2000000 in
theorem iLodC (A : Array Value) (i k C : Int) (hC : C ≠ 0) (w : World) (hA : A.size = 14) (hF : ∀ W, Below w.heap.size w W → Calls Tryz.prog 26 #[.agg A] W fun e w' => e = .returned (.int .i64 C) ∧ Below W.heap.size W w') :
    Calls Tryz.prog 8 #[.agg A, .int .i64 i, .int .i64 k] w fun e w' => e = .returned (.agg #[.int .i64 C, .int .i64 0, .int .i64 0, .bool false, .bool false, .bool false, .int .i64 0, .int .i64 0, .int .i64 0, .int .i64 0, .int .i64 0, .int .i64 0, .slice none 0 0]) ∧ Below w.heap.size w w' := by
  have hC' : (C != 0) = true := by simp [hC]
  have HF : Hid _ := hF
  clear hF hC
  have HRGX : Hid (∀ W : World, (∀ o, W.cell? ⟨w.heap.size, o, none⟩ = A[o]?) → Hid (W.rangeAt w.heap.size 0 A.toList)) := fun W hk => bx_range hk
  have HI : Hid ((Tryz.prog.info? 40).map (·.size) = some A.toList.length) := by show _ = _; rw [Array.length_toList, hA]; exact (by kernel_rfl : (Tryz.prog.info? 40).map (·.size) = some 14)
  clear hA
  obtain ⟨N, hN⟩ : ∃ N : Array Value, N = #[.int .i64 C, .int .i64 0, .int .i64 0, .bool false, .bool false, .bool false, .int .i64 0, .int .i64 0, .int .i64 0, .int .i64 0, .int .i64 0, .int .i64 0, .slice none 0 0] := ⟨_, rfl⟩
  have HN : Hid _ := hN
  have hNz : N.size = 13 := by rw [hN]; rfl
  have HIN : Hid ((Tryz.prog.info? 33).map (·.size) = some N.size) := by show _ = _; rw [hNz]; exact (by kernel_rfl : (Tryz.prog.info? 33).map (·.size) = some 13)
  have HONE : Hid (N.all (·.oneCell') = true) := by show _ = _; rw [hN]; simp [Value.oneCell']
  have HNZ : Hid _ := hNz
  rw [← hN]
  clear hN hNz
  go_enter Tryz.func8, Tryz.ntmps8
  go_upto_region 1 with fail
  have HRG := HRGX.out ((w.alloc (.cells A 40)).alloc (.cells #[.int .i64 0, .int .i64 0, .int .i64 0, .bool false, .bool false, .bool false, .int .i64 0, .int .i64 0, .int .i64 0, .int .i64 0, .int .i64 0, .int .i64 0, .slice none 0 0] 33)) (fun o => by simp [go_sem])
  go_wp2_with (refine wpList_load_mid rfl 40 _ rfl _ _ (by rfl) A.toList _ HRG.out Tryz.underlying40 rfl HI.out ?_)
  refine (HF.out _ (by go_grown)).mono ?_
  rintro e w1 ⟨rfl, hb⟩
  obtain ⟨kA, kR, fR, hb1, zR⟩ := two_boxes hb
  have HB : Hid (Below w.heap.size w w1) := hb1
  have zA : w.heap.size < w1.heap.size := by omega
  clear hb hb1 HRG HF
  have HTH : Hid (w1.there (w.heap.size + 1) 0 N.size) := bx_there kR fR (by rw [HNZ.out]; rfl)
  have kQ : Hid (∀ o, (w1.setCells (w.heap.size + 1) 0 N.toList).cell? ⟨w.heap.size + 1, o, none⟩ = N[o]?) := bx_setCells kR (by rw [HNZ.out]; rfl)
  go_wp2_with (refine wpList_store_mid rfl 33 _ _ rfl _ _ N (by rfl) (by rw [HN.out]; rfl) HTH.out HIN.out HONE.out ?_)
  refine bodyPost_ret (results_box Tryz.results8 _ _ _ N _ (by rfl) kQ.out Tryz.underlying33 rfl HIN.out) rfl ⟨rfl, ?_⟩
  exact setCells_below (by omega) _ _ _ _ HB.out
set_option maxHeartbeats 2000000 in
theorem iLod1 (A : Array Value) (i k : Int) (a13 : Option Addr) (n c13 : Nat) (x13 : A[13]? = some (.slice a13 n c13)) (hn : n ≤ 1048576) (hi : inD i 0 ((n : Int) - 1) = false) (w : World) (hA : A.size = 14) (hF : ∀ W, Below w.heap.size w W → Calls Tryz.prog 26 #[.agg A] W fun e w' => e = .returned (.int .i64 0) ∧ Below W.heap.size W w') :
    Calls Tryz.prog 8 #[.agg A, .int .i64 i, .int .i64 k] w fun e w' => e = .returned (.agg #[.int .i64 4, .int .i64 0, .int .i64 0, .bool false, .bool false, .bool false, .int .i64 0, .int .i64 0, .int .i64 0, .int .i64 0, .int .i64 0, .int .i64 0, .slice none 0 0]) ∧ Below w.heap.size w w' := by
  have HI1 : Hid _ := hi
  have HF : Hid _ := hF
  clear hF hi
  have HRGX : Hid (∀ W : World, (∀ o, W.cell? ⟨w.heap.size, o, none⟩ = A[o]?) → Hid (W.rangeAt w.heap.size 0 A.toList)) := fun W hk => bx_range hk
  have HI : Hid ((Tryz.prog.info? 40).map (·.size) = some A.toList.length) := by show _ = _; rw [Array.length_toList, hA]; exact (by kernel_rfl : (Tryz.prog.info? 40).map (·.size) = some 14)
  clear hA
  obtain ⟨N, hN⟩ : ∃ N : Array Value, N = #[.int .i64 4, .int .i64 0, .int .i64 0, .bool false, .bool false, .bool false, .int .i64 0, .int .i64 0, .int .i64 0, .int .i64 0, .int .i64 0, .int .i64 0, .slice none 0 0] := ⟨_, rfl⟩
  have HN : Hid _ := hN
  have hNz : N.size = 13 := by rw [hN]; rfl
  have HIN : Hid ((Tryz.prog.info? 33).map (·.size) = some N.size) := by show _ = _; rw [hNz]; exact (by kernel_rfl : (Tryz.prog.info? 33).map (·.size) = some 13)
  have HONE : Hid (N.all (·.oneCell') = true) := by show _ = _; rw [hN]; simp [Value.oneCell']
  have HNZ : Hid _ := hNz
  rw [← hN]
  clear hN hNz
  go_enter Tryz.func8, Tryz.ntmps8
  go_upto_region 1 with fail
  have HRG := HRGX.out ((w.alloc (.cells A 40)).alloc (.cells #[.int .i64 0, .int .i64 0, .int .i64 0, .bool false, .bool false, .bool false, .int .i64 0, .int .i64 0, .int .i64 0, .int .i64 0, .int .i64 0, .int .i64 0, .slice none 0 0] 33)) (fun o => by simp [go_sem])
  go_wp2_with (refine wpList_load_mid rfl 40 _ rfl _ _ (by rfl) A.toList _ HRG.out Tryz.underlying40 rfl HI.out ?_)
  refine (HF.out _ (by go_grown)).mono ?_
  rintro e w1 ⟨rfl, hb⟩
  obtain ⟨kA, kR, fR, hb1, zR⟩ := two_boxes hb
  have HB : Hid (Below w.heap.size w w1) := hb1
  have zA : w.heap.size < w1.heap.size := by omega
  clear hb hb1 HRG HF
  have HTH : Hid (w1.there (w.heap.size + 1) 0 N.size) := bx_there kR fR (by rw [HNZ.out]; rfl)
  have kQ : Hid (∀ o, (w1.setCells (w.heap.size + 1) 0 N.toList).cell? ⟨w.heap.size + 1, o, none⟩ = N[o]?) := bx_setCells kR (by rw [HNZ.out]; rfl)
  go_wp2_with (first | (go_at_call 27; refine (iPlaceInS _ _ _ _ (by omega) _).mono ?_; rintro e w' ⟨rfl, hw⟩; subst w'; rw [HI1.out]) | (refine wpList_store_mid rfl 33 _ _ rfl _ _ N (by rfl) (by rw [HN.out]; rfl) HTH.out HIN.out HONE.out ?_))
  refine bodyPost_ret (results_box Tryz.results8 _ _ _ N _ (by rfl) kQ.out Tryz.underlying33 rfl HIN.out) rfl ⟨rfl, ?_⟩
  exact setCells_below (by omega) _ _ _ _ HB.out
set_option maxHeartbeats 2000000 in
theorem iLod2 (A : Array Value) (iN : Nat) (k : Int) (b off n c13 : Nat) (x13 : A[13]? = some (.slice (some ⟨b, off, none⟩) n c13)) (hn : n ≤ 1048576) (hi : iN < n) (fa : Option Addr) (fn fc : Nat) (hfn : fn ≤ 1048576) (hk : inD k 0 ((fn : Int) - 1) = false) (w : World) (hb : b < w.heap.size) (q9 : w.cell? ⟨b, off + iN * 16 + 9, none⟩ = some (.slice fa fn fc)) (hA : A.size = 14) (hF : ∀ W, Below w.heap.size w W → Calls Tryz.prog 26 #[.agg A] W fun e w' => e = .returned (.int .i64 0) ∧ Below W.heap.size W w') :
    Calls Tryz.prog 8 #[.agg A, .int .i64 (iN : Int), .int .i64 k] w fun e w' => e = .returned (.agg #[.int .i64 4, .int .i64 0, .int .i64 0, .bool false, .bool false, .bool false, .int .i64 0, .int .i64 0, .int .i64 0, .int .i64 0, .int .i64 0, .int .i64 0, .slice none 0 0]) ∧ Below w.heap.size w w' := by
  have HI1 : Hid (inD (iN : Int) 0 ((n : Int) - 1) = true) := by show _ = _; simp [inD]; omega
  have hiI : (iN : Int) < (n : Int) := by omega
  have hi0 : (0 : Int) ≤ (iN : Int) := by omega
  have HI2 : Hid _ := hk
  have HF : Hid _ := hF
  clear hF hk
  have HRGX : Hid (∀ W : World, (∀ o, W.cell? ⟨w.heap.size, o, none⟩ = A[o]?) → Hid (W.rangeAt w.heap.size 0 A.toList)) := fun W hk => bx_range hk
  have HI : Hid ((Tryz.prog.info? 40).map (·.size) = some A.toList.length) := by show _ = _; rw [Array.length_toList, hA]; exact (by kernel_rfl : (Tryz.prog.info? 40).map (·.size) = some 14)
  clear hA
  obtain ⟨N, hN⟩ : ∃ N : Array Value, N = #[.int .i64 4, .int .i64 0, .int .i64 0, .bool false, .bool false, .bool false, .int .i64 0, .int .i64 0, .int .i64 0, .int .i64 0, .int .i64 0, .int .i64 0, .slice none 0 0] := ⟨_, rfl⟩
  have HN : Hid _ := hN
  have hNz : N.size = 13 := by rw [hN]; rfl
  have HIN : Hid ((Tryz.prog.info? 33).map (·.size) = some N.size) := by show _ = _; rw [hNz]; exact (by kernel_rfl : (Tryz.prog.info? 33).map (·.size) = some 13)
  have HONE : Hid (N.all (·.oneCell') = true) := by show _ = _; rw [hN]; simp [Value.oneCell']
  have HNZ : Hid _ := hNz
  rw [← hN]
  clear hN hNz
  go_enter Tryz.func8, Tryz.ntmps8
  go_upto_region 1 with fail
  have HRG := HRGX.out ((w.alloc (.cells A 40)).alloc (.cells #[.int .i64 0, .int .i64 0, .int .i64 0, .bool false, .bool false, .bool false, .int .i64 0, .int .i64 0, .int .i64 0, .int .i64 0, .int .i64 0, .int .i64 0, .slice none 0 0] 33)) (fun o => by simp [go_sem])
  go_wp2_with (refine wpList_load_mid rfl 40 _ rfl _ _ (by rfl) A.toList _ HRG.out Tryz.underlying40 rfl HI.out ?_)
  refine (HF.out _ (by go_grown)).mono ?_
  rintro e w1 ⟨rfl, hb⟩
  obtain ⟨kA, kR, fR, hb1, zR⟩ := two_boxes hb
  have HB : Hid (Below w.heap.size w w1) := hb1
  have zA : w.heap.size < w1.heap.size := by omega
  clear hb hb1 HRG HF
  have q9W : w1.cell? ⟨b, off + iN * 16 + 9, none⟩ = some (.slice fa fn fc) := (HB.out.cell (p := ⟨b, off + iN * 16 + 9, none⟩) hb).trans q9
  have HTH : Hid (w1.there (w.heap.size + 1) 0 N.size) := bx_there kR fR (by rw [HNZ.out]; rfl)
  have kQ : Hid (∀ o, (w1.setCells (w.heap.size + 1) 0 N.toList).cell? ⟨w.heap.size + 1, o, none⟩ = N[o]?) := bx_setCells kR (by rw [HNZ.out]; rfl)
  go_wp2_with (first | (first | (go_at_call 27; refine (iPlaceInS _ _ _ _ (by omega) _).mono ?_; rintro e w' ⟨rfl, hw⟩; subst w'; rw [HI1.out]) | (go_at_call 28; refine (iPlaceInF _ _ _ _ (by omega) _).mono ?_; rintro e w' ⟨rfl, hw⟩; subst w'; rw [HI2.out])) | (refine wpList_store_mid rfl 33 _ _ rfl _ _ N (by rfl) (by rw [HN.out]; rfl) HTH.out HIN.out HONE.out ?_))
  refine bodyPost_ret (results_box Tryz.results8 _ _ _ N _ (by rfl) kQ.out Tryz.underlying33 rfl HIN.out) rfl ⟨rfl, ?_⟩
  exact setCells_below (by omega) _ _ _ _ HB.out
set_option maxHeartbeats 8000000 in
theorem iLodOk (A : Array Value) (iN kN : Nat) (b off n c13 : Nat) (x13 : A[13]? = some (.slice (some ⟨b, off, none⟩) n c13)) (hn : n ≤ 1048576) (hi : iN < n) (fb foff fn fc : Nat) (hfn : fn ≤ 1048576) (hk : kN < fn) (w : World) (hb : b < w.heap.size) (hfb : fb < w.heap.size) (cs16 c5 : List Value) (h16 : cs16.length = 16) (h5 : c5.length = 5) (hrg : w.rangeAt b (off + iN * 16) cs16) (hr5 : w.rangeAt fb (foff + kN * 5) c5) (q9 : w.cell? ⟨b, off + iN * 16 + 9, none⟩ = some (.slice (some ⟨fb, foff, none⟩) fn fc)) (hA : A.size = 14) (y0 y1 : Int) (y2 y3 y4 : Bool) (y5 y6 y7 y8 y9 y10 : Int) (ld : List Int) (hw : SRWf (0, (y0, y1, y2, y3, y4, y5, y6, y7, y8, y9, y10, ld, ()), ())) (hF : ∀ W, Below w.heap.size w W → Calls Tryz.prog 26 #[.agg A] W fun e w' => e = .returned (.int .i64 0) ∧ Below W.heap.size W w')
    (hLO : ∀ W, Below w.heap.size w W → Calls Tryz.prog 29 #[.agg A, .agg cs16.toArray, .int .i64 (kN : Int)] W fun e w' => ∃ u, e = .returned (.agg #[.int .i64 y0, .int .i64 y1, .bool y2, .bool y3, .bool y4, .int .i64 y5, .int .i64 y6, .int .i64 y7, .int .i64 y8, .int .i64 y9, .int .i64 y10, u]) ∧ Own w' W.heap.size w'.heap.size u8s ld [u] ∧ Below W.heap.size W w') :
    Calls Tryz.prog 8 #[.agg A, .int .i64 (iN : Int), .int .i64 (kN : Int)] w fun e w' => ∃ N : Array Value, e = .returned (.agg N) ∧ Own w' w.heap.size w'.heap.size shSR (0, (y0, y1, y2, y3, y4, y5, y6, y7, y8, y9, y10, ld, ()), ()) N.toList ∧ Below w.heap.size w w' := by
  have HI1 : Hid (inD (iN : Int) 0 ((n : Int) - 1) = true) := by show _ = _; simp [inD]; omega
  have hiI : (iN : Int) < (n : Int) := by omega
  have hi0 : (0 : Int) ≤ (iN : Int) := by omega
  have HI2 : Hid (inD (kN : Int) 0 ((fn : Int) - 1) = true) := by show _ = _; simp [inD]; omega
  have hkI : (kN : Int) < (fn : Int) := by omega
  have hk0 : (0 : Int) ≤ (kN : Int) := by omega
  have HF : Hid _ := hF
  have HLO : Hid _ := hLO
  have HWF : Hid _ := hw
  have HIX : Hid ((Tryz.prog.info? 66).map (·.size) = some cs16.length) := by show _ = _; rw [h16]; exact (by kernel_rfl : (Tryz.prog.info? 66).map (·.size) = some 16)
  have HI5 : Hid ((Tryz.prog.info? 70).map (·.size) = some c5.length) := by show _ = _; rw [h5]; exact (by kernel_rfl : (Tryz.prog.info? 70).map (·.size) = some 5)
  have HRG16 : Hid _ := hrg
  have HRG5 : Hid _ := hr5
  clear hF hLO hw h16 h5 hrg hr5
  have HRGX : Hid (∀ W : World, (∀ o, W.cell? ⟨w.heap.size, o, none⟩ = A[o]?) → Hid (W.rangeAt w.heap.size 0 A.toList)) := fun W hk => bx_range hk
  have HI : Hid ((Tryz.prog.info? 40).map (·.size) = some A.toList.length) := by show _ = _; rw [Array.length_toList, hA]; exact (by kernel_rfl : (Tryz.prog.info? 40).map (·.size) = some 14)
  clear hA
  go_enter Tryz.func8, Tryz.ntmps8
  go_upto_region 1 with fail
  have HRG := HRGX.out ((w.alloc (.cells A 40)).alloc (.cells #[.int .i64 0, .int .i64 0, .int .i64 0, .bool false, .bool false, .bool false, .int .i64 0, .int .i64 0, .int .i64 0, .int .i64 0, .int .i64 0, .int .i64 0, .slice none 0 0] 33)) (fun o => by simp [go_sem])
  go_wp2_with (refine wpList_load_mid rfl 40 _ rfl _ _ (by rfl) A.toList _ HRG.out Tryz.underlying40 rfl HI.out ?_)
  refine (HF.out _ (by go_grown)).mono ?_
  rintro e w1 ⟨rfl, hb⟩
  obtain ⟨kA, kR, fR, hb1, zR⟩ := two_boxes hb
  have HB : Hid (Below w.heap.size w w1) := hb1
  have zA : w.heap.size < w1.heap.size := by omega
  clear hb hb1 HRG HF
  have q9W : w1.cell? ⟨b, off + iN * 16 + 9, none⟩ = some (.slice (some ⟨fb, foff, none⟩) fn fc) := (HB.out.cell (p := ⟨b, off + iN * 16 + 9, none⟩) hb).trans q9
  have hbB := hb
  clear hb
  go_upto_region 6 with (first | (go_at_call 27; refine (iPlaceInS _ _ _ _ (by omega) _).mono ?_; rintro e w' ⟨rfl, hw⟩; subst w'; rw [HI1.out]) | (go_at_call 28; refine (iPlaceInF _ _ _ _ (by omega) _).mono ?_; rintro e w' ⟨rfl, hw⟩; subst w'; rw [HI2.out]))
  have HB0 : Hid (Below w.heap.size w w1) := HB.out
  have kA0 := kA
  have zA0 := zA
  refine wp_region_noPanic ?_
  refine Goes.start (S := fun w' => Below w1.heap.size w1 w') (z := 9) (by kernel_rfl) ?_
  have hb : Below w1.heap.size w1 w1.drew := Below.drew (Below.refl _ _)
  generalize hWW : w1.drew = W5 at hb ⊢
  clear hWW
  have HS0 : Hid (Below w1.heap.size w1 W5) := hb
  replace kA := bx_below kA zA hb
  replace zA := Nat.lt_of_lt_of_le zA hb.size
  replace kR := bx_below kR zR hb
  replace fR := bxF fR hb zR
  replace zR := Nat.lt_of_lt_of_le zR hb.size
  replace HB : Hid (Below w.heap.size w W5) := HB.out.trans (hb.mono HB.out.size)
  clear hb
  refine Goes.take (i := 0) (oi := ?oi11) (x := .agg (A.toList).toArray) ?ho11 (by kernel_rfl) (by kernel_rfl) (by kernel_rfl) (by kernel_rfl) (fun _ _ _ h => h) ?hy11 HS0.out ?rest11
  case ho11 => (simp only [List.getElem?_toArray, List.getElem?_cons_zero]; rfl)
  case hy11 => exact yieldsIf_load_mid (by rfl) 40 _ rfl (w.heap.size) (0) (by rfl) (A.toList) _ (fun w' hSw => bx_range (fun o => (hSw.cell (p := ⟨w.heap.size, o, none⟩) zA0).trans (kA0 o))) Tryz.underlying40 rfl HI.out
  case rest11 =>
  (try simp only [Act.put, List.setIfInBounds_toArray, List.set_cons_zero, List.set_cons_succ])
  refine Goes.take (i := 1) (oi := ?oi12) (x := ?vx12) ?ho12 (by kernel_rfl) (by kernel_rfl) (by kernel_rfl) (by kernel_rfl) (fun _ _ _ h => h) (Or.inl ⟨?hw12, ?hy12⟩) HS0.out ?rest12
  case ho12 => (simp only [List.getElem?_toArray, List.getElem?_cons_succ, List.getElem?_cons_zero]; rfl)
  case hw12 => rfl
  case hy12 => (intro w' hSw; have jA := fun o => (hSw.cell (p := ⟨w.heap.size, o, none⟩) zA0).trans (kA0 o); have j9 := ((HB0.out.trans (hSw.mono HB0.out.size)).cell (p := ⟨b, off + iN * 16 + 9, none⟩) hbB).trans q9; go_simp; (try with_reducible rfl))
  case rest12 =>
  (try simp only [Act.put, List.setIfInBounds_toArray, List.set_cons_zero, List.set_cons_succ])
  refine Goes.take (i := 2) (oi := ?oi13) (x := ?vx13) ?ho13 (by kernel_rfl) (by kernel_rfl) (by kernel_rfl) (by kernel_rfl) (fun _ _ _ h => h) (Or.inl ⟨?hw13, ?hy13⟩) HS0.out ?rest13
  case ho13 => (simp only [List.getElem?_toArray, List.getElem?_cons_succ, List.getElem?_cons_zero]; rfl)
  case hw13 => rfl
  case hy13 => (intro w' hSw; have jA := fun o => (hSw.cell (p := ⟨w.heap.size, o, none⟩) zA0).trans (kA0 o); have j9 := ((HB0.out.trans (hSw.mono HB0.out.size)).cell (p := ⟨b, off + iN * 16 + 9, none⟩) hbB).trans q9; go_simp; (try with_reducible rfl))
  case rest13 =>
  (try simp only [Act.put, List.setIfInBounds_toArray, List.set_cons_zero, List.set_cons_succ])
  refine Goes.take (i := 3) (oi := ?oi14) (x := ?vx14) ?ho14 (by kernel_rfl) (by kernel_rfl) (by kernel_rfl) (by kernel_rfl) (fun _ _ _ h => h) (Or.inl ⟨?hw14, ?hy14⟩) HS0.out ?rest14
  case ho14 => (simp only [List.getElem?_toArray, List.getElem?_cons_succ, List.getElem?_cons_zero]; rfl)
  case hw14 => rfl
  case hy14 => (intro w' hSw; have jA := fun o => (hSw.cell (p := ⟨w.heap.size, o, none⟩) zA0).trans (kA0 o); have j9 := ((HB0.out.trans (hSw.mono HB0.out.size)).cell (p := ⟨b, off + iN * 16 + 9, none⟩) hbB).trans q9; go_simp; (try with_reducible rfl))
  case rest14 =>
  (try simp only [Act.put, List.setIfInBounds_toArray, List.set_cons_zero, List.set_cons_succ])
  refine Goes.take (i := 4) (oi := ?oi15) (x := ?vx15) ?ho15 (by kernel_rfl) (by kernel_rfl) (by kernel_rfl) (by kernel_rfl) (fun _ _ _ h => h) (Or.inl ⟨?hw15, ?hy15⟩) HS0.out ?rest15
  case ho15 => (simp only [List.getElem?_toArray, List.getElem?_cons_succ, List.getElem?_cons_zero]; rfl)
  case hw15 => rfl
  case hy15 => (intro w' hSw; have jA := fun o => (hSw.cell (p := ⟨w.heap.size, o, none⟩) zA0).trans (kA0 o); have j9 := ((HB0.out.trans (hSw.mono HB0.out.size)).cell (p := ⟨b, off + iN * 16 + 9, none⟩) hbB).trans q9; go_simp; (try with_reducible rfl))
  case rest15 =>
  (try simp only [Act.put, List.setIfInBounds_toArray, List.set_cons_zero, List.set_cons_succ])
  refine Goes.take (i := 5) (oi := ?oi16) (x := .agg (cs16).toArray) ?ho16 (by kernel_rfl) (by kernel_rfl) (by kernel_rfl) (by kernel_rfl) (fun _ _ _ h => h) ?hy16 HS0.out ?rest16
  case ho16 => (simp only [List.getElem?_toArray, List.getElem?_cons_succ, List.getElem?_cons_zero]; rfl)
  case hy16 => exact yieldsIf_load_mid (by rfl) 66 _ rfl (b) (off + iN * 16) (by rfl) (cs16) _ (fun w' hSw => range_below HRG16.out (HB0.out.trans (hSw.mono HB0.out.size)) hbB) Tryz.underlying66 rfl HIX.out
  case rest16 =>
  (try simp only [Act.put, List.setIfInBounds_toArray, List.set_cons_zero, List.set_cons_succ])
  refine Goes.take (i := 6) (oi := ?oi17) (x := ?vx17) ?ho17 (by kernel_rfl) (by kernel_rfl) (by kernel_rfl) (by kernel_rfl) (fun _ _ _ h => h) (Or.inl ⟨?hw17, ?hy17⟩) HS0.out ?rest17
  case ho17 => (simp only [List.getElem?_toArray, List.getElem?_cons_succ, List.getElem?_cons_zero]; rfl)
  case hw17 => rfl
  case hy17 => (intro w' hSw; have jA := fun o => (hSw.cell (p := ⟨w.heap.size, o, none⟩) zA0).trans (kA0 o); have j9 := ((HB0.out.trans (hSw.mono HB0.out.size)).cell (p := ⟨b, off + iN * 16 + 9, none⟩) hbB).trans q9; go_simp; (try with_reducible rfl))
  case rest17 =>
  (try simp only [Act.put, List.setIfInBounds_toArray, List.set_cons_zero, List.set_cons_succ])
  refine Goes.all (rs := [7]) (by kernel_rfl) (by simp) ?_
  refine Ups.cons (i := 7) (o := ?oo18) ?ho18 (fun KK hKK => ?stp18) Ups.nil
  case ho18 => (simp only [List.getElem?_toArray, List.getElem?_cons_succ, List.getElem?_cons_zero]; rfl)
  case stp18 =>
  go_simp
  go_at_call 29
  refine (HLO.out _ HB.out).mono ?_
  rintro e W6 ⟨u, rfl, ho, hbq⟩
  have hb := hbq
  have HS1 : Hid (Below w1.heap.size w1 W6) := HS0.out.trans (hbq.mono HS0.out.size)
  clear hbq
  obtain ⟨hY, ehY⟩ : ∃ x, x = W5.heap.size := ⟨_, rfl⟩
  obtain ⟨tY, etY⟩ : ∃ x, x = W6.heap.size := ⟨_, rfl⟩
  have lAY : w.heap.size < hY := by rw [ehY]; exact zA
  have lRY : w.heap.size + 1 < hY := by rw [ehY]; exact zR
  have mY : hY ≤ tY := by rw [ehY, etY]; exact hb.size
  replace kA := bx_below kA zA hb
  replace zA := Nat.lt_of_lt_of_le zA hb.size
  replace kR := bx_below kR zR hb
  replace fR := bxF fR hb zR
  replace zR := Nat.lt_of_lt_of_le zR hb.size
  replace HB : Hid (Below w.heap.size w W6) := HB.out.trans (hb.mono HB.out.size)
  clear hb
  rw [← ehY, ← etY] at ho
  have lY : tY ≤ W6.heap.size := by omega
  have Y : Hid (Own W6 hY tY u8s ld [u]) := ho
  clear ho ehY etY
  dsimp only
  refine hKK.out _ _ (Or.inr HS1.out) ?_
  clear hKK KK
  (try simp only [Act.put, List.setIfInBounds_toArray, List.set_cons_zero, List.set_cons_succ])
  obtain ⟨N, hN⟩ : ∃ N : Array Value, N = #[.int .i64 0, .int .i64 y0, .int .i64 y1, .bool y2, .bool y3, .bool y4, .int .i64 y5, .int .i64 y6, .int .i64 y7, .int .i64 y8, .int .i64 y9, .int .i64 y10, u] := ⟨_, rfl⟩
  have HN : Hid _ := hN
  have hNz : N.size = 13 := by rw [hN]; rfl
  have HIN : Hid ((Tryz.prog.info? 33).map (·.size) = some N.size) := by show _ = _; rw [hNz]; exact (by kernel_rfl : (Tryz.prog.info? 33).map (·.size) = some 13)
  have HNZ : Hid _ := hNz
  have HRES : Hid (Own W6 hY tY shSR (0, (y0, y1, y2, y3, y4, y5, y6, y7, y8, y9, y10, ld, ()), ()) N.toList) := by show Own _ _ _ _ _ _; rw [hN]; exact own_SRs (by omega) HWF.out Y.out
  have HONE : Hid (N.all (·.oneCell') = true) := rd_all (s := shSR) (HRES.out.rd (Nat.le_refl _))
  have HTH : Hid (W6.there (w.heap.size + 1) 0 N.size) := bx_there kR fR (by rw [HNZ.out]; rfl)
  have kQ : Hid (∀ o, (W6.setCells (w.heap.size + 1) 0 N.toList).cell? ⟨w.heap.size + 1, o, none⟩ = N[o]?) := bx_setCells kR (by rw [HNZ.out]; rfl)
  clear hN hNz
  refine Goes.take (i := 8) (oi := ?oi19) (x := ?vx19) ?ho19 (by kernel_rfl) (by kernel_rfl) (by kernel_rfl) (by kernel_rfl) (fun _ _ _ h => h) (Or.inl ⟨?hw19, ?hy19⟩) HS1.out ?rest19
  case ho19 => (simp only [List.getElem?_toArray, List.getElem?_cons_succ, List.getElem?_cons_zero]; rfl)
  case hw19 => rfl
  case hy19 => (intro w' hSw; have jA := fun o => (hSw.cell (p := ⟨w.heap.size, o, none⟩) zA0).trans (kA0 o); have j9 := ((HB0.out.trans (hSw.mono HB0.out.size)).cell (p := ⟨b, off + iN * 16 + 9, none⟩) hbB).trans q9; go_simp; (try with_reducible rfl))
  case rest19 =>
  (try simp only [Act.put, List.setIfInBounds_toArray, List.set_cons_zero, List.set_cons_succ])
  refine Goes.all (rs := [9]) (by kernel_rfl) (by simp) ?_
  refine Ups.cons (i := 9) (o := ?oo20) ?ho20 (fun KK hKK => ?stp20) Ups.nil
  case ho20 => (simp only [List.getElem?_toArray, List.getElem?_cons_succ, List.getElem?_cons_zero]; rfl)
  case stp20 =>
  rw [if_pos (by rfl)]
  refine wp_store_mid 33 _ _ rfl _ _ N (by rfl) (by rw [HN.out]; rfl) HTH.out HIN.out HONE.out ?_
  refine hKK.out _ _ (Or.inl rfl) ?_
  clear hKK KK
  (try simp only [Act.put])
  refine Goes.done (by kernel_rfl) ?_ _
  refine NoPanic.normal ?_
  go_wp2_with fail
  refine bodyPost_ret (results_box Tryz.results8 _ _ _ N _ (by rfl) kQ.out Tryz.underlying33 rfl HIN.out) rfl ⟨N, rfl, ?_, ?_⟩
  · refine Own.mono (Own.keep HRES.out fun b hb hlt => setCells_block (by omega) _ _ _) (by omega) (by rw [setCells_size]; omega)
  · exact setCells_below (by omega) _ _ _ _ HB.out
theorem iLoadSegment (c : DConn) (A : Array Value) (i k : Int) (w : World) (B : Nat) (hr : shConn.Rd w B c A.toList) (hB : B ≤ w.heap.size) (hT : totConn c ≤ 1048576) :
    Calls Tryz.prog 8 #[.agg A, .int .i64 i, .int .i64 k] w fun e w' => ∃ N : Array Value, e = .returned (.agg N) ∧ Own w' w.heap.size w'.heap.size shSR (lodV c i k) N.toList ∧ Below w.heap.size w w' := by
  have HF : ∀ W, Below w.heap.size w W → Calls Tryz.prog 26 #[.agg A] W fun e w' => e = .returned (.int .i64 (connF c)) ∧ Below W.heap.size W w' := fun W hW => iConnFault c A W B (Sh.Rd.below hr hB hW) (Nat.le_trans hB hW.size) hT
  have hA : A.size = 14 := rd_size hr
  unfold lodV
  by_cases hC : connF c = 0
  case neg =>
    rw [if_neg hC]
    exact (iLodC A i k _ hC w hA HF).mono (by rintro e w' ⟨rfl, hb⟩; exact ⟨_, rfl, own_SR (x := (connF c, zSegm, ())) (segz_wf (connF_wf c)) rfl, hb⟩)
  rw [if_pos hC]
  rw [hC] at HF
  obtain ⟨a13, c13, x13, hsn⟩ : ∃ a13 c13, A[13]? = some (.slice a13 c.subs.length c13) ∧ c.subs.length ≤ 1048576 := by obtain ⟨y0, y1, y2, y3, y4, d5, y6, y7, y8, d9, y10, y11, l, ⟨⟩⟩ := c; obtain ⟨a5, c5, a9, c9, a9', c9', a12, c12, eA, -⟩ := rd_Conn hr; exact ⟨a12, c12, get_of eA 13, by have h2 : d5.length + gtTot d9 + (l.length + fsum totSub l) ≤ 1048576 := hT; show l.length ≤ _; omega⟩
  by_cases hI : inD i 0 ((c.subs.length : Int) - 1) = true
  case neg =>
    rw [if_neg hI]
    exact (iLod1 A i k a13 _ c13 x13 hsn (by simpa using hI) w hA HF).mono (by rintro e w' ⟨rfl, hb⟩; exact ⟨_, rfl, own_SR (x := (4, zSegm, ())) (segz_wf (by decide)) rfl, hb⟩)
  rw [if_pos hI]
  obtain ⟨iN, rfl⟩ : ∃ iN : Nat, i = iN := ⟨i.toNat, by simp [inD] at hI; omega⟩
  have hi : iN < c.subs.length := by simp [inD] at hI; omega
  have hsub : subI c (iN : Int) = c.subs[iN] := by unfold subI; rw [Int.toNat_natCast, List.getD_eq_getElem?_getD, List.getElem?_eq_getElem hi]; rfl
  rw [hsub]
  have hsF : subF c.subs[iN] = 0 := subs_ok _ _ (conn_subs hC) iN hi
  obtain ⟨cs16, b, off, n, cap, hsl, hbB, hlen, hrg, hrs, hln⟩ := sub_of hr hi
  subst hln
  obtain ⟨fa, fc, e9, hfl⟩ := sub_flL hrs
  have q9 := hrg 9 _ e9
  have hfn : c.subs[iN].snd.2.2.2.1.length ≤ 1048576 := by have h : c.subs[iN].snd.2.2.2.1.length ≤ 12 := (snd_ok (subF_parts hsF).1).2.2.2; omega
  by_cases hK : inD k 0 ((c.subs[iN].snd.2.2.2.1.length : Int) - 1) = true
  case neg =>
    rw [if_neg hK]
    exact (iLod2 A iN k b off _ cap hsl hsn hi fa _ fc hfn (by simpa using hK) w (by omega) q9 hA HF).mono (by rintro e w' ⟨rfl, hb⟩; exact ⟨_, rfl, own_SR (x := (4, zSegm, ())) (segz_wf (by decide)) rfl, hb⟩)
  rw [if_pos hK]
  obtain ⟨kN, rfl⟩ : ∃ kN : Nat, k = kN := ⟨k.toNat, by simp [inD] at hK; omega⟩
  have hk : kN < c.subs[iN].snd.2.2.2.1.length := by simp [inD] at hK; omega
  have hfI : flI c.subs[iN] (kN : Int) = c.subs[iN].snd.2.2.2.1[kN] := by unfold flI; rw [Int.toNat_natCast, List.getD_eq_getElem?_getD, List.getElem?_eq_getElem hk]; rfl
  rw [hfI]
  obtain ⟨fb, foff, c5, la, lc, ea, hfb, h5, hr5, hrf, g0, g1, g2, hrb, hnil⟩ := fl_get hfl hk
  subst ea
  exact iLodOk A iN kN b off _ cap hsl hsn hi fb foff _ fc hfn hk w (by omega) (by omega) cs16 c5 hlen h5 hrg hr5 q9 hA _ _ _ _ _ _ _ _ _ _ _ _ (lodS_wf hr hT hrs hsF hk) HF (fun W hW => iLoadOf c c.subs[iN] A cs16.toArray kN W B (Sh.Rd.below hr hB hW) (Sh.Rd.below (s := shSub) hrs hB hW) (Nat.le_trans hB hW.size) hT (subs_tot hT hi) hsF hk)
set_option maxHeartbeats 2000000 in
theorem sLodC (A : Array Value) (i k C : Int) (hC : C ≠ 0) (w : World) (hA : A.size = 14) (hF : ∀ W, Below w.heap.size w W → (∀ o, W.cell? ⟨w.heap.size, o, none⟩ = A[o]?) → Calls Tryz.prog 20 #[.pointer (some ⟨w.heap.size, 0, none⟩)] W fun e w' => e = .returned (.int .i64 C) ∧ Below W.heap.size W w') :
    Calls Tryz.prog 6 #[.agg A, .int .i64 i, .int .i64 k] w fun e w' => e = .returned (.agg #[.int .i64 C, .int .i64 0, .int .i64 0, .bool false, .bool false, .bool false, .int .i64 0, .int .i64 0, .int .i64 0, .int .i64 0, .int .i64 0, .int .i64 0, .slice none 0 0]) ∧ Below w.heap.size w w' := by
  have hC' : (C != 0) = true := by simp [hC]
  have HF : Hid _ := hF
  clear hF hC
  clear hA
  obtain ⟨N, hN⟩ : ∃ N : Array Value, N = #[.int .i64 C, .int .i64 0, .int .i64 0, .bool false, .bool false, .bool false, .int .i64 0, .int .i64 0, .int .i64 0, .int .i64 0, .int .i64 0, .int .i64 0, .slice none 0 0] := ⟨_, rfl⟩
  have HN : Hid _ := hN
  have hNz : N.size = 13 := by rw [hN]; rfl
  have HIN : Hid ((Tryz.prog.info? 33).map (·.size) = some N.size) := by show _ = _; rw [hNz]; exact (by kernel_rfl : (Tryz.prog.info? 33).map (·.size) = some 13)
  have HONE : Hid (N.all (·.oneCell') = true) := by show _ = _; rw [hN]; simp [Value.oneCell']
  have HNZ : Hid _ := hNz
  rw [← hN]
  clear hN hNz
  go_enter Tryz.func6, Tryz.ntmps6
  go_wp2_with fail
  refine (HF.out _ (by go_grown) (fun o => by simp [go_sem])).mono ?_
  rintro e w1 ⟨rfl, hb⟩
  obtain ⟨kA, kR, fR, hb1, zR⟩ := two_boxes hb
  have HB : Hid (Below w.heap.size w w1) := hb1
  have zA : w.heap.size < w1.heap.size := by omega
  clear hb hb1 HF
  have HTH : Hid (w1.there (w.heap.size + 1) 0 N.size) := bx_there kR fR (by rw [HNZ.out]; rfl)
  have kQ : Hid (∀ o, (w1.setCells (w.heap.size + 1) 0 N.toList).cell? ⟨w.heap.size + 1, o, none⟩ = N[o]?) := bx_setCells kR (by rw [HNZ.out]; rfl)
  go_wp2_with (refine wpList_store_mid rfl 33 _ _ rfl _ _ N (by rfl) (by rw [HN.out]; rfl) HTH.out HIN.out HONE.out ?_)
  refine bodyPost_ret (results_box Tryz.results6 _ _ _ N _ (by rfl) kQ.out Tryz.underlying33 rfl HIN.out) rfl ⟨rfl, ?_⟩
  exact setCells_below (by omega) _ _ _ _ HB.out
set_option maxHeartbeats 2000000 in
theorem sLod1 (A : Array Value) (i k : Int) (a13 : Option Addr) (n c13 : Nat) (x13 : A[13]? = some (.slice a13 n c13)) (hn : n ≤ 1048576) (hi : inD i 0 ((n : Int) - 1) = false) (w : World) (hA : A.size = 14) (hF : ∀ W, Below w.heap.size w W → (∀ o, W.cell? ⟨w.heap.size, o, none⟩ = A[o]?) → Calls Tryz.prog 20 #[.pointer (some ⟨w.heap.size, 0, none⟩)] W fun e w' => e = .returned (.int .i64 0) ∧ Below W.heap.size W w') :
    Calls Tryz.prog 6 #[.agg A, .int .i64 i, .int .i64 k] w fun e w' => e = .returned (.agg #[.int .i64 4, .int .i64 0, .int .i64 0, .bool false, .bool false, .bool false, .int .i64 0, .int .i64 0, .int .i64 0, .int .i64 0, .int .i64 0, .int .i64 0, .slice none 0 0]) ∧ Below w.heap.size w w' := by
  have HI1 : Hid _ := hi
  have HF : Hid _ := hF
  clear hF hi
  have hw1 : IntKind.i64.wrap ((n : Int) - 1) = (n : Int) - 1 := by simp only [IntKind.wrap, IntKind.bits, IntKind.signed]; simp; omega
  clear hA
  obtain ⟨N, hN⟩ : ∃ N : Array Value, N = #[.int .i64 4, .int .i64 0, .int .i64 0, .bool false, .bool false, .bool false, .int .i64 0, .int .i64 0, .int .i64 0, .int .i64 0, .int .i64 0, .int .i64 0, .slice none 0 0] := ⟨_, rfl⟩
  have HN : Hid _ := hN
  have hNz : N.size = 13 := by rw [hN]; rfl
  have HIN : Hid ((Tryz.prog.info? 33).map (·.size) = some N.size) := by show _ = _; rw [hNz]; exact (by kernel_rfl : (Tryz.prog.info? 33).map (·.size) = some 13)
  have HONE : Hid (N.all (·.oneCell') = true) := by show _ = _; rw [hN]; simp [Value.oneCell']
  have HNZ : Hid _ := hNz
  rw [← hN]
  clear hN hNz
  go_enter Tryz.func6, Tryz.ntmps6
  go_wp2_with fail
  refine (HF.out _ (by go_grown) (fun o => by simp [go_sem])).mono ?_
  rintro e w1 ⟨rfl, hb⟩
  obtain ⟨kA, kR, fR, hb1, zR⟩ := two_boxes hb
  have HB : Hid (Below w.heap.size w w1) := hb1
  have zA : w.heap.size < w1.heap.size := by omega
  clear hb hb1 HF
  have HTH : Hid (w1.there (w.heap.size + 1) 0 N.size) := bx_there kR fR (by rw [HNZ.out]; rfl)
  have kQ : Hid (∀ o, (w1.setCells (w.heap.size + 1) 0 N.toList).cell? ⟨w.heap.size + 1, o, none⟩ = N[o]?) := bx_setCells kR (by rw [HNZ.out]; rfl)
  go_wp2_with (first | (go_at_call 21; refine (sInD _ _ _ _).mono ?_; rintro e w' ⟨rfl, hw⟩; subst w'; rw [HI1.out]) | (refine wpList_store_mid rfl 33 _ _ rfl _ _ N (by rfl) (by rw [HN.out]; rfl) HTH.out HIN.out HONE.out ?_))
  refine bodyPost_ret (results_box Tryz.results6 _ _ _ N _ (by rfl) kQ.out Tryz.underlying33 rfl HIN.out) rfl ⟨rfl, ?_⟩
  exact setCells_below (by omega) _ _ _ _ HB.out
set_option maxHeartbeats 2000000 in
theorem sLod2 (A : Array Value) (iN : Nat) (k : Int) (b off n c13 : Nat) (x13 : A[13]? = some (.slice (some ⟨b, off, none⟩) n c13)) (hn : n ≤ 1048576) (hi : iN < n) (fa : Option Addr) (fn fc : Nat) (hfn : fn ≤ 1048576) (hk : inD k 0 ((fn : Int) - 1) = false) (w : World) (hb : b < w.heap.size) (q9 : w.cell? ⟨b, off + iN * 16 + 9, none⟩ = some (.slice fa fn fc)) (hA : A.size = 14) (hF : ∀ W, Below w.heap.size w W → (∀ o, W.cell? ⟨w.heap.size, o, none⟩ = A[o]?) → Calls Tryz.prog 20 #[.pointer (some ⟨w.heap.size, 0, none⟩)] W fun e w' => e = .returned (.int .i64 0) ∧ Below W.heap.size W w') :
    Calls Tryz.prog 6 #[.agg A, .int .i64 (iN : Int), .int .i64 k] w fun e w' => e = .returned (.agg #[.int .i64 4, .int .i64 0, .int .i64 0, .bool false, .bool false, .bool false, .int .i64 0, .int .i64 0, .int .i64 0, .int .i64 0, .int .i64 0, .int .i64 0, .slice none 0 0]) ∧ Below w.heap.size w w' := by
  have HI1 : Hid (inD (iN : Int) 0 ((n : Int) - 1) = true) := by show _ = _; simp [inD]; omega
  have hiI : (iN : Int) < (n : Int) := by omega
  have hi0 : (0 : Int) ≤ (iN : Int) := by omega
  have HI2 : Hid _ := hk
  have HF : Hid _ := hF
  clear hF hk
  have hw1 : IntKind.i64.wrap ((n : Int) - 1) = (n : Int) - 1 := by simp only [IntKind.wrap, IntKind.bits, IntKind.signed]; simp; omega
  have hw2 : IntKind.i64.wrap ((fn : Int) - 1) = (fn : Int) - 1 := by simp only [IntKind.wrap, IntKind.bits, IntKind.signed]; simp; omega
  clear hA
  obtain ⟨N, hN⟩ : ∃ N : Array Value, N = #[.int .i64 4, .int .i64 0, .int .i64 0, .bool false, .bool false, .bool false, .int .i64 0, .int .i64 0, .int .i64 0, .int .i64 0, .int .i64 0, .int .i64 0, .slice none 0 0] := ⟨_, rfl⟩
  have HN : Hid _ := hN
  have hNz : N.size = 13 := by rw [hN]; rfl
  have HIN : Hid ((Tryz.prog.info? 33).map (·.size) = some N.size) := by show _ = _; rw [hNz]; exact (by kernel_rfl : (Tryz.prog.info? 33).map (·.size) = some 13)
  have HONE : Hid (N.all (·.oneCell') = true) := by show _ = _; rw [hN]; simp [Value.oneCell']
  have HNZ : Hid _ := hNz
  rw [← hN]
  clear hN hNz
  go_enter Tryz.func6, Tryz.ntmps6
  go_wp2_with fail
  refine (HF.out _ (by go_grown) (fun o => by simp [go_sem])).mono ?_
  rintro e w1 ⟨rfl, hb⟩
  obtain ⟨kA, kR, fR, hb1, zR⟩ := two_boxes hb
  have HB : Hid (Below w.heap.size w w1) := hb1
  have zA : w.heap.size < w1.heap.size := by omega
  clear hb hb1 HF
  have q9W : w1.cell? ⟨b, off + iN * 16 + 9, none⟩ = some (.slice fa fn fc) := (HB.out.cell (p := ⟨b, off + iN * 16 + 9, none⟩) hb).trans q9
  have HTH : Hid (w1.there (w.heap.size + 1) 0 N.size) := bx_there kR fR (by rw [HNZ.out]; rfl)
  have kQ : Hid (∀ o, (w1.setCells (w.heap.size + 1) 0 N.toList).cell? ⟨w.heap.size + 1, o, none⟩ = N[o]?) := bx_setCells kR (by rw [HNZ.out]; rfl)
  go_wp2_with (first | (first | (go_at_call 21; refine (sInD _ _ _ _).mono ?_; rintro e w' ⟨rfl, hw⟩; subst w'; rw [HI1.out]) | (go_at_call 21; refine (sInD _ _ _ _).mono ?_; rintro e w' ⟨rfl, hw⟩; subst w'; rw [HI2.out])) | (refine wpList_store_mid rfl 33 _ _ rfl _ _ N (by rfl) (by rw [HN.out]; rfl) HTH.out HIN.out HONE.out ?_))
  refine bodyPost_ret (results_box Tryz.results6 _ _ _ N _ (by rfl) kQ.out Tryz.underlying33 rfl HIN.out) rfl ⟨rfl, ?_⟩
  exact setCells_below (by omega) _ _ _ _ HB.out
set_option maxHeartbeats 8000000 in
theorem sLodOk (A : Array Value) (iN kN : Nat) (b off n c13 : Nat) (x13 : A[13]? = some (.slice (some ⟨b, off, none⟩) n c13)) (hn : n ≤ 1048576) (hi : iN < n) (fb foff fn fc : Nat) (hfn : fn ≤ 1048576) (hk : kN < fn) (w : World) (hb : b < w.heap.size) (hfb : fb < w.heap.size) (cs16 c5 : List Value) (h16 : cs16.length = 16) (h5 : c5.length = 5) (hrg : w.rangeAt b (off + iN * 16) cs16) (hr5 : w.rangeAt fb (foff + kN * 5) c5) (q9 : w.cell? ⟨b, off + iN * 16 + 9, none⟩ = some (.slice (some ⟨fb, foff, none⟩) fn fc)) (hA : A.size = 14) (y0 y1 : Int) (y2 y3 y4 : Bool) (y5 y6 y7 y8 y9 y10 : Int) (ld : List Int) (hw : SRWf (0, (y0, y1, y2, y3, y4, y5, y6, y7, y8, y9, y10, ld, ()), ())) (hF : ∀ W, Below w.heap.size w W → (∀ o, W.cell? ⟨w.heap.size, o, none⟩ = A[o]?) → Calls Tryz.prog 20 #[.pointer (some ⟨w.heap.size, 0, none⟩)] W fun e w' => e = .returned (.int .i64 0) ∧ Below W.heap.size W w')
    (hLO : ∀ W, Below w.heap.size w W → (∀ o, W.cell? ⟨w.heap.size, o, none⟩ = A[o]?) → Calls Tryz.prog 22 #[.pointer (some ⟨w.heap.size, 0, none⟩), .pointer (some ⟨b, off + iN * 16, none⟩), .agg c5.toArray] W fun e w' => ∃ u, e = .returned (.agg #[.int .i64 y0, .int .i64 y1, .bool y2, .bool y3, .bool y4, .int .i64 y5, .int .i64 y6, .int .i64 y7, .int .i64 y8, .int .i64 y9, .int .i64 y10, u]) ∧ Own w' W.heap.size w'.heap.size u8s ld [u] ∧ Below W.heap.size W w') :
    Calls Tryz.prog 6 #[.agg A, .int .i64 (iN : Int), .int .i64 (kN : Int)] w fun e w' => ∃ N : Array Value, e = .returned (.agg N) ∧ Own w' w.heap.size w'.heap.size shSR (0, (y0, y1, y2, y3, y4, y5, y6, y7, y8, y9, y10, ld, ()), ()) N.toList ∧ Below w.heap.size w w' := by
  have HI1 : Hid (inD (iN : Int) 0 ((n : Int) - 1) = true) := by show _ = _; simp [inD]; omega
  have hiI : (iN : Int) < (n : Int) := by omega
  have hi0 : (0 : Int) ≤ (iN : Int) := by omega
  have HI2 : Hid (inD (kN : Int) 0 ((fn : Int) - 1) = true) := by show _ = _; simp [inD]; omega
  have hkI : (kN : Int) < (fn : Int) := by omega
  have hk0 : (0 : Int) ≤ (kN : Int) := by omega
  have HF : Hid _ := hF
  have HLO : Hid _ := hLO
  have HWF : Hid _ := hw
  have HIX : Hid ((Tryz.prog.info? 66).map (·.size) = some cs16.length) := by show _ = _; rw [h16]; exact (by kernel_rfl : (Tryz.prog.info? 66).map (·.size) = some 16)
  have HI5 : Hid ((Tryz.prog.info? 70).map (·.size) = some c5.length) := by show _ = _; rw [h5]; exact (by kernel_rfl : (Tryz.prog.info? 70).map (·.size) = some 5)
  have HRG16 : Hid _ := hrg
  have HRG5 : Hid _ := hr5
  clear hF hLO hw h16 h5 hrg hr5
  have hw1 : IntKind.i64.wrap ((n : Int) - 1) = (n : Int) - 1 := by simp only [IntKind.wrap, IntKind.bits, IntKind.signed]; simp; omega
  have hw2 : IntKind.i64.wrap ((fn : Int) - 1) = (fn : Int) - 1 := by simp only [IntKind.wrap, IntKind.bits, IntKind.signed]; simp; omega
  clear hA
  go_enter Tryz.func6, Tryz.ntmps6
  go_wp2_with fail
  refine (HF.out _ (by go_grown) (fun o => by simp [go_sem])).mono ?_
  rintro e w1 ⟨rfl, hb⟩
  obtain ⟨kA, kR, fR, hb1, zR⟩ := two_boxes hb
  have HB : Hid (Below w.heap.size w w1) := hb1
  have zA : w.heap.size < w1.heap.size := by omega
  clear hb hb1 HF
  have q9W : w1.cell? ⟨b, off + iN * 16 + 9, none⟩ = some (.slice (some ⟨fb, foff, none⟩) fn fc) := (HB.out.cell (p := ⟨b, off + iN * 16 + 9, none⟩) hb).trans q9
  have hbB := hb
  clear hb
  go_upto_region 6 with (first | (go_at_call 21; refine (sInD _ _ _ _).mono ?_; rintro e w' ⟨rfl, hw⟩; subst w'; rw [HI1.out]) | (go_at_call 21; refine (sInD _ _ _ _).mono ?_; rintro e w' ⟨rfl, hw⟩; subst w'; rw [HI2.out]))
  have HB0 : Hid (Below w.heap.size w w1) := HB.out
  have kA0 := kA
  have zA0 := zA
  refine wp_region_noPanic ?_
  refine Goes.start (S := fun w' => Below w1.heap.size w1 w') (z := 16) (by kernel_rfl) ?_
  have hb : Below w1.heap.size w1 w1.drew := Below.drew (Below.refl _ _)
  generalize hWW : w1.drew = W5 at hb ⊢
  clear hWW
  have HS0 : Hid (Below w1.heap.size w1 W5) := hb
  replace kA := bx_below kA zA hb
  replace zA := Nat.lt_of_lt_of_le zA hb.size
  replace kR := bx_below kR zR hb
  replace fR := bxF fR hb zR
  replace zR := Nat.lt_of_lt_of_le zR hb.size
  replace HB : Hid (Below w.heap.size w W5) := HB.out.trans (hb.mono HB.out.size)
  clear hb
  refine Goes.take (i := 0) (oi := ?oi11) (x := ?vx11) ?ho11 (by kernel_rfl) (by kernel_rfl) (by kernel_rfl) (by kernel_rfl) (fun _ _ _ h => h) (Or.inl ⟨?hw11, ?hy11⟩) HS0.out ?rest11
  case ho11 => (simp only [List.getElem?_toArray, List.getElem?_cons_zero]; rfl)
  case hw11 => rfl
  case hy11 => (intro w' hSw; have jA := fun o => (hSw.cell (p := ⟨w.heap.size, o, none⟩) zA0).trans (kA0 o); have j9 := ((HB0.out.trans (hSw.mono HB0.out.size)).cell (p := ⟨b, off + iN * 16 + 9, none⟩) hbB).trans q9; go_simp; (try with_reducible rfl))
  case rest11 =>
  (try simp only [Act.put, List.setIfInBounds_toArray, List.set_cons_zero, List.set_cons_succ])
  refine Goes.take (i := 1) (oi := ?oi12) (x := ?vx12) ?ho12 (by kernel_rfl) (by kernel_rfl) (by kernel_rfl) (by kernel_rfl) (fun _ _ _ h => h) (Or.inl ⟨?hw12, ?hy12⟩) HS0.out ?rest12
  case ho12 => (simp only [List.getElem?_toArray, List.getElem?_cons_succ, List.getElem?_cons_zero]; rfl)
  case hw12 => rfl
  case hy12 => (intro w' hSw; have jA := fun o => (hSw.cell (p := ⟨w.heap.size, o, none⟩) zA0).trans (kA0 o); have j9 := ((HB0.out.trans (hSw.mono HB0.out.size)).cell (p := ⟨b, off + iN * 16 + 9, none⟩) hbB).trans q9; go_simp; (try with_reducible rfl))
  case rest12 =>
  (try simp only [Act.put, List.setIfInBounds_toArray, List.set_cons_zero, List.set_cons_succ])
  refine Goes.take (i := 2) (oi := ?oi13) (x := ?vx13) ?ho13 (by kernel_rfl) (by kernel_rfl) (by kernel_rfl) (by kernel_rfl) (fun _ _ _ h => h) (Or.inl ⟨?hw13, ?hy13⟩) HS0.out ?rest13
  case ho13 => (simp only [List.getElem?_toArray, List.getElem?_cons_succ, List.getElem?_cons_zero]; rfl)
  case hw13 => rfl
  case hy13 => (intro w' hSw; have jA := fun o => (hSw.cell (p := ⟨w.heap.size, o, none⟩) zA0).trans (kA0 o); have j9 := ((HB0.out.trans (hSw.mono HB0.out.size)).cell (p := ⟨b, off + iN * 16 + 9, none⟩) hbB).trans q9; go_simp; (try with_reducible rfl))
  case rest13 =>
  (try simp only [Act.put, List.setIfInBounds_toArray, List.set_cons_zero, List.set_cons_succ])
  refine Goes.take (i := 3) (oi := ?oi14) (x := ?vx14) ?ho14 (by kernel_rfl) (by kernel_rfl) (by kernel_rfl) (by kernel_rfl) (fun _ _ _ h => h) (Or.inl ⟨?hw14, ?hy14⟩) HS0.out ?rest14
  case ho14 => (simp only [List.getElem?_toArray, List.getElem?_cons_succ, List.getElem?_cons_zero]; rfl)
  case hw14 => rfl
  case hy14 => (intro w' hSw; have jA := fun o => (hSw.cell (p := ⟨w.heap.size, o, none⟩) zA0).trans (kA0 o); have j9 := ((HB0.out.trans (hSw.mono HB0.out.size)).cell (p := ⟨b, off + iN * 16 + 9, none⟩) hbB).trans q9; go_simp; (try with_reducible rfl))
  case rest14 =>
  (try simp only [Act.put, List.setIfInBounds_toArray, List.set_cons_zero, List.set_cons_succ])
  refine Goes.take (i := 4) (oi := ?oi15) (x := ?vx15) ?ho15 (by kernel_rfl) (by kernel_rfl) (by kernel_rfl) (by kernel_rfl) (fun _ _ _ h => h) (Or.inl ⟨?hw15, ?hy15⟩) HS0.out ?rest15
  case ho15 => (simp only [List.getElem?_toArray, List.getElem?_cons_succ, List.getElem?_cons_zero]; rfl)
  case hw15 => rfl
  case hy15 => (intro w' hSw; have jA := fun o => (hSw.cell (p := ⟨w.heap.size, o, none⟩) zA0).trans (kA0 o); have j9 := ((HB0.out.trans (hSw.mono HB0.out.size)).cell (p := ⟨b, off + iN * 16 + 9, none⟩) hbB).trans q9; go_simp; (try with_reducible rfl))
  case rest15 =>
  (try simp only [Act.put, List.setIfInBounds_toArray, List.set_cons_zero, List.set_cons_succ])
  refine Goes.take (i := 5) (oi := ?oi16) (x := ?vx16) ?ho16 (by kernel_rfl) (by kernel_rfl) (by kernel_rfl) (by kernel_rfl) (fun _ _ _ h => h) (Or.inl ⟨?hw16, ?hy16⟩) HS0.out ?rest16
  case ho16 => (simp only [List.getElem?_toArray, List.getElem?_cons_succ, List.getElem?_cons_zero]; rfl)
  case hw16 => rfl
  case hy16 => (intro w' hSw; have jA := fun o => (hSw.cell (p := ⟨w.heap.size, o, none⟩) zA0).trans (kA0 o); have j9 := ((HB0.out.trans (hSw.mono HB0.out.size)).cell (p := ⟨b, off + iN * 16 + 9, none⟩) hbB).trans q9; go_simp; (try with_reducible rfl))
  case rest16 =>
  (try simp only [Act.put, List.setIfInBounds_toArray, List.set_cons_zero, List.set_cons_succ])
  refine Goes.take (i := 6) (oi := ?oi17) (x := ?vx17) ?ho17 (by kernel_rfl) (by kernel_rfl) (by kernel_rfl) (by kernel_rfl) (fun _ _ _ h => h) (Or.inl ⟨?hw17, ?hy17⟩) HS0.out ?rest17
  case ho17 => (simp only [List.getElem?_toArray, List.getElem?_cons_succ, List.getElem?_cons_zero]; rfl)
  case hw17 => rfl
  case hy17 => (intro w' hSw; have jA := fun o => (hSw.cell (p := ⟨w.heap.size, o, none⟩) zA0).trans (kA0 o); have j9 := ((HB0.out.trans (hSw.mono HB0.out.size)).cell (p := ⟨b, off + iN * 16 + 9, none⟩) hbB).trans q9; go_simp; (try with_reducible rfl))
  case rest17 =>
  (try simp only [Act.put, List.setIfInBounds_toArray, List.set_cons_zero, List.set_cons_succ])
  refine Goes.take (i := 7) (oi := ?oi18) (x := ?vx18) ?ho18 (by kernel_rfl) (by kernel_rfl) (by kernel_rfl) (by kernel_rfl) (fun _ _ _ h => h) (Or.inl ⟨?hw18, ?hy18⟩) HS0.out ?rest18
  case ho18 => (simp only [List.getElem?_toArray, List.getElem?_cons_succ, List.getElem?_cons_zero]; rfl)
  case hw18 => rfl
  case hy18 => (intro w' hSw; have jA := fun o => (hSw.cell (p := ⟨w.heap.size, o, none⟩) zA0).trans (kA0 o); have j9 := ((HB0.out.trans (hSw.mono HB0.out.size)).cell (p := ⟨b, off + iN * 16 + 9, none⟩) hbB).trans q9; go_simp; (try with_reducible rfl))
  case rest18 =>
  (try simp only [Act.put, List.setIfInBounds_toArray, List.set_cons_zero, List.set_cons_succ])
  refine Goes.take (i := 8) (oi := ?oi19) (x := ?vx19) ?ho19 (by kernel_rfl) (by kernel_rfl) (by kernel_rfl) (by kernel_rfl) (fun _ _ _ h => h) (Or.inl ⟨?hw19, ?hy19⟩) HS0.out ?rest19
  case ho19 => (simp only [List.getElem?_toArray, List.getElem?_cons_succ, List.getElem?_cons_zero]; rfl)
  case hw19 => rfl
  case hy19 => (intro w' hSw; have jA := fun o => (hSw.cell (p := ⟨w.heap.size, o, none⟩) zA0).trans (kA0 o); have j9 := ((HB0.out.trans (hSw.mono HB0.out.size)).cell (p := ⟨b, off + iN * 16 + 9, none⟩) hbB).trans q9; go_simp; (try with_reducible rfl))
  case rest19 =>
  (try simp only [Act.put, List.setIfInBounds_toArray, List.set_cons_zero, List.set_cons_succ])
  refine Goes.take (i := 9) (oi := ?oi20) (x := ?vx20) ?ho20 (by kernel_rfl) (by kernel_rfl) (by kernel_rfl) (by kernel_rfl) (fun _ _ _ h => h) (Or.inl ⟨?hw20, ?hy20⟩) HS0.out ?rest20
  case ho20 => (simp only [List.getElem?_toArray, List.getElem?_cons_succ, List.getElem?_cons_zero]; rfl)
  case hw20 => rfl
  case hy20 => (intro w' hSw; have jA := fun o => (hSw.cell (p := ⟨w.heap.size, o, none⟩) zA0).trans (kA0 o); have j9 := ((HB0.out.trans (hSw.mono HB0.out.size)).cell (p := ⟨b, off + iN * 16 + 9, none⟩) hbB).trans q9; go_simp; (try with_reducible rfl))
  case rest20 =>
  (try simp only [Act.put, List.setIfInBounds_toArray, List.set_cons_zero, List.set_cons_succ])
  refine Goes.take (i := 10) (oi := ?oi21) (x := ?vx21) ?ho21 (by kernel_rfl) (by kernel_rfl) (by kernel_rfl) (by kernel_rfl) (fun _ _ _ h => h) (Or.inl ⟨?hw21, ?hy21⟩) HS0.out ?rest21
  case ho21 => (simp only [List.getElem?_toArray, List.getElem?_cons_succ, List.getElem?_cons_zero]; rfl)
  case hw21 => rfl
  case hy21 => (intro w' hSw; have jA := fun o => (hSw.cell (p := ⟨w.heap.size, o, none⟩) zA0).trans (kA0 o); have j9 := ((HB0.out.trans (hSw.mono HB0.out.size)).cell (p := ⟨b, off + iN * 16 + 9, none⟩) hbB).trans q9; go_simp; (try with_reducible rfl))
  case rest21 =>
  (try simp only [Act.put, List.setIfInBounds_toArray, List.set_cons_zero, List.set_cons_succ])
  refine Goes.take (i := 11) (oi := ?oi22) (x := ?vx22) ?ho22 (by kernel_rfl) (by kernel_rfl) (by kernel_rfl) (by kernel_rfl) (fun _ _ _ h => h) (Or.inl ⟨?hw22, ?hy22⟩) HS0.out ?rest22
  case ho22 => (simp only [List.getElem?_toArray, List.getElem?_cons_succ, List.getElem?_cons_zero]; rfl)
  case hw22 => rfl
  case hy22 => (intro w' hSw; have jA := fun o => (hSw.cell (p := ⟨w.heap.size, o, none⟩) zA0).trans (kA0 o); have j9 := ((HB0.out.trans (hSw.mono HB0.out.size)).cell (p := ⟨b, off + iN * 16 + 9, none⟩) hbB).trans q9; go_simp; (try with_reducible rfl))
  case rest22 =>
  (try simp only [Act.put, List.setIfInBounds_toArray, List.set_cons_zero, List.set_cons_succ])
  refine Goes.take (i := 12) (oi := ?oi23) (x := ?vx23) ?ho23 (by kernel_rfl) (by kernel_rfl) (by kernel_rfl) (by kernel_rfl) (fun _ _ _ h => h) (Or.inl ⟨?hw23, ?hy23⟩) HS0.out ?rest23
  case ho23 => (simp only [List.getElem?_toArray, List.getElem?_cons_succ, List.getElem?_cons_zero]; rfl)
  case hw23 => rfl
  case hy23 => (intro w' hSw; have jA := fun o => (hSw.cell (p := ⟨w.heap.size, o, none⟩) zA0).trans (kA0 o); have j9 := ((HB0.out.trans (hSw.mono HB0.out.size)).cell (p := ⟨b, off + iN * 16 + 9, none⟩) hbB).trans q9; go_simp; (try with_reducible rfl))
  case rest23 =>
  (try simp only [Act.put, List.setIfInBounds_toArray, List.set_cons_zero, List.set_cons_succ])
  refine Goes.take (i := 13) (oi := ?oi24) (x := .agg (c5).toArray) ?ho24 (by kernel_rfl) (by kernel_rfl) (by kernel_rfl) (by kernel_rfl) (fun _ _ _ h => h) ?hy24 HS0.out ?rest24
  case ho24 => (simp only [List.getElem?_toArray, List.getElem?_cons_succ, List.getElem?_cons_zero]; rfl)
  case hy24 => exact yieldsIf_load_mid (by rfl) 70 _ rfl (fb) (foff + kN * 5) (by rfl) (c5) _ (fun w' hSw => range_below HRG5.out (HB0.out.trans (hSw.mono HB0.out.size)) hfb) Tryz.underlying70 rfl HI5.out
  case rest24 =>
  (try simp only [Act.put, List.setIfInBounds_toArray, List.set_cons_zero, List.set_cons_succ])
  refine Goes.all (rs := [14]) (by kernel_rfl) (by simp) ?_
  refine Ups.cons (i := 14) (o := ?oo25) ?ho25 (fun KK hKK => ?stp25) Ups.nil
  case ho25 => (simp only [List.getElem?_toArray, List.getElem?_cons_succ, List.getElem?_cons_zero]; rfl)
  case stp25 =>
  go_simp
  go_at_call 22
  refine (HLO.out _ HB.out kA).mono ?_
  rintro e W6 ⟨u, rfl, ho, hbq⟩
  have hb := hbq
  have HS1 : Hid (Below w1.heap.size w1 W6) := HS0.out.trans (hbq.mono HS0.out.size)
  clear hbq
  obtain ⟨hY, ehY⟩ : ∃ x, x = W5.heap.size := ⟨_, rfl⟩
  obtain ⟨tY, etY⟩ : ∃ x, x = W6.heap.size := ⟨_, rfl⟩
  have lAY : w.heap.size < hY := by rw [ehY]; exact zA
  have lRY : w.heap.size + 1 < hY := by rw [ehY]; exact zR
  have mY : hY ≤ tY := by rw [ehY, etY]; exact hb.size
  replace kA := bx_below kA zA hb
  replace zA := Nat.lt_of_lt_of_le zA hb.size
  replace kR := bx_below kR zR hb
  replace fR := bxF fR hb zR
  replace zR := Nat.lt_of_lt_of_le zR hb.size
  replace HB : Hid (Below w.heap.size w W6) := HB.out.trans (hb.mono HB.out.size)
  clear hb
  rw [← ehY, ← etY] at ho
  have lY : tY ≤ W6.heap.size := by omega
  have Y : Hid (Own W6 hY tY u8s ld [u]) := ho
  clear ho ehY etY
  dsimp only
  refine hKK.out _ _ (Or.inr HS1.out) ?_
  clear hKK KK
  (try simp only [Act.put, List.setIfInBounds_toArray, List.set_cons_zero, List.set_cons_succ])
  obtain ⟨N, hN⟩ : ∃ N : Array Value, N = #[.int .i64 0, .int .i64 y0, .int .i64 y1, .bool y2, .bool y3, .bool y4, .int .i64 y5, .int .i64 y6, .int .i64 y7, .int .i64 y8, .int .i64 y9, .int .i64 y10, u] := ⟨_, rfl⟩
  have HN : Hid _ := hN
  have hNz : N.size = 13 := by rw [hN]; rfl
  have HIN : Hid ((Tryz.prog.info? 33).map (·.size) = some N.size) := by show _ = _; rw [hNz]; exact (by kernel_rfl : (Tryz.prog.info? 33).map (·.size) = some 13)
  have HNZ : Hid _ := hNz
  have HRES : Hid (Own W6 hY tY shSR (0, (y0, y1, y2, y3, y4, y5, y6, y7, y8, y9, y10, ld, ()), ()) N.toList) := by show Own _ _ _ _ _ _; rw [hN]; exact own_SRs (by omega) HWF.out Y.out
  have HONE : Hid (N.all (·.oneCell') = true) := rd_all (s := shSR) (HRES.out.rd (Nat.le_refl _))
  have HTH : Hid (W6.there (w.heap.size + 1) 0 N.size) := bx_there kR fR (by rw [HNZ.out]; rfl)
  have kQ : Hid (∀ o, (W6.setCells (w.heap.size + 1) 0 N.toList).cell? ⟨w.heap.size + 1, o, none⟩ = N[o]?) := bx_setCells kR (by rw [HNZ.out]; rfl)
  clear hN hNz
  refine Goes.take (i := 15) (oi := ?oi26) (x := ?vx26) ?ho26 (by kernel_rfl) (by kernel_rfl) (by kernel_rfl) (by kernel_rfl) (fun _ _ _ h => h) (Or.inl ⟨?hw26, ?hy26⟩) HS1.out ?rest26
  case ho26 => (simp only [List.getElem?_toArray, List.getElem?_cons_succ, List.getElem?_cons_zero]; rfl)
  case hw26 => rfl
  case hy26 => (intro w' hSw; have jA := fun o => (hSw.cell (p := ⟨w.heap.size, o, none⟩) zA0).trans (kA0 o); have j9 := ((HB0.out.trans (hSw.mono HB0.out.size)).cell (p := ⟨b, off + iN * 16 + 9, none⟩) hbB).trans q9; go_simp; (try with_reducible rfl))
  case rest26 =>
  (try simp only [Act.put, List.setIfInBounds_toArray, List.set_cons_zero, List.set_cons_succ])
  refine Goes.all (rs := [16]) (by kernel_rfl) (by simp) ?_
  refine Ups.cons (i := 16) (o := ?oo27) ?ho27 (fun KK hKK => ?stp27) Ups.nil
  case ho27 => (simp only [List.getElem?_toArray, List.getElem?_cons_succ, List.getElem?_cons_zero]; rfl)
  case stp27 =>
  rw [if_pos (by rfl)]
  refine wp_store_mid 33 _ _ rfl _ _ N (by rfl) (by rw [HN.out]; rfl) HTH.out HIN.out HONE.out ?_
  refine hKK.out _ _ (Or.inl rfl) ?_
  clear hKK KK
  (try simp only [Act.put])
  refine Goes.done (by kernel_rfl) ?_ _
  refine NoPanic.normal ?_
  go_wp2_with fail
  refine bodyPost_ret (results_box Tryz.results6 _ _ _ N _ (by rfl) kQ.out Tryz.underlying33 rfl HIN.out) rfl ⟨N, rfl, ?_, ?_⟩
  · refine Own.mono (Own.keep HRES.out fun b hb hlt => setCells_block (by omega) _ _ _) (by omega) (by rw [setCells_size]; omega)
  · exact setCells_below (by omega) _ _ _ _ HB.out
theorem sLoadSegment (c : DConn) (A : Array Value) (i k : Int) (w : World) (B : Nat) (hr : shConn.Rd w B c A.toList) (hB : B ≤ w.heap.size) (hT : totConn c ≤ 1048576) :
    Calls Tryz.prog 6 #[.agg A, .int .i64 i, .int .i64 k] w fun e w' => ∃ N : Array Value, e = .returned (.agg N) ∧ Own w' w.heap.size w'.heap.size shSR (lodV c i k) N.toList ∧ Below w.heap.size w w' := by
  have HF : ∀ W, Below w.heap.size w W → (∀ o, W.cell? ⟨w.heap.size, o, none⟩ = A[o]?) → Calls Tryz.prog 20 #[.pointer (some ⟨w.heap.size, 0, none⟩)] W fun e w' => e = .returned (.int .i64 (connF c)) ∧ Below W.heap.size W w' := fun W hW hk => sL9Fault c A w.heap.size 0 W B (ConnAt.of (bx_range hk) (Sh.Rd.below hr hB hW) (Nat.le_trans hB hW.size) hT)
  have hA : A.size = 14 := rd_size hr
  unfold lodV
  by_cases hC : connF c = 0
  case neg =>
    rw [if_neg hC]
    exact (sLodC A i k _ hC w hA HF).mono (by rintro e w' ⟨rfl, hb⟩; exact ⟨_, rfl, own_SR (x := (connF c, zSegm, ())) (segz_wf (connF_wf c)) rfl, hb⟩)
  rw [if_pos hC]
  rw [hC] at HF
  obtain ⟨a13, c13, x13, hsn⟩ : ∃ a13 c13, A[13]? = some (.slice a13 c.subs.length c13) ∧ c.subs.length ≤ 1048576 := by obtain ⟨y0, y1, y2, y3, y4, d5, y6, y7, y8, d9, y10, y11, l, ⟨⟩⟩ := c; obtain ⟨a5, c5, a9, c9, a9', c9', a12, c12, eA, -⟩ := rd_Conn hr; exact ⟨a12, c12, get_of eA 13, by have h2 : d5.length + gtTot d9 + (l.length + fsum totSub l) ≤ 1048576 := hT; show l.length ≤ _; omega⟩
  by_cases hI : inD i 0 ((c.subs.length : Int) - 1) = true
  case neg =>
    rw [if_neg hI]
    exact (sLod1 A i k a13 _ c13 x13 hsn (by simpa using hI) w hA HF).mono (by rintro e w' ⟨rfl, hb⟩; exact ⟨_, rfl, own_SR (x := (4, zSegm, ())) (segz_wf (by decide)) rfl, hb⟩)
  rw [if_pos hI]
  obtain ⟨iN, rfl⟩ : ∃ iN : Nat, i = iN := ⟨i.toNat, by simp [inD] at hI; omega⟩
  have hi : iN < c.subs.length := by simp [inD] at hI; omega
  have hsub : subI c (iN : Int) = c.subs[iN] := by unfold subI; rw [Int.toNat_natCast, List.getD_eq_getElem?_getD, List.getElem?_eq_getElem hi]; rfl
  rw [hsub]
  have hsF : subF c.subs[iN] = 0 := subs_ok _ _ (conn_subs hC) iN hi
  obtain ⟨cs16, b, off, n, cap, hsl, hbB, hlen, hrg, hrs, hln⟩ := sub_of hr hi
  subst hln
  obtain ⟨fa, fc, e9, hfl⟩ := sub_flL hrs
  have q9 := hrg 9 _ e9
  have hfn : c.subs[iN].snd.2.2.2.1.length ≤ 1048576 := by have h : c.subs[iN].snd.2.2.2.1.length ≤ 12 := (snd_ok (subF_parts hsF).1).2.2.2; omega
  by_cases hK : inD k 0 ((c.subs[iN].snd.2.2.2.1.length : Int) - 1) = true
  case neg =>
    rw [if_neg hK]
    exact (sLod2 A iN k b off _ cap hsl hsn hi fa _ fc hfn (by simpa using hK) w (by omega) q9 hA HF).mono (by rintro e w' ⟨rfl, hb⟩; exact ⟨_, rfl, own_SR (x := (4, zSegm, ())) (segz_wf (by decide)) rfl, hb⟩)
  rw [if_pos hK]
  obtain ⟨kN, rfl⟩ : ∃ kN : Nat, k = kN := ⟨k.toNat, by simp [inD] at hK; omega⟩
  have hk : kN < c.subs[iN].snd.2.2.2.1.length := by simp [inD] at hK; omega
  have hfI : flI c.subs[iN] (kN : Int) = c.subs[iN].snd.2.2.2.1[kN] := by unfold flI; rw [Int.toNat_natCast, List.getD_eq_getElem?_getD, List.getElem?_eq_getElem hk]; rfl
  rw [hfI]
  obtain ⟨fb, foff, c5, la, lc, ea, hfb, h5, hr5, hrf, g0, g1, g2, hrb, hnil⟩ := fl_get hfl hk
  subst ea
  exact sLodOk A iN kN b off _ cap hsl hsn hi fb foff _ fc hfn hk w (by omega) (by omega) cs16 c5 hlen h5 hrg hr5 q9 hA _ _ _ _ _ _ _ _ _ _ _ _ (lodS_wf hr hT hrs hsF hk) HF (fun W hW hkk => sL11Load c A w.heap.size 0 c.subs[iN] cs16 b (off + iN * 16) kN hk c5 la lc W B (ConnAt.of (bx_range hkk) (Sh.Rd.below hr hB hW) (Nat.le_trans hB hW.size) hT) (range_below hrg hW (by omega)) (by have := hW.size; omega) (Sh.Rd.below (s := shSub) hrs hB hW) hsF h5 g0 g1 g2 (hrb.below (Nat.le_refl _) hW) hnil)
theorem lodV_tot (c : DConn) (i k : Int) : totSR (lodV c i k) ≤ 1048576 := by
  unfold lodV
  split
  · rename_i hC
    split
    · rename_i hI
      split
      · rename_i hK
        obtain ⟨iN, rfl⟩ : ∃ iN : Nat, i = iN := ⟨i.toNat, by simp [inD] at hI; omega⟩
        have hi : iN < c.subs.length := by simp [inD] at hI; omega
        have hsub : subI c (iN : Int) = c.subs[iN] := by unfold subI; rw [Int.toNat_natCast, List.getD_eq_getElem?_getD, List.getElem?_eq_getElem hi]; rfl
        rw [hsub] at hK ⊢
        obtain ⟨kN, rfl⟩ : ∃ kN : Nat, k = kN := ⟨k.toNat, by simp [inD] at hK; omega⟩
        have hk : kN < c.subs[iN].snd.2.2.2.1.length := by simp [inD] at hK; omega
        have hfI : flI c.subs[iN] (kN : Int) = c.subs[iN].snd.2.2.2.1[kN] := by unfold flI; rw [Int.toNat_natCast, List.getD_eq_getElem?_getD, List.getElem?_eq_getElem hk]; rfl
        rw [hfI]
        have := (lod_ok (subs_ok _ _ (conn_subs hC) iN hi) hk).2.2.1
        show c.subs[iN].snd.2.2.2.1[kN].2.2.1.length ≤ _
        omega
      · exact Nat.zero_le _
    · exact Nat.zero_le _
  · exact Nat.zero_le _
end Go.Proofs.YtbdibjeemgkdaaaGreat
