/- OrderOf of the program; the answer owns its memory; nothing that was there turns; no condition but that a conn without a fault has few paths. Written by mkord4.py. -/
import Derived.RangeFuncNested
import Derived.RangeFuncBound
import Derived.RangeFuncCalls
import Derived.RangeFuncLeaves
import Derived.RangeFuncBox
import Derived.Shelf.Abstract
import Derived.Shelf.RegionOpen
import Derived.WalkKit
import Derived.OwnWalkIn
import Derived.TacticsInMore
import Derived.LoopNIn
import Derived.LoopIn
import Derived.Maps.AppendAt
import Derived.Deep.MidRow
import Derived.Test.YtcbgedlckcjjnaaGreatRows
import Derived.WalkSmall
import Derived.Deep.RegionHeld3
import Derived.Deep.DeepCutAuto
import Derived.Deep.DeepMust
import Derived.Test.YtcbgedlckcjjnaaGreatK01
import Derived.Test.YtcbgedlckcjjnaaGreatK02
import Derived.Test.YtcbgedlckcjjnaaGreatK03
import Derived.Test.YtcbgedlckcjjnaaGreatK04
import Derived.Test.YtcbgedlckcjjnaaGreatK05
import Derived.Test.YtcbgedlckcjjnaaGreatK07
import Derived.Test.YtcbgedlckcjjnaaGreatK08
import Derived.Test.YtcbgedlckcjjnaaGreatK09
import Derived.Test.YtcbgedlckcjjnaaGreatK10
import Derived.Test.YtcbgedlckcjjnaaGreatK11
import Derived.Test.YtcbgedlckcjjnaaGreatK12
import Derived.Test.YtcbgedlckcjjnaaGreatK13
import Derived.Test.YtcbgedlckcjjnaaGreatK14
import Derived.Test.YtcbgedlckcjjnaaGreatK15
import Derived.Test.YtcbgedlckcjjnaaGreatK16
import Derived.Test.YtcbgedlckcjjnaaGreatK17
import Derived.Test.YtcbgedlckcjjnaaGreatK21
import Derived.Test.YtcbgedlckcjjnaaGreatK28
import Derived.Test.YtcbgedlckcjjnaaGreatK72
import Derived.Test.YtcbgedlckcjjnaaGreatK73
import Derived.Test.YtcbgedlckcjjnaaGreatK74
namespace Go.Proofs.YtcbgedlckcjjnaaGreat
open Go.RowKit
set_option linter.unusedVariables false
set_option maxRecDepth 8000
attribute [local go_sem] Oper.semAt_some

def stF (l : List DSub) (i : Int) : Int := (l.map stlV).getD i.toNat 0
theorem stF_at {l : List DSub} {k : Nat} (hk : k < l.length) : stF l (k : Int) = stlV l[k] := by
  unfold stF
  rw [Int.toNat_natCast, List.getD_eq_getElem?_getD, List.getElem?_eq_getElem (by rw [List.length_map]; exact hk), List.getElem_map]
  rfl
def ordV (c : DConn) : DIR := if connF c = 0 then (0, ordL (stF c.subs) (opnL c.subs), ()) else (connF c, [], ())
theorem info_IsR : (Tryz.prog.info? 32).map (·.size) = some 2 := by kernel_rfl
set_option maxHeartbeats 2000000 in
theorem iOrderOf (c : DConn) (A : Array Value) (w : World) (B : Nat) (hr : shConn.Rd w B c A.toList) (hB : B ≤ w.heap.size) (hT : totConn c ≤ 1048576) (hwf : (Lit.int .i64 (connF c)).wf = true) (hfew : connF c = 0 → c.subs.length < 20) :
    Calls Tryz.prog 9 #[.agg A] w fun e w' => ∃ N : Array Value, e = .returned (.agg N) ∧ Own w' w.heap.size w'.heap.size shIR (ordV c) N.toList ∧ Below w.heap.size w w' := by
  have HI : Hid ((Tryz.prog.info? 39).map (·.size) = some A.toList.length) := by show _ = _; rw [Array.length_toList, rd_size hr]; exact (by kernel_rfl : (Tryz.prog.info? 39).map (·.size) = some 14)
  have HRGX : Hid (∀ W : World, (∀ o, W.cell? ⟨w.heap.size, o, none⟩ = A[o]?) → Hid (W.rangeAt w.heap.size 0 A.toList)) := fun W hk => bx_range hk
  have HF : Hid (∀ W, Below w.heap.size w W → Calls Tryz.prog 34 #[.agg A] W fun e w' => e = .returned (.int .i64 (connF c)) ∧ Below W.heap.size W w') := fun W hW => iConnFault c A W B (Sh.Rd.below hr hB hW) (Nat.le_trans hB hW.size) hT
  have HS : ∃ a12 n c12, A[13]? = some (.slice a12 n c12) ∧ ∀ W, connF c = 0 → Below w.heap.size w W → Calls Tryz.prog 35 #[.slice a12 n c12] W fun e w' => ∃ u, e = .returned u ∧ Own w' W.heap.size w'.heap.size i64s (ordL (stF c.subs) (opnL c.subs)) [u] ∧ Below W.heap.size W w' := by
    obtain ⟨y0, y1, y2, y3, y4, d5, y6, y7, y8, d9, y10, y11, l, ⟨⟩⟩ := c
    obtain ⟨a5, c5, a9, c9, a9', c9', a12, c12, eA, -, -, r12, -⟩ := rd_Conn hr
    have h2 : d5.length + gtTot d9 + totSubs l ≤ 1048576 := hT
    exact ⟨a12, l.length, c12, get_of eA 13, fun W h0 hW => iOrderP l a12 l.length c12 W B (Sh.Rd.below (s := shSubs) r12 hB hW) (Nat.le_trans hB hW.size) rfl (hfew h0) (by omega) (stF l) (fun k hk => stF_at hk)⟩
  obtain ⟨a12, n, c12, a13, hwin⟩ := HS
  have H2 : Hid _ := hwin
  have HW : Hid ((Lit.int .i64 (connF c)).wf = true) := hwf
  unfold ordV
  clear hr hwin hwf hfew
  by_cases hF : connF c = 0
  case neg =>
    rw [if_neg hF]
    have hF' : (connF c != 0) = true := by simp [hF]
    clear hF H2
    generalize connF c = F at *
    go_enter Tryz.func9, Tryz.ntmps9
    go_upto_region 1 with fail
    have HRG := HRGX.out ((w.alloc (.cells A 39)).alloc (.cells #[.int .i64 0, .slice none 0 0] 32)) (fun o => by simp [go_sem])
    go_wp2_with (refine wpList_load_mid rfl 39 _ rfl _ _ (by rfl) A.toList _ HRG.out Tryz.underlying39 rfl HI.out ?_)
    refine (HF.out _ (by go_grown)).mono ?_
    rintro e w1 ⟨rfl, hb⟩
    obtain ⟨k0, kR, fR, hb1, z0⟩ := two_boxes hb
    have HB : Hid (Below w.heap.size w w1) := hb1
    clear hb hb1
    go_wp2_with fail
    refine bodyPost_ret (results_box Tryz.results9 _ _ _ #[.int .i64 F, .slice none 0 0] _ (by rfl) (bx2c kR) Tryz.underlying32 rfl info_IsR) rfl ⟨_, rfl, mk_IR ⟨[], Or.inl ⟨rfl, rfl, rfl⟩, by simp, by simp⟩ HW.out, ?_⟩
    exact Below.setCell (Below.setCell HB.out (by dsimp only; omega) _) (by dsimp only; omega) _
  rw [if_pos hF]
  rw [hF] at HF
  replace H2 : Hid _ := fun W hW => H2.out W hF hW
  clear hF HW
  generalize ordL (stF c.subs) (opnL c.subs) = OL at *
  go_enter Tryz.func9, Tryz.ntmps9
  go_upto_region 1 with fail
  have HRG := HRGX.out ((w.alloc (.cells A 39)).alloc (.cells #[.int .i64 0, .slice none 0 0] 32)) (fun o => by simp [go_sem])
  go_wp2_with (refine wpList_load_mid rfl 39 _ rfl _ _ (by rfl) A.toList _ HRG.out Tryz.underlying39 rfl HI.out ?_)
  refine (HF.out _ (by go_grown)).mono ?_
  rintro e w1 ⟨rfl, hb⟩
  obtain ⟨k0, kR, fR, hb1, z0⟩ := two_boxes hb
  have HB : Hid (Below w.heap.size w w1) := hb1
  clear hb hb1
  go_wp2_with fail
  refine (H2.out _ HB.out).mono ?_
  rintro e w2 ⟨u, rfl, ho, hb⟩
  obtain ⟨ua, uc, eu, -⟩ := rd_ints (ho.rd (Nat.le_refl _))
  simp only [List.cons.injEq, and_true] at eu
  subst eu
  have HO : Hid _ := ho
  replace kR := bx_below kR z0 hb
  replace fR := bxF fR hb z0
  have hz2 := hb.size
  replace HB : Hid (Below w.heap.size w w2) := HB.out.trans (hb.mono HB.out.size)
  clear hb ho k0
  generalize OL.length = on at *
  go_wp2_with fail
  refine bodyPost_ret (results_box Tryz.results9 _ _ _ #[.int .i64 0, .slice ua on uc] _ (by rfl) (bx2c kR) Tryz.underlying32 rfl info_IsR) rfl ⟨_, rfl, mk_IR (Own.mono (Own.keep HO.out (fun b h1 h2 => by repeat rw [Below.heap_setCell _ _ _ _ (by dsimp only; omega)])) (by omega) (by simp)) (by decide), ?_⟩
  exact Below.setCell (Below.setCell HB.out (by dsimp only; omega) _) (by dsimp only; omega) _
end Go.Proofs.YtcbgedlckcjjnaaGreat

/- For the model's order of paths: a row of numbers appended to an owned one; what is stale of one path among others; nothing that was in memory turns; no condition but few flights. Written by mkord5.py. -/
namespace Go.Proofs.YtcbgedlckcjjnaaGreat
open Go.RowKit
set_option linter.unusedVariables false
set_option maxRecDepth 8000
theorem infoIntN : (Tryz.prog.info? 3).map (fun i => (i.zero, i.size, i.bytes)) = some (some (.int .i64 0), 1, 8) := by kernel_rfl
theorem app_i {o : Oper} {a : Act} {K : Act → World → Prop} {Q : Exit → Act → World → Prop} {w : World} (s x : Operand)
    (ho : o.op = .call { callee := .builtin .append, args := #[s, x], argTypes := #[77, 77] }) (base : Nat) (v : Value) (n : Nat) (xs : List Value) (hs : a.eval s = v)
    (hown : w.ownsRow base 3 1 v n xs) (ad : Addr) (m c : Nat) (news : List Value) (hx : a.eval x = .slice (some ad) m c) (hl : news.length = m) (hnews : ∀ j u, news[j]? = some u → w.cell? (ad.add j) = some u) (h1 : ∀ u ∈ news, u.oneCell' = true)
    (hm : n + m ≤ 1000000) (hb : base ≤ w.heap.size)
    (h : ∀ v' w', w'.ownsRow base 3 1 v' (n + m) (xs ++ news) → Below base w w' → K (a.put o.dst v') w') : o.wp Tryz.prog a w K Q := by
  obtain ⟨i0, hi, hz0, hz1, hz2⟩ := info_parts infoIntN
  refine wp_append_own w s x 77 ho base 3 i0 (.int .i64 0) 1 8 Tryz.underlying77 hi hz0 hz1 hz2 rfl (by decide) v n xs hs hown ad m c news hx (by omega) hnews h1 (by unfold maxLen; omega) (by omega) hb ?_
  intro v' w' q1 q2 _
  exact h v' w' q1 ((Below.refl base w).grown q2 hb (fun k hk => (hown.lt k hk).1))
theorem sStaleAt (l : List DSub) (b off n cap : Nat) (w : World) (B : Nat) (hr : shSubs.Rd w B l [.slice (some ⟨b, off, none⟩) n cap]) (k : Nat) (hk : k < l.length) (hF : subF l[k] = 0) :
    Calls Tryz.prog 85 #[.pointer (some ⟨b, off + k * 16, none⟩)] w fun e w' => e = .returned (.int .i64 (stlV l[k])) ∧ w' = w := by
  obtain ⟨cs, hb, hl, hrg, r3, -⟩ := sub_at2 hr k hk
  have eV : stlV l[k] = (stlL l[k].2.2.2.2.2.2.1.2.2.2.1 : Int) := by unfold stlV; rw [if_pos hF]
  have h12 : l[k].2.2.2.2.2.2.1.2.2.2.1.length ≤ 12 := (snd_ok (sub_ok hF).2.1).2.2.2
  rw [eV]
  clear eV hF
  generalize l[k] = x at *
  obtain ⟨u, v, e, rs, -⟩ := rd_Sub r3
  obtain ⟨ua, uc, va, vc, e1, -⟩ := rd_SubG (e ▸ r3)
  have rk : shFlights.Rd w B x.2.2.2.2.2.2.1.2.2.2.1 [u] := by
    obtain ⟨u', eu, h, -⟩ := rd_Sender rs
    simp only [List.cons.injEq, and_true, true_and] at eu
    rw [eu]; exact h
  have c9 : w.cell? ⟨b, off + k * 16 + 6 + 3, none⟩ = some u := by
    have := hrg 9 u (by rw [e]; rfl)
    simpa using this
  subst e1
  exact sL8Stale _ ua _ uc b (off + k * 16) w B rfl c9 rk h12
end Go.Proofs.YtcbgedlckcjjnaaGreat
