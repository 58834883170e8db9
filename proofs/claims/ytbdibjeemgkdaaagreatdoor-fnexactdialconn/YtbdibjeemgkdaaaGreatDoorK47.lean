/- What compares answers of conns, and marks them; an answer stands as one value; no condition but that there are at most a million parts. -/
import Derived.Test.YtbdibjeemgkdaaaGreatDoorRows
import Derived.Deep.DeepCutAuto
import Derived.Deep.MidRow
import Derived.Test.YtbdibjeemgkdaaaGreatDoorK01
import Derived.Test.YtbdibjeemgkdaaaGreatDoorK02
import Derived.Test.YtbdibjeemgkdaaaGreatDoorK03
import Derived.Test.YtbdibjeemgkdaaaGreatDoorK10
import Derived.Test.YtbdibjeemgkdaaaGreatDoorK11
import Derived.Test.YtbdibjeemgkdaaaGreatDoorK17
import Derived.Test.YtbdibjeemgkdaaaGreatDoorK19
import Derived.Test.YtbdibjeemgkdaaaGreatDoorK20
namespace Go.Proofs.YtbdibjeemgkdaaaGreatDoor
open Go.RowKit
set_option linter.unusedVariables false
set_option maxRecDepth 8000

abbrev shCR : Sh := .cons (.int .i64) (.cons shConnO (.cons shSegms (.cons u8s (.cons .bool .nil))))
abbrev DCR : Type := Int × DConn × List DSegm × List Int × Bool × Unit
def totCR (x : DCR) : Nat := totConn x.2.1 + totSegms x.2.2.1 + x.2.2.2.1.length
theorem rd_CR {w : World} {B : Nat} {q : Int} {c : DConn} {sl : List DSegm} {dl : List Int} {e : Bool} {cs : List Value} (h : shCR.Rd w B (q, c, sl, dl, e, ()) cs) :
    ∃ (C : List Value) (sa : Option Addr) (sc : Nat) (da : Option Addr) (dc : Nat), cs = .int .i64 q :: (C ++ [.slice sa sl.length sc, .slice da dl.length dc, .bool e]) ∧ C.length = 14 ∧ shConnO.Rd w B c C ∧ shSegms.Rd w B sl [.slice sa sl.length sc] ∧ u8s.Rd w B dl [.slice da dl.length dc] ∧ (Lit.int .i64 q).wf = true := by
  obtain ⟨p0, q0, e0, ⟨g0, w0⟩, p1, q1, e1, h1, p2, q2, e2, h2, p3, q3, e3, h3, p4, q4, e4, g4, hz⟩ := h
  have hz' : q4 = [] := hz
  have hl : p1.length = 14 := Sh.Rd.len _ _ _ h1
  obtain ⟨sa, sc, f2⟩ := row_form h2
  subst f2
  obtain ⟨da, dc, f3⟩ := row_form h3
  subst f3
  refine ⟨p1, sa, sc, da, dc, ?_, hl, h1, h2, h3, w0⟩
  rw [e0, g0, e1, e2, e3, e4, g4, hz']
  rfl
theorem cr_get {N : Array Value} {q : Int} {C : List Value} {s d : Value} {e : Bool} (h : N.toList = .int .i64 q :: (C ++ [s, d, .bool e])) (hl : C.length = 14) : N[0]? = some (.int .i64 q) ∧ N[15]? = some s ∧ N[16]? = some d ∧ N[17]? = some (.bool e) := by
  refine ⟨get_of h 0, ?_, ?_, ?_⟩ <;> rw [get_of h, List.getElem?_cons_succ, List.getElem?_append_right (by omega), hl] <;> rfl
theorem cr_range {w : World} {b : Nat} {N : Array Value} {q : Int} {C : List Value} {s d : Value} {e : Bool} (h : N.toList = .int .i64 q :: (C ++ [s, d, .bool e])) (hc : ∀ o, w.cell? ⟨b, o, none⟩ = N[o]?) : w.rangeAt b 1 C := fun j v hv => by
  rw [hc (1 + j), Nat.add_comm 1 j, get_of h, List.getElem?_cons_succ, List.getElem?_append_left (List.getElem?_eq_some_iff.1 hv).1]
  exact hv
theorem info_CN : (Tryz.prog.info? 35).map (·.size) = some 14 := by kernel_rfl
set_option maxHeartbeats 2000000 in
theorem lEqConnR (x : DCR) (N N' : Array Value) (w : World) (B : Nat) (hr : shCR.Rd w B x N.toList) (hr' : shCR.Rd w B x N'.toList) (hB : B ≤ w.heap.size) (hT : totCR x ≤ 1048576) :
    Calls Tryz.prog 11 #[.agg N, .agg N'] w fun e w' => e = .returned (.bool true) ∧ Below w.heap.size w w' := by
  obtain ⟨q, c, sl, dl, e, ⟨⟩⟩ := x
  have ht : totConn c + totSegms sl + dl.length ≤ 1048576 := hT
  obtain ⟨C, sa, sc, da, dc, eN, hl, h1, h2, h3, -⟩ := rd_CR hr
  obtain ⟨C', sa', sc', da', dc', eN', hl', h1', h2', h3', -⟩ := rd_CR hr'
  obtain ⟨n0, n15, n16, n17⟩ := cr_get eN hl
  obtain ⟨m0, m15, m16, m17⟩ := cr_get eN' hl'
  have HE : Hid (∀ W, Below w.heap.size w W → Calls Tryz.prog 12 #[.agg C.toArray, .agg C'.toArray] W fun e w' => e = .returned (.bool true) ∧ Below W.heap.size W w') := fun W hW => lEqConn c _ _ W B (Sh.Rd.below (s := shConn) h1 hB hW) (Sh.Rd.below (s := shConn) h1' hB hW) (Nat.le_trans hB hW.size) (by omega)
  have HS : Hid (∀ W, Below w.heap.size w W → Calls Tryz.prog 37 #[.slice sa sl.length sc, .slice sa' sl.length sc'] W fun e w' => e = .returned (.bool true) ∧ Below W.heap.size W w') := fun W hW => lEqSegms sl _ _ W B (Sh.Rd.below h2 hB hW) (Sh.Rd.below h2' hB hW) (Nat.le_trans hB hW.size) (by omega)
  have HY : Hid (∀ W, Below w.heap.size w W → Calls Tryz.prog 13 #[.slice da dl.length dc, .slice da' dl.length dc'] W fun e w' => e = .returned (.bool true) ∧ Below W.heap.size W w') := fun W hW => lEqBytes dl _ _ W B (Sh.Rd.below h3 hB hW) (Sh.Rd.below h3' hB hW) (Nat.le_trans hB hW.size) (by omega)
  have HR0 : Hid (∀ W : World, (∀ o, W.cell? ⟨w.heap.size, o, none⟩ = N[o]?) → W.rangeAt w.heap.size 1 C) := fun W h => cr_range eN h
  have HR1 : Hid (∀ W : World, (∀ o, W.cell? ⟨w.heap.size + 1, o, none⟩ = N'[o]?) → W.rangeAt (w.heap.size + 1) 1 C') := fun W h => cr_range eN' h
  have HI : Hid ((Tryz.prog.info? 35).map (·.size) = some C.length) := by show _ = _; rw [hl]; exact info_CN
  have HI' : Hid ((Tryz.prog.info? 35).map (·.size) = some C'.length) := by show _ = _; rw [hl']; exact info_CN
  clear hr hr' hT ht eN eN' hl hl' h1 h2 h3 h1' h2' h3'
  generalize sl.length = n1 at *
  generalize dl.length = n2 at *
  go_enter Tryz.func11, Tryz.ntmps11
  go_upto_region 3 with fail
  have r0 : Hid (((w.alloc (.cells N 38)).alloc (.cells N' 38)).rangeAt w.heap.size 1 C) := HR0.out _ (fun o => by simp [go_sem])
  have r1 : Hid (((w.alloc (.cells N 38)).alloc (.cells N' 38)).rangeAt (w.heap.size + 1) 1 C') := HR1.out _ (fun o => by simp [go_sem])
  go_wp2_with (first | (refine wpList_load_mid rfl 35 _ rfl _ _ (by rfl) C _ r0.out Tryz.underlying35 rfl HI.out ?_) | (refine wpList_load_mid rfl 35 _ rfl _ _ (by rfl) C' _ r1.out Tryz.underlying35 rfl HI'.out ?_))
  refine (HE.out _ (by go_grown)).mono ?_
  rintro e w1 ⟨rfl, hb⟩
  have j0 : ∀ o, w1.cell? ⟨w.heap.size, o, none⟩ = N[o]? := fun o => by rw [hb.cell (p := ⟨w.heap.size, o, none⟩) (by simp; omega)]; simp [go_sem]
  have j1 : ∀ o, w1.cell? ⟨w.heap.size + 1, o, none⟩ = N'[o]? := fun o => by rw [hb.cell (p := ⟨w.heap.size + 1, o, none⟩) (by simp)]; simp [go_sem]
  have HB : Hid (Below w.heap.size w w1) := Below.trans (((Below.refl _ _).alloc (Nat.le_refl _) _).alloc (by simp) _) (hb.mono (by simp; omega))
  have z1 : w.heap.size + 1 < w1.heap.size := by have := hb.size; simp at this; omega
  clear hb HE HR0 HR1
  go_wp2_with fail
  refine (HS.out _ HB.out).mono ?_
  rintro e w2 ⟨rfl, hb⟩
  replace j0 := bx_below j0 (by omega) hb
  replace j1 := bx_below j1 z1 hb
  replace z1 := Nat.lt_of_lt_of_le z1 hb.size
  replace HB : Hid (Below w.heap.size w w2) := HB.out.trans (hb.mono HB.out.size)
  clear hb HS
  go_wp2_with fail
  refine (HY.out _ HB.out).mono ?_
  rintro e w3 ⟨rfl, hb⟩
  replace j0 := bx_below j0 (by omega) hb
  replace j1 := bx_below j1 z1 hb
  replace HB : Hid (Below w.heap.size w w3) := HB.out.trans (hb.mono HB.out.size)
  clear hb HY
  go_wp2_with fail
  go_ret
  exact ⟨rfl, HB.out⟩
theorem totSegm_wt (x : DSegm) : wtSegm x = 11 + totSegm x := rfl
theorem wtSegms_le : ∀ (l : List DSegm), fsum wtSegm l = 11 * l.length + fsum totSegm l
  | [] => rfl
  | x :: l => by rw [fsum_cons, fsum_cons, List.length_cons, wtSegms_le l, totSegm_wt]; omega
theorem wtConn_le {x : DConn} (h : totConn x ≤ 1048576) : wtConn x ≤ 16777216 := by
  obtain ⟨y0, y1, y2, y3, y4, d5, y6, y7, y8, d9, y10, y11, d12, ⟨⟩⟩ := x
  have ht : d5.length + gtTot d9 + (d12.length + fsum totSub d12) ≤ 1048576 := h
  have hw9 := wtGt_tot d9
  have hws := wtSubs_le d12
  show d5.length + wtGt d9 + fsum wtSubE d12 ≤ 16777216
  omega
def wtCR (x : DCR) : Nat := wtConn x.2.1 + fsum wtSegm x.2.2.1 + x.2.2.2.1.length
def mkCR (c : Int) : DCR → DCR
  | (q, x, sl, dl, e, _) => (q, mkConn c x, mkL mkSegm wtSegm (c + (wtConn x : Nat)) sl, marks (c + (wtConn x : Nat) + (fsum wtSegm sl : Nat)) dl.length, e, ())
theorem ow_CR {w : World} {bs : List Nat} {q : Int} {x : DConn} {sl : List DSegm} {dl : List Int} {e : Bool} {cs : List Value} (h : shCR.Ow w bs (q, x, sl, dl, e, ()) cs) :
    ∃ b1 b2 b3 C s d, bs = b1 ++ (b2 ++ b3) ∧ cs = .int .i64 q :: (C ++ [s, d, .bool e]) ∧ C.length = 14 ∧ shConnO.Ow w b1 x C ∧ shSegms.Ow w b2 sl [s] ∧ u8s.Ow w b3 dl [d] ∧
      (∀ (W : World) (x' : DConn) (sl' : List DSegm) (dl' : List Int), shConnO.Ow W b1 x' C → shSegms.Ow W b2 sl' [s] → u8s.Ow W b3 dl' [d] → shCR.Ow W bs (q, x', sl', dl', e, ()) cs) := by
  obtain ⟨a0, r0, p0, q0, eb0, ec0, ⟨f0, g0, w0⟩, a1, r1, p1, q1, eb1, ec1, h1, a2, r2, p2, q2, eb2, ec2, h2, a3, r3, p3, q3, eb3, ec3, h3, a4, r4, p4, q4, eb4, ec4, ⟨f4, g4⟩, zb, zc⟩ := h
  have l1 : p1.length = 14 := Sh.Ow.len _ _ _ _ h1
  have l2 : p2.length = 1 := Sh.Ow.len _ _ _ _ h2
  have l3 : p3.length = 1 := Sh.Ow.len _ _ _ _ h3
  match p2, l2, p3, l3 with
  | [s], _, [d], _ =>
    refine ⟨a1, a2, a3, p1, s, d, ?_, ?_, l1, h1, h2, h3, fun W x' sl' dl' k1 k2 k3 => ?_⟩
    · rw [eb0, f0, eb1, eb2, eb3, eb4, f4, zb]
      simp
    · rw [ec0, g0, ec1, ec2, ec3, ec4, g4, zc]
      rfl
    · exact ⟨a0, r0, p0, q0, eb0, ec0, ⟨f0, g0, w0⟩, a1, r1, p1, q1, eb1, ec1, k1, a2, r2, [s], q2, eb2, ec2, k2, a3, r3, [d], q3, eb3, ec3, k3, a4, r4, p4, q4, eb4, ec4, ⟨f4, g4⟩, zb, zc⟩
set_option maxHeartbeats 2000000 in
theorem lHeldConnR (x : DCR) (N : Array Value) (c : Int) (w : World) (B : Nat) (hr : shCR.Rd w B (mkCR c x) N.toList) (hB : B ≤ w.heap.size) (hT : totCR x ≤ 1048576) (hc0 : 0 ≤ c) (hc1 : c ≤ 16777216) :
    Calls Tryz.prog 17 #[.agg N, .int .i64 c] w fun e w' => e = .returned (.int .i64 (c + (wtCR x : Nat))) ∧ Below w.heap.size w w' := by
  obtain ⟨q, y, sl, dl, e, ⟨⟩⟩ := x
  have ht : totConn y + (sl.length + fsum totSegm sl) + dl.length ≤ 1048576 := hT
  have hwc := wtConn_le (x := y) (by omega)
  have hws := wtSegms_le sl
  obtain ⟨C, sa, sc, da, dc, eN, hl, h1, h2, h3, -⟩ := rd_CR hr
  have l2 : (mkL mkSegm wtSegm (c + (wtConn y : Nat)) sl).length = sl.length := mkL_length _ _
  have l3 : (marks (c + (wtConn y : Nat) + (fsum wtSegm sl : Nat)) dl.length).length = dl.length := marks_length _ _
  rw [l2, l3] at eN
  rw [l2] at h2
  rw [l3] at h3
  obtain ⟨n0, n15, n16, n17⟩ := cr_get eN hl
  have HV : Hid (c + (wtConn y : Nat) + (fsum wtSegm sl : Nat) + (dl.length : Nat) = c + (wtCR (q, y, sl, dl, e, PUnit.unit) : Nat)) := by
    show _ = _
    have : wtCR (q, y, sl, dl, e, PUnit.unit) = wtConn y + fsum wtSegm sl + dl.length := rfl
    rw [this]; push_cast; omega
  have HE : Hid (∀ W, Below w.heap.size w W → Calls Tryz.prog 43 #[.agg C.toArray, .int .i64 c] W fun e w' => e = .returned (.int .i64 (c + (wtConn y : Nat))) ∧ Below W.heap.size W w') := fun W hW => lHeldConn y _ c W B (Sh.Rd.below h1 hB hW) (Nat.le_trans hB hW.size) (by omega) hc0 hc1
  have HS : Hid (∀ W, Below w.heap.size w W → Calls Tryz.prog 44 #[.slice sa sl.length sc, .int .i64 (c + (wtConn y : Nat))] W fun e w' => e = .returned (.int .i64 (c + (wtConn y : Nat) + (fsum wtSegm sl : Nat))) ∧ w' = W) := fun W hW => lHeldSegms sl _ _ W B (Sh.Rd.below h2 hB hW) (by omega) (by omega) (by omega)
  have HY : Hid (∀ W, Below w.heap.size w W → Calls Tryz.prog 45 #[.slice da dl.length dc, .int .i64 (c + (wtConn y : Nat) + (fsum wtSegm sl : Nat))] W fun e w' => e = .returned (.int .i64 (c + (wtConn y : Nat) + (fsum wtSegm sl : Nat) + (dl.length : Nat))) ∧ w' = W) := fun W hW => lHeldBytesW dl _ _ W B (Sh.Rd.below h3 hB hW) (by omega) (by omega) (by omega)
  have HR0 : Hid ((w.alloc (.cells N 38)).rangeAt w.heap.size 1 C) := cr_range eN (bx_al w _ _)
  have HI : Hid ((Tryz.prog.info? 35).map (·.size) = some C.length) := by show _ = _; rw [hl]; exact info_CN
  have p1 : 0 ≤ c + (wtConn y : Int) := by omega
  have p2 : 0 ≤ c + (wtConn y : Int) + (fsum wtSegm sl : Int) := by omega
  have p3 : 0 ≤ c + (wtConn y : Int) + (fsum wtSegm sl : Int) + (dl.length : Int) := by omega
  clear hr hT ht hwc hws eN hl h1 h2 h3 l2 l3
  rw [← HV.out]
  clear HV
  generalize fsum wtSegm sl = q2 at *
  generalize wtConn y = q1 at *
  generalize sl.length = n1 at *
  generalize dl.length = n2 at *
  go_enter Tryz.func17, Tryz.ntmps17
  go_wp2_with (refine wpList_load_mid rfl 35 _ rfl _ _ (by rfl) C _ HR0.out Tryz.underlying35 rfl HI.out ?_)
  refine (HE.out _ (by go_grown)).mono ?_
  rintro e w1 ⟨rfl, hb⟩
  have j0 := bx_new hb
  have HB : Hid (Below w.heap.size w w1) := (bl_new hb).1
  clear hb HE HR0
  go_wp2_with fail
  refine (HS.out _ HB.out).mono ?_
  rintro e w2 ⟨rfl, hw2⟩
  subst w2
  go_wp2_with fail
  refine (HY.out _ HB.out).mono ?_
  rintro e w2 ⟨rfl, hw2⟩
  subst w2
  go_wp2_with fail
  go_ret
  exact ⟨rfl, HB.out⟩
set_option maxHeartbeats 2000000 in
theorem lMarkConnR (x : DCR) (N : Array Value) (c : Int) (w : World) (lo hi : Nat) (ho : Own w lo hi shCR x N.toList) (hT : totCR x ≤ 1048576) (hc0 : 0 ≤ c) (hc1 : c ≤ 16777216) :
    Calls Tryz.prog 16 #[.agg N, .int .i64 c] w fun e w' => e = .returned (.int .i64 (c + (wtCR x : Nat))) ∧ Own w' lo hi shCR (mkCR c x) N.toList ∧ Within lo hi w w' := by
  obtain ⟨bs, hO, hnd, hbd⟩ := ho
  obtain ⟨q, y, sl, dl, e, ⟨⟩⟩ := x
  obtain ⟨b1, b2, b3, C, s, d, rfl, eN, hl, h1, h2, h3, HMK⟩ := ow_CR hO
  have ht : totConn y + (sl.length + fsum totSegm sl) + dl.length ≤ 1048576 := hT
  have hwc := wtConn_le (x := y) (by omega)
  have hws := wtSegms_le sl
  obtain ⟨sa, sc, e2⟩ := row_form (Sh.Ow.rd (Nat.le_refl _) _ _ _ _ h2)
  simp only [List.cons.injEq, and_true] at e2
  subst e2
  obtain ⟨da, dc, e3⟩ := row_form (Sh.Ow.rd (Nat.le_refl _) _ _ _ _ h3)
  simp only [List.cons.injEq, and_true] at e3
  subst e3
  obtain ⟨nd1, nd23, hdis⟩ := List.nodup_append.1 hnd
  obtain ⟨nd2, nd3, hdis2⟩ := List.nodup_append.1 nd23
  have l1 : ∀ b ∈ b1, b < w.heap.size := Sh.Ow.lt _ _ _ _ h1
  have l2 : ∀ b ∈ b2, b < w.heap.size := Sh.Ow.lt _ _ _ _ h2
  have l3 : ∀ b ∈ b3, b < w.heap.size := Sh.Ow.lt _ _ _ _ h3
  obtain ⟨n0, n15, n16, n17⟩ := cr_get eN hl
  have HV : Hid (c + (wtConn y : Nat) + (fsum wtSegm sl : Nat) + (dl.length : Nat) = c + (wtCR (q, y, sl, dl, e, PUnit.unit) : Nat)) := by
    show _ = _
    have : wtCR (q, y, sl, dl, e, PUnit.unit) = wtConn y + fsum wtSegm sl + dl.length := rfl
    rw [this]; push_cast; omega
  have H1 : Hid (∀ W, Below w.heap.size w W → Calls Tryz.prog 14 #[.agg C.toArray, .int .i64 c] W fun e w' => e = .returned (.int .i64 (c + (wtConn y : Nat))) ∧ shConnO.Ow w' b1 (mkConn c y) C ∧ Touch b1 W w') := fun W hW => lMarkConnT y C.toArray c W b1 (Sh.Ow.keep _ _ _ _ (fun b hb => hW.block b (l1 b hb)) h1) nd1 (by omega) hc0 hc1
  have H2 : Hid (∀ W, (∀ b ∈ b2, W.heap[b]? = w.heap[b]?) → Calls Tryz.prog 42 #[.slice sa sl.length sc, .int .i64 (c + (wtConn y : Nat))] W fun e w' => e = .returned (.int .i64 (c + (wtConn y : Nat) + (fsum wtSegm sl : Nat))) ∧ shSegms.Ow w' b2 (mkL mkSegm wtSegm (c + (wtConn y : Nat)) sl) [.slice sa sl.length sc] ∧ Touch b2 W w') := fun W hW => lMarkSegms sl _ _ W b2 (Sh.Ow.keep _ _ _ _ hW h2) nd2 (by omega) (by omega) (by omega)
  have H3 : Hid (∀ W, (∀ b ∈ b3, W.heap[b]? = w.heap[b]?) → Calls Tryz.prog 15 #[.slice da dl.length dc, .int .i64 (c + (wtConn y : Nat) + (fsum wtSegm sl : Nat))] W fun e w' => e = .returned (.int .i64 (c + (wtConn y : Nat) + (fsum wtSegm sl : Nat) + (dl.length : Nat))) ∧ u8s.Ow w' b3 (marks (c + (wtConn y : Nat) + (fsum wtSegm sl : Nat)) dl.length) [.slice da dl.length dc] ∧ Touch b3 W w') := fun W hW => lMarkBytesW dl _ _ W b3 (Sh.Ow.keep _ _ _ _ hW h3) nd3 (by omega) (by omega) (by omega)
  have HM : Hid (∀ W, shConnO.Ow W b1 (mkConn c y) C → shSegms.Ow W b2 (mkL mkSegm wtSegm (c + (wtConn y : Nat)) sl) [.slice sa sl.length sc] → u8s.Ow W b3 (marks (c + (wtConn y : Nat) + (fsum wtSegm sl : Nat)) dl.length) [.slice da dl.length dc] → Own W lo hi shCR (mkCR c (q, y, sl, dl, e, PUnit.unit)) N.toList) := fun W k1 k2 k3 => ⟨b1 ++ (b2 ++ b3), HMK W _ _ _ k1 k2 k3, hnd, hbd⟩
  have HL1 : Hid _ := l1
  have HL2 : Hid _ := l2
  have HL3 : Hid _ := l3
  have HD2 : Hid (∀ b ∈ b2, b ∉ b1) := fun b hb hb' => hdis b hb' b (List.mem_append_left _ hb) rfl
  have HD3 : Hid (∀ b ∈ b3, b ∉ b1 ∧ b ∉ b2) := fun b hb => ⟨fun hb' => hdis b hb' b (List.mem_append_right _ hb) rfl, fun hb' => hdis2 b hb' b hb rfl⟩
  have HBD : Hid (∀ b ∈ b1 ++ (b2 ++ b3), lo ≤ b ∧ b < hi) := hbd
  have HR0 : Hid ((w.alloc (.cells N 38)).rangeAt w.heap.size 1 C) := cr_range eN (bx_al w _ _)
  have HI : Hid ((Tryz.prog.info? 35).map (·.size) = some C.length) := by show _ = _; rw [hl]; exact info_CN
  clear hO hnd hbd h1 h2 h3 HMK eN hl hT ht hwc hws nd1 nd2 nd3 nd23 hdis hdis2 l1 l2 l3
  rw [← HV.out]
  clear HV
  generalize mkCR c (q, y, sl, dl, e, PUnit.unit) = MM at *
  generalize marks (c + (wtConn y : Nat) + (fsum wtSegm sl : Nat)) dl.length = M3 at *
  generalize mkL mkSegm wtSegm (c + (wtConn y : Nat)) sl = M2 at *
  generalize mkConn c y = M1 at *
  generalize fsum wtSegm sl = q2 at *
  generalize wtConn y = q1 at *
  generalize sl.length = n1 at *
  generalize dl.length = n2 at *
  go_enter Tryz.func16, Tryz.ntmps16
  go_wp2_with (refine wpList_load_mid rfl 35 _ rfl _ _ (by rfl) C _ HR0.out Tryz.underlying35 rfl HI.out ?_)
  refine (H1.out _ (by go_grown)).mono ?_
  rintro e w1 ⟨rfl, ho1, ht1⟩
  have j0 : ∀ o, w1.cell? ⟨w.heap.size, o, none⟩ = N[o]? := bx_keep (w := w.alloc (.cells N 38)) (bx_al _ _ _) (ht1.block w.heap.size (by simp) (fun h => by have := HL1.out _ h; omega))
  have HO1 : Hid _ := ho1
  have HK1 : Hid (∀ b, b < w.heap.size → b ∉ b1 → w1.heap[b]? = w.heap[b]?) := fun b hb hn => (ht1.block b (by simp; omega) hn).trans (Below.heap_alloc _ _ _ hb)
  have HT1 : Hid (Within lo hi w w1) := (Within.below ((Below.refl _ _).alloc (Nat.le_refl _) _)).trans ⟨ht1.os, ht1.tape, ht1.output, ht1.size, fun b hb hn => ht1.block b hb fun hm => hn (HBD.out b (List.mem_append_left _ hm))⟩
  have z1 : w.heap.size < w1.heap.size := by have := ht1.size; simp at this; omega
  clear ho1 ht1 H1 HR0
  go_wp2_with fail
  refine (H2.out _ (fun b hb => HK1.out b (HL2.out b hb) (HD2.out b hb))).mono ?_
  rintro e w2 ⟨rfl, ho2, ht2⟩
  replace j0 : ∀ o, w2.cell? ⟨w.heap.size, o, none⟩ = N[o]? := bx_keep j0 (ht2.block w.heap.size z1 (fun h => by have := HL2.out _ h; omega))
  have HO2 : Hid _ := ho2
  have HO1b : Hid (shConnO.Ow w2 b1 M1 C) := Sh.Ow.keep _ _ _ _ (fun b hb => ht2.block b (by have := HL1.out b hb; omega) (fun h => HD2.out b h hb)) HO1.out
  have HK2 : Hid (∀ b, b < w.heap.size → b ∉ b1 → b ∉ b2 → w2.heap[b]? = w.heap[b]?) := fun b hb hn hn2 => (ht2.block b (by omega) hn2).trans (HK1.out b hb hn)
  have HT2 : Hid (Within lo hi w w2) := HT1.out.trans ⟨ht2.os, ht2.tape, ht2.output, ht2.size, fun b hb hn => ht2.block b hb fun hm => hn (HBD.out b (List.mem_append_right _ (List.mem_append_left _ hm)))⟩
  have z2 : w.heap.size < w2.heap.size := Nat.lt_of_lt_of_le z1 ht2.size
  clear ho2 ht2 H2 HO1 HK1 HT1 z1
  go_wp2_with fail
  refine (H3.out _ (fun b hb => HK2.out b (HL3.out b hb) (HD3.out b hb).1 (HD3.out b hb).2)).mono ?_
  rintro e w3 ⟨rfl, ho3, ht3⟩
  have HO3 : Hid (Own w3 lo hi shCR MM N.toList) := HM.out w3 (Sh.Ow.keep _ _ _ _ (fun b hb => ht3.block b (by have := HL1.out b hb; omega) (fun h => (HD3.out b h).1 hb)) HO1b.out) (Sh.Ow.keep _ _ _ _ (fun b hb => ht3.block b (by have := HL2.out b hb; omega) (fun h => (HD3.out b h).2 hb)) HO2.out) ho3
  have HT3 : Hid (Within lo hi w w3) := HT2.out.trans ⟨ht3.os, ht3.tape, ht3.output, ht3.size, fun b hb hn => ht3.block b hb fun hm => hn (HBD.out b (List.mem_append_right _ (List.mem_append_right _ hm)))⟩
  clear ho3 ht3 H3 HM j0
  go_wp2_with fail
  go_ret
  exact ⟨rfl, HO3.out, HT3.out⟩
end Go.Proofs.YtbdibjeemgkdaaaGreatDoor
