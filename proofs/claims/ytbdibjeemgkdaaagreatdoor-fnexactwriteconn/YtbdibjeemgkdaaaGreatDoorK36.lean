/- WriteConn by program and model; the answer owns its memory; nothing that was in memory turns; no condition but that there are at most a million parts and errors' own variable is as it is laid. Written by mkwrite9.py. -/
import Derived.Test.YtbdibjeemgkdaaaGreatDoorRows
import Derived.Deep.RegionHeld3
import Derived.Deep.DeepCutAuto
import Derived.Deep.DeepMust
import Derived.Deep.MidRow
import Derived.Test.YtbdibjeemgkdaaaGreatDoorK01
import Derived.Test.YtbdibjeemgkdaaaGreatDoorK02
import Derived.Test.YtbdibjeemgkdaaaGreatDoorK03
import Derived.Test.YtbdibjeemgkdaaaGreatDoorK04
import Derived.Test.YtbdibjeemgkdaaaGreatDoorK09
import Derived.Test.YtbdibjeemgkdaaaGreatDoorK10
import Derived.Test.YtbdibjeemgkdaaaGreatDoorK11
import Derived.Test.YtbdibjeemgkdaaaGreatDoorK12
import Derived.Test.YtbdibjeemgkdaaaGreatDoorK13
import Derived.Test.YtbdibjeemgkdaaaGreatDoorK16
import Derived.Test.YtbdibjeemgkdaaaGreatDoorK17
import Derived.Test.YtbdibjeemgkdaaaGreatDoorK18
import Derived.Test.YtbdibjeemgkdaaaGreatDoorK19
import Derived.Test.YtbdibjeemgkdaaaGreatDoorK20
import Derived.Test.YtbdibjeemgkdaaaGreatDoorK21
import Derived.Test.YtbdibjeemgkdaaaGreatDoorK25
import Derived.Test.YtbdibjeemgkdaaaGreatDoorK29
import Derived.Test.YtbdibjeemgkdaaaGreatDoorK30
import Derived.Test.YtbdibjeemgkdaaaGreatDoorK31
import Derived.Test.YtbdibjeemgkdaaaGreatDoorK32
import Derived.Test.YtbdibjeemgkdaaaGreatDoorK33
namespace Go.Proofs.YtbdibjeemgkdaaaGreatDoor
open Go.RowKit
set_option linter.unusedVariables false
set_option maxRecDepth 8000

def wroC (c : DConn) (d : List Int) : DConn := (c.1, c.2.1, c.2.2.1, c.2.2.2.1, c.2.2.2.2.1, c.2.2.2.2.2.1 ++ d, c.2.2.2.2.2.2.1, c.2.2.2.2.2.2.2.1, c.2.2.2.2.2.2.2.2.1, c.2.2.2.2.2.2.2.2.2.1, c.2.2.2.2.2.2.2.2.2.2.1, c.2.2.2.2.2.2.2.2.2.2.2.1, c.2.2.2.2.2.2.2.2.2.2.2.2.1, ())
/-- What WriteConn answers. -/
def wriV (c : DConn) (d : List Int) : DCR := if connF c = 0 then (if c.2.2.2.2.2.2.1 = true then badR 10 else if 300 < c.2.2.2.2.2.1.length + d.length then badR 2 else (0, wroC c d, [], [], false, ())) else badR (connF c)
theorem wriV_tot (c : DConn) (d : List Int) : totCR (wriV c d) ≤ 1048576 := by
  unfold wriV
  split
  · rename_i h
    split
    · rw [badR_tot]; omega
    · split
      · rw [badR_tot]; omega
      · have e : totCR (0, wroC c d, [], [], false, ()) = totConn c + d.length := by unfold totCR totConn wroC; simp [totSegms, fsum]; omega
        have hs := conn_small h
        rw [e]; omega
  · rw [badR_tot]; omega
theorem ob_up {w : World} {v : Value} {l : List Int} (h : OB w 0 v l) {lo : Nat} (hb : ∀ b, v.ownBlock = some b → lo ≤ b) : OB w lo v l := by
  refine ⟨?_, h.bd⟩
  obtain ⟨h1, ⟨e, hz⟩ | ⟨g, cap, cur, e, hg, r⟩⟩ := h.own
  · exact ⟨h1, Or.inl ⟨e, hz⟩⟩
  · exact ⟨h1, Or.inr ⟨g, cap, cur, e, hb g (by rw [e]; rfl), r⟩⟩
theorem fx_keep {w w' : World} {b : Nat} (h : ∀ o, w.frozen? ⟨b, o, none⟩ = false) (hk : w'.heap[b]? = w.heap[b]?) : ∀ o, w'.frozen? ⟨b, o, none⟩ = false := fun o => by
  have h2 := h o
  unfold World.frozen? at *
  rw [hk]; exact h2
/-- A conn that owns, by its cells; and the same with other bytes written, in a row of their own or a new one. -/
theorem own_wro {w : World} {lo hi : Nat} {y0 y1 y2 : Int} {y3 y4 : Bool} {d5 : List Int} {y6 : Bool} {y7 : Int} {y8 : Bool} {d9 : Gt} {y10 y11 : Int} {d12 : List DSub} {cs : List Value} (h : Own w lo hi shConnO (y0, y1, y2, y3, y4, d5, y6, y7, y8, d9, y10, y11, d12, ()) cs) (hw : ConnWf (y0, y1, y2, y3, y4, d5, y6, y7, y8, d9, y10, y11, d12, ())) : ∃ u v1 v2 s, cs = [.int .i64 y0, .int .i64 y1, .int .i64 y2, .bool y3, .bool y4, u, .bool y6, .int .i64 y7, .bool y8, v1, v2, .int .i64 y10, .int .i64 y11, s] ∧ OB w lo u d5 ∧ (∀ b, u.ownBlock = some b → b < hi) ∧
    (∀ (w' W : World) (u' : Value) (e5 : List Int) (q : Nat), OB w' lo u' e5 → (∀ b, b < w.heap.size → u.ownBlock ≠ some b → w'.heap[b]? = w.heap[b]?) → (u'.ownBlock = u.ownBlock ∨ u'.ownBlock = some w.heap.size) → hi ≤ q → q < w.heap.size → w.heap.size ≤ w'.heap.size → (∀ b, b ≠ q → W.heap[b]? = w'.heap[b]?) → W.heap.size = w'.heap.size →
      Own W lo W.heap.size shConnO (y0, y1, y2, y3, y4, e5, y6, y7, y8, d9, y10, y11, d12, ()) [.int .i64 y0, .int .i64 y1, .int .i64 y2, .bool y3, .bool y4, u', .bool y6, .int .i64 y7, .bool y8, v1, v2, .int .i64 y10, .int .i64 y11, s]) := by
  obtain ⟨bs, ho, hnd, hb⟩ := h
  obtain ⟨b1, b2, b3, u, v1, v2, s, e1, e2, h5, h9, h12, -⟩ := ow_ConnO ho
  obtain ⟨w0, w1, w2, w7, w10, w11⟩ := hw
  obtain ⟨u', eu, hob, hm1, hm2⟩ := bytes_ob h5
  simp only [List.cons.injEq, and_true] at eu
  subst eu
  subst e1
  subst e2
  refine ⟨u, v1, v2, s, rfl, ob_up hob (fun b hbb => (hb b (List.mem_append_left _ (hm1 b hbb))).1), fun b hbb => (hb b (List.mem_append_left _ (hm1 b hbb))).2, ?_⟩
  intro w' W u' e5 q ho' hk hu hq1 hq2 hz hkW hzW
  obtain ⟨c1, g5, gnd, gb⟩ := own_bytes (hi := w'.heap.size) ho' (Nat.le_refl _)
  obtain ⟨u2, eu, -, -, gm2⟩ := bytes_ob g5
  simp only [List.cons.injEq, and_true] at eu
  subst eu
  have hnd2 := List.nodup_append.1 hnd
  have hc1 : ∀ b ∈ c1, b ≠ q ∧ b ∉ b2 ++ b3 := fun b hbc => by
    have h1 := gm2 b hbc
    rcases hu with h2 | h2
    · rw [h2] at h1
      have h3 := hm1 b h1
      exact ⟨fun e => by have := (hb b (List.mem_append_left _ h3)).2; omega, fun h4 => hnd2.2.2 b h3 b h4 rfl⟩
    · rw [h2] at h1
      have h3 : b = w.heap.size := by simpa using h1.symm
      exact ⟨by omega, fun h4 => by have := (hb b (List.mem_append_right _ h4)).2; omega⟩
  have hk2 : ∀ b, b ∈ b2 ++ b3 → W.heap[b]? = w.heap[b]? := fun b hbb => by
    have h1 := (hb b (List.mem_append_right _ hbb)).2
    rw [hkW b (by omega)]
    exact hk b (by omega) (fun e => hnd2.2.2 b (hm1 b e) b hbb rfl)
  refine ⟨c1 ++ (b2 ++ b3), ?_, ?_, ?_⟩
  · have g5' := Sh.Ow.keep (w' := W) u8s c1 e5 [u'] (fun b hbb => hkW b (hc1 b hbb).1) g5
    have g9' := Sh.Ow.keep (w' := W) gtS b2 d9 [v1, v2] (fun b hbb => hk2 b (List.mem_append_left _ hbb)) h9
    have g12' := Sh.Ow.keep (w' := W) shSubsO b3 d12 [s] (fun b hbb => hk2 b (List.mem_append_right _ hbb)) h12
    exact ⟨[], _, _, _, rfl, rfl, ⟨rfl, rfl, w0⟩, [], _, _, _, rfl, rfl, ⟨rfl, rfl, w1⟩, [], _, _, _, rfl, rfl, ⟨rfl, rfl, w2⟩, [], _, _, _, rfl, rfl, ⟨rfl, rfl⟩, [], _, _, _, rfl, rfl, ⟨rfl, rfl⟩, c1, _, [u'], _, rfl, rfl, g5', [], _, _, _, rfl, rfl, ⟨rfl, rfl⟩, [], _, _, _, rfl, rfl, ⟨rfl, rfl, w7⟩, [], _, _, _, rfl, rfl, ⟨rfl, rfl⟩, b2, _, [v1, v2], _, rfl, rfl, g9', [], _, _, _, rfl, rfl, ⟨rfl, rfl, w10⟩, [], _, _, _, rfl, rfl, ⟨rfl, rfl, w11⟩, b3, [], [s], [], (List.append_nil _).symm, rfl, g12', rfl, rfl⟩
  · exact List.nodup_append.2 ⟨gnd, hnd2.2.1, fun a ha b hbb e => (hc1 a ha).2 (e ▸ hbb)⟩
  · intro b hbb
    rcases List.mem_append.1 hbb with h1 | h1
    · have := gb b h1; omega
    · have := hb b (List.mem_append_right _ h1); omega
theorem iMayWriteE (A : Array Value) (da : Option Addr) (n dc : Nat) (C : Int) (w : World) (hA : A.size = 14) (hM : ∀ W, Below w.heap.size w W → Calls Tryz.prog 71 #[.agg A] W fun e w' => e = .returned (.iface 128 (.agg #[.int .i64 C])) ∧ Below W.heap.size W w') :
    Calls Tryz.prog 34 #[.agg A, .slice da n dc] w fun e w' => e = .returned (.iface 128 (.agg #[.int .i64 C])) ∧ Below w.heap.size w w' := by
  have HFX : Hid _ := hM
  clear hM
  have HRGX : Hid (∀ W : World, (∀ o, W.cell? ⟨w.heap.size, o, none⟩ = A[o]?) → Hid (W.rangeAt w.heap.size 0 A.toList)) := fun W hk => bx_range hk
  have HI : Hid ((Tryz.prog.info? 35).map (·.size) = some A.toList.length) := by show _ = _; rw [Array.length_toList, hA]; exact (by kernel_rfl : (Tryz.prog.info? 35).map (·.size) = some 14)
  clear hA
  go_enter Tryz.func34, Tryz.ntmps34
  go_upto_region 1 with fail
  have HRG := HRGX.out (w.alloc (.cells A 35)) (bx_al _ _ _)
  go_wp2_with (refine wpList_load_mid rfl 35 _ rfl _ _ (by rfl) A.toList _ HRG.out Tryz.underlying35 rfl HI.out ?_)
  refine (HFX.out _ (by go_grown)).mono ?_
  rintro e w1 ⟨rfl, hb⟩
  have k0 := bx_new hb
  have HB : Hid (Below w.heap.size w w1) := (bl_new hb).1
  clear hb HRG HFX
  go_wp2_with fail
  go_ret
  exact ⟨rfl, HB.out⟩
theorem iMayWriteN (A : Array Value) (da : Option Addr) (n dc : Nat) (a5 : Option Addr) (n5 c5 : Nat) (x5 : A[5]? = some (.slice a5 n5 c5)) (h5 : n5 ≤ 1048576) (hn : n ≤ 1048576) (w : World) (hA : A.size = 14) (hM : ∀ W, Below w.heap.size w W → Calls Tryz.prog 71 #[.agg A] W fun e w' => e = .returned (.nilIface) ∧ Below W.heap.size W w') :
    Calls Tryz.prog 34 #[.agg A, .slice da n dc] w fun e w' => e = .returned (if 300 < n5 + n then .iface 128 (.agg #[.int .i64 2]) else .nilIface) ∧ Below w.heap.size w w' := by
  have HFX : Hid _ := hM
  clear hM
  have HRGX : Hid (∀ W : World, (∀ o, W.cell? ⟨w.heap.size, o, none⟩ = A[o]?) → Hid (W.rangeAt w.heap.size 0 A.toList)) := fun W hk => bx_range hk
  have HI : Hid ((Tryz.prog.info? 35).map (·.size) = some A.toList.length) := by show _ = _; rw [Array.length_toList, hA]; exact (by kernel_rfl : (Tryz.prog.info? 35).map (·.size) = some 14)
  clear hA
  have hw64 : IntKind.i64.wrap ((300 : Int) - (n5 : Int)) = (300 : Int) - (n5 : Int) := by simp only [IntKind.wrap, IntKind.bits, IntKind.signed]; simp; omega
  by_cases h : 300 < n5 + n
  case pos =>
    rw [if_pos h]
    have h1 : (300 : Int) - (n5 : Int) < (n : Int) := by omega
    have h2 : decide ((300 : Int) - (n5 : Int) < (n : Int)) = true := decide_eq_true h1
    clear h
    go_enter Tryz.func34, Tryz.ntmps34
    go_upto_region 1 with fail
    have HRG := HRGX.out (w.alloc (.cells A 35)) (bx_al _ _ _)
    go_wp2_with (refine wpList_load_mid rfl 35 _ rfl _ _ (by rfl) A.toList _ HRG.out Tryz.underlying35 rfl HI.out ?_)
    refine (HFX.out _ (by go_grown)).mono ?_
    rintro e w1 ⟨rfl, hb⟩
    have k0 := bx_new hb
    have HB : Hid (Below w.heap.size w w1) := (bl_new hb).1
    clear hb HRG HFX
    go_wp2_with fail
    go_ret
    exact ⟨rfl, HB.out⟩
  case neg =>
    rw [if_neg h]
    have h1 : ¬ ((300 : Int) - (n5 : Int) < (n : Int)) := by omega
    have h2 : decide ((300 : Int) - (n5 : Int) < (n : Int)) = false := decide_eq_false h1
    clear h
    go_enter Tryz.func34, Tryz.ntmps34
    go_upto_region 1 with fail
    have HRG := HRGX.out (w.alloc (.cells A 35)) (bx_al _ _ _)
    go_wp2_with (refine wpList_load_mid rfl 35 _ rfl _ _ (by rfl) A.toList _ HRG.out Tryz.underlying35 rfl HI.out ?_)
    refine (HFX.out _ (by go_grown)).mono ?_
    rintro e w1 ⟨rfl, hb⟩
    have k0 := bx_new hb
    have HB : Hid (Below w.heap.size w w1) := (bl_new hb).1
    clear hb HRG HFX
    go_wp2_with fail
    go_ret
    exact ⟨rfl, HB.out⟩
set_option maxHeartbeats 2000000 in
theorem iWriteBad (A : Array Value) (da : Option Addr) (n dc : Nat) (C : Int) (w : World) (hA : A.size = 14) (hE : ErrLaid w) (hM : ∀ W, Below w.heap.size w W → Calls Tryz.prog 34 #[.agg A, .slice da n dc] W fun e w' => e = .returned (.iface 128 (.agg #[.int .i64 C])) ∧ Below W.heap.size W w') :
    Calls Tryz.prog 10 #[.agg A, .slice da n dc] w fun e w' => e = .returned (.agg (bad18 C)) ∧ Below w.heap.size w w' := by
  have HM : Hid _ := hM
  have HCO : Hid (∀ W, Below w.heap.size w W → Calls Tryz.prog 35 #[.iface 128 (.agg #[.int .i64 C])] W fun e w' => e = .returned (.int .i64 C) ∧ Below W.heap.size W w') := fun W hW => dCode C W (ErrLaid.below hE hW)
  clear hM hE
  have HRGX : Hid (∀ W : World, (∀ o, W.cell? ⟨w.heap.size, o, none⟩ = A[o]?) → Hid (W.rangeAt w.heap.size 0 A.toList)) := fun W hk => bx_range hk
  have HI : Hid ((Tryz.prog.info? 35).map (·.size) = some A.toList.length) := by show _ = _; rw [Array.length_toList, hA]; exact (by kernel_rfl : (Tryz.prog.info? 35).map (·.size) = some 14)
  clear hA
  obtain ⟨N, hN⟩ : ∃ N : Array Value, N = bad18 C := ⟨_, rfl⟩
  have HN : Hid _ := hN
  have hNz : N.size = 18 := by rw [hN]; rfl
  have HIN : Hid ((Tryz.prog.info? 38).map (·.size) = some N.size) := by show _ = _; rw [hNz]; exact info_R18
  have HONE : Hid (N.all (·.oneCell') = true) := by show _ = _; rw [hN]; exact bad_one _
  have HNZ : Hid _ := hNz
  rw [← hN]
  clear hN hNz
  go_enter Tryz.func10, Tryz.ntmps10
  go_upto_region 1 with fail
  have HRG := HRGX.out ((w.alloc (.cells A 35)).alloc (.cells #[.int .i64 0, .int .i64 0, .int .i64 0, .int .i64 0, .bool false, .bool false, .slice none 0 0, .bool false, .int .i64 0, .bool false, .slice none 0 0, .slice none 0 0, .int .i64 0, .int .i64 0, .slice none 0 0, .slice none 0 0, .slice none 0 0, .bool false] 38)) (fun o => by simp [go_sem])
  go_wp2_with (refine wpList_load_mid rfl 35 _ rfl _ _ (by rfl) A.toList _ HRG.out Tryz.underlying35 rfl HI.out ?_)
  refine (HM.out _ (by go_grown)).mono ?_
  rintro e w1 ⟨rfl, hb⟩
  obtain ⟨k0, kR, fR, hb1, z0⟩ := two_boxes hb
  have HB : Hid (Below w.heap.size w w1) := hb1
  clear hb hb1 HRG HM
  go_wp2_with fail
  refine (HCO.out _ HB.out).mono ?_
  rintro e W4 ⟨rfl, hb⟩
  replace kR := bx_below kR z0 hb
  replace fR := bxF fR hb z0
  replace HB : Hid (Below w.heap.size w W4) := HB.out.trans (hb.mono HB.out.size)
  clear hb HCO
  have HTH : Hid (W4.there (w.heap.size + 1) 0 N.size) := bx_there kR fR (by rw [HNZ.out]; rfl)
  have kF : Hid (∀ o, (W4.setCells (w.heap.size + 1) 0 N.toList).cell? ⟨w.heap.size + 1, o, none⟩ = N[o]?) := bx_setCells kR (by rw [HNZ.out]; rfl)
  go_wp2_with (refine wpList_store_mid rfl 38 _ _ rfl _ _ N (by rfl) (by rw [HN.out]; rfl) HTH.out HIN.out HONE.out ?_)
  refine bodyPost_ret (results_box Tryz.results10 _ _ _ N _ (by rfl) kF.out Tryz.underlying38 rfl HIN.out) rfl ⟨rfl, ?_⟩
  exact setCells_below (by omega) _ _ _ _ HB.out
set_option maxHeartbeats 4000000 in
theorem iWriteOk (c : DConn) (A : Array Value) (da : Option Addr) (n dc : Nat) (dd : List Int) (w : World) (B : Nat) (hr : shConn.Rd w B c A.toList) (hB : B ≤ w.heap.size) (hT : totConn c ≤ 1048576) (hF : connF c = 0) (hl : dd.length = n) (hd : RB w da dd) (hnil : da = none → dc = 0) (h3 : ¬ 300 < c.2.2.2.2.2.1.length + n) (hM : ∀ W, Below w.heap.size w W → Calls Tryz.prog 34 #[.agg A, .slice da n dc] W fun e w' => e = .returned (.nilIface) ∧ Below W.heap.size W w') :
    Calls Tryz.prog 10 #[.agg A, .slice da n dc] w fun e w' => ∃ N : Array Value, e = .returned (.agg N) ∧ Own w' w.heap.size w'.heap.size shCR (0, wroC c dd, [], [], false, ()) N.toList ∧ Below w.heap.size w w' := by
  have HL : Hid (dd.length = n) := hl
  have HRB : Hid (∀ W, Below w.heap.size w W → RB W da dd) := fun W hW => hd.below (Nat.le_refl _) hW
  have HNI : Hid _ := hnil
  have hwf := (conn_fin hr).2
  have hA : A.size = 14 := rd_size hr
  have HCP : Hid (∀ W, Below w.heap.size w W → Calls Tryz.prog 36 #[.agg A] W fun e w' => ∃ N : Array Value, e = .returned (.agg N) ∧ Own w' W.heap.size w'.heap.size shConnO c N.toList ∧ Below W.heap.size W w') := fun W hW => iCopyConn c A W B (Sh.Rd.below hr hB hW) (Nat.le_trans hB hW.size) hT hF
  have HM : Hid _ := hM
  clear hM hr hF hl hd hnil
  have HRGX : Hid (∀ W : World, (∀ o, W.cell? ⟨w.heap.size, o, none⟩ = A[o]?) → Hid (W.rangeAt w.heap.size 0 A.toList)) := fun W hk => bx_range hk
  have HI : Hid ((Tryz.prog.info? 35).map (·.size) = some A.toList.length) := by show _ = _; rw [Array.length_toList, hA]; exact (by kernel_rfl : (Tryz.prog.info? 35).map (·.size) = some 14)
  clear hA
  obtain ⟨y0, y1, y2, y3, y4, d5, y6, y7, y8, d9, y10, y11, d12, ⟨⟩⟩ := c
  replace h3 : ¬ 300 < d5.length + n := h3
  have HWF : Hid _ := hwf
  clear hwf hT
  show Calls _ _ _ _ fun e w' => ∃ N : Array Value, e = .returned (.agg N) ∧ Own w' w.heap.size w'.heap.size shCR (0, (y0, y1, y2, y3, y4, (d5 ++ dd), y6, y7, y8, d9, y10, y11, d12, ()), [], [], false, ()) N.toList ∧ _
  go_enter Tryz.func10, Tryz.ntmps10
  go_upto_region 1 with fail
  have HRG := HRGX.out ((w.alloc (.cells A 35)).alloc (.cells #[.int .i64 0, .int .i64 0, .int .i64 0, .int .i64 0, .bool false, .bool false, .slice none 0 0, .bool false, .int .i64 0, .bool false, .slice none 0 0, .slice none 0 0, .int .i64 0, .int .i64 0, .slice none 0 0, .slice none 0 0, .slice none 0 0, .bool false] 38)) (fun o => by simp [go_sem])
  go_wp2_with (refine wpList_load_mid rfl 35 _ rfl _ _ (by rfl) A.toList _ HRG.out Tryz.underlying35 rfl HI.out ?_)
  refine (HM.out _ (by go_grown)).mono ?_
  rintro e w1 ⟨rfl, hb⟩
  obtain ⟨k0, kR, fR, hb1, z0⟩ := two_boxes hb
  have HB : Hid (Below w.heap.size w w1) := hb1
  clear hb hb1 HRG HM
  have HRG2 : Hid (w1.rangeAt w.heap.size 0 A.toList) := bx_range k0
  go_wp2_with (refine wpList_load_mid rfl 35 _ rfl _ _ (by rfl) A.toList _ HRG2.out Tryz.underlying35 rfl HI.out ?_)
  refine (HCP.out _ HB.out).mono ?_
  rintro e w2 ⟨M, rfl, ho2, hb⟩
  have z2 : w.heap.size + 1 < w2.heap.size := Nat.lt_of_lt_of_le z0 hb.size
  replace kR := bx_below kR z0 hb
  replace fR := bxF fR hb z0
  replace ho2 : Own w2 (w.heap.size + 1 + 1) w2.heap.size shConnO (y0, y1, y2, y3, y4, d5, y6, y7, y8, d9, y10, y11, d12, ()) M.toList := Own.mono ho2 z0 (Nat.le_refl _)
  replace HB : Hid (Below w.heap.size w w2) := HB.out.trans (hb.mono HB.out.size)
  clear hb HCP HRG2 k0 z0
  have hMz : M.size = 14 := rd_size (s := shConnO) (ho2.rd (Nat.le_refl _))
  have HIM : Hid ((Tryz.prog.info? 35).map (·.size) = some M.size) := by show _ = _; rw [hMz]; exact (by kernel_rfl : (Tryz.prog.info? 35).map (·.size) = some 14)
  have HONM : Hid (M.all (·.oneCell') = true) := rd_all (ho2.rd (Nat.le_refl _))
  have HTM : Hid ((w2.alloc (.cells #[.int .i64 0, .int .i64 0, .int .i64 0, .bool false, .bool false, .slice none 0 0, .bool false, .int .i64 0, .bool false, .slice none 0 0, .slice none 0 0, .int .i64 0, .int .i64 0, .slice none 0 0] 35)).there w2.heap.size 0 M.size) := bx_there (bx_al _ _ _) (fx_al _ _ _) (by rw [hMz]; rfl)
  have HW5 : Hid (Below w2.heap.size w2 ((w2.alloc (.cells #[.int .i64 0, .int .i64 0, .int .i64 0, .bool false, .bool false, .slice none 0 0, .bool false, .int .i64 0, .bool false, .slice none 0 0, .slice none 0 0, .int .i64 0, .int .i64 0, .slice none 0 0] 35)).setCells w2.heap.size 0 M.toList) ∧ w2.heap.size < ((w2.alloc (.cells #[.int .i64 0, .int .i64 0, .int .i64 0, .bool false, .bool false, .slice none 0 0, .bool false, .int .i64 0, .bool false, .slice none 0 0, .slice none 0 0, .int .i64 0, .int .i64 0, .slice none 0 0] 35)).setCells w2.heap.size 0 M.toList).heap.size ∧ (∀ o, ((w2.alloc (.cells #[.int .i64 0, .int .i64 0, .int .i64 0, .bool false, .bool false, .slice none 0 0, .bool false, .int .i64 0, .bool false, .slice none 0 0, .slice none 0 0, .int .i64 0, .int .i64 0, .slice none 0 0] 35)).setCells w2.heap.size 0 M.toList).cell? ⟨w2.heap.size, o, none⟩ = M[o]?) ∧ (∀ o, ((w2.alloc (.cells #[.int .i64 0, .int .i64 0, .int .i64 0, .bool false, .bool false, .slice none 0 0, .bool false, .int .i64 0, .bool false, .slice none 0 0, .slice none 0 0, .int .i64 0, .int .i64 0, .slice none 0 0] 35)).setCells w2.heap.size 0 M.toList).frozen? ⟨w2.heap.size, o, none⟩ = false)) := ⟨setCells_below (Nat.le_refl _) _ _ _ _ ((Below.refl _ _).alloc (Nat.le_refl _) _), by rw [setCells_size]; simp, bx_setCells (bx_al w2 _ _) (by rw [hMz]; rfl), fx_sets (fx_al _ _ _)⟩
  have HO2 : Hid _ := ho2
  clear hMz ho2
  go_upto_region 5 with (refine wpList_store_mid rfl 35 _ _ rfl _ _ M (by rfl) (by rfl) HTM.out HIM.out HONM.out ?_)
  generalize hW5 : ((w2.alloc (.cells #[.int .i64 0, .int .i64 0, .int .i64 0, .bool false, .bool false, .slice none 0 0, .bool false, .int .i64 0, .bool false, .slice none 0 0, .slice none 0 0, .int .i64 0, .int .i64 0, .slice none 0 0] 35)).setCells w2.heap.size 0 M.toList) = W5 at HW5 ⊢
  clear hW5 HTM HIM HONM
  obtain ⟨hb5, z5, kM, fM⟩ := HW5.out
  clear HW5
  replace kR := bx_below kR z2 hb5
  replace fR := bxF fR hb5 z2
  have ho5 : Own W5 (w.heap.size + 1 + 1) w2.heap.size shConnO (y0, y1, y2, y3, y4, d5, y6, y7, y8, d9, y10, y11, d12, ()) M.toList := HO2.out.below (Nat.le_refl _) hb5
  obtain ⟨u, v1, v2, s, hM, hob, hub, hown⟩ := own_wro ho5 HWF.out
  have HMN : M = #[.int .i64 y0, .int .i64 y1, .int .i64 y2, .bool y3, .bool y4, u, .bool y6, .int .i64 y7, .bool y8, v1, v2, .int .i64 y10, .int .i64 y11, s] := arr_of hM
  rw [HMN] at kM
  have HOB : Hid _ := hob
  have HUB : Hid _ := hub
  have HOW : Hid _ := hown
  clear hob hub hown hM HMN ho5 HO2
  replace HB : Hid (Below w.heap.size w W5) := HB.out.trans (hb5.mono HB.out.size)
  obtain ⟨q, hq⟩ : ∃ q, q = w2.heap.size := ⟨_, rfl⟩
  rw [← hq] at z5 kM fM z2 HUB HOW ⊢
  clear hq hb5
  have HNQ : Hid (some q ≠ u.ownBlock) := fun e => by have := HUB.out q e.symm; omega
  go_upto_region 6 with (at_builtin; go_loud (refine app_pl W5 rfl _ _ 22 22 rfl Tryz.underlying22 Tryz.underlying22 (w.heap.size + 1 + 1) u d5 (by rfl) HOB.out da dd n dc HL.out (by rfl) (HRB.out _ HB.out) HNI.out (by omega) (by omega) ?_; intro u6 w6 ho6 hb6 hg6 hat6; obtain ⟨b6, n6, c6, hv6⟩ : ∃ b6 n6 c6, u6 = .slice b6 n6 c6 := (by obtain ⟨a, c, h, -⟩ := ho6.rb; exact ⟨_, _, _, h⟩); subst hv6; replace kM := bx_keep kM (hg6.block q z5 HNQ.out); replace fM := fx_keep fM (hg6.block q z5 HNQ.out); have H6 : Hid (OB w6 (w.heap.size + 1 + 1) (.slice b6 n6 c6) (d5 ++ dd) ∧ Below (w.heap.size + 1 + 1) W5 w6 ∧ W5.grownBy w6 u.ownBlock ∧ ((Value.slice b6 n6 c6).ownBlock = u.ownBlock ∨ (Value.slice b6 n6 c6).ownBlock = some W5.heap.size)) := ⟨ho6, hb6, hg6, hat6⟩; clear ho6 hb6 hg6 hat6))
  obtain ⟨ho6, hb6, hg6, hat6⟩ := H6.out
  clear H6
  obtain ⟨u6, hu6⟩ : ∃ u6, u6 = Value.slice b6 n6 c6 := ⟨_, rfl⟩
  rw [← hu6] at ho6 hat6 ⊢
  clear hu6
  have hz6 : W5.heap.size ≤ w6.heap.size := hb6.size
  replace kR := bxB kR hb6 (by omega)
  replace fR := bxF fR hb6 (by omega)
  replace kM := bx_put kM (k := 5) (v := u6) (by simp)
  simp only [List.setIfInBounds_toArray, List.set_cons_zero, List.set_cons_succ] at kM
  replace kR : ∀ o, (w6.setCell ⟨q, 5, none⟩ u6).cell? ⟨w.heap.size + 1, o, none⟩ = (#[.int .i64 0, .int .i64 0, .int .i64 0, .int .i64 0, .bool false, .bool false, .slice none 0 0, .bool false, .int .i64 0, .bool false, .slice none 0 0, .slice none 0 0, .int .i64 0, .int .i64 0, .slice none 0 0, .slice none 0 0, .slice none 0 0, .bool false] : Array Value)[o]? := bx_setC kR (by omega)
  replace fR : ∀ o, (w6.setCell ⟨q, 5, none⟩ u6).frozen? ⟨w.heap.size + 1, o, none⟩ = false := fx_setC fR
  have HOF : Hid (Own (w6.setCell ⟨q, 5, none⟩ u6) (w.heap.size + 1 + 1) (w6.setCell ⟨q, 5, none⟩ u6).heap.size shConnO (y0, y1, y2, y3, y4, (d5 ++ dd), y6, y7, y8, d9, y10, y11, d12, ()) [.int .i64 y0, .int .i64 y1, .int .i64 y2, .bool y3, .bool y4, u6, .bool y6, .int .i64 y7, .bool y8, v1, v2, .int .i64 y10, .int .i64 y11, s]) := HOW.out w6 (w6.setCell ⟨q, 5, none⟩ u6) u6 (d5 ++ dd) q ho6 (fun b hb hne => hg6.block b hb (Ne.symm hne)) hat6 (by omega) z5 hz6 (fun b hb => Below.heap_setCell _ _ _ _ (by dsimp only; omega)) (by simp)
  replace HB : Hid (Below w.heap.size w (w6.setCell ⟨q, 5, none⟩ u6)) := Below.setCell (p := ⟨q, 5, none⟩) (HB.out.trans (hb6.mono (by omega))) (show w.heap.size ≤ q by omega) _
  have z6 : q < (w6.setCell ⟨q, 5, none⟩ u6).heap.size := by have h : (w6.setCell ⟨q, 5, none⟩ u6).heap.size = w6.heap.size := (by simp); omega
  generalize hW7 : (w6.setCell ⟨q, 5, none⟩ u6) = W7 at kM kR fR HOF HB z6 ⊢
  clear hW7 fM z5 ho6 hb6 hg6 hat6 hz6 HOB HUB HOW HNQ
  have HKM : Hid (W7.rangeAt q 0 [.int .i64 y0, .int .i64 y1, .int .i64 y2, .bool y3, .bool y4, u6, .bool y6, .int .i64 y7, .bool y8, v1, v2, .int .i64 y10, .int .i64 y11, s]) := bx_range kM
  have HIL : Hid ((Tryz.prog.info? 35).map (·.size) = some [.int .i64 y0, .int .i64 y1, .int .i64 y2, .bool y3, .bool y4, u6, .bool y6, .int .i64 y7, .bool y8, v1, v2, .int .i64 y10, .int .i64 y11, s].length) := (by kernel_rfl : (Tryz.prog.info? 35).map (·.size) = some 14)
  obtain ⟨N, hN⟩ : ∃ N : Array Value, N = #[.int .i64 0, .int .i64 y0, .int .i64 y1, .int .i64 y2, .bool y3, .bool y4, u6, .bool y6, .int .i64 y7, .bool y8, v1, v2, .int .i64 y10, .int .i64 y11, s, .slice none 0 0, .slice none 0 0, .bool false] := ⟨_, rfl⟩
  have HN : Hid _ := hN
  have hNz : N.size = 18 := by rw [hN]; rfl
  have HIN : Hid ((Tryz.prog.info? 38).map (·.size) = some N.size) := by show _ = _; rw [hNz]; exact info_R18
  have HNZ : Hid _ := hNz
  clear kM
  have HTH : Hid (W7.there (w.heap.size + 1) 0 N.size) := bx_there kR fR (by rw [HNZ.out]; rfl)
  have kF : Hid (∀ o, (W7.setCells (w.heap.size + 1) 0 N.toList).cell? ⟨w.heap.size + 1, o, none⟩ = N[o]?) := bx_setCells kR (by rw [HNZ.out]; rfl)
  have HRES : Hid (Own W7 (w.heap.size + 1 + 1) W7.heap.size shCR (0, (y0, y1, y2, y3, y4, (d5 ++ dd), y6, y7, y8, d9, y10, y11, d12, ()), [], [], false, ()) N.toList) := by show Own _ _ _ _ _ _; rw [hN]; exact own_CR (by omega) (by decide) HOF.out
  have HONE : Hid (N.all (·.oneCell') = true) := rd_all (s := shCR) (HRES.out.rd (Nat.le_refl _))
  clear hN hNz HOF
  go_wp2_with (first | (refine wpList_load_mid rfl 35 _ rfl _ _ (by rfl) [.int .i64 y0, .int .i64 y1, .int .i64 y2, .bool y3, .bool y4, u6, .bool y6, .int .i64 y7, .bool y8, v1, v2, .int .i64 y10, .int .i64 y11, s] _ HKM.out Tryz.underlying35 rfl HIL.out ?_) | (refine wpList_store_mid rfl 38 _ _ rfl _ _ N (by rfl) (by rw [HN.out]; rfl) HTH.out HIN.out HONE.out ?_))
  refine bodyPost_ret (results_box Tryz.results10 _ _ _ N _ (by rfl) kF.out Tryz.underlying38 rfl HIN.out) rfl ⟨N, rfl, ?_, ?_⟩
  · refine Own.mono (Own.keep HRES.out fun b hb hlt => setCells_block (by omega) _ _ _) (by omega) (by rw [setCells_size]; omega)
  · exact setCells_below (by omega) _ _ _ _ HB.out
theorem iWriteConn (c : DConn) (A : Array Value) (da : Option Addr) (n dc : Nat) (dd : List Int) (w : World) (B : Nat) (hr : shConn.Rd w B c A.toList) (hB : B ≤ w.heap.size) (hT : totConn c ≤ 1048576) (hl : dd.length = n) (hd : RB w da dd) (hnil : da = none → dc = 0) (hn : n ≤ 1048576) (hE : ErrLaid w) :
    Calls Tryz.prog 10 #[.agg A, .slice da n dc] w fun e w' => ∃ N : Array Value, e = .returned (.agg N) ∧ Own w' w.heap.size w'.heap.size shCR (wriV c dd) N.toList ∧ Below w.heap.size w w' := by
  have hA : A.size = 14 := rd_size hr
  obtain ⟨a5, c5, x5⟩ : ∃ a5 c5, A[5]? = some (.slice a5 c.2.2.2.2.2.1.length c5) := by obtain ⟨y0, y1, y2, y3, y4, d5, y6, y7, y8, d9, y10, y11, l, ⟨⟩⟩ := c; obtain ⟨a5, c5, a9, c9, a9', c9', a12, c12, eA, -⟩ := rd_Conn hr; exact ⟨a5, c5, get_of eA 5⟩
  have h5 : c.2.2.2.2.2.1.length ≤ 1048576 := by unfold totConn at hT; omega
  have HF : ∀ W, Below w.heap.size w W → Calls Tryz.prog 86 #[.agg A] W fun e w' => e = .returned (.int .i64 (connF c)) ∧ Below W.heap.size W w' := fun W hW => iConnFault c A W B (Sh.Rd.below hr hB hW) (Nat.le_trans hB hW.size) hT
  have TR : ∀ (R : Value), (∀ W, Below w.heap.size w W → Calls Tryz.prog 71 #[.agg A] W fun e w' => e = .returned R ∧ Below W.heap.size W w') → ∀ W, Below w.heap.size w W → ∀ W', Below W.heap.size W W' → Calls Tryz.prog 71 #[.agg A] W' fun e w' => e = .returned R ∧ Below W'.heap.size W' w' := fun R h W hW W' hW' => h W' (hW.trans (hW'.mono hW.size))
  unfold wriV
  rw [hl]
  by_cases hC : connF c = 0
  · rw [if_pos hC]
    rw [hC] at HF
    have HM := fun W (hW : Below w.heap.size w W) => iMayClose0 A _ W hA (conn_fin hr).1 (fun W' hW' => HF W' (hW.trans (hW'.mono hW.size)))
    split
    · rename_i hf
      rw [hf] at HM
      exact (iWriteBad A da n dc 10 w hA hE (fun W hW => iMayWriteE A da n dc 10 W hA (TR _ HM W hW))).mono (by rintro e w' ⟨rfl, hb⟩; exact ⟨_, rfl, own_bad w' _ _ hb.size (by decide), hb⟩)
    · rename_i hf
      rw [if_neg hf] at HM
      have HW := fun W (hW : Below w.heap.size w W) => iMayWriteN A da n dc a5 _ c5 x5 h5 hn W hA (TR _ HM W hW)
      split
      · rename_i h3
        rw [if_pos h3] at HW
        exact (iWriteBad A da n dc 2 w hA hE HW).mono (by rintro e w' ⟨rfl, hb⟩; exact ⟨_, rfl, own_bad w' _ _ hb.size (by decide), hb⟩)
      · rename_i h3
        rw [if_neg h3] at HW
        exact iWriteOk c A da n dc dd w B hr hB hT hC hl hd hnil h3 HW
  · rw [if_neg hC]
    exact (iWriteBad A da n dc _ w hA hE (fun W hW => iMayWriteE A da n dc _ W hA (fun W' hW' => iMayCloseC A _ hC W' hA (fun W'' hW'' => HF W'' ((hW.trans (hW'.mono hW.size)).trans (hW''.mono (hW.trans (hW'.mono hW.size)).size)))))).mono (by rintro e w' ⟨rfl, hb⟩; exact ⟨_, rfl, own_bad w' _ _ hb.size (wf_i64' (by have := connF_bd c; unfold Small at this; omega)), hb⟩)
set_option maxHeartbeats 2000000 in
theorem sWriteC (A : Array Value) (da : Option Addr) (n dc : Nat) (C : Int) (hC : C ≠ 0) (w : World) (hF : ∀ W, Below w.heap.size w W → (∀ o, W.cell? ⟨w.heap.size, o, none⟩ = A[o]?) → Calls Tryz.prog 29 #[.pointer (some ⟨w.heap.size, 0, none⟩)] W fun e w' => e = .returned (.int .i64 C) ∧ Below W.heap.size W w') :
    Calls Tryz.prog 7 #[.agg A, .slice da n dc] w fun e w' => e = .returned (.agg (bad18 C)) ∧ Below w.heap.size w w' := by
  have hC' : (C != 0) = true := by simp [hC]
  have HF : Hid _ := hF
  clear hF hC
  obtain ⟨N, hN⟩ : ∃ N : Array Value, N = bad18 C := ⟨_, rfl⟩
  have HN : Hid _ := hN
  have hNz : N.size = 18 := by rw [hN]; rfl
  have HIN : Hid ((Tryz.prog.info? 38).map (·.size) = some N.size) := by show _ = _; rw [hNz]; exact info_R18
  have HONE : Hid (N.all (·.oneCell') = true) := by show _ = _; rw [hN]; exact bad_one _
  have HNZ : Hid _ := hNz
  rw [← hN]
  clear hN hNz
  go_enter Tryz.func7, Tryz.ntmps7
  go_wp2_with fail
  refine (HF.out _ (by go_grown) (fun o => by simp [go_sem])).mono ?_
  rintro e w1 ⟨rfl, hb⟩
  obtain ⟨k0, kR, fR, hb1, z0⟩ := two_boxes hb
  have HB : Hid (Below w.heap.size w w1) := hb1
  clear hb hb1 HF
  go_wp2_with fail
  refine (sBad9 C _).mono ?_
  rintro e W4 ⟨rfl, hb⟩
  rw [← HN.out]
  replace kR := bx_below kR z0 hb
  replace fR := bxF fR hb z0
  replace HB : Hid (Below w.heap.size w W4) := HB.out.trans (hb.mono HB.out.size)
  clear hb
  have HTH : Hid (W4.there (w.heap.size + 1) 0 N.size) := bx_there kR fR (by rw [HNZ.out]; rfl)
  have kF : Hid (∀ o, (W4.setCells (w.heap.size + 1) 0 N.toList).cell? ⟨w.heap.size + 1, o, none⟩ = N[o]?) := bx_setCells kR (by rw [HNZ.out]; rfl)
  go_wp2_with (refine wpList_store_mid rfl 38 _ _ rfl _ _ N (by rfl) (by rfl) HTH.out HIN.out HONE.out ?_)
  refine bodyPost_ret (results_box Tryz.results7 _ _ _ N _ (by rfl) kF.out Tryz.underlying38 rfl HIN.out) rfl ⟨rfl, ?_⟩
  exact setCells_below (by omega) _ _ _ _ HB.out
set_option maxHeartbeats 2000000 in
theorem sWrite10 (A : Array Value) (da : Option Addr) (n dc : Nat) (w : World) (h6 : A[6]? = some (.bool true)) (hF : ∀ W, Below w.heap.size w W → (∀ o, W.cell? ⟨w.heap.size, o, none⟩ = A[o]?) → Calls Tryz.prog 29 #[.pointer (some ⟨w.heap.size, 0, none⟩)] W fun e w' => e = .returned (.int .i64 0) ∧ Below W.heap.size W w') :
    Calls Tryz.prog 7 #[.agg A, .slice da n dc] w fun e w' => e = .returned (.agg (bad18 10)) ∧ Below w.heap.size w w' := by
  have HF : Hid _ := hF
  clear hF
  obtain ⟨N, hN⟩ : ∃ N : Array Value, N = bad18 10 := ⟨_, rfl⟩
  have HN : Hid _ := hN
  have hNz : N.size = 18 := by rw [hN]; rfl
  have HIN : Hid ((Tryz.prog.info? 38).map (·.size) = some N.size) := by show _ = _; rw [hNz]; exact info_R18
  have HONE : Hid (N.all (·.oneCell') = true) := by show _ = _; rw [hN]; exact bad_one _
  have HNZ : Hid _ := hNz
  rw [← hN]
  clear hN hNz
  go_enter Tryz.func7, Tryz.ntmps7
  go_wp2_with fail
  refine (HF.out _ (by go_grown) (fun o => by simp [go_sem])).mono ?_
  rintro e w1 ⟨rfl, hb⟩
  obtain ⟨k0, kR, fR, hb1, z0⟩ := two_boxes hb
  have HB : Hid (Below w.heap.size w w1) := hb1
  clear hb hb1 HF
  go_wp2_with fail
  refine (sBad9 10 _).mono ?_
  rintro e W4 ⟨rfl, hb⟩
  rw [← HN.out]
  replace kR := bx_below kR z0 hb
  replace fR := bxF fR hb z0
  replace HB : Hid (Below w.heap.size w W4) := HB.out.trans (hb.mono HB.out.size)
  clear hb
  have HTH : Hid (W4.there (w.heap.size + 1) 0 N.size) := bx_there kR fR (by rw [HNZ.out]; rfl)
  have kF : Hid (∀ o, (W4.setCells (w.heap.size + 1) 0 N.toList).cell? ⟨w.heap.size + 1, o, none⟩ = N[o]?) := bx_setCells kR (by rw [HNZ.out]; rfl)
  go_wp2_with (refine wpList_store_mid rfl 38 _ _ rfl _ _ N (by rfl) (by rfl) HTH.out HIN.out HONE.out ?_)
  refine bodyPost_ret (results_box Tryz.results7 _ _ _ N _ (by rfl) kF.out Tryz.underlying38 rfl HIN.out) rfl ⟨rfl, ?_⟩
  exact setCells_below (by omega) _ _ _ _ HB.out
set_option maxHeartbeats 2000000 in
theorem sWrite2 (A : Array Value) (da : Option Addr) (n dc : Nat) (a5 : Option Addr) (n5 c5 : Nat) (x5 : A[5]? = some (.slice a5 n5 c5)) (h5 : n5 ≤ 1048576) (hn : n ≤ 1048576) (h3 : 300 < n5 + n) (w : World) (h6 : A[6]? = some (.bool false)) (hF : ∀ W, Below w.heap.size w W → (∀ o, W.cell? ⟨w.heap.size, o, none⟩ = A[o]?) → Calls Tryz.prog 29 #[.pointer (some ⟨w.heap.size, 0, none⟩)] W fun e w' => e = .returned (.int .i64 0) ∧ Below W.heap.size W w') :
    Calls Tryz.prog 7 #[.agg A, .slice da n dc] w fun e w' => e = .returned (.agg (bad18 2)) ∧ Below w.heap.size w w' := by
  have HF : Hid _ := hF
  have hw64 : IntKind.i64.wrap ((n5 : Int) + (n : Int)) = (n5 : Int) + (n : Int) := by simp only [IntKind.wrap, IntKind.bits, IntKind.signed]; simp; omega
  have h1 : (300 : Int) < (n5 : Int) + (n : Int) := by omega
  have h2 : decide ((300 : Int) < (n5 : Int) + (n : Int)) = true := decide_eq_true h1
  clear hF h3
  obtain ⟨N, hN⟩ : ∃ N : Array Value, N = bad18 2 := ⟨_, rfl⟩
  have HN : Hid _ := hN
  have hNz : N.size = 18 := by rw [hN]; rfl
  have HIN : Hid ((Tryz.prog.info? 38).map (·.size) = some N.size) := by show _ = _; rw [hNz]; exact info_R18
  have HONE : Hid (N.all (·.oneCell') = true) := by show _ = _; rw [hN]; exact bad_one _
  have HNZ : Hid _ := hNz
  rw [← hN]
  clear hN hNz
  go_enter Tryz.func7, Tryz.ntmps7
  go_wp2_with fail
  refine (HF.out _ (by go_grown) (fun o => by simp [go_sem])).mono ?_
  rintro e w1 ⟨rfl, hb⟩
  obtain ⟨k0, kR, fR, hb1, z0⟩ := two_boxes hb
  have HB : Hid (Below w.heap.size w w1) := hb1
  clear hb hb1 HF
  go_wp2_with fail
  refine (sBad9 2 _).mono ?_
  rintro e W4 ⟨rfl, hb⟩
  rw [← HN.out]
  replace kR := bx_below kR z0 hb
  replace fR := bxF fR hb z0
  replace HB : Hid (Below w.heap.size w W4) := HB.out.trans (hb.mono HB.out.size)
  clear hb
  have HTH : Hid (W4.there (w.heap.size + 1) 0 N.size) := bx_there kR fR (by rw [HNZ.out]; rfl)
  have kF : Hid (∀ o, (W4.setCells (w.heap.size + 1) 0 N.toList).cell? ⟨w.heap.size + 1, o, none⟩ = N[o]?) := bx_setCells kR (by rw [HNZ.out]; rfl)
  go_wp2_with (refine wpList_store_mid rfl 38 _ _ rfl _ _ N (by rfl) (by rfl) HTH.out HIN.out HONE.out ?_)
  refine bodyPost_ret (results_box Tryz.results7 _ _ _ N _ (by rfl) kF.out Tryz.underlying38 rfl HIN.out) rfl ⟨rfl, ?_⟩
  exact setCells_below (by omega) _ _ _ _ HB.out
set_option maxHeartbeats 4000000 in
theorem sWriteOk (c : DConn) (A : Array Value) (da : Option Addr) (n dc : Nat) (dd : List Int) (w : World) (B : Nat) (hr : shConn.Rd w B c A.toList) (hB : B ≤ w.heap.size) (hT : totConn c ≤ 1048576) (hF : connF c = 0) (hl : dd.length = n) (hd : RB w da dd) (hnil : da = none → dc = 0) (h3 : ¬ 300 < c.2.2.2.2.2.1.length + n) (h6 : A[6]? = some (.bool false)) (a5 : Option Addr) (c5 : Nat) (x5 : A[5]? = some (.slice a5 c.2.2.2.2.2.1.length c5)) (hG : ∀ W, Below w.heap.size w W → (∀ o, W.cell? ⟨w.heap.size, o, none⟩ = A[o]?) → Calls Tryz.prog 29 #[.pointer (some ⟨w.heap.size, 0, none⟩)] W fun e w' => e = .returned (.int .i64 0) ∧ Below W.heap.size W w') :
    Calls Tryz.prog 7 #[.agg A, .slice da n dc] w fun e w' => ∃ N : Array Value, e = .returned (.agg N) ∧ Own w' w.heap.size w'.heap.size shCR (0, wroC c dd, [], [], false, ()) N.toList ∧ Below w.heap.size w w' := by
  have HL : Hid (dd.length = n) := hl
  have HRB : Hid (∀ W, Below w.heap.size w W → RB W da dd) := fun W hW => hd.below (Nat.le_refl _) hW
  have HNI : Hid _ := hnil
  have hwf := (conn_fin hr).2
  have hA : A.size = 14 := rd_size hr
  have HCP : Hid (∀ W, Below w.heap.size w W → Calls Tryz.prog 31 #[.agg A] W fun e w' => ∃ N : Array Value, e = .returned (.agg N) ∧ Own w' W.heap.size w'.heap.size shConnO c N.toList ∧ Below W.heap.size W w') := fun W hW => sL9Copy c A W B (Sh.Rd.below hr hB hW) (Nat.le_trans hB hW.size) hT hF
  have HF : Hid _ := hG
  clear hG hr hF hl hd hnil
  have HRGX : Hid (∀ W : World, (∀ o, W.cell? ⟨w.heap.size, o, none⟩ = A[o]?) → Hid (W.rangeAt w.heap.size 0 A.toList)) := fun W hk => bx_range hk
  have HI : Hid ((Tryz.prog.info? 35).map (·.size) = some A.toList.length) := by show _ = _; rw [Array.length_toList, hA]; exact (by kernel_rfl : (Tryz.prog.info? 35).map (·.size) = some 14)
  clear hA
  obtain ⟨y0, y1, y2, y3, y4, d5, y6, y7, y8, d9, y10, y11, d12, ⟨⟩⟩ := c
  replace h3 : ¬ 300 < d5.length + n := h3
  have HWF : Hid _ := hwf
  replace x5 : A[5]? = some (.slice a5 d5.length c5) := x5
  obtain ⟨n5, h5n⟩ : ∃ n5, d5.length = n5 := ⟨_, rfl⟩
  rw [h5n] at x5 h3
  have hw64 : IntKind.i64.wrap ((n5 : Int) + (n : Int)) = (n5 : Int) + (n : Int) := by simp only [IntKind.wrap, IntKind.bits, IntKind.signed]; simp; omega
  have h1 : ¬ ((300 : Int) < (n5 : Int) + (n : Int)) := by omega
  have h2 : decide ((300 : Int) < (n5 : Int) + (n : Int)) = false := decide_eq_false h1
  clear hwf hT
  show Calls _ _ _ _ fun e w' => ∃ N : Array Value, e = .returned (.agg N) ∧ Own w' w.heap.size w'.heap.size shCR (0, (y0, y1, y2, y3, y4, (d5 ++ dd), y6, y7, y8, d9, y10, y11, d12, ()), [], [], false, ()) N.toList ∧ _
  go_enter Tryz.func7, Tryz.ntmps7
  go_wp2_with fail
  refine (HF.out _ (by go_grown) (fun o => by simp [go_sem])).mono ?_
  rintro e w1 ⟨rfl, hb⟩
  obtain ⟨k0, kR, fR, hb1, z0⟩ := two_boxes hb
  have HB : Hid (Below w.heap.size w w1) := hb1
  clear hb hb1 HF
  have HRG2 : Hid (w1.rangeAt w.heap.size 0 A.toList) := bx_range k0
  go_wp2_with (refine wpList_load_mid rfl 35 _ rfl _ _ (by rfl) A.toList _ HRG2.out Tryz.underlying35 rfl HI.out ?_)
  refine (HCP.out _ HB.out).mono ?_
  rintro e w2 ⟨M, rfl, ho2, hb⟩
  have z2 : w.heap.size + 1 < w2.heap.size := Nat.lt_of_lt_of_le z0 hb.size
  replace kR := bx_below kR z0 hb
  replace fR := bxF fR hb z0
  replace ho2 : Own w2 (w.heap.size + 1 + 1) w2.heap.size shConnO (y0, y1, y2, y3, y4, d5, y6, y7, y8, d9, y10, y11, d12, ()) M.toList := Own.mono ho2 z0 (Nat.le_refl _)
  replace HB : Hid (Below w.heap.size w w2) := HB.out.trans (hb.mono HB.out.size)
  clear hb HCP HRG2 k0 z0
  have hMz : M.size = 14 := rd_size (s := shConnO) (ho2.rd (Nat.le_refl _))
  have HIM : Hid ((Tryz.prog.info? 35).map (·.size) = some M.size) := by show _ = _; rw [hMz]; exact (by kernel_rfl : (Tryz.prog.info? 35).map (·.size) = some 14)
  have HONM : Hid (M.all (·.oneCell') = true) := rd_all (ho2.rd (Nat.le_refl _))
  have HTM : Hid ((w2.alloc (.cells #[.int .i64 0, .int .i64 0, .int .i64 0, .bool false, .bool false, .slice none 0 0, .bool false, .int .i64 0, .bool false, .slice none 0 0, .slice none 0 0, .int .i64 0, .int .i64 0, .slice none 0 0] 35)).there w2.heap.size 0 M.size) := bx_there (bx_al _ _ _) (fx_al _ _ _) (by rw [hMz]; rfl)
  have HW5 : Hid (Below w2.heap.size w2 ((w2.alloc (.cells #[.int .i64 0, .int .i64 0, .int .i64 0, .bool false, .bool false, .slice none 0 0, .bool false, .int .i64 0, .bool false, .slice none 0 0, .slice none 0 0, .int .i64 0, .int .i64 0, .slice none 0 0] 35)).setCells w2.heap.size 0 M.toList) ∧ w2.heap.size < ((w2.alloc (.cells #[.int .i64 0, .int .i64 0, .int .i64 0, .bool false, .bool false, .slice none 0 0, .bool false, .int .i64 0, .bool false, .slice none 0 0, .slice none 0 0, .int .i64 0, .int .i64 0, .slice none 0 0] 35)).setCells w2.heap.size 0 M.toList).heap.size ∧ (∀ o, ((w2.alloc (.cells #[.int .i64 0, .int .i64 0, .int .i64 0, .bool false, .bool false, .slice none 0 0, .bool false, .int .i64 0, .bool false, .slice none 0 0, .slice none 0 0, .int .i64 0, .int .i64 0, .slice none 0 0] 35)).setCells w2.heap.size 0 M.toList).cell? ⟨w2.heap.size, o, none⟩ = M[o]?) ∧ (∀ o, ((w2.alloc (.cells #[.int .i64 0, .int .i64 0, .int .i64 0, .bool false, .bool false, .slice none 0 0, .bool false, .int .i64 0, .bool false, .slice none 0 0, .slice none 0 0, .int .i64 0, .int .i64 0, .slice none 0 0] 35)).setCells w2.heap.size 0 M.toList).frozen? ⟨w2.heap.size, o, none⟩ = false)) := ⟨setCells_below (Nat.le_refl _) _ _ _ _ ((Below.refl _ _).alloc (Nat.le_refl _) _), by rw [setCells_size]; simp, bx_setCells (bx_al w2 _ _) (by rw [hMz]; rfl), fx_sets (fx_al _ _ _)⟩
  have HO2 : Hid _ := ho2
  clear hMz ho2
  go_upto_region 9 with (refine wpList_store_mid rfl 35 _ _ rfl _ _ M (by rfl) (by rfl) HTM.out HIM.out HONM.out ?_)
  generalize hW5 : ((w2.alloc (.cells #[.int .i64 0, .int .i64 0, .int .i64 0, .bool false, .bool false, .slice none 0 0, .bool false, .int .i64 0, .bool false, .slice none 0 0, .slice none 0 0, .int .i64 0, .int .i64 0, .slice none 0 0] 35)).setCells w2.heap.size 0 M.toList) = W5 at HW5 ⊢
  clear hW5 HTM HIM HONM
  obtain ⟨hb5, z5, kM, fM⟩ := HW5.out
  clear HW5
  replace kR := bx_below kR z2 hb5
  replace fR := bxF fR hb5 z2
  have ho5 : Own W5 (w.heap.size + 1 + 1) w2.heap.size shConnO (y0, y1, y2, y3, y4, d5, y6, y7, y8, d9, y10, y11, d12, ()) M.toList := HO2.out.below (Nat.le_refl _) hb5
  obtain ⟨u, v1, v2, s, hM, hob, hub, hown⟩ := own_wro ho5 HWF.out
  have HMN : M = #[.int .i64 y0, .int .i64 y1, .int .i64 y2, .bool y3, .bool y4, u, .bool y6, .int .i64 y7, .bool y8, v1, v2, .int .i64 y10, .int .i64 y11, s] := arr_of hM
  rw [HMN] at kM
  have HOB : Hid _ := hob
  have HUB : Hid _ := hub
  have HOW : Hid _ := hown
  clear hob hub hown hM HMN ho5 HO2
  replace HB : Hid (Below w.heap.size w W5) := HB.out.trans (hb5.mono HB.out.size)
  obtain ⟨q, hq⟩ : ∃ q, q = w2.heap.size := ⟨_, rfl⟩
  rw [← hq] at z5 kM fM z2 HUB HOW ⊢
  clear hq hb5
  have HNQ : Hid (some q ≠ u.ownBlock) := fun e => by have := HUB.out q e.symm; omega
  go_upto_region 10 with (at_builtin; go_loud (refine app_pl W5 rfl _ _ 22 22 rfl Tryz.underlying22 Tryz.underlying22 (w.heap.size + 1 + 1) u d5 (by rfl) HOB.out da dd n dc HL.out (by rfl) (HRB.out _ HB.out) HNI.out (by omega) (by omega) ?_; intro u6 w6 ho6 hb6 hg6 hat6; obtain ⟨b6, n6, c6, hv6⟩ : ∃ b6 n6 c6, u6 = .slice b6 n6 c6 := (by obtain ⟨a, c, h, -⟩ := ho6.rb; exact ⟨_, _, _, h⟩); subst hv6; replace kM := bx_keep kM (hg6.block q z5 HNQ.out); replace fM := fx_keep fM (hg6.block q z5 HNQ.out); have H6 : Hid (OB w6 (w.heap.size + 1 + 1) (.slice b6 n6 c6) (d5 ++ dd) ∧ Below (w.heap.size + 1 + 1) W5 w6 ∧ W5.grownBy w6 u.ownBlock ∧ ((Value.slice b6 n6 c6).ownBlock = u.ownBlock ∨ (Value.slice b6 n6 c6).ownBlock = some W5.heap.size)) := ⟨ho6, hb6, hg6, hat6⟩; clear ho6 hb6 hg6 hat6))
  obtain ⟨ho6, hb6, hg6, hat6⟩ := H6.out
  clear H6
  obtain ⟨u6, hu6⟩ : ∃ u6, u6 = Value.slice b6 n6 c6 := ⟨_, rfl⟩
  rw [← hu6] at ho6 hat6 ⊢
  clear hu6
  have hz6 : W5.heap.size ≤ w6.heap.size := hb6.size
  replace kR := bxB kR hb6 (by omega)
  replace fR := bxF fR hb6 (by omega)
  replace kM := bx_put kM (k := 5) (v := u6) (by simp)
  simp only [List.setIfInBounds_toArray, List.set_cons_zero, List.set_cons_succ] at kM
  replace kR : ∀ o, (w6.setCell ⟨q, 5, none⟩ u6).cell? ⟨w.heap.size + 1, o, none⟩ = (#[.int .i64 0, .int .i64 0, .int .i64 0, .int .i64 0, .bool false, .bool false, .slice none 0 0, .bool false, .int .i64 0, .bool false, .slice none 0 0, .slice none 0 0, .int .i64 0, .int .i64 0, .slice none 0 0, .slice none 0 0, .slice none 0 0, .bool false] : Array Value)[o]? := bx_setC kR (by omega)
  replace fR : ∀ o, (w6.setCell ⟨q, 5, none⟩ u6).frozen? ⟨w.heap.size + 1, o, none⟩ = false := fx_setC fR
  have HOF : Hid (Own (w6.setCell ⟨q, 5, none⟩ u6) (w.heap.size + 1 + 1) (w6.setCell ⟨q, 5, none⟩ u6).heap.size shConnO (y0, y1, y2, y3, y4, (d5 ++ dd), y6, y7, y8, d9, y10, y11, d12, ()) [.int .i64 y0, .int .i64 y1, .int .i64 y2, .bool y3, .bool y4, u6, .bool y6, .int .i64 y7, .bool y8, v1, v2, .int .i64 y10, .int .i64 y11, s]) := HOW.out w6 (w6.setCell ⟨q, 5, none⟩ u6) u6 (d5 ++ dd) q ho6 (fun b hb hne => hg6.block b hb (Ne.symm hne)) hat6 (by omega) z5 hz6 (fun b hb => Below.heap_setCell _ _ _ _ (by dsimp only; omega)) (by simp)
  replace HB : Hid (Below w.heap.size w (w6.setCell ⟨q, 5, none⟩ u6)) := Below.setCell (p := ⟨q, 5, none⟩) (HB.out.trans (hb6.mono (by omega))) (show w.heap.size ≤ q by omega) _
  have z6 : q < (w6.setCell ⟨q, 5, none⟩ u6).heap.size := by have h : (w6.setCell ⟨q, 5, none⟩ u6).heap.size = w6.heap.size := (by simp); omega
  generalize hW7 : (w6.setCell ⟨q, 5, none⟩ u6) = W7 at kM kR fR HOF HB z6 ⊢
  clear hW7 fM z5 ho6 hb6 hg6 hat6 hz6 HOB HUB HOW HNQ
  have HKM : Hid (W7.rangeAt q 0 [.int .i64 y0, .int .i64 y1, .int .i64 y2, .bool y3, .bool y4, u6, .bool y6, .int .i64 y7, .bool y8, v1, v2, .int .i64 y10, .int .i64 y11, s]) := bx_range kM
  have HIL : Hid ((Tryz.prog.info? 35).map (·.size) = some [.int .i64 y0, .int .i64 y1, .int .i64 y2, .bool y3, .bool y4, u6, .bool y6, .int .i64 y7, .bool y8, v1, v2, .int .i64 y10, .int .i64 y11, s].length) := (by kernel_rfl : (Tryz.prog.info? 35).map (·.size) = some 14)
  obtain ⟨N, hN⟩ : ∃ N : Array Value, N = #[.int .i64 0, .int .i64 y0, .int .i64 y1, .int .i64 y2, .bool y3, .bool y4, u6, .bool y6, .int .i64 y7, .bool y8, v1, v2, .int .i64 y10, .int .i64 y11, s, .slice none 0 0, .slice none 0 0, .bool false] := ⟨_, rfl⟩
  have HN : Hid _ := hN
  have hNz : N.size = 18 := by rw [hN]; rfl
  have HIN : Hid ((Tryz.prog.info? 38).map (·.size) = some N.size) := by show _ = _; rw [hNz]; exact info_R18
  have HNZ : Hid _ := hNz
  clear kM
  have HTH : Hid (W7.there (w.heap.size + 1) 0 N.size) := bx_there kR fR (by rw [HNZ.out]; rfl)
  have kF : Hid (∀ o, (W7.setCells (w.heap.size + 1) 0 N.toList).cell? ⟨w.heap.size + 1, o, none⟩ = N[o]?) := bx_setCells kR (by rw [HNZ.out]; rfl)
  have HRES : Hid (Own W7 (w.heap.size + 1 + 1) W7.heap.size shCR (0, (y0, y1, y2, y3, y4, (d5 ++ dd), y6, y7, y8, d9, y10, y11, d12, ()), [], [], false, ()) N.toList) := by show Own _ _ _ _ _ _; rw [hN]; exact own_CR (by omega) (by decide) HOF.out
  have HONE : Hid (N.all (·.oneCell') = true) := rd_all (s := shCR) (HRES.out.rd (Nat.le_refl _))
  clear hN hNz HOF
  go_wp2_with (first | (refine wpList_load_mid rfl 35 _ rfl _ _ (by rfl) [.int .i64 y0, .int .i64 y1, .int .i64 y2, .bool y3, .bool y4, u6, .bool y6, .int .i64 y7, .bool y8, v1, v2, .int .i64 y10, .int .i64 y11, s] _ HKM.out Tryz.underlying35 rfl HIL.out ?_) | (refine wpList_store_mid rfl 38 _ _ rfl _ _ N (by rfl) (by rw [HN.out]; rfl) HTH.out HIN.out HONE.out ?_))
  refine bodyPost_ret (results_box Tryz.results7 _ _ _ N _ (by rfl) kF.out Tryz.underlying38 rfl HIN.out) rfl ⟨N, rfl, ?_, ?_⟩
  · refine Own.mono (Own.keep HRES.out fun b hb hlt => setCells_block (by omega) _ _ _) (by omega) (by rw [setCells_size]; omega)
  · exact setCells_below (by omega) _ _ _ _ HB.out
theorem sWriteConn (c : DConn) (A : Array Value) (da : Option Addr) (n dc : Nat) (dd : List Int) (w : World) (B : Nat) (hr : shConn.Rd w B c A.toList) (hB : B ≤ w.heap.size) (hT : totConn c ≤ 1048576) (hl : dd.length = n) (hd : RB w da dd) (hnil : da = none → dc = 0) (hn : n ≤ 1048576) :
    Calls Tryz.prog 7 #[.agg A, .slice da n dc] w fun e w' => ∃ N : Array Value, e = .returned (.agg N) ∧ Own w' w.heap.size w'.heap.size shCR (wriV c dd) N.toList ∧ Below w.heap.size w w' := by
  obtain ⟨a5, c5, x5⟩ : ∃ a5 c5, A[5]? = some (.slice a5 c.2.2.2.2.2.1.length c5) := by obtain ⟨y0, y1, y2, y3, y4, d5, y6, y7, y8, d9, y10, y11, l, ⟨⟩⟩ := c; obtain ⟨a5, c5, a9, c9, a9', c9', a12, c12, eA, -⟩ := rd_Conn hr; exact ⟨a5, c5, get_of eA 5⟩
  have h5 : c.2.2.2.2.2.1.length ≤ 1048576 := by unfold totConn at hT; omega
  have HF : ∀ W, Below w.heap.size w W → (∀ o, W.cell? ⟨w.heap.size, o, none⟩ = A[o]?) → Calls Tryz.prog 29 #[.pointer (some ⟨w.heap.size, 0, none⟩)] W fun e w' => e = .returned (.int .i64 (connF c)) ∧ Below W.heap.size W w' := fun W hW hk => sL9Fault c A w.heap.size 0 W B (ConnAt.of (bx_range hk) (Sh.Rd.below hr hB hW) (Nat.le_trans hB hW.size) hT)
  have h6 := (conn_fin hr).1
  unfold wriV
  rw [hl]
  by_cases hC : connF c = 0
  · rw [if_pos hC]
    rw [hC] at HF
    split
    · rename_i hf
      rw [hf] at h6
      exact (sWrite10 A da n dc w h6 HF).mono (by rintro e w' ⟨rfl, hb⟩; exact ⟨_, rfl, own_bad w' _ _ hb.size (by decide), hb⟩)
    · rename_i hf
      rw [show c.2.2.2.2.2.2.1 = false by simpa using hf] at h6
      split
      · rename_i h3
        exact (sWrite2 A da n dc a5 _ c5 x5 h5 hn h3 w h6 HF).mono (by rintro e w' ⟨rfl, hb⟩; exact ⟨_, rfl, own_bad w' _ _ hb.size (by decide), hb⟩)
      · rename_i h3
        exact sWriteOk c A da n dc dd w B hr hB hT hC hl hd hnil h3 h6 a5 c5 x5 HF
  · rw [if_neg hC]
    exact (sWriteC A da n dc _ hC w HF).mono (by rintro e w' ⟨rfl, hb⟩; exact ⟨_, rfl, own_bad w' _ _ hb.size (wf_i64' (by have := connF_bd c; unfold Small at this; omega)), hb⟩)
end Go.Proofs.YtbdibjeemgkdaaaGreatDoor
