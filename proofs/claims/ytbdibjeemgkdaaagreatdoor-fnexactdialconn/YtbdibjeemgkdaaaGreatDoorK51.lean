/- DialConn of the program where it may be done; the answer owns its memory; nothing that was in memory turns; no condition but that there are at most a million parts. Written by mkdial3.py. -/
import Derived.Test.YtbdibjeemgkdaaaGreatDoorRows
import Derived.Deep.RegionHeld3
import Derived.Deep.DeepCutAuto
import Derived.Deep.DeepMust
import Derived.Deep.MidRow
import Derived.Test.YtbdibjeemgkdaaaGreatDoorK01
import Derived.Test.YtbdibjeemgkdaaaGreatDoorK02
import Derived.Test.YtbdibjeemgkdaaaGreatDoorK03
import Derived.Test.YtbdibjeemgkdaaaGreatDoorK04
import Derived.Test.YtbdibjeemgkdaaaGreatDoorK09
import Derived.Test.YtbdibjeemgkdaaaGreatDoorK10
import Derived.Test.YtbdibjeemgkdaaaGreatDoorK11
import Derived.Test.YtbdibjeemgkdaaaGreatDoorK12
import Derived.Test.YtbdibjeemgkdaaaGreatDoorK13
import Derived.Test.YtbdibjeemgkdaaaGreatDoorK16
import Derived.Test.YtbdibjeemgkdaaaGreatDoorK17
import Derived.Test.YtbdibjeemgkdaaaGreatDoorK18
import Derived.Test.YtbdibjeemgkdaaaGreatDoorK19
import Derived.Test.YtbdibjeemgkdaaaGreatDoorK20
import Derived.Test.YtbdibjeemgkdaaaGreatDoorK21
import Derived.Test.YtbdibjeemgkdaaaGreatDoorK25
import Derived.Test.YtbdibjeemgkdaaaGreatDoorK30
import Derived.Test.YtbdibjeemgkdaaaGreatDoorK31
import Derived.Test.YtbdibjeemgkdaaaGreatDoorK32
import Derived.Test.YtbdibjeemgkdaaaGreatDoorK33
import Derived.Test.YtbdibjeemgkdaaaGreatDoorK47
namespace Go.Proofs.YtbdibjeemgkdaaaGreatDoor
open Go.RowKit
set_option linter.unusedVariables false
set_option maxRecDepth 8000

theorem al_get (W : World) (o : Obj) : (W.alloc o).heap[W.heap.size]? = some o := by
  show (W.heap.push o)[W.heap.size]? = _
  simp
theorem sets_ty {b : Nat} {t : TypeId} : ∀ (vs : List Value) (W : World) (k : Nat), (∃ cur, W.heap[b]? = some (.cells cur t (0, 0))) → ∃ cur, (W.setCells b k vs).heap[b]? = some (.cells cur t (0, 0))
  | [], W, k, h => h
  | v :: vs, W, k, h => sets_ty vs (W.setCell ⟨b, k, none⟩ v) (k + 1) (by obtain ⟨cur, h⟩ := h; exact ⟨_, heap_set h⟩)
theorem al_ty (W : World) (A : Array Value) (t : TypeId) (vs : List Value) : ∃ cur, ((W.alloc (.cells A t)).setCells W.heap.size 0 vs).heap[W.heap.size]? = some (.cells cur t (0, 0)) :=
  sets_ty vs _ 0 ⟨A, al_get W _⟩
/-- A new sub: what was just asked for. -/
def newX (p st : Int) (jn : Bool) (no nw : Int) : DSub := (p, 1, jn, no, 0, nw, (st, 0, 0, [], ()), (0, 0, [], ()), (16, 64, 0, ()), ())
def SRWf0 (s : DSegm) : Prop := (Lit.int .i64 s.1).wf = true ∧ (Lit.int .i64 s.2.1).wf = true ∧ (Lit.int .i64 s.2.2.2.2.2.1).wf = true ∧ (Lit.int .i64 s.2.2.2.2.2.2.1).wf = true ∧ (Lit.int .i64 s.2.2.2.2.2.2.2.1).wf = true ∧ (Lit.int .i64 s.2.2.2.2.2.2.2.2.1).wf = true ∧ (Lit.int .i64 s.2.2.2.2.2.2.2.2.2.1).wf = true ∧ (Lit.int .i64 s.2.2.2.2.2.2.2.2.2.2.1).wf = true
theorem fx_keepD {w w' : World} {b : Nat} (h : ∀ o, w.frozen? ⟨b, o, none⟩ = false) (hk : w'.heap[b]? = w.heap[b]?) : ∀ o, w'.frozen? ⟨b, o, none⟩ = false := fun o => by
  have h2 := h o
  unfold World.frozen? at *
  rw [hk]; exact h2
theorem own_newX {w : World} {lo hi : Nat} {p st : Int} {jn : Bool} {no nw : Int} (hl : lo ≤ hi) (w0 : (Lit.int .i64 p).wf = true) (w1 : (Lit.int .i64 st).wf = true) (w2 : (Lit.int .i64 no).wf = true) (w3 : (Lit.int .i64 nw).wf = true) : Own w lo hi shSubO (newX p st jn no nw) [.int .i64 p, .int .i64 1, .bool jn, .int .i64 no, .int .i64 0, .int .i64 nw, .int .i64 st, .int .i64 0, .int .i64 0, .slice none 0 0, .int .i64 0, .int .i64 0, .slice none 0 0, .int .i64 16, .int .i64 64, .int .i64 0] := by
  have z : (Lit.int .i64 0).wf = true := by decide
  have z1 : (Lit.int .i64 1).wf = true := by decide
  have z2 : (Lit.int .i64 16).wf = true := by decide
  have z3 : (Lit.int .i64 64).wf = true := by decide
  exact own_Sub0 hl ⟨⟨w0, z1, w2, z, w3⟩, z2, z3, z⟩ w1 z z z z
/-- A row of one segment without a load, just made. -/
theorem own_seg1 (W : World) {g0 g1 : Int} {g2 g3 g4 : Bool} {g5 g6 g7 g8 g9 g10 : Int} (hgw : SRWf0 (g0, g1, g2, g3, g4, g5, g6, g7, g8, g9, g10, [], ())) : Own (W.alloc (.cells #[.int .i64 g0, .int .i64 g1, .bool g2, .bool g3, .bool g4, .int .i64 g5, .int .i64 g6, .int .i64 g7, .int .i64 g8, .int .i64 g9, .int .i64 g10, .slice none 0 0] 55)) W.heap.size (W.heap.size + 1) shSegms [(g0, g1, g2, g3, g4, g5, g6, g7, g8, g9, g10, [], ())] [.slice (some ⟨W.heap.size, 0, none⟩) 1 1] := by
  obtain ⟨f0, f1, f5, f6, f7, f8, f9, f10⟩ := hgw
  refine ⟨[W.heap.size], Or.inr ⟨W.heap.size, 1, #[.int .i64 g0, .int .i64 g1, .bool g2, .bool g3, .bool g4, .int .i64 g5, .int .i64 g6, .int .i64 g7, .int .i64 g8, .int .i64 g9, .int .i64 g10, .slice none 0 0], [[]], rfl, rfl, al_get W _, Nat.le_refl _, by decide, rfl, rfl, fun i hi => ?_⟩, by simp, fun b hb => by simp at hb; omega⟩
  have h0 : i = 0 := by simp at hi; omega
  subst h0
  exact mk_Segm (bs := []) (u := .slice none 0 0) (Or.inl ⟨rfl, rfl, rfl⟩) f0 f1 f5 f6 f7 f8 f9 f10
theorem own_CRs {w : World} {lo mi hi : Nat} {c : DConn} {C : List Value} {l : List DSegm} {v : Value} (hl : lo ≤ mi) (hm : mi ≤ hi) (h : Own w lo mi shConnO c C) (hd : Own w mi hi shSegms l [v]) : Own w lo hi shCR (0, c, l, [], false, ()) (.int .i64 0 :: (C ++ [v, .slice none 0 0, .bool false])) :=
  hOwnCons (hOwnInt w lo lo (by decide)) (hOwnCons h (hOwnCons hd (hOwnCons (own_by0 w hi hi) (hOwnCons (hOwnBool w hi hi false) (hOwnNil w hi hi) (Nat.le_refl _) (Nat.le_refl _)) (Nat.le_refl _) (Nat.le_refl _)) hm (Nat.le_refl _)) hl hm) (Nat.le_refl _) (Nat.le_trans hl hm)
def diaC (c : DConn) (x : DSub) : DConn := (c.1, c.2.1, c.2.2.1, c.2.2.2.1, c.2.2.2.2.1, c.2.2.2.2.2.1, c.2.2.2.2.2.2.1, c.2.2.2.2.2.2.2.1, c.2.2.2.2.2.2.2.2.1, c.2.2.2.2.2.2.2.2.2.1, c.2.2.2.2.2.2.2.2.2.2.1, c.2.2.2.2.2.2.2.2.2.2.2.1, c.2.2.2.2.2.2.2.2.2.2.2.2.1 ++ [x], ())
set_option maxHeartbeats 8000000 in
theorem iDialOk (c : DConn) (A : Array Value) (p no nw st : Int) (jn : Bool) (w : World) (B : Nat) (hr : shConn.Rd w B c A.toList) (hB : B ≤ w.heap.size) (hT : totConn c ≤ 1048576) (hF : connF c = 0) (hjn : jn = decide (0 < c.subs.length)) (g0 g1 : Int) (g2 g3 g4 : Bool) (g5 g6 g7 g8 g9 g10 : Int) (hgw : SRWf0 (g0, g1, g2, g3, g4, g5, g6, g7, g8, g9, g10, [], ())) (w0 : (Lit.int .i64 p).wf = true) (w1 : (Lit.int .i64 st).wf = true) (w2 : (Lit.int .i64 no).wf = true) (w3 : (Lit.int .i64 nw).wf = true)
    (hM : ∀ W, Below w.heap.size w W → Calls Tryz.prog 57 #[.agg A, .int .i64 p, .int .i64 no, .int .i64 nw] W fun e w' => e = .returned (.nilIface) ∧ Below W.heap.size W w')
    (hST : ∀ W, Below w.heap.size w W → Calls Tryz.prog 59 #[.int .i64 c.2.1, .int .i64 p] W fun e w' => e = .returned (.int .i64 st) ∧ Below W.heap.size W w')
    (hNS : ∀ W, Below w.heap.size w W → Calls Tryz.prog 58 #[.int .i64 p, .int .i64 st, .bool jn, .int .i64 no, .int .i64 nw] W fun e w' => e = .returned (.agg #[.int .i64 0, .int .i64 p, .int .i64 1, .bool jn, .int .i64 no, .int .i64 0, .int .i64 nw, .int .i64 st, .int .i64 0, .int .i64 0, .slice none 0 0, .int .i64 0, .int .i64 0, .slice none 0 0, .int .i64 16, .int .i64 64, .int .i64 0]) ∧ Below W.heap.size W w')
    (hAK : ∀ W, Below w.heap.size w W → Calls Tryz.prog 60 #[.agg A, .agg #[.int .i64 p, .int .i64 1, .bool jn, .int .i64 no, .int .i64 0, .int .i64 nw, .int .i64 st, .int .i64 0, .int .i64 0, .slice none 0 0, .int .i64 0, .int .i64 0, .slice none 0 0, .int .i64 16, .int .i64 64, .int .i64 0]] W fun e w' => e = .returned (.agg #[.int .i64 g0, .int .i64 g1, .bool g2, .bool g3, .bool g4, .int .i64 g5, .int .i64 g6, .int .i64 g7, .int .i64 g8, .int .i64 g9, .int .i64 g10, .slice none 0 0]) ∧ Below W.heap.size W w') :
    Calls Tryz.prog 25 #[.agg A, .int .i64 p, .int .i64 no, .int .i64 nw] w fun e w' => ∃ N : Array Value, e = .returned (.agg N) ∧ Own w' w.heap.size w'.heap.size shCR (0, diaC c (newX p st jn no nw), [(g0, g1, g2, g3, g4, g5, g6, g7, g8, g9, g10, [], ())], [], false, ()) N.toList ∧ Below w.heap.size w w' := by
  have hA : A.size = 14 := rd_size hr
  have HI : Hid ((Tryz.prog.info? 35).map (·.size) = some A.toList.length) := by show _ = _; rw [Array.length_toList, hA]; exact (by kernel_rfl : (Tryz.prog.info? 35).map (·.size) = some 14)
  have HCP : Hid (∀ W, Below w.heap.size w W → Calls Tryz.prog 36 #[.agg A] W fun e w' => ∃ N : Array Value, e = .returned (.agg N) ∧ CopP w' W.heap.size c N ∧ Below W.heap.size W w') := fun W hW => iCopyConnS c A W B (Sh.Rd.below hr hB hW) (Nat.le_trans hB hW.size) hT hF
  have HM : Hid _ := hM
  have HST : Hid _ := hST
  have HNS : Hid _ := hNS
  have HAK : Hid _ := hAK
  have HGW : Hid _ := hgw
  have HW0 : Hid _ := w0
  have HW1 : Hid _ := w1
  have HW2 : Hid _ := w2
  have HW3 : Hid _ := w3
  have hfew : c.subs.length ≤ 3 := subs_few (conn_ok hF).2.2.2.2.2.2.2.2.1
  clear hM hST hNS hAK hgw w0 w1 w2 w3 hA hF
  obtain ⟨y0, y1, y2, y3, y4, d5, y6, y7, y8, d9, y10, y11, l, ⟨⟩⟩ := c
  obtain ⟨a5, c5, a9, c9, a9', c9', a12, c12, eA, -⟩ := rd_Conn hr
  replace hfew : l.length ≤ 3 := hfew
  obtain ⟨n, hn⟩ : ∃ n, l.length = n := ⟨_, rfl⟩
  have HLEN : Hid (l.length = n) := hn
  have x1 : A[1]? = some (.int .i64 y1) := get_of eA 1
  have x13 : A[13]? = some (.slice a12 n c12) := by rw [get_of eA 13, ← hn]; rfl
  replace hjn : jn = decide (0 < n) := by rw [hjn, ← hn]
  rw [hn] at hfew
  have hj1 : decide (0 < n) = jn := hjn.symm
  have hj2 : decide ((0 : Int) < (n : Int)) = jn := by rw [hjn]; simp
  clear hr eA hT hn hjn
  obtain ⟨SR, hSR⟩ : ∃ S : Array Value, S = #[.int .i64 0, .int .i64 p, .int .i64 1, .bool jn, .int .i64 no, .int .i64 0, .int .i64 nw, .int .i64 st, .int .i64 0, .int .i64 0, .slice none 0 0, .int .i64 0, .int .i64 0, .slice none 0 0, .int .i64 16, .int .i64 64, .int .i64 0] := ⟨_, rfl⟩
  have HSR : Hid _ := hSR
  have HSZ : Hid (SR.size = 17) := by show _ = _; rw [hSR]; rfl
  have HIS : Hid ((Tryz.prog.info? 105).map (·.size) = some SR.size) := by show _ = _; rw [HSZ.out]; exact (by kernel_rfl : (Tryz.prog.info? 105).map (·.size) = some 17)
  have HONS : Hid (SR.all (·.oneCell') = true) := by show _ = _; rw [hSR]; simp [Value.oneCell']
  have HSX : Hid (∀ j v, [Value.int .i64 p, .int .i64 1, .bool jn, .int .i64 no, .int .i64 0, .int .i64 nw, .int .i64 st, .int .i64 0, .int .i64 0, .slice none 0 0, .int .i64 0, .int .i64 0, .slice none 0 0, .int .i64 16, .int .i64 64, .int .i64 0][j]? = some v → SR[1 + j]? = some v) := fun j v hv => by rw [hSR, ← Array.getElem?_toList]; rw [show (1 + j) = j + 1 by omega]; exact hv
  have HIXX : Hid ((Tryz.prog.info? 94).map (·.size) = some [Value.int .i64 p, .int .i64 1, .bool jn, .int .i64 no, .int .i64 0, .int .i64 nw, .int .i64 st, .int .i64 0, .int .i64 0, .slice none 0 0, .int .i64 0, .int .i64 0, .slice none 0 0, .int .i64 16, .int .i64 64, .int .i64 0].length) := (by kernel_rfl : (Tryz.prog.info? 94).map (·.size) = some 16)
  clear hSR
  show Calls _ _ _ _ fun e w' => ∃ N : Array Value, e = .returned (.agg N) ∧ Own w' w.heap.size w'.heap.size shCR (0, (y0, y1, y2, y3, y4, d5, y6, y7, y8, d9, y10, y11, (l ++ [newX p st jn no nw]), ()), [(g0, g1, g2, g3, g4, g5, g6, g7, g8, g9, g10, [], ())], [], false, ()) N.toList ∧ _
  have HWA : Hid (Below w.heap.size w ((w.alloc (.cells A 35)).alloc (.cells #[.int .i64 0, .int .i64 0, .int .i64 0, .int .i64 0, .bool false, .bool false, .slice none 0 0, .bool false, .int .i64 0, .bool false, .slice none 0 0, .slice none 0 0, .int .i64 0, .int .i64 0, .slice none 0 0, .slice none 0 0, .slice none 0 0, .bool false] 38)) ∧ ((w.alloc (.cells A 35)).alloc (.cells #[.int .i64 0, .int .i64 0, .int .i64 0, .int .i64 0, .bool false, .bool false, .slice none 0 0, .bool false, .int .i64 0, .bool false, .slice none 0 0, .slice none 0 0, .int .i64 0, .int .i64 0, .slice none 0 0, .slice none 0 0, .slice none 0 0, .bool false] 38)).heap.size = w.heap.size + 2 ∧ (∀ o, ((w.alloc (.cells A 35)).alloc (.cells #[.int .i64 0, .int .i64 0, .int .i64 0, .int .i64 0, .bool false, .bool false, .slice none 0 0, .bool false, .int .i64 0, .bool false, .slice none 0 0, .slice none 0 0, .int .i64 0, .int .i64 0, .slice none 0 0, .slice none 0 0, .slice none 0 0, .bool false] 38)).cell? ⟨w.heap.size, o, none⟩ = (A : Array Value)[o]?) ∧ (∀ o, ((w.alloc (.cells A 35)).alloc (.cells #[.int .i64 0, .int .i64 0, .int .i64 0, .int .i64 0, .bool false, .bool false, .slice none 0 0, .bool false, .int .i64 0, .bool false, .slice none 0 0, .slice none 0 0, .int .i64 0, .int .i64 0, .slice none 0 0, .slice none 0 0, .slice none 0 0, .bool false] 38)).cell? ⟨w.heap.size + 1, o, none⟩ = (#[.int .i64 0, .int .i64 0, .int .i64 0, .int .i64 0, .bool false, .bool false, .slice none 0 0, .bool false, .int .i64 0, .bool false, .slice none 0 0, .slice none 0 0, .int .i64 0, .int .i64 0, .slice none 0 0, .slice none 0 0, .slice none 0 0, .bool false] : Array Value)[o]?) ∧ (∀ o, ((w.alloc (.cells A 35)).alloc (.cells #[.int .i64 0, .int .i64 0, .int .i64 0, .int .i64 0, .bool false, .bool false, .slice none 0 0, .bool false, .int .i64 0, .bool false, .slice none 0 0, .slice none 0 0, .int .i64 0, .int .i64 0, .slice none 0 0, .slice none 0 0, .slice none 0 0, .bool false] 38)).frozen? ⟨w.heap.size + 1, o, none⟩ = false)) := ⟨(((Below.refl _ _).alloc (Nat.le_refl _) _).alloc (by simp) _), by simp, fun o => by simp [go_sem], fun o => by simp [go_sem], fun o => by simp [go_sem]⟩
  go_enter Tryz.func25, Tryz.ntmps25
  go_upto_region 1 with fail
  generalize hWW : ((w.alloc (.cells A 35)).alloc (.cells #[.int .i64 0, .int .i64 0, .int .i64 0, .int .i64 0, .bool false, .bool false, .slice none 0 0, .bool false, .int .i64 0, .bool false, .slice none 0 0, .slice none 0 0, .int .i64 0, .int .i64 0, .slice none 0 0, .slice none 0 0, .slice none 0 0, .bool false] 38)) = W1 at HWA ⊢
  clear hWW
  obtain ⟨hb, hsz, kA, kR, fR⟩ := HWA.out
  clear HWA
  have HB : Hid (Below w.heap.size w W1) := hb
  have zA : w.heap.size < W1.heap.size := by omega
  have zR : w.heap.size + 1 < W1.heap.size := by omega
  clear hb hsz
  go_wp2_with (refine wpList_load_mid rfl 35 _ rfl _ _ (by rfl) A.toList _ (bx_range kA) Tryz.underlying35 rfl HI.out ?_)
  refine (HM.out _ HB.out).mono ?_
  rintro e W2 ⟨rfl, hb⟩
  replace kA := bx_below kA zA hb
  replace zA := Nat.lt_of_lt_of_le zA hb.size
  replace kR := bx_below kR zR hb
  replace fR := bxF fR hb zR
  replace zR := Nat.lt_of_lt_of_le zR hb.size
  replace HB : Hid (Below w.heap.size w W2) := HB.out.trans (hb.mono HB.out.size)
  clear hb
  clear HM
  go_wp2_with fail
  refine (HST.out _ HB.out).mono ?_
  rintro e W3 ⟨rfl, hb⟩
  replace kA := bx_below kA zA hb
  replace zA := Nat.lt_of_lt_of_le zA hb.size
  replace kR := bx_below kR zR hb
  replace fR := bxF fR hb zR
  replace zR := Nat.lt_of_lt_of_le zR hb.size
  replace HB : Hid (Below w.heap.size w W3) := HB.out.trans (hb.mono HB.out.size)
  clear hb
  clear HST
  go_wp2_with fail
  skip
  refine (HNS.out _ HB.out).mono ?_
  rintro e W4 ⟨rfl, hb⟩
  replace kA := bx_below kA zA hb
  replace zA := Nat.lt_of_lt_of_le zA hb.size
  replace kR := bx_below kR zR hb
  replace fR := bxF fR hb zR
  replace zR := Nat.lt_of_lt_of_le zR hb.size
  replace HB : Hid (Below w.heap.size w W4) := HB.out.trans (hb.mono HB.out.size)
  clear hb
  clear HNS
  rw [← HSR.out]
  have HTH : Hid ((W4.alloc (.cells #[.int .i64 0, .int .i64 0, .int .i64 0, .bool false, .int .i64 0, .int .i64 0, .int .i64 0, .int .i64 0, .int .i64 0, .int .i64 0, .slice none 0 0, .int .i64 0, .int .i64 0, .slice none 0 0, .int .i64 0, .int .i64 0, .int .i64 0] 105)).there W4.heap.size 0 SR.size) := bx_there (bx_al _ _ _) (fx_al _ _ _) (by rw [HSZ.out]; rfl)
  have HWN : Hid (Below W4.heap.size W4 ((W4.alloc (.cells #[.int .i64 0, .int .i64 0, .int .i64 0, .bool false, .int .i64 0, .int .i64 0, .int .i64 0, .int .i64 0, .int .i64 0, .int .i64 0, .slice none 0 0, .int .i64 0, .int .i64 0, .slice none 0 0, .int .i64 0, .int .i64 0, .int .i64 0] 105)).setCells W4.heap.size 0 SR.toList) ∧ W4.heap.size < ((W4.alloc (.cells #[.int .i64 0, .int .i64 0, .int .i64 0, .bool false, .int .i64 0, .int .i64 0, .int .i64 0, .int .i64 0, .int .i64 0, .int .i64 0, .slice none 0 0, .int .i64 0, .int .i64 0, .slice none 0 0, .int .i64 0, .int .i64 0, .int .i64 0] 105)).setCells W4.heap.size 0 SR.toList).heap.size ∧ (∀ o, ((W4.alloc (.cells #[.int .i64 0, .int .i64 0, .int .i64 0, .bool false, .int .i64 0, .int .i64 0, .int .i64 0, .int .i64 0, .int .i64 0, .int .i64 0, .slice none 0 0, .int .i64 0, .int .i64 0, .slice none 0 0, .int .i64 0, .int .i64 0, .int .i64 0] 105)).setCells W4.heap.size 0 SR.toList).cell? ⟨W4.heap.size, o, none⟩ = SR[o]?) ∧ (∀ o, ((W4.alloc (.cells #[.int .i64 0, .int .i64 0, .int .i64 0, .bool false, .int .i64 0, .int .i64 0, .int .i64 0, .int .i64 0, .int .i64 0, .int .i64 0, .slice none 0 0, .int .i64 0, .int .i64 0, .slice none 0 0, .int .i64 0, .int .i64 0, .int .i64 0] 105)).setCells W4.heap.size 0 SR.toList).frozen? ⟨W4.heap.size, o, none⟩ = false)) := ⟨setCells_below (Nat.le_refl _) _ _ _ _ ((Below.refl _ _).alloc (Nat.le_refl _) _), by rw [setCells_size]; simp, bx_setCells (bx_al W4 _ _) (by rw [HSZ.out]; rfl), fx_sets (fx_al _ _ _)⟩
  go_upto_region 6 with (first | (refine wpList_store_mid rfl 105 _ _ rfl _ _ SR (by rfl) (by rfl) HTH.out HIS.out HONS.out ?_))
  generalize hWW : ((W4.alloc (.cells #[.int .i64 0, .int .i64 0, .int .i64 0, .bool false, .int .i64 0, .int .i64 0, .int .i64 0, .int .i64 0, .int .i64 0, .int .i64 0, .slice none 0 0, .int .i64 0, .int .i64 0, .slice none 0 0, .int .i64 0, .int .i64 0, .int .i64 0] 105)).setCells W4.heap.size 0 SR.toList) = W5 at HWN ⊢
  clear hWW HTH
  obtain ⟨hb, zY, kY, fY⟩ := HWN.out
  clear HWN
  obtain ⟨bY, hq⟩ : ∃ q, q = W4.heap.size := ⟨_, rfl⟩
  rw [← hq] at zY kY fY ⊢
  have lAY : w.heap.size < bY := by rw [hq]; exact zA
  have lRY : w.heap.size + 1 < bY := by rw [hq]; exact zR
  have lwY : w.heap.size ≤ bY := by rw [hq]; exact HB.out.size
  clear hq
  replace kA := bx_below kA zA hb
  replace zA := Nat.lt_of_lt_of_le zA hb.size
  replace kR := bx_below kR zR hb
  replace fR := bxF fR hb zR
  replace zR := Nat.lt_of_lt_of_le zR hb.size
  replace HB : Hid (Below w.heap.size w W5) := HB.out.trans (hb.mono HB.out.size)
  clear hb
  go_wp2_with (refine wpList_load_mid rfl 35 _ rfl _ _ (by rfl) A.toList _ (bx_range kA) Tryz.underlying35 rfl HI.out ?_)
  refine (HCP.out _ HB.out).mono ?_
  rintro e W6 ⟨M, rfl, hcp, hb⟩
  have hoc := hcp.own
  have HMZ : Hid (M.size = 14) := rd_size (s := shConnO) (hoc.rd (Nat.le_refl _))
  have HIM : Hid ((Tryz.prog.info? 35).map (·.size) = some M.size) := by show _ = _; rw [HMZ.out]; exact (by kernel_rfl : (Tryz.prog.info? 35).map (·.size) = some 14)
  have HONM : Hid (M.all (·.oneCell') = true) := rd_all (s := shConnO) (hoc.rd (Nat.le_refl _))
  clear hoc
  obtain ⟨m5, m9, v5, v9, v10, v13, hMN, h5, h9, h12, l0, l1, l2, hwf⟩ := hcp
  have HMN : Hid (M = #[.int .i64 y0, .int .i64 y1, .int .i64 y2, .bool y3, .bool y4, v5, .bool y6, .int .i64 y7, .bool y8, v9, v10, .int .i64 y10, .int .i64 y11, v13]) := hMN
  have HWF : Hid _ := hwf
  obtain ⟨va, vc, hv13⟩ := row_form (h12.rd (Nat.le_refl _))
  simp only [List.cons.injEq, and_true] at hv13
  obtain ⟨t12, et12⟩ : ∃ x, x = W6.heap.size := ⟨_, rfl⟩
  obtain ⟨lo, hlo⟩ : ∃ x, x = W5.heap.size := ⟨_, rfl⟩
  rw [← hlo] at h5 l0
  rw [← et12] at h12 l2
  have lAL : w.heap.size < lo := by rw [hlo]; exact zA
  have lRL : w.heap.size + 1 < lo := by rw [hlo]; exact zR
  have lYL : bY < lo := by rw [hlo]; exact zY
  replace kA := bx_below kA zA hb
  replace zA := Nat.lt_of_lt_of_le zA hb.size
  replace kR := bx_below kR zR hb
  replace fR := bxF fR hb zR
  replace zR := Nat.lt_of_lt_of_le zR hb.size
  replace kY := bx_below kY zY hb
  replace fY := bxF fY hb zY
  replace zY := Nat.lt_of_lt_of_le zY hb.size
  replace HB : Hid (Below w.heap.size w W6) := HB.out.trans (hb.mono HB.out.size)
  clear hb
  have X5 : Hid (Own W6 lo m5 u8s d5 [v5]) := h5
  have X9 : Hid (Own W6 m5 m9 gtS d9 [v9, v10]) := h9
  have X12 : Hid (Own W6 m9 t12 shSubsO l [v13]) := h12
  have lX5 : m5 ≤ W6.heap.size := by omega
  have lX9 : m9 ≤ W6.heap.size := by omega
  have lX12 : t12 ≤ W6.heap.size := by omega
  have HOB : Hid (∀ b, v13.ownBlock = some b → b < t12) := by obtain ⟨v', xs, F, e1, -, -, -, -, -, hv⟩ := Own.row_to (e := shSubO) h12; simp only [List.cons.injEq, and_true] at e1; subst e1; exact hv
  clear h5 h9 h12 hwf hMN hlo
  have HV13 : Hid (v13 = .slice va n vc) := by rw [← HLEN.out]; exact hv13
  clear hv13
  have hv := HV13.out
  subst hv
  clear HV13
  have HTH : Hid ((W6.alloc (.cells #[.int .i64 0, .int .i64 0, .int .i64 0, .bool false, .bool false, .slice none 0 0, .bool false, .int .i64 0, .bool false, .slice none 0 0, .slice none 0 0, .int .i64 0, .int .i64 0, .slice none 0 0] 35)).there W6.heap.size 0 M.size) := bx_there (bx_al _ _ _) (fx_al _ _ _) (by rw [HMZ.out]; rfl)
  have HWN : Hid (Below W6.heap.size W6 ((W6.alloc (.cells #[.int .i64 0, .int .i64 0, .int .i64 0, .bool false, .bool false, .slice none 0 0, .bool false, .int .i64 0, .bool false, .slice none 0 0, .slice none 0 0, .int .i64 0, .int .i64 0, .slice none 0 0] 35)).setCells W6.heap.size 0 M.toList) ∧ W6.heap.size < ((W6.alloc (.cells #[.int .i64 0, .int .i64 0, .int .i64 0, .bool false, .bool false, .slice none 0 0, .bool false, .int .i64 0, .bool false, .slice none 0 0, .slice none 0 0, .int .i64 0, .int .i64 0, .slice none 0 0] 35)).setCells W6.heap.size 0 M.toList).heap.size ∧ (∀ o, ((W6.alloc (.cells #[.int .i64 0, .int .i64 0, .int .i64 0, .bool false, .bool false, .slice none 0 0, .bool false, .int .i64 0, .bool false, .slice none 0 0, .slice none 0 0, .int .i64 0, .int .i64 0, .slice none 0 0] 35)).setCells W6.heap.size 0 M.toList).cell? ⟨W6.heap.size, o, none⟩ = M[o]?) ∧ (∀ o, ((W6.alloc (.cells #[.int .i64 0, .int .i64 0, .int .i64 0, .bool false, .bool false, .slice none 0 0, .bool false, .int .i64 0, .bool false, .slice none 0 0, .slice none 0 0, .int .i64 0, .int .i64 0, .slice none 0 0] 35)).setCells W6.heap.size 0 M.toList).frozen? ⟨W6.heap.size, o, none⟩ = false) ∧ (∃ cur, ((W6.alloc (.cells #[.int .i64 0, .int .i64 0, .int .i64 0, .bool false, .bool false, .slice none 0 0, .bool false, .int .i64 0, .bool false, .slice none 0 0, .slice none 0 0, .int .i64 0, .int .i64 0, .slice none 0 0] 35)).setCells W6.heap.size 0 M.toList).heap[W6.heap.size]? = some (.cells cur 35 (0, 0)))) := ⟨setCells_below (Nat.le_refl _) _ _ _ _ ((Below.refl _ _).alloc (Nat.le_refl _) _), by rw [setCells_size]; simp, bx_setCells (bx_al W6 _ _) (by rw [HMZ.out]; rfl), fx_sets (fx_al _ _ _), al_ty _ _ _ _⟩
  go_upto_region 7 with (first | (refine wpList_store_mid rfl 35 _ _ rfl _ _ M (by rfl) (by rfl) HTH.out HIM.out HONM.out ?_))
  generalize hWW : ((W6.alloc (.cells #[.int .i64 0, .int .i64 0, .int .i64 0, .bool false, .bool false, .slice none 0 0, .bool false, .int .i64 0, .bool false, .slice none 0 0, .slice none 0 0, .int .i64 0, .int .i64 0, .slice none 0 0] 35)).setCells W6.heap.size 0 M.toList) = W7 at HWN ⊢
  clear hWW HTH
  obtain ⟨hb, zD, kD, fD, tD⟩ := HWN.out
  clear HWN
  obtain ⟨bD, hq⟩ : ∃ q, q = W6.heap.size := ⟨_, rfl⟩
  rw [← hq] at zD kD fD tD ⊢
  have lAD : w.heap.size < bD := by rw [hq]; exact zA
  have lRD : w.heap.size + 1 < bD := by rw [hq]; exact zR
  have lYD : bY < bD := by rw [hq]; exact zY
  have lX5D : m5 ≤ bD := by omega
  have lX9D : m9 ≤ bD := by omega
  have lX12D : t12 ≤ bD := by omega
  have lwD : w.heap.size ≤ bD := by rw [hq]; exact HB.out.size
  clear hq
  replace kA := bx_below kA zA hb
  replace zA := Nat.lt_of_lt_of_le zA hb.size
  replace kR := bx_below kR zR hb
  replace fR := bxF fR hb zR
  replace zR := Nat.lt_of_lt_of_le zR hb.size
  replace kY := bx_below kY zY hb
  replace fY := bxF fY hb zY
  replace zY := Nat.lt_of_lt_of_le zY hb.size
  replace X5 : Hid (Own W7 lo m5 u8s d5 [v5]) := Own.below X5.out (by omega) hb
  replace lX5 : m5 ≤ W7.heap.size := Nat.le_trans lX5 hb.size
  replace X9 : Hid (Own W7 m5 m9 gtS d9 [v9, v10]) := Own.below X9.out (by omega) hb
  replace lX9 : m9 ≤ W7.heap.size := Nat.le_trans lX9 hb.size
  replace X12 : Hid (Own W7 m9 t12 shSubsO l [.slice va n vc]) := Own.below X12.out (by omega) hb
  replace lX12 : t12 ≤ W7.heap.size := Nat.le_trans lX12 hb.size
  replace HB : Hid (Below w.heap.size w W7) := HB.out.trans (hb.mono HB.out.size)
  clear hb
  rw [HMN.out] at kD
  clear HMN HMZ HIM HONM
  go_upto_region 8 with (first | (refine wpList_load_mid rfl 94 _ rfl _ _ (by rfl) [.int .i64 p, .int .i64 1, .bool jn, .int .i64 no, .int .i64 0, .int .i64 nw, .int .i64 st, .int .i64 0, .int .i64 0, .slice none 0 0, .int .i64 0, .int .i64 0, .slice none 0 0, .int .i64 16, .int .i64 64, .int .i64 0] _ (bx_sub kY HSX.out) Tryz.underlying94 rfl HIXX.out ?_) | (at_builtin; go_loud (refine app_elem W7 rfl _ _ 33 94 rfl shSubO (.agg #[.int .i64 0, .int .i64 0, .bool false, .int .i64 0, .int .i64 0, .int .i64 0, .int .i64 0, .int .i64 0, .int .i64 0, .slice none 0 0, .int .i64 0, .int .i64 0, .slice none 0 0, .int .i64 0, .int .i64 0, .int .i64 0]) 160 Tryz.underlying33 info_S16 rfl (by decide) (by decide) m9 t12 W7.heap.size W7.heap.size l (.slice va n vc) (by rfl) (by rfl) X12.out (newX p st jn no nw) [.int .i64 p, .int .i64 1, .bool jn, .int .i64 no, .int .i64 0, .int .i64 nw, .int .i64 st, .int .i64 0, .int .i64 0, .slice none 0 0, .int .i64 0, .int .i64 0, .slice none 0 0, .int .i64 16, .int .i64 64, .int .i64 0] (own_newX (Nat.le_refl _) HW0.out HW1.out HW2.out HW3.out) l2 (by omega) (Nat.le_refl _) (by rw [HLEN.out]; omega) (by omega) ?_; intro v3 w8 ho3 hb3 hk3 hs3; obtain ⟨va3, vc3, hv3⟩ := row_form (ho3.rd (Nat.le_refl _)); simp only [List.cons.injEq, and_true, List.length_append, List.length_cons, List.length_nil, HLEN.out] at hv3; subst hv3; have HX3 : Hid (Own w8 m9 w8.heap.size shSubsO (l ++ [newX p st jn no nw]) [.slice va3 (n + 1) vc3] ∧ Below m9 W7 w8 ∧ W7.heap.size < w8.heap.size) := ⟨ho3, hb3, hs3⟩; have hbk : w8.heap[bD]? = W7.heap[bD]? := hk3 bD zD (fun e => (by have := HOB.out bD e; omega)); replace tD : ∃ cur, w8.heap[bD]? = some (.cells cur 35 (0, 0)) := (by obtain ⟨cur, h⟩ := tD; exact ⟨cur, hbk.trans h⟩); replace kD := bx_keep kD hbk; replace fD := fx_keepD fD hbk; clear ho3 hb3 hk3 hs3 hbk)))
  obtain ⟨ho3, hb3, hs3⟩ := HX3.out
  clear HX3 HOB X12 lX12 lX12D
  have hz8 := hb3.size
  replace X5 : Hid (Own w8 lo m5 u8s d5 [v5]) := Own.below X5.out l1 hb3
  replace X9 : Hid (Own w8 m5 m9 gtS d9 [v9, v10]) := Own.below X9.out (Nat.le_refl _) hb3
  replace lX5 : m5 ≤ w8.heap.size := by omega
  replace lX9 : m9 ≤ w8.heap.size := by omega
  have X13 : Hid (Own w8 m9 w8.heap.size shSubsO (l ++ [newX p st jn no nw]) [.slice va3 (n + 1) vc3]) := ho3
  clear ho3
  replace kA := bxB kA hb3 (by omega)
  replace zA : w.heap.size < w8.heap.size := by omega
  replace kR := bxB kR hb3 (by omega)
  replace fR := bxF fR hb3 (by omega)
  replace zR : w.heap.size + 1 < w8.heap.size := by omega
  replace kY := bxB kY hb3 (by omega)
  replace fY := bxF fY hb3 (by omega)
  replace zY : bY < w8.heap.size := by omega
  replace zD : bD < w8.heap.size := by omega
  replace HB : Hid (Below w.heap.size w w8) := HB.out.trans (hb3.mono (by omega))
  clear hb3 hs3 hz8
  obtain ⟨cur, htD⟩ := tD
  replace X13 : Hid (Own (w8.setCell ⟨bD, 13, none⟩ (.slice va3 (n + 1) vc3)) m9 (w8.setCell ⟨bD, 13, none⟩ (.slice va3 (n + 1) vc3)).heap.size shSubsO (l ++ [newX p st jn no nw]) [.slice va3 (n + 1) vc3]) := by have h : (w8.setCell ⟨bD, 13, none⟩ (.slice va3 (n + 1) vc3)).heap.size = w8.heap.size := (by simp); show Own _ _ _ _ _ _; rw [h]; exact Own.off X13.out htD (by decide) (fun b h1 h2 h3 => Below.heap_setCell _ _ _ _ (by dsimp only; omega))
  clear htD
  replace kD := bx_put kD (k := 13) (v := .slice va3 (n + 1) vc3) (by simp)
  simp only [List.setIfInBounds_toArray, List.set_cons_zero, List.set_cons_succ] at kD
  replace kA : ∀ o, (w8.setCell ⟨bD, 13, none⟩ (.slice va3 (n + 1) vc3)).cell? ⟨w.heap.size, o, none⟩ = (A)[o]? := bx_setC kA (by omega)
  replace zA : w.heap.size < (w8.setCell ⟨bD, 13, none⟩ (.slice va3 (n + 1) vc3)).heap.size := by have h : (w8.setCell ⟨bD, 13, none⟩ (.slice va3 (n + 1) vc3)).heap.size = w8.heap.size := (by simp); omega
  replace kR : ∀ o, (w8.setCell ⟨bD, 13, none⟩ (.slice va3 (n + 1) vc3)).cell? ⟨w.heap.size + 1, o, none⟩ = (#[.int .i64 0, .int .i64 0, .int .i64 0, .int .i64 0, .bool false, .bool false, .slice none 0 0, .bool false, .int .i64 0, .bool false, .slice none 0 0, .slice none 0 0, .int .i64 0, .int .i64 0, .slice none 0 0, .slice none 0 0, .slice none 0 0, .bool false] : Array Value)[o]? := bx_setC kR (by omega)
  replace fR : ∀ o, (w8.setCell ⟨bD, 13, none⟩ (.slice va3 (n + 1) vc3)).frozen? ⟨w.heap.size + 1, o, none⟩ = false := fx_setC fR
  replace zR : w.heap.size + 1 < (w8.setCell ⟨bD, 13, none⟩ (.slice va3 (n + 1) vc3)).heap.size := by have h : (w8.setCell ⟨bD, 13, none⟩ (.slice va3 (n + 1) vc3)).heap.size = w8.heap.size := (by simp); omega
  replace kY : ∀ o, (w8.setCell ⟨bD, 13, none⟩ (.slice va3 (n + 1) vc3)).cell? ⟨bY, o, none⟩ = (SR)[o]? := bx_setC kY (by omega)
  replace fY : ∀ o, (w8.setCell ⟨bD, 13, none⟩ (.slice va3 (n + 1) vc3)).frozen? ⟨bY, o, none⟩ = false := fx_setC fY
  replace zY : bY < (w8.setCell ⟨bD, 13, none⟩ (.slice va3 (n + 1) vc3)).heap.size := by have h : (w8.setCell ⟨bD, 13, none⟩ (.slice va3 (n + 1) vc3)).heap.size = w8.heap.size := (by simp); omega
  replace fD : ∀ o, (w8.setCell ⟨bD, 13, none⟩ (.slice va3 (n + 1) vc3)).frozen? ⟨bD, o, none⟩ = false := fx_setC fD
  replace zD : bD < (w8.setCell ⟨bD, 13, none⟩ (.slice va3 (n + 1) vc3)).heap.size := by have h : (w8.setCell ⟨bD, 13, none⟩ (.slice va3 (n + 1) vc3)).heap.size = w8.heap.size := (by simp); omega
  replace X5 : Hid (Own (w8.setCell ⟨bD, 13, none⟩ (.slice va3 (n + 1) vc3)) lo m5 u8s d5 [v5]) := Own.keep X5.out (fun b h1 h2 => Below.heap_setCell _ _ _ _ (by dsimp only; omega))
  replace lX5 : m5 ≤ (w8.setCell ⟨bD, 13, none⟩ (.slice va3 (n + 1) vc3)).heap.size := by have h : (w8.setCell ⟨bD, 13, none⟩ (.slice va3 (n + 1) vc3)).heap.size = w8.heap.size := (by simp); omega
  replace X9 : Hid (Own (w8.setCell ⟨bD, 13, none⟩ (.slice va3 (n + 1) vc3)) m5 m9 gtS d9 [v9, v10]) := Own.keep X9.out (fun b h1 h2 => Below.heap_setCell _ _ _ _ (by dsimp only; omega))
  replace lX9 : m9 ≤ (w8.setCell ⟨bD, 13, none⟩ (.slice va3 (n + 1) vc3)).heap.size := by have h : (w8.setCell ⟨bD, 13, none⟩ (.slice va3 (n + 1) vc3)).heap.size = w8.heap.size := (by simp); omega
  replace HB : Hid (Below w.heap.size w (w8.setCell ⟨bD, 13, none⟩ (.slice va3 (n + 1) vc3))) := Below.setCell (p := ⟨bD, 13, none⟩) HB.out (by dsimp only; omega) _
  generalize hWW : (w8.setCell ⟨bD, 13, none⟩ (.slice va3 (n + 1) vc3)) = W9 at kA zA kR zR fR kY zY fY kD zD fD X5 lX5 X9 lX9 X13 HB ⊢
  clear hWW
  obtain ⟨t13, et13⟩ : ∃ x, x = W9.heap.size := ⟨_, rfl⟩
  rw [← et13] at X13
  have lX13 : t13 ≤ W9.heap.size := by omega
  have lm9 : m9 ≤ t13 := by omega
  have lz : ∀ x : Nat, x < W9.heap.size → x < t13 := fun x h => by omega
  have lDt := lz _ zD
  have lRt := lz _ zR
  clear et13 lz
  have HID : Hid ((Tryz.prog.info? 35).map (·.size) = some [Value.int .i64 y0, .int .i64 y1, .int .i64 y2, .bool y3, .bool y4, v5, .bool y6, .int .i64 y7, .bool y8, v9, v10, .int .i64 y10, .int .i64 y11, .slice va3 (n + 1) vc3].length) := (by kernel_rfl : (Tryz.prog.info? 35).map (·.size) = some 14)
  have kA0 := kA
  have zA0 := zA
  have kD0 := kD
  have zD0 := zD
  have kY0 := kY
  have zY0 := zY
  refine wp_region_noPanic ?_
  refine Goes.start (S := fun w' => Below W9.heap.size W9 w') (z := 7) (by kernel_rfl) ?_
  have hb : Below W9.heap.size W9 W9.drew := Below.drew (Below.refl _ _)
  generalize hWW : W9.drew = W10 at hb ⊢
  clear hWW
  have HS0 : Hid (Below W9.heap.size W9 W10) := hb
  replace kA := bx_below kA zA hb
  replace zA := Nat.lt_of_lt_of_le zA hb.size
  replace kR := bx_below kR zR hb
  replace fR := bxF fR hb zR
  replace zR := Nat.lt_of_lt_of_le zR hb.size
  replace kY := bx_below kY zY hb
  replace fY := bxF fY hb zY
  replace zY := Nat.lt_of_lt_of_le zY hb.size
  replace kD := bx_below kD zD hb
  replace fD := bxF fD hb zD
  replace zD := Nat.lt_of_lt_of_le zD hb.size
  replace X5 : Hid (Own W10 lo m5 u8s d5 [v5]) := Own.below X5.out (by omega) hb
  replace lX5 : m5 ≤ W10.heap.size := Nat.le_trans lX5 hb.size
  replace X9 : Hid (Own W10 m5 m9 gtS d9 [v9, v10]) := Own.below X9.out (by omega) hb
  replace lX9 : m9 ≤ W10.heap.size := Nat.le_trans lX9 hb.size
  replace X13 : Hid (Own W10 m9 t13 shSubsO (l ++ [newX p st jn no nw]) [.slice va3 (n + 1) vc3]) := Own.below X13.out (by omega) hb
  replace lX13 : t13 ≤ W10.heap.size := Nat.le_trans lX13 hb.size
  replace HB : Hid (Below w.heap.size w W10) := HB.out.trans (hb.mono HB.out.size)
  clear hb
  refine Goes.take (i := 0) (oi := ?oi11) (x := .agg ([.int .i64 y0, .int .i64 y1, .int .i64 y2, .bool y3, .bool y4, v5, .bool y6, .int .i64 y7, .bool y8, v9, v10, .int .i64 y10, .int .i64 y11, .slice va3 (n + 1) vc3]).toArray) ?ho11 (by kernel_rfl) (by kernel_rfl) (by kernel_rfl) (by kernel_rfl) (fun _ _ _ h => h) ?hy11 HS0.out ?rest11
  case ho11 => (simp only [List.getElem?_toArray, List.getElem?_cons_zero] <;> rfl)
  case hy11 => exact yieldsIf_load_mid (by rfl) 35 _ rfl (bD) (0) (by rfl) ([.int .i64 y0, .int .i64 y1, .int .i64 y2, .bool y3, .bool y4, v5, .bool y6, .int .i64 y7, .bool y8, v9, v10, .int .i64 y10, .int .i64 y11, .slice va3 (n + 1) vc3]) _ (fun w' hSw => bx_range (A := #[.int .i64 y0, .int .i64 y1, .int .i64 y2, .bool y3, .bool y4, v5, .bool y6, .int .i64 y7, .bool y8, v9, v10, .int .i64 y10, .int .i64 y11, .slice va3 (n + 1) vc3]) (fun o => (hSw.cell (p := ⟨bD, o, none⟩) zD0).trans (kD0 o))) Tryz.underlying35 rfl HID.out
  case rest11 =>
  (try simp only [Act.put, List.setIfInBounds_toArray, List.set_cons_zero, List.set_cons_succ])
  refine Goes.take (i := 1) (oi := ?oi12) (x := .agg (A.toList).toArray) ?ho12 (by kernel_rfl) (by kernel_rfl) (by kernel_rfl) (by kernel_rfl) (fun _ _ _ h => h) ?hy12 HS0.out ?rest12
  case ho12 => (simp only [List.getElem?_toArray, List.getElem?_cons_succ, List.getElem?_cons_zero] <;> rfl)
  case hy12 => exact yieldsIf_load_mid (by rfl) 35 _ rfl (w.heap.size) (0) (by rfl) (A.toList) _ (fun w' hSw => bx_range (fun o => (hSw.cell (p := ⟨w.heap.size, o, none⟩) zA0).trans (kA0 o))) Tryz.underlying35 rfl HI.out
  case rest12 =>
  (try simp only [Act.put, List.setIfInBounds_toArray, List.set_cons_zero, List.set_cons_succ])
  refine Goes.take (i := 2) (oi := ?oi13) (x := ?vx13) ?ho13 (by kernel_rfl) (by kernel_rfl) (by kernel_rfl) (by kernel_rfl) (fun _ _ _ h => h) (Or.inl ⟨?hw13, ?hy13⟩) HS0.out ?rest13
  case ho13 => (simp only [List.getElem?_toArray, List.getElem?_cons_succ, List.getElem?_cons_zero] <;> rfl)
  case hw13 => rfl
  case hy13 => (intro w' hSw; go_simp; (try with_reducible rfl))
  case rest13 =>
  (try simp only [Act.put, List.setIfInBounds_toArray, List.set_cons_zero, List.set_cons_succ])
  refine Goes.take (i := 3) (oi := ?oi14) (x := .agg ([.int .i64 p, .int .i64 1, .bool jn, .int .i64 no, .int .i64 0, .int .i64 nw, .int .i64 st, .int .i64 0, .int .i64 0, .slice none 0 0, .int .i64 0, .int .i64 0, .slice none 0 0, .int .i64 16, .int .i64 64, .int .i64 0]).toArray) ?ho14 (by kernel_rfl) (by kernel_rfl) (by kernel_rfl) (by kernel_rfl) (fun _ _ _ h => h) ?hy14 HS0.out ?rest14
  case ho14 => (simp only [List.getElem?_toArray, List.getElem?_cons_succ, List.getElem?_cons_zero] <;> rfl)
  case hy14 => exact yieldsIf_load_mid (by rfl) 94 _ rfl (bY) (1) (by rfl) ([.int .i64 p, .int .i64 1, .bool jn, .int .i64 no, .int .i64 0, .int .i64 nw, .int .i64 st, .int .i64 0, .int .i64 0, .slice none 0 0, .int .i64 0, .int .i64 0, .slice none 0 0, .int .i64 16, .int .i64 64, .int .i64 0]) _ (fun w' hSw => bx_sub (fun o => (hSw.cell (p := ⟨bY, o, none⟩) zY0).trans (kY0 o)) HSX.out) Tryz.underlying94 rfl HIXX.out
  case rest14 =>
  (try simp only [Act.put, List.setIfInBounds_toArray, List.set_cons_zero, List.set_cons_succ])
  refine Goes.all (rs := [4]) (by kernel_rfl) (by simp) ?_
  refine Ups.cons (i := 4) (o := ?oo15) ?ho15 (fun KK hKK => ?stp15) Ups.nil
  case ho15 => (simp only [List.getElem?_toArray, List.getElem?_cons_succ, List.getElem?_cons_zero] <;> rfl)
  case stp15 =>
  go_simp
  go_at_call 60
  refine (HAK.out _ HB.out).mono ?_
  rintro e W11 ⟨rfl, hb⟩
  have HS1 : Hid (Below W9.heap.size W9 W11) := HS0.out.trans (hb.mono HS0.out.size)
  replace kA := bx_below kA zA hb
  replace zA := Nat.lt_of_lt_of_le zA hb.size
  replace kR := bx_below kR zR hb
  replace fR := bxF fR hb zR
  replace zR := Nat.lt_of_lt_of_le zR hb.size
  replace kY := bx_below kY zY hb
  replace fY := bxF fY hb zY
  replace zY := Nat.lt_of_lt_of_le zY hb.size
  replace kD := bx_below kD zD hb
  replace fD := bxF fD hb zD
  replace zD := Nat.lt_of_lt_of_le zD hb.size
  replace X5 : Hid (Own W11 lo m5 u8s d5 [v5]) := Own.below X5.out (by omega) hb
  replace lX5 : m5 ≤ W11.heap.size := Nat.le_trans lX5 hb.size
  replace X9 : Hid (Own W11 m5 m9 gtS d9 [v9, v10]) := Own.below X9.out (by omega) hb
  replace lX9 : m9 ≤ W11.heap.size := Nat.le_trans lX9 hb.size
  replace X13 : Hid (Own W11 m9 t13 shSubsO (l ++ [newX p st jn no nw]) [.slice va3 (n + 1) vc3]) := Own.below X13.out (by omega) hb
  replace lX13 : t13 ≤ W11.heap.size := Nat.le_trans lX13 hb.size
  replace HB : Hid (Below w.heap.size w W11) := HB.out.trans (hb.mono HB.out.size)
  clear hb
  dsimp only
  refine hKK.out _ _ (Or.inr HS1.out) ?_
  clear hKK KK
  (try simp only [Act.put, List.setIfInBounds_toArray, List.set_cons_zero, List.set_cons_succ])
  refine Goes.all (rs := [5]) (by kernel_rfl) (by simp) ?_
  refine Ups.cons (i := 5) (o := ?oo16) ?ho16 (fun KK hKK => ?stp16) Ups.nil
  case ho16 => (simp only [List.getElem?_toArray, List.getElem?_cons_succ, List.getElem?_cons_zero] <;> rfl)
  case stp16 =>
  go_simp
  have hb : Below W11.heap.size W11 (W11.alloc (.cells #[.int .i64 g0, .int .i64 g1, .bool g2, .bool g3, .bool g4, .int .i64 g5, .int .i64 g6, .int .i64 g7, .int .i64 g8, .int .i64 g9, .int .i64 g10, .slice none 0 0] 55)) := (Below.refl _ _).alloc (Nat.le_refl _) _
  have HS2 : Hid (Below W9.heap.size W9 (W11.alloc (.cells #[.int .i64 g0, .int .i64 g1, .bool g2, .bool g3, .bool g4, .int .i64 g5, .int .i64 g6, .int .i64 g7, .int .i64 g8, .int .i64 g9, .int .i64 g10, .slice none 0 0] 55))) := HS1.out.trans (hb.mono HS1.out.size)
  refine hKK.out _ _ (Or.inr HS2.out) ?_
  clear hKK KK
  (try simp only [Act.put, List.setIfInBounds_toArray, List.set_cons_zero, List.set_cons_succ])
  have hsg := own_seg1 W11 (g2 := g2) (g3 := g3) (g4 := g4) HGW.out
  have hsz : (W11.alloc (.cells #[.int .i64 g0, .int .i64 g1, .bool g2, .bool g3, .bool g4, .int .i64 g5, .int .i64 g6, .int .i64 g7, .int .i64 g8, .int .i64 g9, .int .i64 g10, .slice none 0 0] 55)).heap.size = W11.heap.size + 1 := by simp
  generalize hWW : (W11.alloc (.cells #[.int .i64 g0, .int .i64 g1, .bool g2, .bool g3, .bool g4, .int .i64 g5, .int .i64 g6, .int .i64 g7, .int .i64 g8, .int .i64 g9, .int .i64 g10, .slice none 0 0] 55)) = W12 at hb HS2 hsg hsz ⊢
  clear hWW
  obtain ⟨bS, hbS⟩ : ∃ q, q = W11.heap.size := ⟨_, rfl⟩
  rw [← hbS] at hsg hsz ⊢
  have lt : t13 ≤ bS := by rw [hbS]; exact lX13
  clear hbS
  replace kA := bx_below kA zA hb
  replace zA := Nat.lt_of_lt_of_le zA hb.size
  replace kR := bx_below kR zR hb
  replace fR := bxF fR hb zR
  replace zR := Nat.lt_of_lt_of_le zR hb.size
  replace kY := bx_below kY zY hb
  replace fY := bxF fY hb zY
  replace zY := Nat.lt_of_lt_of_le zY hb.size
  replace kD := bx_below kD zD hb
  replace fD := bxF fD hb zD
  replace zD := Nat.lt_of_lt_of_le zD hb.size
  replace X5 : Hid (Own W12 lo m5 u8s d5 [v5]) := Own.below X5.out (by omega) hb
  replace lX5 : m5 ≤ W12.heap.size := Nat.le_trans lX5 hb.size
  replace X9 : Hid (Own W12 m5 m9 gtS d9 [v9, v10]) := Own.below X9.out (by omega) hb
  replace lX9 : m9 ≤ W12.heap.size := Nat.le_trans lX9 hb.size
  replace X13 : Hid (Own W12 m9 t13 shSubsO (l ++ [newX p st jn no nw]) [.slice va3 (n + 1) vc3]) := Own.below X13.out (by omega) hb
  replace lX13 : t13 ≤ W12.heap.size := Nat.le_trans lX13 hb.size
  replace HB : Hid (Below w.heap.size w W12) := HB.out.trans (hb.mono HB.out.size)
  clear hb
  have XS : Hid (Own W12 bS W12.heap.size shSegms [(g0, g1, g2, g3, g4, g5, g6, g7, g8, g9, g10, [], ())] [.slice (some ⟨bS, 0, none⟩) 1 1]) := by rw [hsz]; exact hsg
  clear hsg
  obtain ⟨N, hN⟩ : ∃ N : Array Value, N = #[.int .i64 0, .int .i64 y0, .int .i64 y1, .int .i64 y2, .bool y3, .bool y4, v5, .bool y6, .int .i64 y7, .bool y8, v9, v10, .int .i64 y10, .int .i64 y11, .slice va3 (n + 1) vc3, .slice (some ⟨bS, 0, none⟩) 1 1, .slice none 0 0, .bool false] := ⟨_, rfl⟩
  have HN : Hid _ := hN
  have hNz : N.size = 18 := by rw [hN]; rfl
  have HIN : Hid ((Tryz.prog.info? 38).map (·.size) = some N.size) := by show _ = _; rw [hNz]; exact info_R18
  have HNZ : Hid _ := hNz
  have HRES : Hid (Own W12 lo W12.heap.size shCR (0, (y0, y1, y2, y3, y4, d5, y6, y7, y8, d9, y10, y11, (l ++ [newX p st jn no nw]), ()), [(g0, g1, g2, g3, g4, g5, g6, g7, g8, g9, g10, [], ())], [], false, ()) N.toList) := by show Own _ _ _ _ _ _; rw [hN]; exact own_CRs (mi := bS) (by omega) (by omega) (Own.mono (own_ConnO9 X5.out X9.out X13.out l0 l1 lm9 HWF.out) (Nat.le_refl _) lt) XS.out
  have HONE : Hid (N.all (·.oneCell') = true) := rd_all (s := shCR) (HRES.out.rd (Nat.le_refl _))
  have HTH : Hid (W12.there (w.heap.size + 1) 0 N.size) := bx_there kR fR (by rw [HNZ.out]; rfl)
  have kF : Hid (∀ o, (W12.setCells (w.heap.size + 1) 0 N.toList).cell? ⟨w.heap.size + 1, o, none⟩ = N[o]?) := bx_setCells kR (by rw [HNZ.out]; rfl)
  clear hN hNz
  refine Goes.take (i := 6) (oi := ?oi17) (x := ?vx17) ?ho17 (by kernel_rfl) (by kernel_rfl) (by kernel_rfl) (by kernel_rfl) (fun _ _ _ h => h) (Or.inl ⟨?hw17, ?hy17⟩) HS2.out ?rest17
  case ho17 => (simp only [List.getElem?_toArray, List.getElem?_cons_succ, List.getElem?_cons_zero] <;> rfl)
  case hw17 => rfl
  case hy17 => (intro w' hSw; go_simp; (try with_reducible rfl))
  case rest17 =>
  (try simp only [Act.put, List.setIfInBounds_toArray, List.set_cons_zero, List.set_cons_succ])
  refine Goes.all (rs := [7]) (by kernel_rfl) (by simp) ?_
  refine Ups.cons (i := 7) (o := ?oo18) ?ho18 (fun KK hKK => ?stp18) Ups.nil
  case ho18 => (simp only [List.getElem?_toArray, List.getElem?_cons_succ, List.getElem?_cons_zero] <;> rfl)
  case stp18 =>
  rw [if_pos (by rfl)]
  refine wp_store_mid 38 _ _ rfl _ _ N (by rfl) (by rw [HN.out]; rfl) HTH.out HIN.out HONE.out ?_
  refine hKK.out _ _ (Or.inl rfl) ?_
  clear hKK KK
  (try simp only [Act.put])
  refine Goes.done (by kernel_rfl) ?_ _
  refine NoPanic.normal ?_
  go_wp2_with fail
  refine bodyPost_ret (results_box Tryz.results25 _ _ _ N _ (by rfl) kF.out Tryz.underlying38 rfl HIN.out) rfl ⟨N, rfl, ?_, ?_⟩
  · refine Own.mono (Own.keep HRES.out fun b hb hlt => setCells_block (by omega) _ _ _) (by omega) (by rw [setCells_size]; omega)
  · exact setCells_below (by omega) _ _ _ _ HB.out
end Go.Proofs.YtbdibjeemgkdaaaGreatDoor
