/- Marks over worlds and over answers with a world, of the call's own; what compares such answers; no condition but that there are at most a million parts. Written by mkmw.py. -/
import Derived.Test.YteaddhldleeaiaaGreatRows
import Derived.Deep.DeepCutAuto
import Derived.Deep.MidRow
import Derived.Test.YteaddhldleeaiaaGreatK01
import Derived.Test.YteaddhldleeaiaaGreatK02
import Derived.Test.YteaddhldleeaiaaGreatK03
import Derived.Test.YteaddhldleeaiaaGreatK10
import Derived.Test.YteaddhldleeaiaaGreatK11
import Derived.Test.YteaddhldleeaiaaGreatK17
import Derived.Test.YteaddhldleeaiaaGreatK18
import Derived.Test.YteaddhldleeaiaaGreatK19
import Derived.Test.YteaddhldleeaiaaGreatK20
import Derived.Test.YteaddhldleeaiaaGreatK55
import Derived.Test.YteaddhldleeaiaaGreatK57
import Derived.Test.YteaddhldleeaiaaGreatK58
import Derived.Test.YteaddhldleeaiaaGreatK59
import Derived.Test.YteaddhldleeaiaaGreatK65
namespace Go.Proofs.YteaddhldleeaiaaGreat
open Go.RowKit
set_option linter.unusedVariables false
set_option maxRecDepth 8000

abbrev shWorldT (t : TypeId) : Sh := .cons (.int .i64) (.cons shConnsO (.cons (shNetT t) (.cons shBss (.cons (bls 4) .nil))))
def wtWorld (x : DWorld) : Nat := fsum wtConnE x.2.1 + wtNet x.2.2.1 + fsum List.length x.2.2.2.1 + x.2.2.2.2.1.length
def mkWorld (c : Int) : DWorld → DWorld
  | (y0, d1, d2, d3, d4, _) => (y0, mkL mkConnE wtConnE c d1, mkNet (c + ((fsum wtConnE d1 : Nat) : Int)) d2, mkL mkBy List.length (c + ((fsum wtConnE d1 : Nat) : Int) + ((wtNet d2 : Nat) : Int)) d3, markB (c + ((fsum wtConnE d1 : Nat) : Int) + ((wtNet d2 : Nat) : Int) + ((fsum List.length d3 : Nat) : Int)) d4.length, ())
theorem wtNet_le12 (x : DNet) : wtNet x ≤ 12 * totNet x := by
  unfold wtNet totNet totSegms
  have := wtSegmN x.1
  omega
theorem wtWorld_le {x : DWorld} (h : totWorld x ≤ 1048576) : wtWorld x ≤ 14680064 := by
  obtain ⟨y0, d1, d2, d3, d4, ⟨⟩⟩ := x
  have h' : totConns d1 + totNet d2 + totBss d3 + d4.length ≤ 1048576 := h
  have h1 := wtConns_le d1
  have h2 := wtNet_le12 d2
  show fsum wtConnE d1 + wtNet d2 + fsum List.length d3 + d4.length ≤ 14680064
  unfold totConns totBss at h'
  omega
theorem rd_WT {t : TypeId} {w : World} {B : Nat} {x : DWorld} {cs : List Value} (h : (shWorldT t).Rd w B x cs) : shWorld.Rd w B x cs := h
theorem Own.worldT {w : World} {lo hi : Nat} {x : DWorld} {cs : List Value} (h : Own w lo hi shWorld x cs) : Own w lo hi (shWorldT 4) x cs := by
  obtain ⟨bs, h, hn, hb⟩ := h
  obtain ⟨a0, r0, p0, q0, eb0, ec0, h0, a1, r1, p1, q1, eb1, ec1, h1, a2, r2, p2, q2, eb2, ec2, h2, a3, r3, p3, q3, eb3, ec3, h3, a4, r4, p4, q4, eb4, ec4, h4, hz⟩ := h
  exact ⟨bs, ⟨a0, r0, p0, q0, eb0, ec0, h0, a1, r1, p1, q1, eb1, ec1, ow_ConnsO h1, a2, r2, p2, q2, eb2, ec2, h2, a3, r3, p3, q3, eb3, ec3, h3, a4, r4, p4, q4, eb4, ec4, h4, hz⟩, hn, hb⟩
theorem ow_WorldT {t : TypeId} {w : World} {bs : List Nat} {y0 : Int} {d1 : List DConn} {d2 : DNet} {d3 : List (List Int)} {d4 : List Bool} {cs : List Value} (h : (shWorldT t).Ow w bs (y0, d1, d2, d3, d4, ()) cs) :
    ∃ b0 b1 b2 b3 u0 v1 v2 u2 u3, bs = b0 ++ (b1 ++ (b2 ++ b3)) ∧ cs = [.int .i64 y0, u0, v1, v2, u2, u3] ∧ shConnsO.Ow w b0 d1 [u0] ∧ (shNetT t).Ow w b1 d2 [v1, v2] ∧ shBss.Ow w b2 d3 [u2] ∧ (bls 4).Ow w b3 d4 [u3] ∧
      (∀ (W : World) (e1 : List DConn) (e2 : DNet) (e3 : List (List Int)) (e4 : List Bool), shConnsO.Ow W b0 e1 [u0] → (shNetT t).Ow W b1 e2 [v1, v2] → shBss.Ow W b2 e3 [u2] → (bls 4).Ow W b3 e4 [u3] → (shWorldT t).Ow W bs (y0, e1, e2, e3, e4, ()) cs) := by
  obtain ⟨a0, r0, p0, q0, eb0, ec0, ⟨f0, g0, w0⟩, a1, r1, p1, q1, eb1, ec1, h1, a2, r2, p2, q2, eb2, ec2, h2, a3, r3, p3, q3, eb3, ec3, h3, a4, r4, p4, q4, eb4, ec4, h4, zb, zc⟩ := h
  have l1 : p1.length = 1 := Sh.Ow.len _ _ _ _ h1
  have l2 : p2.length = 2 := Sh.Ow.len _ _ _ _ h2
  have l3 : p3.length = 1 := Sh.Ow.len _ _ _ _ h3
  have l4 : p4.length = 1 := Sh.Ow.len _ _ _ _ h4
  match p1, l1, p2, l2, p3, l3, p4, l4 with
  | [u0], _, [v1, v2], _, [u2], _, [u3], _ =>
    refine ⟨a1, a2, a3, a4, u0, v1, v2, u2, u3, ?_, ?_, h1, h2, h3, h4, fun W e1 e2 e3 e4 k1 k2 k3 k4 => ?_⟩
    · rw [eb0, f0, eb1, eb2, eb3, eb4, zb]; simp
    · rw [ec0, g0, ec1, ec2, ec3, ec4, zc]; rfl
    · exact ⟨a0, r0, p0, q0, eb0, ec0, ⟨f0, g0, w0⟩, a1, r1, [u0], q1, eb1, ec1, k1, a2, r2, [v1, v2], q2, eb2, ec2, k2, a3, r3, [u2], q3, eb3, ec3, k3, a4, r4, [u3], q4, eb4, ec4, k4, zb, zc⟩
/-- A world put together of what it owns. -/
theorem own_WT {t : TypeId} {w : World} {lo m1 m2 m3 hi : Nat} {y0 : Int} {d1 : List DConn} {d2 : DNet} {d3 : List (List Int)} {d4 : List Bool} {u0 v1 v2 u2 u3 : Value} (hw : (Lit.int .i64 y0).wf = true) (h1 : Own w lo m1 shConnsO d1 [u0]) (h2 : Own w m1 m2 (shNetT t) d2 [v1, v2]) (h3 : Own w m2 m3 shBss d3 [u2]) (h4 : Own w m3 hi (bls 4) d4 [u3]) (l1 : lo ≤ m1) (l2 : m1 ≤ m2) (l3 : m2 ≤ m3) (l4 : m3 ≤ hi) : Own w lo hi (shWorldT t) (y0, d1, d2, d3, d4, ()) [.int .i64 y0, u0, v1, v2, u2, u3] := by
  have h := hOwnCons (hOwnInt w lo lo hw) (hOwnCons h1 (hOwnCons h2 (hOwnCons h3 (hOwnCons h4 (hOwnNil _ hi hi) l4 (Nat.le_refl _)) l3 l4) l2 (by omega)) l1 (by omega)) (Nat.le_refl _) (by omega)
  exact h
theorem rd_NTt {t : TypeId} {w : World} {B : Nat} {x : DNet} {cs : List Value} (h : (shNetT t).Rd w B x cs) : ∃ a c a' c', cs = [.slice a x.1.length c, .slice a' x.2.1.length c'] ∧ shSegms.Rd w B x.1 [.slice a x.1.length c] ∧ (bls t).Rd w B x.2.1 [.slice a' x.2.1.length c'] := rd_Net h
theorem info_NTw : (Tryz.prog.info? 38).map (·.size) = some 2 := by kernel_rfl
set_option maxHeartbeats 4000000 in
theorem lMarkWorldT (t : TypeId) (x : DWorld) (A : Array Value) (c : Int) (w : World) (bs : List Nat) (hO : (shWorldT t).Ow w bs x A.toList) (hnd : bs.Nodup) (hT : totWorld x ≤ 1048576) (hc0 : 0 ≤ c) (hc1 : c ≤ 16777216) :
    Calls Tryz.prog 11 #[.agg A, .int .i64 c] w fun e w' => e = .returned (.int .i64 (c + (wtWorld x : Nat))) ∧ (shWorldT t).Ow w' bs (mkWorld c x) A.toList ∧ Touch bs w w' := by
  obtain ⟨y0, d1, d2, d3, d4, ⟨⟩⟩ := x
  obtain ⟨b0, b1, b2, b3, u0, v1, v2, u2, u3, rfl, ec, o0, o1, o2, o3, HMK⟩ := ow_WorldT hO
  have ht : totConns d1 + totNet d2 + totBss d3 + d4.length ≤ 1048576 := hT
  have hwl : fsum wtConnE d1 + wtNet d2 + fsum List.length d3 + d4.length ≤ 14680064 := wtWorld_le hT
  have htb : d3.length + fsum List.length d3 = totBss d3 := rfl
  obtain ⟨s0, c0, e0⟩ := row_form (Sh.Ow.rd (Nat.le_refl _) _ _ _ _ o0)
  simp only [List.cons.injEq, and_true] at e0
  subst e0
  obtain ⟨s1, c1, s1', c1', e1, -, -⟩ := rd_NTt (Sh.Ow.rd (Nat.le_refl _) _ _ _ _ o1)
  simp only [List.cons.injEq, and_true] at e1
  obtain ⟨rfl, rfl⟩ := e1
  obtain ⟨s2, c2, e2⟩ := row_form (Sh.Ow.rd (Nat.le_refl _) _ _ _ _ o2)
  simp only [List.cons.injEq, and_true] at e2
  subst e2
  obtain ⟨s3, c3, e3⟩ := row_form (Sh.Ow.rd (Nat.le_refl _) _ _ _ _ o3)
  simp only [List.cons.injEq, and_true] at e3
  subst e3
  have eA := arr_of ec
  subst eA
  obtain ⟨nd0, nd123, ds0⟩ := List.nodup_append.1 hnd
  obtain ⟨nd1, nd23, ds1⟩ := List.nodup_append.1 nd123
  obtain ⟨nd2, nd3, ds2⟩ := List.nodup_append.1 nd23
  have HL0 : Hid (∀ b ∈ b0, b < w.heap.size) := Sh.Ow.lt _ _ _ _ o0
  have HL1 : Hid (∀ b ∈ b1, b < w.heap.size) := Sh.Ow.lt _ _ _ _ o1
  have HL2 : Hid (∀ b ∈ b2, b < w.heap.size) := Sh.Ow.lt _ _ _ _ o2
  have HL3 : Hid (∀ b ∈ b3, b < w.heap.size) := Sh.Ow.lt _ _ _ _ o3
  have HD01 : Hid (∀ b ∈ b1, b ∉ b0) := fun b h h' => ds0 b h' b (List.mem_append_left _ h) rfl
  have HD02 : Hid (∀ b ∈ b2, b ∉ b0) := fun b h h' => ds0 b h' b (List.mem_append_right _ (List.mem_append_left _ h)) rfl
  have HD03 : Hid (∀ b ∈ b3, b ∉ b0) := fun b h h' => ds0 b h' b (List.mem_append_right _ (List.mem_append_right _ h)) rfl
  have HD12 : Hid (∀ b ∈ b2, b ∉ b1) := fun b h h' => ds1 b h' b (List.mem_append_left _ h) rfl
  have HD13 : Hid (∀ b ∈ b3, b ∉ b1) := fun b h h' => ds1 b h' b (List.mem_append_right _ h) rfl
  have HD23 : Hid (∀ b ∈ b3, b ∉ b2) := fun b h h' => ds2 b h' b h rfl
  have HV : Hid (c + ((fsum wtConnE d1 : Nat) : Int) + ((wtNet d2 : Nat) : Int) + ((fsum List.length d3 : Nat) : Int) + ((d4.length : Nat) : Int) = c + (wtWorld (y0, d1, d2, d3, d4, PUnit.unit) : Nat)) := by
    show _ = _
    have : wtWorld (y0, d1, d2, d3, d4, PUnit.unit) = fsum wtConnE d1 + wtNet d2 + fsum List.length d3 + d4.length := rfl
    rw [this]; push_cast; omega
  have H0 : Hid (∀ W, (∀ b ∈ b0, W.heap[b]? = w.heap[b]?) → Calls Tryz.prog 34 #[.slice s0 d1.length c0, .int .i64 (c)] W fun e w' => e = .returned (.int .i64 (c + ((fsum wtConnE d1 : Nat) : Int))) ∧ shConnsO.Ow w' b0 (mkL mkConnE wtConnE (c) d1) [.slice s0 d1.length c0] ∧ Touch b0 W w') := fun W hW => by
    have h0 : 0 ≤ c := by omega
    exact lMarkConns d1 _ _ W b0 (Sh.Ow.keep _ _ _ _ hW o0) nd0 (by omega) h0 (by omega)
  have H1 : Hid (∀ W, (∀ b ∈ b1, W.heap[b]? = w.heap[b]?) → Calls Tryz.prog 35 #[.agg #[.slice s1 d2.1.length c1, .slice s1' d2.2.1.length c1'], .int .i64 (c + ((fsum wtConnE d1 : Nat) : Int))] W fun e w' => e = .returned (.int .i64 (c + ((fsum wtConnE d1 : Nat) : Int) + ((wtNet d2 : Nat) : Int))) ∧ (shNetT t).Ow w' b1 (mkNet (c + ((fsum wtConnE d1 : Nat) : Int)) d2) [.slice s1 d2.1.length c1, .slice s1' d2.2.1.length c1'] ∧ Touch b1 W w') := fun W hW => by
    have h0 : 0 ≤ c + ((fsum wtConnE d1 : Nat) : Int) := by omega
    exact lMarkNetT t d2 #[_, _] _ W b1 (Sh.Ow.keep _ _ _ _ hW o1) nd1 (by omega) h0 (by omega)
  have H2 : Hid (∀ W, (∀ b ∈ b2, W.heap[b]? = w.heap[b]?) → Calls Tryz.prog 36 #[.slice s2 d3.length c2, .int .i64 (c + ((fsum wtConnE d1 : Nat) : Int) + ((wtNet d2 : Nat) : Int))] W fun e w' => e = .returned (.int .i64 (c + ((fsum wtConnE d1 : Nat) : Int) + ((wtNet d2 : Nat) : Int) + ((fsum List.length d3 : Nat) : Int))) ∧ shBss.Ow w' b2 (mkL mkBy List.length (c + ((fsum wtConnE d1 : Nat) : Int) + ((wtNet d2 : Nat) : Int)) d3) [.slice s2 d3.length c2] ∧ Touch b2 W w') := fun W hW => by
    have h0 : 0 ≤ c + ((fsum wtConnE d1 : Nat) : Int) + ((wtNet d2 : Nat) : Int) := by omega
    exact lMarkBss d3 _ _ W b2 (Sh.Ow.keep _ _ _ _ hW o2) nd2 (by omega) (by omega) h0 (by omega)
  have H3 : Hid (∀ W, (∀ b ∈ b3, W.heap[b]? = w.heap[b]?) → Calls Tryz.prog 37 #[.slice s3 d4.length c3, .int .i64 (c + ((fsum wtConnE d1 : Nat) : Int) + ((wtNet d2 : Nat) : Int) + ((fsum List.length d3 : Nat) : Int))] W fun e w' => e = .returned (.int .i64 (c + ((fsum wtConnE d1 : Nat) : Int) + ((wtNet d2 : Nat) : Int) + ((fsum List.length d3 : Nat) : Int) + ((d4.length : Nat) : Int))) ∧ (bls 4).Ow w' b3 (markB (c + ((fsum wtConnE d1 : Nat) : Int) + ((wtNet d2 : Nat) : Int) + ((fsum List.length d3 : Nat) : Int)) d4.length) [.slice s3 d4.length c3] ∧ Touch b3 W w') := fun W hW => by
    have h0 : 0 ≤ c + ((fsum wtConnE d1 : Nat) : Int) + ((wtNet d2 : Nat) : Int) + ((fsum List.length d3 : Nat) : Int) := by omega
    exact lMarkBools _ d4 _ _ W b3 (Sh.Ow.keep _ _ _ _ hW o3) (by omega) h0 (by omega)
  have HM : Hid (∀ W, shConnsO.Ow W b0 (mkL mkConnE wtConnE (c) d1) [.slice s0 d1.length c0] → (shNetT t).Ow W b1 (mkNet (c + ((fsum wtConnE d1 : Nat) : Int)) d2) [.slice s1 d2.1.length c1, .slice s1' d2.2.1.length c1'] → shBss.Ow W b2 (mkL mkBy List.length (c + ((fsum wtConnE d1 : Nat) : Int) + ((wtNet d2 : Nat) : Int)) d3) [.slice s2 d3.length c2] → (bls 4).Ow W b3 (markB (c + ((fsum wtConnE d1 : Nat) : Int) + ((wtNet d2 : Nat) : Int) + ((fsum List.length d3 : Nat) : Int)) d4.length) [.slice s3 d4.length c3] → (shWorldT t).Ow W (b0 ++ (b1 ++ (b2 ++ b3))) (mkWorld c (y0, d1, d2, d3, d4, PUnit.unit)) [.int .i64 y0, .slice s0 d1.length c0, .slice s1 d2.1.length c1, .slice s1' d2.2.1.length c1', .slice s2 d3.length c2, .slice s3 d4.length c3]) := fun W k0 k1 k2 k3 => by have h := HMK W _ _ _ _ k0 k1 k2 k3; exact h
  clear hO hnd o0 o1 o2 o3 HMK ec hT ht hwl htb nd0 nd1 nd2 nd3 nd123 nd23 ds0 ds1 ds2
  rw [← HV.out]
  clear HV
  show Calls _ _ _ _ (fun e w' => _ ∧ (shWorldT t).Ow w' _ _ [.int .i64 y0, .slice s0 d1.length c0, .slice s1 d2.1.length c1, .slice s1' d2.2.1.length c1', .slice s2 d3.length c2, .slice s3 d4.length c3] ∧ _)
  generalize mkWorld c (y0, d1, d2, d3, d4, PUnit.unit) = MM at *
  generalize markB (c + ((fsum wtConnE d1 : Nat) : Int) + ((wtNet d2 : Nat) : Int) + ((fsum List.length d3 : Nat) : Int)) d4.length = M3 at *
  generalize mkL mkBy List.length (c + ((fsum wtConnE d1 : Nat) : Int) + ((wtNet d2 : Nat) : Int)) d3 = M2 at *
  generalize mkNet (c + ((fsum wtConnE d1 : Nat) : Int)) d2 = M1 at *
  generalize mkL mkConnE wtConnE (c) d1 = M0 at *
  generalize fsum wtConnE d1 = q0 at *
  generalize wtNet d2 = q1 at *
  generalize fsum List.length d3 = q2 at *
  generalize d1.length = n0 at *
  generalize d2.1.length = n1 at *
  generalize d2.2.1.length = n1' at *
  generalize d3.length = n2 at *
  generalize d4.length = n3 at *
  have k0 := bx_al w #[.int .i64 y0, .slice s0 n0 c0, .slice s1 n1 c1, .slice s1' n1' c1', .slice s2 n2 c2, .slice s3 n3 c3] 40
  have HW0 : Hid (∀ b, b < w.heap.size → (w.alloc (.cells #[.int .i64 y0, .slice s0 n0 c0, .slice s1 n1 c1, .slice s1' n1' c1', .slice s2 n2 c2, .slice s3 n3 c3] 40)).heap[b]? = w.heap[b]?) := fun b hb => Below.heap_alloc _ _ _ hb
  have HT0 : Hid (Touch (b0 ++ (b1 ++ (b2 ++ b3))) w (w.alloc (.cells #[.int .i64 y0, .slice s0 n0 c0, .slice s1 n1 c1, .slice s1' n1' c1', .slice s2 n2 c2, .slice s3 n3 c3] 40))) := Touch.below ((Below.refl _ _).alloc (Nat.le_refl _) _)
  have z0 : w.heap.size < (w.alloc (.cells #[.int .i64 y0, .slice s0 n0 c0, .slice s1 n1 c1, .slice s1' n1' c1', .slice s2 n2 c2, .slice s3 n3 c3] 40)).heap.size := by simp
  have HRN : Hid (∀ W : World, (∀ o, W.cell? ⟨w.heap.size, o, none⟩ = (#[.int .i64 y0, .slice s0 n0 c0, .slice s1 n1 c1, .slice s1' n1' c1', .slice s2 n2 c2, .slice s3 n3 c3] : Array Value)[o]?) → W.rangeAt w.heap.size 2 [.slice s1 n1 c1, .slice s1' n1' c1']) := fun W hk j v hv => by
    rw [hk]
    match j, hv with
    | 0, hv => exact hv
    | 1, hv => exact hv
  go_enter Tryz.func11, Tryz.ntmps11
  go_wp2_with fail
  refine (H0.out _ (fun b hb => HW0.out b (HL0.out b hb))).mono ?_
  rintro e w1 ⟨rfl, ho, ht⟩
  replace k0 : ∀ o, w1.cell? ⟨w.heap.size, o, none⟩ = (#[.int .i64 y0, .slice s0 n0 c0, .slice s1 n1 c1, .slice s1' n1' c1', .slice s2 n2 c2, .slice s3 n3 c3] : Array Value)[o]? := bx_keep k0 (ht.block w.heap.size z0 (fun h => by have := HL0.out _ h; omega))
  have HW1 : Hid (∀ b, b < w.heap.size → b ∉ b0 → w1.heap[b]? = w.heap[b]?) := fun b hb n0 => (ht.block b (by omega) n0).trans (HW0.out b hb)
  have HO0 : Hid (shConnsO.Ow w1 b0 M0 [.slice s0 n0 c0]) := ho
  have HT1 : Hid (Touch (b0 ++ (b1 ++ (b2 ++ b3))) w w1) := HT0.out.trans (Touch.mono ht (fun y h => List.mem_append_left _ h))
  replace z0 : w.heap.size < w1.heap.size := Nat.lt_of_lt_of_le z0 ht.size
  clear ho ht H0 HT0 HW0
  have HRG : Hid _ := HRN.out _ k0
  go_wp2_with (refine wpList_load_mid rfl 38 _ rfl _ _ (by rfl) [.slice s1 n1 c1, .slice s1' n1' c1'] _ HRG.out Tryz.underlying38 rfl info_NTw ?_)
  refine (H1.out _ (fun b hb => HW1.out b (HL1.out b hb) (HD01.out b hb))).mono ?_
  rintro e w2 ⟨rfl, ho, ht⟩
  replace k0 : ∀ o, w2.cell? ⟨w.heap.size, o, none⟩ = (#[.int .i64 y0, .slice s0 n0 c0, .slice s1 n1 c1, .slice s1' n1' c1', .slice s2 n2 c2, .slice s3 n3 c3] : Array Value)[o]? := bx_keep k0 (ht.block w.heap.size z0 (fun h => by have := HL1.out _ h; omega))
  have HW2 : Hid (∀ b, b < w.heap.size → b ∉ b0 → b ∉ b1 → w2.heap[b]? = w.heap[b]?) := fun b hb n0 n1 => (ht.block b (by omega) n1).trans (HW1.out b hb n0)
  replace HO0 : Hid (shConnsO.Ow w2 b0 M0 [.slice s0 n0 c0]) := Sh.Ow.keep _ _ _ _ (fun b hb => ht.block b (by have := HL0.out b hb; omega) (fun h => HD01.out b h hb)) HO0.out
  have HO1 : Hid ((shNetT t).Ow w2 b1 M1 [.slice s1 n1 c1, .slice s1' n1' c1']) := ho
  have HT2 : Hid (Touch (b0 ++ (b1 ++ (b2 ++ b3))) w w2) := HT1.out.trans (Touch.mono ht (fun y h => List.mem_append_right _ (List.mem_append_left _ h)))
  replace z0 : w.heap.size < w2.heap.size := Nat.lt_of_lt_of_le z0 ht.size
  clear ho ht H1 HT1 HW1 HRG
  go_wp2_with fail
  refine (H2.out _ (fun b hb => HW2.out b (HL2.out b hb) (HD02.out b hb) (HD12.out b hb))).mono ?_
  rintro e w3 ⟨rfl, ho, ht⟩
  replace k0 : ∀ o, w3.cell? ⟨w.heap.size, o, none⟩ = (#[.int .i64 y0, .slice s0 n0 c0, .slice s1 n1 c1, .slice s1' n1' c1', .slice s2 n2 c2, .slice s3 n3 c3] : Array Value)[o]? := bx_keep k0 (ht.block w.heap.size z0 (fun h => by have := HL2.out _ h; omega))
  have HW3 : Hid (∀ b, b < w.heap.size → b ∉ b0 → b ∉ b1 → b ∉ b2 → w3.heap[b]? = w.heap[b]?) := fun b hb n0 n1 n2 => (ht.block b (by omega) n2).trans (HW2.out b hb n0 n1)
  replace HO0 : Hid (shConnsO.Ow w3 b0 M0 [.slice s0 n0 c0]) := Sh.Ow.keep _ _ _ _ (fun b hb => ht.block b (by have := HL0.out b hb; omega) (fun h => HD02.out b h hb)) HO0.out
  replace HO1 : Hid ((shNetT t).Ow w3 b1 M1 [.slice s1 n1 c1, .slice s1' n1' c1']) := Sh.Ow.keep _ _ _ _ (fun b hb => ht.block b (by have := HL1.out b hb; omega) (fun h => HD12.out b h hb)) HO1.out
  have HO2 : Hid (shBss.Ow w3 b2 M2 [.slice s2 n2 c2]) := ho
  have HT3 : Hid (Touch (b0 ++ (b1 ++ (b2 ++ b3))) w w3) := HT2.out.trans (Touch.mono ht (fun y h => List.mem_append_right _ (List.mem_append_right _ (List.mem_append_left _ h))))
  replace z0 : w.heap.size < w3.heap.size := Nat.lt_of_lt_of_le z0 ht.size
  clear ho ht H2 HT2 HW2
  go_wp2_with fail
  refine (H3.out _ (fun b hb => HW3.out b (HL3.out b hb) (HD03.out b hb) (HD13.out b hb) (HD23.out b hb))).mono ?_
  rintro e w4 ⟨rfl, ho, ht⟩
  replace k0 : ∀ o, w4.cell? ⟨w.heap.size, o, none⟩ = (#[.int .i64 y0, .slice s0 n0 c0, .slice s1 n1 c1, .slice s1' n1' c1', .slice s2 n2 c2, .slice s3 n3 c3] : Array Value)[o]? := bx_keep k0 (ht.block w.heap.size z0 (fun h => by have := HL3.out _ h; omega))
  have HW4 : Hid (∀ b, b < w.heap.size → b ∉ b0 → b ∉ b1 → b ∉ b2 → b ∉ b3 → w4.heap[b]? = w.heap[b]?) := fun b hb n0 n1 n2 n3 => (ht.block b (by omega) n3).trans (HW3.out b hb n0 n1 n2)
  replace HO0 : Hid (shConnsO.Ow w4 b0 M0 [.slice s0 n0 c0]) := Sh.Ow.keep _ _ _ _ (fun b hb => ht.block b (by have := HL0.out b hb; omega) (fun h => HD03.out b h hb)) HO0.out
  replace HO1 : Hid ((shNetT t).Ow w4 b1 M1 [.slice s1 n1 c1, .slice s1' n1' c1']) := Sh.Ow.keep _ _ _ _ (fun b hb => ht.block b (by have := HL1.out b hb; omega) (fun h => HD13.out b h hb)) HO1.out
  replace HO2 : Hid (shBss.Ow w4 b2 M2 [.slice s2 n2 c2]) := Sh.Ow.keep _ _ _ _ (fun b hb => ht.block b (by have := HL2.out b hb; omega) (fun h => HD23.out b h hb)) HO2.out
  have HO3 : Hid ((bls 4).Ow w4 b3 M3 [.slice s3 n3 c3]) := ho
  have HT4 : Hid (Touch (b0 ++ (b1 ++ (b2 ++ b3))) w w4) := HT3.out.trans (Touch.mono ht (fun y h => List.mem_append_right _ (List.mem_append_right _ (List.mem_append_right _ h))))
  replace z0 : w.heap.size < w4.heap.size := Nat.lt_of_lt_of_le z0 ht.size
  clear ho ht H3 HT3 HW3
  have HF : Hid _ := HM.out w4 HO0.out HO1.out HO2.out HO3.out
  clear k0 HO0 HO1 HO2 HO3 HW4 HM
  go_wp2_with fail
  go_ret
  exact ⟨rfl, HF.out, HT4.out⟩
theorem lMarkWorld (t : TypeId) (x : DWorld) (A : Array Value) (c : Int) (w : World) (lo hi : Nat) (ho : Own w lo hi (shWorldT t) x A.toList) (hT : totWorld x ≤ 1048576) (hc0 : 0 ≤ c) (hc1 : c ≤ 16777216) :
    Calls Tryz.prog 11 #[.agg A, .int .i64 c] w fun e w' => e = .returned (.int .i64 (c + (wtWorld x : Nat))) ∧ Own w' lo hi (shWorldT t) (mkWorld c x) A.toList ∧ Within lo hi w w' := by
  obtain ⟨bs, hO, hnd, hbd⟩ := ho
  refine (lMarkWorldT t x A c w bs hO hnd hT hc0 hc1).mono ?_
  rintro e w' ⟨rfl, h, ht⟩
  exact ⟨rfl, ⟨bs, h, hnd, hbd⟩, ⟨ht.os, ht.tape, ht.output, ht.size, fun b hb hn => ht.block b hb fun hm => hn (hbd b hm)⟩⟩
end Go.Proofs.YteaddhldleeaiaaGreat
