/- Segments as cells: what reads, what is owned; marks over a row of segments of the call's own; no condition but that there are at most a million parts. Written by mkm1.py. -/
import Derived.Test.YtfpemobkkfobkaaGreatDoorRows
import Derived.Deep.DeepCutAuto
import Derived.Deep.RegionHeld3
import Derived.Deep.MidRow
import Derived.Test.YtfpemobkkfobkaaGreatDoorK01
import Derived.Test.YtfpemobkkfobkaaGreatDoorK02
import Derived.Test.YtfpemobkkfobkaaGreatDoorK03
import Derived.Test.YtfpemobkkfobkaaGreatDoorK10
import Derived.Test.YtfpemobkkfobkaaGreatDoorK17
namespace Go.Proofs.YtfpemobkkfobkaaGreatDoor
open Go.RowKit
set_option linter.unusedVariables false
set_option maxRecDepth 8000

abbrev shSegm : Sh := .cons (.int .i64) (.cons (.int .i64) (.cons .bool (.cons .bool (.cons .bool (.cons (.int .i64) (.cons (.int .i64) (.cons (.int .i64) (.cons (.int .i64) (.cons (.int .i64) (.cons (.int .i64) (.cons u8s .nil)))))))))))
abbrev DSegm : Type := Int × Int × Bool × Bool × Bool × Int × Int × Int × Int × Int × Int × List Int × Unit
abbrev shSegms : Sh := .row 115 shSegm
def wtSegm : DSegm → Nat
  | (_, _, _, _, _, _, _, _, _, _, _, ld, _) => 11 + ld.length
def mkSegm (c : Int) : DSegm → DSegm
  | (_, _, _, _, _, _, _, _, _, _, _, ld, _) => (c, c + 1, (c + 1 + 1) % 3 == 0, (c + 1 + 1 + 1) % 3 == 0, (c + 1 + 1 + 1 + 1) % 3 == 0, c + 1 + 1 + 1 + 1 + 1, c + 1 + 1 + 1 + 1 + 1 + 1, c + 1 + 1 + 1 + 1 + 1 + 1 + 1, c + 1 + 1 + 1 + 1 + 1 + 1 + 1 + 1, c + 1 + 1 + 1 + 1 + 1 + 1 + 1 + 1 + 1, c + 1 + 1 + 1 + 1 + 1 + 1 + 1 + 1 + 1 + 1, marks (c + 1 + 1 + 1 + 1 + 1 + 1 + 1 + 1 + 1 + 1 + 1) ld.length, ())
theorem rd_Segm {w : World} {B : Nat} {y0 : Int} {y1 : Int} {y2 : Bool} {y3 : Bool} {y4 : Bool} {y5 : Int} {y6 : Int} {y7 : Int} {y8 : Int} {y9 : Int} {y10 : Int} {ld : List Int} {cs : List Value} (h : shSegm.Rd w B (y0, y1, y2, y3, y4, y5, y6, y7, y8, y9, y10, ld, ()) cs) : ∃ u, cs = [.int .i64 (y0), .int .i64 (y1), .bool (y2), .bool (y3), .bool (y4), .int .i64 (y5), .int .i64 (y6), .int .i64 (y7), .int .i64 (y8), .int .i64 (y9), .int .i64 (y10), u] ∧ u8s.Rd w B ld [u] ∧ (Lit.int .i64 y0).wf = true ∧ (Lit.int .i64 y1).wf = true ∧ (Lit.int .i64 y5).wf = true ∧ (Lit.int .i64 y6).wf = true ∧ (Lit.int .i64 y7).wf = true ∧ (Lit.int .i64 y8).wf = true ∧ (Lit.int .i64 y9).wf = true ∧ (Lit.int .i64 y10).wf = true := by
  obtain ⟨p0, q0, e0, ⟨g0, w0⟩, p1, q1, e1, ⟨g1, w1⟩, p2, q2, e2, g2, p3, q3, e3, g3, p4, q4, e4, g4, p5, q5, e5, ⟨g5, w5⟩, p6, q6, e6, ⟨g6, w6⟩, p7, q7, e7, ⟨g7, w7⟩, p8, q8, e8, ⟨g8, w8⟩, p9, q9, e9, ⟨g9, w9⟩, p10, q10, e10, ⟨g10, w10⟩, p11, q11, e11, hL, hz⟩ := h
  have hz' : q11 = [] := hz
  obtain ⟨a, k, f⟩ := row_form hL
  subst f
  refine ⟨_, ?_, hL, w0, w1, w5, w6, w7, w8, w9, w10⟩
  rw [e0, g0, e1, g1, e2, g2, e3, g3, e4, g4, e5, g5, e6, g6, e7, g7, e8, g8, e9, g9, e10, g10, e11, hz']
  rfl
theorem ow_Segm {w : World} {bs : List Nat} {y0 : Int} {y1 : Int} {y2 : Bool} {y3 : Bool} {y4 : Bool} {y5 : Int} {y6 : Int} {y7 : Int} {y8 : Int} {y9 : Int} {y10 : Int} {ld : List Int} {cs : List Value} (h : shSegm.Ow w bs (y0, y1, y2, y3, y4, y5, y6, y7, y8, y9, y10, ld, ()) cs) : ∃ u, cs = [.int .i64 (y0), .int .i64 (y1), .bool (y2), .bool (y3), .bool (y4), .int .i64 (y5), .int .i64 (y6), .int .i64 (y7), .int .i64 (y8), .int .i64 (y9), .int .i64 (y10), u] ∧ u8s.Ow w bs ld [u] := by
  obtain ⟨a0, r0, p0, q0, eb0, ec0, ⟨f0, g0, w0⟩, a1, r1, p1, q1, eb1, ec1, ⟨f1, g1, w1⟩, a2, r2, p2, q2, eb2, ec2, ⟨f2, g2⟩, a3, r3, p3, q3, eb3, ec3, ⟨f3, g3⟩, a4, r4, p4, q4, eb4, ec4, ⟨f4, g4⟩, a5, r5, p5, q5, eb5, ec5, ⟨f5, g5, w5⟩, a6, r6, p6, q6, eb6, ec6, ⟨f6, g6, w6⟩, a7, r7, p7, q7, eb7, ec7, ⟨f7, g7, w7⟩, a8, r8, p8, q8, eb8, ec8, ⟨f8, g8, w8⟩, a9, r9, p9, q9, eb9, ec9, ⟨f9, g9, w9⟩, a10, r10, p10, q10, eb10, ec10, ⟨f10, g10, w10⟩, aL, rL, pL, qL, ebL, ecL, hL, zb, zc⟩ := h
  have l : pL.length = 1 := Sh.Ow.len _ _ _ _ hL
  match pL, l with
  | [u], _ =>
    have eb : bs = aL := by rw [eb0, f0, eb1, f1, eb2, f2, eb3, f3, eb4, f4, eb5, f5, eb6, f6, eb7, f7, eb8, f8, eb9, f9, eb10, f10, ebL, zb]; simp
    subst eb
    refine ⟨u, ?_, hL⟩
    rw [ec0, g0, ec1, g1, ec2, g2, ec3, g3, ec4, g4, ec5, g5, ec6, g6, ec7, g7, ec8, g8, ec9, g9, ec10, g10, ecL, zc]
    rfl
theorem mk_Segm {w : World} {bs : List Nat} {y0 : Int} {y1 : Int} {y2 : Bool} {y3 : Bool} {y4 : Bool} {y5 : Int} {y6 : Int} {y7 : Int} {y8 : Int} {y9 : Int} {y10 : Int} {ld : List Int} {u : Value} (hL : u8s.Ow w bs ld [u]) (w0 : (Lit.int .i64 y0).wf = true) (w1 : (Lit.int .i64 y1).wf = true) (w5 : (Lit.int .i64 y5).wf = true) (w6 : (Lit.int .i64 y6).wf = true) (w7 : (Lit.int .i64 y7).wf = true) (w8 : (Lit.int .i64 y8).wf = true) (w9 : (Lit.int .i64 y9).wf = true) (w10 : (Lit.int .i64 y10).wf = true) : shSegm.Ow w bs (y0, y1, y2, y3, y4, y5, y6, y7, y8, y9, y10, ld, ()) [.int .i64 (y0), .int .i64 (y1), .bool (y2), .bool (y3), .bool (y4), .int .i64 (y5), .int .i64 (y6), .int .i64 (y7), .int .i64 (y8), .int .i64 (y9), .int .i64 (y10), u] :=
  ⟨[], bs, [_], _, rfl, rfl, ⟨rfl, rfl, w0⟩, [], bs, [_], _, rfl, rfl, ⟨rfl, rfl, w1⟩, [], bs, [_], _, rfl, rfl, ⟨rfl, rfl⟩, [], bs, [_], _, rfl, rfl, ⟨rfl, rfl⟩, [], bs, [_], _, rfl, rfl, ⟨rfl, rfl⟩, [], bs, [_], _, rfl, rfl, ⟨rfl, rfl, w5⟩, [], bs, [_], _, rfl, rfl, ⟨rfl, rfl, w6⟩, [], bs, [_], _, rfl, rfl, ⟨rfl, rfl, w7⟩, [], bs, [_], _, rfl, rfl, ⟨rfl, rfl, w8⟩, [], bs, [_], _, rfl, rfl, ⟨rfl, rfl, w9⟩, [], bs, [_], _, rfl, rfl, ⟨rfl, rfl, w10⟩, bs, [], [u], [], (List.append_nil _).symm, rfl, hL, rfl, rfl⟩
theorem wtSegm_sum : ∀ (l : List DSegm), l.length ≤ fsum wtSegm l
  | [] => Nat.le_refl _
  | x :: l => by
    obtain ⟨y0, y1, y2, y3, y4, y5, y6, y7, y8, y9, y10, ld, ⟨⟩⟩ := x
    rw [fsum_cons, List.length_cons]
    have := wtSegm_sum l
    have h : wtSegm (y0, y1, y2, y3, y4, y5, y6, y7, y8, y9, y10, ld, PUnit.unit) = 11 + ld.length := rfl
    omega
end Go.Proofs.YtfpemobkkfobkaaGreatDoor

/- What compares segments and rows of them; no condition but that there are at most a million parts. Written by mkm1.py. -/
namespace Go.Proofs.YtfpemobkkfobkaaGreatDoor
open Go.RowKit
set_option linter.unusedVariables false
set_option maxRecDepth 8000

def totSegm : DSegm → Nat
  | (_, _, _, _, _, _, _, _, _, _, _, ld, _) => ld.length
def totSegms (l : List DSegm) : Nat := l.length + fsum totSegm l
set_option maxHeartbeats 4000000 in
theorem lEqSegmA (x : DSegm) (A A' : Array Value) (w : World) (B : Nat) (hr : shSegm.Rd w B x A.toList) (hr' : shSegm.Rd w B x A'.toList) (hB : B ≤ w.heap.size) (hT : totSegm x ≤ 1048576) :
    Calls Tryz.prog 66 #[.agg A, .agg A'] w fun e w' => e = .returned (.bool true) ∧ Below w.heap.size w w' := by
  obtain ⟨y0, y1, y2, y3, y4, y5, y6, y7, y8, y9, y10, ld, ⟨⟩⟩ := x
  obtain ⟨u, eA, r, -⟩ := rd_Segm hr
  obtain ⟨u', eB, r', -⟩ := rd_Segm hr'
  obtain ⟨la, lc, e1⟩ := row_form r
  simp only [List.cons.injEq, and_true] at e1
  subst e1
  obtain ⟨ka, kc, e1⟩ := row_form r'
  simp only [List.cons.injEq, and_true] at e1
  subst e1
  have ht : ld.length ≤ 1048576 := hT
  have H1 : Hid (∀ W, Below w.heap.size w W → Calls Tryz.prog 46 #[.slice la ld.length lc, .slice ka ld.length kc] W fun e w' => e = .returned (.bool true) ∧ Below W.heap.size W w') := fun W hW => lEqBytes ld (.slice la ld.length lc) (.slice ka ld.length kc) W B (Sh.Rd.below r hB hW) (Sh.Rd.below r' hB hW) (Nat.le_trans hB hW.size) ht
  generalize ld.length = n at *
  have a0 : A[0]? = some (.int .i64 y0) := get_of eA 0
  have a1 : A[1]? = some (.int .i64 y1) := get_of eA 1
  have a2 : A[2]? = some (.bool y2) := get_of eA 2
  have a3 : A[3]? = some (.bool y3) := get_of eA 3
  have a4 : A[4]? = some (.bool y4) := get_of eA 4
  have a5 : A[5]? = some (.int .i64 y5) := get_of eA 5
  have a6 : A[6]? = some (.int .i64 y6) := get_of eA 6
  have a7 : A[7]? = some (.int .i64 y7) := get_of eA 7
  have a8 : A[8]? = some (.int .i64 y8) := get_of eA 8
  have a9 : A[9]? = some (.int .i64 y9) := get_of eA 9
  have a10 : A[10]? = some (.int .i64 y10) := get_of eA 10
  have a11 : A[11]? = some (.slice la n lc) := get_of eA 11
  have b0 : A'[0]? = some (.int .i64 y0) := get_of eB 0
  have b1 : A'[1]? = some (.int .i64 y1) := get_of eB 1
  have b2 : A'[2]? = some (.bool y2) := get_of eB 2
  have b3 : A'[3]? = some (.bool y3) := get_of eB 3
  have b4 : A'[4]? = some (.bool y4) := get_of eB 4
  have b5 : A'[5]? = some (.int .i64 y5) := get_of eB 5
  have b6 : A'[6]? = some (.int .i64 y6) := get_of eB 6
  have b7 : A'[7]? = some (.int .i64 y7) := get_of eB 7
  have b8 : A'[8]? = some (.int .i64 y8) := get_of eB 8
  have b9 : A'[9]? = some (.int .i64 y9) := get_of eB 9
  have b10 : A'[10]? = some (.int .i64 y10) := get_of eB 10
  have b11 : A'[11]? = some (.slice ka n kc) := get_of eB 11
  clear hr hr' hT eA eB r r'
  go_enter Tryz.func66, Tryz.ntmps66
  go_wp2_with fail
  refine (H1.out _ (by go_grown)).mono ?_
  rintro e w1 ⟨rfl, hb⟩
  have HB : Hid (Below w.heap.size w w1) := Below.trans (by go_grown) (hb.mono (by simp; omega))
  clear hb H1
  go_wp2_with fail
  go_ret
  exact ⟨rfl, HB.out⟩
set_option maxHeartbeats 4000000 in
theorem lEqSegms (l : List DSegm) (v u : Value) (w : World) (B : Nat) (hr : shSegms.Rd w B l [v]) (hr' : shSegms.Rd w B l [u]) (hB : B ≤ w.heap.size) (hT : totSegms l ≤ 1048576) :
    Calls Tryz.prog 45 #[v, u] w fun e w' => e = .returned (.bool true) ∧ Below w.heap.size w w' := by
  obtain ⟨a, cap, ev⟩ := row_form hr
  simp only [List.cons.injEq, and_true] at ev
  subst ev
  obtain ⟨a', cap', ev⟩ := row_form hr'
  simp only [List.cons.injEq, and_true] at ev
  subst ev
  have hmx : l.length ≤ 9223372036854775807 := row_max hr
  have HT : Hid (∀ k (hk : k < l.length), totSegm l[k] ≤ 1048576) := fun k hk => by have := fsum_at totSegm hk; unfold totSegms at hT; omega
  obtain ⟨n, hn⟩ : ∃ n, l.length = n := ⟨_, rfl⟩
  rw [hn] at hr hr' hmx ⊢
  have HR1 : Hid (∀ W, Below w.heap.size w W → shSegms.Rd W B l [.slice a n cap]) := fun W hW => hr.below hB hW
  have HR2 : Hid (∀ W, Below w.heap.size w W → shSegms.Rd W B l [.slice a' n cap']) := fun W hW => hr'.below hB hW
  have HN : Hid (l.length = n) := hn
  clear hr hr' hT hn
  go_enter Tryz.func45, Tryz.ntmps45
  go_wp2_with fail
  go_loopw [5] (fun i wr => ∃ (k : Nat), k ≤ n ∧ i = .int .i64 k ∧ Below w.heap.size w wr) (fun i _ => n - (intOf i).toNat)
  case atStart => exact ⟨0, Nat.zero_le _, rfl, Below.refl _ _⟩
  case round =>
    obtain ⟨k, hk, rfl, hbl⟩ := hrel
    by_cases hlt : k < n
    · have hkl : k < l.length := by have := HN.out; omega
      have hki : (k : Int) < (n : Int) := by omega
      have hk0 : (0 : Int) ≤ (k : Int) := by omega
      obtain ⟨b0, off0, cs0, ha, hb0, hlen0, hrg0, r0⟩ := row_at (HR1.out wr hbl) k hkl
      subst ha
      replace hlen0 : cs0.length = 12 := hlen0
      replace hrg0 : wr.rangeAt b0 (off0 + k * 12) cs0 := hrg0
      have HI0 : (Tryz.prog.info? 115).map (·.size) = some cs0.length := by rw [hlen0]; exact (by kernel_rfl : (Tryz.prog.info? 115).map (·.size) = some 12)
      obtain ⟨b1, off1, cs1, ha, hb1, hlen1, hrg1, r1⟩ := row_at (HR2.out wr hbl) k hkl
      subst ha
      replace hlen1 : cs1.length = 12 := hlen1
      replace hrg1 : wr.rangeAt b1 (off1 + k * 12) cs1 := hrg1
      have HI1 : (Tryz.prog.info? 115).map (·.size) = some cs1.length := by rw [hlen1]; exact (by kernel_rfl : (Tryz.prog.info? 115).map (·.size) = some 12)
      have HC : Hid (∀ W, Below wr.heap.size wr W → Calls Tryz.prog 66 #[.agg cs0.toArray, .agg cs1.toArray] W fun e w' => e = .returned (.bool true) ∧ Below W.heap.size W w') := fun W hW => lEqSegmA l[k] cs0.toArray cs1.toArray W B (r0.below (Nat.le_trans hB hbl.size) hW) (r1.below (Nat.le_trans hB hbl.size) hW) (Nat.le_trans hB (Nat.le_trans hbl.size hW.size)) (HT.out k hkl)
      have hz0 : b0 < wr.heap.size := by have := hbl.size; omega
      have hz1 : b1 < wr.heap.size := by have := hbl.size; omega
      have HBl : Hid _ := hbl
      have HG0 : Hid (∀ W, Below wr.heap.size wr W → W.rangeAt b0 (off0 + k * 12) cs0) := fun W hW => range_below hrg0 hW hz0
      have HG1 : Hid (∀ W, Below wr.heap.size wr W → W.rangeAt b1 (off1 + k * 12) cs1) := fun W hW => range_below hrg1 hW hz1
      clear r0 r1 hbl hrg0 hrg1
      go_upto_region 6 with fail
      refine wp_region_noPanic ?_
      refine Goes.start (S := fun w' => Below wr.heap.size wr w') (z := 100) (by kernel_rfl) ?_
      refine Goes.take (i := 0) (oi := ?oi1) (x := ?vx1) ?ho1 (by kernel_rfl) (by kernel_rfl) (by kernel_rfl) (by kernel_rfl) (fun _ _ _ h => h) (Or.inl ⟨?hw1, ?hy1⟩) (Below.drew (Below.refl _ _)) ?rest1
      case ho1 => (simp only [List.getElem?_toArray, List.getElem?_cons_zero]; rfl)
      case hw1 => rfl
      case hy1 => (intro w' hSw; go_simp; (try with_reducible rfl))
      case rest1 =>
      (try simp only [Act.put, List.setIfInBounds_toArray, List.set_cons_zero, List.set_cons_succ])
      refine Goes.take (i := 1) (oi := ?oi2) (x := ?vx2) ?ho2 (by kernel_rfl) (by kernel_rfl) (by kernel_rfl) (by kernel_rfl) (fun _ _ _ h => h) (Or.inl ⟨?hw2, ?hy2⟩) (Below.drew (Below.refl _ _)) ?rest2
      case ho2 => (simp only [List.getElem?_toArray, List.getElem?_cons_succ, List.getElem?_cons_zero]; rfl)
      case hw2 => rfl
      case hy2 => (intro w' hSw; go_simp; (try with_reducible rfl))
      case rest2 =>
      (try simp only [Act.put, List.setIfInBounds_toArray, List.set_cons_zero, List.set_cons_succ])
      refine Goes.take (i := 2) (oi := ?oi3) (x := ?vx3) ?ho3 (by kernel_rfl) (by kernel_rfl) (by kernel_rfl) (by kernel_rfl) (fun _ _ _ h => h) (Or.inl ⟨?hw3, ?hy3⟩) (Below.drew (Below.refl _ _)) ?rest3
      case ho3 => (simp only [List.getElem?_toArray, List.getElem?_cons_succ, List.getElem?_cons_zero]; rfl)
      case hw3 => rfl
      case hy3 => (intro w' hSw; go_simp; (try with_reducible rfl))
      case rest3 =>
      (try simp only [Act.put, List.setIfInBounds_toArray, List.set_cons_zero, List.set_cons_succ])
      refine Goes.take (i := 3) (oi := ?oi4) (x := .agg cs0.toArray) ?ho4 (by kernel_rfl) (by kernel_rfl) (by kernel_rfl) (by kernel_rfl) (fun _ _ _ h => h) ?hy4 (Below.drew (Below.refl _ _)) ?rest4
      case ho4 => (simp only [List.getElem?_toArray, List.getElem?_cons_succ, List.getElem?_cons_zero]; rfl)
      case hy4 => exact yieldsIf_load_mid (by rfl) 115 _ rfl b0 (off0 + k * 12) (by rfl) cs0 _ (fun w' hSw => HG0.out w' hSw) Tryz.underlying115 rfl HI0
      case rest4 =>
      (try simp only [Act.put, List.setIfInBounds_toArray, List.set_cons_zero, List.set_cons_succ])
      refine Goes.take (i := 4) (oi := ?oi5) (x := ?vx5) ?ho5 (by kernel_rfl) (by kernel_rfl) (by kernel_rfl) (by kernel_rfl) (fun _ _ _ h => h) (Or.inl ⟨?hw5, ?hy5⟩) (Below.drew (Below.refl _ _)) ?rest5
      case ho5 => (simp only [List.getElem?_toArray, List.getElem?_cons_succ, List.getElem?_cons_zero]; rfl)
      case hw5 => rfl
      case hy5 => (intro w' hSw; go_simp; (try with_reducible rfl))
      case rest5 =>
      (try simp only [Act.put, List.setIfInBounds_toArray, List.set_cons_zero, List.set_cons_succ])
      refine Goes.take (i := 5) (oi := ?oi6) (x := ?vx6) ?ho6 (by kernel_rfl) (by kernel_rfl) (by kernel_rfl) (by kernel_rfl) (fun _ _ _ h => h) (Or.inl ⟨?hw6, ?hy6⟩) (Below.drew (Below.refl _ _)) ?rest6
      case ho6 => (simp only [List.getElem?_toArray, List.getElem?_cons_succ, List.getElem?_cons_zero]; rfl)
      case hw6 => rfl
      case hy6 => (intro w' hSw; go_simp; (try with_reducible rfl))
      case rest6 =>
      (try simp only [Act.put, List.setIfInBounds_toArray, List.set_cons_zero, List.set_cons_succ])
      refine Goes.take (i := 6) (oi := ?oi7) (x := ?vx7) ?ho7 (by kernel_rfl) (by kernel_rfl) (by kernel_rfl) (by kernel_rfl) (fun _ _ _ h => h) (Or.inl ⟨?hw7, ?hy7⟩) (Below.drew (Below.refl _ _)) ?rest7
      case ho7 => (simp only [List.getElem?_toArray, List.getElem?_cons_succ, List.getElem?_cons_zero]; rfl)
      case hw7 => rfl
      case hy7 => (intro w' hSw; go_simp; (try with_reducible rfl))
      case rest7 =>
      (try simp only [Act.put, List.setIfInBounds_toArray, List.set_cons_zero, List.set_cons_succ])
      refine Goes.take (i := 7) (oi := ?oi8) (x := .agg cs1.toArray) ?ho8 (by kernel_rfl) (by kernel_rfl) (by kernel_rfl) (by kernel_rfl) (fun _ _ _ h => h) ?hy8 (Below.drew (Below.refl _ _)) ?rest8
      case ho8 => (simp only [List.getElem?_toArray, List.getElem?_cons_succ, List.getElem?_cons_zero]; rfl)
      case hy8 => exact yieldsIf_load_mid (by rfl) 115 _ rfl b1 (off1 + k * 12) (by rfl) cs1 _ (fun w' hSw => HG1.out w' hSw) Tryz.underlying115 rfl HI1
      case rest8 =>
      (try simp only [Act.put, List.setIfInBounds_toArray, List.set_cons_zero, List.set_cons_succ])
      refine Goes.all (rs := [8]) (by kernel_rfl) (by simp) ?_
      refine Ups.cons (i := 8) (o := ?oo50) ?ho50 (fun KK hKK => ?stp50) Ups.nil
      case ho50 => (simp only [List.getElem?_toArray, List.getElem?_cons_succ, List.getElem?_cons_zero]; rfl)
      case stp50 =>
      go_simp
      go_at_call 66
      refine (HC.out _ (Below.drew (Below.refl _ _))).mono ?_
      rintro e w1 ⟨rfl, hb1⟩
      replace hb1 := (Below.drew (Below.refl wr.heap.size wr)).trans hb1
      have HB1 : Hid (Below w.heap.size w w1) := HBl.out.trans (hb1.mono HBl.out.size)
      have HB2 : Hid (Below wr.heap.size wr w1) := hb1
      clear hb1
      dsimp only
      refine hKK.out _ _ (Or.inr HB2.out) ?_
      clear hKK KK
      (try simp only [Act.put, List.setIfInBounds_toArray, List.set_cons_zero, List.set_cons_succ])
      refine Goes.all (rs := [9]) (by kernel_rfl) (by simp) ?_
      refine Ups.cons (i := 9) (o := ?oo51) ?ho51 (fun KK hKK => ?stp51) Ups.nil
      case ho51 => (simp only [List.getElem?_toArray, List.getElem?_cons_succ, List.getElem?_cons_zero]; rfl)
      case stp51 =>
      go_simp
      refine hKK.out _ _ (Or.inr HB2.out) ?_
      clear hKK KK
      (try simp only [Act.put, List.setIfInBounds_toArray, List.set_cons_zero, List.set_cons_succ])
      refine Goes.done (by kernel_rfl) ?_ _
      refine NoPanic.normal ?_
      go_wp2_with fail
      go_roundw
      case rel => exact ⟨k + 1, by omega, by go_num, HB1.out⟩
      case measure => simp [intOf]; omega
    · obtain rfl : k = n := by omega
      go_wp2_with fail
      go_ret
      exact ⟨rfl, hbl⟩
end Go.Proofs.YtfpemobkkfobkaaGreatDoor

/- What the law's own helpers (compare, mark, hold against the marks) make of an answer that holds a segment; an answer stands as one value; no condition but that there are at most a million parts. -/
namespace Go.Proofs.YtfpemobkkfobkaaGreatDoor
open Go.RowKit
set_option linter.unusedVariables false
set_option maxRecDepth 8000

abbrev shSR : Sh := .cons (.int .i64) (.cons shSegm .nil)
abbrev DSR : Type := Int × DSegm × Unit
def totSR (x : DSR) : Nat := totSegm x.2.1
def wtSR (x : DSR) : Nat := totSegm x.2.1
def mkSegA (c : Int) : DSegm → DSegm
  | (y0, y1, y2, y3, y4, y5, y6, y7, y8, y9, y10, ld, _) => (y0, y1, y2, y3, y4, y5, y6, y7, y8, y9, y10, marks c ld.length, ())
def mkSR (c : Int) : DSR → DSR
  | (q, s, _) => (q, mkSegA c s, ())
theorem wtSR_le {x : DSR} (h : totSR x ≤ 1048576) : wtSR x ≤ 16777216 := by unfold totSR at h; unfold wtSR; omega
theorem rd_SR {w : World} {B : Nat} {q : Int} {s : DSegm} {cs : List Value} (h : shSR.Rd w B (q, s, ()) cs) : ∃ S : List Value, cs = .int .i64 q :: S ∧ S.length = 12 ∧ shSegm.Rd w B s S ∧ (Lit.int .i64 q).wf = true := by
  obtain ⟨p0, q0, e0, ⟨g0, w0⟩, p1, q1, e1, h1, hz⟩ := h
  have hz' : q1 = [] := hz
  have hl : p1.length = 12 := Sh.Rd.len _ _ _ h1
  refine ⟨p1, ?_, hl, h1, w0⟩
  rw [e0, g0, e1, hz']
  simp
theorem sr_range {w : World} {b : Nat} {N : Array Value} {q : Value} {S : List Value} (h : N.toList = q :: S) (hc : ∀ o, w.cell? ⟨b, o, none⟩ = N[o]?) : w.rangeAt b 1 S := fun j v hv => by
  rw [hc (1 + j), Nat.add_comm 1 j, get_of h, List.getElem?_cons_succ]
  exact hv
theorem info_SG : (Tryz.prog.info? 115).map (·.size) = some 12 := by kernel_rfl
theorem ow_SR {w : World} {bs : List Nat} {q : Int} {s : DSegm} {cs : List Value} (h : shSR.Ow w bs (q, s, ()) cs) :
    ∃ S : List Value, cs = .int .i64 q :: S ∧ S.length = 12 ∧ shSegm.Ow w bs s S ∧ (∀ (W : World) (s' : DSegm), shSegm.Ow W bs s' S → shSR.Ow W bs (q, s', ()) cs) := by
  obtain ⟨a0, r0, p0, q0, eb0, ec0, ⟨f0, g0, w0⟩, a1, r1, p1, q1, eb1, ec1, h1, zb, zc⟩ := h
  have eb : bs = a1 := by rw [eb0, f0, eb1, zb]; simp
  subst eb
  refine ⟨p1, ?_, Sh.Ow.len _ _ _ _ h1, h1, fun W s' k => ⟨a0, r0, p0, q0, eb0, ec0, ⟨f0, g0, w0⟩, bs, r1, p1, q1, eb1, ec1, k, zb, zc⟩⟩
  rw [ec0, g0, ec1, zc]
  simp
end Go.Proofs.YtfpemobkkfobkaaGreatDoor
