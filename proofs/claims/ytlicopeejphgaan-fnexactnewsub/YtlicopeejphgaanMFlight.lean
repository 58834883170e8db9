/- Marks laid over values of type Flight, and what is held of them; no condition but on lengths. Written by hm.py. -/
import Derived.Test.YtlicopeejphgaanRows
import Derived.Test.YtlicopeejphgaanBase
import Derived.Test.YtlicopeejphgaanBytes
import Derived.Test.YtlicopeejphgaanMem
import Derived.Test.YtlicopeejphgaanMemOpen
import Derived.Test.YtlicopeejphgaanMemRow
import Derived.Test.YtlicopeejphgaanHBase
import Derived.Test.YtlicopeejphgaanHMark
import Derived.Test.YtlicopeejphgaanHFlight
namespace Go.Proofs.Ytlicopeejphgaan
open Go.RowKit
set_option linter.unusedVariables false

theorem ow_Flight {w : World} {bs : List Nat} {x : DFlight} {cs : List Value} (h : shFlight.Ow w bs x cs) : ∃ v, cs = [.int .i64 x.1, .int .i64 x.2.1, v, .int .i64 x.2.2.2.1, .int .i64 x.2.2.2.2.1] ∧ u8s.Ow w bs x.2.2.1 [v] ∧ (Lit.int .i64 x.1).wf = true ∧ (Lit.int .i64 x.2.1).wf = true ∧ (Lit.int .i64 x.2.2.2.1).wf = true ∧ (Lit.int .i64 x.2.2.2.2.1).wf = true := by
  obtain ⟨a0, r0, p0, q0, eb0, ec0, ⟨f0, g0, w0⟩, a1, r1, p1, q1, eb1, ec1, ⟨f1, g1, w1⟩, a2, r2, p2, q2, eb2, ec2, h2, a3, r3, p3, q3, eb3, ec3, ⟨f3, g3, w3⟩, a4, r4, p4, q4, eb4, ec4, ⟨f4, g4, w4⟩, zb, zc⟩ := h
  have l := Sh.Ow.len _ _ _ _ h2
  replace l : p2.length = 1 := l
  match p2, l, h2 with
  | [v], _, h2 =>
    have hb : bs = a2 := by rw [eb0, f0, eb1, f1, eb2, eb3, f3, eb4, f4, zb]; simp
    refine ⟨v, by rw [ec0, g0, ec1, g1, ec2, ec3, g3, ec4, g4, zc]; rfl, by rw [hb]; exact h2, w0, w1, w3, w4⟩
theorem mk_Flight {w : World} {bs : List Nat} {y0 y1 y3 y4 : Int} {d : List Int} {v : Value} (h : u8s.Ow w bs d [v]) (w0 : (Lit.int .i64 y0).wf = true) (w1 : (Lit.int .i64 y1).wf = true) (w3 : (Lit.int .i64 y3).wf = true) (w4 : (Lit.int .i64 y4).wf = true) : shFlight.Ow w bs (y0, y1, d, y3, y4, ()) [.int .i64 y0, .int .i64 y1, v, .int .i64 y3, .int .i64 y4] :=
  ⟨[], bs, [.int .i64 y0], [.int .i64 y1, v, .int .i64 y3, .int .i64 y4], rfl, rfl, ⟨rfl, rfl, w0⟩, ⟨[], bs, [.int .i64 y1], [v, .int .i64 y3, .int .i64 y4], rfl, rfl, ⟨rfl, rfl, w1⟩, ⟨bs, [], [v], [.int .i64 y3, .int .i64 y4], by simp, rfl, h, ⟨[], [], [.int .i64 y3], [.int .i64 y4], rfl, rfl, ⟨rfl, rfl, w3⟩, ⟨[], [], [.int .i64 y4], [], rfl, rfl, ⟨rfl, rfl, w4⟩, ⟨rfl, rfl⟩⟩⟩⟩⟩⟩

def wtFlight (x : DFlight) : Nat := 4 + x.2.2.1.length
def mkFlight (c : Int) (x : DFlight) : DFlight := (c, c + 1, marks (c + 1 + 1) x.2.2.1.length, c + 1 + 1 + (x.2.2.1.length : Nat), c + 1 + 1 + (x.2.2.1.length : Nat) + 1, ())
theorem wtFlight_sum (l : List DFlight) : fsum wtFlight l = 4 * l.length + fsum totFlight l := fsum_add 4 totFlight l

set_option maxHeartbeats 4000000 in
theorem lMarkFlights (l : List DFlight) (v : Value) (c : Int) (w : World) (bs : List Nat) (ho : shFlights.Ow w bs l [v]) (hnd : bs.Nodup) (hT : fsum wtFlight l ≤ 1073741824) (hc0 : 0 ≤ c) (hc1 : c ≤ 549755813888) :
    Calls Try.prog 110 #[v, .int .i64 c] w fun e w' => e = .returned (.int .i64 (c + (fsum wtFlight l : Nat))) ∧ shFlights.Ow w' bs (mkL mkFlight wtFlight c l) [v] ∧ Touch bs w w' := by
  obtain ⟨a, cap, ev⟩ := row_form (Sh.Ow.rd (Nat.le_refl _) _ _ _ _ ho)
  simp only [List.cons.injEq, and_true] at ev
  subst ev
  have HND : Hid _ := hnd
  have HT : Hid (∀ k, fsum wtFlight (l.take k) ≤ 1073741824) := fun k => by have := fsum_le (f := wtFlight) l k; omega
  have hn2 : l.length ≤ 1073741824 := by rw [wtFlight_sum] at hT; omega
  obtain ⟨N, hN⟩ : ∃ n, l.length = n := ⟨_, rfl⟩
  rw [hN] at ho hn2 ⊢
  have HN : Hid (l.length = N) := hN
  have H0 : Hid (shFlights.Ow w bs (mkL mkFlight wtFlight c (l.take 0) ++ l.drop 0) [.slice a N cap]) := by
    show shFlights.Ow w bs _ _
    simpa [mkL] using ho
  clear hnd ho hN hT
  go_enter Try.func110, Try.ntmps110
  go_wp2_with fail
  go_loopw [1, 5] (fun t i wr => ∃ (k : Nat) (x : Int), k ≤ N ∧ i = .int .i64 k ∧ t = .int .i64 x ∧ Hid (x = c + (fsum wtFlight (l.take k) : Nat)) ∧ 0 ≤ x ∧ x ≤ 1099511627776 ∧ Hid (shFlights.Ow wr bs (mkL mkFlight wtFlight c (l.take k) ++ l.drop k) [.slice a N cap]) ∧ Hid (Touch bs w wr)) (fun _ i _ => N - (intOf i).toNat)
  case atStart => exact ⟨0, c, Nat.zero_le _, rfl, rfl, (by simp [fsum] : c = c + (fsum wtFlight (l.take 0) : Nat)), hc0, by omega, H0, Touch.refl _ _⟩
  case round =>
    obtain ⟨k, x, hk, rfl, rfl, hx, hx0, hx1, HO, HW⟩ := hrel
    clear H0
    by_cases hlt : k < N
    · have hkp : k < l.length := by have := HN.out; omega
      have hlen : (mkL mkFlight wtFlight c (l.take k)).length = k := by rw [mkL_length]; simp; omega
      have hkl : k < (mkL mkFlight wtFlight c (l.take k) ++ l.drop k).length := by simp [hlen]; omega
      have hel : (mkL mkFlight wtFlight c (l.take k) ++ l.drop k)[k] = l[k] := by
        rw [List.getElem_append_right (by omega)]
        simp [hlen]
      obtain ⟨pg, cur, bk, ea, g1, g2, g3, g4, g5, g6, UPD⟩ := ow_elem HO.out HND.out k hkl
      subst ea
      rw [hel] at g5
      obtain ⟨v, ec, hK, wf0, wf1, wf3, wf4⟩ := ow_Flight g5
      obtain ⟨va, vc, ev⟩ := row_form (Sh.Ow.rd (Nat.le_refl _) _ _ _ _ hK)
      simp only [List.cons.injEq, and_true] at ev
      subst ev
      have hpt := fsum_take (f := wtFlight) hkp
      have hle := HT.out (k + 1)
      have hwt : wtFlight l[k] = 4 + l[k].2.2.1.length := rfl
      have HST : Hid ((mkL mkFlight wtFlight c (l.take k) ++ l.drop k).set k (mkFlight x l[k]) = mkL mkFlight wtFlight c (l.take (k + 1)) ++ l.drop (k + 1)) := by
        show _ = _
        rw [hx.out]; exact mkL_step c hkp
      have HX2 : Hid (x + 1 + 1 + (l[k].2.2.1.length : Int) + 1 + 1 = c + (fsum wtFlight (l.take (k + 1)) : Nat)) := by have := hx.out; show _ = _; omega
      have hxx : x + 1 + 1 + (l[k].2.2.1.length : Int) + 1 + 1 ≤ 1099511627776 := by have := hx.out; omega
      have hdl : l[k].2.2.1.length ≤ 1073741824 := by omega
      replace hK : u8s.Ow wr bk l[k].2.2.1 [.slice va l[k].2.2.1.length vc] := hK
      have c0 : wr.cell? ⟨pg, k * 5, none⟩ = some (.int .i64 l[k].1) := by
        have h := congrArg (fun l => l[0]?) ec
        replace h : (chunk cur.toList 5 k)[0]? = _ := h
        rw [chunk_get (by decide)] at h
        rw [cell_of_heap g2, ← Array.getElem?_toList]; simpa using h
      have c1 : wr.cell? ⟨pg, k * 5 + 1, none⟩ = some (.int .i64 l[k].2.1) := by
        have h := congrArg (fun l => l[1]?) ec
        replace h : (chunk cur.toList 5 k)[1]? = _ := h
        rw [chunk_get (by decide)] at h
        rw [cell_of_heap g2, ← Array.getElem?_toList]; simpa using h
      have c2 : wr.cell? ⟨pg, k * 5 + 2, none⟩ = some (.slice va l[k].2.2.1.length vc) := by
        have h := congrArg (fun l => l[2]?) ec
        replace h : (chunk cur.toList 5 k)[2]? = _ := h
        rw [chunk_get (by decide)] at h
        rw [cell_of_heap g2, ← Array.getElem?_toList]; simpa using h
      have c3 : wr.cell? ⟨pg, k * 5 + 3, none⟩ = some (.int .i64 l[k].2.2.2.1) := by
        have h := congrArg (fun l => l[3]?) ec
        replace h : (chunk cur.toList 5 k)[3]? = _ := h
        rw [chunk_get (by decide)] at h
        rw [cell_of_heap g2, ← Array.getElem?_toList]; simpa using h
      have c4 : wr.cell? ⟨pg, k * 5 + 4, none⟩ = some (.int .i64 l[k].2.2.2.2.1) := by
        have h := congrArg (fun l => l[4]?) ec
        replace h : (chunk cur.toList 5 k)[4]? = _ := h
        rw [chunk_get (by decide)] at h
        rw [cell_of_heap g2, ← Array.getElem?_toList]; simpa using h
      have fz : ∀ o, wr.frozen? ⟨pg, o, none⟩ = false := fun o => by simp [World.frozen?, g2]
      have fz0 := fz (k * 5)
      have fz1 := fz (k * 5 + 1)
      have hs1 : (wr.setCell ⟨pg, k * 5, none⟩ (.int .i64 x)).cell? ⟨pg, k * 5 + 1, none⟩ = some (.int .i64 l[k].2.1) := by rw [World.cell?_setCell_other _ _ _ _ (by simp)]; exact c1
      have hf1 : (wr.setCell ⟨pg, k * 5, none⟩ (.int .i64 x)).frozen? ⟨pg, k * 5 + 1, none⟩ = false := by simp only [World.frozen?_setCell]; exact fz1
      have ck : ((wr.setCell ⟨pg, k * 5, none⟩ (.int .i64 x)).setCell ⟨pg, k * 5 + 1, none⟩ (.int .i64 (x + 1))).cell? ⟨pg, k * 5 + 2, none⟩ = some (.slice va l[k].2.2.1.length vc) := by rw [World.cell?_setCell_other _ _ _ _ (by simp), World.cell?_setCell_other _ _ _ _ (by simp)]; exact c2
      have HA : Hid (((wr.setCell ⟨pg, k * 5, none⟩ (.int .i64 x)).setCell ⟨pg, k * 5 + 1, none⟩ (.int .i64 (x + 1))).heap[pg]? = some (.cells ((cur.setIfInBounds (k * 5 + 0) (.int .i64 (x))).setIfInBounds (k * 5 + 1) (.int .i64 (x + 1))) 123 (0, 0))) := heap_set (heap_set (g2))
      have HKa : Hid (u8s.Ow ((wr.setCell ⟨pg, k * 5, none⟩ (.int .i64 x)).setCell ⟨pg, k * 5 + 1, none⟩ (.int .i64 (x + 1))) bk l[k].2.2.1 [.slice va l[k].2.2.1.length vc]) := Sh.Ow.keep _ _ _ _ (fun b hb => by repeat rw [Below.heap_setCell _ _ _ _ (by dsimp only; exact (g6 b hb).2)]) hK
      have HWa : Hid (Touch bs w ((wr.setCell ⟨pg, k * 5, none⟩ (.int .i64 x)).setCell ⟨pg, k * 5 + 1, none⟩ (.int .i64 (x + 1)))) := Touch.trans (Touch.trans (HW.out) (Touch.grown grown_set (fun y e => by simp at e; exact e ▸ g1))) (Touch.grown grown_set (fun y e => by simp at e; exact e ▸ g1))
      have HSa : Hid (∀ b, b ≠ pg → ((wr.setCell ⟨pg, k * 5, none⟩ (.int .i64 x)).setCell ⟨pg, k * 5 + 1, none⟩ (.int .i64 (x + 1))).heap[b]? = wr.heap[b]?) := fun b hb => by repeat rw [Below.heap_setCell _ _ _ _ (by dsimp only; exact hb)]
      have HPG : Hid (pg ∉ bk) := fun h => (g6 pg h).2 rfl
      have HG1 : Hid _ := g1
      have HG6 : Hid _ := g6
      have HBK : Hid _ := g4
      have HPL : Hid (pg < ((wr.setCell ⟨pg, k * 5, none⟩ (.int .i64 x)).setCell ⟨pg, k * 5 + 1, none⟩ (.int .i64 (x + 1))).heap.size) := by show _ < _; have := heap_lt g2; simpa using this
      have HBL : Hid (∀ b ∈ bs, b < wr.heap.size) := Sh.Ow.lt _ _ _ _ HO.out
      have HSZ : Hid (((wr.setCell ⟨pg, k * 5, none⟩ (.int .i64 x)).setCell ⟨pg, k * 5 + 1, none⟩ (.int .i64 (x + 1))).heap.size = wr.heap.size) := by show _ = _; simp
      have HEC : Hid (chunk cur.toList 5 k = _) := ec
      have HG3 : Hid (k * 5 + 5 ≤ cur.size) := g3
      have HU : Hid _ := UPD
      have HME : Hid (mkFlight x l[k] = (x, x + 1, marks (x + 1 + 1) l[k].2.2.1.length, x + 1 + 1 + (l[k].2.2.1.length : Nat), x + 1 + 1 + (l[k].2.2.1.length : Nat) + 1, ())) := rfl
      rw [HME.out] at HST
      clear UPD hel ec hK HME g1 g2 g3 g4 g5 g6 hpt hle hwt hlen hkl HO HW wf0 wf1 wf3 wf4
      generalize l[k].1 = z0 at *
      generalize l[k].2.1 = z1 at *
      generalize l[k].2.2.2.1 = z3 at *
      generalize l[k].2.2.2.2.1 = z4 at *
      generalize l[k].2.2.1 = d at *
      generalize hn : d.length = n at *
      have HD : Hid (d.length = n) := hn
      clear hn
      go_wp2_with fail
      refine (lMarkBytesW d _ (x + 1 + 1) _ bk HKa.out HBK.out (by have := HD.out; omega) (by omega) (by omega)).mono ?_
      rintro e w1 ⟨rfl, ho1, ht1⟩
      rw [HD.out] at ho1 ⊢
      have HB1 : Hid (w1.heap[pg]? = some (.cells ((cur.setIfInBounds (k * 5 + 0) (.int .i64 (x))).setIfInBounds (k * 5 + 1) (.int .i64 (x + 1))) 123 (0, 0))) := by show _ = _; rw [ht1.block pg HPL.out HPG.out]; exact HA.out
      have d_ : ∀ o, w1.cell? ⟨pg, o, none⟩ = ((wr.setCell ⟨pg, k * 5, none⟩ (.int .i64 x)).setCell ⟨pg, k * 5 + 1, none⟩ (.int .i64 (x + 1))).cell? ⟨pg, o, none⟩ := fun o => World.cell?_of_block (w := ((wr.setCell ⟨pg, k * 5, none⟩ (.int .i64 x)).setCell ⟨pg, k * 5 + 1, none⟩ (.int .i64 (x + 1)))) (a := ⟨pg, o, none⟩) (ht1.block pg HPL.out HPG.out)
      have fy : ∀ o, w1.frozen? ⟨pg, o, none⟩ = false := fun o => by simp [World.frozen?, HB1.out]
      have e3 : w1.cell? ⟨pg, k * 5 + 3, none⟩ = some (.int .i64 z3) := by rw [d_ (k * 5 + 3), World.cell?_setCell_other _ _ _ _ (by simp), World.cell?_setCell_other _ _ _ _ (by simp)]; exact c3
      have fy3 := fy (k * 5 + 3)
      have e4 : w1.cell? ⟨pg, k * 5 + 4, none⟩ = some (.int .i64 z4) := by rw [d_ (k * 5 + 4), World.cell?_setCell_other _ _ _ _ (by simp), World.cell?_setCell_other _ _ _ _ (by simp)]; exact c4
      have fy4 := fy (k * 5 + 4)
      have es4 : (w1.setCell ⟨pg, k * 5 + 3, none⟩ (.int .i64 (x + 1 + 1 + (n : Int)))).cell? ⟨pg, k * 5 + 4, none⟩ = some (.int .i64 z4) := by rw [World.cell?_setCell_other _ _ _ _ (by simp)]; exact e4
      have ef4 : (w1.setCell ⟨pg, k * 5 + 3, none⟩ (.int .i64 (x + 1 + 1 + (n : Int)))).frozen? ⟨pg, k * 5 + 4, none⟩ = false := by simp only [World.frozen?_setCell]; exact fy4
      have HF : Hid (shFlights.Ow ((w1.setCell ⟨pg, k * 5 + 3, none⟩ (.int .i64 (x + 1 + 1 + (n : Int)))).setCell ⟨pg, k * 5 + 4, none⟩ (.int .i64 (x + 1 + 1 + (n : Int) + 1))) bs ((mkL mkFlight wtFlight c (l.take k) ++ l.drop k).set k (x, x + 1, marks (x + 1 + 1) n, x + 1 + 1 + (n : Nat), x + 1 + 1 + (n : Nat) + 1, ())) [.slice (some ⟨pg, 0, none⟩) N cap]) := by
        refine HU.out _ ((((cur.setIfInBounds (k * 5 + 0) (.int .i64 (x))).setIfInBounds (k * 5 + 1) (.int .i64 (x + 1))).setIfInBounds (k * 5 + 3) (.int .i64 (x + 1 + 1 + (n : Int)))).setIfInBounds (k * 5 + 4) (.int .i64 (x + 1 + 1 + (n : Int) + 1))) _ (heap_set (heap_set (HB1.out))) (by simp) (fun i hi => ?_) ?_ (fun b hb h1 h2 => ?_)
        · show chunk _ 5 i = chunk _ 5 i
          rw [chunk_set1 (sz := 5) (k := k) (by decide) (by have := HG3.out; simp; omega), if_neg hi, chunk_set1 (sz := 5) (k := k) (by decide) (by have := HG3.out; simp; omega), if_neg hi, chunk_set1 (sz := 5) (k := k) (by decide) (by have := HG3.out; simp; omega), if_neg hi, chunk_set1 (sz := 5) (k := k) (by decide) (by have := HG3.out; simp; omega), if_neg hi]
        · show shFlight.Ow _ bk _ (chunk _ 5 k)
          rw [chunk_set1 (sz := 5) (k := k) (by decide) (by have := HG3.out; simp; omega), if_pos rfl, chunk_set1 (sz := 5) (k := k) (by decide) (by have := HG3.out; simp; omega), if_pos rfl, chunk_set1 (sz := 5) (k := k) (by decide) (by have := HG3.out; simp; omega), if_pos rfl, chunk_set1 (sz := 5) (k := k) (by decide) (by have := HG3.out; simp; omega), if_pos rfl, HEC.out]
          refine mk_Flight (Sh.Ow.keep _ _ _ _ (fun b hb => by repeat rw [Below.heap_setCell _ _ _ _ (by dsimp only; exact (HG6.out b hb).2)]) ho1) (WalkArith.wf_i64 (by omega)) (WalkArith.wf_i64 (by omega)) (WalkArith.wf_i64 (by omega)) (WalkArith.wf_i64 (by omega))
        · repeat rw [Below.heap_setCell _ _ _ _ (by dsimp only; exact h1)]
          rw [ht1.block b (by rw [HSZ.out]; exact HBL.out b hb) h2]
          exact HSa.out b h1
      have HWb : Hid (Touch bs w ((w1.setCell ⟨pg, k * 5 + 3, none⟩ (.int .i64 (x + 1 + 1 + (n : Int)))).setCell ⟨pg, k * 5 + 4, none⟩ (.int .i64 (x + 1 + 1 + (n : Int) + 1)))) := Touch.trans (Touch.trans (Touch.trans HWa.out (Touch.mono ht1 fun y hy => (HG6.out y hy).1)) (Touch.grown grown_set (fun y e => by simp at e; exact e ▸ HG1.out))) (Touch.grown grown_set (fun y e => by simp at e; exact e ▸ HG1.out))
      clear ho1 ht1 d_ fy
      go_wp2_with fail
      go_roundw
      case rel => exact ⟨k + 1, x + 1 + 1 + (n : Int) + 1 + 1, by omega, by go_num, rfl, HX2, by omega, hxx, (by show shFlights.Ow _ bs _ _; rw [← HST.out]; exact HF.out), HWb⟩
      case measure => simp [intOf]; omega
    · obtain rfl : k = N := by omega
      go_wp2_with fail
      go_ret
      refine ⟨ret_int (by have := hx.out; rw [← HN.out, List.take_length] at this; exact this), ?_, HW.out⟩
      have h := HO.out
      rw [← HN.out, List.take_length, List.drop_length, List.append_nil] at h
      rw [← HN.out]; exact h

set_option maxHeartbeats 4000000 in
theorem lHeldFlights (l : List DFlight) (v : Value) (c : Int) (w : World) (B : Nat) (hr : shFlights.Rd w B (mkL mkFlight wtFlight c l) [v]) (hT : fsum wtFlight l ≤ 1073741824) (hc0 : 0 ≤ c) (hc1 : c ≤ 549755813888) :
    Calls Try.prog 111 #[v, .int .i64 c] w fun e w' => e = .returned (.int .i64 (c + (fsum wtFlight l : Nat))) ∧ w' = w := by
  obtain ⟨a, cap, ev⟩ := row_form hr
  rw [mkL_length] at ev
  simp only [List.cons.injEq, and_true] at ev
  subst ev
  have HT : Hid (∀ k, fsum wtFlight (l.take k) ≤ 1073741824) := fun k => by have := fsum_le (f := wtFlight) l k; omega
  have hn2 : l.length ≤ 1073741824 := by rw [wtFlight_sum] at hT; omega
  obtain ⟨N, hN⟩ : ∃ n, l.length = n := ⟨_, rfl⟩
  rw [hN] at hr hn2 ⊢
  have HN : Hid (l.length = N) := hN
  have HR : Hid (shFlights.Rd w B (mkL mkFlight wtFlight c l) [.slice a N cap]) := hr
  clear hr hN hT
  go_enter Try.func111, Try.ntmps111
  go_wp2_with fail
  go_loopw [1, 5] (fun t i wr => ∃ (k : Nat) (x : Int), k ≤ N ∧ i = .int .i64 k ∧ t = .int .i64 x ∧ Hid (x = c + (fsum wtFlight (l.take k) : Nat)) ∧ 0 ≤ x ∧ x ≤ 1099511627776 ∧ wr = w) (fun _ i _ => N - (intOf i).toNat)
  case atStart => exact ⟨0, c, Nat.zero_le _, rfl, rfl, (by simp [fsum] : c = c + (fsum wtFlight (l.take 0) : Nat)), hc0, by omega, rfl⟩
  case round =>
    obtain ⟨k, x, hk, rfl, rfl, hx, hx0, hx1, hw⟩ := hrel
    subst hw
    by_cases hlt : k < N
    · have hkp : k < l.length := by have := HN.out; omega
      have hkl : k < (mkL mkFlight wtFlight c l).length := by rw [mkL_length]; exact hkp
      obtain ⟨b, off, v, ha, hb, c0, c1, c2, c3, c4, r3⟩ := at_Flights HR.out k hkl
      subst ha
      have hel := mkL_at (mk := mkFlight) (wt := wtFlight) c hkp hkl
      rw [← hx.out] at hel
      rw [hel] at c0 c1 c3 c4 r3
      obtain ⟨vv, ev, rk, -⟩ := rd_Flight r3
      simp only [List.cons.injEq, and_true, true_and] at ev
      subst ev
      have hpt := fsum_take (f := wtFlight) hkp
      have hle := HT.out (k + 1)
      have hwt : wtFlight l[k] = 4 + l[k].2.2.1.length := rfl
      have HX2 : Hid (x + 1 + 1 + (l[k].2.2.1.length : Int) + 1 + 1 = c + (fsum wtFlight (l.take (k + 1)) : Nat)) := by have := hx.out; show _ = _; omega
      have hxx : x + 1 + 1 + (l[k].2.2.1.length : Int) + 1 + 1 ≤ 1099511627776 := by have := hx.out; omega
      have hdl : l[k].2.2.1.length ≤ 1073741824 := by omega
      replace c0 : wr.cell? ⟨b, off + k * 5, none⟩ = some (.int .i64 (x)) := c0
      replace c1 : wr.cell? ⟨b, off + k * 5 + 1, none⟩ = some (.int .i64 (x + 1)) := c1
      replace c3 : wr.cell? ⟨b, off + k * 5 + 3, none⟩ = some (.int .i64 (x + 1 + 1 + (l[k].2.2.1.length : Int))) := c3
      replace c4 : wr.cell? ⟨b, off + k * 5 + 4, none⟩ = some (.int .i64 (x + 1 + 1 + (l[k].2.2.1.length : Int) + 1)) := c4
      replace rk : u8s.Rd wr B (marks (x + 1 + 1) l[k].2.2.1.length) [v] := rk
      obtain ⟨va, vc, ev2⟩ := row_form rk
      rw [marks_length] at ev2
      simp only [List.cons.injEq, and_true] at ev2
      subst ev2
      have HRK : Hid _ := rk
      clear r3 rk hel hpt hle hwt hkl hx
      generalize l[k].2.2.1 = d at *
      generalize hn : d.length = n at *
      have HD : Hid (d.length = n) := hn
      clear hn
      have hpos : 0 ≤ x + 1 + 1 + (n : Int) := by omega
      go_wp2_with fail
      refine (lHeldBytesW d _ (x + 1 + 1) _ B (by rw [HD.out]; exact HRK.out) (by have := HD.out; omega) (by omega) (by omega)).mono ?_
      rintro e w1 ⟨rfl, hw⟩
      subst hw
      rw [HD.out]
      go_wp2_with fail
      go_roundw
      case rel => exact ⟨k + 1, x + 1 + 1 + (n : Int) + 1 + 1, by omega, by go_num, rfl, HX2, by omega, hxx, by first | rfl | trivial⟩
      case measure => simp [intOf]; omega
    · obtain rfl : k = N := by omega
      go_wp2_with fail
      go_ret
      exact ⟨ret_int (by have := hx.out; rw [← HN.out, List.take_length] at this; exact this), rfl⟩
end Go.Proofs.Ytlicopeejphgaan
