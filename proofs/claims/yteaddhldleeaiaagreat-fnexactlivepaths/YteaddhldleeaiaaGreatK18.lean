/- Marks over a row of subs of the call's own; no condition but that there are at most a million parts. Written by mkm.py. -/
import Derived.Test.YteaddhldleeaiaaGreatRows
import Derived.Deep.DeepCutAuto
import Derived.Deep.RegionHeld3
import Derived.Test.YteaddhldleeaiaaGreatK01
import Derived.Test.YteaddhldleeaiaaGreatK02
import Derived.Test.YteaddhldleeaiaaGreatK03
import Derived.Test.YteaddhldleeaiaaGreatK04
import Derived.Test.YteaddhldleeaiaaGreatK10
import Derived.Test.YteaddhldleeaiaaGreatK17
namespace Go.Proofs.YteaddhldleeaiaaGreat
open Go.RowKit
set_option linter.unusedVariables false
set_option maxRecDepth 8000

abbrev shSubsO : Sh := .row 75 shSubO
def wtSubE : DSub → Nat
  | (y0, y1, y2, y3, y4, y5, (y6, y7, y8, fl, _), (y10, y11, sp, _), (y13, y14, y15, _), _) => 14 + (fsum wtFlight fl + fsum wtSpan sp)
def mkSubE (c : Int) : DSub → DSub
  | (y0, y1, y2, y3, y4, y5, (y6, y7, y8, fl, _), (y10, y11, sp, _), (y13, y14, y15, _), _) => ((c), (c + 1), (((c + 1 + 1) % 3 == 0)), (c + 1 + 1 + 1), (c + 1 + 1 + 1 + 1), (c + 1 + 1 + 1 + 1 + 1), ((c + 1 + 1 + 1 + 1 + 1 + 1), (c + 1 + 1 + 1 + 1 + 1 + 1 + 1), (c + 1 + 1 + 1 + 1 + 1 + 1 + 1 + 1), (mkL mkFlight wtFlight (c + 1 + 1 + 1 + 1 + 1 + 1 + 1 + 1 + 1) fl), ()), ((c + 1 + 1 + 1 + 1 + 1 + 1 + 1 + 1 + 1 + ((fsum wtFlight fl : Nat) : Int)), (c + 1 + 1 + 1 + 1 + 1 + 1 + 1 + 1 + 1 + ((fsum wtFlight fl : Nat) : Int) + 1), (mkL mkSpan wtSpan (c + 1 + 1 + 1 + 1 + 1 + 1 + 1 + 1 + 1 + ((fsum wtFlight fl : Nat) : Int) + 1 + 1) sp), ()), ((c + 1 + 1 + 1 + 1 + 1 + 1 + 1 + 1 + 1 + ((fsum wtFlight fl : Nat) : Int) + 1 + 1 + ((fsum wtSpan sp : Nat) : Int)), (c + 1 + 1 + 1 + 1 + 1 + 1 + 1 + 1 + 1 + ((fsum wtFlight fl : Nat) : Int) + 1 + 1 + ((fsum wtSpan sp : Nat) : Int) + 1), (c + 1 + 1 + 1 + 1 + 1 + 1 + 1 + 1 + 1 + ((fsum wtFlight fl : Nat) : Int) + 1 + 1 + ((fsum wtSpan sp : Nat) : Int) + 1 + 1), ()), ())
set_option maxHeartbeats 4000000 in
theorem lMarkSubs (l : List DSub) (v : Value) (c : Int) (w : World) (bs : List Nat) (ho : shSubsO.Ow w bs l [v]) (hnd : bs.Nodup) (hT : fsum wtSubE l ≤ 536870912) (hn2 : l.length ≤ 1048576) (hc0 : 0 ≤ c) (hc1 : c ≤ 536870912) :
    Calls Tryz.prog 61 #[v, .int .i64 c] w fun e w' => e = .returned (.int .i64 (c + (fsum wtSubE l : Nat))) ∧ shSubsO.Ow w' bs (mkL mkSubE wtSubE c l) [v] ∧ Touch bs w w' := by
  obtain ⟨a, cap, ev⟩ := row_form (Sh.Ow.rd (Nat.le_refl _) _ _ _ _ ho)
  simp only [List.cons.injEq, and_true] at ev
  subst ev
  have HND : Hid _ := hnd
  have HT : Hid (∀ k, fsum wtSubE (l.take k) ≤ 536870912) := fun k => by have := fsum_le (f := wtSubE) l k; omega
  obtain ⟨N, hN⟩ : ∃ n, l.length = n := ⟨_, rfl⟩
  rw [hN] at ho hn2 ⊢
  have HN : Hid (l.length = N) := hN
  have H0 : Hid (shSubsO.Ow w bs (mkL mkSubE wtSubE c (l.take 0) ++ l.drop 0) [.slice a N cap]) := by
    show shSubsO.Ow w bs _ _
    simpa [mkL] using ho
  clear hnd ho hN hT
  go_enter Tryz.func61, Tryz.ntmps61
  go_wp2_with fail
  go_loopw [1, 5] (fun t i wr => ∃ (k : Nat) (x : Int), k ≤ N ∧ i = .int .i64 k ∧ t = .int .i64 x ∧ Hid (x = c + (fsum wtSubE (l.take k) : Nat)) ∧ 0 ≤ x ∧ x ≤ 1073741824 ∧ Hid (shSubsO.Ow wr bs (mkL mkSubE wtSubE c (l.take k) ++ l.drop k) [.slice a N cap]) ∧ Hid (Touch bs w wr)) (fun _ i _ => N - (intOf i).toNat)
  case atStart => exact ⟨0, c, Nat.zero_le _, rfl, rfl, (by simp [fsum] : c = c + (fsum wtSubE (l.take 0) : Nat)), hc0, by omega, H0, Touch.refl _ _⟩
  case round =>
    obtain ⟨k, x, hk, rfl, rfl, hx, hx0, hx1, HO, HW⟩ := hrel
    clear H0
    by_cases hlt : k < N
    · have hkp : k < l.length := by have := HN.out; omega
      have hlen : (mkL mkSubE wtSubE c (l.take k)).length = k := by rw [mkL_length]; simp; omega
      have hkl : k < (mkL mkSubE wtSubE c (l.take k) ++ l.drop k).length := by simp [hlen]; omega
      have hel : (mkL mkSubE wtSubE c (l.take k) ++ l.drop k)[k] = l[k] := by
        rw [List.getElem_append_right (by omega)]
        simp [hlen]
      obtain ⟨pg, cur, bk, ea, g1, g2, g3, g4, g5, g6, UPD⟩ := ow_elem HO.out HND.out k hkl
      subst ea
      rw [hel] at g5
      have hpt := fsum_take (f := wtSubE) hkp
      have hle := HT.out (k + 1)
      have HST : Hid ((mkL mkSubE wtSubE c (l.take k) ++ l.drop k).set k (mkSubE x l[k]) = mkL mkSubE wtSubE c (l.take (k + 1)) ++ l.drop (k + 1)) := by
        show _ = _
        rw [hx.out]; exact mkL_step c hkp
      have HX2 : Hid (x + (wtSubE l[k] : Nat) = c + (fsum wtSubE (l.take (k + 1)) : Nat)) := by have := hx.out; show _ = _; omega
      have hxx : x + (wtSubE l[k] : Nat) ≤ 1073741824 := by have := hx.out; omega
      have HBL : Hid (∀ b ∈ bs, b < wr.heap.size) := Sh.Ow.lt _ _ _ _ HO.out
      generalize l[k] = X at *
      obtain ⟨y0, y1, y2, y3, y4, y5, ⟨y6, y7, y8, fl, ⟨⟩⟩, ⟨y10, y11, sp, ⟨⟩⟩, ⟨y13, y14, y15, ⟨⟩⟩, ⟨⟩⟩ := X
      have hwt : wtSubE (y0, y1, y2, y3, y4, y5, (y6, y7, y8, fl, PUnit.unit), (y10, y11, sp, PUnit.unit), (y13, y14, y15, PUnit.unit), PUnit.unit) = 14 + (fsum wtFlight fl + fsum wtSpan sp) := rfl
      obtain ⟨b1, b2, u, v, eb, ec, hs, hc, -⟩ := ow_Sub g5
      subst eb
      obtain ⟨u2, eu, hf, -⟩ := ow_Sender hs
      simp only [List.cons.injEq, and_true, true_and] at eu
      subst eu
      obtain ⟨v2, ev, hp, -⟩ := ow_Catch hc
      simp only [List.cons.injEq, and_true, true_and] at ev
      subst ev
      obtain ⟨fla, flc, e1⟩ := row_form (Sh.Ow.rd (Nat.le_refl _) _ _ _ _ hf)
      simp only [List.cons.injEq, and_true] at e1
      subst e1
      obtain ⟨spa, spc, e1⟩ := row_formO (Sh.Ow.rd (Nat.le_refl _) _ _ _ _ hp)
      simp only [List.cons.injEq, and_true] at e1
      subst e1
      replace hf : shFlights.Ow wr b1 fl [.slice fla fl.length flc] := hf
      replace hp : shSpansO.Ow wr b2 sp [.slice spa sp.length spc] := hp
      replace ec : chunk cur.toList 16 k = [.int .i64 y0, .int .i64 y1, .bool y2, .int .i64 y3, .int .i64 y4, .int .i64 y5, .int .i64 y6, .int .i64 y7, .int .i64 y8, .slice fla fl.length flc, .int .i64 y10, .int .i64 y11, .slice spa sp.length spc, .int .i64 y13, .int .i64 y14, .int .i64 y15] := ec
      replace g3 : k * 16 + 16 ≤ cur.size := g3
      have E0 : El wr pg 75 16 k cur [.int .i64 y0, .int .i64 y1, .bool y2, .int .i64 y3, .int .i64 y4, .int .i64 y5, .int .i64 y6, .int .i64 y7, .int .i64 y8, .slice fla fl.length flc, .int .i64 y10, .int .i64 y11, .slice spa sp.length spc, .int .i64 y13, .int .i64 y14, .int .i64 y15] := El.of g2 ec
      obtain ⟨nd1, nd2, hdis⟩ := List.nodup_append.1 g4
      have hp1 : pg ∉ b1 := fun h => (g6 pg (List.mem_append_left _ h)).2 rfl
      have hp2 : pg ∉ b2 := fun h => (g6 pg (List.mem_append_right _ h)).2 rfl
      have hd2 : ∀ b ∈ b2, b ∉ b1 := fun b hb hb' => hdis b hb' b hb rfl
      have hlp : pg < wr.heap.size := heap_lt g2
      have hq1 : fsum wtFlight fl ≤ 536870912 := by omega
      have hq2 : fsum wtSpan sp ≤ 536870912 := by omega
      have HF : Hid (∀ W (z : Int), (∀ b, b ≠ pg → W.heap[b]? = wr.heap[b]?) → 0 ≤ z → z ≤ 549755813888 → Calls Tryz.prog 82 #[.slice fla fl.length flc, .int .i64 z] W fun e w' => e = .returned (.int .i64 (z + (fsum wtFlight fl : Nat))) ∧ shFlights.Ow w' b1 (mkL mkFlight wtFlight z fl) [.slice fla fl.length flc] ∧ Touch b1 W w') := fun W z hW h0 h1 => lMarkFlights fl _ z W b1 (Sh.Ow.keep _ _ _ _ (fun b hb => hW b (fun e => hp1 (e ▸ hb))) hf) nd1 (by omega) h0 h1
      have HP : Hid (∀ W (z : Int), (∀ b ∈ b2, W.heap[b]? = wr.heap[b]?) → 0 ≤ z → z ≤ 549755813888 → Calls Tryz.prog 83 #[.slice spa sp.length spc, .int .i64 z] W fun e w' => e = .returned (.int .i64 (z + (fsum wtSpan sp : Nat))) ∧ shSpansO.Ow w' b2 (mkL mkSpan wtSpan z sp) [.slice spa sp.length spc] ∧ Touch b2 W w') := fun W z hW h0 h1 => lMarkSpans sp _ z W b2 (Sh.Ow.keep _ _ _ _ hW hp) nd2 (by omega) h0 h1
      have HU : Hid _ := UPD
      have HG1 : Hid _ := g1
      have HG6 : Hid _ := g6
      have HD2 : Hid _ := hd2
      have HP1 : Hid _ := hp1
      have HP2 : Hid _ := hp2
      have HME : Hid (mkSubE x (y0, y1, y2, y3, y4, y5, (y6, y7, y8, fl, PUnit.unit), (y10, y11, sp, PUnit.unit), (y13, y14, y15, PUnit.unit), PUnit.unit) = ((x), (x + 1), (((x + 1 + 1) % 3 == 0)), (x + 1 + 1 + 1), (x + 1 + 1 + 1 + 1), (x + 1 + 1 + 1 + 1 + 1), ((x + 1 + 1 + 1 + 1 + 1 + 1), (x + 1 + 1 + 1 + 1 + 1 + 1 + 1), (x + 1 + 1 + 1 + 1 + 1 + 1 + 1 + 1), (mkL mkFlight wtFlight (x + 1 + 1 + 1 + 1 + 1 + 1 + 1 + 1 + 1) fl), ()), ((x + 1 + 1 + 1 + 1 + 1 + 1 + 1 + 1 + 1 + ((fsum wtFlight fl : Nat) : Int)), (x + 1 + 1 + 1 + 1 + 1 + 1 + 1 + 1 + 1 + ((fsum wtFlight fl : Nat) : Int) + 1), (mkL mkSpan wtSpan (x + 1 + 1 + 1 + 1 + 1 + 1 + 1 + 1 + 1 + ((fsum wtFlight fl : Nat) : Int) + 1 + 1) sp), ()), ((x + 1 + 1 + 1 + 1 + 1 + 1 + 1 + 1 + 1 + ((fsum wtFlight fl : Nat) : Int) + 1 + 1 + ((fsum wtSpan sp : Nat) : Int)), (x + 1 + 1 + 1 + 1 + 1 + 1 + 1 + 1 + 1 + ((fsum wtFlight fl : Nat) : Int) + 1 + 1 + ((fsum wtSpan sp : Nat) : Int) + 1), (x + 1 + 1 + 1 + 1 + 1 + 1 + 1 + 1 + 1 + ((fsum wtFlight fl : Nat) : Int) + 1 + 1 + ((fsum wtSpan sp : Nat) : Int) + 1 + 1), ()), ())) := rfl
      rw [hwt] at hxx HX2
      clear UPD hel hs hc hf hp ec g1 g2 g4 g5 g6 hpt hle hlen hkl HO nd1 nd2 hdis hd2 hp1 hp2 hwt
      have O0 : On1 pg wr wr := On1.refl _ _
      have c0 : wr.cell? ⟨pg, k * 16, none⟩ = some (.int .i64 (y0)) := E0.cell (j := 0) (by omega) (by decide)
      have c1 : wr.cell? ⟨pg, k * 16 + 1, none⟩ = some (.int .i64 (y1)) := E0.cell (j := 1) (by omega) (by decide)
      have c2 : wr.cell? ⟨pg, k * 16 + 2, none⟩ = some (.bool y2) := E0.cell (j := 2) (by omega) (by decide)
      have c3 : wr.cell? ⟨pg, k * 16 + 3, none⟩ = some (.int .i64 (y3)) := E0.cell (j := 3) (by omega) (by decide)
      have c4 : wr.cell? ⟨pg, k * 16 + 4, none⟩ = some (.int .i64 (y4)) := E0.cell (j := 4) (by omega) (by decide)
      have c5 : wr.cell? ⟨pg, k * 16 + 5, none⟩ = some (.int .i64 (y5)) := E0.cell (j := 5) (by omega) (by decide)
      have c6 : wr.cell? ⟨pg, k * 16 + 6, none⟩ = some (.int .i64 (y6)) := E0.cell (j := 6) (by omega) (by decide)
      have c7 : wr.cell? ⟨pg, k * 16 + 6 + 1, none⟩ = some (.int .i64 (y7)) := E0.cell (j := 7) (by omega) (by decide)
      have c8 : wr.cell? ⟨pg, k * 16 + 6 + 2, none⟩ = some (.int .i64 (y8)) := E0.cell (j := 8) (by omega) (by decide)
      have c9 : wr.cell? ⟨pg, k * 16 + 6 + 3, none⟩ = some (.slice fla fl.length flc) := E0.cell (j := 9) (by omega) (by decide)
      have fz0 := E0.frozen
      have EE0 := (((((((((E0.set g3 (A := k * 16) (j := 0) (by omega) (by decide) (.int .i64 (x))).set g3 (A := k * 16 + 1) (j := 1) (by omega) (by decide) (.int .i64 (x + 1))).set g3 (A := k * 16 + 2) (j := 2) (by omega) (by decide) (.bool ((x + 1 + 1) % 3 == 0))).set g3 (A := k * 16 + 3) (j := 3) (by omega) (by decide) (.int .i64 (x + 1 + 1 + 1))).set g3 (A := k * 16 + 4) (j := 4) (by omega) (by decide) (.int .i64 (x + 1 + 1 + 1 + 1))).set g3 (A := k * 16 + 5) (j := 5) (by omega) (by decide) (.int .i64 (x + 1 + 1 + 1 + 1 + 1))).set g3 (A := k * 16 + 6) (j := 6) (by omega) (by decide) (.int .i64 (x + 1 + 1 + 1 + 1 + 1 + 1))).set g3 (A := k * 16 + 6 + 1) (j := 7) (by omega) (by decide) (.int .i64 (x + 1 + 1 + 1 + 1 + 1 + 1 + 1))).set g3 (A := k * 16 + 6 + 2) (j := 8) (by omega) (by decide) (.int .i64 (x + 1 + 1 + 1 + 1 + 1 + 1 + 1 + 1)))
      simp only [List.set_cons_zero, List.set_cons_succ] at EE0
      have OO0 : On1 pg wr (((((((((wr.setCell ⟨pg, k * 16, none⟩ (.int .i64 (x))).setCell ⟨pg, k * 16 + 1, none⟩ (.int .i64 (x + 1))).setCell ⟨pg, k * 16 + 2, none⟩ (.bool ((x + 1 + 1) % 3 == 0))).setCell ⟨pg, k * 16 + 3, none⟩ (.int .i64 (x + 1 + 1 + 1))).setCell ⟨pg, k * 16 + 4, none⟩ (.int .i64 (x + 1 + 1 + 1 + 1))).setCell ⟨pg, k * 16 + 5, none⟩ (.int .i64 (x + 1 + 1 + 1 + 1 + 1))).setCell ⟨pg, k * 16 + 6, none⟩ (.int .i64 (x + 1 + 1 + 1 + 1 + 1 + 1))).setCell ⟨pg, k * 16 + 6 + 1, none⟩ (.int .i64 (x + 1 + 1 + 1 + 1 + 1 + 1 + 1))).setCell ⟨pg, k * 16 + 6 + 2, none⟩ (.int .i64 (x + 1 + 1 + 1 + 1 + 1 + 1 + 1 + 1))) := (((((((((O0.set (k * 16) (.int .i64 (x))).set (k * 16 + 1) (.int .i64 (x + 1))).set (k * 16 + 2) (.bool ((x + 1 + 1) % 3 == 0))).set (k * 16 + 3) (.int .i64 (x + 1 + 1 + 1))).set (k * 16 + 4) (.int .i64 (x + 1 + 1 + 1 + 1))).set (k * 16 + 5) (.int .i64 (x + 1 + 1 + 1 + 1 + 1))).set (k * 16 + 6) (.int .i64 (x + 1 + 1 + 1 + 1 + 1 + 1))).set (k * 16 + 6 + 1) (.int .i64 (x + 1 + 1 + 1 + 1 + 1 + 1 + 1))).set (k * 16 + 6 + 2) (.int .i64 (x + 1 + 1 + 1 + 1 + 1 + 1 + 1 + 1)))
      have HE0 : Hid _ := EE0
      have HO0 : Hid _ := OO0
      clear EE0 OO0
      go_wp2_with fail
      refine (HF.out _ (x + 1 + 1 + 1 + 1 + 1 + 1 + 1 + 1 + 1) (fun b hb => HO0.out.block b hb) (by omega) (by omega)).mono ?_
      rintro e w1 ⟨rfl, ho1, ht1⟩
      have hlp0 : pg < (((((((((wr.setCell ⟨pg, k * 16, none⟩ (.int .i64 (x))).setCell ⟨pg, k * 16 + 1, none⟩ (.int .i64 (x + 1))).setCell ⟨pg, k * 16 + 2, none⟩ (.bool ((x + 1 + 1) % 3 == 0))).setCell ⟨pg, k * 16 + 3, none⟩ (.int .i64 (x + 1 + 1 + 1))).setCell ⟨pg, k * 16 + 4, none⟩ (.int .i64 (x + 1 + 1 + 1 + 1))).setCell ⟨pg, k * 16 + 5, none⟩ (.int .i64 (x + 1 + 1 + 1 + 1 + 1))).setCell ⟨pg, k * 16 + 6, none⟩ (.int .i64 (x + 1 + 1 + 1 + 1 + 1 + 1))).setCell ⟨pg, k * 16 + 6 + 1, none⟩ (.int .i64 (x + 1 + 1 + 1 + 1 + 1 + 1 + 1))).setCell ⟨pg, k * 16 + 6 + 2, none⟩ (.int .i64 (x + 1 + 1 + 1 + 1 + 1 + 1 + 1 + 1))).heap.size := by rw [HO0.out.size]; exact hlp
      have E1 := HE0.out.keep (ht1.block pg hlp0 HP1.out)
      have HOw1 : Hid _ := ho1
      have HTt1 : Hid (Touch bs w w1) := HW.out.trans ((HO0.out.touch HG1.out).trans (Touch.mono ht1 fun y hy => (HG6.out y (List.mem_append_left _ hy)).1))
      have HKP : Hid (∀ b ∈ b2, w1.heap[b]? = wr.heap[b]?) := fun b hb => (ht1.block b (by rw [HO0.out.size]; exact HBL.out b (HG6.out b (List.mem_append_right _ hb)).1) (HD2.out b hb)).trans (HO0.out.block b (fun e => HP2.out (e ▸ hb)))
      have HSA : Hid (∀ b, b < wr.heap.size → b ≠ pg → b ∉ b1 → w1.heap[b]? = wr.heap[b]?) := fun b hb h1 h2 => (ht1.block b (by rw [HO0.out.size]; exact hb) h2).trans (HO0.out.block b h1)
      have hlp1 : pg < w1.heap.size := Nat.lt_of_lt_of_le hlp0 ht1.size
      have hsz1 : wr.heap.size ≤ w1.heap.size := by have := ht1.size; rw [HO0.out.size] at this; exact this
      clear ho1 ht1 HE0 c0 c1 c2 c3 c4 c5 c6 c7 c8 c9
      have O1 : On1 pg w1 w1 := On1.refl _ _
      have c10 : w1.cell? ⟨pg, k * 16 + 10, none⟩ = some (.int .i64 (y10)) := E1.cell (j := 10) (by omega) (by decide)
      have c11 : w1.cell? ⟨pg, k * 16 + 10 + 1, none⟩ = some (.int .i64 (y11)) := E1.cell (j := 11) (by omega) (by decide)
      have c12 : w1.cell? ⟨pg, k * 16 + 10 + 2, none⟩ = some (.slice spa sp.length spc) := E1.cell (j := 12) (by omega) (by decide)
      have fz1 := E1.frozen
      have EE1 := ((E1.set g3 (A := k * 16 + 10) (j := 10) (by omega) (by decide) (.int .i64 (x + 1 + 1 + 1 + 1 + 1 + 1 + 1 + 1 + 1 + ((fsum wtFlight fl : Nat) : Int)))).set g3 (A := k * 16 + 10 + 1) (j := 11) (by omega) (by decide) (.int .i64 (x + 1 + 1 + 1 + 1 + 1 + 1 + 1 + 1 + 1 + ((fsum wtFlight fl : Nat) : Int) + 1)))
      simp only [List.set_cons_zero, List.set_cons_succ] at EE1
      have OO1 : On1 pg w1 ((w1.setCell ⟨pg, k * 16 + 10, none⟩ (.int .i64 (x + 1 + 1 + 1 + 1 + 1 + 1 + 1 + 1 + 1 + ((fsum wtFlight fl : Nat) : Int)))).setCell ⟨pg, k * 16 + 10 + 1, none⟩ (.int .i64 (x + 1 + 1 + 1 + 1 + 1 + 1 + 1 + 1 + 1 + ((fsum wtFlight fl : Nat) : Int) + 1))) := ((O1.set (k * 16 + 10) (.int .i64 (x + 1 + 1 + 1 + 1 + 1 + 1 + 1 + 1 + 1 + ((fsum wtFlight fl : Nat) : Int)))).set (k * 16 + 10 + 1) (.int .i64 (x + 1 + 1 + 1 + 1 + 1 + 1 + 1 + 1 + 1 + ((fsum wtFlight fl : Nat) : Int) + 1)))
      have HE1 : Hid _ := EE1
      have HO1 : Hid _ := OO1
      clear EE1 OO1
      go_wp2_with fail
      refine (HP.out _ (x + 1 + 1 + 1 + 1 + 1 + 1 + 1 + 1 + 1 + ((fsum wtFlight fl : Nat) : Int) + 1 + 1) (fun b hb => (HO1.out.block b (fun e => HP2.out (e ▸ hb))).trans (HKP.out b hb)) (by omega) (by omega)).mono ?_
      rintro e w2 ⟨rfl, ho2, ht2⟩
      have hlp1 : pg < ((w1.setCell ⟨pg, k * 16 + 10, none⟩ (.int .i64 (x + 1 + 1 + 1 + 1 + 1 + 1 + 1 + 1 + 1 + ((fsum wtFlight fl : Nat) : Int)))).setCell ⟨pg, k * 16 + 10 + 1, none⟩ (.int .i64 (x + 1 + 1 + 1 + 1 + 1 + 1 + 1 + 1 + 1 + ((fsum wtFlight fl : Nat) : Int) + 1))).heap.size := by rw [HO1.out.size]; exact hlp1
      have E2 := HE1.out.keep (ht2.block pg hlp1 HP2.out)
      have HOw2 : Hid _ := ho2
      have HOw2 : Hid _ := ho2
      have HTt2 : Hid (Touch bs w w2) := HTt1.out.trans ((HO1.out.touch HG1.out).trans (Touch.mono ht2 fun y hy => (HG6.out y (List.mem_append_right _ hy)).1))
      have HSB : Hid (∀ b, b < wr.heap.size → b ≠ pg → b ∉ b1 → b ∉ b2 → w2.heap[b]? = wr.heap[b]?) := fun b hb h1 h2 h3 => (ht2.block b (by rw [HO1.out.size]; omega) h3).trans ((HO1.out.block b h1).trans (HSA.out b hb h1 h2))
      have HFL : Hid (shFlights.Ow w2 b1 _ [.slice fla fl.length flc]) := Sh.Ow.keep _ _ _ _ (fun b hb => (ht2.block b (by rw [HO1.out.size]; exact Nat.lt_of_lt_of_le (HBL.out b (HG6.out b (List.mem_append_left _ hb)).1) hsz1) (fun h => HD2.out b h hb)).trans (HO1.out.block b (fun e => HP1.out (e ▸ hb)))) HOw1.out
      have hlp2 : pg < w2.heap.size := by have := ht2.size; rw [HO1.out.size] at this; omega
      clear ho2 ht2 HE1 c10 c11 c12
      have O2 : On1 pg w2 w2 := On1.refl _ _
      have c13 : w2.cell? ⟨pg, k * 16 + 13, none⟩ = some (.int .i64 (y13)) := E2.cell (j := 13) (by omega) (by decide)
      have c14 : w2.cell? ⟨pg, k * 16 + 13 + 1, none⟩ = some (.int .i64 (y14)) := E2.cell (j := 14) (by omega) (by decide)
      have c15 : w2.cell? ⟨pg, k * 16 + 13 + 2, none⟩ = some (.int .i64 (y15)) := E2.cell (j := 15) (by omega) (by decide)
      have fz2 := E2.frozen
      have EE2 := (((E2.set g3 (A := k * 16 + 13) (j := 13) (by omega) (by decide) (.int .i64 (x + 1 + 1 + 1 + 1 + 1 + 1 + 1 + 1 + 1 + ((fsum wtFlight fl : Nat) : Int) + 1 + 1 + ((fsum wtSpan sp : Nat) : Int)))).set g3 (A := k * 16 + 13 + 1) (j := 14) (by omega) (by decide) (.int .i64 (x + 1 + 1 + 1 + 1 + 1 + 1 + 1 + 1 + 1 + ((fsum wtFlight fl : Nat) : Int) + 1 + 1 + ((fsum wtSpan sp : Nat) : Int) + 1))).set g3 (A := k * 16 + 13 + 2) (j := 15) (by omega) (by decide) (.int .i64 (x + 1 + 1 + 1 + 1 + 1 + 1 + 1 + 1 + 1 + ((fsum wtFlight fl : Nat) : Int) + 1 + 1 + ((fsum wtSpan sp : Nat) : Int) + 1 + 1)))
      simp only [List.set_cons_zero, List.set_cons_succ] at EE2
      have OO2 : On1 pg w2 (((w2.setCell ⟨pg, k * 16 + 13, none⟩ (.int .i64 (x + 1 + 1 + 1 + 1 + 1 + 1 + 1 + 1 + 1 + ((fsum wtFlight fl : Nat) : Int) + 1 + 1 + ((fsum wtSpan sp : Nat) : Int)))).setCell ⟨pg, k * 16 + 13 + 1, none⟩ (.int .i64 (x + 1 + 1 + 1 + 1 + 1 + 1 + 1 + 1 + 1 + ((fsum wtFlight fl : Nat) : Int) + 1 + 1 + ((fsum wtSpan sp : Nat) : Int) + 1))).setCell ⟨pg, k * 16 + 13 + 2, none⟩ (.int .i64 (x + 1 + 1 + 1 + 1 + 1 + 1 + 1 + 1 + 1 + ((fsum wtFlight fl : Nat) : Int) + 1 + 1 + ((fsum wtSpan sp : Nat) : Int) + 1 + 1))) := (((O2.set (k * 16 + 13) (.int .i64 (x + 1 + 1 + 1 + 1 + 1 + 1 + 1 + 1 + 1 + ((fsum wtFlight fl : Nat) : Int) + 1 + 1 + ((fsum wtSpan sp : Nat) : Int)))).set (k * 16 + 13 + 1) (.int .i64 (x + 1 + 1 + 1 + 1 + 1 + 1 + 1 + 1 + 1 + ((fsum wtFlight fl : Nat) : Int) + 1 + 1 + ((fsum wtSpan sp : Nat) : Int) + 1))).set (k * 16 + 13 + 2) (.int .i64 (x + 1 + 1 + 1 + 1 + 1 + 1 + 1 + 1 + 1 + ((fsum wtFlight fl : Nat) : Int) + 1 + 1 + ((fsum wtSpan sp : Nat) : Int) + 1 + 1)))
      have HE2 : Hid _ := EE2
      have HO2 : Hid _ := OO2
      clear EE2 OO2
      have HFIN : Hid (shSubsO.Ow (((w2.setCell ⟨pg, k * 16 + 13, none⟩ (.int .i64 (x + 1 + 1 + 1 + 1 + 1 + 1 + 1 + 1 + 1 + ((fsum wtFlight fl : Nat) : Int) + 1 + 1 + ((fsum wtSpan sp : Nat) : Int)))).setCell ⟨pg, k * 16 + 13 + 1, none⟩ (.int .i64 (x + 1 + 1 + 1 + 1 + 1 + 1 + 1 + 1 + 1 + ((fsum wtFlight fl : Nat) : Int) + 1 + 1 + ((fsum wtSpan sp : Nat) : Int) + 1))).setCell ⟨pg, k * 16 + 13 + 2, none⟩ (.int .i64 (x + 1 + 1 + 1 + 1 + 1 + 1 + 1 + 1 + 1 + ((fsum wtFlight fl : Nat) : Int) + 1 + 1 + ((fsum wtSpan sp : Nat) : Int) + 1 + 1))) bs ((mkL mkSubE wtSubE c (l.take k) ++ l.drop k).set k (mkSubE x (y0, y1, y2, y3, y4, y5, (y6, y7, y8, fl, ()), (y10, y11, sp, ()), (y13, y14, y15, ()), ()))) [.slice (some ⟨pg, 0, none⟩) N cap]) := by
        obtain ⟨cur', q1, q2, q3, q4⟩ := HE2.out
        refine HU.out _ cur' _ q1 q2 q3 ?_ (fun b hb h1 h2 => ?_)
        · show shSubO.Ow _ (b1 ++ b2) _ (chunk _ 16 k)
          rw [q4, HME.out]
          refine mk_Sub (mk_Sender (Sh.Ow.keep _ _ _ _ (fun b hb => HO2.out.block b (fun e => HP1.out (e ▸ hb))) HFL.out) ?_ ?_ ?_) (mk_Catch (Sh.Ow.keep _ _ _ _ (fun b hb => HO2.out.block b (fun e => HP2.out (e ▸ hb))) HOw2.out) ?_ ?_) ?_ ?_ ?_ ?_ ?_ ?_ ?_ ?_ <;> exact WalkArith.wf_i64 (by omega)
        · rw [HO2.out.block b h1]
          exact HSB.out b (HBL.out b hb) h1 (fun h => h2 (List.mem_append_left _ h)) (fun h => h2 (List.mem_append_right _ h))
      have HWF : Hid (Touch bs w (((w2.setCell ⟨pg, k * 16 + 13, none⟩ (.int .i64 (x + 1 + 1 + 1 + 1 + 1 + 1 + 1 + 1 + 1 + ((fsum wtFlight fl : Nat) : Int) + 1 + 1 + ((fsum wtSpan sp : Nat) : Int)))).setCell ⟨pg, k * 16 + 13 + 1, none⟩ (.int .i64 (x + 1 + 1 + 1 + 1 + 1 + 1 + 1 + 1 + 1 + ((fsum wtFlight fl : Nat) : Int) + 1 + 1 + ((fsum wtSpan sp : Nat) : Int) + 1))).setCell ⟨pg, k * 16 + 13 + 2, none⟩ (.int .i64 (x + 1 + 1 + 1 + 1 + 1 + 1 + 1 + 1 + 1 + ((fsum wtFlight fl : Nat) : Int) + 1 + 1 + ((fsum wtSpan sp : Nat) : Int) + 1 + 1)))) := HTt2.out.trans (HO2.out.touch HG1.out)
      clear HE2
      go_wp2_with fail
      go_roundw
      case rel => exact ⟨k + 1, x + 1 + 1 + 1 + 1 + 1 + 1 + 1 + 1 + 1 + ((fsum wtFlight fl : Nat) : Int) + 1 + 1 + ((fsum wtSpan sp : Nat) : Int) + 1 + 1 + 1, by omega, by go_num, rfl, (by have h := HX2.out; show _ = _; push_cast at h ⊢; omega), by omega, by push_cast at hxx ⊢; omega, (by show shSubsO.Ow _ bs _ _; rw [← HST.out]; exact HFIN.out), HWF⟩
      case measure => simp [intOf]; omega
    · obtain rfl : k = N := by omega
      go_wp2_with fail
      go_ret
      refine ⟨ret_int (by have := hx.out; rw [← HN.out, List.take_length] at this; exact this), ?_, HW.out⟩
      have h := HO.out
      rw [← HN.out, List.take_length, List.drop_length, List.append_nil] at h
      rw [← HN.out]; exact h
end Go.Proofs.YteaddhldleeaiaaGreat
