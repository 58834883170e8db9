/- Marks over slices of slices of bytes of the call's own; no condition but that there are at most a million parts. -/
import Derived.Test.YteaddhldleeaiaaGreatRows
import Derived.Deep.DeepCutAuto
import Derived.Deep.RegionHeld3
import Derived.Test.YteaddhldleeaiaaGreatK01
import Derived.Test.YteaddhldleeaiaaGreatK02
import Derived.Test.YteaddhldleeaiaaGreatK03
import Derived.Test.YteaddhldleeaiaaGreatK04
import Derived.Test.YteaddhldleeaiaaGreatK09
import Derived.Test.YteaddhldleeaiaaGreatK10
import Derived.Test.YteaddhldleeaiaaGreatK11
import Derived.Test.YteaddhldleeaiaaGreatK17
import Derived.Test.YteaddhldleeaiaaGreatK18
import Derived.Test.YteaddhldleeaiaaGreatK19
import Derived.Test.YteaddhldleeaiaaGreatK58
namespace Go.Proofs.YteaddhldleeaiaaGreat
open Go.RowKit
set_option linter.unusedVariables false
set_option maxRecDepth 8000

def mkBy (c : Int) (x : List Int) : List Int := marks c x.length
set_option maxHeartbeats 2000000 in
theorem lMarkBss (l : List (List Int)) (v : Value) (c : Int) (w : World) (bs : List Nat) (ho : shBss.Ow w bs l [v]) (hnd : bs.Nodup) (hT : fsum List.length l ≤ 536870912) (hn2 : l.length ≤ 1048576) (hc0 : 0 ≤ c) (hc1 : c ≤ 536870912) :
    Calls Tryz.prog 36 #[v, .int .i64 c] w fun e w' => e = .returned (.int .i64 (c + (fsum List.length l : Nat))) ∧ shBss.Ow w' bs (mkL mkBy List.length c l) [v] ∧ Touch bs w w' := by
  obtain ⟨a, cap, ev⟩ := row_form (Sh.Ow.rd (Nat.le_refl _) _ _ _ _ ho)
  simp only [List.cons.injEq, and_true] at ev
  subst ev
  have HND : Hid _ := hnd
  have HT : Hid (∀ k, fsum List.length (l.take k) ≤ 536870912) := fun k => by have := fsum_le (f := List.length) l k; omega
  obtain ⟨N, hN⟩ : ∃ n, l.length = n := ⟨_, rfl⟩
  rw [hN] at ho hn2 ⊢
  have HN : Hid (l.length = N) := hN
  have H0 : Hid (shBss.Ow w bs (mkL mkBy List.length c (l.take 0) ++ l.drop 0) [.slice a N cap]) := by
    show shBss.Ow w bs _ _
    simpa [mkL] using ho
  clear hnd ho hN hT
  go_enter Tryz.func36, Tryz.ntmps36
  go_wp2_with fail
  go_loopw [1, 5] (fun t i wr => ∃ (k : Nat) (x : Int), k ≤ N ∧ i = .int .i64 k ∧ t = .int .i64 x ∧ Hid (x = c + (fsum List.length (l.take k) : Nat)) ∧ 0 ≤ x ∧ x ≤ 1073741824 ∧ Hid (shBss.Ow wr bs (mkL mkBy List.length c (l.take k) ++ l.drop k) [.slice a N cap]) ∧ Hid (Touch bs w wr)) (fun _ i _ => N - (intOf i).toNat)
  case atStart => exact ⟨0, c, Nat.zero_le _, rfl, rfl, (by simp [fsum] : c = c + (fsum List.length (l.take 0) : Nat)), hc0, by omega, H0, Touch.refl _ _⟩
  case round =>
    obtain ⟨k, x, hk, rfl, rfl, hx, hx0, hx1, HO, HW⟩ := hrel
    clear H0
    by_cases hlt : k < N
    · have hkp : k < l.length := by have := HN.out; omega
      have hlen : (mkL mkBy List.length c (l.take k)).length = k := by rw [mkL_length]; simp; omega
      have hkl : k < (mkL mkBy List.length c (l.take k) ++ l.drop k).length := by simp [hlen]; omega
      have hel : (mkL mkBy List.length c (l.take k) ++ l.drop k)[k] = l[k] := by
        rw [List.getElem_append_right (by omega)]
        simp [hlen]
      obtain ⟨pg, cur, bk, ea, g1, g2, g3, g4, g5, g6, UPD⟩ := ow_elem HO.out HND.out k hkl
      subst ea
      rw [hel] at g5
      have hpt := fsum_take (f := List.length) hkp
      have hle := HT.out (k + 1)
      have HST : Hid ((mkL mkBy List.length c (l.take k) ++ l.drop k).set k (mkBy x l[k]) = mkL mkBy List.length c (l.take (k + 1)) ++ l.drop (k + 1)) := by
        show _ = _
        rw [hx.out]; exact mkL_step c hkp
      have HX2 : Hid (x + (l[k].length : Nat) = c + (fsum List.length (l.take (k + 1)) : Nat)) := by have := hx.out; show _ = _; omega
      have hxx : x + (l[k].length : Nat) ≤ 1073741824 := by have := hx.out; omega
      have HBL : Hid (∀ b ∈ bs, b < wr.heap.size) := Sh.Ow.lt _ _ _ _ HO.out
      obtain ⟨u, uc, ec⟩ := row_form (Sh.Ow.rd (Nat.le_refl _) _ _ _ _ g5)
      replace ec : chunk cur.toList 1 k = [.slice u l[k].length uc] := ec
      replace g5 : u8s.Ow wr bk l[k] [.slice u l[k].length uc] := by rw [← ec]; exact g5
      have hck : wr.cell? ⟨pg, k, none⟩ = some (.slice u l[k].length uc) := by
        rw [cell_of_heap g2, ← Array.getElem?_toList]
        have q := chunk_get (xs := cur.toList) (sz := 1) (i := k) (j := 0) (by decide)
        rw [ec] at q
        simpa using q.symm
      have HCC : Hid (Calls Tryz.prog 59 #[.slice u l[k].length uc, .int .i64 x] wr fun e w' => e = .returned (.int .i64 (x + (l[k].length : Nat))) ∧ u8s.Ow w' bk (marks x l[k].length) [.slice u l[k].length uc] ∧ Touch bk wr w') := lMarkBytesW l[k] _ x wr bk g5 g4 (by omega) hx0 (by omega)
      have hpb : pg ∉ bk := fun h => (g6 pg h).2 rfl
      have hlp : pg < wr.heap.size := heap_lt g2
      have HFIN : Hid (∀ w1, u8s.Ow w1 bk (marks x l[k].length) [.slice u l[k].length uc] → Touch bk wr w1 → shBss.Ow w1 bs (mkL mkBy List.length c (l.take (k + 1)) ++ l.drop (k + 1)) [.slice (some ⟨pg, 0, none⟩) N cap] ∧ Touch bs w w1) := fun w1 o1 t1 => by
        refine ⟨?_, HW.out.trans (Touch.mono t1 fun y hy => (g6 y hy).1)⟩
        rw [← HST.out]
        refine UPD w1 cur _ ((t1.block pg hlp hpb).trans g2) rfl (fun _ _ => rfl) ?_ (fun b hb h1 h2 => t1.block b (HBL.out b hb) h2)
        show u8s.Ow w1 bk (marks x l[k].length) (chunk cur.toList 1 k)
        rw [ec]; exact o1
      clear UPD hel ec g1 g2 g4 g5 g6 hpt hle hlen hkl HO hpb HST
      generalize l[k].length = q at *
      go_wp2_with fail
      refine HCC.out.mono ?_
      rintro e w1 ⟨rfl, ho1, ht1⟩
      obtain ⟨f1, f2⟩ := HFIN.out w1 ho1 ht1
      have HF1 : Hid _ := f1
      have HF2 : Hid _ := f2
      clear ho1 ht1 f1 f2 HFIN HCC hck
      go_wp2_with fail
      go_roundw
      case rel => exact ⟨k + 1, x + (q : Nat), by omega, by go_num, rfl, HX2, by omega, hxx, HF1, HF2⟩
      case measure => simp [intOf]; omega
    · obtain rfl : k = N := by omega
      go_wp2_with fail
      go_ret
      refine ⟨ret_int (by have := hx.out; rw [← HN.out, List.take_length] at this; exact this), ?_, HW.out⟩
      have h := HO.out
      rw [← HN.out, List.take_length, List.drop_length, List.append_nil] at h
      rw [← HN.out]; exact h
end Go.Proofs.YteaddhldleeaiaaGreat

/- Marks over a row of conns of the call's own; no condition but that there are at most a million parts. Written by mkmc.py. -/
namespace Go.Proofs.YteaddhldleeaiaaGreat
open Go.RowKit
set_option linter.unusedVariables false
set_option maxRecDepth 8000

abbrev shConnsO : Sh := .row 65 shConnO
def wtConnE : DConn → Nat
  | (y0, y1, y2, y3, y4, d5, y6, y7, y8, (dn, ps, _), y11, y12, sb, _) => 10 + (d5.length + dn.length + fsum wtPiece ps + fsum wtSubE sb)
def mkConnE (c : Int) : DConn → DConn
  | (y0, y1, y2, y3, y4, d5, y6, y7, y8, (dn, ps, _), y11, y12, sb, _) => ((c), (c + 1), (c + 1 + 1), (((c + 1 + 1 + 1) % 3 == 0)), (((c + 1 + 1 + 1 + 1) % 3 == 0)), (marks (c + 1 + 1 + 1 + 1 + 1) d5.length), (((c + 1 + 1 + 1 + 1 + 1 + ((d5.length : Nat) : Int)) % 3 == 0)), (c + 1 + 1 + 1 + 1 + 1 + ((d5.length : Nat) : Int) + 1), (((c + 1 + 1 + 1 + 1 + 1 + ((d5.length : Nat) : Int) + 1 + 1) % 3 == 0)), ((marks (c + 1 + 1 + 1 + 1 + 1 + ((d5.length : Nat) : Int) + 1 + 1 + 1) dn.length), (mkL mkPiece wtPiece (c + 1 + 1 + 1 + 1 + 1 + ((d5.length : Nat) : Int) + 1 + 1 + 1 + ((dn.length : Nat) : Int)) ps), ()), (c + 1 + 1 + 1 + 1 + 1 + ((d5.length : Nat) : Int) + 1 + 1 + 1 + ((dn.length : Nat) : Int) + ((fsum wtPiece ps : Nat) : Int)), (c + 1 + 1 + 1 + 1 + 1 + ((d5.length : Nat) : Int) + 1 + 1 + 1 + ((dn.length : Nat) : Int) + ((fsum wtPiece ps : Nat) : Int) + 1), (mkL mkSubE wtSubE (c + 1 + 1 + 1 + 1 + 1 + ((d5.length : Nat) : Int) + 1 + 1 + 1 + ((dn.length : Nat) : Int) + ((fsum wtPiece ps : Nat) : Int) + 1 + 1) sb), ())
theorem wtConnE_le (x : DConn) : wtConnE x ≤ 10 + 14 * totConn x := by
  obtain ⟨y0, y1, y2, y3, y4, d5, y6, y7, y8, ⟨dn, ps, ⟨⟩⟩, y11, y12, sb, ⟨⟩⟩ := x
  have h1 := wtGt_tot (dn, ps, ())
  have h2 := wtSubs_le sb
  have e1 : wtGt (dn, ps, ()) = dn.length + fsum wtPiece ps := rfl
  have e2 : totConn (y0, y1, y2, y3, y4, d5, y6, y7, y8, (dn, ps, PUnit.unit), y11, y12, sb, PUnit.unit) = d5.length + gtTot (dn, ps, ()) + (sb.length + fsum totSub sb) := rfl
  show 10 + (d5.length + dn.length + fsum wtPiece ps + fsum wtSubE sb) ≤ _
  rw [e2]; omega
theorem wtConns_le : ∀ (l : List DConn), fsum wtConnE l ≤ 10 * l.length + 14 * fsum totConn l
  | [] => Nat.le_refl _
  | x :: l => by rw [fsum_cons, fsum_cons, List.length_cons]; have := wtConnE_le x; have := wtConns_le l; omega
theorem Ow.connO {w : World} {bs : List Nat} {x : DConn} {cs : List Value} (h : shConn.Ow w bs x cs) : shConnO.Ow w bs x cs := by
  obtain ⟨a0, r0, p0, q0, eb0, ec0, h0, a1, r1, p1, q1, eb1, ec1, h1, a2, r2, p2, q2, eb2, ec2, h2, a3, r3, p3, q3, eb3, ec3, h3, a4, r4, p4, q4, eb4, ec4, h4, a5, r5, p5, q5, eb5, ec5, h5, a6, r6, p6, q6, eb6, ec6, h6, a7, r7, p7, q7, eb7, ec7, h7, a8, r8, p8, q8, eb8, ec8, h8, a9, r9, p9, q9, eb9, ec9, h9, a10, r10, p10, q10, eb10, ec10, h10, a11, r11, p11, q11, eb11, ec11, h11, a12, r12, p12, q12, eb12, ec12, h12, hz⟩ := h
  exact ⟨a0, r0, p0, q0, eb0, ec0, h0, a1, r1, p1, q1, eb1, ec1, h1, a2, r2, p2, q2, eb2, ec2, h2, a3, r3, p3, q3, eb3, ec3, h3, a4, r4, p4, q4, eb4, ec4, h4, a5, r5, p5, q5, eb5, ec5, h5, a6, r6, p6, q6, eb6, ec6, h6, a7, r7, p7, q7, eb7, ec7, h7, a8, r8, p8, q8, eb8, ec8, h8, a9, r9, p9, q9, eb9, ec9, h9, a10, r10, p10, q10, eb10, ec10, h10, a11, r11, p11, q11, eb11, ec11, h11, a12, r12, p12, q12, eb12, ec12, ow_SubsO h12, hz⟩
theorem ow_ConnsO {w : World} {bs : List Nat} {l : List DConn} {cs : List Value} (h : shConns.Ow w bs l cs) : shConnsO.Ow w bs l cs := by
  rcases h with h | ⟨g, cap, cur, F, h1, h2, h3, h4, h5, h6, h7, h8⟩
  · exact Or.inl h
  · exact Or.inr ⟨g, cap, cur, F, h1, h2, h3, h4, h5, h6, h7, fun i hi => Ow.connO (h8 i hi)⟩
theorem mk_ConnO {w : World} {b0 b1 b3 : List Nat} {y0 y1 y2 : Int} {y3 y4 : Bool} {d5 : List Int} {y6 : Bool} {y7 : Int} {y8 : Bool} {d9 : Gt} {y11 y12 : Int} {sb : List DSub} {u v1 v2 s : Value} (h1 : u8s.Ow w b0 d5 [u]) (h2 : gtS.Ow w b1 d9 [v1, v2]) (h3 : shSubsO.Ow w b3 sb [s]) (w0 : (Lit.int .i64 y0).wf = true) (w1 : (Lit.int .i64 y1).wf = true) (w2 : (Lit.int .i64 y2).wf = true) (w7 : (Lit.int .i64 y7).wf = true) (w11 : (Lit.int .i64 y11).wf = true) (w12 : (Lit.int .i64 y12).wf = true) :
    shConnO.Ow w (b0 ++ (b1 ++ b3)) (y0, y1, y2, y3, y4, d5, y6, y7, y8, d9, y11, y12, sb, ()) [.int .i64 y0, .int .i64 y1, .int .i64 y2, .bool y3, .bool y4, u, .bool y6, .int .i64 y7, .bool y8, v1, v2, .int .i64 y11, .int .i64 y12, s] :=
  ⟨[], b0 ++ (b1 ++ b3), [.int .i64 y0], _, rfl, rfl, ⟨rfl, rfl, w0⟩, [], b0 ++ (b1 ++ b3), [.int .i64 y1], _, rfl, rfl, ⟨rfl, rfl, w1⟩, [], b0 ++ (b1 ++ b3), [.int .i64 y2], _, rfl, rfl, ⟨rfl, rfl, w2⟩, [], b0 ++ (b1 ++ b3), [.bool y3], _, rfl, rfl, ⟨rfl, rfl⟩, [], b0 ++ (b1 ++ b3), [.bool y4], _, rfl, rfl, ⟨rfl, rfl⟩, b0, b1 ++ b3, [u], _, rfl, rfl, h1, [], b1 ++ b3, [.bool y6], _, rfl, rfl, ⟨rfl, rfl⟩, [], b1 ++ b3, [.int .i64 y7], _, rfl, rfl, ⟨rfl, rfl, w7⟩, [], b1 ++ b3, [.bool y8], _, rfl, rfl, ⟨rfl, rfl⟩, b1, b3, [v1, v2], _, rfl, rfl, h2, [], b3, [.int .i64 y11], _, rfl, rfl, ⟨rfl, rfl, w11⟩, [], b3, [.int .i64 y12], _, rfl, rfl, ⟨rfl, rfl, w12⟩, b3, [], [s], [], by simp, rfl, h3, rfl, rfl⟩
set_option maxHeartbeats 8000000 in
theorem lMarkConns (l : List DConn) (v : Value) (c : Int) (w : World) (bs : List Nat) (ho : shConnsO.Ow w bs l [v]) (hnd : bs.Nodup) (hT : totConns l ≤ 1048576) (hc0 : 0 ≤ c) (hc1 : c ≤ 268435456) :
    Calls Tryz.prog 34 #[v, .int .i64 c] w fun e w' => e = .returned (.int .i64 (c + (fsum wtConnE l : Nat))) ∧ shConnsO.Ow w' bs (mkL mkConnE wtConnE c l) [v] ∧ Touch bs w w' := by
  obtain ⟨a, cap, ev⟩ := row_form (Sh.Ow.rd (Nat.le_refl _) _ _ _ _ ho)
  simp only [List.cons.injEq, and_true] at ev
  subst ev
  have HND : Hid _ := hnd
  have HT : Hid (∀ k, fsum wtConnE (l.take k) ≤ 16777216) := fun k => by have := fsum_le (f := wtConnE) l k; have := wtConns_le l; unfold totConns at hT; omega
  have HTS : Hid (∀ k (hk : k < l.length), totConn l[k] ≤ 1048576) := fun k hk => by have := fsum_at totConn hk; unfold totConns at hT; omega
  have hn2 : l.length ≤ 1048576 := by unfold totConns at hT; omega
  obtain ⟨N, hN⟩ : ∃ n, l.length = n := ⟨_, rfl⟩
  rw [hN] at ho hn2 ⊢
  have HN : Hid (l.length = N) := hN
  have H0 : Hid (shConnsO.Ow w bs (mkL mkConnE wtConnE c (l.take 0) ++ l.drop 0) [.slice a N cap]) := by
    show shConnsO.Ow w bs _ _
    simpa [mkL] using ho
  clear hnd ho hN hT
  go_enter Tryz.func34, Tryz.ntmps34
  go_wp2_with fail
  go_loopw [1, 5] (fun t i wr => ∃ (k : Nat) (x : Int), k ≤ N ∧ i = .int .i64 k ∧ t = .int .i64 x ∧ Hid (x = c + (fsum wtConnE (l.take k) : Nat)) ∧ 0 ≤ x ∧ x ≤ 536870912 ∧ Hid (shConnsO.Ow wr bs (mkL mkConnE wtConnE c (l.take k) ++ l.drop k) [.slice a N cap]) ∧ Hid (Touch bs w wr)) (fun _ i _ => N - (intOf i).toNat)
  case atStart => exact ⟨0, c, Nat.zero_le _, rfl, rfl, (by simp [fsum] : c = c + (fsum wtConnE (l.take 0) : Nat)), hc0, by omega, H0, Touch.refl _ _⟩
  case round =>
    obtain ⟨k, x, hk, rfl, rfl, hx, hx0, hx1, HO, HW⟩ := hrel
    clear H0
    by_cases hlt : k < N
    · have hkp : k < l.length := by have := HN.out; omega
      have hlen : (mkL mkConnE wtConnE c (l.take k)).length = k := by rw [mkL_length]; simp; omega
      have hkl : k < (mkL mkConnE wtConnE c (l.take k) ++ l.drop k).length := by simp [hlen]; omega
      have hel : (mkL mkConnE wtConnE c (l.take k) ++ l.drop k)[k] = l[k] := by
        rw [List.getElem_append_right (by omega)]
        simp [hlen]
      obtain ⟨pg, cur, bk, ea, g1, g2, g3, g4, g5, g6, UPD⟩ := ow_elem HO.out HND.out k hkl
      subst ea
      rw [hel] at g5
      have hpt := fsum_take (f := wtConnE) hkp
      have hle := HT.out (k + 1)
      have hts := HTS.out k hkp
      have HST : Hid ((mkL mkConnE wtConnE c (l.take k) ++ l.drop k).set k (mkConnE x l[k]) = mkL mkConnE wtConnE c (l.take (k + 1)) ++ l.drop (k + 1)) := by
        show _ = _
        rw [hx.out]; exact mkL_step c hkp
      have HX2 : Hid (x + (wtConnE l[k] : Nat) = c + (fsum wtConnE (l.take (k + 1)) : Nat)) := by have := hx.out; show _ = _; omega
      have hxx : x + (wtConnE l[k] : Nat) ≤ 285212672 := by have := hx.out; omega
      have HBL : Hid (∀ b ∈ bs, b < wr.heap.size) := Sh.Ow.lt _ _ _ _ HO.out
      generalize l[k] = XX at *
      obtain ⟨y0, y1, y2, y3, y4, d5, y6, y7, y8, ⟨dn, ps, ⟨⟩⟩, y11, y12, sb, ⟨⟩⟩ := XX
      have hwt : wtConnE (y0, y1, y2, y3, y4, d5, y6, y7, y8, (dn, ps, PUnit.unit), y11, y12, sb, PUnit.unit) = 10 + (d5.length + dn.length + fsum wtPiece ps + fsum wtSubE sb) := rfl
      have hts2 : d5.length + gtTot (dn, ps, ()) + (sb.length + fsum totSub sb) ≤ 1048576 := hts
      have hn3 : sb.length ≤ 1048576 := by omega
      clear hts hts2
      obtain ⟨b0, b12, b3, u, v1, v2, s, eb, ec, o0, o12, o3, -⟩ := ow_ConnO g5
      obtain ⟨b1, b2, eb2, o1, o2⟩ := ow_Gt o12
      subst eb2 eb
      obtain ⟨d5a, d5c, e1⟩ := row_form (Sh.Ow.rd (Nat.le_refl _) _ _ _ _ o0)
      simp only [List.cons.injEq, and_true] at e1
      subst e1
      obtain ⟨dna, dnc, e1⟩ := row_form (Sh.Ow.rd (Nat.le_refl _) _ _ _ _ o1)
      simp only [List.cons.injEq, and_true] at e1
      subst e1
      obtain ⟨psa, psc, e1⟩ := row_form (Sh.Ow.rd (Nat.le_refl _) _ _ _ _ o2)
      simp only [List.cons.injEq, and_true] at e1
      subst e1
      obtain ⟨sba, sbc, e1⟩ := row_form (Sh.Ow.rd (Nat.le_refl _) _ _ _ _ o3)
      simp only [List.cons.injEq, and_true] at e1
      subst e1
      replace o0 : u8s.Ow wr b0 d5 [.slice d5a d5.length d5c] := o0
      replace o1 : u8s.Ow wr b1 dn [.slice dna dn.length dnc] := o1
      replace o2 : shPieces.Ow wr b2 ps [.slice psa ps.length psc] := o2
      replace o3 : shSubsO.Ow wr b3 sb [.slice sba sb.length sbc] := o3
      replace ec : chunk cur.toList 14 k = [.int .i64 (y0), .int .i64 (y1), .int .i64 (y2), .bool (y3), .bool (y4), .slice d5a d5.length d5c, .bool (y6), .int .i64 (y7), .bool (y8), .slice dna dn.length dnc, .slice psa ps.length psc, .int .i64 (y11), .int .i64 (y12), .slice sba sb.length sbc] := ec
      replace g3 : k * 14 + 14 ≤ cur.size := g3
      have E0 : El wr pg 65 14 k cur [.int .i64 (y0), .int .i64 (y1), .int .i64 (y2), .bool (y3), .bool (y4), .slice d5a d5.length d5c, .bool (y6), .int .i64 (y7), .bool (y8), .slice dna dn.length dnc, .slice psa ps.length psc, .int .i64 (y11), .int .i64 (y12), .slice sba sb.length sbc] := El.of g2 ec
      obtain ⟨nd0, nd123, ds0⟩ := List.nodup_append.1 g4
      obtain ⟨nd12, nd3, ds3⟩ := List.nodup_append.1 nd123
      obtain ⟨nd1, nd2, ds1⟩ := List.nodup_append.1 nd12
      have hlp0 : pg < wr.heap.size := heap_lt g2
      have SB0 : ∀ b ∈ b0, b ∈ b0 ++ ((b1 ++ b2) ++ b3) := fun b h => List.mem_append_left _ h
      have SB1 : ∀ b ∈ b1, b ∈ b0 ++ ((b1 ++ b2) ++ b3) := fun b h => List.mem_append_right _ (List.mem_append_left _ (List.mem_append_left _ h))
      have SB2 : ∀ b ∈ b2, b ∈ b0 ++ ((b1 ++ b2) ++ b3) := fun b h => List.mem_append_right _ (List.mem_append_left _ (List.mem_append_right _ h))
      have SB3 : ∀ b ∈ b3, b ∈ b0 ++ ((b1 ++ b2) ++ b3) := fun b h => List.mem_append_right _ (List.mem_append_right _ h)
      have HNP0 : Hid (∀ b ∈ b0, b ≠ pg) := fun b h => (g6 b (SB0 b h)).2
      have HNP1 : Hid (∀ b ∈ b1, b ≠ pg) := fun b h => (g6 b (SB1 b h)).2
      have HNP2 : Hid (∀ b ∈ b2, b ≠ pg) := fun b h => (g6 b (SB2 b h)).2
      have HNP3 : Hid (∀ b ∈ b3, b ≠ pg) := fun b h => (g6 b (SB3 b h)).2
      have HIN0 : Hid (∀ b ∈ b0, b ∈ bs) := fun b h => (g6 b (SB0 b h)).1
      have HIN1 : Hid (∀ b ∈ b1, b ∈ bs) := fun b h => (g6 b (SB1 b h)).1
      have HIN2 : Hid (∀ b ∈ b2, b ∈ bs) := fun b h => (g6 b (SB2 b h)).1
      have HIN3 : Hid (∀ b ∈ b3, b ∈ bs) := fun b h => (g6 b (SB3 b h)).1
      have HD01 : Hid (∀ b ∈ b1, b ∉ b0) := fun b h h' => ds0 b h' b (List.mem_append_left _ (List.mem_append_left _ h)) rfl
      have HD02 : Hid (∀ b ∈ b2, b ∉ b0) := fun b h h' => ds0 b h' b (List.mem_append_left _ (List.mem_append_right _ h)) rfl
      have HD03 : Hid (∀ b ∈ b3, b ∉ b0) := fun b h h' => ds0 b h' b (List.mem_append_right _ h) rfl
      have HD12 : Hid (∀ b ∈ b2, b ∉ b1) := fun b h h' => ds1 b h' b h rfl
      have HD13 : Hid (∀ b ∈ b3, b ∉ b1) := fun b h h' => ds3 b (List.mem_append_left _ h') b h rfl
      have HD23 : Hid (∀ b ∈ b3, b ∉ b2) := fun b h h' => ds3 b (List.mem_append_right _ h') b h rfl
      rw [hwt] at hxx HX2
      have HM0 : Hid (∀ W (z : Int), (∀ b ∈ b0, W.heap[b]? = wr.heap[b]?) → 0 ≤ z → z ≤ 536870912 → Calls Tryz.prog 59 #[.slice d5a d5.length d5c, .int .i64 z] W fun e w' => e = .returned (.int .i64 (z + ((d5.length : Nat) : Int))) ∧ u8s.Ow w' b0 (marks (z) d5.length) [.slice d5a d5.length d5c] ∧ Touch b0 W w') := fun W z hW h0 h1 => lMarkBytesW d5 _ z W b0 (Sh.Ow.keep _ _ _ _ hW o0) nd0 (by omega) h0 (by omega)
      have HM1 : Hid (∀ W (z : Int), (∀ b ∈ b1, W.heap[b]? = wr.heap[b]?) → 0 ≤ z → z ≤ 536870912 → Calls Tryz.prog 59 #[.slice dna dn.length dnc, .int .i64 z] W fun e w' => e = .returned (.int .i64 (z + ((dn.length : Nat) : Int))) ∧ u8s.Ow w' b1 (marks (z) dn.length) [.slice dna dn.length dnc] ∧ Touch b1 W w') := fun W z hW h0 h1 => lMarkBytesW dn _ z W b1 (Sh.Ow.keep _ _ _ _ hW o1) nd1 (by omega) h0 (by omega)
      have HM2 : Hid (∀ W (z : Int), (∀ b ∈ b2, W.heap[b]? = wr.heap[b]?) → 0 ≤ z → z ≤ 536870912 → Calls Tryz.prog 60 #[.slice psa ps.length psc, .int .i64 z] W fun e w' => e = .returned (.int .i64 (z + ((fsum wtPiece ps : Nat) : Int))) ∧ shPieces.Ow w' b2 (mkL mkPiece wtPiece (z) ps) [.slice psa ps.length psc] ∧ Touch b2 W w') := fun W z hW h0 h1 => lMarkPieces ps _ z W b2 (Sh.Ow.keep _ _ _ _ hW o2) nd2 (by omega) h0 (by omega)
      have HM3 : Hid (∀ W (z : Int), (∀ b ∈ b3, W.heap[b]? = wr.heap[b]?) → 0 ≤ z → z ≤ 536870912 → Calls Tryz.prog 61 #[.slice sba sb.length sbc, .int .i64 z] W fun e w' => e = .returned (.int .i64 (z + ((fsum wtSubE sb : Nat) : Int))) ∧ shSubsO.Ow w' b3 (mkL mkSubE wtSubE (z) sb) [.slice sba sb.length sbc] ∧ Touch b3 W w') := fun W z hW h0 h1 => lMarkSubs sb _ z W b3 (Sh.Ow.keep _ _ _ _ hW o3) nd3 (by omega) (by omega) h0 (by omega)
      have HU : Hid _ := UPD
      have HG1 : Hid _ := g1
      have HME : Hid (mkConnE x (y0, y1, y2, y3, y4, d5, y6, y7, y8, (dn, ps, PUnit.unit), y11, y12, sb, PUnit.unit) = ((x), (x + 1), (x + 1 + 1), (((x + 1 + 1 + 1) % 3 == 0)), (((x + 1 + 1 + 1 + 1) % 3 == 0)), (marks (x + 1 + 1 + 1 + 1 + 1) d5.length), (((x + 1 + 1 + 1 + 1 + 1 + ((d5.length : Nat) : Int)) % 3 == 0)), (x + 1 + 1 + 1 + 1 + 1 + ((d5.length : Nat) : Int) + 1), (((x + 1 + 1 + 1 + 1 + 1 + ((d5.length : Nat) : Int) + 1 + 1) % 3 == 0)), ((marks (x + 1 + 1 + 1 + 1 + 1 + ((d5.length : Nat) : Int) + 1 + 1 + 1) dn.length), (mkL mkPiece wtPiece (x + 1 + 1 + 1 + 1 + 1 + ((d5.length : Nat) : Int) + 1 + 1 + 1 + ((dn.length : Nat) : Int)) ps), ()), (x + 1 + 1 + 1 + 1 + 1 + ((d5.length : Nat) : Int) + 1 + 1 + 1 + ((dn.length : Nat) : Int) + ((fsum wtPiece ps : Nat) : Int)), (x + 1 + 1 + 1 + 1 + 1 + ((d5.length : Nat) : Int) + 1 + 1 + 1 + ((dn.length : Nat) : Int) + ((fsum wtPiece ps : Nat) : Int) + 1), (mkL mkSubE wtSubE (x + 1 + 1 + 1 + 1 + 1 + ((d5.length : Nat) : Int) + 1 + 1 + 1 + ((dn.length : Nat) : Int) + ((fsum wtPiece ps : Nat) : Int) + 1 + 1) sb), ())) := rfl
      clear UPD hel o0 o1 o2 o3 o12 ec g1 g2 g4 g5 g6 hpt hle hlen hkl HO nd0 nd1 nd2 nd3 nd12 nd123 ds0 ds1 ds3 SB0 SB1 SB2 SB3 hwt
      have HTt0 : Hid (Touch bs w wr) := HW.out
      have hz0 : wr.heap.size ≤ wr.heap.size := Nat.le_refl _
      have c0 : wr.cell? ⟨pg, k * 14, none⟩ = some (.int .i64 (y0)) := E0.cell (j := 0) (by omega) (by decide)
      have c1 : wr.cell? ⟨pg, k * 14 + 1, none⟩ = some (.int .i64 (y1)) := E0.cell (j := 1) (by omega) (by decide)
      have c2 : wr.cell? ⟨pg, k * 14 + 2, none⟩ = some (.int .i64 (y2)) := E0.cell (j := 2) (by omega) (by decide)
      have c3 : wr.cell? ⟨pg, k * 14 + 3, none⟩ = some (.bool (y3)) := E0.cell (j := 3) (by omega) (by decide)
      have c4 : wr.cell? ⟨pg, k * 14 + 4, none⟩ = some (.bool (y4)) := E0.cell (j := 4) (by omega) (by decide)
      have c5 : wr.cell? ⟨pg, k * 14 + 5, none⟩ = some (.slice d5a d5.length d5c) := E0.cell (j := 5) (by omega) (by decide)
      have fz0 := E0.frozen
      have EE0 := (((((E0.set g3 (A := k * 14) (j := 0) (by omega) (by decide) (.int .i64 (x))).set g3 (A := k * 14 + 1) (j := 1) (by omega) (by decide) (.int .i64 (x + 1))).set g3 (A := k * 14 + 2) (j := 2) (by omega) (by decide) (.int .i64 (x + 1 + 1))).set g3 (A := k * 14 + 3) (j := 3) (by omega) (by decide) (.bool (((x + 1 + 1 + 1) % 3 == 0)))).set g3 (A := k * 14 + 4) (j := 4) (by omega) (by decide) (.bool (((x + 1 + 1 + 1 + 1) % 3 == 0))))
      simp only [List.set_cons_zero, List.set_cons_succ] at EE0
      have HE0 : Hid _ := EE0
      have HO0 : Hid (On1 pg wr (((((wr.setCell ⟨pg, k * 14, none⟩ (.int .i64 (x))).setCell ⟨pg, k * 14 + 1, none⟩ (.int .i64 (x + 1))).setCell ⟨pg, k * 14 + 2, none⟩ (.int .i64 (x + 1 + 1))).setCell ⟨pg, k * 14 + 3, none⟩ (.bool (((x + 1 + 1 + 1) % 3 == 0)))).setCell ⟨pg, k * 14 + 4, none⟩ (.bool (((x + 1 + 1 + 1 + 1) % 3 == 0))))) := ((((((On1.refl pg wr).set (k * 14) (.int .i64 (x))).set (k * 14 + 1) (.int .i64 (x + 1))).set (k * 14 + 2) (.int .i64 (x + 1 + 1))).set (k * 14 + 3) (.bool (((x + 1 + 1 + 1) % 3 == 0)))).set (k * 14 + 4) (.bool (((x + 1 + 1 + 1 + 1) % 3 == 0))))
      clear EE0 E0
      go_wp2_with fail
      refine (HM0.out _ (x + 1 + 1 + 1 + 1 + 1) (fun b hb => HO0.out.block b (HNP0.out b hb)) (by omega) (by omega)).mono ?_
      rintro e w1 ⟨rfl, ho, ht⟩
      have hlt0 : (((((wr.setCell ⟨pg, k * 14, none⟩ (.int .i64 (x))).setCell ⟨pg, k * 14 + 1, none⟩ (.int .i64 (x + 1))).setCell ⟨pg, k * 14 + 2, none⟩ (.int .i64 (x + 1 + 1))).setCell ⟨pg, k * 14 + 3, none⟩ (.bool (((x + 1 + 1 + 1) % 3 == 0)))).setCell ⟨pg, k * 14 + 4, none⟩ (.bool (((x + 1 + 1 + 1 + 1) % 3 == 0)))).heap.size = wr.heap.size := HO0.out.size
      have hz1 : wr.heap.size ≤ w1.heap.size := by have := ht.size; omega
      have hlp1 : pg < w1.heap.size := by omega
      have E1 := HE0.out.keep (ht.block pg (by omega) (fun h => HNP0.out pg h rfl))
      have HTt1 : Hid (Touch bs w w1) := HTt0.out.trans ((HO0.out.touch HG1.out).trans (Touch.mono ht (fun y hy => HIN0.out y hy)))
      have HS1 : Hid (∀ b, b < wr.heap.size → b ≠ pg → b ∉ b0 → w1.heap[b]? = wr.heap[b]?) := fun b hb hp n0 => (ht.block b (by omega) n0).trans (HO0.out.block b hp)
      have HOw0 : Hid (u8s.Ow w1 b0 (marks (x + 1 + 1 + 1 + 1 + 1) d5.length) [.slice d5a d5.length d5c]) := ho
      clear ho ht hlt0 HE0 HO0 HM0 fz0 c0 c1 c2 c3 c4 c5
      have c6 : w1.cell? ⟨pg, k * 14 + 6, none⟩ = some (.bool (y6)) := E1.cell (j := 6) (by omega) (by decide)
      have c7 : w1.cell? ⟨pg, k * 14 + 7, none⟩ = some (.int .i64 (y7)) := E1.cell (j := 7) (by omega) (by decide)
      have c8 : w1.cell? ⟨pg, k * 14 + 8, none⟩ = some (.bool (y8)) := E1.cell (j := 8) (by omega) (by decide)
      have c9 : w1.cell? ⟨pg, k * 14 + 9, none⟩ = some (.slice dna dn.length dnc) := E1.cell (j := 9) (by omega) (by decide)
      have fz1 := E1.frozen
      have EE1 := (((E1.set g3 (A := k * 14 + 6) (j := 6) (by omega) (by decide) (.bool (((x + 1 + 1 + 1 + 1 + 1 + ((d5.length : Nat) : Int)) % 3 == 0)))).set g3 (A := k * 14 + 7) (j := 7) (by omega) (by decide) (.int .i64 (x + 1 + 1 + 1 + 1 + 1 + ((d5.length : Nat) : Int) + 1))).set g3 (A := k * 14 + 8) (j := 8) (by omega) (by decide) (.bool (((x + 1 + 1 + 1 + 1 + 1 + ((d5.length : Nat) : Int) + 1 + 1) % 3 == 0))))
      simp only [List.set_cons_zero, List.set_cons_succ] at EE1
      have HE1 : Hid _ := EE1
      have HO1 : Hid (On1 pg w1 (((w1.setCell ⟨pg, k * 14 + 6, none⟩ (.bool (((x + 1 + 1 + 1 + 1 + 1 + ((d5.length : Nat) : Int)) % 3 == 0)))).setCell ⟨pg, k * 14 + 7, none⟩ (.int .i64 (x + 1 + 1 + 1 + 1 + 1 + ((d5.length : Nat) : Int) + 1))).setCell ⟨pg, k * 14 + 8, none⟩ (.bool (((x + 1 + 1 + 1 + 1 + 1 + ((d5.length : Nat) : Int) + 1 + 1) % 3 == 0))))) := ((((On1.refl pg w1).set (k * 14 + 6) (.bool (((x + 1 + 1 + 1 + 1 + 1 + ((d5.length : Nat) : Int)) % 3 == 0)))).set (k * 14 + 7) (.int .i64 (x + 1 + 1 + 1 + 1 + 1 + ((d5.length : Nat) : Int) + 1))).set (k * 14 + 8) (.bool (((x + 1 + 1 + 1 + 1 + 1 + ((d5.length : Nat) : Int) + 1 + 1) % 3 == 0))))
      clear EE1 E1
      go_wp2_with fail
      refine (HM1.out _ (x + 1 + 1 + 1 + 1 + 1 + ((d5.length : Nat) : Int) + 1 + 1 + 1) (fun b hb => (HO1.out.block b (HNP1.out b hb)).trans (HS1.out b (HBL.out b (HIN1.out b hb)) (HNP1.out b hb) (HD01.out b hb))) (by omega) (by omega)).mono ?_
      rintro e w2 ⟨rfl, ho, ht⟩
      have hlt1 : (((w1.setCell ⟨pg, k * 14 + 6, none⟩ (.bool (((x + 1 + 1 + 1 + 1 + 1 + ((d5.length : Nat) : Int)) % 3 == 0)))).setCell ⟨pg, k * 14 + 7, none⟩ (.int .i64 (x + 1 + 1 + 1 + 1 + 1 + ((d5.length : Nat) : Int) + 1))).setCell ⟨pg, k * 14 + 8, none⟩ (.bool (((x + 1 + 1 + 1 + 1 + 1 + ((d5.length : Nat) : Int) + 1 + 1) % 3 == 0)))).heap.size = w1.heap.size := HO1.out.size
      have hz2 : wr.heap.size ≤ w2.heap.size := by have := ht.size; omega
      have hlp2 : pg < w2.heap.size := by omega
      have E2 := HE1.out.keep (ht.block pg (by omega) (fun h => HNP1.out pg h rfl))
      have HTt2 : Hid (Touch bs w w2) := HTt1.out.trans ((HO1.out.touch HG1.out).trans (Touch.mono ht (fun y hy => HIN1.out y hy)))
      have HS2 : Hid (∀ b, b < wr.heap.size → b ≠ pg → b ∉ b0 → b ∉ b1 → w2.heap[b]? = wr.heap[b]?) := fun b hb hp n0 n1 => (ht.block b (by omega) n1).trans ((HO1.out.block b hp).trans (HS1.out b hb hp n0))
      replace HOw0 : Hid (u8s.Ow w2 b0 (marks (x + 1 + 1 + 1 + 1 + 1) d5.length) [.slice d5a d5.length d5c]) := Sh.Ow.keep _ _ _ _ (fun b hb => (ht.block b (by have := HBL.out b (HIN0.out b hb); omega) (fun h => HD01.out b h hb)).trans (HO1.out.block b (HNP0.out b hb))) HOw0.out
      have HOw1 : Hid (u8s.Ow w2 b1 (marks (x + 1 + 1 + 1 + 1 + 1 + ((d5.length : Nat) : Int) + 1 + 1 + 1) dn.length) [.slice dna dn.length dnc]) := ho
      clear ho ht hlt1 HE1 HO1 HM1 fz1 c6 c7 c8 c9
      have c10 : w2.cell? ⟨pg, k * 14 + 9 + 1, none⟩ = some (.slice psa ps.length psc) := E2.cell (j := 10) (by omega) (by decide)
      have fz2 := E2.frozen
      have EE2 := E2
      have HE2 : Hid _ := EE2
      have HO2 : Hid (On1 pg w2 w2) := (On1.refl pg w2)
      clear EE2 E2
      go_wp2_with fail
      refine (HM2.out _ (x + 1 + 1 + 1 + 1 + 1 + ((d5.length : Nat) : Int) + 1 + 1 + 1 + ((dn.length : Nat) : Int)) (fun b hb => (HO2.out.block b (HNP2.out b hb)).trans (HS2.out b (HBL.out b (HIN2.out b hb)) (HNP2.out b hb) (HD02.out b hb) (HD12.out b hb))) (by omega) (by omega)).mono ?_
      rintro e w3 ⟨rfl, ho, ht⟩
      have hlt2 : w2.heap.size = w2.heap.size := HO2.out.size
      have hz3 : wr.heap.size ≤ w3.heap.size := by have := ht.size; omega
      have hlp3 : pg < w3.heap.size := by omega
      have E3 := HE2.out.keep (ht.block pg (by omega) (fun h => HNP2.out pg h rfl))
      have HTt3 : Hid (Touch bs w w3) := HTt2.out.trans ((HO2.out.touch HG1.out).trans (Touch.mono ht (fun y hy => HIN2.out y hy)))
      have HS3 : Hid (∀ b, b < wr.heap.size → b ≠ pg → b ∉ b0 → b ∉ b1 → b ∉ b2 → w3.heap[b]? = wr.heap[b]?) := fun b hb hp n0 n1 n2 => (ht.block b (by omega) n2).trans ((HO2.out.block b hp).trans (HS2.out b hb hp n0 n1))
      replace HOw0 : Hid (u8s.Ow w3 b0 (marks (x + 1 + 1 + 1 + 1 + 1) d5.length) [.slice d5a d5.length d5c]) := Sh.Ow.keep _ _ _ _ (fun b hb => (ht.block b (by have := HBL.out b (HIN0.out b hb); omega) (fun h => HD02.out b h hb)).trans (HO2.out.block b (HNP0.out b hb))) HOw0.out
      replace HOw1 : Hid (u8s.Ow w3 b1 (marks (x + 1 + 1 + 1 + 1 + 1 + ((d5.length : Nat) : Int) + 1 + 1 + 1) dn.length) [.slice dna dn.length dnc]) := Sh.Ow.keep _ _ _ _ (fun b hb => (ht.block b (by have := HBL.out b (HIN1.out b hb); omega) (fun h => HD12.out b h hb)).trans (HO2.out.block b (HNP1.out b hb))) HOw1.out
      have HOw2 : Hid (shPieces.Ow w3 b2 (mkL mkPiece wtPiece (x + 1 + 1 + 1 + 1 + 1 + ((d5.length : Nat) : Int) + 1 + 1 + 1 + ((dn.length : Nat) : Int)) ps) [.slice psa ps.length psc]) := ho
      clear ho ht hlt2 HE2 HO2 HM2 fz2 c10
      have c11 : w3.cell? ⟨pg, k * 14 + 11, none⟩ = some (.int .i64 (y11)) := E3.cell (j := 11) (by omega) (by decide)
      have c12 : w3.cell? ⟨pg, k * 14 + 12, none⟩ = some (.int .i64 (y12)) := E3.cell (j := 12) (by omega) (by decide)
      have c13 : w3.cell? ⟨pg, k * 14 + 13, none⟩ = some (.slice sba sb.length sbc) := E3.cell (j := 13) (by omega) (by decide)
      have fz3 := E3.frozen
      have EE3 := ((E3.set g3 (A := k * 14 + 11) (j := 11) (by omega) (by decide) (.int .i64 (x + 1 + 1 + 1 + 1 + 1 + ((d5.length : Nat) : Int) + 1 + 1 + 1 + ((dn.length : Nat) : Int) + ((fsum wtPiece ps : Nat) : Int)))).set g3 (A := k * 14 + 12) (j := 12) (by omega) (by decide) (.int .i64 (x + 1 + 1 + 1 + 1 + 1 + ((d5.length : Nat) : Int) + 1 + 1 + 1 + ((dn.length : Nat) : Int) + ((fsum wtPiece ps : Nat) : Int) + 1)))
      simp only [List.set_cons_zero, List.set_cons_succ] at EE3
      have HE3 : Hid _ := EE3
      have HO3 : Hid (On1 pg w3 ((w3.setCell ⟨pg, k * 14 + 11, none⟩ (.int .i64 (x + 1 + 1 + 1 + 1 + 1 + ((d5.length : Nat) : Int) + 1 + 1 + 1 + ((dn.length : Nat) : Int) + ((fsum wtPiece ps : Nat) : Int)))).setCell ⟨pg, k * 14 + 12, none⟩ (.int .i64 (x + 1 + 1 + 1 + 1 + 1 + ((d5.length : Nat) : Int) + 1 + 1 + 1 + ((dn.length : Nat) : Int) + ((fsum wtPiece ps : Nat) : Int) + 1)))) := (((On1.refl pg w3).set (k * 14 + 11) (.int .i64 (x + 1 + 1 + 1 + 1 + 1 + ((d5.length : Nat) : Int) + 1 + 1 + 1 + ((dn.length : Nat) : Int) + ((fsum wtPiece ps : Nat) : Int)))).set (k * 14 + 12) (.int .i64 (x + 1 + 1 + 1 + 1 + 1 + ((d5.length : Nat) : Int) + 1 + 1 + 1 + ((dn.length : Nat) : Int) + ((fsum wtPiece ps : Nat) : Int) + 1)))
      clear EE3 E3
      go_wp2_with fail
      refine (HM3.out _ (x + 1 + 1 + 1 + 1 + 1 + ((d5.length : Nat) : Int) + 1 + 1 + 1 + ((dn.length : Nat) : Int) + ((fsum wtPiece ps : Nat) : Int) + 1 + 1) (fun b hb => (HO3.out.block b (HNP3.out b hb)).trans (HS3.out b (HBL.out b (HIN3.out b hb)) (HNP3.out b hb) (HD03.out b hb) (HD13.out b hb) (HD23.out b hb))) (by omega) (by omega)).mono ?_
      rintro e w4 ⟨rfl, ho, ht⟩
      have hlt3 : ((w3.setCell ⟨pg, k * 14 + 11, none⟩ (.int .i64 (x + 1 + 1 + 1 + 1 + 1 + ((d5.length : Nat) : Int) + 1 + 1 + 1 + ((dn.length : Nat) : Int) + ((fsum wtPiece ps : Nat) : Int)))).setCell ⟨pg, k * 14 + 12, none⟩ (.int .i64 (x + 1 + 1 + 1 + 1 + 1 + ((d5.length : Nat) : Int) + 1 + 1 + 1 + ((dn.length : Nat) : Int) + ((fsum wtPiece ps : Nat) : Int) + 1))).heap.size = w3.heap.size := HO3.out.size
      have hz4 : wr.heap.size ≤ w4.heap.size := by have := ht.size; omega
      have hlp4 : pg < w4.heap.size := by omega
      have E4 := HE3.out.keep (ht.block pg (by omega) (fun h => HNP3.out pg h rfl))
      have HTt4 : Hid (Touch bs w w4) := HTt3.out.trans ((HO3.out.touch HG1.out).trans (Touch.mono ht (fun y hy => HIN3.out y hy)))
      have HS4 : Hid (∀ b, b < wr.heap.size → b ≠ pg → b ∉ b0 → b ∉ b1 → b ∉ b2 → b ∉ b3 → w4.heap[b]? = wr.heap[b]?) := fun b hb hp n0 n1 n2 n3 => (ht.block b (by omega) n3).trans ((HO3.out.block b hp).trans (HS3.out b hb hp n0 n1 n2))
      replace HOw0 : Hid (u8s.Ow w4 b0 (marks (x + 1 + 1 + 1 + 1 + 1) d5.length) [.slice d5a d5.length d5c]) := Sh.Ow.keep _ _ _ _ (fun b hb => (ht.block b (by have := HBL.out b (HIN0.out b hb); omega) (fun h => HD03.out b h hb)).trans (HO3.out.block b (HNP0.out b hb))) HOw0.out
      replace HOw1 : Hid (u8s.Ow w4 b1 (marks (x + 1 + 1 + 1 + 1 + 1 + ((d5.length : Nat) : Int) + 1 + 1 + 1) dn.length) [.slice dna dn.length dnc]) := Sh.Ow.keep _ _ _ _ (fun b hb => (ht.block b (by have := HBL.out b (HIN1.out b hb); omega) (fun h => HD13.out b h hb)).trans (HO3.out.block b (HNP1.out b hb))) HOw1.out
      replace HOw2 : Hid (shPieces.Ow w4 b2 (mkL mkPiece wtPiece (x + 1 + 1 + 1 + 1 + 1 + ((d5.length : Nat) : Int) + 1 + 1 + 1 + ((dn.length : Nat) : Int)) ps) [.slice psa ps.length psc]) := Sh.Ow.keep _ _ _ _ (fun b hb => (ht.block b (by have := HBL.out b (HIN2.out b hb); omega) (fun h => HD23.out b h hb)).trans (HO3.out.block b (HNP2.out b hb))) HOw2.out
      have HOw3 : Hid (shSubsO.Ow w4 b3 (mkL mkSubE wtSubE (x + 1 + 1 + 1 + 1 + 1 + ((d5.length : Nat) : Int) + 1 + 1 + 1 + ((dn.length : Nat) : Int) + ((fsum wtPiece ps : Nat) : Int) + 1 + 1) sb) [.slice sba sb.length sbc]) := ho
      clear ho ht hlt3 HE3 HO3 HM3 fz3 c11 c12 c13
      have HFIN : Hid (shConnsO.Ow w4 bs (mkL mkConnE wtConnE c (l.take (k + 1)) ++ l.drop (k + 1)) [.slice (some ⟨pg, 0, none⟩) N cap]) := by
        show shConnsO.Ow w4 bs _ _
        rw [← HST.out]
        obtain ⟨cur', q1, q2, q3, q4⟩ := E4
        refine HU.out _ cur' _ q1 q2 q3 ?_ (fun b hb h1 h2 => ?_)
        · show shConnO.Ow _ (b0 ++ ((b1 ++ b2) ++ b3)) _ (chunk _ 14 k)
          rw [q4, HME.out]
          refine mk_ConnO HOw0.out (mk_Gt (g := ((_ : List Int), (_ : List DPiece), ())) HOw1.out HOw2.out) HOw3.out ?_ ?_ ?_ ?_ ?_ ?_ <;> exact WalkArith.wf_i64 (by omega)
        · exact HS4.out b (HBL.out b hb) h1 (fun h => h2 (List.mem_append_left _ h)) (fun h => h2 (List.mem_append_right _ (List.mem_append_left _ (List.mem_append_left _ h)))) (fun h => h2 (List.mem_append_right _ (List.mem_append_left _ (List.mem_append_right _ h)))) (fun h => h2 (List.mem_append_right _ (List.mem_append_right _ h)))
      clear E4 HOw0 HOw1 HOw2 HOw3 HS1 HS2 HS3 HS4 HTt0 HTt1 HTt2 HTt3 HME HU
      go_wp2_with fail
      go_roundw
      case rel => exact ⟨k + 1, x + 1 + 1 + 1 + 1 + 1 + ((d5.length : Nat) : Int) + 1 + 1 + 1 + ((dn.length : Nat) : Int) + ((fsum wtPiece ps : Nat) : Int) + 1 + 1 + ((fsum wtSubE sb : Nat) : Int), by omega, by go_num, rfl, (by have h := HX2.out; show _ = _; push_cast at h ⊢; omega), by omega, by push_cast at hxx ⊢; omega, HFIN, HTt4⟩
      case measure => simp [intOf]; omega
    · obtain rfl : k = N := by omega
      go_wp2_with fail
      go_ret
      refine ⟨ret_int (by have := hx.out; rw [← HN.out, List.take_length] at this; exact this), ?_, HW.out⟩
      have h := HO.out
      rw [← HN.out, List.take_length, List.drop_length, List.append_nil] at h
      rw [← HN.out]; exact h
end Go.Proofs.YteaddhldleeaiaaGreat
