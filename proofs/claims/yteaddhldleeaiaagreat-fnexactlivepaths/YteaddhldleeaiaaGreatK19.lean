/- What the law's own helpers (measure, copy, compare) make of values of type Piece and slices of them; no condition but that there are at most a million parts. Written by hl.py. -/
import Derived.Test.YteaddhldleeaiaaGreatRows
import Derived.Deep.DeepCutAuto
import Derived.Deep.RegionHeld3
import Derived.Test.YteaddhldleeaiaaGreatK01
import Derived.Test.YteaddhldleeaiaaGreatK02
import Derived.Test.YteaddhldleeaiaaGreatK03
import Derived.Test.YteaddhldleeaiaaGreatK04
import Derived.Test.YteaddhldleeaiaaGreatK09
import Derived.Test.YteaddhldleeaiaaGreatK10
import Derived.Test.YteaddhldleeaiaaGreatK11
import Derived.Test.YteaddhldleeaiaaGreatK17
import Derived.Test.YteaddhldleeaiaaGreatK18
namespace Go.Proofs.YteaddhldleeaiaaGreat
open Go.RowKit
set_option linter.unusedVariables false

abbrev shPiece : Sh := .cons (.int .i64) (.cons u8s (.nil))
abbrev DPiece : Type := Int × List Int × Unit
def totPiece (x : DPiece) : Nat := x.2.1.length

theorem rd_Piece {w : World} {B : Nat} {x : DPiece} {cs : List Value} (h : shPiece.Rd w B x cs) : ∃ v, cs = [.int .i64 x.1, v] ∧ u8s.Rd w B x.2.1 [v] ∧ (Lit.int .i64 x.1).wf = true := by
  obtain ⟨p0, q0, e0, ⟨g0, w0⟩, p1, q1, e1, h1, hz⟩ := h
  have hz' : q1 = [] := hz
  have l := Sh.Rd.len _ _ _ h1
  replace l : p1.length = 1 := l
  match p1, l, h1 with
  | [v], _, h1 =>
    refine ⟨v, ?_, h1, w0⟩
    rw [e0, g0, e1, hz']
    rfl




abbrev shPieces : Sh := .row 141 shPiece
def totPieces (l : List DPiece) : Nat := l.length + fsum totPiece l
theorem at_Pieces {w : World} {B : Nat} {l : List DPiece} {a : Option Addr} {n cap : Nat} (h : shPieces.Rd w B l [.slice a n cap]) (k : Nat) (hk : k < l.length) : ∃ b off v, a = some ⟨b, off, none⟩ ∧ b < B ∧ w.cell? ⟨b, off + k * 2, none⟩ = some (.int .i64 l[k].1) ∧ w.cell? ⟨b, off + k * 2 + 1, none⟩ = some (v) ∧ shPiece.Rd w B l[k] [.int .i64 l[k].1, v] := by
  obtain ⟨a', cap', h1, h2, h3, b, off, h4, h5⟩ := h
  simp only [List.cons.injEq, Value.slice.injEq, and_true] at h1
  obtain ⟨rfl, -, -⟩ := h1
  obtain ⟨ea, hb⟩ := h4 (by intro e; subst e; simp at hk)
  obtain ⟨cs', g1, g2, g3⟩ := h5 k hk
  obtain ⟨v, e, -⟩ := rd_Piece g3
  subst e
  refine ⟨b, off, v, ea, hb, ?_, ?_, g3⟩
  · have := g2 0 (by decide); simpa [Sh.sz] using this
  · have := g2 1 (by decide); simpa [Sh.sz] using this



end Go.Proofs.YteaddhldleeaiaaGreat

/- Marks laid over values of type Piece, and what is held of them; no condition but on lengths. Written by hm.py. -/
namespace Go.Proofs.YteaddhldleeaiaaGreat
open Go.RowKit
set_option linter.unusedVariables false

theorem ow_Piece {w : World} {bs : List Nat} {x : DPiece} {cs : List Value} (h : shPiece.Ow w bs x cs) : ∃ v, cs = [.int .i64 x.1, v] ∧ u8s.Ow w bs x.2.1 [v] ∧ (Lit.int .i64 x.1).wf = true := by
  obtain ⟨a0, r0, p0, q0, eb0, ec0, ⟨f0, g0, w0⟩, a1, r1, p1, q1, eb1, ec1, h1, zb, zc⟩ := h
  have l := Sh.Ow.len _ _ _ _ h1
  replace l : p1.length = 1 := l
  match p1, l, h1 with
  | [v], _, h1 =>
    have hb : bs = a1 := by rw [eb0, f0, eb1, zb]; simp
    refine ⟨v, by rw [ec0, g0, ec1, zc]; rfl, by rw [hb]; exact h1, w0⟩
theorem mk_Piece {w : World} {bs : List Nat} {y0 : Int} {d : List Int} {v : Value} (h : u8s.Ow w bs d [v]) (w0 : (Lit.int .i64 y0).wf = true) : shPiece.Ow w bs (y0, d, ()) [.int .i64 y0, v] :=
  ⟨[], bs, [.int .i64 y0], [v], rfl, rfl, ⟨rfl, rfl, w0⟩, ⟨bs, [], [v], [], by simp, rfl, h, ⟨rfl, rfl⟩⟩⟩

def wtPiece (x : DPiece) : Nat := 1 + x.2.1.length
def mkPiece (c : Int) (x : DPiece) : DPiece := (c, marks (c + 1) x.2.1.length, ())
theorem wtPiece_sum (l : List DPiece) : fsum wtPiece l = 1 * l.length + fsum totPiece l := fsum_add 1 totPiece l

set_option maxHeartbeats 4000000 in
theorem lMarkPieces (l : List DPiece) (v : Value) (c : Int) (w : World) (bs : List Nat) (ho : shPieces.Ow w bs l [v]) (hnd : bs.Nodup) (hT : fsum wtPiece l ≤ 1073741824) (hc0 : 0 ≤ c) (hc1 : c ≤ 549755813888) :
    Calls Tryz.prog 60 #[v, .int .i64 c] w fun e w' => e = .returned (.int .i64 (c + (fsum wtPiece l : Nat))) ∧ shPieces.Ow w' bs (mkL mkPiece wtPiece c l) [v] ∧ Touch bs w w' := by
  obtain ⟨a, cap, ev⟩ := row_form (Sh.Ow.rd (Nat.le_refl _) _ _ _ _ ho)
  simp only [List.cons.injEq, and_true] at ev
  subst ev
  have HND : Hid _ := hnd
  have HT : Hid (∀ k, fsum wtPiece (l.take k) ≤ 1073741824) := fun k => by have := fsum_le (f := wtPiece) l k; omega
  have hn2 : l.length ≤ 1073741824 := by rw [wtPiece_sum] at hT; omega
  obtain ⟨N, hN⟩ : ∃ n, l.length = n := ⟨_, rfl⟩
  rw [hN] at ho hn2 ⊢
  have HN : Hid (l.length = N) := hN
  have H0 : Hid (shPieces.Ow w bs (mkL mkPiece wtPiece c (l.take 0) ++ l.drop 0) [.slice a N cap]) := by
    show shPieces.Ow w bs _ _
    simpa [mkL] using ho
  clear hnd ho hN hT
  go_enter Tryz.func60, Tryz.ntmps60
  go_wp2_with fail
  go_loopw [1, 5] (fun t i wr => ∃ (k : Nat) (x : Int), k ≤ N ∧ i = .int .i64 k ∧ t = .int .i64 x ∧ Hid (x = c + (fsum wtPiece (l.take k) : Nat)) ∧ 0 ≤ x ∧ x ≤ 1099511627776 ∧ Hid (shPieces.Ow wr bs (mkL mkPiece wtPiece c (l.take k) ++ l.drop k) [.slice a N cap]) ∧ Hid (Touch bs w wr)) (fun _ i _ => N - (intOf i).toNat)
  case atStart => exact ⟨0, c, Nat.zero_le _, rfl, rfl, (by simp [fsum] : c = c + (fsum wtPiece (l.take 0) : Nat)), hc0, by omega, H0, Touch.refl _ _⟩
  case round =>
    obtain ⟨k, x, hk, rfl, rfl, hx, hx0, hx1, HO, HW⟩ := hrel
    clear H0
    by_cases hlt : k < N
    · have hkp : k < l.length := by have := HN.out; omega
      have hlen : (mkL mkPiece wtPiece c (l.take k)).length = k := by rw [mkL_length]; simp; omega
      have hkl : k < (mkL mkPiece wtPiece c (l.take k) ++ l.drop k).length := by simp [hlen]; omega
      have hel : (mkL mkPiece wtPiece c (l.take k) ++ l.drop k)[k] = l[k] := by
        rw [List.getElem_append_right (by omega)]
        simp [hlen]
      obtain ⟨pg, cur, bk, ea, g1, g2, g3, g4, g5, g6, UPD⟩ := ow_elem HO.out HND.out k hkl
      subst ea
      rw [hel] at g5
      obtain ⟨v, ec, hK, wf0⟩ := ow_Piece g5
      obtain ⟨va, vc, ev⟩ := row_form (Sh.Ow.rd (Nat.le_refl _) _ _ _ _ hK)
      simp only [List.cons.injEq, and_true] at ev
      subst ev
      have hpt := fsum_take (f := wtPiece) hkp
      have hle := HT.out (k + 1)
      have hwt : wtPiece l[k] = 1 + l[k].2.1.length := rfl
      have HST : Hid ((mkL mkPiece wtPiece c (l.take k) ++ l.drop k).set k (mkPiece x l[k]) = mkL mkPiece wtPiece c (l.take (k + 1)) ++ l.drop (k + 1)) := by
        show _ = _
        rw [hx.out]; exact mkL_step c hkp
      have HX2 : Hid (x + 1 + (l[k].2.1.length : Int) = c + (fsum wtPiece (l.take (k + 1)) : Nat)) := by have := hx.out; show _ = _; omega
      have hxx : x + 1 + (l[k].2.1.length : Int) ≤ 1099511627776 := by have := hx.out; omega
      have hdl : l[k].2.1.length ≤ 1073741824 := by omega
      replace hK : u8s.Ow wr bk l[k].2.1 [.slice va l[k].2.1.length vc] := hK
      have c0 : wr.cell? ⟨pg, k * 2, none⟩ = some (.int .i64 l[k].1) := by
        have h := congrArg (fun l => l[0]?) ec
        replace h : (chunk cur.toList 2 k)[0]? = _ := h
        rw [chunk_get (by decide)] at h
        rw [cell_of_heap g2, ← Array.getElem?_toList]; simpa using h
      have c1 : wr.cell? ⟨pg, k * 2 + 1, none⟩ = some (.slice va l[k].2.1.length vc) := by
        have h := congrArg (fun l => l[1]?) ec
        replace h : (chunk cur.toList 2 k)[1]? = _ := h
        rw [chunk_get (by decide)] at h
        rw [cell_of_heap g2, ← Array.getElem?_toList]; simpa using h
      have fz : ∀ o, wr.frozen? ⟨pg, o, none⟩ = false := fun o => by simp [World.frozen?, g2]
      have fz0 := fz (k * 2)
      have ck : (wr.setCell ⟨pg, k * 2, none⟩ (.int .i64 x)).cell? ⟨pg, k * 2 + 1, none⟩ = some (.slice va l[k].2.1.length vc) := by rw [World.cell?_setCell_other _ _ _ _ (by simp)]; exact c1
      have HA : Hid ((wr.setCell ⟨pg, k * 2, none⟩ (.int .i64 x)).heap[pg]? = some (.cells (cur.setIfInBounds (k * 2 + 0) (.int .i64 (x))) 141 (0, 0))) := heap_set (g2)
      have HKa : Hid (u8s.Ow (wr.setCell ⟨pg, k * 2, none⟩ (.int .i64 x)) bk l[k].2.1 [.slice va l[k].2.1.length vc]) := Sh.Ow.keep _ _ _ _ (fun b hb => by repeat rw [Below.heap_setCell _ _ _ _ (by dsimp only; exact (g6 b hb).2)]) hK
      have HWa : Hid (Touch bs w (wr.setCell ⟨pg, k * 2, none⟩ (.int .i64 x))) := Touch.trans (HW.out) (Touch.grown grown_set (fun y e => by simp at e; exact e ▸ g1))
      have HSa : Hid (∀ b, b ≠ pg → (wr.setCell ⟨pg, k * 2, none⟩ (.int .i64 x)).heap[b]? = wr.heap[b]?) := fun b hb => by repeat rw [Below.heap_setCell _ _ _ _ (by dsimp only; exact hb)]
      have HPG : Hid (pg ∉ bk) := fun h => (g6 pg h).2 rfl
      have HG1 : Hid _ := g1
      have HG6 : Hid _ := g6
      have HBK : Hid _ := g4
      have HPL : Hid (pg < (wr.setCell ⟨pg, k * 2, none⟩ (.int .i64 x)).heap.size) := by show _ < _; have := heap_lt g2; simpa using this
      have HBL : Hid (∀ b ∈ bs, b < wr.heap.size) := Sh.Ow.lt _ _ _ _ HO.out
      have HSZ : Hid ((wr.setCell ⟨pg, k * 2, none⟩ (.int .i64 x)).heap.size = wr.heap.size) := by show _ = _; simp
      have HEC : Hid (chunk cur.toList 2 k = _) := ec
      have HG3 : Hid (k * 2 + 2 ≤ cur.size) := g3
      have HU : Hid _ := UPD
      have HME : Hid (mkPiece x l[k] = (x, marks (x + 1) l[k].2.1.length, ())) := rfl
      rw [HME.out] at HST
      clear UPD hel ec hK HME g1 g2 g3 g4 g5 g6 hpt hle hwt hlen hkl HO HW wf0
      generalize l[k].1 = z0 at *
      generalize l[k].2.1 = d at *
      generalize hn : d.length = n at *
      have HD : Hid (d.length = n) := hn
      clear hn
      go_wp2_with fail
      refine (lMarkBytesW d _ (x + 1) _ bk HKa.out HBK.out (by have := HD.out; omega) (by omega) (by omega)).mono ?_
      rintro e w1 ⟨rfl, ho1, ht1⟩
      rw [HD.out] at ho1 ⊢
      have HB1 : Hid (w1.heap[pg]? = some (.cells (cur.setIfInBounds (k * 2 + 0) (.int .i64 (x))) 141 (0, 0))) := by show _ = _; rw [ht1.block pg HPL.out HPG.out]; exact HA.out
      have d_ : ∀ o, w1.cell? ⟨pg, o, none⟩ = (wr.setCell ⟨pg, k * 2, none⟩ (.int .i64 x)).cell? ⟨pg, o, none⟩ := fun o => World.cell?_of_block (w := (wr.setCell ⟨pg, k * 2, none⟩ (.int .i64 x))) (a := ⟨pg, o, none⟩) (ht1.block pg HPL.out HPG.out)
      have fy : ∀ o, w1.frozen? ⟨pg, o, none⟩ = false := fun o => by simp [World.frozen?, HB1.out]
      have HF : Hid (shPieces.Ow w1 bs ((mkL mkPiece wtPiece c (l.take k) ++ l.drop k).set k (x, marks (x + 1) n, ())) [.slice (some ⟨pg, 0, none⟩) N cap]) := by
        refine HU.out _ (cur.setIfInBounds (k * 2 + 0) (.int .i64 (x))) _ (HB1.out) (by simp) (fun i hi => ?_) ?_ (fun b hb h1 h2 => ?_)
        · show chunk _ 2 i = chunk _ 2 i
          rw [chunk_set1 (sz := 2) (k := k) (by decide) (by have := HG3.out; simp; omega), if_neg hi]
        · show shPiece.Ow _ bk _ (chunk _ 2 k)
          rw [chunk_set1 (sz := 2) (k := k) (by decide) (by have := HG3.out; simp; omega), if_pos rfl, HEC.out]
          refine mk_Piece (Sh.Ow.keep _ _ _ _ (fun b hb => by (repeat rw [Below.heap_setCell _ _ _ _ (by dsimp only; exact (HG6.out b hb).2)]); try rfl) ho1) (WalkArith.wf_i64 (by omega))
        · repeat rw [Below.heap_setCell _ _ _ _ (by dsimp only; exact h1)]
          rw [ht1.block b (by rw [HSZ.out]; exact HBL.out b hb) h2]
          exact HSa.out b h1
      have HWb : Hid (Touch bs w w1) := Touch.trans HWa.out (Touch.mono ht1 fun y hy => (HG6.out y hy).1)
      clear ho1 ht1 d_ fy
      go_wp2_with fail
      go_roundw
      case rel => exact ⟨k + 1, x + 1 + (n : Int), by omega, by go_num, rfl, HX2, by omega, hxx, (by show shPieces.Ow _ bs _ _; rw [← HST.out]; exact HF.out), HWb⟩
      case measure => simp [intOf]; omega
    · obtain rfl : k = N := by omega
      go_wp2_with fail
      go_ret
      refine ⟨ret_int (by have := hx.out; rw [← HN.out, List.take_length] at this; exact this), ?_, HW.out⟩
      have h := HO.out
      rw [← HN.out, List.take_length, List.drop_length, List.append_nil] at h
      rw [← HN.out]; exact h

end Go.Proofs.YteaddhldleeaiaaGreat

/- Marks over gathers and conns of the call's own; no condition but that there are at most a million parts. -/
namespace Go.Proofs.YteaddhldleeaiaaGreat
open Go.RowKit
set_option linter.unusedVariables false
set_option maxRecDepth 8000

/-- The marks of a gather, of a conn. -/
def wtGt (g : Gt) : Nat := g.1.length + fsum wtPiece g.2.1
def mkGt (c : Int) (g : Gt) : Gt := (marks c g.1.length, mkL mkPiece wtPiece (c + (g.1.length : Nat)) g.2.1, ())
theorem wtGt_tot (g : Gt) : wtGt g = gtTot g := by
  unfold wtGt gtTot pcsTot dsum
  rw [show fsum wtPiece g.2.1 = 1 * g.2.1.length + fsum totPiece g.2.1 from fsum_add 1 totPiece g.2.1]
  rw [Nat.one_mul]
  rfl
theorem ow_Gt {w : World} {bs : List Nat} {g : Gt} {v1 v2 : Value} (h : gtS.Ow w bs g [v1, v2]) : ∃ b1 b2, bs = b1 ++ b2 ∧ u8s.Ow w b1 g.1 [v1] ∧ shPieces.Ow w b2 g.2.1 [v2] := by
  obtain ⟨b1, b2, c1, c2, e1, e2, h1, b3, b4, c3, c4, e3, e4, h2, e5, e6⟩ := h
  have l1 := Sh.Ow.len _ _ _ _ h1
  have l2 := Sh.Ow.len _ _ _ _ h2
  replace l1 : c1.length = 1 := l1
  replace l2 : c3.length = 1 := l2
  match c1, l1, c3, l2 with
  | [x1], _, [x2], _ =>
    subst e5 e6 e4 e3
    simp only [List.append_nil, List.cons_append, List.nil_append, List.cons.injEq, and_true] at e2
    obtain ⟨rfl, rfl⟩ := e2
    exact ⟨b1, b3, by simpa using e1, h1, h2⟩
theorem mk_Gt {w : World} {b1 b2 : List Nat} {g : Gt} {v1 v2 : Value} (h1 : u8s.Ow w b1 g.1 [v1]) (h2 : shPieces.Ow w b2 g.2.1 [v2]) : gtS.Ow w (b1 ++ b2) g [v1, v2] :=
  ⟨b1, b2, [v1], [v2], rfl, rfl, h1, b2, [], [v2], [], by simp, rfl, h2, rfl, rfl⟩
abbrev shConnO : Sh := .cons (.int .i64) (.cons (.int .i64) (.cons (.int .i64) (.cons .bool (.cons .bool (.cons u8s (.cons .bool (.cons (.int .i64) (.cons .bool (.cons gtS (.cons (.int .i64) (.cons (.int .i64) (.cons shSubsO (.nil)))))))))))))
def wtConn (x : DConn) : Nat := x.2.2.2.2.2.1.length + wtGt x.2.2.2.2.2.2.2.2.2.1 + fsum wtSubE x.2.2.2.2.2.2.2.2.2.2.2.2.1
def mkConn (c : Int) : DConn → DConn
  | (y0, y1, y2, y3, y4, d5, y6, y7, y8, d9, y10, y11, d12, _) => (y0, y1, y2, y3, y4, marks c d5.length, y6, y7, y8, mkGt (c + (d5.length : Nat)) d9, y10, y11, mkL mkSubE wtSubE (c + (d5.length : Nat) + (wtGt d9 : Nat)) d12, ())
theorem wtSubE_le (x : DSub) : wtSubE x ≤ 14 + 8 * totSub x := by
  obtain ⟨y0, y1, y2, y3, y4, y5, ⟨s0, s1, s2, fl, ⟨⟩⟩, ⟨c0, c1, sp, ⟨⟩⟩, ⟨k0, k1, k2, ⟨⟩⟩, ⟨⟩⟩ := x
  show 14 + (fsum wtFlight fl + fsum wtSpan sp) ≤ 14 + 8 * ((fl.length + fsum totFlight fl) + sp.length)
  rw [wtFlight_sum, wtSpan_sum]; omega
theorem wtSubs_le : ∀ (l : List DSub), fsum wtSubE l ≤ 14 * l.length + 8 * fsum totSub l
  | [] => Nat.le_refl _
  | x :: l => by rw [fsum_cons, fsum_cons, List.length_cons]; have := wtSubE_le x; have := wtSubs_le l; omega
theorem ow_ConnO {w : World} {bs : List Nat} {y0 y1 y2 : Int} {y3 y4 : Bool} {d5 : List Int} {y6 : Bool} {y7 : Int} {y8 : Bool} {d9 : Gt} {y10 y11 : Int} {d12 : List DSub} {cs : List Value} (h : shConnO.Ow w bs (y0, y1, y2, y3, y4, d5, y6, y7, y8, d9, y10, y11, d12, ()) cs) :
    ∃ b1 b2 b3 u v1 v2 s, bs = b1 ++ (b2 ++ b3) ∧ cs = [.int .i64 y0, .int .i64 y1, .int .i64 y2, .bool y3, .bool y4, u, .bool y6, .int .i64 y7, .bool y8, v1, v2, .int .i64 y10, .int .i64 y11, s] ∧ u8s.Ow w b1 d5 [u] ∧ gtS.Ow w b2 d9 [v1, v2] ∧ shSubsO.Ow w b3 d12 [s] ∧
      (∀ (W : World) (e5 : List Int) (e9 : Gt) (e12 : List DSub), u8s.Ow W b1 e5 [u] → gtS.Ow W b2 e9 [v1, v2] → shSubsO.Ow W b3 e12 [s] → shConnO.Ow W bs (y0, y1, y2, y3, y4, e5, y6, y7, y8, e9, y10, y11, e12, ()) cs) := by
  obtain ⟨a0, r0, p0, q0, eb0, ec0, ⟨f0, g0, w0⟩, a1, r1, p1, q1, eb1, ec1, ⟨f1, g1, w1⟩, a2, r2, p2, q2, eb2, ec2, ⟨f2, g2, w2⟩, a3, r3, p3, q3, eb3, ec3, ⟨f3, g3⟩, a4, r4, p4, q4, eb4, ec4, ⟨f4, g4⟩, a5, r5, p5, q5, eb5, ec5, h5, a6, r6, p6, q6, eb6, ec6, ⟨f6, g6⟩, a7, r7, p7, q7, eb7, ec7, ⟨f7, g7, w7⟩, a8, r8, p8, q8, eb8, ec8, ⟨f8, g8⟩, a9, r9, p9, q9, eb9, ec9, h9, a10, r10, p10, q10, eb10, ec10, ⟨f10, g10, w10⟩, a11, r11, p11, q11, eb11, ec11, ⟨f11, g11, w11⟩, a12, r12, p12, q12, eb12, ec12, h12, zb, zc⟩ := h
  have l5 : p5.length = 1 := Sh.Ow.len _ _ _ _ h5
  have l9 : p9.length = 2 := Sh.Ow.len _ _ _ _ h9
  have l12 : p12.length = 1 := Sh.Ow.len _ _ _ _ h12
  match p5, l5, p9, l9, p12, l12 with
  | [u], _, [v1, v2], _, [s], _ =>
    refine ⟨a5, a9, a12, u, v1, v2, s, ?_, ?_, h5, h9, h12, fun W e5 e9 e12 k5 k9 k12 => ?_⟩
    · rw [eb0, f0, eb1, f1, eb2, f2, eb3, f3, eb4, f4, eb5, eb6, f6, eb7, f7, eb8, f8, eb9, eb10, f10, eb11, f11, eb12, zb]
      simp
    · rw [ec0, g0, ec1, g1, ec2, g2, ec3, g3, ec4, g4, ec5, ec6, g6, ec7, g7, ec8, g8, ec9, ec10, g10, ec11, g11, ec12, zc]
      rfl
    · exact ⟨a0, r0, p0, q0, eb0, ec0, ⟨f0, g0, w0⟩, a1, r1, p1, q1, eb1, ec1, ⟨f1, g1, w1⟩, a2, r2, p2, q2, eb2, ec2, ⟨f2, g2, w2⟩, a3, r3, p3, q3, eb3, ec3, ⟨f3, g3⟩, a4, r4, p4, q4, eb4, ec4, ⟨f4, g4⟩, a5, r5, [u], q5, eb5, ec5, k5, a6, r6, p6, q6, eb6, ec6, ⟨f6, g6⟩, a7, r7, p7, q7, eb7, ec7, ⟨f7, g7, w7⟩, a8, r8, p8, q8, eb8, ec8, ⟨f8, g8⟩, a9, r9, [v1, v2], q9, eb9, ec9, k9, a10, r10, p10, q10, eb10, ec10, ⟨f10, g10, w10⟩, a11, r11, p11, q11, eb11, ec11, ⟨f11, g11, w11⟩, a12, r12, [s], q12, eb12, ec12, k12, zb, zc⟩
theorem gt_two {w : World} {b : Nat} {A : Array Value} (h : ∀ o, w.cell? ⟨b, o, none⟩ = A[o]?) {j : Nat} {v : Value} (hj : A[j]? = some v) : w.cell? ⟨b, j, none⟩ = some v := (h j).trans hj
end Go.Proofs.YteaddhldleeaiaaGreat

/- Conns that are owned, their spans at the beginning of their blocks, are owned with spans at any place; no condition. -/
namespace Go.Proofs.YteaddhldleeaiaaGreat
open Go.RowKit
set_option linter.unusedVariables false
set_option maxRecDepth 8000

theorem ow_SubO {w : World} {bs : List Nat} {x : DSub} {cs : List Value} (h : shSub.Ow w bs x cs) : shSubO.Ow w bs x cs := by
  obtain ⟨a0, r0, p0, q0, eb0, ec0, h0, a1, r1, p1, q1, eb1, ec1, h1, a2, r2, p2, q2, eb2, ec2, h2, a3, r3, p3, q3, eb3, ec3, h3, a4, r4, p4, q4, eb4, ec4, h4, a5, r5, p5, q5, eb5, ec5, h5, a6, r6, p6, q6, eb6, ec6, h6, a7, r7, p7, q7, eb7, ec7, h7, hz⟩ := h
  exact ⟨a0, r0, p0, q0, eb0, ec0, h0, a1, r1, p1, q1, eb1, ec1, h1, a2, r2, p2, q2, eb2, ec2, h2, a3, r3, p3, q3, eb3, ec3, h3, a4, r4, p4, q4, eb4, ec4, h4, a5, r5, p5, q5, eb5, ec5, h5, a6, r6, p6, q6, eb6, ec6, h6, a7, r7, p7, q7, eb7, ec7, ow_CatchO h7, hz⟩
theorem ow_SubsO {w : World} {bs : List Nat} {l : List DSub} {cs : List Value} (h : shSubs.Ow w bs l cs) : shSubsO.Ow w bs l cs := by
  rcases h with h | ⟨g, cap, cur, F, h1, h2, h3, h4, h5, h6, h7, h8⟩
  · exact Or.inl h
  · exact Or.inr ⟨g, cap, cur, F, h1, h2, h3, h4, h5, h6, h7, fun i hi => ow_SubO (h8 i hi)⟩
theorem Own.connO {w : World} {lo hi : Nat} {x : DConn} {cs : List Value} (h : Own w lo hi shConn x cs) : Own w lo hi shConnO x cs := by
  obtain ⟨bs, h, hn, hb⟩ := h
  obtain ⟨a0, r0, p0, q0, eb0, ec0, h0, a1, r1, p1, q1, eb1, ec1, h1, a2, r2, p2, q2, eb2, ec2, h2, a3, r3, p3, q3, eb3, ec3, h3, a4, r4, p4, q4, eb4, ec4, h4, a5, r5, p5, q5, eb5, ec5, h5, a6, r6, p6, q6, eb6, ec6, h6, a7, r7, p7, q7, eb7, ec7, h7, a8, r8, p8, q8, eb8, ec8, h8, a9, r9, p9, q9, eb9, ec9, h9, a10, r10, p10, q10, eb10, ec10, h10, a11, r11, p11, q11, eb11, ec11, h11, a12, r12, p12, q12, eb12, ec12, h12, hz⟩ := h
  exact ⟨bs, ⟨a0, r0, p0, q0, eb0, ec0, h0, a1, r1, p1, q1, eb1, ec1, h1, a2, r2, p2, q2, eb2, ec2, h2, a3, r3, p3, q3, eb3, ec3, h3, a4, r4, p4, q4, eb4, ec4, h4, a5, r5, p5, q5, eb5, ec5, h5, a6, r6, p6, q6, eb6, ec6, h6, a7, r7, p7, q7, eb7, ec7, h7, a8, r8, p8, q8, eb8, ec8, h8, a9, r9, p9, q9, eb9, ec9, h9, a10, r10, p10, q10, eb10, ec10, h10, a11, r11, p11, q11, eb11, ec11, h11, a12, r12, p12, q12, eb12, ec12, ow_SubsO h12, hz⟩, hn, hb⟩
end Go.Proofs.YteaddhldleeaiaaGreat
