/- What the law's own helpers (mark, hold against the marks, compare) make of gathers and of answers that hold one; no condition but on lengths. -/
import Derived.Test.YtfeneeacchpfeaiRows
import Derived.Test.YtfeneeacchpfeaiBase
import Derived.Test.YtfeneeacchpfeaiBytes
import Derived.Test.YtfeneeacchpfeaiMem
import Derived.Test.YtfeneeacchpfeaiMemOpen
import Derived.Test.YtfeneeacchpfeaiMemRow
import Derived.Test.YtfeneeacchpfeaiGath
import Derived.Test.YtfeneeacchpfeaiGathLaw
import Derived.Test.YtfeneeacchpfeaiPMap
import Derived.Test.YtfeneeacchpfeaiPRun
import Derived.Test.YtfeneeacchpfeaiPutDef
import Derived.Test.YtfeneeacchpfeaiPLast
import Derived.Test.YtfeneeacchpfeaiPMark
import Derived.Test.YtfeneeacchpfeaiBox
namespace Go.Proofs.Ytfeneeacchpfeai
open Go.RowKit Go.Maps
set_option linter.unusedVariables false

theorem grown_set {w : World} {a : Addr} {v : Value} : w.grownBy (w.setCell a v) (some a.block) :=
  ⟨rfl, rfl, rfl, by simp, fun j _ hne => Below.heap_setCell _ _ _ _ (fun e => hne (by rw [e]))⟩

set_option maxHeartbeats 2000000 in
theorem lMarkPieceS (ps : List Pc) (a : Option Addr) (n cap : Nat) (c : Int) (w : World) (bs : List Nat) (hn : ps.length = n) (ho : pcsS.Ow w bs ps [.slice a n cap]) (hnd : bs.Nodup) (hT : pcsTot ps ≤ 1073741824) (hc0 : 0 ≤ c) (hc1 : c ≤ 1099511627776) :
    Calls Try.prog 54 #[.slice a n cap, .int .i64 c] w fun e w' => e = .returned (.int .i64 (c + pcsTot ps)) ∧ pcsS.Ow w' bs (markP c ps) [.slice a n cap] ∧ Touch bs w w' := by
  have HN : Hid _ := hnd
  have HT : Hid (∀ k, pcsTot (ps.take k) ≤ 1073741824) := fun k => by have := pcsTot_le ps k; omega
  have H0 : Hid (pcsS.Ow w bs (markP c (ps.take 0) ++ ps.drop 0) [.slice a n cap]) := by
    show pcsS.Ow w bs _ _
    simpa [markP] using ho
  have hn2 : n ≤ 1073741824 := by unfold pcsTot at hT; omega
  clear hnd ho
  go_enter Try.func54, Try.ntmps54
  go_wp2_with fail
  go_loopw [1, 5] (fun t i wr => ∃ (k : Nat) (x : Int), k ≤ n ∧ i = .int .i64 k ∧ t = .int .i64 x ∧ Hid (x = c + pcsTot (ps.take k)) ∧ 0 ≤ x ∧ x ≤ 1100585369600 ∧ Hid (pcsS.Ow wr bs (markP c (ps.take k) ++ ps.drop k) [.slice a n cap]) ∧ Hid (Touch bs w wr)) (fun _ i _ => n - (intOf i).toNat)
  case atStart => exact ⟨0, c, Nat.zero_le _, rfl, rfl, (by simp [pcsTot, dsum] : c = c + (pcsTot (ps.take 0) : Nat)), hc0, by omega, H0, Touch.refl _ _⟩
  case round =>
    obtain ⟨k, x, hk, rfl, rfl, hx, hx0, hx1, HO, HW⟩ := hrel
    clear H0
    by_cases hlt : k < n
    · have hlen : (markP c (ps.take k)).length = k := by rw [markP_length]; simp; omega
      have hkl : k < (markP c (ps.take k) ++ ps.drop k).length := by simp [hlen]; omega
      have hkp : k < ps.length := by omega
      have hel : (markP c (ps.take k) ++ ps.drop k)[k] = ps[k] := by
        rw [List.getElem_append_right (by omega)]
        simp [hlen]
      obtain ⟨pg, al, cl, ea, g1, g2, g3, c0, c1, fz, hob, hblk, UPD⟩ := ow_at HO.out HN.out k hkl
      subst ea
      rw [hel] at c0 c1 hob hblk UPD
      have hpt := pcsTot_take (ps := ps) (k := k) (by omega)
      have hle := HT.out (k + 1)
      have HST : Hid ((markP c (ps.take k) ++ ps.drop k).set k (x, marks (x + 1) ps[k].2.1.length, ()) = markP c (ps.take (k + 1)) ++ ps.drop (k + 1)) := by
        show _ = _
        rw [hx.out]; exact markP_step c (by omega)
      have HX2 : Hid (x + 1 + (ps[k].2.1.length : Int) = c + pcsTot (ps.take (k + 1))) := by have := hx.out; show _ = _; omega
      have hdl : ps[k].2.1.length ≤ 1073741824 := by omega
      have hxx : x + 1 + (ps[k].2.1.length : Int) ≤ 1100585369600 := by have := hx.out; omega
      have hwfx : (Lit.int .i64 x).wf = true := by simp [Lit.wf, IntKind.min, IntKind.max, IntKind.signed, IntKind.bits]; omega
      have hx2 : x + 1 ≤ 1100585369601 := by omega
      clear hpt hle
      have HOB : Hid (OB (wr.setCell ⟨pg, k * 2, none⟩ (.int .i64 x)) 0 (.slice al ps[k].2.1.length cl) ps[k].2.1) := ob_grown hob grown_set (fun b e e2 => by simp at e2; exact (hblk b e).2.1 e2.symm)
      have HU := fun w' => UPD w' x (marks (x + 1) ps[k].2.1.length) hwfx
      have HU2 : Hid _ := HU
      have HBk : Hid _ := hblk
      obtain ⟨oldv, hold⟩ : ∃ v, wr.cell? ⟨pg, k * 2, none⟩ = some v := ⟨_, c0⟩
      have c2 : (wr.setCell ⟨pg, k * 2, none⟩ (.int .i64 x)).cell? ⟨pg, k * 2 + 1, none⟩ = some (.slice al ps[k].2.1.length cl) := by rw [World.cell?_setCell_other _ _ _ _ (by simp)]; exact c1
      have fz0 := fz (k * 2)
      have HW1 : Hid (Touch bs w (wr.setCell ⟨pg, k * 2, none⟩ (.int .i64 x))) := HW.out.trans (Touch.grown grown_set (fun y e => by simp at e; exact e ▸ g1))
      clear UPD HU hblk hob fz hel HO HW hx c0 g3
      generalize ps[k].2.1 = d at *
      generalize ps[k].1 = at' at *
      have HPG : Hid (pg < (wr.setCell ⟨pg, k * 2, none⟩ (.int .i64 x)).heap.size) := by show _ < _; simpa using g2
      go_wp2_with fail
      refine (lMark 0 _ (x + 1) d _ HOB.out hdl (by omega) (by omega)).mono ?_
      rintro e w1 ⟨rfl, ho1, hg1⟩
      have HO1 : Hid _ := HU2.out w1 ho1 hg1
      have HW2 : Hid (Touch bs w w1) := HW1.out.trans (Touch.grown hg1 (fun y e => (HBk.out y e).1))
      clear ho1 hg1
      go_wp2_with fail
      go_roundw
      case rel => exact ⟨k + 1, x + 1 + d.length, by omega, by go_num, rfl, HX2, by omega, hxx, (by show pcsS.Ow w1 bs _ _; rw [← HST.out]; exact HO1.out), HW2⟩
      case measure => simp [intOf]; omega
    · obtain rfl : k = n := by omega
      go_wp2_with fail
      go_ret
      refine ⟨ret_int (by have := hx.out; rw [← hn, List.take_length] at this; exact this), ?_, HW.out⟩
      have h := HO.out
      rw [← hn, List.take_length, List.drop_length, List.append_nil] at h
      rw [← hn]; exact h

set_option maxHeartbeats 2000000 in
theorem lHeldPieceS (ps : List Pc) (a : Option Addr) (n cap : Nat) (c : Int) (w : World) (B : Nat) (hn : ps.length = n) (hr : pcsS.Rd w B (markP c ps) [.slice a n cap]) (hT : pcsTot ps ≤ 1073741824) (hc0 : 0 ≤ c) (hc1 : c ≤ 1099511627776) :
    Calls Try.prog 64 #[.slice a n cap, .int .i64 c] w fun e w' => e = .returned (.int .i64 (c + pcsTot ps)) ∧ w' = w := by
  have HT : Hid (∀ k, pcsTot (ps.take k) ≤ 1073741824) := fun k => by have := pcsTot_le ps k; omega
  have hn2 : n ≤ 1073741824 := by unfold pcsTot at hT; omega
  have HR : Hid (pcsS.Rd w B (markP c ps) [.slice a n cap]) := hr
  clear hr
  go_enter Try.func64, Try.ntmps64
  go_wp2_with fail
  go_loopw [1, 5] (fun t i wr => ∃ (k : Nat) (x : Int), k ≤ n ∧ i = .int .i64 k ∧ t = .int .i64 x ∧ Hid (x = c + pcsTot (ps.take k)) ∧ 0 ≤ x ∧ x ≤ 1100585369600 ∧ wr = w) (fun _ i _ => n - (intOf i).toNat)
  case atStart => exact ⟨0, c, Nat.zero_le _, rfl, rfl, (by simp [pcsTot, dsum] : c = c + (pcsTot (ps.take 0) : Nat)), hc0, by omega, rfl⟩
  case round =>
    obtain ⟨k, x, hk, rfl, rfl, hx, hx0, hx1, rfl⟩ := hrel
    by_cases hlt : k < n
    · have hkp : k < ps.length := by omega
      have hkm : k < (markP c ps).length := by rw [markP_length]; exact hkp
      obtain ⟨_, _, e1, -, -, hp⟩ := rd_pcs HR.out
      obtain ⟨b, off, ad, cc, ha, hb, y0, y1, r3, hw⟩ := hp k hkm
      simp only [List.cons.injEq, Value.slice.injEq, and_true] at e1
      rw [← e1.1] at ha
      subst ha
      rw [markP_at c hkp hkm, ← hx.out] at y0 y1 r3
      obtain ⟨ad1, c1, e3, r4, -, -⟩ := rd_bytes r3
      simp only [marks_length, List.cons.injEq, Value.slice.injEq, and_true, true_and] at e3 y1
      obtain ⟨rfl, rfl⟩ := e3
      have hpt := pcsTot_take (ps := ps) (k := k) hkp
      have hle := HT.out (k + 1)
      have HX2 : Hid (x + 1 + (ps[k].2.1.length : Int) = c + pcsTot (ps.take (k + 1))) := by have := hx.out; show _ = _; omega
      have hdl : ps[k].2.1.length ≤ 1073741824 := by omega
      have hxx : x + 1 + (ps[k].2.1.length : Int) ≤ 1100585369600 := by have := hx.out; omega
      have hxn : 0 ≤ x + 1 + (ps[k].2.1.length : Int) := by omega
      have HRB : Hid _ := r4
      clear hp r3 e1 r4 hw hpt hle hx
      generalize ps[k].2.1.length = d at *
      go_wp2_with fail
      refine (lHeldByteS ad d cc (x + 1) _ HRB.out hdl (by omega) (by omega)).mono ?_
      rintro e w1 ⟨rfl, hw1⟩
      subst w1
      go_wp2_with fail
      go_roundw
      case rel => exact ⟨k + 1, x + 1 + d, by omega, by go_num, rfl, HX2, hxn, hxx, by first | rfl | trivial⟩
      case measure => simp [intOf]; omega
    · obtain rfl : k = n := by omega
      go_wp2_with fail
      go_ret
      exact ⟨ret_int (by have := hx.out; rw [← hn, List.take_length] at this; exact this), rfl⟩

/-- The marks of a gather from c on. -/
def markG (c : Int) (g : Gt) : Gt := (marks c g.1.length, markP (c + g.1.length) g.2.1, ())

theorem gt_parts {w : World} {bs : List Nat} {g : Gt} {v1 v2 : Value} (h : gtS.Ow w bs g [v1, v2]) : ∃ b1 b2, bs = b1 ++ b2 ∧ u8s.Ow w b1 g.1 [v1] ∧ pcsS.Ow w b2 g.2.1 [v2] := by
  obtain ⟨b1, b2, c1, c2, e1, e2, h1, b3, b4, c3, c4, e3, e4, h2, e5, e6⟩ := h
  have l1 := Sh.Ow.len _ _ _ _ h1
  have l2 := Sh.Ow.len _ _ _ _ h2
  replace l1 : c1.length = 1 := l1
  replace l2 : c3.length = 1 := l2
  match c1, l1, c3, l2 with
  | [x1], _, [x2], _ =>
    subst e5 e6 e4 e3
    simp only [List.append_nil, List.cons_append, List.nil_append, List.cons.injEq, and_true] at e2
    obtain ⟨rfl, rfl⟩ := e2
    exact ⟨b1, b3, by simpa using e1, h1, h2⟩
theorem gt_mk {w : World} {b1 b2 : List Nat} {g : Gt} {v1 v2 : Value} (h1 : u8s.Ow w b1 g.1 [v1]) (h2 : pcsS.Ow w b2 g.2.1 [v2]) : gtS.Ow w (b1 ++ b2) g [v1, v2] :=
  ⟨b1, b2, [v1], [v2], rfl, rfl, h1, b2, [], [v2], [], by simp, rfl, h2, rfl, rfl⟩

set_option maxHeartbeats 2000000 in
theorem lMarkGather (g : Gt) (v1 v2 : Value) (c : Int) (w : World) (lo hi : Nat) (ho : Own w lo hi gtS g [v1, v2]) (hT : gtTot g ≤ 1048576) (hc0 : 0 ≤ c) (hc1 : c ≤ 1073741824) :
    Calls Try.prog 28 #[.agg #[v1, v2], .int .i64 c] w fun e w' => e = .returned (.int .i64 (c + gtTot g)) ∧ Own w' lo hi gtS (markG c g) [v1, v2] ∧ Within lo hi w w' := by
  obtain ⟨a1, c1, a2, c2, e0, -, -⟩ := rd_gt (ho.rd (Nat.le_refl _))
  simp only [List.cons.injEq, and_true] at e0
  obtain ⟨rfl, rfl⟩ := e0
  obtain ⟨bs, hO, hnd, hbd⟩ := ho
  obtain ⟨b1, b2, rfl, h1, h2⟩ := gt_parts hO
  rw [List.nodup_append] at hnd
  obtain ⟨vv, ev, hob, hb1, hb2⟩ := bytes_ob h1
  simp only [List.cons.injEq, and_true] at ev
  subst ev
  have t1 : g.1.length ≤ 1048576 := by unfold gtTot at hT; omega
  have t2 : pcsTot g.2.1 ≤ 1048576 := by unfold gtTot at hT; omega
  have HG : Hid (c + (g.1.length : Int) + pcsTot g.2.1 = c + gtTot g) := by show _ = _; unfold gtTot; omega
  have hlt : ∀ b ∈ b1 ++ b2, b < w.heap.size := Sh.Ow.lt _ _ _ _ hO
  have H1 : Hid (∀ W, Below w.heap.size w W → OB W 0 (.slice a1 g.1.length c1) g.1) := fun W hW => hob.below (Nat.le_refl _) hW
  have H2 : Hid (∀ W, (∀ b ∈ b2, W.heap[b]? = w.heap[b]?) → pcsS.Ow W b2 g.2.1 [.slice a2 g.2.1.length c2]) := fun W hW => Sh.Ow.keep _ _ _ _ hW h2
  have HND : Hid _ := hnd
  have HBD : Hid _ := hbd
  have HLT : Hid _ := hlt
  have HB1 : Hid (∀ b, (Value.slice a1 g.1.length c1).ownBlock = some b → b ∈ b1) := hb1
  have HFP : Hid (b1 = (Value.slice a1 g.1.length c1).ownBlock.toList) := bytes_fp h1
  clear hO h1 h2 hob hb1 hb2 hnd hbd hlt hT
  obtain ⟨done, ps, _⟩ := g
  simp only at *
  go_enter Try.func28, Try.ntmps28
  go_wp2_with fail
  refine (lMark 0 _ c done _ (H1.out _ (by go_grown)) (by omega) hc0 (by omega)).mono ?_
  rintro e w1 ⟨rfl, ho1, hg1⟩
  have hz := hg1.size
  simp at hz
  have k0 : ∀ o, w1.cell? ⟨w.heap.size, o, none⟩ = (#[.slice a1 done.length c1, .slice a2 ps.length c2] : Array Value)[o]? := fun o => by
    rw [World.cell?_of_block (w := _) (a := ⟨w.heap.size, o, none⟩) (hg1.block w.heap.size (by simp) (fun e => by have := HLT.out _ (List.mem_append_left _ (HB1.out _ e.symm)); omega))]; simp [go_sem]
  have HW1 : Hid (Touch b1 w w1) := (Touch.below ((Below.refl _ _).alloc (Nat.le_refl _) _)).trans (Touch.grown hg1 fun x e => HB1.out x e)
  obtain ⟨bs1, q1, q2, q3⟩ := ob_ow ho1
  have HQ : Hid (u8s.Ow w1 b1 (marks c done.length) [.slice a1 done.length c1]) := by
    have := bytes_fp q1
    rw [← HFP.out] at this
    rw [← this]; exact q1
  have H3 : Hid (pcsS.Ow w1 b2 ps [.slice a2 ps.length c2]) := H2.out w1 fun b hb => HW1.out.block b (HLT.out b (List.mem_append_right _ hb)) fun hb' => HND.out.2.2 b hb' b hb rfl
  clear ho1 hg1 hz q1 q2 q3 H1 H2
  go_wp2_with fail
  refine (lMarkPieceS ps a2 _ c2 (c + done.length) w1 b2 rfl H3.out HND.out.2.1 (by omega) (by omega) (by omega)).mono ?_
  rintro e w2 ⟨rfl, ho2, hw2⟩
  have HF : Hid (Own w2 lo hi gtS (markG c (done, ps, ())) [.slice a1 done.length c1, .slice a2 ps.length c2]) := by
    refine ⟨b1 ++ b2, gt_mk (g := markG c (done, ps, ())) ?_ ho2, by rw [List.nodup_append]; exact HND.out, HBD.out⟩
    refine Sh.Ow.keep _ _ _ _ (fun b hb => hw2.block b (Sh.Ow.lt _ _ _ _ HQ.out b hb) fun hb' => HND.out.2.2 b hb b hb' rfl) HQ.out
  have HW2 : Hid (Within lo hi w w2) := by
    have h := HW1.out
    refine ⟨hw2.os.trans h.os, hw2.tape.trans h.tape, hw2.output.trans h.output, Nat.le_trans h.size hw2.size, fun b hb hn => ?_⟩
    rw [hw2.block b (Nat.lt_of_lt_of_le hb h.size) (fun hm => hn (HBD.out b (List.mem_append_right _ hm))), h.block b hb (fun hm => hn (HBD.out b (List.mem_append_left _ hm)))]
  clear ho2 hw2 HQ H3 HW1
  go_wp2_with fail
  go_ret
  exact ⟨ret_int HG.out, HF.out, HW2.out⟩
end Go.Proofs.Ytfeneeacchpfeai
