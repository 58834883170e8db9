/- A gather that owns its memory gets one more piece, or other done bytes; what a drawn stream is when the walk ends; no condition. -/
import Derived.Deep.OwnRows
import Derived.Test.YtnbcefdfdonljaaRows
import Derived.Test.YtnbcefdfdonljaaBase
import Derived.Test.YtnbcefdfdonljaaBytes
import Derived.Test.YtnbcefdfdonljaaMem
import Derived.Test.YtnbcefdfdonljaaMemRow
import Derived.Test.YtnbcefdfdonljaaMemApp
import Derived.Test.YtnbcefdfdonljaaMemApp2
import Derived.Test.YtnbcefdfdonljaaGath
import Derived.Test.YtnbcefdfdonljaaGathLaw
import Derived.Test.YtnbcefdfdonljaaGathByte
import Derived.Test.YtnbcefdfdonljaaDraws
import Derived.Test.YtnbcefdfdonljaaDrawsD
import Derived.Test.YtnbcefdfdonljaaBox
import Derived.Test.YtnbcefdfdonljaaSubBox
import Derived.Test.YtnbcefdfdonljaaAgg
import Derived.Test.YtnbcefdfdonljaaDrawStr0
namespace Go.Proofs.Ytnbcefdfdonljaa
open Go.RowKit
set_option linter.unusedVariables false

theorem info_pcT : (Try.prog.info? 87).map (fun i => (i.zero, i.size, i.bytes)) = some (some (.agg #[.int .i64 0, .slice none 0 0]), 2, 32) := by kernel_rfl
theorem gt_swapped {w : World} {lo hi : Nat} {L : List Int} {P : List Pc} {v u : Value} (h : Own w lo hi (.cons (.row 87 pcS) (.cons u8s .nil)) (P, L, ()) [u, v]) : ∃ a3 n3 c3, u = .slice a3 n3 c3 ∧ Own w lo hi gtS (L, P, ()) [v, u] := by
  have h2 : Own w lo hi gtS (L, P, ()) [v, u] := Own.swap h
  obtain ⟨b1, k1, b2, k2, e4, -, -⟩ := rd_gt (h2.rd (Nat.le_refl _))
  simp only [List.cons.injEq, and_true] at e4
  exact ⟨_, _, _, e4.2, h2⟩
theorem app_gt {ops : Array Oper} {rest : List Oper} {o : Oper} {a : Act} {Q : Exit → Act → World → Prop} (w : World) (hgd : o.guard = none) (s x : Operand) (ho : o.op = .call { callee := .builtin .append, args := #[s, x], argTypes := #[24, 24] })
    (lo hi lo2 hi2 : Nat) (L : List Int) (P : List Pc) (v u : Value) (hs : a.eval s = u) (nb : Nat) (hnb : nb = w.heap.size) (hx : a.eval x = .slice (some ⟨nb, 0, none⟩) 1 1) (h : Own w lo hi gtS (L, P, ()) [v, u]) (p : Pc) (cs : List Value) (hd : Own w lo2 hi2 pcS p cs) (h1 : lo ≤ hi) (h2 : hi ≤ lo2) (h3 : hi2 ≤ w.heap.size) (hn : P.length ≤ 1048576) (hlo : lo ≤ w.heap.size)
    (hK : ∀ a3 n3 c3 w', Own w' lo w'.heap.size gtS (L, P ++ [p], ()) [v, .slice a3 n3 c3] → Below lo w w' → w.heap.size < w'.heap.size → wpList Try.prog ops Q rest (a.put o.dst (.slice a3 n3 c3)) w') :
    wpList Try.prog ops Q (o :: rest) a (w.alloc (.cells cs.toArray 87)) := by
  refine app_fst w hgd s x 24 87 ho pcS (.cons u8s .nil) (.agg #[.int .i64 0, .slice none 0 0]) 32 Try.underlying24 info_pcT rfl (by decide) (by decide) lo hi lo2 hi2 P (L, ()) u [v] hs nb hnb hx (Own.swap h) p cs hd h1 h2 h3 hn hlo ?_
  intro v' w' g1 g2 g3 g4
  obtain ⟨a3, n3, c3, rfl, g5⟩ := gt_swapped g1
  exact hK a3 n3 c3 w' g5 g2 g4
theorem app_gt_st {ops : Array Oper} {o : Oper} {a : Act} {Q : Exit → Act → World → Prop} {K : Act → World → Prop} {E : Prop} (w : World) (hgd : o.guard = none) (s x : Operand) (ho : o.op = .call { callee := .builtin .append, args := #[s, x], argTypes := #[24, 24] })
    (lo hi lo2 hi2 : Nat) (L : List Int) (P : List Pc) (v u : Value) (hs : a.eval s = u) (nb : Nat) (hnb : nb = w.heap.size) (hx : a.eval x = .slice (some ⟨nb, 0, none⟩) 1 1) (h : Own w lo hi gtS (L, P, ()) [v, u]) (p : Pc) (cs : List Value) (hd : Own w lo2 hi2 pcS p cs) (h1 : lo ≤ hi) (h2 : hi ≤ lo2) (h3 : hi2 ≤ w.heap.size) (hn : P.length ≤ 1048576) (hlo : lo ≤ w.heap.size)
    (hK : ∀ a3 n3 c3 w', Own w' lo w'.heap.size gtS (L, P ++ [p], ()) [v, .slice a3 n3 c3] → Below lo w w' → w.heap.size < w'.heap.size → K (a.put o.dst (.slice a3 n3 c3)) w') :
    if Region.wanted o (yielded ops a.tmps) = true then Oper.wp Try.prog o a (w.alloc (.cells cs.toArray 87)) K Q else E := by
  refine app_fst_st w hgd s x 24 87 ho pcS (.cons u8s .nil) (.agg #[.int .i64 0, .slice none 0 0]) 32 Try.underlying24 info_pcT rfl (by decide) (by decide) lo hi lo2 hi2 P (L, ()) u [v] hs nb hnb hx (Own.swap h) p cs hd h1 h2 h3 hn hlo ?_
  intro v' w' g1 g2 g3 g4
  obtain ⟨a3, n3, c3, rfl, g5⟩ := gt_swapped g1
  exact hK a3 n3 c3 w' g5 g2 g4
/-- Other done bytes, that lie behind all else. -/
theorem own_doneT {w : World} {lo hi hi' : Nat} {g : Gt} {v u d : Value} {l : List Int} (h : Own w lo hi gtS g [v, u]) (hd : Own w hi hi' u8s l [d]) (h1 : lo ≤ hi) (h2 : hi ≤ hi') : Own w lo hi' gtS (l, g.2.1, ()) [d, u] := by
  obtain ⟨bs, ⟨b1, b2, c1, c2, rfl, ec, o1, o2⟩, hnd, hrg⟩ := h
  have l1 : c1.length = 1 := Sh.Ow.len _ _ _ _ o1
  match c1, l1 with
  | [v0], _ =>
    simp only [List.cons_append, List.nil_append, List.cons.injEq] at ec
    obtain ⟨rfl, rfl⟩ := ec
    obtain ⟨n1, n2, n3⟩ := List.nodup_append.1 hnd
    have hP : Own w lo hi (.cons pcsS .nil) (g.2.1, ()) [u] := ⟨b2, o2, n2, fun b hb => hrg b (List.mem_append_right _ hb)⟩
    have hc := Own.swap (Own.cons (f := .row 87 pcS) (r := .cons u8s .nil) (d1 := g.2.1) (d2 := (l, ())) (c1 := [u]) (c2 := [d]) (by
      obtain ⟨bs, ⟨e1, e2, x1, x2, rfl, ex, y1, y2⟩, m1, m2⟩ := hP
      have q2 : x2 = [] := by
        have : x2.length = 0 := Sh.Ow.len _ _ _ _ y2
        exact List.length_eq_zero_iff.1 this
      subst q2
      simp only [List.append_nil] at ex
      subst ex
      obtain ⟨r1, r2, r3⟩ := List.nodup_append.1 m1
      exact ⟨e1, y1, r1, fun b hb => m2 b (List.mem_append_left _ hb)⟩ : Own w lo hi pcsS g.2.1 [u]) (Own.cons hd (Own.nil w hi' hi') h2 (Nat.le_refl _)) h1 h2)
    exact hc
theorem Strm.of_gt {W : World} {lo lo' N base sn sc bs : Nat} {g : Gt} {a1 a2 : Option Addr} {n1 c1 n2 c2 : Nat} {ss : List Int} (h : GT W lo' N g a1 n1 c1 a2 n2 c2) (ho : OB W base (.slice (some ⟨bs, 0, none⟩) sn sc) ss) (h1 : lo ≤ lo') (h2 : lo ≤ base) (hn : 6 ≤ sn ∧ sn ≤ 45) : Strm W lo g a1 n1 c1 a2 n2 c2 ss bs sn sc := by
  obtain ⟨d1, d2, d3⟩ := gtFault_ok h.ok
  exact ⟨Own.mono h.own h1 (Nat.le_refl _), ho.mono h2, hn, ⟨by omega, by omega⟩, fun k hk => by have := d3 k hk; omega⟩
theorem ob_401 {w : World} {b : Nat} (h : w.ownsRow b 5 1 (.slice (some ⟨b, 0, none⟩) 401 401) 401 (madeCells (Value.int .u8 0).cells (401 * 1)).toList) : OB w b (.slice (some ⟨b, 0, none⟩) 401 401) (List.replicate 401 0) := by
  have e : (madeCells (Value.int .u8 0).cells (401 * 1)).toList = (List.replicate 401 (0 : Int)).map (Value.int .u8) := by kernel_rfl
  rw [e] at h
  exact ⟨by rw [List.length_replicate]; exact h, fun x hx => by have := (List.mem_replicate.1 hx).2; omega⟩
theorem ob_setT {W : World} {base bs sn sc k XB : Nat} {v : Value} {ss : List Int} (h : OB W base (.slice (some ⟨bs, 0, none⟩) sn sc) ss) (hb : bs < XB) : OB (W.setCell ⟨XB, k, none⟩ v) base (.slice (some ⟨bs, 0, none⟩) sn sc) ss :=
  h.keep (Below.heap_setCell _ _ _ _ (by dsimp only; omega))
theorem strm_many {W1 W2 : World} {XB lo N base sn sc bs : Nat} {g : Gt} {a1 a2 : Option Addr} {n1 c1 n2 c2 : Nat} {ss : List Int} (X : GT W1 (XB + 1) N g a1 n1 c1 a2 n2 c2) (hb : Below W1.heap.size W1 W2) (hd : OB W2 W1.heap.size (.slice (some ⟨W1.heap.size, 0, none⟩) 401 401) (List.replicate 401 0)) (hX : XB < W1.heap.size)
    (ho : OB W1 base (.slice (some ⟨bs, 0, none⟩) sn sc) ss) (h1 : lo ≤ XB) (h2 : lo ≤ base) (hn : 6 ≤ sn ∧ sn ≤ 45) (hbs : bs < XB) : Strm (W2.setCell ⟨XB, 0, none⟩ (.slice (some ⟨W1.heap.size, 0, none⟩) 401 401)) lo (List.replicate 401 0, g.2.1, ()) (some ⟨W1.heap.size, 0, none⟩) 401 401 a2 n2 c2 ss bs sn sc := by
  obtain ⟨d1, d2, d3⟩ := gtFault_ok X.ok
  have hO := own_doneT (X.own.below (Nat.le_refl _) hb) (own_bytes hd (Nat.le_refl _)) (by omega) hb.size
  refine ⟨Own.mono (Own.keep hO fun b h3 h4 => Below.heap_setCell _ _ _ _ (by dsimp only; omega)) (by omega) (by simp), ob_setT ((ho.below (Nat.le_refl _) hb).mono h2) hbs, hn, ⟨Nat.le_trans d2 (by decide), by rw [List.length_replicate]; exact Nat.le_refl _⟩, fun k hk => ?_⟩
  have := d3 k hk
  show g.2.1[k].2.1.length ≤ 400
  omega
theorem strm_app {W1 W2 : World} {XB lo N base sn sc bs : Nat} {g : Gt} {a1 a2 a3 : Option Addr} {n1 c1 n2 c2 n3 c3 : Nat} {ss : List Int} {p : Pc} (X : GT W1 (XB + 1) N g a1 n1 c1 a2 n2 c2) (hp : p.2.1.length ≤ 400) (hO : Own W2 (XB + 1) W2.heap.size gtS (g.1, g.2.1 ++ [p], ()) [.slice a1 n1 c1, .slice a3 n3 c3])
    (ho : OB W2 base (.slice (some ⟨bs, 0, none⟩) sn sc) ss) (h1 : lo ≤ XB) (h2 : lo ≤ base) (hn : 6 ≤ sn ∧ sn ≤ 45) (hbs : bs < XB) : Strm (W2.setCell ⟨XB, 1, none⟩ (.slice a3 n3 c3)) lo (g.1, g.2.1 ++ [p], ()) a1 n1 c1 a3 n3 c3 ss bs sn sc := by
  obtain ⟨d1, d2, d3⟩ := gtFault_ok X.ok
  refine ⟨Own.mono (Own.keep hO fun b h3 h4 => Below.heap_setCell _ _ _ _ (by dsimp only; omega)) (by omega) (by simp), ob_setT (ho.mono h2) hbs, hn, ⟨by simp; omega, Nat.le_trans d1 (by decide)⟩, fun k hk => ?_⟩
  have hk' : k < (g.2.1 ++ [p]).length := hk
  show (g.2.1 ++ [p])[k].2.1.length ≤ 400
  by_cases h : k < g.2.1.length
  · rw [List.getElem_append_left h]; have := d3 k h; omega
  · rw [List.getElem_append_right (by omega)]; simp; omega
theorem ob_keepT {W W' : World} {base bs sn sc B : Nat} {ss : List Int} (h : OB W base (.slice (some ⟨bs, 0, none⟩) sn sc) ss) (hb : Below B W W') (hs : bs < B) : OB W' base (.slice (some ⟨bs, 0, none⟩) sn sc) ss := h.keep (hb.block bs hs)
theorem own_pc0 (w : World) (lo hi : Nat) (h : lo ≤ hi) : Own w lo hi pcS (300, [], ()) [.int .i64 300, .slice none 0 0] :=
  Own.cons (Own.int _ _ lo (by decide)) (Own.cons (f := u8s) (r := .nil) (d1 := []) (d2 := ()) (⟨[], Or.inl ⟨rfl, rfl, rfl⟩, by simp, by simp⟩ : Own w lo hi u8s [] [.slice none 0 0]) (Own.nil _ _ _) h (Nat.le_refl _)) (Nat.le_refl _) h
theorem own_pc2 {w : World} {b lo : Nat} {n : Int} {v : Value} (h : OB w b v [1, 2]) (hn : -1 ≤ n ∧ n ≤ 400) (hb : b ≤ w.heap.size) (hl : lo ≤ b) : Own w lo w.heap.size pcS (n, [1, 2], ()) [.int .i64 n, v] :=
  Own.mono (Own.cons (lo := b) (mid := b) (Own.int _ _ b (wf_i64' (by omega))) (Own.cons (own_bytes h (Nat.le_refl _)) (Own.nil _ _ _) hb (Nat.le_refl _)) (Nat.le_refl _) hb) hl (Nat.le_refl _)
theorem ob_twoT (w : World) : OB (w.alloc (.cells #[.int .u8 1, .int .u8 2] 5)) w.heap.size (.slice (some ⟨w.heap.size, 0, none⟩) 2 2) [1, 2] :=
  ⟨⟨rfl, Or.inr ⟨w.heap.size, 2, #[.int .u8 1, .int .u8 2], rfl, Nat.le_refl _, Go.Deep.blk_alloc_new _ _, Nat.le_refl _, by unfold maxLen; omega, rfl, rfl⟩⟩, by simp⟩
theorem Strm.keep {W W' : World} {lo sn sc bs : Nat} {g : Gt} {a1 a2 : Option Addr} {n1 c1 n2 c2 : Nat} {ss : List Int} (h : Strm W lo g a1 n1 c1 a2 n2 c2 ss bs sn sc) (hk : ∀ b, lo ≤ b → W'.heap[b]? = W.heap[b]?) (hs : W.heap.size ≤ W'.heap.size) : Strm W' lo g a1 n1 c1 a2 n2 c2 ss bs sn sc :=
  ⟨Own.mono (Own.keep h.own fun b h1 h2 => hk b h1) (Nat.le_refl _) hs, h.ob.keeps hk, h.len, h.few, h.small⟩
theorem Strm.low {W : World} {lo lo' sn sc bs : Nat} {g : Gt} {a1 a2 : Option Addr} {n1 c1 n2 c2 : Nat} {ss : List Int} (h : Strm W lo g a1 n1 c1 a2 n2 c2 ss bs sn sc) (hl : lo' ≤ lo) : Strm W lo' g a1 n1 c1 a2 n2 c2 ss bs sn sc :=
  ⟨Own.mono h.own hl (Nat.le_refl _), h.ob.mono hl, h.len, h.few, h.small⟩
theorem strm_end {w V : World} {sb sn sc bs : Nat} {K : Int} {sv : Value} {NN N2 : Array Value} {g : Gt} {a1 a2 : Option Addr} {n1 c1 n2 c2 : Nat} {ss : List Int}
    (kR : ∀ o, V.cell? ⟨w.heap.size, o, none⟩ = (#[.slice none 0 0, .slice none 0 0] : Array Value)[o]?) (hN : NN = N2) (hz : NN.size = 2) (hS : Strm V (w.heap.size + 1) g a1 n1 c1 a2 n2 c2 ss bs sn sc) (hD : Dr sb w V) (hK : Src V sb sv K) (hsb : sb < w.heap.size) :
    ∃ WZ, V.setCells w.heap.size 0 NN.toList = WZ ∧ (∀ o, WZ.cell? ⟨w.heap.size, o, none⟩ = N2[o]?) ∧ Strm WZ w.heap.size g a1 n1 c1 a2 n2 c2 ss bs sn sc ∧ Dr sb w WZ ∧ Src WZ sb sv K := by
  subst hN
  have hb : Below w.heap.size V (V.setCells w.heap.size 0 NN.toList) := setCells_below (Nat.le_refl _) _ _ _ _ (Below.refl _ _)
  exact ⟨_, rfl, bx_setCells kR (A' := NN) (by rw [hz]; rfl), (hS.keep (fun b h1 => setCells_block (by omega) _ _ _) hb.size).low (by omega), hD.then hb (Nat.le_refl _), hK.below hb hsb⟩
end Go.Proofs.Ytnbcefdfdonljaa
