/- Marks laid over the pieces of a row of the call's own, in place: what the row holds then; nothing else turns; no condition but on lengths. -/
import Derived.Test.YtfeneeacchpfeaiRows
import Derived.Test.YtfeneeacchpfeaiBase
import Derived.Test.YtfeneeacchpfeaiBytes
import Derived.Test.YtfeneeacchpfeaiAppBytes
import Derived.Test.YtfeneeacchpfeaiMem
import Derived.Test.YtfeneeacchpfeaiMemOpen
import Derived.Test.YtfeneeacchpfeaiMemRow
import Derived.Test.YtfeneeacchpfeaiMemApp
import Derived.Test.YtfeneeacchpfeaiGath
import Derived.Test.YtfeneeacchpfeaiGathLaw
import Derived.Test.YtfeneeacchpfeaiImplGath
import Derived.Test.YtfeneeacchpfeaiSpecGath
import Derived.Test.YtfeneeacchpfeaiGathByte
import Derived.Test.YtfeneeacchpfeaiPMap
import Derived.Test.YtfeneeacchpfeaiPRun
import Derived.Test.YtfeneeacchpfeaiPutDef
import Derived.Test.YtfeneeacchpfeaiPLast
import Derived.Test.YtfeneeacchpfeaiBox
namespace Go.Proofs.Ytfeneeacchpfeai
open Go.RowKit Go.Maps
set_option linter.unusedVariables false

/-- Nothing but blocks from lo on, below hi, has turned, and none is new. -/
structure Within (lo hi : Nat) (w w' : World) : Prop where
  os : w'.os = w.os
  tape : w'.tape = w.tape
  output : w'.output = w.output
  size : w.heap.size ≤ w'.heap.size
  block : ∀ b, b < w.heap.size → ¬ (lo ≤ b ∧ b < hi) → w'.heap[b]? = w.heap[b]?
theorem Within.refl (lo hi : Nat) (w : World) : Within lo hi w w := ⟨rfl, rfl, rfl, Nat.le_refl _, fun _ _ _ => rfl⟩
theorem Within.trans {lo hi : Nat} {a b c : World} (h : Within lo hi a b) (k : Within lo hi b c) : Within lo hi a c :=
  ⟨k.os.trans h.os, k.tape.trans h.tape, k.output.trans h.output, Nat.le_trans h.size k.size, fun x hx hn => (k.block x (Nat.lt_of_lt_of_le hx h.size) hn).trans (h.block x hx hn)⟩
theorem Within.below {lo hi : Nat} {a b : World} (h : Below a.heap.size a b) : Within lo hi a b := ⟨h.os, h.tape, h.output, h.size, fun x hx _ => h.block x hx⟩
theorem Within.grown {lo hi : Nat} {a b : World} {g : Option Nat} (h : a.grownBy b g) (hg : ∀ x, g = some x → lo ≤ x ∧ x < hi) : Within lo hi a b :=
  ⟨h.os, h.tape, h.output, h.size, fun x hx hn => h.block x hx fun e => hn (hg x e.symm)⟩
theorem Within.mono {lo hi lo' hi' : Nat} {a b : World} (h : Within lo hi a b) (h1 : lo' ≤ lo) (h2 : hi ≤ hi') : Within lo' hi' a b :=
  ⟨h.os, h.tape, h.output, h.size, fun x hx hn => h.block x hx fun e => hn ⟨by omega, by omega⟩⟩

theorem nodup_set' {bs' : List Nat} (d2 : bs'.Nodup) : ∀ (G : List (List Nat)) (k : Nat), G.flatten.Nodup → (∀ b ∈ bs', b ∈ G.getD k [] ∨ b ∉ G.flatten) → (G.set k bs').flatten.Nodup := by
  intro G
  induction G with
  | nil => intro k _ _; simp
  | cons f G ih =>
    intro k hn hbb
    simp only [List.flatten_cons] at hn
    rw [List.nodup_append] at hn
    cases k with
    | zero =>
      rw [List.set_cons_zero, List.flatten_cons, List.nodup_append]
      refine ⟨d2, hn.2.1, fun x hx' y hy e => ?_⟩
      subst e
      rcases hbb x hx' with h1 | h1
      · exact hn.2.2 x (by simpa using h1) x hy rfl
      · exact h1 (by simp; exact Or.inr (List.mem_flatten.1 hy))
    | succ k =>
      rw [List.set_cons_succ, List.flatten_cons, List.nodup_append]
      refine ⟨hn.1, ih k hn.2.1 (fun b hbm => ?_), fun x hx' y hy e => ?_⟩
      · rcases hbb b hbm with h1 | h1
        · exact Or.inl (by simpa using h1)
        · exact Or.inr fun hm' => h1 (by simp only [List.flatten_cons]; exact List.mem_append_right _ hm')
      · subst e
        rcases mem_flatten_set hy with hy | hy
        · rcases hbb x hy with h1 | h1
          · exact hn.2.2 x hx' x (getD_mem_flatten (by simpa using h1)) rfl
          · exact h1 (by simp only [List.flatten_cons]; exact List.mem_append_left _ hx')
        · exact hn.2.2 x hx' x hy rfl

theorem chunk_set0 {xs : List Value} {k i : Nat} {x1 v : Value} (hk : k * 2 + 1 < xs.length) (h1 : xs[k * 2 + 1]? = some x1) : chunk (xs.set (k * 2) v) 2 i = if i = k then [v, x1] else chunk xs 2 i := by
  split
  · rename_i e; subst e
    apply List.ext_getElem?
    intro j
    match j with
    | 0 => rw [chunk_get (by omega), Nat.add_zero, List.getElem?_set_self (by omega)]; rfl
    | 1 => rw [chunk_get (by omega), List.getElem?_set_ne (by omega), h1]; rfl
    | j + 2 => rw [List.getElem?_eq_none (by unfold chunk; simp; omega)]; rfl
  · rename_i hne
    refine chunk_ext fun j hj => ?_
    rw [List.getElem?_set_ne (by omega)]

/-- The one block of bytes of the call's own. -/
theorem bytes_fp {w : World} {bs : List Nat} {l : List Int} {v : Value} (h : u8s.Ow w bs l [v]) : bs = v.ownBlock.toList := by
  rcases h with ⟨rfl, e, rfl⟩ | ⟨g, cap, cur, F, e, rfl, h3, h4, h5, h6, h7, h8⟩
  · simp only [List.cons.injEq, and_true] at e; subst e; rfl
  · simp only [List.cons.injEq, and_true] at e; subst e
    have hF : F.flatten = [] := by
      apply List.eq_nil_iff_forall_not_mem.2
      intro b hb
      obtain ⟨i, hi, hb⟩ := mem_flatten_getD hb
      have := (h8 i (by omega)).1
      rw [this] at hb; simp at hb
    rw [hF]; rfl

/-- Nothing but the blocks bs has turned. -/
structure Touch (bs : List Nat) (w w' : World) : Prop where
  os : w'.os = w.os
  tape : w'.tape = w.tape
  output : w'.output = w.output
  size : w.heap.size ≤ w'.heap.size
  block : ∀ b, b < w.heap.size → b ∉ bs → w'.heap[b]? = w.heap[b]?
theorem Touch.refl (bs : List Nat) (w : World) : Touch bs w w := ⟨rfl, rfl, rfl, Nat.le_refl _, fun _ _ _ => rfl⟩
theorem Touch.trans {bs : List Nat} {a b c : World} (h : Touch bs a b) (k : Touch bs b c) : Touch bs a c :=
  ⟨k.os.trans h.os, k.tape.trans h.tape, k.output.trans h.output, Nat.le_trans h.size k.size, fun x hx hn => (k.block x (Nat.lt_of_lt_of_le hx h.size) hn).trans (h.block x hx hn)⟩
theorem Touch.mono {bs bs' : List Nat} {a b : World} (h : Touch bs a b) (hs : ∀ x ∈ bs, x ∈ bs') : Touch bs' a b := ⟨h.os, h.tape, h.output, h.size, fun x hx hn => h.block x hx fun hm => hn (hs x hm)⟩
theorem Touch.grown {bs : List Nat} {a b : World} {g : Option Nat} (h : a.grownBy b g) (hg : ∀ x, g = some x → x ∈ bs) : Touch bs a b :=
  ⟨h.os, h.tape, h.output, h.size, fun x hx hn => h.block x hx fun e => hn (hg x e.symm)⟩
theorem Touch.below {bs : List Nat} {a b : World} (h : Below a.heap.size a b) : Touch bs a b := ⟨h.os, h.tape, h.output, h.size, fun x hx _ => h.block x hx⟩

theorem ow_at {w : World} {bs : List Nat} {l : List Pc} {a : Option Addr} {n cap : Nat} (h : pcsS.Ow w bs l [.slice a n cap]) (hnd : bs.Nodup) (k : Nat) (hk : k < l.length) :
    ∃ pg al cl, a = some ⟨pg, 0, none⟩ ∧ pg ∈ bs ∧ pg < w.heap.size ∧ l.length ≤ cap ∧ w.cell? ⟨pg, k * 2, none⟩ = some (.int .i64 l[k].1) ∧ w.cell? ⟨pg, k * 2 + 1, none⟩ = some (.slice al l[k].2.1.length cl) ∧ (∀ o, w.frozen? ⟨pg, o, none⟩ = false) ∧
      OB w 0 (.slice al l[k].2.1.length cl) l[k].2.1 ∧ (∀ b, (Value.slice al l[k].2.1.length cl).ownBlock = some b → b ∈ bs ∧ b ≠ pg ∧ b < w.heap.size) ∧
      ∀ (w' : World) (x' : Int) (d' : List Int), (Lit.int .i64 x').wf = true → OB w' 0 (.slice al l[k].2.1.length cl) d' → (w.setCell ⟨pg, k * 2, none⟩ (.int .i64 x')).grownBy w' (Value.slice al l[k].2.1.length cl).ownBlock →
        pcsS.Ow w' bs (l.set k (x', d', ())) [.slice a n cap] := by
  rcases h with ⟨_, _, rfl⟩ | ⟨g, cap', cur, F, e1, rfl, h3, h4, h5, h6, h7, h8⟩
  · simp at hk
  · simp only [List.cons.injEq, Value.slice.injEq, and_true] at e1
    obtain ⟨rfl, rfl, rfl⟩ := e1
    obtain ⟨hg1, hg2⟩ := List.nodup_cons.1 hnd
    have hcs : cur.size = cap * 2 := h6
    have hle : l.length * 2 ≤ cap * 2 := Nat.mul_le_mul_right _ h4
    obtain ⟨vl, hch, hdat, hwf⟩ := pc_parts (h8 k hk)
    replace hch : chunk cur.toList 2 k = [.int .i64 l[k].1, vl] := hch
    obtain ⟨vl', e2, hob, hob1, hob2⟩ := bytes_ob hdat
    simp only [List.cons.injEq, and_true] at e2
    subst e2
    obtain ⟨al, cl, e3, -⟩ := hob.rb
    subst e3
    have hx0 : cur.toList[k * 2]? = some (.int .i64 l[k].1) := by
      have := congrArg (fun l => l[0]?) hch
      replace this : (chunk cur.toList 2 k)[0]? = [.int .i64 l[k].1, .slice al l[k].2.1.length cl][0]? := this
      rw [chunk_get (by decide)] at this
      simpa using this
    have hx1 : cur.toList[k * 2 + 1]? = some (.slice al l[k].2.1.length cl) := by
      have := congrArg (fun l => l[1]?) hch
      replace this : (chunk cur.toList 2 k)[1]? = [.int .i64 l[k].1, .slice al l[k].2.1.length cl][1]? := this
      rw [chunk_get (by decide)] at this
      simpa using this
    have hFlt : ∀ i b, b ∈ F.getD i [] → b < w.heap.size := fun i b hbm => by
      have hi : i < F.length := by
        apply Classical.byContradiction; intro hn
        rw [List.getD_eq_getElem?_getD, List.getElem?_eq_none (by omega)] at hbm; simp at hbm
      exact Sh.Ow.lt _ _ _ _ (h8 i (by omega)) b hbm
    have hblk : ∀ b, (Value.slice al l[k].2.1.length cl).ownBlock = some b → b ∈ g :: F.flatten ∧ b ≠ g ∧ b < w.heap.size := fun b e => by
      have hm' := hob1 b e
      exact ⟨List.mem_cons_of_mem _ (getD_mem_flatten hm'), fun e' => hg1 (e' ▸ getD_mem_flatten hm'), hFlt k b hm'⟩
    refine ⟨g, al, cl, rfl, by simp, heap_lt h3, h4, by rw [cell_of_heap h3, ← Array.getElem?_toList]; exact hx0, by rw [cell_of_heap h3, ← Array.getElem?_toList]; exact hx1, fun o => by simp [World.frozen?, h3], hob, hblk, ?_⟩
    intro w' x' d' hwx hob' hgr
    obtain ⟨bs', d1, d2, d3⟩ := ob_ow hob'
    have hfp : bs' = F.getD k [] := (bytes_fp d1).trans (bytes_fp hdat).symm
    have hs2 : (w.setCell ⟨g, k * 2, none⟩ (.int .i64 x')).heap.size = w.heap.size := by simp
    have hg3 : (w.setCell ⟨g, k * 2, none⟩ (.int .i64 x')).heap[g]? = some (.cells (cur.setIfInBounds (k * 2) (.int .i64 x')) 65 (0, 0)) := heap_setCell_same w g (k * 2) cur _ _ h3
    have hg4 : w'.heap[g]? = some (.cells (cur.setIfInBounds (k * 2) (.int .i64 x')) 65 (0, 0)) := by
      rw [hgr.block g (by rw [hs2]; exact heap_lt h3) (fun e => (hblk g e.symm).2.1 rfl)]; exact hg3
    have hkeep : ∀ b, b < w.heap.size → b ≠ g → (Value.slice al l[k].2.1.length cl).ownBlock ≠ some b → w'.heap[b]? = w.heap[b]? := fun b h1 h2 h3' => by
      rw [hgr.block b (by rw [hs2]; exact h1) (fun e => h3' e.symm)]
      exact Below.heap_setCell _ _ _ _ (by dsimp only; exact h2)
    refine Or.inr ⟨g, cap, cur.setIfInBounds (k * 2) (.int .i64 x'), F, by rw [List.length_set], rfl, hg4, by rw [List.length_set]; exact h4, h5, by simpa using h6, by rw [List.length_set]; exact h7, fun i hi' => ?_⟩
    have hi2 : i < l.length := by simpa using hi'
    show Sh.Ow _ pcS _ _ (chunk (cur.setIfInBounds (k * 2) (.int .i64 x')).toList 2 i)
    rw [Array.toList_setIfInBounds, chunk_set0 (by simp; omega) hx1]
    by_cases e : i = k
    · subst e
      rw [if_pos rfl, List.getElem_set_self, ← hfp]
      exact pc_mk d1 hwx
    · rw [if_neg e, List.getElem_set_ne (by omega)]
      refine Sh.Ow.keep _ _ _ _ (fun b hbm => ?_) (h8 i hi2)
      have hblt := hFlt i b hbm
      refine hkeep b hblt (fun e' => hg1 (e' ▸ getD_mem_flatten hbm)) fun e' => ?_
      have h1 := hob1 b e'
      have hi4 : i < F.length := by omega
      have hl4 : k < F.length := by omega
      have hpw := (List.pairwise_flatten.1 hg2).2
      rcases Nat.lt_or_gt_of_ne e with hlt | hlt
      · exact List.pairwise_iff_getElem.1 hpw i k hi4 hl4 hlt b (by simpa [List.getD_eq_getElem?_getD, List.getElem?_eq_getElem hi4] using hbm) b (by simpa [List.getD_eq_getElem?_getD, List.getElem?_eq_getElem hl4] using h1) rfl
      · exact List.pairwise_iff_getElem.1 hpw k i hl4 hi4 hlt b (by simpa [List.getD_eq_getElem?_getD, List.getElem?_eq_getElem hl4] using h1) b (by simpa [List.getD_eq_getElem?_getD, List.getElem?_eq_getElem hi4] using hbm) rfl

/-- The marks of pieces from c on. -/
def markP : Int → List Pc → List Pc
  | _, [] => []
  | c, p :: ps => (c, marks (c + 1) p.2.1.length, ()) :: markP (c + 1 + p.2.1.length) ps
theorem markP_length : ∀ (ps : List Pc) (c : Int), (markP c ps).length = ps.length
  | [], _ => rfl
  | p :: ps, c => by show (markP _ ps).length + 1 = _; rw [markP_length ps]; rfl
theorem pcsTot_cons (p : Pc) (ps : List Pc) : pcsTot (p :: ps) = 1 + p.2.1.length + pcsTot ps := by simp [pcsTot, dsum]; omega
theorem markP_append : ∀ (qs bs : List Pc) (c : Int), markP c (qs ++ bs) = markP c qs ++ markP (c + pcsTot qs) bs
  | [], bs, c => by simp [markP, pcsTot, dsum]
  | p :: qs, bs, c => by
    show _ :: markP _ (qs ++ bs) = _
    rw [markP_append qs bs, pcsTot_cons]
    show _ = _ :: (markP _ qs ++ _)
    congr 3
    omega
theorem pcsTot_take {ps : List Pc} {k : Nat} (hk : k < ps.length) : pcsTot (ps.take (k + 1)) = pcsTot (ps.take k) + 1 + ps[k].2.1.length := by
  unfold pcsTot; rw [dsum_take hk]; simp; omega
theorem pcsTot_le (ps : List Pc) (k : Nat) : pcsTot (ps.take k) ≤ pcsTot ps := by
  unfold pcsTot; have := dsum_le ps k; simp; omega
theorem markP_step {ps : List Pc} {k : Nat} (c : Int) (hk : k < ps.length) : (markP c (ps.take k) ++ ps.drop k).set k (c + pcsTot (ps.take k), marks (c + pcsTot (ps.take k) + 1) ps[k].2.1.length, ()) = markP c (ps.take (k + 1)) ++ ps.drop (k + 1) := by
  have h1 : (markP c (ps.take k)).length = k := by rw [markP_length]; simp; omega
  rw [List.set_append_right _ _ (by omega), h1, Nat.sub_self, List.drop_eq_getElem_cons hk, List.set_cons_zero, List.take_succ_eq_append_getElem hk, markP_append, List.append_assoc]
  rfl
theorem markP_at {ps : List Pc} {k : Nat} (c : Int) (hk : k < ps.length) (h : k < (markP c ps).length) : (markP c ps)[k] = (c + pcsTot (ps.take k), marks (c + pcsTot (ps.take k) + 1) ps[k].2.1.length, ()) := by
  have h1 : (markP c (ps.take k)).length = k := by rw [markP_length]; simp; omega
  have e : ps = ps.take k ++ ps[k] :: ps.drop (k + 1) := by rw [← List.drop_eq_getElem_cons hk, List.take_append_drop]
  have e2 : markP c ps = markP c (ps.take k) ++ markP (c + pcsTot (ps.take k)) (ps[k] :: ps.drop (k + 1)) := by conv => lhs; rw [e]; rw [markP_append]
  have : (markP c ps)[k]? = some (c + pcsTot (ps.take k), marks (c + pcsTot (ps.take k) + 1) ps[k].2.1.length, ()) := by
    rw [e2, List.getElem?_append_right (by omega), h1, Nat.sub_self]; rfl
  rw [List.getElem?_eq_getElem h] at this
  exact Option.some.inj this
end Go.Proofs.Ytfeneeacchpfeai
