/- The last piece of a row that the call itself made: what it holds, and what the row owns when one byte more is laid behind it; no condition. -/
import Derived.Test.YtnbcefdfdonljaaRows
import Derived.Test.YtnbcefdfdonljaaBase
import Derived.Test.YtnbcefdfdonljaaBytes
import Derived.Test.YtnbcefdfdonljaaAppBytes
import Derived.Test.YtnbcefdfdonljaaMem
import Derived.Test.YtnbcefdfdonljaaMemOpen
import Derived.Test.YtnbcefdfdonljaaMemRow
import Derived.Test.YtnbcefdfdonljaaHMark
import Derived.Test.YtnbcefdfdonljaaMemApp
import Derived.Test.YtnbcefdfdonljaaGath
import Derived.Test.YtnbcefdfdonljaaGathLaw
import Derived.Test.YtnbcefdfdonljaaImplGath
import Derived.Test.YtnbcefdfdonljaaSpecGath
import Derived.Test.YtnbcefdfdonljaaGathByte
import Derived.Test.YtnbcefdfdonljaaPMap
import Derived.Test.YtnbcefdfdonljaaPRun
import Derived.Test.YtnbcefdfdonljaaPutDef
namespace Go.Proofs.Ytnbcefdfdonljaa
open Go.RowKit Go.Maps
set_option linter.unusedVariables false

theorem chunk_setP {xs : List Value} {k i : Nat} {x0 v : Value} (hk : k * 2 + 1 < xs.length) (h0 : xs[k * 2]? = some x0) : chunk (xs.set (k * 2 + 1) v) 2 i = if i = k then [x0, v] else chunk xs 2 i := by
  split
  · rename_i e; subst e
    apply List.ext_getElem?
    intro j
    match j with
    | 0 => rw [chunk_get (by omega), List.getElem?_set_ne (by omega)]; simpa using h0
    | 1 => rw [chunk_get (by omega), List.getElem?_set_self (by omega)]; rfl
    | j + 2 => rw [List.getElem?_eq_none (by unfold chunk; simp; omega)]; rfl
  · rename_i hne
    refine chunk_ext fun j hj => ?_
    rw [List.getElem?_set_ne (by omega)]

theorem pc_parts {w : World} {bs : List Nat} {p : Pc} {cs : List Value} (h : pcS.Ow w bs p cs) : ∃ v, cs = [.int .i64 p.1, v] ∧ u8s.Ow w bs p.2.1 [v] ∧ (Lit.int .i64 p.1).wf = true := by
  obtain ⟨b1, b2, c1, c2, e1, e2, ⟨e3, e4, e5⟩, b3, b4, c3, c4, e6, e7, h8, e9, e10⟩ := h
  obtain ⟨v, e11, -⟩ := bytes_ob h8
  subst e3 e4 e6 e7 e9 e10 e1 e2 e11
  exact ⟨v, by simp, by simpa using h8, e5⟩
theorem pc_mk {w : World} {bs : List Nat} {x : Int} {l : List Int} {v : Value} (h : u8s.Ow w bs l [v]) (hx : (Lit.int .i64 x).wf = true) : pcS.Ow w bs (x, l, ()) [.int .i64 x, v] :=
  ⟨[], bs, [.int .i64 x], [v], rfl, rfl, ⟨rfl, rfl, hx⟩, bs, [], [v], [], by simp, rfl, h, rfl, rfl⟩

theorem own_last {w : World} {lo hi : Nat} {P0 : List Pc} {p : Pc} {a : Option Addr} {n cap : Nat} (h : Own w lo hi pcsS (P0 ++ [p]) [.slice a n cap]) :
    ∃ pg al cl, a = some ⟨pg, 0, none⟩ ∧ n = P0.length + 1 ∧ lo ≤ pg ∧ pg < hi ∧ pg < w.heap.size ∧ P0.length + 1 ≤ cap ∧ w.cell? ⟨pg, P0.length * 2 + 1, none⟩ = some (.slice al p.2.1.length cl) ∧ (∀ o, w.frozen? ⟨pg, o, none⟩ = false) ∧
      OB w lo (.slice al p.2.1.length cl) p.2.1 ∧ (Value.slice al p.2.1.length cl).ownBlock ≠ some pg ∧
      ∀ (w' : World) (v' : Value) (c : Int), OB w' lo v' (p.2.1 ++ [c]) → (∀ b, b < w.heap.size → (Value.slice al p.2.1.length cl).ownBlock ≠ some b → w'.heap[b]? = w.heap[b]?) →
        (v'.ownBlock = (Value.slice al p.2.1.length cl).ownBlock ∨ ∃ nb, v'.ownBlock = some nb ∧ w.heap.size ≤ nb) → w.heap.size ≤ w'.heap.size →
        Own (w'.setCell ⟨pg, P0.length * 2 + 1, none⟩ v') lo w'.heap.size pcsS (P0 ++ [(p.1, p.2.1 ++ [c], ())]) [.slice a n cap] := by
  obtain ⟨v0, xs, F, e1, ho, hF, hnd, hb, hel, hv⟩ := h.row_to
  simp only [List.cons.injEq, and_true] at e1
  subst e1
  have hlen : (P0 ++ [p]).length = P0.length + 1 := by simp
  rw [hlen] at ho hF
  have hlast := hel P0.length (by simp)
  rw [List.getElem_append_right (Nat.le_refl _)] at hlast
  simp only [Nat.sub_self, List.getElem_cons_zero] at hlast
  obtain ⟨vl, hch, hdat, hwf⟩ := pc_parts hlast
  obtain ⟨vl', e2, hob, hob1, hob2⟩ := bytes_ob hdat
  simp only [List.cons.injEq, and_true] at e2
  subst e2
  obtain ⟨al, cl, e3, -⟩ := hob.rb
  subst e3
  obtain ⟨hx, ⟨e4, _⟩ | ⟨g, cap', cur, e4, hg, hh, hc, hm, hs, ht⟩⟩ := ho
  · simp at e4
    exact absurd e4.2.1.symm (by
      intro h0
      have := h.row_to
      obtain ⟨_, _, _, e5, ho5, _⟩ := this
      simp only [List.cons.injEq, and_true] at e5
      subst e5
      obtain ⟨_, ⟨e6, h7⟩ | ⟨g, cap', cur, e6, _⟩⟩ := ho5
      · simp at h7
      · simp only [Value.slice.injEq] at e6; rw [hlen] at e6; omega)
  · simp only [Value.slice.injEq] at e4
    obtain ⟨rfl, rfl, rfl⟩ := e4
    have hxl : xs.length = (P0.length + 1) * 2 := hx
    have hx0 : xs[P0.length * 2]? = some (.int .i64 p.1) := by
      have := congrArg (fun l => l[0]?) hch
      replace this : (chunk xs pcS.sz P0.length)[0]? = [.int .i64 p.1, .slice al p.2.1.length cl][0]? := this
      rw [chunk_get (by decide)] at this
      simpa [Sh.sz] using this
    have hx1 : xs[P0.length * 2 + 1]? = some (.slice al p.2.1.length cl) := by
      have := congrArg (fun l => l[1]?) hch
      replace this : (chunk xs pcS.sz P0.length)[1]? = [.int .i64 p.1, .slice al p.2.1.length cl][1]? := this
      rw [chunk_get (by decide)] at this
      simpa [Sh.sz] using this
    have hFl : ∀ b ∈ F.getD P0.length [], (Value.slice al p.2.1.length cl).ownBlock = some b := fun b hb' => hob2 b hb'
    have hne : (Value.slice al p.2.1.length cl).ownBlock ≠ some g := fun e => by
      have hm' := hob1 g e
      exact (hb g (getD_mem_flatten hm')).2.2 rfl
    have hlow : ∀ b, (Value.slice al p.2.1.length cl).ownBlock = some b → lo ≤ b := fun b e => (hb b (getD_mem_flatten (hob1 b e))).1
    refine ⟨g, al, cl, rfl, rfl, hg, hv g rfl, heap_lt hh, hc, ?_, fun o => by simp [World.frozen?, hh], hob.rebase hlow, hne, ?_⟩
    · rw [cell_of_heap hh, ← Array.getElem?_toList]
      have : (cur.toList.take ((P0.length + 1) * pcS.sz))[P0.length * 2 + 1]? = some (.slice al p.2.1.length cl) := by rw [ht]; exact hx1
      rw [List.getElem?_take_of_lt (by show _ < (P0.length + 1) * 2; omega)] at this
      exact this
    · intro w' v' c hob' hkeep hat hsz
      obtain ⟨bs', d1, d2, d3⟩ := ob_ow hob'
      have hgw : w'.heap[g]? = some (.cells cur 87 (0, 0)) := by rw [hkeep g (heap_lt hh) hne]; exact hh
      have ho' : w'.ownsRow lo 87 2 (.slice (some ⟨g, 0, none⟩) (P0.length + 1) cap) (P0.length + 1) xs := ⟨hx, Or.inr ⟨g, cap, cur, rfl, hg, hgw, hc, hm, hs, ht⟩⟩
      obtain ⟨ho2, hgr2⟩ := ho'.stored (P0.length * 2 + 1) v'
      have hk2 : ∀ b, b ≠ g → b < w'.heap.size → (w'.setCell ⟨g, P0.length * 2 + 1, none⟩ v').heap[b]? = w'.heap[b]? := fun b h1 h2 => hgr2.block b h2 (by simpa using h1)
      have hbs : ∀ b ∈ bs', lo ≤ b ∧ b < w'.heap.size ∧ b ≠ g ∧ (b ∈ F.getD P0.length [] ∨ w.heap.size ≤ b) := by
        intro b hbm
        have e := d3 b hbm
        have hlt := Sh.Ow.lt _ _ _ _ d1 b hbm
        rcases hat with hat | ⟨nb, hat, hnb⟩
        · rw [hat] at e
          exact ⟨hlow b e, hlt, fun e' => hne (e' ▸ e), Or.inl (hob1 b e)⟩
        · rw [hat] at e; simp at e; subst e
          have := (hob'.own.lt nb hat).1
          exact ⟨this, hlt, fun e' => by have := heap_lt hh; omega, Or.inr hnb⟩
      have hFlt : ∀ i b, b ∈ F.getD i [] → b < w.heap.size := fun i b hbm => by
        have hi : i < F.length := by
          apply Classical.byContradiction; intro hn
          rw [List.getD_eq_getElem?_getD, List.getElem?_eq_none (by omega)] at hbm; simp at hbm
        exact Sh.Ow.lt _ _ _ _ (hel i (by rw [hlen]; omega)) b hbm
      refine Own.row_of (e := pcS) (l := P0 ++ [(p.1, p.2.1 ++ [c], ())]) (xs := xs.set (P0.length * 2 + 1) v') (by rw [show (P0 ++ [(p.1, p.2.1 ++ [c], ())]).length = P0.length + 1 by simp]; exact ho2) (fun b hbv => ?_) (F.set P0.length bs') (by simp [hF]) ?_ ?_ (fun i hi' => ?_)
      · simp [Value.ownBlock] at hbv; subst hbv; have := heap_lt hh; omega
      · -- no block twice
        have key : ∀ (G : List (List Nat)) (k : Nat), G.flatten.Nodup → (∀ b ∈ bs', b ∈ G.getD k [] ∨ b ∉ G.flatten) → (G.set k bs').flatten.Nodup := by
          intro G
          induction G with
          | nil => intro k _ _; simp
          | cons f G ih =>
            intro k hn hbb
            simp only [List.flatten_cons] at hn
            rw [List.nodup_append] at hn
            cases k with
            | zero =>
              rw [List.set_cons_zero, List.flatten_cons, List.nodup_append]
              refine ⟨d2, hn.2.1, fun x hx' y hy e => ?_⟩
              subst e
              rcases hbb x hx' with h1 | h1
              · exact hn.2.2 x (by simpa using h1) x hy rfl
              · exact h1 (by simp; exact Or.inr (List.mem_flatten.1 hy))
            | succ k =>
              rw [List.set_cons_succ, List.flatten_cons, List.nodup_append]
              refine ⟨hn.1, ih k hn.2.1 (fun b hbm => ?_), fun x hx' y hy e => ?_⟩
              · rcases hbb b hbm with h1 | h1
                · exact Or.inl (by simpa using h1)
                · exact Or.inr fun hm' => h1 (by simp only [List.flatten_cons]; exact List.mem_append_right _ hm')
              · subst e
                rcases mem_flatten_set hy with hy | hy
                · rcases hbb x hy with h1 | h1
                  · exact hn.2.2 x hx' x (getD_mem_flatten (by simpa using h1)) rfl
                  · exact h1 (by simp only [List.flatten_cons]; exact List.mem_append_left _ hx')
                · exact hn.2.2 x hx' x hy rfl
        refine key F P0.length hnd fun b hbm => ?_
        rcases (hbs b hbm).2.2.2 with h1 | h1
        · exact Or.inl h1
        · refine Or.inr fun hm' => ?_
          obtain ⟨i, _, hbi⟩ := mem_flatten_getD hm'
          have := hFlt i b hbi; omega
      · intro b hbm
        rcases mem_flatten_set hbm with hbm | hbm
        · obtain ⟨g1, g2, g3, _⟩ := hbs b hbm
          exact ⟨g1, g2, fun e => by simp [Value.ownBlock] at e; exact g3 e.symm⟩
        · obtain ⟨i, _, hbi⟩ := mem_flatten_getD hbm
          have := hFlt i b hbi
          exact ⟨(hb b hbm).1, by omega, (hb b hbm).2.2⟩
      · have hi2 : i < P0.length + 1 := by simpa using hi'
        rw [getD_set (by omega)]
        show Sh.Ow _ pcS _ _ (chunk (xs.set (P0.length * 2 + 1) v') 2 i)
        rw [chunk_setP (by omega) hx0]
        by_cases e : i = P0.length
        · subst e
          rw [if_pos rfl, if_pos rfl, List.getElem_append_right (Nat.le_refl _)]
          simp only [Nat.sub_self, List.getElem_cons_zero]
          refine pc_mk (Sh.Ow.keep _ _ _ _ (fun b hbm => ?_) d1) hwf
          obtain ⟨_, g2, g3, _⟩ := hbs b hbm
          exact hk2 b g3 g2
        · rw [if_neg e, if_neg e, List.getElem_append_left (by omega)]
          have hi3 := hel i (by rw [hlen]; omega)
          rw [List.getElem_append_left (by omega)] at hi3
          refine Sh.Ow.keep _ _ _ _ (fun b hbm => ?_) hi3
          have hbF := hb b (getD_mem_flatten hbm)
          have hblt := hFlt i b hbm
          have hbg : b ≠ g := fun e' => hbF.2.2 (by rw [e']; rfl)
          rw [hk2 b hbg (by omega)]
          refine hkeep b hblt fun e' => ?_
          -- the block is the last piece's: it lies in two of the rows
          have h1 := hob1 b e'
          have hF2 : F = F.take i ++ F.drop i := (List.take_append_drop i F).symm
          exact absurd hnd (by
            intro hnd'
            have hi4 : i < F.length := by omega
            have hl4 : P0.length < F.length := by omega
            have := List.pairwise_iff_getElem.1 (List.pairwise_flatten.1 hnd').2 i P0.length hi4 hl4 (by omega) b (by simpa [List.getD_eq_getElem?_getD, List.getElem?_eq_getElem hi4] using hbm) b (by simpa [List.getD_eq_getElem?_getD, List.getElem?_eq_getElem hl4] using h1)
            exact this rfl)

/-- Where the place ahead has a byte there is a last piece. -/
theorem pcsTo_last {mm : Int → Option Int} {d : Nat} (hgap : mm d = none) : ∀ (i : Nat), (mm ((d + i : Nat) : Int)).isSome = true → ∃ P0 p, pcsTo mm d (i + 1) = P0 ++ [p]
  | 0, h => by simp [hgap] at h
  | i + 1, h => by
    obtain ⟨b, hb⟩ := Option.isSome_iff_exists.1 h
    show ∃ P0 p, stepP mm (d + (i + 1)) (pcsTo mm d (i + 1)) = _
    unfold stepP
    rw [hb]
    simp only
    split
    · rename_i hc
      have e : ((d + (i + 1) : Nat) : Int) - 1 = ((d + i : Nat) : Int) := by omega
      rw [e] at hc
      obtain ⟨P0, p, hp⟩ := pcsTo_last hgap i hc.2
      exact ⟨P0, (p.1, p.2.1 ++ [b], ()), by rw [hp, addLast_snoc]⟩
    · exact ⟨_, _, rfl⟩

theorem addLast_data {P : List Pc} {n : Nat} {b : Int} (h : ∀ p ∈ P, p.2.1.length ≤ n) : ∀ p ∈ addLast P b, p.2.1.length ≤ n + 1 := by
  induction P with
  | nil => intro p hp; cases hp
  | cons q P ih =>
    cases P with
    | nil =>
      intro p hp
      have : p = (q.1, q.2.1 ++ [b], ()) := by simpa [addLast] using hp
      subst this
      have := h q (by simp)
      simp; omega
    | cons r P =>
      intro p hp
      have hp' : p ∈ q :: addLast (r :: P) b := hp
      rcases List.mem_cons.1 hp' with rfl | hp'
      · have := h p (by simp); omega
      · exact ih (fun p hp => h p (by simp [hp])) p hp'
theorem pcsTo_data (mm : Int → Option Int) (d : Nat) : ∀ j, ∀ p ∈ pcsTo mm d j, p.2.1.length ≤ j
  | 0, p, hp => by cases hp
  | j + 1, p, hp => by
    have ih := pcsTo_data mm d j
    have hp' : p ∈ stepP mm (d + j) (pcsTo mm d j) := hp
    unfold stepP at hp'
    split at hp'
    · have := ih p hp'; omega
    · split at hp'
      · exact addLast_data ih p hp'
      · rcases List.mem_append.1 hp' with h | h
        · have := ih p h; omega
        · simp at h; subst h; simp
end Go.Proofs.Ytnbcefdfdonljaa
