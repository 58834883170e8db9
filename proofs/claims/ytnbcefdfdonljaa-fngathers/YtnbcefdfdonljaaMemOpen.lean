/- A parameter of a law that reads, of whatever shape, opened: there is a datum that its cells read as; no condition. -/
import Derived.Test.YtnbcefdfdonljaaBase
import Derived.Test.YtnbcefdfdonljaaBytes
import Derived.Test.YtnbcefdfdonljaaMem
import Derived.Deep.Slices
import Derived.ChangeArms
namespace Go.Proofs.Ytnbcefdfdonljaa
open Go.RowKit Go.ChangeShapes Go.WideShapes Go.ChangeAt
set_option linter.unusedVariables false

def Sh.zero : (s : Sh) → s.El
  | .int _ => (0 : Int)
  | .bool => false
  | .row _ _ => []
  | .rowO _ _ => []
  | .nil => ()
  | .cons f r => (f.zero, r.zero)
instance (s : Sh) : Inhabited s.El := ⟨s.zero⟩

abbrev Rds {H : Type} (enc : TypeId × Value → H) (P : Program) (w : World) (t : TypeId) (cs : List Value) : Prop := ∃ n y, DataW.trod enc P w 0 (fun _ => true) true n t cs = some y

/-- The shape is that of a type (or of a struct's last fields, from a cell on). -/
def Sh.fits (P : Program) : Sh → TypeId ⊕ (List Field × Nat) → Prop
  | .int k, .inl t => P.underlying t = some (.int k)
  | .bool, .inl t => P.underlying t = some .bool
  | .row _ s, .inl t => ∃ e, P.underlying t = some (.slice e) ∧ P.cellsOf e = s.sz ∧ 0 < s.sz ∧ s.fits P (.inl e)
  | .cons f r, .inl t => ∃ fd fs, P.underlying t = some (.struct ⟨fd :: fs⟩) ∧ P.cellsOf t = f.sz + r.sz ∧ fd.offset = 0 ∧ P.cellsOf fd.type = f.sz ∧ f.fits P (.inl fd.type) ∧ r.fits P (.inr (fs, f.sz))
  | .cons f r, .inr (fd :: fs, off) => fd.offset = off ∧ P.cellsOf fd.type = f.sz ∧ f.fits P (.inl fd.type) ∧ r.fits P (.inr (fs, off + f.sz))
  | .nil, .inr ([], _) => True
  | _, _ => False

theorem open_sh {H : Type} {enc : TypeId × Value → H} {P : Program} {w : World} : ∀ (s : Sh),
    (∀ t cs, s.fits P (.inl t) → Rds enc P w t cs → ∃ d, s.Rd w w.heap.size d cs) ∧
    (∀ (fs : List Field) (off : Nat) (cs : List Value), s.fits P (.inr (fs, off)) → cs.length = off + s.sz → (∀ fd ∈ fs, Rds enc P w fd.type ((cs.drop fd.offset).take (P.cellsOf fd.type))) → ∃ d, s.Rd w w.heap.size d (cs.drop off)) := by
  intro s
  induction s with
  | int k =>
    refine ⟨fun t cs hf ⟨n, y, h⟩ => ?_, fun fs off cs hf => ?_⟩
    · obtain ⟨z, h1, _, h2⟩ := DataW.trod_int hf h
      exact ⟨z, h1, h2⟩
    · cases fs <;> exact absurd hf (by simp [Sh.fits])
  | bool =>
    refine ⟨fun t cs hf ⟨n, y, h⟩ => ?_, fun fs off cs hf => ?_⟩
    · obtain ⟨b, h1, _⟩ := DataW.trod_bool hf h
      exact ⟨b, h1⟩
    · cases fs <;> exact absurd hf (by simp [Sh.fits])
  | nil =>
    refine ⟨fun t cs hf => absurd hf (by simp [Sh.fits]), fun fs off cs hf hl _ => ⟨(), ?_⟩⟩
    show cs.drop off = []
    exact List.drop_of_length_le (by rw [hl]; exact Nat.le_refl _)
  | rowO t0 e ih => exact ⟨fun t cs hf => absurd hf (by simp [Sh.fits]), fun fs off cs hf => absurd hf (by simp [Sh.fits])⟩
  | row t0 e ih =>
    refine ⟨fun t cs hf ⟨n, y, h⟩ => ?_, fun fs off cs hf => ?_⟩
    · obtain ⟨te, hu, hc, hp, hfe⟩ := hf
      rcases Go.Deep.open_slice hu h with ⟨rfl, _⟩ | ⟨a, len, cap, m, n', D, Pl, rfl, _, hl, hm, hmm, _, hx⟩
      · exact ⟨[], none, 0, rfl, ⟨Nat.le_refl _, Nat.zero_le _⟩, fun _ => rfl, 0, 0, fun h => absurd rfl h, fun i hi => by simp at hi⟩
      · simp only [if_true] at hmm
        have each : ∀ i, i < len → ∃ q : e.El × List Value, w.cells? 0 (a.add (i * P.cellsOf te)) (P.cellsOf te) = some q.2 ∧ e.Rd w w.heap.size q.1 q.2 := by
          intro i hi
          obtain ⟨cs', h1, h2⟩ := hx i (by omega)
          obtain ⟨d, hd⟩ := ih.1 te cs' hfe ⟨n', _, h2⟩
          exact ⟨(d, cs'), h1, hd⟩
        obtain ⟨q, hq⟩ := Go.Deep.choose_lt (α := e.El × List Value) each
        have hsp : 0 < len → a = ⟨a.block, a.off, none⟩ ∧ a.block < w.heap.size := by
          intro hlen
          obtain ⟨_, hlen', hcell⟩ := World.cells?_some (hq 0 hlen).1
          have h0 := hcell 0 (by omega)
          have hs := World.cell?_spot (h0.trans (List.getElem?_eq_getElem (by omega)))
          have hb := cell_lt (h0.trans (List.getElem?_eq_getElem (by omega)))
          simp only [Go.Deep.add_add] at hs hb
          rw [add_block] at hb
          refine ⟨?_, hb⟩
          obtain ⟨b, o, sp⟩ := a
          have : sp = none := by simpa [Addr.add] using hs
          rw [this]
        refine ⟨(List.range len).map fun i => (q i).1, some a, cap, ?_, ?_, fun h => (by cases h), a.block, a.off, fun hne => ?_, fun i hi => ⟨(q i).2, ?_, fun j hj => ?_, ?_⟩⟩
        · simp
        · exact ⟨by simp; exact hl, hm⟩
        · have hlen : 0 < len := by
            rcases Nat.eq_zero_or_pos len with h0 | h0
            · subst h0; exact absurd rfl hne
            · exact h0
          exact ⟨congrArg some (hsp hlen).1, (hsp hlen).2⟩
        · obtain ⟨_, hlen', _⟩ := World.cells?_some (hq i (by simpa using hi)).1
          rw [hlen', hc]
        · obtain ⟨_, hlen', hcell⟩ := World.cells?_some (hq i (by simpa using hi)).1
          have h0 := hcell j (by omega)
          simp only [Go.Deep.add_add] at h0
          rw [(hsp (by simp at hi; omega)).1, add_none] at h0
          rw [← h0]
          show w.cell? ⟨a.block, a.off + i * e.sz + j, none⟩ = _
          rw [hc, Nat.add_assoc]
        · have := (hq i (by simpa using hi)).2
          simpa using this
    · cases fs <;> exact absurd hf (by simp [Sh.fits])
  | cons f r ihf ihr =>
    have step : ∀ (fd : Field) (fs : List Field) (off : Nat) (cs : List Value), fd.offset = off → P.cellsOf fd.type = f.sz → f.fits P (.inl fd.type) → r.fits P (.inr (fs, off + f.sz)) → cs.length = off + (f.sz + r.sz) →
        (∀ fd' ∈ fd :: fs, Rds enc P w fd'.type ((cs.drop fd'.offset).take (P.cellsOf fd'.type))) → ∃ d, (Sh.cons f r).Rd w w.heap.size d (cs.drop off) := by
      intro fd fs off cs h1 h2 h3 h4 hl hall
      obtain ⟨d1, hd1⟩ := ihf.1 fd.type _ h3 (hall fd (by simp))
      obtain ⟨d2, hd2⟩ := ihr.2 fs (off + f.sz) cs h4 (by omega) (fun fd' hfd' => hall fd' (by simp [hfd']))
      refine ⟨(d1, d2), _, _, ?_, hd1, hd2⟩
      rw [h1, h2, ← List.drop_drop, List.take_append_drop]
    refine ⟨fun t cs hf hr => ?_, fun fs off cs hf hl hall => ?_⟩
    · obtain ⟨fd, fs, hu, hct, h1, h2, h3, h4⟩ := hf
      obtain ⟨n, y, h⟩ := hr
      obtain ⟨xs, n', _, _, hlen, hxl, hx⟩ := DataW.trod_struct hu h
      have hall : ∀ fd' ∈ fd :: fs, Rds enc P w fd'.type ((cs.drop fd'.offset).take (P.cellsOf fd'.type)) := by
        intro fd' hmem
        obtain ⟨i, hi, he⟩ := List.getElem_of_mem hmem
        have := hx i fd' (by rw [← Array.getElem?_toList]; show (fd :: fs)[i]? = _; rw [List.getElem?_eq_getElem hi, he])
        have hxi : i < xs.length := by rw [hxl]; exact hi
        rw [List.getElem?_eq_getElem hxi] at this
        exact ⟨n', _, this⟩
      have := step fd fs 0 cs h1 h2 h3 (by rw [Nat.zero_add]; exact h4) (by rw [hlen, hct]; omega) hall
      simpa using this
    · cases fs with
      | nil => exact absurd hf (by simp [Sh.fits])
      | cons fd fs =>
        obtain ⟨h1, h2, h3, h4⟩ := hf
        exact step fd fs off cs h1 h2 h3 h4 hl hall
end Go.Proofs.Ytnbcefdfdonljaa
