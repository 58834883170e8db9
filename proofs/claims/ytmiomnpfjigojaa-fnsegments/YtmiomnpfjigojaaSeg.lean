/- Segments: what a segment that came in holds, and what the law's own helpers (copy, compare, mark, measure) make of one; no condition but that its load has at most a million bytes. -/
import Derived.Test.YtmiomnpfjigojaaRows
import Derived.Test.YtmiomnpfjigojaaBase
import Derived.Test.YtmiomnpfjigojaaBytes
import Derived.Lib.SmallJoins
import Derived.ChangeArms
namespace Go.Proofs.Ytmiomnpfjigojaa
open Go.RowKit Go.ChangeShapes Go.WideShapes Go.ChangeAt
set_option linter.unusedVariables false

/-- A segment as data. -/
structure Seg where
  path : Int
  frm : Int
  syn : Bool
  ackd : Bool
  rst : Bool
  seq : Int
  ack : Int
  fin : Int
  opt : Int
  a : Int
  b : Int
  load : List Int

/-- Every number of the segment is one of 64 bits. -/
structure Seg.Wf (s : Seg) : Prop where
  path : (Lit.int .i64 s.path).wf = true
  frm : (Lit.int .i64 s.frm).wf = true
  seq : (Lit.int .i64 s.seq).wf = true
  ack : (Lit.int .i64 s.ack).wf = true
  fin : (Lit.int .i64 s.fin).wf = true
  opt : (Lit.int .i64 s.opt).wf = true
  a : (Lit.int .i64 s.a).wf = true
  b : (Lit.int .i64 s.b).wf = true

section
variable {H : Type} {enc : TypeId × Value → H} {w : World} {P : Program}

/-- A field of a struct that reads, reads. -/
theorem trod_fieldAt {fuel : Nat} {t : TypeId} {cs : List Value} {x : DataW H × List MemPlace} {fs : Array Field} (ht : P.underlying t = some (.struct fs))
    (h : DataW.trod enc P w 0 (fun _ => true) true fuel t cs = some x) (i : Nat) (f : Field) (hf : fs[i]? = some f) :
    ∃ n y, DataW.trod enc P w 0 (fun _ => true) true n f.type ((cs.drop f.offset).take (P.cellsOf f.type)) = some y := by
  obtain ⟨xs, n, _, _, _, hlen, hx⟩ := DataW.trod_struct ht h
  have := hx i f hf
  have hi : i < fs.size := by
    apply Classical.byContradiction; intro hn
    rw [Array.getElem?_eq_none (by omega)] at hf; cases hf
  rw [List.getElem?_eq_getElem (by omega)] at this
  exact ⟨n, _, this⟩

theorem rd_int {fuel : Nat} {t : TypeId} {cs : List Value} {k : IntKind} (ht : P.underlying t = some (.int k)) (h : ∃ n y, DataW.trod enc P w 0 (fun _ => true) true n t cs = some y) : ∃ n, cs = [.int k n] ∧ (Lit.int k n).wf = true := by
  obtain ⟨_, _, h⟩ := h
  obtain ⟨n, h1, _, h2⟩ := DataW.trod_int ht h
  exact ⟨n, h1, h2⟩
theorem rd_bool {fuel : Nat} {t : TypeId} {cs : List Value} (ht : P.underlying t = some .bool) (h : ∃ n y, DataW.trod enc P w 0 (fun _ => true) true n t cs = some y) : ∃ b, cs = [.bool b] := by
  obtain ⟨_, _, h⟩ := h
  obtain ⟨b, h1, _⟩ := DataW.trod_bool ht h
  exact ⟨b, h1⟩
theorem rd_ints {t e : TypeId} {cs : List Value} {k : IntKind} (ht : P.underlying t = some (.slice e)) (he : P.underlying e = some (.int k)) (hc : P.cellsOf e = 1) (h : ∃ n y, DataW.trod enc P w 0 (fun _ => true) true n t cs = some y) :
    ∃ a len cap zs, cs = [.slice a len cap] ∧ BRow k w a len cap zs := by
  obtain ⟨_, _, hf⟩ := h
  rcases open_ints ht he hc hf with ⟨hcs, _⟩ | ⟨x, l, c, zs, hcs, _, hl, hm, hz, _, hcell, hwz⟩
  · exact ⟨none, 0, 0, [], hcs, .inl ⟨rfl, rfl, rfl, rfl⟩⟩
  · exact ⟨some x, l, c, zs, hcs, .inr ⟨_, rfl, hl, hm, by simpa using hz, hcell, hwz⟩⟩
end

theorem list12 {α : Type} {l : List α} (h : l.length = 12) : ∃ c0 c1 c2 c3 c4 c5 c6 c7 c8 c9 c10 c11, l = [c0, c1, c2, c3, c4, c5, c6, c7, c8, c9, c10, c11] := by
  match l, h with
  | [c0, c1, c2, c3, c4, c5, c6, c7, c8, c9, c10, c11], _ => exact ⟨c0, c1, c2, c3, c4, c5, c6, c7, c8, c9, c10, c11, rfl⟩

theorem cellsI64 : Try.prog.cellsOf 2 = 1 := by kernel_rfl
theorem cellsBool : Try.prog.cellsOf 4 = 1 := by kernel_rfl
theorem cellsU8 : Try.prog.cellsOf 5 = 1 := by kernel_rfl
theorem cellsBytes : Try.prog.cellsOf 22 = 1 := by kernel_rfl




end Go.Proofs.Ytmiomnpfjigojaa
