/- A stream that is drawn: what keeps a box and a source, the least of two, a box of two that is stored whole; no condition. -/
import Derived.Test.YtnbcefdfdonljaaRows
import Derived.Test.YtnbcefdfdonljaaBase
import Derived.Test.YtnbcefdfdonljaaMem
import Derived.Test.YtnbcefdfdonljaaGath
import Derived.Test.YtnbcefdfdonljaaImplGath
import Derived.Test.YtnbcefdfdonljaaGathByte
import Derived.Test.YtnbcefdfdonljaaDraws
import Derived.Test.YtnbcefdfdonljaaDrawsD
import Derived.Test.YtnbcefdfdonljaaBox
import Derived.Test.YtnbcefdfdonljaaSubBox
import Derived.Test.YtnbcefdfdonljaaAgg
namespace Go.Proofs.Ytnbcefdfdonljaa
open Go.RowKit
set_option linter.unusedVariables false

theorem bx_drT {W W' : World} {sb b : Nat} {cs : Array Value} (h : ∀ o, W.cell? ⟨b, o, none⟩ = cs[o]?) (hd : Dr sb W W') (hb : b < W.heap.size) (hn : b ≠ sb) : ∀ o, W'.cell? ⟨b, o, none⟩ = cs[o]? := fun o => (hd.cell (p := ⟨b, o, none⟩) hb hn).trans (h o)
theorem fx_drT {W W' : World} {sb b : Nat} (h : ∀ o, W.frozen? ⟨b, o, none⟩ = false) (hd : Dr sb W W') (hb : b < W.heap.size) (hn : b ≠ sb) : ∀ o, W'.frozen? ⟨b, o, none⟩ = false := fun o => (hd.frozen (p := ⟨b, o, none⟩) hb hn).trans (h o)
theorem Dr.drewT (sb : Nat) (w : World) : Dr sb w w.drew := (Dr.refl sb w).then (Below.drew (Below.refl _ _)) (Nat.le_refl _)
theorem Src.drewT {w : World} {sb : Nat} {v : Value} {K : Int} (h : Src w sb v K) : Src w.drew sb v K := h.bel (Below.drew (Below.refl _ _))
theorem w64T {z : Int} (h0 : -9223372036854775808 ≤ z) (h1 : z ≤ 9223372036854775807) : IntKind.i64.wrap z = z := by simp only [IntKind.wrap, IntKind.bits, IntKind.signed]; simp; omega
theorem bel_oneT (w : World) (b k : Nat) (v : Value) : Below b w (w.setCell ⟨b, k, none⟩ v) := (Below.refl b w).setCell (p := ⟨b, k, none⟩) (Nat.le_refl _) v
theorem bx_twoT {w : World} {b : Nat} {x0 x1 u0 u1 : Value} (h : ∀ o, w.cell? ⟨b, o, none⟩ = (#[x0, x1] : Array Value)[o]?) : ∀ o, ((w.setCell ⟨b, 0, none⟩ u0).setCell ⟨b, 1, none⟩ u1).cell? ⟨b, o, none⟩ = (#[u0, u1] : Array Value)[o]? := by
  have h1 := bx_put h (k := 0) (v := u0) (by simp)
  have h2 := bx_put h1 (k := 1) (v := u1) (by simp)
  simpa using h2
theorem bel_twoT (w : World) (b : Nat) (u0 u1 : Value) : Below b w ((w.setCell ⟨b, 0, none⟩ u0).setCell ⟨b, 1, none⟩ u1) := (bel_oneT w b 0 u0).trans (bel_oneT _ b 1 u1)
theorem sMinT (a b : Int) (w : World) : Calls Try.prog 53 #[.int .i64 a, .int .i64 b] w fun e w' => e = .returned (.int .i64 (min a b)) ∧ w' = w := by
  by_cases h : a < b
  · rw [show min a b = a by omega]
    go_enter Try.func53, Try.ntmps53
    go_wp2
    go_ret
    exact ⟨rfl, rfl⟩
  · rw [show min a b = b by omega]
    go_enter Try.func53, Try.ntmps53
    go_wp2
    go_ret
    exact ⟨rfl, rfl⟩
theorem sPickT (sb : Nat) (a : Option Addr) (len cap : Nat) (zs : List Int) (K : Int) (g : Nat) (l : List Int) (W : World) (hs : Src W sb (.slice a len cap) K) (hr : BRow .u8 W a len cap zs) (hl : RowLt sb a zs) (hK : K ≤ 1000000) (hg : g ≠ sb) (h1 : 1 ≤ l.length) (h2 : l.length ≤ 1000) (hc : ∀ i, i < l.length → W.cell? ⟨g, i, none⟩ = some (.int .i64 (l.getD i 0))) :
    Calls Try.prog 54 #[.pointer (some ⟨sb, 0, none⟩), .slice (some ⟨g, 0, none⟩) l.length l.length] W fun e w' => ∃ r, e = .returned (.int .i64 r) ∧ r ∈ l ∧ Dr sb W w' ∧ Src w' sb (.slice a len cap) (K + 1) := by
  refine (sPick sb a len cap zs K g l.length (fun i => l.getD i 0) W hs hr hl hK hg h1 h2 hc).mono ?_
  rintro e w' ⟨i, rfl, hi, st, sr⟩
  refine ⟨_, rfl, ?_, st.dr, sr⟩
  rw [List.getD_eq_getElem?_getD, List.getElem?_eq_getElem hi]
  exact List.getElem_mem hi
theorem ob_formT {w : World} {base : Nat} {v : Value} {L : List Int} (h : OB w base v L) (hp : 0 < L.length) : ∃ b c, v = .slice (some ⟨b, 0, none⟩) L.length c ∧ base ≤ b ∧ b < w.heap.size ∧ L.length ≤ c ∧ c ≤ maxLen := by
  have hlt := h.own.lt
  obtain ⟨h1, ⟨rfl, hz⟩ | ⟨g, cap, cur, rfl, hg, hh, hc, hm, hs, ht⟩⟩ := h.own
  · omega
  · exact ⟨g, cap, rfl, hg, (hlt g rfl).2, hc, hm⟩
theorem own_nilG (W : World) (lo hi : Nat) : Own W lo hi gtS ([], [], ()) [.slice none 0 0, .slice none 0 0] := ⟨[], ⟨[], [], _, _, rfl, rfl, Or.inl ⟨rfl, rfl, rfl⟩, [], [], _, _, rfl, rfl, Or.inl ⟨rfl, rfl, rfl⟩, rfl, rfl⟩, by simp, by simp⟩
/-- A right gather that owns its memory, above lo; its bytes lie in the first N places. -/
structure GT (W : World) (lo N : Nat) (g : Gt) (a1 : Option Addr) (n1 c1 : Nat) (a2 : Option Addr) (n2 c2 : Nat) : Prop where
  own : Own W lo W.heap.size gtS g [.slice a1 n1 c1, .slice a2 n2 c2]
  ok : gtFault g = 0
  le : ∀ y : Int, (N : Int) ≤ y → gtByte g y = none
theorem GT.dr {W W' : World} {sb lo N n1 c1 n2 c2 : Nat} {g : Gt} {a1 a2 : Option Addr} (h : GT W lo N g a1 n1 c1 a2 n2 c2) (hd : Dr sb W W') (hs : sb < lo) : GT W' lo N g a1 n1 c1 a2 n2 c2 :=
  ⟨Own.mono (Own.keep h.own fun b h1 h2 => hd.block b h2 (by omega)) (Nat.le_refl _) hd.size, h.ok, h.le⟩
theorem GT.set {W : World} {lo N n1 c1 n2 c2 b k : Nat} {g : Gt} {a1 a2 : Option Addr} {v : Value} (h : GT W lo N g a1 n1 c1 a2 n2 c2) (hb : b < lo) : GT (W.setCell ⟨b, k, none⟩ v) lo N g a1 n1 c1 a2 n2 c2 :=
  ⟨Own.mono (Own.keep h.own fun g h1 h2 => Below.heap_setCell _ _ _ _ (by dsimp only; omega)) (Nat.le_refl _) (by simp), h.ok, h.le⟩
theorem GT.low {W : World} {lo lo' N n1 c1 n2 c2 : Nat} {g : Gt} {a1 a2 : Option Addr} (h : GT W lo N g a1 n1 c1 a2 n2 c2) (hb : lo' ≤ lo) : GT W lo' N g a1 n1 c1 a2 n2 c2 :=
  ⟨Own.mono h.own hb (Nat.le_refl _), h.ok, h.le⟩
/-- What a drawn stream and its gather are. -/
structure Strm (W : World) (lo : Nat) (g : Gt) (a1 : Option Addr) (n1 c1 : Nat) (a2 : Option Addr) (n2 c2 : Nat) (ss : List Int) (bs sn sc : Nat) : Prop where
  own : Own W lo W.heap.size gtS g [.slice a1 n1 c1, .slice a2 n2 c2]
  ob : OB W lo (.slice (some ⟨bs, 0, none⟩) sn sc) ss
  len : 6 ≤ sn ∧ sn ≤ 45
  few : g.2.1.length ≤ 41 ∧ g.1.length ≤ 401
  small : ∀ k (hk : k < g.2.1.length), g.2.1[k].2.1.length ≤ 400
end Go.Proofs.Ytnbcefdfdonljaa
