/- What the program makes of a copy of a gather: it owns its memory; nothing that was in memory turns; no condition but that there are at most a million parts. Written by mkcopy.py. -/
import Derived.Test.YtbdibjeemgkdaaaGreatRows
import Derived.Deep.RegionHeld3
import Derived.Deep.DeepCutAuto
import Derived.Deep.DeepMust
import Derived.Deep.MidRow
import Derived.Test.YtbdibjeemgkdaaaGreatK01
import Derived.Test.YtbdibjeemgkdaaaGreatK02
import Derived.Test.YtbdibjeemgkdaaaGreatK03
import Derived.Test.YtbdibjeemgkdaaaGreatK09
import Derived.Test.YtbdibjeemgkdaaaGreatK10
import Derived.Test.YtbdibjeemgkdaaaGreatK17
import Derived.Test.YtbdibjeemgkdaaaGreatK21
import Derived.Test.YtbdibjeemgkdaaaGreatK42
namespace Go.Proofs.YtbdibjeemgkdaaaGreat
open Go.RowKit
set_option linter.unusedVariables false
set_option maxRecDepth 8000

theorem iCopyB9 (a : Option Addr) (n cap : Nat) (l : List Int) (w : World) (hl : l.length = n) (hr : RB w a l) (hnil : a = none → cap = 0) (hn : n ≤ 1048576) :
    Calls Tryz.prog 61 #[.slice a n cap] w fun e w' => ∃ b1 c1, e = .returned (.slice b1 n c1) ∧ Own w' w.heap.size w'.heap.size u8s l [.slice b1 n c1] ∧ Below w.heap.size w w' := by
  go_enter Tryz.func61, Tryz.ntmps61
  go_wp2_with (at_builtin; go_loud (refine app_pl w rfl _ _ 22 22 rfl Tryz.underlying22 Tryz.underlying22 w.heap.size (.slice none 0 0) [] (by rfl) ⟨⟨rfl, Or.inl ⟨rfl, rfl⟩⟩, by simp⟩ a l n cap hl (by rfl) hr hnil (by simp; omega) (Nat.le_refl _) ?_; intro v' w5 ho5 hb5 hg5 hat5; rw [List.nil_append] at ho5; obtain ⟨b1, c1, hv1, -, -⟩ := ho5.rbn; rw [hl] at hv1; subst hv1))
  go_ret
  exact ⟨_, _, rfl, own_bytes ho5 (Nat.le_refl _), hb5⟩
theorem two_boxesG {w w1 : World} {A Z : Array Value} {t t' : TypeId} (hb : Below ((w.alloc (.cells A t)).alloc (.cells Z t')).heap.size ((w.alloc (.cells A t)).alloc (.cells Z t')) w1) :
    (∀ o, w1.cell? ⟨w.heap.size, o, none⟩ = A[o]?) ∧ (∀ o, w1.cell? ⟨w.heap.size + 1, o, none⟩ = Z[o]?) ∧ (∀ o, w1.frozen? ⟨w.heap.size + 1, o, none⟩ = false) ∧ Below w.heap.size w w1 ∧ w.heap.size + 1 < w1.heap.size := by
  refine ⟨fun o => ?_, fun o => ?_, fun o => ?_, ?_, ?_⟩
  · rw [hb.cell (p := ⟨w.heap.size, o, none⟩) (by simp; omega)]; simp [go_sem]
  · rw [hb.cell (p := ⟨w.heap.size + 1, o, none⟩) (by simp)]; simp [go_sem]
  · rw [hb.frozen (p := ⟨w.heap.size + 1, o, none⟩) (by simp)]; simp [go_sem]
  · exact Below.trans (((Below.refl _ _).alloc (Nat.le_refl _) _).alloc (by simp) _) (hb.mono (by simp; omega))
  · have := hb.size; simp at this; omega
theorem bxC {C : Nat} {w w' : World} {b : Nat} {A : Array Value} (h : ∀ o, w.cell? ⟨b, o, none⟩ = A[o]?) (hb : Below C w w') (hlt : b < C) : ∀ o, w'.cell? ⟨b, o, none⟩ = A[o]? := fun o => (hb.cell (p := ⟨b, o, none⟩) hlt).trans (h o)
theorem fxC {C : Nat} {w w' : World} {b : Nat} (h : ∀ o, w.frozen? ⟨b, o, none⟩ = false) (hb : Below C w w') (hlt : b < C) : ∀ o, w'.frozen? ⟨b, o, none⟩ = false := fun o => (hb.frozen (p := ⟨b, o, none⟩) hlt).trans (h o)
theorem pcs_at_tot {ps : List Pc} {k : Nat} (hk : k < ps.length) : ps[k].2.1.length ≤ pcsTot ps := by have h := dsum_at hk; unfold pcsTot; omega
theorem own_pcs0 (w : World) (lo hi : Nat) : Own w lo hi pcsS [] [.slice none 0 0] := ⟨[], Or.inl ⟨rfl, rfl, rfl⟩, by simp, by simp⟩
theorem bx_p1 {w : World} {b : Nat} {x0 x1 v : Value} (h : ∀ o, w.cell? ⟨b, o, none⟩ = (#[x0, x1] : Array Value)[o]?) : ∀ o, (w.setCell ⟨b, 1, none⟩ v).cell? ⟨b, o, none⟩ = (#[x0, v] : Array Value)[o]? := by
  have h2 := bx_put h (k := 1) (v := v) (by simp)
  simpa using h2
theorem bx_pp {w : World} {b : Nat} {x0 x1 u v : Value} (h : ∀ o, w.cell? ⟨b, o, none⟩ = (#[x0, x1] : Array Value)[o]?) : ∀ o, ((w.setCell ⟨b, 0, none⟩ u).setCell ⟨b, 1, none⟩ v).cell? ⟨b, o, none⟩ = (#[u, v] : Array Value)[o]? := by
  have h2 := bx_put (bx_put h (k := 0) (v := u) (by simp)) (k := 1) (v := v) (by simp)
  simpa using h2
theorem info_pc9 : (Tryz.prog.info? 129).map (fun i => (i.zero, i.size, i.bytes)) = some (some (.agg #[.int .i64 0, .slice none 0 0]), 2, 32) := by kernel_rfl
theorem ob_made9 (w : World) (base : Nat) (hb : base ≤ w.heap.size) : OB (w.alloc (.cells #[] 5)) base (.slice (some ⟨w.heap.size, 0, none⟩) 0 0) [] := ⟨World.ownsRow_made w #[] 0 hb (by decide) rfl, by simp⟩
end Go.Proofs.YtbdibjeemgkdaaaGreat
