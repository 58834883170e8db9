/- A catch that begins, and one that is copied, of both sides; nothing that was in memory turns; no condition but that there are at most a hundred thousand spans. -/
import Derived.Test.YtioehciabgdbaaaRows
import Derived.Test.YtioehciabgdbaaaBase
import Derived.Test.YtioehciabgdbaaaMem
import Derived.Test.YtioehciabgdbaaaHBase
import Derived.Test.YtioehciabgdbaaaHSpan
import Derived.Test.YtioehciabgdbaaaHCatch
import Derived.Test.YtioehciabgdbaaaHMark
import Derived.Test.YtioehciabgdbaaaMemApp
import Derived.Test.YtioehciabgdbaaaMSpan
import Derived.Test.YtioehciabgdbaaaMCatch
import Derived.Test.YtioehciabgdbaaaSpanRow
import Derived.Test.YtioehciabgdbaaaCatDef
import Derived.Test.YtioehciabgdbaaaCatSpec
import Derived.Test.YtioehciabgdbaaaCatImpl
import Derived.Test.YtioehciabgdbaaaBox
import Derived.Test.YtioehciabgdbaaaSubBox
import Derived.Deep.RegionHeld3
namespace Go.Proofs.Ytioehciabgdbaaa
open Go.RowKit
set_option linter.unusedVariables false
set_option maxRecDepth 8000

theorem os_none (w : World) (H : Nat) (hH : w.heap.size = H) : OS (w.alloc (.cells #[] 129)) H (.slice (some ⟨H, 0, none⟩) 0 0) [] := by
  subst hH
  exact OS.lit w [] (fun s hs => by simp at hs) (by simp)

theorem own_catO {w : World} {lo hi : Nat} {y0 y1 : Int} {l : List DSpan} {v : Value} (h0 : (Lit.int .i64 y0).wf = true) (h1 : (Lit.int .i64 y1).wf = true) (h : Own w lo hi shSpansO l [v]) (hh : lo ≤ hi) : Own w lo hi shCatchO (y0, y1, l, ()) [.int .i64 y0, .int .i64 y1, v] :=
  hOwnCons (hOwnInt w lo lo h0) (hOwnCons (hOwnInt w lo lo h1) (hOwnCons h (hOwnNil w hi hi) hh (Nat.le_refl _)) (Nat.le_refl _) hh) (Nat.le_refl _) hh
theorem own_spsNone (w : World) (lo hi : Nat) : Own w lo hi shSpansO [] [.slice none 0 0] := ⟨[], Or.inl ⟨rfl, rfl, none, 0, rfl, Nat.zero_le _, fun _ => rfl⟩, by simp, by simp⟩
theorem own_zcat (w : World) (lo hi : Nat) (hh : lo ≤ hi) : Own w lo hi shCatchO zCat [.int .i64 0, .int .i64 0, .slice none 0 0] := own_catO (WalkArith.wf_i64 (by omega)) (WalkArith.wf_i64 (by omega)) (own_spsNone w lo hi) hh
theorem own_stc (w : World) (lo hi : Nat) (n : Int) (hn : -9223372036854775808 ≤ n ∧ n ≤ 9223372036854775807) (hh : lo ≤ hi) : Own w lo hi shCatchO (n, 0, [], ()) [.int .i64 n, .int .i64 0, .slice none 0 0] := own_catO (WalkArith.wf_i64 hn) (WalkArith.wf_i64 (by omega)) (own_spsNone w lo hi) hh
set_option maxHeartbeats 2000000 in
theorem sL7Copy (y0 y1 : Int) (l : List DSpan) (a : Option Addr) (n cap : Nat) (w : World) (hn : l.length = n) (h : RS w a l) (hnil : a = none → cap = 0) (hm : n ≤ 100000) :
    Calls Try.prog 92 #[.agg #[.int .i64 y0, .int .i64 y1, .slice a n cap]] w fun e w' => ∃ ga c, e = .returned (.agg #[.int .i64 y0, .int .i64 y1, .slice ga n c]) ∧ OS w' w.heap.size (.slice ga n c) l ∧ Below w.heap.size w w' := by
  have HRS : Hid (∀ W, Below w.heap.size w W → RS W a l) := fun W hW => h.below hW
  have HN : Hid (l.length = n) := hn
  clear h hn
  go_enter Try.func92, Try.ntmps92
  go_wp2_with (at_builtin; refine app_plS _ rfl _ _ rfl (w.heap.size + 2) (.slice (some ⟨w.heap.size + 2, 0, none⟩) 0 0) [] (by rfl) (os_none _ _ (by simp)) a l n cap HN.out (by rfl) (HRS.out _ (by go_grown)) hnil (by simp; omega) (by simp) ?_; intro v' w1 ho1 hb1 hg1 hat1; obtain ⟨ga, c, ev, -⟩ := ho1.rs; rw [List.nil_append] at ho1 ev; rw [HN.out] at ev; subst ev; (have k0 : ∀ o, w1.cell? ⟨w.heap.size, o, none⟩ = (#[.int .i64 y0, .int .i64 y1, .slice a n cap] : Array Value)[o]? := (fun o => (by rw [hb1.cell (p := ⟨w.heap.size, o, none⟩) (by simp)]; simp [go_sem]))); (have k1 : ∀ o, w1.cell? ⟨w.heap.size + 1, o, none⟩ = (#[.int .i64 0, .int .i64 0, .slice none 0 0] : Array Value)[o]? := (fun o => (by rw [hb1.cell (p := ⟨w.heap.size + 1, o, none⟩) (by simp)]; simp [go_sem]))); (have f0 : ∀ o, w1.frozen? ⟨w.heap.size, o, none⟩ = false := (fun o => (by rw [hb1.frozen (p := ⟨w.heap.size, o, none⟩) (by simp)]; simp [go_sem]))); (have f1 : ∀ o, w1.frozen? ⟨w.heap.size + 1, o, none⟩ = false := (fun o => (by rw [hb1.frozen (p := ⟨w.heap.size + 1, o, none⟩) (by simp)]; simp [go_sem]))); (have HB1 : Hid (Below w.heap.size w w1) := Below.trans (by go_grown) (hb1.mono (by omega))); (have HO1 : Hid (OS w1 (w.heap.size + 2) (.slice ga n c) l) := ho1); (have z1 : w.heap.size + 2 < w1.heap.size := (by have := hb1.size; simp at this; omega)); clear ho1 hb1 hg1 hat1)
  refine bodyPost_ret (v := .agg #[.int .i64 y0, .int .i64 y1, .slice ga n c]) (by simp [results, Try.results92, go_sem, k1]) rfl ?_
  refine ⟨ga, c, rfl, ?_, ?_⟩
  · refine OS.mono (base := w.heap.size + 2) (HO1.out.keeps fun b hb1 _ => ?_) (by omega)
    have h1 : b ≠ w.heap.size := by omega
    have h2 : b ≠ w.heap.size + 1 := by omega
    repeat rw [Below.heap_setCell _ _ _ _ (by dsimp only; first | exact h1 | exact h2)]
  · have hB1 := HB1.out
    clear k0 k1 f0 f1 HB1
    go_grown
set_option maxHeartbeats 2000000 in
theorem iCopyCatch (y0 y1 : Int) (l : List DSpan) (a : Option Addr) (n cap : Nat) (w : World) (hn : l.length = n) (h : RS w a l) (hnil : a = none → cap = 0) (hm : n ≤ 100000) :
    Calls Try.prog 140 #[.agg #[.int .i64 y0, .int .i64 y1, .slice a n cap]] w fun e w' => ∃ ga c, e = .returned (.agg #[.int .i64 y0, .int .i64 y1, .slice ga n c]) ∧ OS w' w.heap.size (.slice ga n c) l ∧ Below w.heap.size w w' := by
  have HRS : Hid (∀ W, Below w.heap.size w W → RS W a l) := fun W hW => h.below hW
  have HN : Hid (l.length = n) := hn
  clear h hn
  go_enter Try.func140, Try.ntmps140
  go_wp2_with (at_builtin; refine app_plS _ rfl _ _ rfl (w.heap.size + 2) (.slice none 0 0) [] (by rfl) (OS.nil _ _) a l n cap HN.out (by rfl) (HRS.out _ (by go_grown)) hnil (by simp; omega) (by simp) ?_; intro v' w1 ho1 hb1 hg1 hat1; obtain ⟨ga, c, ev, -⟩ := ho1.rs; rw [List.nil_append] at ho1 ev; rw [HN.out] at ev; subst ev; (have k0 : ∀ o, w1.cell? ⟨w.heap.size, o, none⟩ = (#[.int .i64 y0, .int .i64 y1, .slice a n cap] : Array Value)[o]? := (fun o => (by rw [hb1.cell (p := ⟨w.heap.size, o, none⟩) (by simp)]; simp [go_sem]))); (have k1 : ∀ o, w1.cell? ⟨w.heap.size + 1, o, none⟩ = (#[.int .i64 0, .int .i64 0, .slice none 0 0] : Array Value)[o]? := (fun o => (by rw [hb1.cell (p := ⟨w.heap.size + 1, o, none⟩) (by simp)]; simp [go_sem]))); (have f0 : ∀ o, w1.frozen? ⟨w.heap.size, o, none⟩ = false := (fun o => (by rw [hb1.frozen (p := ⟨w.heap.size, o, none⟩) (by simp)]; simp [go_sem]))); (have f1 : ∀ o, w1.frozen? ⟨w.heap.size + 1, o, none⟩ = false := (fun o => (by rw [hb1.frozen (p := ⟨w.heap.size + 1, o, none⟩) (by simp)]; simp [go_sem]))); (have HB1 : Hid (Below w.heap.size w w1) := Below.trans (by go_grown) (hb1.mono (by omega))); (have HO1 : Hid (OS w1 (w.heap.size + 2) (.slice ga n c) l) := ho1); (have z1 : w.heap.size + 1 < w1.heap.size := (by have := hb1.size; simp at this; omega)); clear ho1 hb1 hg1 hat1)
  refine bodyPost_ret (v := .agg #[.int .i64 y0, .int .i64 y1, .slice ga n c]) (by simp [results, Try.results140, go_sem, k1]) rfl ?_
  refine ⟨ga, c, rfl, ?_, ?_⟩
  · refine OS.mono (base := w.heap.size + 2) (HO1.out.keeps fun b hb1 _ => ?_) (by omega)
    have h1 : b ≠ w.heap.size := by omega
    have h2 : b ≠ w.heap.size + 1 := by omega
    repeat rw [Below.heap_setCell _ _ _ _ (by dsimp only; first | exact h1 | exact h2)]
  · have hB1 := HB1.out
    clear k0 k1 f0 f1 HB1
    go_grown
end Go.Proofs.Ytioehciabgdbaaa
