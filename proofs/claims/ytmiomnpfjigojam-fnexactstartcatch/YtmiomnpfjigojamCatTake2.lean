/- What the program answers where a span is taken, and of a new catch: code, whether it is fresh, and the catch, which owns its memory; nothing that was in memory turns; no condition but that there are at most a million spans. -/
import Derived.Test.YtmiomnpfjigojamRows
import Derived.Test.YtmiomnpfjigojamBase
import Derived.Test.YtmiomnpfjigojamMem
import Derived.Test.YtmiomnpfjigojamHBase
import Derived.Test.YtmiomnpfjigojamHSpan
import Derived.Test.YtmiomnpfjigojamHCatch
import Derived.Test.YtmiomnpfjigojamMSpan
import Derived.Test.YtmiomnpfjigojamMCatch
import Derived.Test.YtmiomnpfjigojamSpanRow
import Derived.Test.YtmiomnpfjigojamCatDef
import Derived.Test.YtmiomnpfjigojamCatSpec
import Derived.Test.YtmiomnpfjigojamCatImpl
import Derived.Test.YtmiomnpfjigojamCatCount
import Derived.Test.YtmiomnpfjigojamCatTake
import Derived.Test.YtmiomnpfjigojamBox
import Derived.Deep.RegionHeld3
namespace Go.Proofs.Ytmiomnpfjigojam
open Go.RowKit
set_option linter.unusedVariables false
set_option maxRecDepth 8000

theorem bl_drewK {w w' : World} {O : Obj} (k : Below (w.alloc O).drew.heap.size (w.alloc O).drew w') : Below (w.alloc O).heap.size (w.alloc O) w' := bl_drew k
theorem own_catO {w : World} {lo hi : Nat} {y0 y1 : Int} {l : List DSpan} {v : Value} (h0 : (Lit.int .i64 y0).wf = true) (h1 : (Lit.int .i64 y1).wf = true) (h : Own w lo hi shSpansO l [v]) (hh : lo ≤ hi) : Own w lo hi shCatchO (y0, y1, l, ()) [.int .i64 y0, .int .i64 y1, v] :=
  hOwnCons (hOwnInt w lo lo h0) (hOwnCons (hOwnInt w lo lo h1) (hOwnCons h (hOwnNil w hi hi) hh (Nat.le_refl _)) (Nat.le_refl _) hh) (Nat.le_refl _) hh
theorem own_spsNone (w : World) (lo hi : Nat) : Own w lo hi shSpansO [] [.slice none 0 0] := ⟨[], Or.inl ⟨rfl, rfl, none, 0, rfl, Nat.zero_le _, fun _ => rfl⟩, by simp, by simp⟩
theorem own_zcat (w : World) (lo hi : Nat) (hh : lo ≤ hi) : Own w lo hi shCatchO zCat [.int .i64 0, .int .i64 0, .slice none 0 0] := own_catO (WalkArith.wf_i64 (by omega)) (WalkArith.wf_i64 (by omega)) (own_spsNone w lo hi) hh
theorem own_stc (w : World) (lo hi : Nat) (n : Int) (hn : -9223372036854775808 ≤ n ∧ n ≤ 9223372036854775807) (hh : lo ≤ hi) : Own w lo hi shCatchO (n, 0, [], ()) [.int .i64 n, .int .i64 0, .slice none 0 0] := own_catO (WalkArith.wf_i64 hn) (WalkArith.wf_i64 (by omega)) (own_spsNone w lo hi) hh
theorem iStartCatch (n : Int) (w : World) : Calls Try.prog 28 #[.int .i64 n] w fun e w' => ∃ u, e = .returned (.agg #[.int .i64 (stcC n), .bool false, .int .i64 (stcV n).1, .int .i64 (stcV n).2.1, u]) ∧ Own w' w.heap.size w'.heap.size shCatchO (stcV n) [.int .i64 (stcV n).1, .int .i64 (stcV n).2.1, u] ∧ Below w.heap.size w w' := by
  by_cases h : inC n 0 65535 = true
  · have e1 : stcC n = 0 := by unfold stcC; rw [if_pos h]
    have e2 : stcV n = (n, 0, [], ()) := by unfold stcV; rw [if_pos h]
    rw [e1, e2]
    clear e1 e2
    have hb := inC_yes h
    go_enter Try.func28, Try.ntmps28
    go_wp2_with (go_at_call 45; refine (iInC _ _ _ _).mono ?_; rintro e w' ⟨rfl, hw⟩; subst w')
    go_returns
    exact ⟨_, rfl, own_stc _ _ _ n (by omega) (by simp), by go_grown⟩
  · have e1 : stcC n = 3 := by unfold stcC; rw [if_neg h]
    have e2 : stcV n = zCat := by unfold stcV; rw [if_neg h]; rfl
    rw [e1, e2]
    clear e1 e2
    replace h : inC n 0 65535 = false := by simpa using h
    go_enter Try.func28, Try.ntmps28
    go_wp2_with (go_at_call 45; refine (iInC _ _ _ _).mono ?_; rintro e w' ⟨rfl, hw⟩; subst w')
    go_returns
    exact ⟨_, rfl, own_zcat _ _ _ (by simp), by go_grown⟩
theorem sStartCatch (n : Int) (w : World) : Calls Try.prog 27 #[.int .i64 n] w fun e w' => ∃ u, e = .returned (.agg #[.int .i64 (stcC n), .bool false, .int .i64 (stcV n).1, .int .i64 (stcV n).2.1, u]) ∧ Own w' w.heap.size w'.heap.size shCatchO (stcV n) [.int .i64 (stcV n).1, .int .i64 (stcV n).2.1, u] ∧ Below w.heap.size w w' := by
  by_cases h : inC n 0 65535 = true
  · have e1 : stcC n = 0 := by unfold stcC; rw [if_pos h]
    have e2 : stcV n = (n, 0, [], ()) := by unfold stcV; rw [if_pos h]
    rw [e1, e2]
    clear e1 e2
    have hb := inC_yes h
    go_enter Try.func27, Try.ntmps27
    go_wp2_with (go_at_call 51; refine (sNumC _ _).mono ?_; rintro e w' ⟨rfl, hw⟩; subst w')
    go_returns
    exact ⟨_, rfl, own_stc _ _ _ n (by omega) (by simp), by go_grown⟩
  · have e1 : stcC n = 3 := by unfold stcC; rw [if_neg h]
    have e2 : stcV n = zCat := by unfold stcV; rw [if_neg h]; rfl
    rw [e1, e2]
    clear e1 e2
    replace h : inC n 0 65535 = false := by simpa using h
    go_enter Try.func27, Try.ntmps27
    go_wp2_with (go_at_call 51; refine (sNumC _ _).mono ?_; rintro e w' ⟨rfl, hw⟩; subst w')
    go_returns
    exact ⟨_, rfl, own_zcat _ _ _ (by simp), by go_grown⟩
/-- What is owned behind the first span. -/
theorem OS.tailO {w : World} {base hi g n cap : Nat} {f : DSpan} {r : List DSpan} (h : OS w base (.slice (some ⟨g, 0, none⟩) n cap) (f :: r)) (hh : w.heap.size ≤ hi) : Own w base hi shSpansO r [.slice (if cap = 1 then some ⟨g, 0, none⟩ else some ⟨g, 2, none⟩) (n - 1) (cap - 1)] := by
  obtain ⟨a, c, e, _, _, hc, hm⟩ := h.rs
  simp only [Value.slice.injEq] at e
  obtain ⟨rfl, hn, rfl⟩ := e
  by_cases h1 : cap = 1
  · rw [if_pos h1]
    have : r = [] := by
      have : r.length = 0 := by simp at hc; omega
      exact List.length_eq_zero_iff.1 this
    subst this
    exact ⟨[], Or.inl ⟨rfl, rfl, some ⟨g, 0, none⟩, cap - 1, by simp [hn], by omega, by simp⟩, by simp, by simp⟩
  · rw [if_neg h1]
    obtain ⟨g', ⟨e, ho⟩ | ⟨e, _⟩⟩ := h.ownO hh 1 (by simp)
    · simp only [Option.some.injEq, Addr.mk.injEq, and_true] at e
      subst e
      rw [hn]
      simpa using ho
    · cases e
theorem aft_cons {x : DCatch} {a z : Int} : ∃ f r, aftS x a z = f :: r := by
  unfold aftS
  split
  · cases h : insS a (a + z) (allS x) with
    | nil => exact absurd h (insS_ne _)
    | cons f r => exact ⟨f, r, rfl⟩
  · exact ⟨_, _, rfl⟩
theorem aft_bd {x : DCatch} {a z : Int} (h : caF x = 0) (hR : tkR a z = true) : ∀ t ∈ aftS x a z, 0 ≤ t.1 ∧ t.2.1 ≤ 1000100 := by
  obtain ⟨p0, p1, p2, p3, p4⟩ := tkR_yes hR
  intro t ht
  unfold aftS at ht
  split at ht
  · have h1 := insS_from (a := a) (b := a + z) (e := -1) (l := allS x) (by omega) (fun t ht => by have := all_bd h t ht; omega) t ht
    have h2 := insS_to (a := a) (b := a + z) (e := 1000100) (l := allS x) (by omega) (fun t ht => (all_bd h t ht).2.2) t ht
    omega
  · have := all_bd h t ht; omega
theorem aft_len {x : DCatch} {a z : Int} : (aftS x a z).length ≤ x.2.2.1.length + 2 := by
  unfold aftS
  split
  · have := insS_len (a := a) (b := a + z) (allS x); rw [allS_len] at this; omega
  · rw [allS_len]; omega
theorem aft_to {x : DCatch} {a z : Int} (h : caF x = 0) (hR : tkR a z = true) : ∀ t ∈ aftS x a z, t.1 ≤ t.2.1 := by
  obtain ⟨p0, p1, p2, p3, p4⟩ := tkR_yes hR
  unfold aftS
  split
  · exact (insS_sp (by omega) (allS_sp h)).le
  · exact (allS_sp h).le
end Go.Proofs.Ytmiomnpfjigojam
