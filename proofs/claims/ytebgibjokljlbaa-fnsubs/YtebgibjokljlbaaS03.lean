/- Plain facts on whole numbers that go round at 65536: what is left of a number, how far one is ahead of another; no condition. -/
import Derived.WalkKit
import Derived.Handy
import Derived.Laws.BitsAllLaws
import Derived.Test.YtebgibjokljlbaaRows
import Derived.ProofKit
import Derived.Below
import Derived.Deep.MidRow
import Derived.OrdersHeld
import Derived.Deep.RegionHeld3
import Derived.WalkSmall
import Derived.Maps.AppendAt
import Derived.Test.YtebgibjokljlbaaS01
namespace Go.Proofs.Ytebgibjokljlbaa
open Go.RowKit
def wrp (n : Int) : Int := n % 65536
def ahd (a b : Int) : Int := if 32768 ≤ (b - a) % 65536 then (b - a) % 65536 - 65536 else (b - a) % 65536
def stp (a b : Int) : Int := (b - a) % 65536
theorem wrp_bd (n : Int) : 0 ≤ wrp n ∧ wrp n ≤ 65535 := by unfold wrp; omega
theorem stp_bd (a b : Int) : 0 ≤ stp a b ∧ stp a b ≤ 65535 := by unfold stp; omega
theorem ahd_bd (a b : Int) : -32768 ≤ ahd a b ∧ ahd a b ≤ 32767 := by unfold ahd; split <;> omega
theorem w16 (n : Int) : wrap64 (IntKind.u16.wrap n) = n % 65536 := by
  rw [IntKind.wrap_u16]; unfold wrap64; omega
theorem wrp_w16 (n : Int) : wrap64 (IntKind.u16.wrap n) = wrp n := w16 n
theorem i16w (n : Int) : IntKind.i16.wrap n = (n + 32768) % 65536 - 32768 := by
  simp only [IntKind.wrap, IntKind.bits, IntKind.signed]; simp; omega
theorem add_16 (a n : Int) : wrap64 (IntKind.u16.wrap (IntKind.u16.wrap a + IntKind.u16.wrap n)) = wrp (a + n) := by
  simp only [IntKind.wrap_u16, wrp]; unfold wrap64; omega
theorem sub_16 (a b : Int) : wrap64 (IntKind.u16.wrap (IntKind.u16.wrap b - IntKind.u16.wrap a)) = stp a b := by
  simp only [IntKind.wrap_u16, stp]; unfold wrap64; omega
theorem ahd_16 (a b : Int) : wrap64 (IntKind.i16.wrap (IntKind.u16.wrap (wrap64 (wrap64 (IntKind.u16.wrap b) - wrap64 (IntKind.u16.wrap a))))) = ahd a b := by
  simp only [i16w, IntKind.wrap_u16, ahd]; unfold wrap64; split <;> omega
theorem ahd_stp (a b : Int) : ahd a b = if 32768 ≤ stp a b then stp a b - 65536 else stp a b := rfl
theorem ahd_hi {a b : Int} (h : 32768 ≤ stp a b) : stp a b - 65536 = ahd a b := by rw [ahd_stp, if_pos h]
theorem ahd_lo {a b : Int} (h : ¬ 32768 ≤ stp a b) : stp a b = ahd a b := by rw [ahd_stp, if_neg h]
end Go.Proofs.Ytebgibjokljlbaa
namespace Go.Proofs.Ytebgibjokljlbaa
open Go.RowKit
theorem sWrap (n : Int) (w : World) :
    Calls Try.prog 113 #[.int .i64 n] w fun e w' => e = .returned (.int .i64 (wrp n)) ∧ w' = w := by
  go_enter Try.func113, Try.ntmps113
  go_wp2
  go_ret
  exact ⟨ret_int (wrp_w16 n), rfl⟩
theorem iAdd (a n : Int) (w : World) :
    Calls Try.prog 137 #[.int .i64 a, .int .i64 n] w fun e w' => e = .returned (.int .i64 (wrp (a + n))) ∧ w' = w := by
  go_enter Try.func137, Try.ntmps137
  go_wp2
  go_ret
  exact ⟨ret_int (add_16 a n), rfl⟩
theorem sAdd (a n : Int) (w : World) :
    Calls Try.prog 76 #[.int .i64 a, .int .i64 n] w fun e w' => e = .returned (.int .i64 (wrp (a + n))) ∧ w' = w := by
  go_enter Try.func76, Try.ntmps76
  go_wp2
  go_ret
  exact ⟨ret_int (by simp only [IntKind.wrap_u16, wrp]; unfold wrap64; omega), rfl⟩
theorem iSteps (a b : Int) (w : World) :
    Calls Try.prog 159 #[.int .i64 a, .int .i64 b] w fun e w' => e = .returned (.int .i64 (stp a b)) ∧ w' = w := by
  go_enter Try.func159, Try.ntmps159
  go_wp2
  go_ret
  exact ⟨ret_int (sub_16 a b), rfl⟩
theorem iAhead (a b : Int) (w : World) :
    Calls Try.prog 152 #[.int .i64 a, .int .i64 b] w fun e w' => e = .returned (.int .i64 (ahd a b)) ∧ w' = w := by
  have hb := stp_bd a b
  by_cases h : 32768 ≤ stp a b
  · go_enter Try.func152, Try.ntmps152
    go_wp2_with (go_at_call 159; refine (iSteps _ _ _).mono ?_; rintro e w' ⟨rfl, rfl⟩)
    go_ret
    exact ⟨ret_int (ahd_hi h), rfl⟩
  · go_enter Try.func152, Try.ntmps152
    go_wp2_with (go_at_call 159; refine (iSteps _ _ _).mono ?_; rintro e w' ⟨rfl, rfl⟩)
    go_ret
    exact ⟨ret_int (ahd_lo (by omega)), rfl⟩
theorem sAhead (a b : Int) (w : World) :
    Calls Try.prog 156 #[.int .i64 a, .int .i64 b] w fun e w' => e = .returned (.int .i64 (ahd a b)) ∧ w' = w := by
  go_enter Try.func156, Try.ntmps156
  go_wp2
  go_ret
  exact ⟨ret_int (ahd_16 a b), rfl⟩
end Go.Proofs.Ytebgibjokljlbaa
namespace Go.Proofs.Ytebgibjokljlbaa
open Go.RowKit
def unwC (a near : Int) : Int := if near < 0 ∨ 1000000000 < near then 3 else if near + ahd near a < 0 then 4 else 0
def unwV (a near : Int) : Int := if near < 0 ∨ 1000000000 < near then 0 else if near + ahd near a < 0 then 0 else near + ahd near a
theorem unw_out {a near : Int} (h : near < 0 ∨ 1000000000 < near) : unwC a near = 3 ∧ unwV a near = 0 := by
  unfold unwC unwV; rw [if_pos h, if_pos h]; exact ⟨rfl, rfl⟩
theorem unw_neg {a near : Int} (h0 : 0 ≤ near) (h1 : near ≤ 1000000000) (h : near + ahd near a < 0) : unwC a near = 4 ∧ unwV a near = 0 := by
  have hn : ¬ (near < 0 ∨ 1000000000 < near) := by omega
  unfold unwC unwV; rw [if_neg hn, if_neg hn, if_pos h, if_pos h]; exact ⟨rfl, rfl⟩
theorem unw_in {a near : Int} (h0 : 0 ≤ near) (h1 : near ≤ 1000000000) (h : 0 ≤ near + ahd near a) : unwC a near = 0 ∧ unwV a near = near + ahd near a := by
  have hn : ¬ (near < 0 ∨ 1000000000 < near) := by omega
  have hm : ¬ (near + ahd near a < 0) := by omega
  unfold unwC unwV; rw [if_neg hn, if_neg hn, if_neg hm, if_neg hm]; exact ⟨rfl, rfl⟩
theorem sIn (v low high : Int) (w : World) :
    Calls Try.prog 97 #[.int .i64 v, .int .i64 low, .int .i64 high] w fun e w' => e = .returned (.bool (decide (low ≤ v) && decide (v ≤ high))) ∧ w' = w := by
  by_cases h : low ≤ v
  · go_enter Try.func97, Try.ntmps97
    go_wp2
    go_ret
    exact ⟨ret_bool (by simp [h]), rfl⟩
  · have h' : decide (low ≤ v) = false := by simp; omega
    go_enter Try.func97, Try.ntmps97
    go_wp2
    go_ret
    exact ⟨ret_bool (by simp), rfl⟩
theorem iUnwrap (a near : Int) (w : World) :
    Calls Try.prog 136 #[.int .i64 a, .int .i64 near] w fun e w' =>
      e = .returned (.agg #[.int .i64 (unwC a near), .int .i64 (unwV a near)]) ∧ Below w.heap.size w w' := by
  have hb := ahd_bd near a
  by_cases h0 : near < 0
  · obtain ⟨ec, ev⟩ := unw_out (a := a) (Or.inl h0)
    rw [ec, ev]; clear ec ev
    go_enter Try.func136, Try.ntmps136
    go_wp2
    go_returns
    exact ⟨rfl, by go_grown⟩
  · by_cases h1 : 1000000000 < near
    · obtain ⟨ec, ev⟩ := unw_out (a := a) (Or.inr h1)
      rw [ec, ev]; clear ec ev
      go_enter Try.func136, Try.ntmps136
      go_wp2
      go_returns
      exact ⟨rfl, by go_grown⟩
    · by_cases h2 : near + ahd near a < 0
      · obtain ⟨ec, ev⟩ := unw_neg (a := a) (near := near) (by omega) (by omega) h2
        rw [ec, ev]; clear ec ev
        go_enter Try.func136, Try.ntmps136
        go_wp2_with (go_at_call 152; refine (iAhead _ _ _).mono ?_; rintro e w' ⟨rfl, rfl⟩)
        go_returns
        exact ⟨rfl, by go_grown⟩
      · obtain ⟨ec, ev⟩ := unw_in (a := a) (near := near) (by omega) (by omega) (by omega)
        rw [ec, ev]; clear ec ev
        go_enter Try.func136, Try.ntmps136
        go_wp2_with (go_at_call 152; refine (iAhead _ _ _).mono ?_; rintro e w' ⟨rfl, rfl⟩)
        go_returns
        exact ⟨rfl, by go_grown⟩
theorem sUnwrap (a near : Int) (w : World) :
    Calls Try.prog 145 #[.int .i64 a, .int .i64 near] w fun e w' =>
      e = .returned (.agg #[.int .i64 (unwC a near), .int .i64 (unwV a near)]) ∧ Below w.heap.size w w' := by
  have hb := ahd_bd near a
  by_cases h0 : near < 0 ∨ 1000000000 < near
  · obtain ⟨ec, ev⟩ := unw_out (a := a) h0
    rw [ec, ev]; clear ec ev
    have hin : (decide (0 ≤ near) && decide (near ≤ 1000000000)) = false := by simp; omega
    clear h0
    go_enter Try.func145, Try.ntmps145
    go_wp2_with (go_at_call 97; refine (sIn _ _ _ _).mono ?_; rintro e w' ⟨rfl, rfl⟩)
    go_returns
    exact ⟨rfl, by go_grown⟩
  · have hin : (decide (0 ≤ near) && decide (near ≤ 1000000000)) = true := by simp; omega
    have g0 : 0 ≤ near := by omega
    have g1 : near ≤ 1000000000 := by omega
    clear h0
    by_cases h2 : near + ahd near a < 0
    · obtain ⟨ec, ev⟩ := unw_neg (a := a) (near := near) (by omega) (by omega) h2
      rw [ec, ev]; clear ec ev
      go_enter Try.func145, Try.ntmps145
      go_wp2_with (first | (go_at_call 97; refine (sIn _ _ _ _).mono ?_; rintro e w' ⟨rfl, rfl⟩) | (go_at_call 156; refine (sAhead _ _ _).mono ?_; rintro e w' ⟨rfl, rfl⟩))
      go_returns
      exact ⟨rfl, by go_grown⟩
    · obtain ⟨ec, ev⟩ := unw_in (a := a) (near := near) (by omega) (by omega) (by omega)
      rw [ec, ev]; clear ec ev
      go_enter Try.func145, Try.ntmps145
      go_wp2_with (first | (go_at_call 97; refine (sIn _ _ _ _).mono ?_; rintro e w' ⟨rfl, rfl⟩) | (go_at_call 156; refine (sAhead _ _ _).mono ?_; rintro e w' ⟨rfl, rfl⟩))
      go_returns
      exact ⟨rfl, by go_grown⟩
end Go.Proofs.Ytebgibjokljlbaa
namespace Go.Proofs.Ytebgibjokljlbaa
open Go.RowKit
set_option linter.unusedVariables false
theorem bx_below {w w' : World} {b : Nat} {cs : Array Value} (h : ∀ o, w.cell? ⟨b, o, none⟩ = cs[o]?) (hb : b < w.heap.size) (k : Below w.heap.size w w') : ∀ o, w'.cell? ⟨b, o, none⟩ = cs[o]? :=
  fun o => (k.cell (p := ⟨b, o, none⟩) hb).trans (h o)
theorem bx_new {w w' : World} {cs : Array Value} {t : TypeId} (k : Below (w.alloc (.cells cs t)).heap.size (w.alloc (.cells cs t)) w') : ∀ o, w'.cell? ⟨w.heap.size, o, none⟩ = cs[o]? :=
  fun o => (k.cell (p := ⟨w.heap.size, o, none⟩) (by simp)).trans (by simp)
theorem bl_new {w w' : World} {O : Obj} (k : Below (w.alloc O).heap.size (w.alloc O) w') : Below w.heap.size w w' ∧ w.heap.size < w'.heap.size := by
  refine ⟨((Below.refl _ _).alloc (Nat.le_refl _) _).trans (k.mono (by simp)), ?_⟩
  have := k.size
  simp at this
  omega
theorem bl_drew {w w' : World} (k : Below w.drew.heap.size w.drew w') : Below w.heap.size w w' := (Below.drew (Below.refl _ _)).trans k
end Go.Proofs.Ytebgibjokljlbaa
namespace Go.Proofs.Ytebgibjokljlbaa
open Go.RowKit
set_option linter.unusedVariables false
theorem bx_put {w : World} {b k : Nat} {A : Array Value} {v : Value} (h : ∀ o, w.cell? ⟨b, o, none⟩ = A[o]?) (hk : k < A.size) : ∀ o, (w.setCell ⟨b, k, none⟩ v).cell? ⟨b, o, none⟩ = (A.setIfInBounds k v)[o]? := fun o => by
  by_cases e : o = k
  · subst e
    rw [World.cell?_setCell_same _ _ _ ((h o).trans (Array.getElem?_eq_getElem hk)), Array.getElem?_setIfInBounds_self_of_lt hk]
  · rw [World.cell?_setCell_other _ _ _ _ (by simp), h o, Array.getElem?_setIfInBounds_ne (by omega)]
theorem bx_off {w : World} {b b' k : Nat} {v : Value} {A : Array Value} (h : ∀ o, w.cell? ⟨b, o, none⟩ = A[o]?) (hne : b ≠ b') : ∀ o, (w.setCell ⟨b', k, none⟩ v).cell? ⟨b, o, none⟩ = A[o]? := fun o => by
  rw [World.cell?_setCell_other _ _ _ _ (by intro e; simp only [Addr.mk.injEq] at e; omega)]; exact h o
theorem bxF {B : Nat} {w w' : World} {b : Nat} (h : ∀ o, w.frozen? ⟨b, o, none⟩ = false) (k : Below B w w') (hb : b < B) : ∀ o, w'.frozen? ⟨b, o, none⟩ = false :=
  fun o => (k.frozen (p := ⟨b, o, none⟩) hb).trans (h o)
end Go.Proofs.Ytebgibjokljlbaa
namespace Go.Proofs.Ytebgibjokljlbaa
open Go.RowKit
set_option linter.unusedVariables false
theorem rd_one {w : World} {B : Nat} : ∀ (s : Sh) (d : s.El) (cs : List Value), s.Rd w B d cs → ∀ v ∈ cs, v.oneCell' = true
  | .int k, d, cs, h => by rw [h.1]; intro v hv; simp at hv; subst hv; rfl
  | .bool, d, cs, h => by have h' : cs = [.bool d] := h; rw [h']; intro v hv; simp at hv; subst hv; rfl
  | .row _ e, d, cs, ⟨a, cap, h1, _⟩ => by rw [h1]; intro v hv; simp at hv; subst hv; rfl
  | .rowO _ e, d, cs, ⟨a, cap, h1, _⟩ => by rw [h1]; intro v hv; simp at hv; subst hv; rfl
  | .nil, d, cs, h => by have h' : cs = [] := h; rw [h']; intro v hv; simp at hv
  | .cons f r, d, cs, ⟨c1, c2, h1, h2, h3⟩ => by
    subst h1
    intro v hv
    rcases List.mem_append.1 hv with hv | hv
    · exact rd_one f _ _ h2 v hv
    · exact rd_one r _ _ h3 v hv
theorem rd_all {w : World} {B : Nat} {s : Sh} {d : s.El} {A : Array Value} (h : s.Rd w B d A.toList) : A.all (·.oneCell') = true :=
  Array.all_eq_true_iff_forall_mem.2 (fun v hv => rd_one s d _ h v (by simpa using hv))
theorem rd_size {w : World} {B : Nat} {s : Sh} {d : s.El} {A : Array Value} (h : s.Rd w B d A.toList) : A.size = s.sz := by
  have := Sh.Rd.len s d _ h
  simpa using this
theorem bx_range {w : World} {b : Nat} {A : Array Value} (h : ∀ o, w.cell? ⟨b, o, none⟩ = A[o]?) : w.rangeAt b 0 A.toList := fun j v hv => by
  rw [Nat.zero_add, h j, ← Array.getElem?_toList]; exact hv
theorem bx_there {w : World} {b n : Nat} {A : Array Value} (h : ∀ o, w.cell? ⟨b, o, none⟩ = A[o]?) (hf : ∀ o, w.frozen? ⟨b, o, none⟩ = false) (hn : n = A.size) : w.there b 0 n := fun j hj => by
  refine ⟨?_, hf _⟩
  rw [Nat.zero_add, h j, Array.getElem?_eq_getElem (by omega)]; rfl
theorem setCells_block {b g : Nat} (hg : g ≠ b) : ∀ (vs : List Value) (w : World) (k : Nat), (w.setCells b k vs).heap[g]? = w.heap[g]?
  | [], _, _ => rfl
  | v :: vs, w, k => (setCells_block hg vs (w.setCell ⟨b, k, none⟩ v) (k + 1)).trans (Below.heap_setCell _ _ _ _ (by dsimp only; exact hg))
theorem setCells_size {b : Nat} : ∀ (vs : List Value) (w : World) (k : Nat), (w.setCells b k vs).heap.size = w.heap.size
  | [], _, _ => rfl
  | v :: vs, w, k => (setCells_size vs (w.setCell ⟨b, k, none⟩ v) (k + 1)).trans (by simp)
theorem setCells_below {b B : Nat} (hB : B ≤ b) : ∀ (vs : List Value) (w w0 : World) (k : Nat), Below B w0 w → Below B w0 (w.setCells b k vs)
  | [], _, _, _, h => h
  | v :: vs, w, w0, k, h => setCells_below hB vs _ w0 (k + 1) (h.setCell (p := ⟨b, k, none⟩) hB v)
theorem bx_setCells {w : World} {b : Nat} {A A' : Array Value} (h : ∀ o, w.cell? ⟨b, o, none⟩ = A[o]?) (hs : A'.size = A.size) : ∀ o, (w.setCells b 0 A'.toList).cell? ⟨b, o, none⟩ = A'[o]? := fun o => by
  by_cases ho : o < A'.size
  · have := World.cell?_setCells_in b A'.toList 0 w (fun j hj => by
      rw [Nat.zero_add, h j, Array.getElem?_eq_getElem (by simp at hj; omega)]; rfl) o (by simpa using ho)
    rw [Nat.zero_add] at this
    rw [this, Array.getElem?_eq_getElem ho]
    simp
  · rw [World.cell?_setCells_out b A'.toList 0 w ⟨b, o, none⟩ (fun _ _ => Or.inr (by simp; omega)), h o, Array.getElem?_eq_none (by omega), Array.getElem?_eq_none (by omega)]
theorem bx_setOff {w : World} {b b' k : Nat} {vs : List Value} {A : Array Value} (h : ∀ o, w.cell? ⟨b, o, none⟩ = A[o]?) (hne : b ≠ b') : ∀ o, (w.setCells b' k vs).cell? ⟨b, o, none⟩ = A[o]? := fun o => by
  rw [World.cell?_setCells_out b' vs k w ⟨b, o, none⟩ (fun e _ => absurd e hne)]; exact h o
theorem fx_sets {w : World} {b b' k : Nat} {vs : List Value} (h : ∀ o, w.frozen? ⟨b, o, none⟩ = false) : ∀ o, (w.setCells b' k vs).frozen? ⟨b, o, none⟩ = false := fun o => by
  rw [World.frozen?_setCells]; exact h o
theorem bx_al (w : World) (A : Array Value) (t : TypeId) : ∀ o, (w.alloc (.cells A t)).cell? ⟨w.heap.size, o, none⟩ = A[o]? := fun o => by simp [go_sem]
theorem fx_al (w : World) (A : Array Value) (t : TypeId) : ∀ o, (w.alloc (.cells A t)).frozen? ⟨w.heap.size, o, none⟩ = false := fun o => by simp [go_sem]
theorem row_at {w : World} {B : Nat} {t : TypeId} {e : Sh} {l : List e.El} {a : Option Addr} {n cap : Nat} (h : (Sh.row t e).Rd w B l [.slice a n cap]) (k : Nat) (hk : k < l.length) :
    ∃ b off cs, a = some ⟨b, off, none⟩ ∧ b < B ∧ cs.length = e.sz ∧ w.rangeAt b (off + k * e.sz) cs ∧ e.Rd w B l[k] cs := by
  obtain ⟨a', cap', h1, h2, h3, b, off, h4, h5⟩ := h
  simp only [List.cons.injEq, Value.slice.injEq, and_true] at h1
  obtain ⟨rfl, rfl, rfl⟩ := h1
  obtain ⟨ea, hb⟩ := h4 (by intro e; subst e; simp at hk)
  obtain ⟨cs, g1, g2, g3⟩ := h5 k hk
  refine ⟨b, off, cs, ea, hb, g1, fun j v hv => ?_, g3⟩
  have hj : j < cs.length := (List.getElem?_eq_some_iff.1 hv).1
  rw [g2 j (by omega)]; exact hv
theorem results_box {P : Program} {fn : Func} {p : Tmp} {ty : TypeId} (h : fn.results = #[.cell p ty]) (tmps : Array Value) (w : World) (b : Nat) (A : Array Value) (d : TypeDesc)
    (hp : tmps.getD p undef = .pointer (some ⟨b, 0, none⟩)) (hj : ∀ o, w.cell? ⟨b, o, none⟩ = A[o]?) (hu : P.underlying ty = some d) (hd : d.isRow = true) (hi : (P.info? ty).map (·.size) = some A.size) :
    (results fn tmps).run P w = .ok (.agg A) w := by
  have hp' : tmps[p]?.getD undef = .pointer (some ⟨b, 0, none⟩) := by simpa using hp
  simp [results, h, hp', asAddr, run_loadVar_mid w b 0 ty A.toList d (bx_range hj) hu hd (by simpa using hi)]
theorem arr_of {A : Array Value} {l : List Value} (h : A.toList = l) : A = l.toArray := by rw [← h]
end Go.Proofs.Ytebgibjokljlbaa
namespace Go.Proofs.Ytebgibjokljlbaa
open Go.RowKit
set_option linter.unusedVariables false
section
variable {P : Program} {ops : Array Oper} {Q : Exit → Act → World → Prop} {md : Region.Mode} {S : World → Prop} {z : Nat}
def Goes (P : Program) (md : Region.Mode) (ops : Array Oper) (Q : Exit → Act → World → Prop) (S : World → Prop) (z : Nat) : Nat → Array Bool → Act → World → Prop
  | 0, t, a, w => Region.ready md ops t = [] ∧ Q .normal a w
  | k + 1, t, a, w => (Region.ready md ops t = [] → Q .normal a w) ∧ ∀ i, i ∈ Region.ready md ops t → wpOp P ops Q i (fun b v => (i = z ∨ S v) ∧ Goes P md ops Q S z k (t.setIfInBounds i true) b v) a w
theorem Goes.any : ∀ (k : Nat) (t : Array Bool) (a : Act) (w : World), Goes P md ops Q S z k t a w → wpAny P md ops Q k t a w
  | 0, _, _, _, h => h
  | k + 1, _, _, _, h => ⟨h.1, fun i hi => wpOp_mono (fun b v hb => Goes.any k _ b v hb.2) (h.2 i hi)⟩
theorem Goes.first {i : Nat} {oi : Oper} {x : Value} (hi : ops[i]? = some oi) (hsel : ∀ (j : Nat) (o : Oper) cs b, ops[j]? = some o → o.op ≠ .select cs b)
    (hQ : ∀ c a w, Q (.panic c) (a.put oi.dst x) w → Q (.panic c) a w) (hz : ∀ o, ops[z]? = some o → ∃ e ∈ o.after, Region.binds md e = true ∧ e.on = i) :
    ∀ (k : Nat) (t : Array Bool) (a : Act) (w : World),
      (∀ j oj, ops[j]? = some oj → j ≠ i → t.getD j true = false → (∀ e ∈ oj.after, Region.binds md e = true → e.on ≠ i) → oi.apart ops oj = true) →
      i ∈ Region.ready md ops t → YieldsIf P ops S oi x a → S w →
      Goes P md ops Q S z k (t.setIfInBounds i true) (a.put oi.dst x) w → Goes P md ops Q S z (k + 1) t a w := by
  intro k
  induction k with
  | zero =>
    intro t a w _ hr hy hS H
    refine ⟨fun h => (by rw [h] at hr; cases hr), fun j hj => ?_⟩
    rcases Nat.decEq j i with hji | hji
    · have hrd := ready_mono hj hji
      rw [H.1] at hrd
      cases hrd
    · subst hji
      exact hy.wpOp hi hS ⟨Or.inr hS, H⟩
  | succ k ih =>
    intro t a w hfree hr hy hS H
    refine ⟨fun h => (by rw [h] at hr; cases hr), fun j hj => ?_⟩
    rcases Nat.decEq j i with hji | hji
    · have step := H.2 j (ready_mono hj hji)
      obtain ⟨hun, oj, hoj, hall⟩ := mem_ready.1 hj
      have hi0 := (mem_ready.1 hr).1
      have hnot : ∀ e ∈ oj.after, Region.binds md e = true → e.on ≠ i := fun e he hb heq => by
        have h1 := hall e he hb
        rw [heq] at h1
        rcases Nat.lt_or_ge i t.size with h' | h'
        · simp [h'] at hi0 h1; rw [hi0] at h1; cases h1
        · simp [Array.getElem?_eq_none h'] at h1
      have hjz : j ≠ z := fun e => by
        subst e
        obtain ⟨e, he, hb, hon⟩ := hz oj hoj
        exact hnot e he hb hon
      have two := wpOp_putIf hoj (hfree j oj hoj hji hun hnot) (fun cs b => hsel i oi cs b hi) (fun cs b => hsel j oj cs b hoj) hQ hy step
      refine wpOp_mono (fun b v h3 => ?_) two
      have hSv : S v := by
        rcases h3.2.1 with e | e
        · exact absurd e hjz
        · exact e
      refine ⟨Or.inr hSv, ih (t.setIfInBounds j true) b v (fun q oq hq hqi hqu hqn => hfree q oq hq hqi ?_ hqn) (ready_mono hr (Ne.symm hji)) h3.1 hSv ?_⟩
      · by_cases hjq : j = q
        · subst hjq; exact hun
        · rw [getD_set_ne true hjq] at hqu; exact hqu
      · rw [Array.setIfInBounds_comm _ _ hji]
        exact h3.2.2
    · subst hji
      exact hy.wpOp hi hS ⟨Or.inr hS, H⟩
def waitsFor (md : Region.Mode) (ops : Array Oper) (z i : Nat) : Bool := ((ops[z]?).map fun o => o.after.any fun e => Region.binds md e && e.on == i).getD true
theorem waits_spec {i : Nat} (h : waitsFor md ops z i = true) : ∀ o, ops[z]? = some o → ∃ e ∈ o.after, Region.binds md e = true ∧ e.on = i := fun o ho => by
  unfold waitsFor at h
  rw [ho] at h
  simp only [Option.map_some, Option.getD_some] at h
  obtain ⟨e, he, hb⟩ := Array.any_eq_true'.1 h
  simp only [Bool.and_eq_true, beq_iff_eq] at hb
  exact ⟨e, he, hb.1, hb.2⟩
theorem Goes.take {i : Nat} {oi : Oper} {x : Value} {k : Nat} {t : Array Bool} {a : Act} {w : World} (hi : ops[i]? = some oi)
    (hs : Region.noSelect ops = true) (hf : Region.free md ops t i = true) (hr : (Region.ready md ops t).contains i = true) (hz : waitsFor md ops z i = true)
    (hQ : ∀ c a w, Q (.panic c) (a.put oi.dst x) w → Q (.panic c) a w) (hy : YieldsIf P ops S oi x a) (hS : S w)
    (h : Goes P md ops Q S z k (t.setIfInBounds i true) (a.put oi.dst x) w) : Goes P md ops Q S z (k + 1) t a w :=
  Goes.first hi (Region.noSelect_spec hs) hQ (waits_spec hz) k t a w (Region.free_spec hi hf) (by simpa using hr) hy hS h
theorem Goes.done {t : Array Bool} {a : Act} {w : World} (hr : Region.ready md ops t = []) (h : Q .normal a w) : ∀ k, Goes P md ops Q S z k t a w
  | 0 => ⟨hr, h⟩
  | _ + 1 => ⟨fun _ => h, fun i hi => by rw [hr] at hi; cases hi⟩
def Ups (P : Program) (md : Region.Mode) (ops : Array Oper) (Q : Exit → Act → World → Prop) (S : World → Prop) (z k : Nat) (t : Array Bool) (a : Act) (w : World) (rs : List Nat) : Prop :=
  ∀ i ∈ rs, wpOp P ops Q i (fun b v => (i = z ∨ S v) ∧ Goes P md ops Q S z k (t.setIfInBounds i true) b v) a w
theorem Goes.all {rs : List Nat} {k : Nat} {t : Array Bool} {a : Act} {w : World} (hr : Region.ready md ops t = rs) (hne : rs ≠ []) (h : Ups P md ops Q S z k t a w rs) : Goes P md ops Q S z (k + 1) t a w :=
  ⟨fun h0 => absurd (hr ▸ h0) hne, fun i hi => h i (hr ▸ hi)⟩
theorem Ups.nil {k : Nat} {t : Array Bool} {a : Act} {w : World} : Ups P md ops Q S z k t a w [] := fun _ h => by cases h
theorem Ups.cons {k : Nat} {t : Array Bool} {a : Act} {w : World} {i : Nat} {o : Oper} {rs : List Nat} (ho : ops[i]? = some o)
    (h : ∀ K : Act → World → Prop, Hid (∀ b v, (i = z ∨ S v) → Goes P md ops Q S z k (t.setIfInBounds i true) b v → K b v) → if Region.wanted o (yielded ops a.tmps) = true then Oper.wp P o a w K Q else K (a.put o.dst undef) w)
    (hs : Ups P md ops Q S z k t a w rs) : Ups P md ops Q S z k t a w (i :: rs) := fun j hj => by
  rcases List.mem_cons.1 hj with rfl | hj
  · have h1 := h (fun b v => (j = z ∨ S v) ∧ Goes P md ops Q S z k (t.setIfInBounds j true) b v) (fun b v h1 h2 => ⟨h1, h2⟩)
    unfold wpOp
    simp only [ho]
    split at h1
    · rename_i hw
      rw [if_pos hw]
      exact Or.inl h1
    · rename_i hw
      rw [if_neg hw]
      exact h1
  · exact hs j hj
theorem Goes.start {id : Nat} {a : Act} {w : World} (hm : P.follows .mixedOrders = true) (h : Goes P .any ops Q S z ops.size (Array.replicate ops.size false) a w.drew) : (Code.region id ops true).wp P Q a w :=
  wp_region_any hm (Goes.any _ _ _ _ h)
end
end Go.Proofs.Ytebgibjokljlbaa
namespace Go.Proofs.Ytebgibjokljlbaa
open Go.RowKit
set_option linter.unusedVariables false
section
variable {P : Program} {ops : Array Oper} {Q : Exit → Act → World → Prop} {md : Region.Mode} {S : World → Prop} {z : Nat}
theorem wpOp_also {j : Nat} {oj : Oper} (hj : ops[j]? = some oj) {K : Act → World → Prop} {a : Act} {w : World} {Y : Act → Prop} (hY : ∀ u, Y (a.put oj.dst u)) (hYd : ∀ d u, Y (({ a with defers := d :: a.defers } : Act).put oj.dst u))
    (h : wpOp P ops Q j K a w) : wpOp P ops Q j (fun b v => Y b ∧ K b v) a w := by
  unfold wpOp at *
  simp only [hj] at *
  by_cases hw : Region.wanted oj (yielded ops a.tmps) = true
  · rw [if_pos hw] at h ⊢
    rcases h with h | h
    · refine Or.inl ?_
      unfold Oper.wp at *
      generalize (execOp a.eval oj).run P w = r at *
      cases r with
      | ok n w' =>
        cases n <;> simp only [Oper.upon] at h ⊢
        case value u => exact ⟨hY u, h⟩
        case skip => exact ⟨hY _, h⟩
        case defer d => exact ⟨hYd d _, h⟩
        case enter f args =>
          refine Calls.mono h fun e w'' he => ?_
          cases e with
          | returned u => exact ⟨hY u, he⟩
          | panicked c => exact he
          | outgrown => exact he
        case row row args => exact Rows.mono h fun u w'' he => ⟨hY u, he⟩
      | halt x w' =>
        cases x <;> simp only [Oper.upon] at h ⊢
        all_goals exact h
    · exact Or.inr h
  · rw [if_neg hw] at h ⊢
    exact ⟨hY _, h⟩
def QuietIf (P : Program) (ops : Array Oper) (S : World → Prop) (o : Oper) (x : Value) (a : Act) : Prop :=
  Region.wanted o (yielded ops a.tmps) = true ∧ ∀ w, S w → ∃ f args, (execOp a.eval o).run P w = .ok (.enter f args) w ∧ Calls P f args w (fun e w' => e = .returned x ∧ w' = w)
theorem QuietIf.here {i : Nat} {o : Oper} {x : Value} {a : Act} (hi : ops[i]? = some o) (hy : QuietIf P ops S o x a) {K : Act → World → Prop} {w : World} (hS : S w) (h : K (a.put o.dst x) w) : wpOp P ops Q i K a w := by
  unfold wpOp
  simp only [hi]
  rw [if_pos hy.1]
  refine Or.inl ?_
  obtain ⟨f, args, hrun, hc⟩ := hy.2 w hS
  unfold Oper.wp
  rw [hrun]
  simp only [Oper.upon]
  exact hc.mono (by rintro e w' ⟨rfl, rfl⟩; exact h)
theorem QuietIf.same {o : Oper} {x : Value} {a a' : Act} (hy : QuietIf P ops S o x a) (he : execOp a'.eval o = execOp a.eval o) (hw : Region.wanted o (yielded ops a'.tmps) = Region.wanted o (yielded ops a.tmps)) : QuietIf P ops S o x a' := by
  unfold QuietIf at *
  rw [he, hw]
  exact hy
theorem Goes.quiet {i : Nat} {oi : Oper} {x : Value} (hi : ops[i]? = some oi) (hsel : ∀ (j : Nat) (o : Oper) cs b, ops[j]? = some o → o.op ≠ .select cs b)
    (hQ : ∀ c a w, Q (.panic c) (a.put oi.dst x) w → Q (.panic c) a w) (hz : ∀ o, ops[z]? = some o → ∃ e ∈ o.after, Region.binds md e = true ∧ e.on = i) :
    ∀ (k : Nat) (t : Array Bool) (a : Act) (w : World),
      (∀ j oj, ops[j]? = some oj → j ≠ i → t.getD j true = false → (∀ e ∈ oj.after, Region.binds md e = true → e.on ≠ i) → oi.apart ops oj = true) →
      i ∈ Region.ready md ops t → QuietIf P ops S oi x a → S w →
      Goes P md ops Q S z k (t.setIfInBounds i true) (a.put oi.dst x) w → Goes P md ops Q S z (k + 1) t a w := by
  intro k
  induction k with
  | zero =>
    intro t a w _ hr hy hS H
    refine ⟨fun h => (by rw [h] at hr; cases hr), fun j hj => ?_⟩
    rcases Nat.decEq j i with hji | hji
    · have hrd := ready_mono hj hji
      rw [H.1] at hrd
      cases hrd
    · subst hji
      exact hy.here hi hS ⟨Or.inr hS, H⟩
  | succ k ih =>
    intro t a w hfree hr hy hS H
    refine ⟨fun h => (by rw [h] at hr; cases hr), fun j hj => ?_⟩
    rcases Nat.decEq j i with hji | hji
    · have step := H.2 j (ready_mono hj hji)
      obtain ⟨hun, oj, hoj, hall⟩ := mem_ready.1 hj
      have hi0 := (mem_ready.1 hr).1
      have hnot : ∀ e ∈ oj.after, Region.binds md e = true → e.on ≠ i := fun e he hb heq => by
        have h1 := hall e he hb
        rw [heq] at h1
        rcases Nat.lt_or_ge i t.size with h' | h'
        · simp [h'] at hi0 h1; rw [hi0] at h1; cases h1
        · simp [Array.getElem?_eq_none h'] at h1
      have hjz : j ≠ z := fun e => by
        subst e
        obtain ⟨e, he, hb, hon⟩ := hz oj hoj
        exact hnot e he hb hon
      have hap := hfree j oj hoj hji hun hnot
      have hsi : ∀ cs b, oi.op ≠ .select cs b := fun cs b => hsel i oi cs b hi
      obtain ⟨-, -, h3⟩ := Oper.apart_spec hap
      have two := wpOp_also (Y := fun b => QuietIf P ops S oi x b) hoj (fun u => hy.same (execOp_put oi hsi a oj.dst u h3) (wanted_put oi a oj.dst u h3))
        (fun d u => (hy.same (a' := { a with defers := d :: a.defers }) rfl rfl).same (execOp_put oi hsi _ oj.dst u h3) (wanted_put oi _ oj.dst u h3))
        (wpOp_putIf (S := fun _ => False) hoj hap hsi (fun cs b => hsel j oj cs b hoj) hQ (Or.inl ⟨hy.1, fun _ h => h.elim⟩) step)
      refine wpOp_mono (fun b v h4 => ?_) two
      have hSv : S v := by
        rcases h4.2.2.1 with e | e
        · exact absurd e hjz
        · exact e
      refine ⟨Or.inr hSv, ih (t.setIfInBounds j true) b v (fun q oq hq hqi hqu hqn => hfree q oq hq hqi ?_ hqn) (ready_mono hr (Ne.symm hji)) h4.1 hSv ?_⟩
      · by_cases hjq : j = q
        · subst hjq; exact hun
        · rw [getD_set_ne true hjq] at hqu; exact hqu
      · rw [Array.setIfInBounds_comm _ _ hji]
        exact h4.2.2.2
    · subst hji
      exact hy.here hi hS ⟨Or.inr hS, H⟩
theorem Goes.call {i : Nat} {oi : Oper} {x : Value} {k : Nat} {t : Array Bool} {a : Act} {w : World} (hi : ops[i]? = some oi)
    (hs : Region.noSelect ops = true) (hf : Region.free md ops t i = true) (hr : (Region.ready md ops t).contains i = true) (hz : waitsFor md ops z i = true)
    (hQ : ∀ c a w, Q (.panic c) (a.put oi.dst x) w → Q (.panic c) a w) (hy : QuietIf P ops S oi x a) (hS : S w)
    (h : Goes P md ops Q S z k (t.setIfInBounds i true) (a.put oi.dst x) w) : Goes P md ops Q S z (k + 1) t a w :=
  Goes.quiet hi (Region.noSelect_spec hs) hQ (waits_spec hz) k t a w (Region.free_spec hi hf) (by simpa using hr) hy hS h
end
end Go.Proofs.Ytebgibjokljlbaa
namespace Go.Proofs.Ytebgibjokljlbaa
open Go.RowKit
set_option linter.unusedVariables false
theorem info_i64 : (Try.prog.info? 2).map (fun i => (i.zero, i.size, i.bytes)) = some (some (.int .i64 0), 1, 8) := by kernel_rfl
structure RI (w : World) (a : Option Addr) (l : List Int) : Prop where
  mem : l = [] ∨ ∃ b off, a = some ⟨b, off, none⟩ ∧ ∀ i, i < l.length → w.cell? ⟨b, off + i, none⟩ = some (.int .i64 (l.getD i 0))
theorem RI.below {w w' : World} {a : Option Addr} {l : List Int} (h : RI w a l) {B : Nat} (hB : w.heap.size ≤ B) (hb : Below B w w') : RI w' a l := by
  refine ⟨?_⟩
  rcases h.mem with e | ⟨b, off, rfl, hc⟩
  · exact Or.inl e
  · refine Or.inr ⟨b, off, rfl, fun i hi => ?_⟩
    have hlt := cell_lt (hc i hi)
    rw [hb.cell (p := ⟨b, off + i, none⟩) (by simp at hlt ⊢; omega)]
    exact hc i hi
theorem RI.keep {w w' : World} {b off : Nat} {l : List Int} (h : RI w (some ⟨b, off, none⟩) l) (hk : w'.heap[b]? = w.heap[b]?) : RI w' (some ⟨b, off, none⟩) l := by
  refine ⟨?_⟩
  rcases h.mem with e | ⟨b', off', e, hc⟩
  · exact Or.inl e
  · simp only [Option.some.injEq, Addr.mk.injEq, and_true] at e
    obtain ⟨rfl, rfl⟩ := e
    exact Or.inr ⟨b, off, rfl, fun i hi => (World.cell?_of_block (w := w) (a := ⟨b, off + i, none⟩) hk).trans (hc i hi)⟩
theorem RI.nil (w : World) (a : Option Addr) : RI w a [] := ⟨Or.inl rfl⟩
end Go.Proofs.Ytebgibjokljlbaa
