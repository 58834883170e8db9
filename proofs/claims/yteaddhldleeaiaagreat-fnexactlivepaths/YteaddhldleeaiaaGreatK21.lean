/- Slices of whole numbers: what a slice that is read holds, and what the law's own helpers (copy, compare) make of them; no condition but that there are at most a million. -/
import Derived.Test.YteaddhldleeaiaaGreatRows
import Derived.WalkSmall
import Derived.Maps.AppendAt
import Derived.Test.YteaddhldleeaiaaGreatK01
import Derived.Test.YteaddhldleeaiaaGreatK03
import Derived.Test.YteaddhldleeaiaaGreatK04
import Derived.Test.YteaddhldleeaiaaGreatK09
import Derived.Test.YteaddhldleeaiaaGreatK11
namespace Go.Proofs.YteaddhldleeaiaaGreat
open Go.RowKit
set_option linter.unusedVariables false

theorem info_i64 : (Tryz.prog.info? 2).map (fun i => (i.zero, i.size, i.bytes)) = some (some (.int .i64 0), 1, 8) := by kernel_rfl

/-- The slice that begins at a reads as the numbers l. -/
structure RI (w : World) (a : Option Addr) (l : List Int) : Prop where
  mem : l = [] ∨ ∃ b off, a = some ⟨b, off, none⟩ ∧ ∀ i, i < l.length → w.cell? ⟨b, off + i, none⟩ = some (.int .i64 (l.getD i 0))

theorem RI.below {w w' : World} {a : Option Addr} {l : List Int} (h : RI w a l) {B : Nat} (hB : w.heap.size ≤ B) (hb : Below B w w') : RI w' a l := by
  refine ⟨?_⟩
  rcases h.mem with e | ⟨b, off, rfl, hc⟩
  · exact Or.inl e
  · refine Or.inr ⟨b, off, rfl, fun i hi => ?_⟩
    have hlt := cell_lt (hc i hi)
    rw [hb.cell (p := ⟨b, off + i, none⟩) (by simp at hlt ⊢; omega)]
    exact hc i hi
theorem RI.keep {w w' : World} {b off : Nat} {l : List Int} (h : RI w (some ⟨b, off, none⟩) l) (hk : w'.heap[b]? = w.heap[b]?) : RI w' (some ⟨b, off, none⟩) l := by
  refine ⟨?_⟩
  rcases h.mem with e | ⟨b', off', e, hc⟩
  · exact Or.inl e
  · simp only [Option.some.injEq, Addr.mk.injEq, and_true] at e
    obtain ⟨rfl, rfl⟩ := e
    exact Or.inr ⟨b, off, rfl, fun i hi => (World.cell?_of_block (w := w) (a := ⟨b, off + i, none⟩) hk).trans (hc i hi)⟩

theorem RI.nil (w : World) (a : Option Addr) : RI w a [] := ⟨Or.inl rfl⟩

theorem BRow.ri {w : World} {a : Option Addr} {len cap : Nat} {zs : List Int} (h : BRow .i64 w a len cap zs) : RI w a (zs.take len) ∧ (zs.take len).length = len := by
  have hlen : (zs.take len).length = len := by
    rcases h with ⟨_, rfl, _, rfl⟩ | ⟨x, rfl, h1, h2, h3, h4, h5⟩
    · rfl
    · rw [List.length_take]; omega
  refine ⟨⟨?_⟩, hlen⟩
  · by_cases hz : len = 0
    · left; subst hz; simp
    · right
      rcases h with ⟨_, h, _⟩ | ⟨x, rfl, h1, h2, h3, h4, h5⟩
      · omega
      · obtain ⟨b, off, spot⟩ := x
        have hc := h4 0 (by omega)
        have hspot : spot = none := by simpa [Addr.add] using World.cell?_spot hc
        subst hspot
        refine ⟨b, off, rfl, fun i hi => ?_⟩
        rw [hlen] at hi
        have := h4 i (by omega)
        rw [add_none] at this
        rw [this]
        simp [hi]

theorem ri_two (w : World) (b : Nat) (x y : Int) (t : TypeId) (hb : b = w.heap.size) : RI (w.alloc (.cells #[.int .i64 x, .int .i64 y] t)) (some ⟨b, 0, none⟩) [x, y] := by
  subst hb
  refine ⟨Or.inr ⟨_, _, rfl, fun i hi => ?_⟩⟩
  rw [World.cell?_alloc_new]
  match i, hi with
  | 0, _ => rfl
  | 1, _ => rfl
theorem ri_three (w : World) (b : Nat) (x y z : Int) (t : TypeId) (hb : b = w.heap.size) : RI (w.alloc (.cells #[.int .i64 x, .int .i64 y, .int .i64 z] t)) (some ⟨b, 0, none⟩) [x, y, z] := by
  subst hb
  refine ⟨Or.inr ⟨_, _, rfl, fun i hi => ?_⟩⟩
  rw [World.cell?_alloc_new]
  match i, hi with
  | 0, _ => rfl
  | 1, _ => rfl
  | 2, _ => rfl

theorem set_nextI {l : List Int} {k n : Nat} (hl : l.length = n) (hk : k < n) :
    (l.take k ++ List.replicate (n - k) 0).set k (l.getD k 0) = l.take (k + 1) ++ List.replicate (n - (k + 1)) 0 := by
  have h1 : (l.take k).length = k := by rw [List.length_take]; omega
  rw [List.set_append_right _ _ (by omega), h1, Nat.sub_self, show n - k = (n - (k + 1)) + 1 by omega, List.replicate_succ, List.set_cons_zero,
    List.take_succ_eq_append_getElem (by omega), List.append_assoc, List.getD_eq_getElem?_getD, List.getElem?_eq_getElem (by omega)]
  rfl


set_option maxHeartbeats 400000 in
theorem lEqInts (a b : Option Addr) (n cap cap' : Nat) (l : List Int) (w : World) (hl : l.length = n) (ha : RI w a l) (hb : RI w b l) (hn : n ≤ 281474976710656) :
    Calls Tryz.prog 29 #[.slice a n cap, .slice b n cap'] w fun e w' => ∃ m, e = .returned (.bool true) ∧ w' = w.drewN m := by
  go_enter Tryz.func29, Tryz.ntmps29
  go_wp2
  go_loopw [5] (fun i wr => ∃ (k m : Nat), k ≤ n ∧ i = .int .i64 k ∧ wr = w.drewN m) (fun i _ => n - (intOf i).toNat)
  case atStart => exact ⟨0, 0, Nat.zero_le _, rfl, rfl⟩
  case round =>
    obtain ⟨k, m, hk, rfl, rfl⟩ := hrel
    by_cases hlt : k < n
    · rcases ha.mem with e | ⟨b1, off1, rfl, hc1⟩
      · subst e; simp at hl; omega
      · rcases hb.mem with e | ⟨b2, off2, rfl, hc2⟩
        · subst e; simp at hl; omega
        · have c1 := hc1 k (by omega)
          have c2 := hc2 k (by omega)
          clear hc1 hc2 ha hb
          generalize l.getD k 0 = x at *
          go_wp2
          go_quiet (fail)
          go_wp2
          go_roundw
          case rel => exact ⟨k + 1, _, by omega, by go_num, rfl⟩
          case measure => simp [intOf]; omega
    · obtain rfl : k = n := by omega
      clear ha hb
      go_wp2
      go_ret
      exact ⟨m, rfl, rfl⟩
end Go.Proofs.YteaddhldleeaiaaGreat

/- A conn's fault is one of the codes: small numbers; no condition. -/
namespace Go.Proofs.YteaddhldleeaiaaGreat
open Go.RowKit
set_option linter.unusedVariables false
set_option maxRecDepth 8000

def Small (n : Int) : Prop := 0 ≤ n ∧ n ≤ 10
theorem small_c {n : Int} (h0 : 0 ≤ n) (h1 : n ≤ 10) : Small n := ⟨h0, h1⟩
theorem small_ite {c : Prop} [Decidable c] {a b : Int} (ha : Small a) (hb : Small b) : Small (if c then a else b) := by split; exact ha; exact hb
theorem pcFault_bd (a : Int) (n : Nat) (e : Int) : Small (pcFault a n e) := by unfold pcFault Small; (repeat' split) <;> omega
theorem pcsFault_bd : ∀ (ps : List Pc) (e : Int), Small (pcsFault e ps)
  | [], e => small_c (by simp [pcsFault]) (by simp [pcsFault])
  | p :: ps, e => by rw [pcsFault]; exact small_ite (pcFault_bd _ _ _) (pcsFault_bd ps _)
theorem gtFault_bd (g : Gt) : Small (gtFault g) := by unfold gtFault; exact small_ite (small_c (by omega) (by omega)) (pcsFault_bd _ _)
theorem flFault_bd (x : DFlight) (e : Int) : Small (flFault x e) := by unfold flFault Small; (repeat' split) <;> omega
theorem flsFault_bd : ∀ (l : List DFlight) (next e : Int), Small (flsFault next e l)
  | [], next, e => by rw [flsFault]; exact small_ite (small_c (by omega) (by omega)) (small_c (by omega) (by omega))
  | p :: ps, next, e => by rw [flsFault]; exact small_ite (flsFault_bd ps _ _) (flFault_bd _ _)
theorem sndFault_bd (x : DSender) : Small (sndFault x) := by unfold sndFault; exact small_ite (small_c (by omega) (by omega)) (small_ite (small_c (by omega) (by omega)) (flsFault_bd _ _ _))
theorem spF_bd (x : DSpan) (e : Int) : Small (spF x e) := by unfold spF Small; (repeat' split) <;> omega
theorem spsF_bd : ∀ (l : List DSpan) (e : Int), Small (spsF e l)
  | [], e => small_c (by simp [spsF]) (by simp [spsF])
  | p :: ps, e => by rw [spsF]; exact small_ite (spsF_bd ps _) (spF_bd _ _)
theorem caF_bd (x : DCatch) : Small (caF x) := by unfold caF; exact small_ite (small_c (by omega) (by omega)) (small_ite (small_c (by omega) (by omega)) (spsF_bd _ _))
theorem ctF_bd (a b p : Int) : Small (ctF a b p) := by unfold ctF; exact small_ite (small_c (by omega) (by omega)) (small_c (by omega) (by omega))
theorem subF_bd (x : DSub) : Small (subF x) := by
  unfold subF
  exact small_ite (small_c (by omega) (by omega)) (small_ite (small_ite (small_ite (small_ite (small_c (by omega) (by omega)) (small_c (by omega) (by omega))) (ctF_bd _ _ _)) (caF_bd _)) (sndFault_bd _))
theorem subsFrom_bd : ∀ (l pre : List DSub), Small (subsFrom pre l)
  | [], pre => small_c (by simp [subsFrom]) (by simp [subsFrom])
  | x :: xs, pre => by rw [subsFrom]; exact small_ite (subF_bd _) (small_ite (small_c (by omega) (by omega)) (small_ite (small_c (by omega) (by omega)) (subsFrom_bd xs _)))
theorem connF_bd (c : DConn) : Small (connF c) := by
  have k : ∀ n : Int, 0 ≤ n → n ≤ 10 → Small n := fun _ h0 h1 => ⟨h0, h1⟩
  unfold connF
  exact small_ite (k _ (by omega) (by omega)) (small_ite (k _ (by omega) (by omega)) (small_ite (k _ (by omega) (by omega)) (small_ite (k _ (by omega) (by omega)) (small_ite (gtFault_bd _) (small_ite (k _ (by omega) (by omega)) (small_ite (k _ (by omega) (by omega)) (small_ite (subsFrom_bd _ _) (small_ite (k _ (by omega) (by omega)) (small_ite (k _ (by omega) (by omega)) (k _ (by omega) (by omega)))))))))))
end Go.Proofs.YteaddhldleeaiaaGreat
