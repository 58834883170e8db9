/- What FitsStream answers, of the program and of its model; what was in memory stays; no condition but that there are at most a million bytes. -/
import Derived.Test.YtnfkjdcnngoeiaaRows
import Derived.Test.YtnfkjdcnngoeiaaBase
import Derived.Test.YtnfkjdcnngoeiaaBytes
import Derived.Test.YtnfkjdcnngoeiaaMem
import Derived.Test.YtnfkjdcnngoeiaaGath
import Derived.Test.YtnfkjdcnngoeiaaImplGath
import Derived.Test.YtnfkjdcnngoeiaaSpecGath
import Derived.Test.YtnfkjdcnngoeiaaGathByte
import Derived.Test.YtnfkjdcnngoeiaaStr
import Derived.Test.YtnfkjdcnngoeiaaBox
import Derived.Deep.DeepCutAuto
import Derived.Deep.RegionHeld3
namespace Go.Proofs.Ytnfkjdcnngoeiaa
open Go.RowKit
set_option linter.unusedVariables false

/-- The stream has at k what the gather has there (if it has a byte). -/
def fitAt (g : Gt) (l : List Int) (k : Nat) : Bool := match gtByte g k with
  | none => true
  | some b => decide (k < l.length) && (l.getD k 0 == b)
/-- .. at all places. -/
def FitP (g : Gt) (l : List Int) : Prop := ∀ k, k < 400 → fitAt g l k = true
noncomputable def fitAll (g : Gt) (l : List Int) : Bool := @decide (FitP g l) (Classical.propDecidable _)
noncomputable def fitsV (g : Gt) (l : List Int) : Bool := if gtFault g ≠ 0 then false else fitAll g l

theorem fitAll_no {g : Gt} {l : List Int} {k : Nat} (hk : k < 400) (h : fitAt g l k = false) : fitAll g l = false := by
  refine (@decide_eq_false_iff_not (FitP g l) (Classical.propDecidable _)).2 ?_
  intro hh
  rw [hh k hk] at h; cases h
theorem fitAll_yes {g : Gt} {l : List Int} (h : FitP g l) : fitAll g l = true := (@decide_eq_true_iff (FitP g l) (Classical.propDecidable _)).2 h
theorem fitAll_at {g : Gt} {l : List Int} (h : fitAll g l = true) : FitP g l := (@decide_eq_true_iff (FitP g l) (Classical.propDecidable _)).1 h

set_option maxHeartbeats 2000000 in
set_option maxRecDepth 8000 in
theorem sL3Fits (g : Gt) (v1 v2 : Value) (l : List Int) (a : Option Addr) (cap : Nat) (p : Nat) (w : World) (B : Nat) (hr : gtS.Rd w B g [v1, v2]) (hl : u8s.Rd w B l [.slice a l.length cap]) (hB : B ≤ w.heap.size) (hF : gtFault g = 0) (hn : l.length ≤ 1048576)
    (hp : ∀ o, w.cell? ⟨p, o, none⟩ = (#[v1, v2] : Array Value)[o]?) (hpl : p < w.heap.size) :
    Calls Try.prog 14 #[.pointer (some ⟨p, 0, none⟩), .slice a l.length cap] w fun e w' => e = .returned (.bool (fitAll g l)) ∧ Below w.heap.size w w' := by
  have HC : Hid (∀ W, Below w.heap.size w W → ∀ k : Nat, Calls Try.prog 22 #[.pointer (some ⟨p, 0, none⟩), .int .i64 k] W fun e w' => e = .returned (.tuple #[.int .u8 ((gtByte g k).getD 0), .bool (gtByte g k).isSome]) ∧ Below W.heap.size W w') :=
    fun W hW k => sL3Byte g _ _ p k W B (hr.below hB hW) (Nat.le_trans hB hW.size) hF (fun o => (hW.cell (p := ⟨p, o, none⟩) hpl).trans (hp o))
  have HRd : Hid (∀ W, Below w.heap.size w W → u8s.Rd W B l [.slice a l.length cap]) := fun W hW => hl.below hB hW
  have HF1 : Hid (∀ k, k < 400 → fitAt g l k = false → fitAll g l = false) := fun k hk h => fitAll_no hk h
  have HF2 : Hid ((∀ k, k < 400 → fitAt g l k = true) → fitAll g l = true) := fun h => fitAll_yes h
  obtain ⟨M, hM⟩ : ∃ M : Nat, M = 400 := ⟨_, rfl⟩
  have HM : Hid (M = 400) := hM
  clear hM
  clear hr hl hp
  generalize hV : fitAll g l = V
  have HV : Hid (fitAll g l = V) := hV
  clear hV
  go_enter Try.func14, Try.ntmps14
  go_wp2_with fail
  go_loopw [5] (fun i wr => ∃ (k : Nat), k ≤ M ∧ i = .int .i64 k ∧ (∀ j, j < k → fitAt g l j = true) ∧ Below w.heap.size w wr) (fun i _ => M - (intOf i).toNat)
  case atStart => exact ⟨0, Nat.zero_le _, rfl, fun j hj => absurd hj (by omega), Below.refl _ _⟩
  case round =>
    obtain ⟨k, hk, rfl, hq, hbl⟩ := hrel
    have HQ : Hid _ := hq
    have HBl : Hid _ := hbl
    clear hq hbl
    by_cases hlt : k < M
    · have hlt2 : (k : Int) < 400 := by have := HM.out; omega
      have HLT : Hid (k < 400) := by have := HM.out; show k < 400; omega
      go_wp2_with fail
      refine (HC.out wr HBl.out k).mono ?_
      rintro e w1 ⟨rfl, hb1⟩
      have HB1 : Hid (Below w.heap.size w w1) := HBl.out.trans (hb1.mono HBl.out.size)
      clear hb1
      cases hgb : gtByte g k with
      | none =>
        have HN : Hid (fitAt g l k = true) := by show _ = _; unfold fitAt; rw [hgb]
        simp only [Option.getD_none, Option.isSome_none]
        go_wp2_with fail
        go_roundw
        case rel => exact ⟨k + 1, by omega, by go_num, fun j hj => (Nat.lt_or_eq_of_le (Nat.le_of_lt_succ hj)).elim (fun h => HQ.out j h) (fun h => h ▸ HN.out), HB1.out⟩
        case measure => simp [intOf]; omega
      | some b =>
        simp only [Option.getD_some, Option.isSome_some]
        by_cases h1 : k < l.length
        · obtain ⟨_, _, e1, rb, -, -⟩ := rd_bytes (HRd.out w1 HB1.out)
          simp only [List.cons.injEq, Value.slice.injEq, and_true, true_and] at e1
          obtain ⟨rfl, rfl⟩ := e1
          rcases rb.mem with e | ⟨b1, off1, rfl, hc1⟩
          · subst e; simp at h1
          · have y0 := hc1 k h1
            have HAt : Hid (fitAt g l k = (l.getD k 0 == b)) := by show _ = _; unfold fitAt; rw [hgb]; simp [h1]
            have h1i : (k : Int) < (l.length : Int) := by omega
            have h1d : decide ((l.length : Int) ≤ (k : Int)) = false := by simp; omega
            clear hc1 rb hgb
            generalize l.getD k 0 = y at *
            by_cases hy : y = b
            · subst hy
              have HN : Hid (fitAt g l k = true) := by have := HAt.out; show _ = _; rw [this]; simp
              clear HAt
              go_wp2_with fail
              go_roundw
              case rel => exact ⟨k + 1, by omega, by go_num, fun j hj => (Nat.lt_or_eq_of_le (Nat.le_of_lt_succ hj)).elim (fun h => HQ.out j h) (fun h => h ▸ HN.out), HB1.out⟩
              case measure => simp [intOf]; omega
            · have hy2 : (y == b) = false := by simpa using hy
              have hy3 : (y != b) = true := by simpa using hy
              have HN : Hid (fitAt g l k = false) := by have := HAt.out; show _ = _; rw [this]; exact hy2
              clear HAt
              go_wp2_with fail
              go_ret
              exact ⟨ret_bool (by rw [← HV.out, HF1.out k HLT.out HN.out]), HB1.out⟩
        · have HN : Hid (fitAt g l k = false) := by show _ = _; unfold fitAt; rw [hgb]; simp [h1]
          have h1i : (l.length : Int) ≤ (k : Int) := by omega
          clear hgb
          go_wp2_with fail
          go_ret
          exact ⟨ret_bool (by rw [← HV.out, HF1.out k HLT.out HN.out]), HB1.out⟩
    · have hge : decide ((k : Int) < 400) = false := by have := HM.out; simp; omega
      have HGE : Hid (400 ≤ k) := by have := HM.out; show 400 ≤ k; omega
      go_wp2_with fail
      go_ret
      exact ⟨ret_bool (by rw [← HV.out, HF2.out fun j hj => HQ.out j (Nat.lt_of_lt_of_le hj HGE.out)]), HBl.out⟩
end Go.Proofs.Ytnfkjdcnngoeiaa
