/- Which byte a gather has at a place; what HasByte answers, of the program and of its model; what was in memory stays; no condition but that there are at most a million bytes. -/
import Derived.Test.YtnfkjdcnngoeiabGreatRows
import Derived.Deep.DeepCutAuto
import Derived.Deep.RegionHeld3
import Derived.Lib.Bytes
import Derived.Deep.QuietTactic
import Derived.BigQuiet
import Derived.Test.YtnfkjdcnngoeiabGreatK01
import Derived.Test.YtnfkjdcnngoeiabGreatK02
import Derived.Test.YtnfkjdcnngoeiabGreatK09
import Derived.Test.YtnfkjdcnngoeiabGreatK60
namespace Go.Proofs.YtnfkjdcnngoeiabGreat
open Go.RowKit
set_option linter.unusedVariables false

/-- The byte at a place, of pieces. -/
def pcsByte : List Pc → Int → Option Int
  | [], _ => none
  | p :: ps, x => if p.1 ≤ x ∧ x ≤ p.1 + p.2.1.length - 1 then some (p.2.1.getD (x - p.1).toNat 0) else pcsByte ps x
/-- The byte at a place, of a gather. -/
def gtByte (g : Gt) (x : Int) : Option Int := if 0 ≤ x ∧ x ≤ (g.1.length : Int) - 1 then some (g.1.getD x.toNat 0) else pcsByte g.2.1 x

theorem pcsByte_at {ps : List Pc} {k : Nat} (x : Int) (hk : k < ps.length) : pcsByte (ps.drop k) x = if ps[k].1 ≤ x ∧ x ≤ ps[k].1 + ps[k].2.1.length - 1 then some (ps[k].2.1.getD (x - ps[k].1).toNat 0) else pcsByte (ps.drop (k + 1)) x := by
  rw [List.drop_eq_getElem_cons hk]; rfl
theorem pcsByte_end {ps : List Pc} (x : Int) : pcsByte (ps.drop ps.length) x = none := by rw [List.drop_length]; rfl

theorem pcsFault_ok : ∀ (ps : List Pc) (e : Int), pcsFault e ps = 0 → ∀ k (hk : k < ps.length), 0 ≤ ps[k].1 ∧ ps[k].1 + ps[k].2.1.length ≤ 400 ∧ 0 < ps[k].2.1.length
  | [], e, h, k, hk => by simp at hk
  | p :: ps, e, h, k, hk => by
    have h0 : (if pcFault p.1 p.2.1.length e ≠ 0 then pcFault p.1 p.2.1.length e else pcsFault (p.1 + p.2.1.length) ps) = 0 := h
    by_cases hz : pcFault p.1 p.2.1.length e = 0
    · rw [if_neg (by simp [hz])] at h0
      obtain ⟨h1, h2, h3, h4⟩ := pcFault_ok hz
      match k with
      | 0 => exact ⟨h2, h3, h1⟩
      | k + 1 => exact pcsFault_ok ps _ h0 k (by simpa using hk)
    · rw [if_pos hz] at h0; exact absurd h0 hz
theorem gtFault_ok {g : Gt} (h : gtFault g = 0) : g.1.length ≤ 400 ∧ g.2.1.length ≤ 40 ∧ ∀ k (hk : k < g.2.1.length), 0 ≤ g.2.1[k].1 ∧ g.2.1[k].1 + g.2.1[k].2.1.length ≤ 400 ∧ 0 < g.2.1[k].2.1.length := by
  unfold gtFault at h
  split at h
  · omega
  · rename_i hm
    exact ⟨by omega, by omega, pcsFault_ok _ _ h⟩

set_option maxHeartbeats 2000000 in
theorem sL3Byte (g : Gt) (v1 v2 : Value) (p : Nat) (x : Int) (w : World) (B : Nat) (hr : gtS.Rd w B g [v1, v2]) (hB : B ≤ w.heap.size) (hF : gtFault g = 0)
    (hp : ∀ o, w.cell? ⟨p, o, none⟩ = (#[v1, v2] : Array Value)[o]?) :
    Calls Tryz.prog 87 #[.pointer (some ⟨p, 0, none⟩), .int .i64 x] w fun e w' => e = .returned (.tuple #[.int .u8 ((gtByte g x).getD 0), .bool (gtByte g x).isSome]) ∧ Below w.heap.size w w' := by
  obtain ⟨a1, c1, a2, c2, e0, r1, r2⟩ := rd_gt hr
  simp only [List.cons.injEq, and_true] at e0
  obtain ⟨rfl, rfl⟩ := e0
  obtain ⟨hd1, hd2, hok⟩ := gtFault_ok hF
  obtain ⟨done, ps, _⟩ := g
  simp only at *
  have hpl : p < w.heap.size := by have := cell_lt (v := .slice a1 done.length c1) (hp 0); exact this
  have HR : Hid (∀ W, Below w.heap.size w W → pcsS.Rd W B ps [.slice a2 ps.length c2]) := fun W hW => r2.below hB hW
  have HOk : Hid _ := hok
  obtain ⟨_, _, e1, rb, -, -⟩ := rd_bytes r1
  simp only [List.cons.injEq, Value.slice.injEq, and_true, true_and] at e1
  obtain ⟨rfl, rfl⟩ := e1
  have cI := fun w => sInG x 0 ((done.length : Int) - 1) w
  by_cases hin : 0 ≤ x ∧ x ≤ (done.length : Int) - 1
  · have e3 : gtByte (done, ps, ()) x = some (done.getD x.toNat 0) := by unfold gtByte; rw [if_pos hin]
    rw [e3]
    simp only [hin, and_self, decide_true] at cI
    rcases rb.mem with e | ⟨b, off, rfl, hc⟩
    · subst e; simp at hin; omega
    · have hx := hc x.toNat (by omega)
      have q1 := hp 0
      have q2 := hp 1
      simp at q1 q2
      obtain ⟨n, rfl⟩ : ∃ n : Nat, x = n := ⟨x.toNat, by omega⟩
      simp only [Int.toNat_natCast] at *
      have hn : n < done.length := by omega
      clear hp hc rb r1 r2 hr e3 hok hin
      simp only [Option.getD_some, Option.isSome_some]
      generalize done.getD n 0 = y at *
      go_enter Tryz.func87, Tryz.ntmps87
      go_wp2_with (go_at_call 56; refine (cI _).mono ?_; rintro e w' ⟨rfl, hw⟩; subst w')
      go_ret2
      exact ⟨rfl, Below.refl _ _⟩
  · have e3 : gtByte (done, ps, ()) x = pcsByte ps x := by unfold gtByte; rw [if_neg hin]
    rw [e3]
    have hdf : decide (0 ≤ x ∧ x ≤ (done.length : Int) - 1) = false := by simp only [decide_eq_false_iff_not]; exact hin
    rw [hdf] at cI
    have q1 := hp 0
    have q2 := hp 1
    simp at q1 q2
    have HP : Hid _ := hp
    obtain ⟨R, hR⟩ : ∃ R, R = pcsByte ps x := ⟨_, rfl⟩
    rw [← hR]
    have HRR : Hid _ := hR
    clear hR hdf e3 hp rb r1 r2 hr hok
    go_enter Tryz.func87, Tryz.ntmps87
    go_wp2_with (go_at_call 56; refine (cI _).mono ?_; rintro e w' ⟨rfl, hw⟩; subst w')
    clear cI hin
    go_loopw [6] (fun i wr => ∃ (k : Nat), k ≤ ps.length ∧ i = .int .i64 k ∧ R = pcsByte (ps.drop k) x ∧ Below w.heap.size w wr) (fun i _ => ps.length - (intOf i).toNat)
    case atStart => exact ⟨0, Nat.zero_le _, rfl, HRR.out, Below.refl _ _⟩
    case round =>
      obtain ⟨k, hk, rfl, hq, hbl⟩ := hrel
      have s1 : wr.cell? ⟨p, 0, none⟩ = some (.slice a1 done.length c1) := (hbl.cell (p := ⟨p, 0, none⟩) hpl).trans q1
      have s2 : wr.cell? ⟨p, 1, none⟩ = some (.slice a2 ps.length c2) := (hbl.cell (p := ⟨p, 1, none⟩) hpl).trans q2
      clear q1 q2
      by_cases hlt : k < ps.length
      · obtain ⟨_, _, e1, -, -, hp⟩ := rd_pcs (HR.out wr hbl)
        obtain ⟨b, off, ad, c, ha, hb, y0, y1, r3, hw⟩ := hp k hlt
        simp only [List.cons.injEq, Value.slice.injEq, and_true, true_and] at e1
        rw [← e1.1] at ha
        subst ha
        obtain ⟨ok1, ok2, ok3⟩ := HOk.out k hlt
        rw [pcsByte_at x hlt] at hq
        obtain ⟨_, _, e4, rb, -, -⟩ := rd_bytes r3
        simp only [List.cons.injEq, Value.slice.injEq, and_true, true_and] at e4
        obtain ⟨rfl, rfl⟩ := e4
        clear hp e1 r3
        generalize ps[k].1 = at' at *
        generalize ps[k].2.1 = d at *
        have HQ : Hid _ := hq
        have HB1 : Hid (Below w.heap.size w (wr.alloc (.cells #[.int .i64 at', .slice ad d.length c] 149))) := hbl.alloc hbl.size _
        have cJ := fun w => sInG x at' (at' + (d.length : Int) - 1) w
        by_cases h1 : at' ≤ x ∧ x ≤ at' + (d.length : Int) - 1
        · replace HQ : Hid (R = some (d.getD (x - at').toNat 0)) := by have := HQ.out; rw [if_pos h1] at this; exact this
          have hdt : decide (at' ≤ x ∧ x ≤ at' + (d.length : Int) - 1) = true := by simp only [decide_eq_true_eq]; exact h1
          rw [hdt] at cJ
          rcases rb.mem with e | ⟨b2, off2, rfl, hc2⟩
          · subst e; simp at ok3
          · have hx := hc2 (x - at').toNat (by omega)
            have hlt2 := cell_lt hx
            have hx2 : (wr.alloc (.cells #[.int .i64 at', .slice (some ⟨b2, off2, none⟩) d.length c] 149)).cell? ⟨b2, off2 + (x - at').toNat, none⟩ = some (.int .u8 (d.getD (x - at').toNat 0)) := (Below.cell (B := wr.heap.size) ((Below.refl _ _).alloc (Nat.le_refl _) _) (p := ⟨b2, off2 + (x - at').toNat, none⟩) hlt2).trans hx
            have hxx : x - at' = ((x - at').toNat : Int) := by omega
            have hxn : (x - at').toNat < d.length := by omega
            generalize (x - at').toNat = n at *
            generalize d.getD n 0 = y at *
            have hx3 : x = at' + n := by omega
            subst hx3
            clear hc2 hx hq hbl rb hdt h1 hlt2 hxx
            have hsub : at' + (n : Int) - at' = n := by omega
            go_wp2_with (go_at_call 56; refine (cJ _).mono ?_; rintro e w' ⟨rfl, hw⟩; subst w')
            go_ret2
            refine ⟨?_, HB1.out⟩
            rw [HQ.out]; rfl
        · replace HQ : Hid (R = pcsByte (ps.drop (k + 1)) x) := by have := HQ.out; rw [if_neg h1] at this; exact this
          have hdt : decide (at' ≤ x ∧ x ≤ at' + (d.length : Int) - 1) = false := by simp only [decide_eq_false_iff_not]; exact h1
          rw [hdt] at cJ
          clear hdt h1 hq hbl rb
          go_wp2_with (go_at_call 56; refine (cJ _).mono ?_; rintro e w' ⟨rfl, hw⟩; subst w')
          go_roundw
          case rel => exact ⟨k + 1, by omega, by go_num, HQ.out, HB1.out⟩
          case measure => simp [intOf]; omega
      · obtain rfl : k = ps.length := by omega
        rw [pcsByte_end] at hq
        have HQ : Hid _ := hq
        clear hq
        go_wp2_with fail
        go_ret2
        refine ⟨?_, hbl⟩
        rw [HQ.out]; rfl

/-- What HasByte tells. -/
def hasB (g : Gt) (x : Int) : Bool := if gtFault g ≠ 0 then false else (gtByte g x).isSome

theorem gtByte_some {g : Gt} {x : Int} (h : (pcsByte g.2.1 x).isSome = true) : (gtByte g x).isSome = true := by
  unfold gtByte; split
  · rfl
  · exact h
theorem gtByte_none {g : Gt} {x : Int} (h : pcsByte g.2.1 x = none) : (gtByte g x).isSome = decide (0 ≤ x ∧ x < g.1.length) := by
  unfold gtByte; split
  · rename_i h1; simp; omega
  · rename_i h1; rw [h]; simp; omega

end Go.Proofs.YtnfkjdcnngoeiabGreat

/- What FitsStream answers, of the program and of its model; what was in memory stays; no condition but that there are at most a million bytes. -/
namespace Go.Proofs.YtnfkjdcnngoeiabGreat
open Go.RowKit
set_option linter.unusedVariables false

/-- The stream has at k what the gather has there (if it has a byte). -/
def fitAt (g : Gt) (l : List Int) (k : Nat) : Bool := match gtByte g k with
  | none => true
  | some b => decide (k < l.length) && (l.getD k 0 == b)
/-- .. at all places. -/
def FitP (g : Gt) (l : List Int) : Prop := ∀ k, k < 400 → fitAt g l k = true
noncomputable def fitAll (g : Gt) (l : List Int) : Bool := @decide (FitP g l) (Classical.propDecidable _)
noncomputable def fitsV (g : Gt) (l : List Int) : Bool := if gtFault g ≠ 0 then false else fitAll g l

theorem fitAll_no {g : Gt} {l : List Int} {k : Nat} (hk : k < 400) (h : fitAt g l k = false) : fitAll g l = false := by
  refine (@decide_eq_false_iff_not (FitP g l) (Classical.propDecidable _)).2 ?_
  intro hh
  rw [hh k hk] at h; cases h
theorem fitAll_yes {g : Gt} {l : List Int} (h : FitP g l) : fitAll g l = true := (@decide_eq_true_iff (FitP g l) (Classical.propDecidable _)).2 h
theorem fitAll_at {g : Gt} {l : List Int} (h : fitAll g l = true) : FitP g l := (@decide_eq_true_iff (FitP g l) (Classical.propDecidable _)).1 h

set_option maxHeartbeats 2000000 in
set_option maxRecDepth 8000 in
theorem sL3Fits (g : Gt) (v1 v2 : Value) (l : List Int) (a : Option Addr) (cap : Nat) (p : Nat) (w : World) (B : Nat) (hr : gtS.Rd w B g [v1, v2]) (hl : u8s.Rd w B l [.slice a l.length cap]) (hB : B ≤ w.heap.size) (hF : gtFault g = 0) (hn : l.length ≤ 1048576)
    (hp : ∀ o, w.cell? ⟨p, o, none⟩ = (#[v1, v2] : Array Value)[o]?) (hpl : p < w.heap.size) :
    Calls Tryz.prog 59 #[.pointer (some ⟨p, 0, none⟩), .slice a l.length cap] w fun e w' => e = .returned (.bool (fitAll g l)) ∧ Below w.heap.size w w' := by
  have HC : Hid (∀ W, Below w.heap.size w W → ∀ k : Nat, Calls Tryz.prog 87 #[.pointer (some ⟨p, 0, none⟩), .int .i64 k] W fun e w' => e = .returned (.tuple #[.int .u8 ((gtByte g k).getD 0), .bool (gtByte g k).isSome]) ∧ Below W.heap.size W w') :=
    fun W hW k => sL3Byte g _ _ p k W B (hr.below hB hW) (Nat.le_trans hB hW.size) hF (fun o => (hW.cell (p := ⟨p, o, none⟩) hpl).trans (hp o))
  have HRd : Hid (∀ W, Below w.heap.size w W → u8s.Rd W B l [.slice a l.length cap]) := fun W hW => hl.below hB hW
  have HF1 : Hid (∀ k, k < 400 → fitAt g l k = false → fitAll g l = false) := fun k hk h => fitAll_no hk h
  have HF2 : Hid ((∀ k, k < 400 → fitAt g l k = true) → fitAll g l = true) := fun h => fitAll_yes h
  obtain ⟨M, hM⟩ : ∃ M : Nat, M = 400 := ⟨_, rfl⟩
  have HM : Hid (M = 400) := hM
  clear hM
  clear hr hl hp
  generalize hV : fitAll g l = V
  have HV : Hid (fitAll g l = V) := hV
  clear hV
  go_enter Tryz.func59, Tryz.ntmps59
  go_wp2_with fail
  go_loopw [5] (fun i wr => ∃ (k : Nat), k ≤ M ∧ i = .int .i64 k ∧ (∀ j, j < k → fitAt g l j = true) ∧ Below w.heap.size w wr) (fun i _ => M - (intOf i).toNat)
  case atStart => exact ⟨0, Nat.zero_le _, rfl, fun j hj => absurd hj (by omega), Below.refl _ _⟩
  case round =>
    obtain ⟨k, hk, rfl, hq, hbl⟩ := hrel
    have HQ : Hid _ := hq
    have HBl : Hid _ := hbl
    clear hq hbl
    by_cases hlt : k < M
    · have hlt2 : (k : Int) < 400 := by have := HM.out; omega
      have HLT : Hid (k < 400) := by have := HM.out; show k < 400; omega
      go_wp2_with fail
      refine (HC.out wr HBl.out k).mono ?_
      rintro e w1 ⟨rfl, hb1⟩
      have HB1 : Hid (Below w.heap.size w w1) := HBl.out.trans (hb1.mono HBl.out.size)
      clear hb1
      cases hgb : gtByte g k with
      | none =>
        have HN : Hid (fitAt g l k = true) := by show _ = _; unfold fitAt; rw [hgb]
        simp only [Option.getD_none, Option.isSome_none]
        go_wp2_with fail
        go_roundw
        case rel => exact ⟨k + 1, by omega, by go_num, fun j hj => (Nat.lt_or_eq_of_le (Nat.le_of_lt_succ hj)).elim (fun h => HQ.out j h) (fun h => h ▸ HN.out), HB1.out⟩
        case measure => simp [intOf]; omega
      | some b =>
        simp only [Option.getD_some, Option.isSome_some]
        by_cases h1 : k < l.length
        · obtain ⟨_, _, e1, rb, -, -⟩ := rd_bytes (HRd.out w1 HB1.out)
          simp only [List.cons.injEq, Value.slice.injEq, and_true, true_and] at e1
          obtain ⟨rfl, rfl⟩ := e1
          rcases rb.mem with e | ⟨b1, off1, rfl, hc1⟩
          · subst e; simp at h1
          · have y0 := hc1 k h1
            have HAt : Hid (fitAt g l k = (l.getD k 0 == b)) := by show _ = _; unfold fitAt; rw [hgb]; simp [h1]
            have h1i : (k : Int) < (l.length : Int) := by omega
            have h1d : decide ((l.length : Int) ≤ (k : Int)) = false := by simp; omega
            clear hc1 rb hgb
            generalize l.getD k 0 = y at *
            by_cases hy : y = b
            · subst hy
              have HN : Hid (fitAt g l k = true) := by have := HAt.out; show _ = _; rw [this]; simp
              clear HAt
              go_wp2_with fail
              go_roundw
              case rel => exact ⟨k + 1, by omega, by go_num, fun j hj => (Nat.lt_or_eq_of_le (Nat.le_of_lt_succ hj)).elim (fun h => HQ.out j h) (fun h => h ▸ HN.out), HB1.out⟩
              case measure => simp [intOf]; omega
            · have hy2 : (y == b) = false := by simpa using hy
              have hy3 : (y != b) = true := by simpa using hy
              have HN : Hid (fitAt g l k = false) := by have := HAt.out; show _ = _; rw [this]; exact hy2
              clear HAt
              go_wp2_with fail
              go_ret
              exact ⟨ret_bool (by rw [← HV.out, HF1.out k HLT.out HN.out]), HB1.out⟩
        · have HN : Hid (fitAt g l k = false) := by show _ = _; unfold fitAt; rw [hgb]; simp [h1]
          have h1i : (l.length : Int) ≤ (k : Int) := by omega
          clear hgb
          go_wp2_with fail
          go_ret
          exact ⟨ret_bool (by rw [← HV.out, HF1.out k HLT.out HN.out]), HB1.out⟩
    · have hge : decide ((k : Int) < 400) = false := by have := HM.out; simp; omega
      have HGE : Hid (400 ≤ k) := by have := HM.out; show 400 ≤ k; omega
      go_wp2_with fail
      go_ret
      exact ⟨ret_bool (by rw [← HV.out, HF2.out fun j hj => HQ.out j (Nat.lt_of_lt_of_le hj HGE.out)]), HBl.out⟩
end Go.Proofs.YtnfkjdcnngoeiabGreat

/- A gather without a fault fits a stream just where what is Done is its beginning and each piece is what the stream has there; no condition. -/
namespace Go.Proofs.YtnfkjdcnngoeiabGreat
open Go.RowKit
set_option linter.unusedVariables false

theorem pcsByte_in : ∀ (ps : List Pc) (e : Int), pcsFault e ps = 0 → ∀ i (hi : i < ps.length) (x : Int), ps[i].1 ≤ x → x ≤ ps[i].1 + ps[i].2.1.length - 1 → pcsByte ps x = some (ps[i].2.1.getD (x - ps[i].1).toNat 0) ∧ e < x
  | [], e, h, i, hi, x, _, _ => by simp at hi
  | p :: ps, e, h, i, hi, x, h1, h2 => by
    have h0 : (if pcFault p.1 p.2.1.length e ≠ 0 then pcFault p.1 p.2.1.length e else pcsFault (p.1 + p.2.1.length) ps) = 0 := h
    by_cases hz : pcFault p.1 p.2.1.length e = 0
    · rw [if_neg (by simp [hz])] at h0
      obtain ⟨z1, z2, z3, z4⟩ := pcFault_ok hz
      match i with
      | 0 =>
        have h1' : p.1 ≤ x := h1
        have h2' : x ≤ p.1 + p.2.1.length - 1 := h2
        refine ⟨?_, by omega⟩
        show (if p.1 ≤ x ∧ x ≤ p.1 + p.2.1.length - 1 then _ else _) = _
        rw [if_pos ⟨h1', h2'⟩]; rfl
      | i + 1 =>
        obtain ⟨q1, q2⟩ := pcsByte_in ps _ h0 i (by simpa using hi) x h1 h2
        refine ⟨?_, by omega⟩
        show (if p.1 ≤ x ∧ x ≤ p.1 + p.2.1.length - 1 then _ else pcsByte ps x) = _
        rw [if_neg (by omega), q1]; rfl
    · rw [if_pos hz] at h0; exact absurd h0 hz

theorem pcsByte_of : ∀ (ps : List Pc) (x b : Int), pcsByte ps x = some b → ∃ i, ∃ hi : i < ps.length, ps[i].1 ≤ x ∧ x ≤ ps[i].1 + ps[i].2.1.length - 1 ∧ b = ps[i].2.1.getD (x - ps[i].1).toNat 0
  | [], x, b, h => by cases h
  | p :: ps, x, b, h => by
    have h0 : (if p.1 ≤ x ∧ x ≤ p.1 + p.2.1.length - 1 then some (p.2.1.getD (x - p.1).toNat 0) else pcsByte ps x) = some b := h
    by_cases hc : p.1 ≤ x ∧ x ≤ p.1 + p.2.1.length - 1
    · rw [if_pos hc] at h0
      exact ⟨0, by simp, hc.1, hc.2, by simpa using h0.symm⟩
    · rw [if_neg hc] at h0
      obtain ⟨i, hi, r⟩ := pcsByte_of ps x b h0
      exact ⟨i + 1, by simpa using hi, r⟩

theorem fitAt_some {g : Gt} {l : List Int} {k : Nat} {b : Int} (h : fitAt g l k = true) (hb : gtByte g k = some b) : k < l.length ∧ l.getD k 0 = b := by
  unfold fitAt at h
  rw [hb] at h
  simpa using h

theorem pcsFault_of {g : Gt} (h : gtFault g = 0) : pcsFault g.1.length g.2.1 = 0 := by
  unfold gtFault at h
  split at h
  · omega
  · exact h

theorem fit_pre {g : Gt} {l : List Int} (hF : gtFault g = 0) (h : FitP g l) : g.1.length ≤ l.length ∧ l.take g.1.length = g.1 := by
  obtain ⟨d1, d2, d3⟩ := gtFault_ok hF
  have key : ∀ j (hj : j < g.1.length), j < l.length ∧ l.getD j 0 = g.1.getD j 0 := by
    intro j hj
    refine fitAt_some (h j (by omega)) ?_
    unfold gtByte
    rw [if_pos (by omega)]; simp
  have hle : g.1.length ≤ l.length := by
    rcases Nat.eq_zero_or_pos g.1.length with h0 | h0
    · omega
    · have := (key (g.1.length - 1) (by omega)).1; omega
  refine ⟨hle, List.ext_getElem (by simp; omega) fun j h1 h2 => ?_⟩
  have := (key j h2).2
  rw [List.getElem_take]
  simpa [List.getD_eq_getElem?_getD, List.getElem?_eq_getElem h2, List.getElem?_eq_getElem (show j < l.length by omega)] using this

theorem fit_pc {g : Gt} {l : List Int} (hF : gtFault g = 0) (h : FitP g l) (i : Nat) (hi : i < g.2.1.length) : g.2.1[i].1 + g.2.1[i].2.1.length ≤ l.length ∧ (l.drop g.2.1[i].1.toNat).take g.2.1[i].2.1.length = g.2.1[i].2.1 := by
  obtain ⟨d1, d2, d3⟩ := gtFault_ok hF
  obtain ⟨o1, o2, o3⟩ := d3 i hi
  have key : ∀ j (hj : j < g.2.1[i].2.1.length), g.2.1[i].1.toNat + j < l.length ∧ l.getD (g.2.1[i].1.toNat + j) 0 = g.2.1[i].2.1.getD j 0 := by
    intro j hj
    refine fitAt_some (h _ (by omega)) ?_
    obtain ⟨q1, q2⟩ := pcsByte_in _ _ (pcsFault_of hF) i hi (g.2.1[i].1 + j) (by omega) (by omega)
    have e1 : ((g.2.1[i].1.toNat + j : Nat) : Int) = g.2.1[i].1 + j := by omega
    unfold gtByte
    rw [e1, if_neg (by omega), q1]
    congr 2; omega
  have hle : g.2.1[i].1 + g.2.1[i].2.1.length ≤ l.length := by
    have := (key (g.2.1[i].2.1.length - 1) (by omega)).1; omega
  refine ⟨hle, List.ext_getElem (by simp; omega) fun j h1 h2 => ?_⟩
  have := (key j h2).2
  rw [List.getElem_take, List.getElem_drop]
  simpa [List.getD_eq_getElem?_getD, List.getElem?_eq_getElem h2, List.getElem?_eq_getElem (show g.2.1[i].1.toNat + j < l.length by omega)] using this

theorem fit_of {g : Gt} {l : List Int} (hF : gtFault g = 0) (hp : g.1.length ≤ l.length ∧ l.take g.1.length = g.1)
    (hq : ∀ i (hi : i < g.2.1.length), g.2.1[i].1 + g.2.1[i].2.1.length ≤ l.length ∧ (l.drop g.2.1[i].1.toNat).take g.2.1[i].2.1.length = g.2.1[i].2.1) : FitP g l := by
  obtain ⟨d1, d2, d3⟩ := gtFault_ok hF
  intro k hk
  unfold fitAt
  cases hb : gtByte g k with
  | none => rfl
  | some b =>
    simp only
    unfold gtByte at hb
    by_cases hin : 0 ≤ (k : Int) ∧ (k : Int) ≤ (g.1.length : Int) - 1
    · rw [if_pos hin] at hb
      simp at hb
      have hk2 : k < g.1.length := by omega
      have : (l.take g.1.length)[k]? = g.1[k]? := by rw [hp.2]
      rw [List.getElem?_take_of_lt hk2] at this
      simp [List.getD_eq_getElem?_getD, this, hb]; omega
    · rw [if_neg hin] at hb
      obtain ⟨i, hi, r1, r2, r3⟩ := pcsByte_of _ _ _ hb
      obtain ⟨s1, s2⟩ := hq i hi
      obtain ⟨o1, o2, o3⟩ := d3 i hi
      obtain ⟨j, hj⟩ : ∃ j : Nat, (k : Int) = g.2.1[i].1 + j := ⟨((k : Int) - g.2.1[i].1).toNat, by omega⟩
      have hjl : j < g.2.1[i].2.1.length := by omega
      have : ((l.drop g.2.1[i].1.toNat).take g.2.1[i].2.1.length)[j]? = g.2.1[i].2.1[j]? := by rw [s2]
      rw [List.getElem?_take_of_lt hjl, List.getElem?_drop, show g.2.1[i].1.toNat + j = k by omega] at this
      rw [show ((k : Int) - g.2.1[i].1).toNat = j by omega] at r3
      simp [List.getD_eq_getElem?_getD, this, r3]; omega
end Go.Proofs.YtnfkjdcnngoeiabGreat

/- What FitsStream answers, of the program and of its model: the same; what was in memory stays; no condition but that there are at most a million bytes. -/
namespace Go.Proofs.YtnfkjdcnngoeiabGreat
open Go.RowKit
set_option linter.unusedVariables false

theorem u8_inj {x y : Int} (hx : 0 ≤ x ∧ x ≤ 255) (hy : 0 ≤ y ∧ y ≤ 255) (h : UInt8.ofNat x.toNat = UInt8.ofNat y.toNat) : x = y := by
  have := congrArg UInt8.toNat h
  simp at this
  omega
theorem map_inj : ∀ {l l' : List Int}, (∀ x ∈ l, 0 ≤ x ∧ x ≤ 255) → (∀ x ∈ l', 0 ≤ x ∧ x ≤ 255) → (l.map fun n => UInt8.ofNat n.toNat) = (l'.map fun n => UInt8.ofNat n.toNat) → l = l'
  | [], [], _, _, _ => rfl
  | [], y :: ys, _, _, h => by simp at h
  | x :: xs, [], _, _, h => by simp at h
  | x :: xs, y :: ys, hx, hy, h => by
    simp only [List.map_cons, List.cons.injEq] at h
    rw [u8_inj (hx x (by simp)) (hy y (by simp)) h.1, map_inj (fun z hz => hx z (by simp [hz])) (fun z hz => hy z (by simp [hz])) h.2]
theorem eqS_iff {l l' : List Int} (hx : ∀ x ∈ l, 0 ≤ x ∧ x ≤ 255) (hy : ∀ x ∈ l', 0 ≤ x ∧ x ≤ 255) : eqS l l' = decide (l = l') := by
  unfold eqS
  rw [Lib.strOfNums_toList, Lib.strOfNums_toList]
  by_cases h : l = l'
  · subst h; simp
  · have : ¬ Lib.bytesOf l = Lib.bytesOf l' := fun e => h (map_inj hx hy e)
    simp [h, this]

theorem RB.sub {w : World} {b off : Nat} {l : List Int} (h : RB w (some ⟨b, off, none⟩) l) (a n : Nat) (hle : a + n ≤ l.length) : RB w (some ⟨b, off + a, none⟩) ((l.drop a).take n) := by
  refine ⟨fun x hx => h.bd x (List.mem_of_mem_drop (List.mem_of_mem_take hx)), ?_⟩
  rcases h.mem with e | ⟨b', off', e, hc⟩
  · subst e; simp
  · cases e
    refine Or.inr ⟨b, off + a, rfl, fun i hi => ?_⟩
    have hi2 : i < n := by simp at hi; omega
    rw [show off + a + i = off + (a + i) by omega, hc (a + i) (by omega), List.getD_eq_getElem?_getD, List.getD_eq_getElem?_getD, List.getElem?_take_of_lt hi2, List.getElem?_drop]

theorem bEqualI (a b : Option Addr) (n m cap cap' : Nat) (l l' : List Int) (w : World) (hl : l.length = n) (hl' : l'.length = m) (ha : RB w a l) (hb : RB w b l') :
    Calls Tryz.prog 51 #[.slice a n cap, .slice b m cap'] w fun e w' => e = .returned (.bool (decide (l = l'))) ∧ w' = w := by
  refine (bEqual a b n m cap cap' l l' w hl hl' ha hb).mono ?_
  rintro e w' ⟨rfl, rfl⟩
  exact ⟨ret_bool (eqS_iff ha.bd hb.bd), rfl⟩

set_option maxHeartbeats 1000000 in
theorem bHasPrefix (a b : Option Addr) (cap cap' : Nat) (l d : List Int) (w : World) (ha : RB w a l) (hb : RB w b d) (hn : a = none → cap = 0) (h1 : l.length ≤ cap) (h2 : cap ≤ 9223372036854775807) :
    Calls Tryz.prog 64 #[.slice a l.length cap, .slice b d.length cap'] w fun e w' => e = .returned (.bool (decide (d.length ≤ l.length ∧ l.take d.length = d))) ∧ w' = w := by
  by_cases h : d.length ≤ l.length
  · have h' : (d.length : Int) ≤ (l.length : Int) := by omega
    have hcap : d.length ≤ cap := by omega
    have HE : Hid (decide (d.length ≤ l.length ∧ l.take d.length = d) = decide (l.take d.length = d)) := by show _ = _; simp [h]
    have HC : Hid (∀ c, Calls Tryz.prog 51 #[.slice a d.length c, .slice b d.length cap'] w fun e w' => e = .returned (.bool (decide (l.take d.length = d))) ∧ w' = w) := by
      intro c
      refine bEqualI a b _ _ c cap' (l.take d.length) d w (by simp; omega) rfl ?_ hb
      cases a with
      | none =>
        rcases ha.mem with e | ⟨_, _, e, _⟩
        · subst e; rw [List.take_nil]; exact RB.nil _ _
        · cases e
      | some x =>
        by_cases hl : l = []
        · subst hl; rw [List.take_nil]; exact RB.nil _ _
        · rcases ha.mem with e | ⟨b1, o1, e, hc⟩
          · exact absurd e hl
          · cases e
            have := ha.sub 0 d.length (by omega)
            simpa using this
    clear ha hb
    generalize decide (l.take d.length = d) = V at *
    generalize hnl : l.length = nl at *
    generalize d.length = nd at *
    cases a with
    | none =>
      have e1 := hn rfl
      subst e1
      have e2 : nd = 0 := by omega
      have e3 : nl = 0 := by omega
      subst e2 e3
      go_enter Tryz.func64, Tryz.ntmps64
      go_wp2_with (go_at_call 51; refine (HC.out _).mono ?_; rintro e w' ⟨rfl, hw⟩; subst w')
      go_ret
      exact ⟨ret_bool (by rw [HE.out]), rfl⟩
    | some x =>
      obtain ⟨b1, o1, s1⟩ := x
      go_enter Tryz.func64, Tryz.ntmps64
      go_wp2_with (go_at_call 51; refine (HC.out _).mono ?_; rintro e w' ⟨rfl, hw⟩; subst w')
      go_ret
      exact ⟨ret_bool (by rw [HE.out]), rfl⟩
  · have h' : (l.length : Int) < (d.length : Int) := by omega
    have hd : decide ((d.length : Int) ≤ (l.length : Int)) = false := by simp; omega
    have HE : Hid (decide (d.length ≤ l.length ∧ l.take d.length = d) = false) := by show _ = _; simp [h]
    clear ha hb
    generalize hnl : l.length = nl at *
    generalize hnd : d.length = nd at *
    go_enter Tryz.func64, Tryz.ntmps64
    go_wp2_with fail
    go_ret
    exact ⟨ret_bool HE.out.symm, rfl⟩
end Go.Proofs.YtnfkjdcnngoeiabGreat

/- What standsAt of the program answers: whether bytes lie in a stream at a place; memory is as it was; for a place within a million and bytes that are there. -/
namespace Go.Proofs.YtnfkjdcnngoeiabGreat
open Go.RowKit
set_option linter.unusedVariables false

/-- The bytes d lie in l from p on. -/
def stV (l : List Int) (p : Int) (d : List Int) : Bool := decide (p + d.length ≤ l.length ∧ (l.drop p.toNat).take d.length = d)
theorem stV_iff {l d : List Int} {p : Int} : stV l p d = true ↔ (p + d.length ≤ l.length ∧ (l.drop p.toNat).take d.length = d) := by unfold stV; simp only [decide_eq_true_eq]
set_option maxHeartbeats 1000000 in
theorem iStandsAt (l d : List Int) (a ad : Option Addr) (cap c : Nat) (p : Int) (w : World) (ha : RB w a l) (hd : RB w ad d) (h0 : 0 < d.length) (h1 : 0 ≤ p) (h2 : p + d.length ≤ 1000000) (h3 : l.length ≤ cap) (h4 : cap ≤ 9223372036854775807) :
    Calls Tryz.prog 67 #[.slice a l.length cap, .int .i64 p, .slice ad d.length c] w fun e w' => e = .returned (.bool (stV l p d)) ∧ w' = w := by
  obtain ⟨V, hV⟩ : ∃ V, V = stV l p d := ⟨_, rfl⟩
  rw [← hV]
  obtain ⟨m, rfl⟩ : ∃ m : Nat, p = m := ⟨p.toNat, by omega⟩
  by_cases h : (m : Int) + (d.length : Int) ≤ l.length
  · rcases ha.mem with e | ⟨b3, off3, rfl, hc3⟩
    · subst e; simp at h; omega
    have rs := ha.sub m d.length (by omega)
    have HEq : Hid (∀ C, Calls Tryz.prog 51 #[.slice (some ⟨b3, off3 + m, none⟩) d.length C, .slice ad d.length c] w fun e w' => e = .returned (.bool V) ∧ w' = w) := by
      intro C
      refine (bEqualI (some ⟨b3, off3 + m, none⟩) ad d.length d.length C c _ d w (by simp; omega) rfl rs hd).mono ?_
      rintro e w' ⟨rfl, rfl⟩
      refine ⟨ret_bool ?_, rfl⟩
      rw [hV]
      unfold stV
      simp only [h, true_and, Int.toNat_natCast]
    have i1 : (m : Int) ≤ (m : Int) + (d.length : Int) := by omega
    have i2 : (m : Int) + (d.length : Int) ≤ (cap : Int) := by omega
    have i3 : m + d.length - m = d.length := by omega
    have i4 : (0 : Int) ≤ (m : Int) := by omega
    clear hV rs hc3 ha hd
    go_enter Tryz.func67, Tryz.ntmps67
    go_wp2_with fail
    refine (HEq.out _).mono ?_
    rintro e w1 ⟨rfl, hw⟩
    subst w1
    go_wp2_with fail
    go_ret
    exact ⟨rfl, rfl⟩
  · have hF : V = false := by rw [hV]; unfold stV; simp [h]
    subst hF
    have h1d : (l.length : Int) < (m : Int) + (d.length : Int) := by omega
    clear hV ha hd
    go_enter Tryz.func67, Tryz.ntmps67
    go_wp2_with fail
    go_ret
    exact ⟨rfl, rfl⟩
end Go.Proofs.YtnfkjdcnngoeiabGreat

/- What FitsStream answers, of the program and of its model: the same; what was in memory stays; no condition but that there are at most a million bytes. -/
namespace Go.Proofs.YtnfkjdcnngoeiabGreat
open Go.RowKit
set_option linter.unusedVariables false

set_option maxHeartbeats 2000000 in
set_option maxRecDepth 8000 in
theorem iFitsStream (g : Gt) (v1 v2 : Value) (l : List Int) (a : Option Addr) (cap : Nat) (w : World) (B : Nat) (hr : gtS.Rd w B g [v1, v2]) (hl : u8s.Rd w B l [.slice a l.length cap]) (hB : B ≤ w.heap.size) (hn : l.length ≤ 1048576) :
    Calls Tryz.prog 66 #[.agg #[v1, v2], .slice a l.length cap] w fun e w' => e = .returned (.bool (fitsV g l)) ∧ Below w.heap.size w w' := by
  obtain ⟨a1, c1, a2, c2, e0, r1, r2⟩ := rd_gt hr
  simp only [List.cons.injEq, and_true] at e0
  obtain ⟨rfl, rfl⟩ := e0
  have HR : Hid (∀ W, Below w.heap.size w W → pcsS.Rd W B g.2.1 [.slice a2 g.2.1.length c2]) := fun W hW => r2.below hB hW
  have HL : Hid (∀ W, Below w.heap.size w W → u8s.Rd W B l [.slice a l.length cap]) := fun W hW => hl.below hB hW
  have HC : Hid (∀ W, Below w.heap.size w W → Calls Tryz.prog 91 #[.agg #[.slice a1 g.1.length c1, .slice a2 g.2.1.length c2]] W fun e w' => e = .returned (.int .i64 (gtFault g)) ∧ Below W.heap.size W w') :=
    fun W hW => iGatherFault g _ W (Sh.Rd.mono (Nat.le_trans hB hW.size) _ _ _ (hr.below hB hW))
  obtain ⟨-, cp1, cp2, cp3⟩ := rd_cap hl
  have HP : Hid (∀ W, Below w.heap.size w W → Calls Tryz.prog 64 #[.slice a l.length cap, .slice a1 g.1.length c1] W fun e w' => e = .returned (.bool (decide (g.1.length ≤ l.length ∧ l.take g.1.length = g.1))) ∧ w' = W) := by
    intro W hW
    obtain ⟨_, _, e1, q1, -, -⟩ := rd_bytes (hl.below hB hW)
    simp only [List.cons.injEq, Value.slice.injEq, and_true, true_and] at e1
    obtain ⟨rfl, rfl⟩ := e1
    obtain ⟨_, _, e1, q2, -, -⟩ := rd_bytes (r1.below hB hW)
    simp only [List.cons.injEq, Value.slice.injEq, and_true, true_and] at e1
    obtain ⟨rfl, rfl⟩ := e1
    exact bHasPrefix a a1 cap c1 l g.1 W q1 q2 cp3 cp1 cp2
  have HV1 : Hid (gtFault g ≠ 0 → fitsV g l = false) := fun h => by unfold fitsV; rw [if_pos h]
  have HV2 : Hid (gtFault g = 0 → fitsV g l = fitAll g l) := fun h => by unfold fitsV; rw [if_neg (by simp [h])]
  have HOk : Hid (gtFault g = 0 → g.1.length ≤ 400 ∧ g.2.1.length ≤ 40 ∧ ∀ k (hk : k < g.2.1.length), 0 ≤ g.2.1[k].1 ∧ g.2.1[k].1 + g.2.1[k].2.1.length ≤ 400 ∧ 0 < g.2.1[k].2.1.length) := fun h => gtFault_ok h
  have HN1 : Hid (gtFault g = 0 → ¬ (g.1.length ≤ l.length ∧ l.take g.1.length = g.1) → fitAll g l = false) := fun hF h => (@decide_eq_false_iff_not (FitP g l) (Classical.propDecidable _)).2 fun hp => h (fit_pre hF hp)
  have HN2 : Hid (gtFault g = 0 → ∀ i (hi : i < g.2.1.length), ¬ (g.2.1[i].1 + g.2.1[i].2.1.length ≤ l.length ∧ (l.drop g.2.1[i].1.toNat).take g.2.1[i].2.1.length = g.2.1[i].2.1) → fitAll g l = false) := fun hF i hi h => (@decide_eq_false_iff_not (FitP g l) (Classical.propDecidable _)).2 fun hp => h (fit_pc hF hp i hi)
  have HY : Hid (gtFault g = 0 → (g.1.length ≤ l.length ∧ l.take g.1.length = g.1) → (∀ i (hi : i < g.2.1.length), g.2.1[i].1 + g.2.1[i].2.1.length ≤ l.length ∧ (l.drop g.2.1[i].1.toNat).take g.2.1[i].2.1.length = g.2.1[i].2.1) → fitAll g l = true) := fun hF hp hq => fitAll_yes (fit_of hF hp hq)
  have cp4 : cap ≤ 9223372036854775807 := cp2
  clear hr r1 r2 hl cp2
  obtain ⟨done, ps, _⟩ := g
  simp only at *
  generalize fitsV (done, ps, ()) l = V at *
  generalize gtFault (done, ps, ()) = F at *
  generalize fitAll (done, ps, ()) l = D at *
  obtain ⟨PR, hPR⟩ : ∃ p : Prop, p = (done.length ≤ l.length ∧ l.take done.length = done) := ⟨_, rfl⟩
  go_enter Tryz.func66, Tryz.ntmps66
  go_wp2_with fail
  refine (HC.out _ (by go_grown)).mono ?_
  rintro e w1 ⟨rfl, hb1⟩
  have k0 : ∀ o, w1.cell? ⟨w.heap.size, o, none⟩ = (#[.slice a1 done.length c1, .slice a2 ps.length c2] : Array Value)[o]? := fun o => by rw [(bcell hb1).1 _ o (by simp)]; simp [go_sem]
  have HB1 : Hid (Below w.heap.size w w1) := Below.trans (by go_grown) (hb1.mono (by simp))
  have z1 : w.heap.size < w1.heap.size := by have := hb1.size; simp at this; omega
  clear hb1 HC
  by_cases hF : F = 0
  · subst hF
    have hv := HV2.out (by first | rfl | trivial)
    subst hv
    obtain ⟨o1, o2, hok⟩ := HOk.out (by first | rfl | trivial)
    have HOk2 : Hid _ := hok
    clear HV1 HV2 HOk hok
    have hpc := HP.out w1 HB1.out
    by_cases hpre : done.length ≤ l.length ∧ l.take done.length = done
    · have hd : decide (done.length ≤ l.length ∧ l.take done.length = done) = true := by simp only [decide_eq_true_eq]; exact hpre
      rw [hd] at hpc
      have HPre : Hid _ := hpre
      clear hd hpre HP HN1 hPR
      go_wp2_with fail
      refine hpc.mono ?_
      rintro e w2 ⟨rfl, hw2⟩
      subst w2
      clear hpc
      go_wp2_with fail
      go_loopw [20] (fun i wr => ∃ (k : Nat), k ≤ ps.length ∧ i = .int .i64 k ∧ (∀ j (hj : j < ps.length), j < k → ps[j].1 + ps[j].2.1.length ≤ l.length ∧ (l.drop ps[j].1.toNat).take ps[j].2.1.length = ps[j].2.1) ∧ Below w1.heap.size w1 wr) (fun i _ => ps.length - (intOf i).toNat)
      case atStart => exact ⟨0, Nat.zero_le _, rfl, fun j hj h => absurd h (by omega), Below.refl _ _⟩
      case round =>
        obtain ⟨k, hk, rfl, hq, hbl⟩ := hrel
        have HQ : Hid _ := hq
        have HB2 : Hid (Below w.heap.size w wr) := HB1.out.trans (hbl.mono HB1.out.size)
        clear hq k0
        by_cases hlt : k < ps.length
        · obtain ⟨_, _, e1, -, -, hp⟩ := rd_pcs (HR.out wr HB2.out)
          obtain ⟨b, off, ad, c, ha, hb, y0, y1, r3, hw⟩ := hp k hlt
          simp only [List.cons.injEq, Value.slice.injEq, and_true, true_and] at e1
          rw [← e1.1] at ha
          subst ha
          obtain ⟨ok1, ok2, ok3⟩ := HOk2.out k hlt
          obtain ⟨_, _, e4, rb, -, -⟩ := rd_bytes r3
          simp only [List.cons.injEq, Value.slice.injEq, and_true, true_and] at e4
          obtain ⟨rfl, rfl⟩ := e4
          have HNo := HN2.out (by first | rfl | trivial) k hlt
          have HYes : Hid (ps[k].1 + ps[k].2.1.length ≤ l.length ∧ (l.drop ps[k].1.toNat).take ps[k].2.1.length = ps[k].2.1 → ∀ j (hj : j < ps.length), j < k + 1 → ps[j].1 + ps[j].2.1.length ≤ l.length ∧ (l.drop ps[j].1.toNat).take ps[j].2.1.length = ps[j].2.1) := by
            intro h j hj hjk
            by_cases e : j = k
            · subst e; exact h
            · exact HQ.out j hj (by omega)
          clear hp e1 r3
          generalize ps[k].1 = at' at *
          generalize ps[k].2.1 = d at *
          have HNo' : Hid _ := HNo
          obtain ⟨_, _, e1, rl, -, -⟩ := rd_bytes (HL.out wr HB2.out)
          simp only [List.cons.injEq, Value.slice.injEq, and_true, true_and] at e1
          obtain ⟨rfl, rfl⟩ := e1
          have HST : Hid (∀ W, Below wr.heap.size wr W → Calls Tryz.prog 67 #[.slice a l.length cap, .int .i64 at', .slice ad d.length c] W fun e w' => e = .returned (.bool (stV l at' d)) ∧ w' = W) := fun W hW => iStandsAt l d a ad cap c at' W (rl.below (Nat.le_refl _) hW) (rb.below (Nat.le_refl _) hW) ok3 ok1 (by omega) cp1 cp4
          have HBl : Hid _ := hbl
          clear hbl HNo rb HQ rl
          by_cases h1 : at' + (d.length : Int) ≤ l.length ∧ (l.drop at'.toNat).take d.length = d
          · have HY2 := HYes.out h1
            have HY3 : Hid _ := HY2
            have hs := stV_iff.2 h1
            rw [hs] at HST
            clear HY2 HYes HNo' h1 hs
            go_wp2_with fail
            refine (HST.out _ ((Below.refl _ _).alloc (Nat.le_refl _) _)).mono ?_
            rintro e w2 ⟨rfl, hw⟩
            have HB3 : Hid (Below wr.heap.size wr w2) := by rw [hw]; exact (Below.refl _ _).alloc (Nat.le_refl _) _
            have HB4 : Hid (Below w1.heap.size w1 w2) := HBl.out.trans (HB3.out.mono HBl.out.size)
            clear hw HST y0 y1
            go_wp2_with fail
            go_roundw
            case rel => exact ⟨k + 1, by omega, by go_num, HY3.out, HB4.out⟩
            case measure => simp [intOf]; omega
          · have hs : stV l at' d = false := by
              cases hq : stV l at' d with
              | false => rfl
              | true => exact absurd (stV_iff.1 hq) h1
            have HNN : Hid (V = false) := HNo'.out h1
            rw [hs] at HST
            clear HYes HNo' h1 hs
            go_wp2_with fail
            refine (HST.out _ ((Below.refl _ _).alloc (Nat.le_refl _) _)).mono ?_
            rintro e w2 ⟨rfl, hw⟩
            have HB3 : Hid (Below wr.heap.size wr w2) := by rw [hw]; exact (Below.refl _ _).alloc (Nat.le_refl _) _
            have HB4 : Hid (Below w.heap.size w w2) := HB2.out.trans (HB3.out.mono HB2.out.size)
            clear hw HST y0 y1
            go_wp2_with fail
            go_ret
            exact ⟨ret_bool HNN.out.symm, HB4.out⟩
        · obtain rfl : k = ps.length := by omega
          have HD : Hid (V = true) := HY.out (by first | rfl | trivial) HPre.out (fun i hi => HQ.out i hi hi)
          go_wp2_with fail
          go_ret
          exact ⟨ret_bool HD.out.symm, HB2.out⟩
    · have hd : decide (done.length ≤ l.length ∧ l.take done.length = done) = false := by simp only [decide_eq_false_iff_not]; exact hpre
      rw [hd] at hpc
      have hD := HN1.out (by first | rfl | trivial) hpre
      subst hD
      clear hd hpre HP HN1 HN2 HY hPR HR HL
      go_wp2_with fail
      refine hpc.mono ?_
      rintro e w2 ⟨rfl, hw2⟩
      subst w2
      clear hpc
      go_wp2_with fail
      go_ret
      exact ⟨rfl, HB1.out⟩
  · have hv := HV1.out hF
    subst hv
    have hF2 : (F == 0) = false := by simpa using hF
    have hF3 : (F != 0) = true := by simpa using hF
    clear HV1 HV2 HOk HN1 HN2 HY HP HR HL k0
    go_wp2_with fail
    go_ret
    exact ⟨rfl, HB1.out⟩
end Go.Proofs.YtnfkjdcnngoeiabGreat

/- Whether a gather that is part of something greater fits a stream, as the model asks; what was in memory stays; no condition but that there are at most a million bytes. Written by mkfito.py. -/
namespace Go.Proofs.YtnfkjdcnngoeiabGreat
open Go.RowKit
set_option linter.unusedVariables false

set_option maxHeartbeats 2000000 in
theorem sL3ByteO (g : Gt) (v1 v2 : Value) (p of : Nat) (x : Int) (w : World) (B : Nat) (hr : gtS.Rd w B g [v1, v2]) (hB : B ≤ w.heap.size) (hF : gtFault g = 0)
    (q1 : w.cell? ⟨p, of, none⟩ = some v1) (q2 : w.cell? ⟨p, of + 1, none⟩ = some v2) :
    Calls Tryz.prog 87 #[.pointer (some ⟨p, of, none⟩), .int .i64 x] w fun e w' => e = .returned (.tuple #[.int .u8 ((gtByte g x).getD 0), .bool (gtByte g x).isSome]) ∧ Below w.heap.size w w' := by
  obtain ⟨a1, c1, a2, c2, e0, r1, r2⟩ := rd_gt hr
  simp only [List.cons.injEq, and_true] at e0
  obtain ⟨rfl, rfl⟩ := e0
  obtain ⟨hd1, hd2, hok⟩ := gtFault_ok hF
  obtain ⟨done, ps, _⟩ := g
  simp only at *
  have hpl : p < w.heap.size := by have := cell_lt (v := .slice a1 done.length c1) q1; exact this
  have HR : Hid (∀ W, Below w.heap.size w W → pcsS.Rd W B ps [.slice a2 ps.length c2]) := fun W hW => r2.below hB hW
  have HOk : Hid _ := hok
  obtain ⟨_, _, e1, rb, -, -⟩ := rd_bytes r1
  simp only [List.cons.injEq, Value.slice.injEq, and_true, true_and] at e1
  obtain ⟨rfl, rfl⟩ := e1
  have cI := fun w => sInG x 0 ((done.length : Int) - 1) w
  by_cases hin : 0 ≤ x ∧ x ≤ (done.length : Int) - 1
  · have e3 : gtByte (done, ps, ()) x = some (done.getD x.toNat 0) := by unfold gtByte; rw [if_pos hin]
    rw [e3]
    simp only [hin, and_self, decide_true] at cI
    rcases rb.mem with e | ⟨b, off, rfl, hc⟩
    · subst e; simp at hin; omega
    · have hx := hc x.toNat (by omega)
      obtain ⟨n, rfl⟩ : ∃ n : Nat, x = n := ⟨x.toNat, by omega⟩
      simp only [Int.toNat_natCast] at *
      have hn : n < done.length := by omega
      clear hc rb r1 r2 hr e3 hok hin
      simp only [Option.getD_some, Option.isSome_some]
      generalize done.getD n 0 = y at *
      go_enter Tryz.func87, Tryz.ntmps87
      go_wp2_with (go_at_call 56; refine (cI _).mono ?_; rintro e w' ⟨rfl, hw⟩; subst w')
      go_ret2
      exact ⟨rfl, Below.refl _ _⟩
  · have e3 : gtByte (done, ps, ()) x = pcsByte ps x := by unfold gtByte; rw [if_neg hin]
    rw [e3]
    have hdf : decide (0 ≤ x ∧ x ≤ (done.length : Int) - 1) = false := by simp only [decide_eq_false_iff_not]; exact hin
    rw [hdf] at cI
    obtain ⟨R, hR⟩ : ∃ R, R = pcsByte ps x := ⟨_, rfl⟩
    rw [← hR]
    have HRR : Hid _ := hR
    clear hR hdf e3 rb r1 r2 hr hok
    go_enter Tryz.func87, Tryz.ntmps87
    go_wp2_with (go_at_call 56; refine (cI _).mono ?_; rintro e w' ⟨rfl, hw⟩; subst w')
    clear cI hin
    go_loopw [6] (fun i wr => ∃ (k : Nat), k ≤ ps.length ∧ i = .int .i64 k ∧ R = pcsByte (ps.drop k) x ∧ Below w.heap.size w wr) (fun i _ => ps.length - (intOf i).toNat)
    case atStart => exact ⟨0, Nat.zero_le _, rfl, HRR.out, Below.refl _ _⟩
    case round =>
      obtain ⟨k, hk, rfl, hq, hbl⟩ := hrel
      have s1 : wr.cell? ⟨p, of, none⟩ = some (.slice a1 done.length c1) := (hbl.cell (p := ⟨p, of, none⟩) hpl).trans q1
      have s2 : wr.cell? ⟨p, of + 1, none⟩ = some (.slice a2 ps.length c2) := (hbl.cell (p := ⟨p, of + 1, none⟩) hpl).trans q2
      clear q1 q2
      by_cases hlt : k < ps.length
      · obtain ⟨_, _, e1, -, -, hp⟩ := rd_pcs (HR.out wr hbl)
        obtain ⟨b, off, ad, c, ha, hb, y0, y1, r3, hw⟩ := hp k hlt
        simp only [List.cons.injEq, Value.slice.injEq, and_true, true_and] at e1
        rw [← e1.1] at ha
        subst ha
        obtain ⟨ok1, ok2, ok3⟩ := HOk.out k hlt
        rw [pcsByte_at x hlt] at hq
        obtain ⟨_, _, e4, rb, -, -⟩ := rd_bytes r3
        simp only [List.cons.injEq, Value.slice.injEq, and_true, true_and] at e4
        obtain ⟨rfl, rfl⟩ := e4
        clear hp e1 r3
        generalize ps[k].1 = at' at *
        generalize ps[k].2.1 = d at *
        have HQ : Hid _ := hq
        have HB1 : Hid (Below w.heap.size w (wr.alloc (.cells #[.int .i64 at', .slice ad d.length c] 149))) := hbl.alloc hbl.size _
        have cJ := fun w => sInG x at' (at' + (d.length : Int) - 1) w
        by_cases h1 : at' ≤ x ∧ x ≤ at' + (d.length : Int) - 1
        · replace HQ : Hid (R = some (d.getD (x - at').toNat 0)) := by have := HQ.out; rw [if_pos h1] at this; exact this
          have hdt : decide (at' ≤ x ∧ x ≤ at' + (d.length : Int) - 1) = true := by simp only [decide_eq_true_eq]; exact h1
          rw [hdt] at cJ
          rcases rb.mem with e | ⟨b2, off2, rfl, hc2⟩
          · subst e; simp at ok3
          · have hx := hc2 (x - at').toNat (by omega)
            have hlt2 := cell_lt hx
            have hx2 : (wr.alloc (.cells #[.int .i64 at', .slice (some ⟨b2, off2, none⟩) d.length c] 149)).cell? ⟨b2, off2 + (x - at').toNat, none⟩ = some (.int .u8 (d.getD (x - at').toNat 0)) := (Below.cell (B := wr.heap.size) ((Below.refl _ _).alloc (Nat.le_refl _) _) (p := ⟨b2, off2 + (x - at').toNat, none⟩) hlt2).trans hx
            have hxx : x - at' = ((x - at').toNat : Int) := by omega
            have hxn : (x - at').toNat < d.length := by omega
            generalize (x - at').toNat = n at *
            generalize d.getD n 0 = y at *
            have hx3 : x = at' + n := by omega
            subst hx3
            clear hc2 hx hq hbl rb hdt h1 hlt2 hxx
            have hsub : at' + (n : Int) - at' = n := by omega
            go_wp2_with (go_at_call 56; refine (cJ _).mono ?_; rintro e w' ⟨rfl, hw⟩; subst w')
            go_ret2
            refine ⟨?_, HB1.out⟩
            rw [HQ.out]; rfl
        · replace HQ : Hid (R = pcsByte (ps.drop (k + 1)) x) := by have := HQ.out; rw [if_neg h1] at this; exact this
          have hdt : decide (at' ≤ x ∧ x ≤ at' + (d.length : Int) - 1) = false := by simp only [decide_eq_false_iff_not]; exact h1
          rw [hdt] at cJ
          clear hdt h1 hq hbl rb
          go_wp2_with (go_at_call 56; refine (cJ _).mono ?_; rintro e w' ⟨rfl, hw⟩; subst w')
          go_roundw
          case rel => exact ⟨k + 1, by omega, by go_num, HQ.out, HB1.out⟩
          case measure => simp [intOf]; omega
      · obtain rfl : k = ps.length := by omega
        rw [pcsByte_end] at hq
        have HQ : Hid _ := hq
        clear hq
        go_wp2_with fail
        go_ret2
        refine ⟨?_, hbl⟩
        rw [HQ.out]; rfl
set_option maxHeartbeats 2000000 in
set_option maxRecDepth 8000 in
theorem sL3FitsO (g : Gt) (v1 v2 : Value) (l : List Int) (a : Option Addr) (cap : Nat) (p of : Nat) (w : World) (B : Nat) (hr : gtS.Rd w B g [v1, v2]) (hl : u8s.Rd w B l [.slice a l.length cap]) (hB : B ≤ w.heap.size) (hF : gtFault g = 0) (hn : l.length ≤ 1048576)
    (q1 : w.cell? ⟨p, of, none⟩ = some v1) (q2 : w.cell? ⟨p, of + 1, none⟩ = some v2) (hpl : p < w.heap.size) :
    Calls Tryz.prog 59 #[.pointer (some ⟨p, of, none⟩), .slice a l.length cap] w fun e w' => e = .returned (.bool (fitAll g l)) ∧ Below w.heap.size w w' := by
  have HC : Hid (∀ W, Below w.heap.size w W → ∀ k : Nat, Calls Tryz.prog 87 #[.pointer (some ⟨p, of, none⟩), .int .i64 k] W fun e w' => e = .returned (.tuple #[.int .u8 ((gtByte g k).getD 0), .bool (gtByte g k).isSome]) ∧ Below W.heap.size W w') :=
    fun W hW k => sL3ByteO g _ _ p of k W B (hr.below hB hW) (Nat.le_trans hB hW.size) hF ((hW.cell (p := ⟨p, of, none⟩) hpl).trans q1) ((hW.cell (p := ⟨p, of + 1, none⟩) hpl).trans q2)
  have HRd : Hid (∀ W, Below w.heap.size w W → u8s.Rd W B l [.slice a l.length cap]) := fun W hW => hl.below hB hW
  have HF1 : Hid (∀ k, k < 400 → fitAt g l k = false → fitAll g l = false) := fun k hk h => fitAll_no hk h
  have HF2 : Hid ((∀ k, k < 400 → fitAt g l k = true) → fitAll g l = true) := fun h => fitAll_yes h
  obtain ⟨M, hM⟩ : ∃ M : Nat, M = 400 := ⟨_, rfl⟩
  have HM : Hid (M = 400) := hM
  clear hM
  clear hr hl q1 q2
  generalize hV : fitAll g l = V
  have HV : Hid (fitAll g l = V) := hV
  clear hV
  go_enter Tryz.func59, Tryz.ntmps59
  go_wp2_with fail
  go_loopw [5] (fun i wr => ∃ (k : Nat), k ≤ M ∧ i = .int .i64 k ∧ (∀ j, j < k → fitAt g l j = true) ∧ Below w.heap.size w wr) (fun i _ => M - (intOf i).toNat)
  case atStart => exact ⟨0, Nat.zero_le _, rfl, fun j hj => absurd hj (by omega), Below.refl _ _⟩
  case round =>
    obtain ⟨k, hk, rfl, hq, hbl⟩ := hrel
    have HQ : Hid _ := hq
    have HBl : Hid _ := hbl
    clear hq hbl
    by_cases hlt : k < M
    · have hlt2 : (k : Int) < 400 := by have := HM.out; omega
      have HLT : Hid (k < 400) := by have := HM.out; show k < 400; omega
      go_wp2_with fail
      refine (HC.out wr HBl.out k).mono ?_
      rintro e w1 ⟨rfl, hb1⟩
      have HB1 : Hid (Below w.heap.size w w1) := HBl.out.trans (hb1.mono HBl.out.size)
      clear hb1
      cases hgb : gtByte g k with
      | none =>
        have HN : Hid (fitAt g l k = true) := by show _ = _; unfold fitAt; rw [hgb]
        simp only [Option.getD_none, Option.isSome_none]
        go_wp2_with fail
        go_roundw
        case rel => exact ⟨k + 1, by omega, by go_num, fun j hj => (Nat.lt_or_eq_of_le (Nat.le_of_lt_succ hj)).elim (fun h => HQ.out j h) (fun h => h ▸ HN.out), HB1.out⟩
        case measure => simp [intOf]; omega
      | some b =>
        simp only [Option.getD_some, Option.isSome_some]
        by_cases h1 : k < l.length
        · obtain ⟨_, _, e1, rb, -, -⟩ := rd_bytes (HRd.out w1 HB1.out)
          simp only [List.cons.injEq, Value.slice.injEq, and_true, true_and] at e1
          obtain ⟨rfl, rfl⟩ := e1
          rcases rb.mem with e | ⟨b1, off1, rfl, hc1⟩
          · subst e; simp at h1
          · have y0 := hc1 k h1
            have HAt : Hid (fitAt g l k = (l.getD k 0 == b)) := by show _ = _; unfold fitAt; rw [hgb]; simp [h1]
            have h1i : (k : Int) < (l.length : Int) := by omega
            have h1d : decide ((l.length : Int) ≤ (k : Int)) = false := by simp; omega
            clear hc1 rb hgb
            generalize l.getD k 0 = y at *
            by_cases hy : y = b
            · subst hy
              have HN : Hid (fitAt g l k = true) := by have := HAt.out; show _ = _; rw [this]; simp
              clear HAt
              go_wp2_with fail
              go_roundw
              case rel => exact ⟨k + 1, by omega, by go_num, fun j hj => (Nat.lt_or_eq_of_le (Nat.le_of_lt_succ hj)).elim (fun h => HQ.out j h) (fun h => h ▸ HN.out), HB1.out⟩
              case measure => simp [intOf]; omega
            · have hy2 : (y == b) = false := by simpa using hy
              have hy3 : (y != b) = true := by simpa using hy
              have HN : Hid (fitAt g l k = false) := by have := HAt.out; show _ = _; rw [this]; exact hy2
              clear HAt
              go_wp2_with fail
              go_ret
              exact ⟨ret_bool (by rw [← HV.out, HF1.out k HLT.out HN.out]), HB1.out⟩
        · have HN : Hid (fitAt g l k = false) := by show _ = _; unfold fitAt; rw [hgb]; simp [h1]
          have h1i : (l.length : Int) ≤ (k : Int) := by omega
          clear hgb
          go_wp2_with fail
          go_ret
          exact ⟨ret_bool (by rw [← HV.out, HF1.out k HLT.out HN.out]), HB1.out⟩
    · have hge : decide ((k : Int) < 400) = false := by have := HM.out; simp; omega
      have HGE : Hid (400 ≤ k) := by have := HM.out; show 400 ≤ k; omega
      go_wp2_with fail
      go_ret
      exact ⟨ret_bool (by rw [← HV.out, HF2.out fun j hj => HQ.out j (Nat.lt_of_lt_of_le hj HGE.out)]), HBl.out⟩
end Go.Proofs.YtnfkjdcnngoeiabGreat
