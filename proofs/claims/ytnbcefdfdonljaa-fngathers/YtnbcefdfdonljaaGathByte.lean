/- Which byte a gather has at a place; what HasByte answers, of the program and of its model; what was in memory stays; no condition but that there are at most a million bytes. -/
import Derived.Test.YtnbcefdfdonljaaRows
import Derived.Test.YtnbcefdfdonljaaBase
import Derived.Test.YtnbcefdfdonljaaBytes
import Derived.Test.YtnbcefdfdonljaaMem
import Derived.Test.YtnbcefdfdonljaaGath
import Derived.Test.YtnbcefdfdonljaaImplGath
import Derived.Test.YtnbcefdfdonljaaSpecGath
namespace Go.Proofs.Ytnbcefdfdonljaa
open Go.RowKit
set_option linter.unusedVariables false

/-- The byte at a place, of pieces. -/
def pcsByte : List Pc → Int → Option Int
  | [], _ => none
  | p :: ps, x => if p.1 ≤ x ∧ x ≤ p.1 + p.2.1.length - 1 then some (p.2.1.getD (x - p.1).toNat 0) else pcsByte ps x
/-- The byte at a place, of a gather. -/
def gtByte (g : Gt) (x : Int) : Option Int := if 0 ≤ x ∧ x ≤ (g.1.length : Int) - 1 then some (g.1.getD x.toNat 0) else pcsByte g.2.1 x

theorem pcsByte_at {ps : List Pc} {k : Nat} (x : Int) (hk : k < ps.length) : pcsByte (ps.drop k) x = if ps[k].1 ≤ x ∧ x ≤ ps[k].1 + ps[k].2.1.length - 1 then some (ps[k].2.1.getD (x - ps[k].1).toNat 0) else pcsByte (ps.drop (k + 1)) x := by
  rw [List.drop_eq_getElem_cons hk]; rfl
theorem pcsByte_end {ps : List Pc} (x : Int) : pcsByte (ps.drop ps.length) x = none := by rw [List.drop_length]; rfl

theorem pcsFault_ok : ∀ (ps : List Pc) (e : Int), pcsFault e ps = 0 → ∀ k (hk : k < ps.length), 0 ≤ ps[k].1 ∧ ps[k].1 + ps[k].2.1.length ≤ 400 ∧ 0 < ps[k].2.1.length
  | [], e, h, k, hk => by simp at hk
  | p :: ps, e, h, k, hk => by
    have h0 : (if pcFault p.1 p.2.1.length e ≠ 0 then pcFault p.1 p.2.1.length e else pcsFault (p.1 + p.2.1.length) ps) = 0 := h
    by_cases hz : pcFault p.1 p.2.1.length e = 0
    · rw [if_neg (by simp [hz])] at h0
      obtain ⟨h1, h2, h3, h4⟩ := pcFault_ok hz
      match k with
      | 0 => exact ⟨h2, h3, h1⟩
      | k + 1 => exact pcsFault_ok ps _ h0 k (by simpa using hk)
    · rw [if_pos hz] at h0; exact absurd h0 hz
theorem gtFault_ok {g : Gt} (h : gtFault g = 0) : g.1.length ≤ 400 ∧ g.2.1.length ≤ 40 ∧ ∀ k (hk : k < g.2.1.length), 0 ≤ g.2.1[k].1 ∧ g.2.1[k].1 + g.2.1[k].2.1.length ≤ 400 ∧ 0 < g.2.1[k].2.1.length := by
  unfold gtFault at h
  split at h
  · omega
  · rename_i hm
    exact ⟨by omega, by omega, pcsFault_ok _ _ h⟩

set_option maxHeartbeats 2000000 in
theorem sL3Byte (g : Gt) (v1 v2 : Value) (p : Nat) (x : Int) (w : World) (B : Nat) (hr : gtS.Rd w B g [v1, v2]) (hB : B ≤ w.heap.size) (hF : gtFault g = 0)
    (hp : ∀ o, w.cell? ⟨p, o, none⟩ = (#[v1, v2] : Array Value)[o]?) :
    Calls Try.prog 98 #[.pointer (some ⟨p, 0, none⟩), .int .i64 x] w fun e w' => e = .returned (.tuple #[.int .u8 ((gtByte g x).getD 0), .bool (gtByte g x).isSome]) ∧ Below w.heap.size w w' := by
  obtain ⟨a1, c1, a2, c2, e0, r1, r2⟩ := rd_gt hr
  simp only [List.cons.injEq, and_true] at e0
  obtain ⟨rfl, rfl⟩ := e0
  obtain ⟨hd1, hd2, hok⟩ := gtFault_ok hF
  obtain ⟨done, ps, _⟩ := g
  simp only at *
  have hpl : p < w.heap.size := by have := cell_lt (v := .slice a1 done.length c1) (hp 0); exact this
  have HR : Hid (∀ W, Below w.heap.size w W → pcsS.Rd W B ps [.slice a2 ps.length c2]) := fun W hW => r2.below hB hW
  have HOk : Hid _ := hok
  obtain ⟨_, _, e1, rb, -, -⟩ := rd_bytes r1
  simp only [List.cons.injEq, Value.slice.injEq, and_true, true_and] at e1
  obtain ⟨rfl, rfl⟩ := e1
  have cI := fun w => sInG x 0 ((done.length : Int) - 1) w
  by_cases hin : 0 ≤ x ∧ x ≤ (done.length : Int) - 1
  · have e3 : gtByte (done, ps, ()) x = some (done.getD x.toNat 0) := by unfold gtByte; rw [if_pos hin]
    rw [e3]
    simp only [hin, and_self, decide_true] at cI
    rcases rb.mem with e | ⟨b, off, rfl, hc⟩
    · subst e; simp at hin; omega
    · have hx := hc x.toNat (by omega)
      have q1 := hp 0
      have q2 := hp 1
      simp at q1 q2
      obtain ⟨n, rfl⟩ : ∃ n : Nat, x = n := ⟨x.toNat, by omega⟩
      simp only [Int.toNat_natCast] at *
      have hn : n < done.length := by omega
      clear hp hc rb r1 r2 hr e3 hok hin
      simp only [Option.getD_some, Option.isSome_some]
      generalize done.getD n 0 = y at *
      go_enter Try.func98, Try.ntmps98
      go_wp2_with (go_at_call 97; refine (cI _).mono ?_; rintro e w' ⟨rfl, hw⟩; subst w')
      go_ret2
      exact ⟨rfl, Below.refl _ _⟩
  · have e3 : gtByte (done, ps, ()) x = pcsByte ps x := by unfold gtByte; rw [if_neg hin]
    rw [e3]
    have hdf : decide (0 ≤ x ∧ x ≤ (done.length : Int) - 1) = false := by simp only [decide_eq_false_iff_not]; exact hin
    rw [hdf] at cI
    have q1 := hp 0
    have q2 := hp 1
    simp at q1 q2
    have HP : Hid _ := hp
    obtain ⟨R, hR⟩ : ∃ R, R = pcsByte ps x := ⟨_, rfl⟩
    rw [← hR]
    have HRR : Hid _ := hR
    clear hR hdf e3 hp rb r1 r2 hr hok
    go_enter Try.func98, Try.ntmps98
    go_wp2_with (go_at_call 97; refine (cI _).mono ?_; rintro e w' ⟨rfl, hw⟩; subst w')
    clear cI hin
    go_loopw [6] (fun i wr => ∃ (k : Nat), k ≤ ps.length ∧ i = .int .i64 k ∧ R = pcsByte (ps.drop k) x ∧ Below w.heap.size w wr) (fun i _ => ps.length - (intOf i).toNat)
    case atStart => exact ⟨0, Nat.zero_le _, rfl, HRR.out, Below.refl _ _⟩
    case round =>
      obtain ⟨k, hk, rfl, hq, hbl⟩ := hrel
      have s1 : wr.cell? ⟨p, 0, none⟩ = some (.slice a1 done.length c1) := (hbl.cell (p := ⟨p, 0, none⟩) hpl).trans q1
      have s2 : wr.cell? ⟨p, 1, none⟩ = some (.slice a2 ps.length c2) := (hbl.cell (p := ⟨p, 1, none⟩) hpl).trans q2
      clear q1 q2
      by_cases hlt : k < ps.length
      · obtain ⟨_, _, e1, -, -, hp⟩ := rd_pcs (HR.out wr hbl)
        obtain ⟨b, off, ad, c, ha, hb, y0, y1, r3, hw⟩ := hp k hlt
        simp only [List.cons.injEq, Value.slice.injEq, and_true, true_and] at e1
        rw [← e1.1] at ha
        subst ha
        obtain ⟨ok1, ok2, ok3⟩ := HOk.out k hlt
        rw [pcsByte_at x hlt] at hq
        obtain ⟨_, _, e4, rb, -, -⟩ := rd_bytes r3
        simp only [List.cons.injEq, Value.slice.injEq, and_true, true_and] at e4
        obtain ⟨rfl, rfl⟩ := e4
        clear hp e1 r3
        generalize ps[k].1 = at' at *
        generalize ps[k].2.1 = d at *
        have HQ : Hid _ := hq
        have HB1 : Hid (Below w.heap.size w (wr.alloc (.cells #[.int .i64 at', .slice ad d.length c] 87))) := hbl.alloc hbl.size _
        have cJ := fun w => sInG x at' (at' + (d.length : Int) - 1) w
        by_cases h1 : at' ≤ x ∧ x ≤ at' + (d.length : Int) - 1
        · replace HQ : Hid (R = some (d.getD (x - at').toNat 0)) := by have := HQ.out; rw [if_pos h1] at this; exact this
          have hdt : decide (at' ≤ x ∧ x ≤ at' + (d.length : Int) - 1) = true := by simp only [decide_eq_true_eq]; exact h1
          rw [hdt] at cJ
          rcases rb.mem with e | ⟨b2, off2, rfl, hc2⟩
          · subst e; simp at ok3
          · have hx := hc2 (x - at').toNat (by omega)
            have hlt2 := cell_lt hx
            have hx2 : (wr.alloc (.cells #[.int .i64 at', .slice (some ⟨b2, off2, none⟩) d.length c] 87)).cell? ⟨b2, off2 + (x - at').toNat, none⟩ = some (.int .u8 (d.getD (x - at').toNat 0)) := (Below.cell (B := wr.heap.size) ((Below.refl _ _).alloc (Nat.le_refl _) _) (p := ⟨b2, off2 + (x - at').toNat, none⟩) hlt2).trans hx
            have hxx : x - at' = ((x - at').toNat : Int) := by omega
            have hxn : (x - at').toNat < d.length := by omega
            generalize (x - at').toNat = n at *
            generalize d.getD n 0 = y at *
            have hx3 : x = at' + n := by omega
            subst hx3
            clear hc2 hx hq hbl rb hdt h1 hlt2 hxx
            have hsub : at' + (n : Int) - at' = n := by omega
            go_wp2_with (go_at_call 97; refine (cJ _).mono ?_; rintro e w' ⟨rfl, hw⟩; subst w')
            go_ret2
            refine ⟨?_, HB1.out⟩
            rw [HQ.out]; rfl
        · replace HQ : Hid (R = pcsByte (ps.drop (k + 1)) x) := by have := HQ.out; rw [if_neg h1] at this; exact this
          have hdt : decide (at' ≤ x ∧ x ≤ at' + (d.length : Int) - 1) = false := by simp only [decide_eq_false_iff_not]; exact h1
          rw [hdt] at cJ
          clear hdt h1 hq hbl rb
          go_wp2_with (go_at_call 97; refine (cJ _).mono ?_; rintro e w' ⟨rfl, hw⟩; subst w')
          go_roundw
          case rel => exact ⟨k + 1, by omega, by go_num, HQ.out, HB1.out⟩
          case measure => simp [intOf]; omega
      · obtain rfl : k = ps.length := by omega
        rw [pcsByte_end] at hq
        have HQ : Hid _ := hq
        clear hq
        go_wp2_with fail
        go_ret2
        refine ⟨?_, hbl⟩
        rw [HQ.out]; rfl

/-- What HasByte tells. -/
def hasB (g : Gt) (x : Int) : Bool := if gtFault g ≠ 0 then false else (gtByte g x).isSome

theorem gtByte_some {g : Gt} {x : Int} (h : (pcsByte g.2.1 x).isSome = true) : (gtByte g x).isSome = true := by
  unfold gtByte; split
  · rfl
  · exact h
theorem gtByte_none {g : Gt} {x : Int} (h : pcsByte g.2.1 x = none) : (gtByte g x).isSome = decide (0 ≤ x ∧ x < g.1.length) := by
  unfold gtByte; split
  · rename_i h1; simp; omega
  · rename_i h1; rw [h]; simp; omega

set_option maxHeartbeats 2000000 in
theorem iHasByte (g : Gt) (v1 v2 : Value) (x : Int) (w : World) (B : Nat) (hr : gtS.Rd w B g [v1, v2]) (hB : B ≤ w.heap.size) :
    Calls Try.prog 11 #[.agg #[v1, v2], .int .i64 x] w fun e w' => e = .returned (.bool (hasB g x)) ∧ Below w.heap.size w w' := by
  obtain ⟨a1, c1, a2, c2, e0, -, r2⟩ := rd_gt hr
  simp only [List.cons.injEq, and_true] at e0
  obtain ⟨rfl, rfl⟩ := e0
  have HR : Hid (∀ W, Below w.heap.size w W → pcsS.Rd W B g.2.1 [.slice a2 g.2.1.length c2]) := fun W hW => r2.below hB hW
  have HC : Hid (∀ W, Below w.heap.size w W → Calls Try.prog 12 #[.agg #[.slice a1 g.1.length c1, .slice a2 g.2.1.length c2]] W fun e w' => e = .returned (.int .i64 (gtFault g)) ∧ Below W.heap.size W w') :=
    fun W hW => iGatherFault g _ W (Sh.Rd.mono (Nat.le_trans hB hW.size) _ _ _ (hr.below hB hW))
  have HV : Hid (hasB g x = if gtFault g ≠ 0 then false else (gtByte g x).isSome) := rfl
  have HOk : Hid (gtFault g = 0 → g.1.length ≤ 400 ∧ g.2.1.length ≤ 40 ∧ ∀ k (hk : k < g.2.1.length), 0 ≤ g.2.1[k].1 ∧ g.2.1[k].1 + g.2.1[k].2.1.length ≤ 400 ∧ 0 < g.2.1[k].2.1.length) := fun h => gtFault_ok h
  have HS : Hid ((pcsByte g.2.1 x).isSome = true → (gtByte g x).isSome = true) := fun h => gtByte_some h
  have HN : Hid (pcsByte g.2.1 x = none → (gtByte g x).isSome = decide (0 ≤ x ∧ x < g.1.length)) := fun h => gtByte_none h
  clear hr r2
  obtain ⟨done, ps, _⟩ := g
  simp only at *
  generalize hasB (done, ps, ()) x = V at *
  generalize gtFault (done, ps, ()) = F at *
  generalize (gtByte (done, ps, ()) x).isSome = D at *
  obtain ⟨R, hR⟩ : ∃ R, R = pcsByte ps x := ⟨_, rfl⟩
  rw [← hR] at HS HN
  have HRR : Hid _ := hR
  clear hR
  go_enter Try.func11, Try.ntmps11
  go_wp2_with fail
  refine (HC.out _ (by go_grown)).mono ?_
  rintro e w1 ⟨rfl, hb1⟩
  have k0 : ∀ o, w1.cell? ⟨w.heap.size, o, none⟩ = (#[.slice a1 done.length c1, .slice a2 ps.length c2] : Array Value)[o]? := fun o => by rw [(bcell hb1).1 _ o (by simp)]; simp [go_sem]
  have HB1 : Hid (Below w.heap.size w w1) := Below.trans (by go_grown) (hb1.mono (by simp))
  have z1 : w.heap.size < w1.heap.size := by have := hb1.size; simp at this; omega
  clear hb1 HC
  by_cases hF : F = 0
  · subst hF
    obtain ⟨n1, n2, hok⟩ := HOk.out rfl
    have hv := HV.out
    rw [if_neg (by simp)] at hv
    subst hv
    have HO2 : Hid _ := hok
    clear HV HOk hok
    have k1 := k0 0
    have k2 := k0 1
    simp at k1 k2
    clear k0
    go_wp2_with fail
    go_loopw [13] (fun i wr => ∃ (k : Nat), k ≤ ps.length ∧ i = .int .i64 k ∧ R = pcsByte (ps.drop k) x ∧ Below w1.heap.size w1 wr) (fun i _ => ps.length - (intOf i).toNat)
    case atStart => exact ⟨0, Nat.zero_le _, rfl, HRR.out, Below.refl _ _⟩
    case round =>
      obtain ⟨k, hk, rfl, hq, hbl⟩ := hrel
      have s1 : wr.cell? ⟨w.heap.size, 0, none⟩ = some (.slice a1 done.length c1) := (hbl.cell (p := ⟨w.heap.size, 0, none⟩) z1).trans k1
      have s2 : wr.cell? ⟨w.heap.size, 1, none⟩ = some (.slice a2 ps.length c2) := (hbl.cell (p := ⟨w.heap.size, 1, none⟩) z1).trans k2
      have HB2 : Hid (Below w.heap.size w wr) := HB1.out.trans (hbl.mono HB1.out.size)
      clear k1 k2
      by_cases hlt : k < ps.length
      · obtain ⟨_, _, e1, -, -, hp⟩ := rd_pcs (HR.out wr HB2.out)
        obtain ⟨b, off, ad, c, ha, hb, y0, y1, r3, hw⟩ := hp k hlt
        simp only [List.cons.injEq, Value.slice.injEq, and_true, true_and] at e1
        rw [← e1.1] at ha
        subst ha
        obtain ⟨ok1, ok2, ok3⟩ := HO2.out k hlt
        rw [pcsByte_at x hlt] at hq
        clear hp e1 r3
        generalize ps[k].1 = at' at *
        generalize ps[k].2.1 = d at *
        have HQ : Hid _ := hq
        have hE := fun W => iPieceEnd at' ad d.length c W (by omega) (by omega) (by omega)
        have HBl : Hid _ := hbl
        clear hq hbl
        by_cases h1 : at' ≤ x
        · go_wp2_with fail
          refine (hE _).mono ?_
          rintro e w2 ⟨rfl, hb2⟩
          have HB3 : Hid (Below w1.heap.size w1 w2) := HBl.out.trans (((Below.refl _ _).alloc HBl.out.size _).trans (hb2.mono (by simp; have := HBl.out.size; omega)))
          clear hb2 hE
          by_cases h2 : x < at' + d.length
          · replace HQ : Hid (R = some (d.getD (x - at').toNat 0)) := by have := HQ.out; rw [if_pos (by omega)] at this; exact this
            go_wp2_with fail
            go_ret
            exact ⟨ret_bool (HS.out (by rw [HQ.out]; rfl)).symm, HB1.out.trans (HB3.out.mono HB1.out.size)⟩
          · replace HQ : Hid (R = pcsByte (ps.drop (k + 1)) x) := by have := HQ.out; rw [if_neg (by omega)] at this; exact this
            go_wp2_with fail
            go_roundw
            case rel => exact ⟨k + 1, by omega, by go_num, HQ.out, HB3.out⟩
            case measure => simp [intOf]; omega
        · replace HQ : Hid (R = pcsByte (ps.drop (k + 1)) x) := by have := HQ.out; rw [if_neg (by omega)] at this; exact this
          have HB3 : Hid (Below w1.heap.size w1 (wr.alloc (.cells #[.int .i64 at', .slice ad d.length c] 87))) := HBl.out.alloc HBl.out.size _
          clear hE
          go_wp2_with fail
          go_roundw
          case rel => exact ⟨k + 1, by omega, by go_num, HQ.out, HB3.out⟩
          case measure => simp [intOf]; omega
      · obtain rfl : k = ps.length := by omega
        rw [pcsByte_end] at hq
        have HD := HN.out hq
        clear hq HN HS
        have HD' : Hid _ := HD
        clear HD
        by_cases h0 : 0 ≤ x
        · go_wp2_with fail
          go_ret
          exact ⟨ret_bool (by rw [HD'.out]; simp [h0]), HB2.out⟩
        · go_wp2_with fail
          go_ret
          exact ⟨ret_bool (by rw [HD'.out]; simp; omega), HB2.out⟩
  · have hv := HV.out
    rw [if_pos hF] at hv
    subst hv
    have hF2 : (F == 0) = false := by simpa using hF
    clear HV k0 hF
    go_wp2_with fail
    go_ret
    exact ⟨rfl, HB1.out⟩
end Go.Proofs.Ytnbcefdfdonljaa
