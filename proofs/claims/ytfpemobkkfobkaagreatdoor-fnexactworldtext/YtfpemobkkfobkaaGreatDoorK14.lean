/- A law's parameter opened: a conn; no condition. -/
import Derived.Test.YtfpemobkkfobkaaGreatDoorRows
import Derived.Deep.RegionHeld3
import Derived.Deep.DeepCutAuto
import Derived.Deep.CutRange
import Derived.Deep.QuietTactic
import Derived.BigQuiet
import Derived.Test.YtfpemobkkfobkaaGreatDoorK01
import Derived.Test.YtfpemobkkfobkaaGreatDoorK02
import Derived.Test.YtfpemobkkfobkaaGreatDoorK03
import Derived.Test.YtfpemobkkfobkaaGreatDoorK04
import Derived.Test.YtfpemobkkfobkaaGreatDoorK05
import Derived.Test.YtfpemobkkfobkaaGreatDoorK08
import Derived.Test.YtfpemobkkfobkaaGreatDoorK09
import Derived.Test.YtfpemobkkfobkaaGreatDoorK10
import Derived.Test.YtfpemobkkfobkaaGreatDoorK11
namespace Go.Proofs.YtfpemobkkfobkaaGreatDoor
open Go.RowKit Go.ChangeShapes Go.WideShapes Go.ChangeAt
set_option linter.unusedVariables false
set_option maxRecDepth 8000

theorem fits_Gather : gtS.fits Tryz.prog (.inl 65) :=
  ⟨_, _, Tryz.underlying65, by kernel_rfl, rfl, by kernel_rfl, fits_u8, rfl, by kernel_rfl, ⟨_, Tryz.underlying63, by kernel_rfl, by decide, _, _, Tryz.underlying163, by kernel_rfl, rfl, by kernel_rfl, Tryz.underlying2, rfl, by kernel_rfl, fits_u8, trivial⟩, trivial⟩
theorem fits_Conn : shConn.fits Tryz.prog (.inl 68) :=
  ⟨_, _, Tryz.underlying68, by kernel_rfl, rfl, by kernel_rfl, Tryz.underlying2, rfl, by kernel_rfl, Tryz.underlying2, rfl, by kernel_rfl, Tryz.underlying2, rfl, by kernel_rfl, Tryz.underlying4, rfl, by kernel_rfl, Tryz.underlying4, rfl, by kernel_rfl, fits_u8, rfl, by kernel_rfl, Tryz.underlying4, rfl, by kernel_rfl, Tryz.underlying2, rfl, by kernel_rfl, Tryz.underlying4, rfl, by kernel_rfl, fits_Gather, rfl, by kernel_rfl, Tryz.underlying2, rfl, by kernel_rfl, Tryz.underlying2, rfl, by kernel_rfl,
    ⟨_, Tryz.underlying66, by kernel_rfl, by decide, fits_Sub⟩, trivial⟩
theorem open_Conn {H : Type} {enc : TypeId × Value → H} {w : World} {base : Nat} {v : Value} (o : Value.okWide Tryz.prog w .any base 68 v) (hx : ∃ n y, DataW.trod enc Tryz.prog w 0 (fun _ => true) true n 68 v.cells.toList = some y) :
    ∃ (g : DConn) (A : Array Value), v = .agg A ∧ shConn.Rd w w.heap.size g A.toList := by
  obtain ⟨cs, rfl⟩ := val_agg Tryz.underlying68 o
  obtain ⟨g, hd⟩ := (open_sh (enc := enc) (P := Tryz.prog) (w := w) shConn).1 _ _ fits_Conn hx
  exact ⟨g, cs, rfl, hd⟩
end Go.Proofs.YtfpemobkkfobkaaGreatDoor

/- What the program says of the parts of a conn's fault; nothing that was in memory turns; no condition but that there are at most a million parts. Written by mkci.py. -/
namespace Go.Proofs.YtfpemobkkfobkaaGreatDoor
open Go.RowKit
set_option linter.unusedVariables false
set_option maxRecDepth 8000

theorem iKeyF (k : Int) (w : World) : Calls Tryz.prog 97 #[.int .i64 k] w fun e w' => e = .returned (.int .i64 (if keyD k = true then 0 else 3)) ∧ w' = w := by
  have HI : Hid (∀ W, Calls Tryz.prog 37 #[.int .i64 k, .int .i64 1, .int .i64 999999] W fun e w' => e = .returned (.bool (keyD k)) ∧ w' = W) := fun W => iInD k 1 999999 W
  cases h : keyD k with
  | true =>
    rw [h] at HI
    clear h
    go_enter Tryz.func97, Tryz.ntmps97
    go_wp2_with (go_at_call 37; refine (HI.out _).mono ?_; rintro e w' ⟨rfl, hw⟩; subst w')
    go_ret
    exact ⟨rfl, rfl⟩
  | false =>
    rw [h] at HI
    clear h
    go_enter Tryz.func97, Tryz.ntmps97
    go_wp2_with (go_at_call 37; refine (HI.out _).mono ?_; rintro e w' ⟨rfl, hw⟩; subst w')
    go_ret
    exact ⟨rfl, rfl⟩
set_option maxHeartbeats 1000000 in
theorem iKeysFault (A : Array Value) (y0 y1 y2 : Int) (a0 : A[0]? = some (.int .i64 y0)) (a1 : A[1]? = some (.int .i64 y1)) (a2 : A[2]? = some (.int .i64 y2)) (w : World) :
    Calls Tryz.prog 74 #[.agg A] w fun e w' => e = .returned (.int .i64 (if (inD y0 0 1 && keyD y1 && (decide (y2 = 0) || keyD y2)) = true then 0 else 3)) ∧ Below w.heap.size w w' := by
  have HKF : Hid (∀ k W, Calls Tryz.prog 97 #[.int .i64 k] W fun e w' => e = .returned (.int .i64 (if keyD k = true then 0 else 3)) ∧ w' = W) := fun k W => iKeyF k W
  cases h0 : inD y0 0 1 with
  | false =>
    go_enter Tryz.func74, Tryz.ntmps74
    go_wp2_with (first | (go_at_call 37; refine (iInD _ _ _ _).mono ?_; rintro e w' ⟨rfl, hw⟩; subst w') | (go_at_call 97; refine (HKF.out _ _).mono ?_; rintro e w' ⟨rfl, hw⟩; subst w'))
    go_ret
    exact ⟨rfl, by go_grown⟩
  | true =>
    cases h1 : keyD y1 with
    | false =>
      go_enter Tryz.func74, Tryz.ntmps74
      go_wp2_with (first | (go_at_call 37; refine (iInD _ _ _ _).mono ?_; rintro e w' ⟨rfl, hw⟩; subst w') | (go_at_call 97; refine (HKF.out _ _).mono ?_; rintro e w' ⟨rfl, hw⟩; subst w'))
      go_ret
      exact ⟨rfl, by go_grown⟩
    | true =>
      by_cases h2 : y2 = 0
      · rw [decide_eq_true h2]
        have h2' : (y2 == 0) = true := by simp [h2]
        clear h2
        go_enter Tryz.func74, Tryz.ntmps74
        go_wp2_with (first | (go_at_call 37; refine (iInD _ _ _ _).mono ?_; rintro e w' ⟨rfl, hw⟩; subst w') | (go_at_call 97; refine (HKF.out _ _).mono ?_; rintro e w' ⟨rfl, hw⟩; subst w'))
        go_ret
        exact ⟨rfl, by go_grown⟩
      · rw [decide_eq_false h2]
        have h2' : (y2 == 0) = false := by simp [h2]
        clear h2
        cases h3 : keyD y2 with
        | false =>
          go_enter Tryz.func74, Tryz.ntmps74
          go_wp2_with (first | (go_at_call 37; refine (iInD _ _ _ _).mono ?_; rintro e w' ⟨rfl, hw⟩; subst w') | (go_at_call 97; refine (HKF.out _ _).mono ?_; rintro e w' ⟨rfl, hw⟩; subst w'))
          go_ret
          exact ⟨rfl, by go_grown⟩
        | true =>
          go_enter Tryz.func74, Tryz.ntmps74
          go_wp2_with (first | (go_at_call 37; refine (iInD _ _ _ _).mono ?_; rintro e w' ⟨rfl, hw⟩; subst w') | (go_at_call 97; refine (HKF.out _ _).mono ?_; rintro e w' ⟨rfl, hw⟩; subst w'))
          go_ret
          exact ⟨rfl, by go_grown⟩
/-- The fault of what goes out. -/
def outF (n5 : Nat) (y6 : Bool) (y7 : Int) (y8 : Bool) : Int := if 300 < n5 then 2 else if inD y7 0 n5 = false then 3 else if (y8 && (!y6 || !decide (y7 = (n5 : Int)))) = true then 1 else 0
set_option maxHeartbeats 1000000 in
theorem iOutFault (A : Array Value) (n5 : Nat) (a5a : Option Addr) (a5c : Nat) (y6 : Bool) (y7 : Int) (y8 : Bool) (a5 : A[5]? = some (.slice a5a n5 a5c)) (a6 : A[6]? = some (.bool y6)) (a7 : A[7]? = some (.int .i64 y7)) (a8 : A[8]? = some (.bool y8)) (hm : n5 ≤ 1048576) (w : World) :
    Calls Tryz.prog 75 #[.agg A] w fun e w' => e = .returned (.int .i64 (outF n5 y6 y7 y8)) ∧ Below w.heap.size w w' := by
  by_cases h5 : 300 < n5
  · have hR : outF n5 y6 y7 y8 = 2 := by unfold outF; rw [if_pos h5]
    rw [hR]
    clear hR
    go_enter Tryz.func75, Tryz.ntmps75
    go_wp2_with (go_at_call 37; refine (iInD _ _ _ _).mono ?_; rintro e w' ⟨rfl, hw⟩; subst w')
    go_ret
    exact ⟨rfl, by go_grown⟩
  · cases h7 : inD y7 0 n5 with
    | false =>
      have hR : outF n5 y6 y7 y8 = 3 := by unfold outF; rw [if_neg h5, if_pos h7]
      rw [hR]
      clear hR
      go_enter Tryz.func75, Tryz.ntmps75
      go_wp2_with (go_at_call 37; refine (iInD _ _ _ _).mono ?_; rintro e w' ⟨rfl, hw⟩; subst w')
      go_ret
      exact ⟨rfl, by go_grown⟩
    | true =>
      have hR : outF n5 y6 y7 y8 = if (y8 && (!y6 || !decide (y7 = (n5 : Int)))) = true then 1 else 0 := by unfold outF; rw [if_neg h5, if_neg (by simp [h7])]
      rw [hR]
      clear hR
      cases y8 with
      | false =>
        go_enter Tryz.func75, Tryz.ntmps75
        go_wp2_with (go_at_call 37; refine (iInD _ _ _ _).mono ?_; rintro e w' ⟨rfl, hw⟩; subst w')
        go_ret
        exact ⟨rfl, by go_grown⟩
      | true =>
        cases y6 with
        | false =>
          go_enter Tryz.func75, Tryz.ntmps75
          go_wp2_with (go_at_call 37; refine (iInD _ _ _ _).mono ?_; rintro e w' ⟨rfl, hw⟩; subst w')
          go_ret
          exact ⟨rfl, by go_grown⟩
        | true =>
          by_cases h8 : y7 = (n5 : Int)
          · have h8' : (y7 != (n5 : Int)) = false := by simp [h8]
            rw [decide_eq_true h8]
            clear h8
            go_enter Tryz.func75, Tryz.ntmps75
            go_wp2_with (go_at_call 37; refine (iInD _ _ _ _).mono ?_; rintro e w' ⟨rfl, hw⟩; subst w')
            go_ret
            exact ⟨rfl, by go_grown⟩
          · have h8' : (y7 != (n5 : Int)) = true := by simp [h8]
            rw [decide_eq_false h8]
            clear h8
            go_enter Tryz.func75, Tryz.ntmps75
            go_wp2_with (go_at_call 37; refine (iInD _ _ _ _).mono ?_; rintro e w' ⟨rfl, hw⟩; subst w')
            go_ret
            exact ⟨rfl, by go_grown⟩
theorem iDoneIn (A : Array Value) (n9 : Nat) (a9a : Option Addr) (a9c : Nat) (a9 : A[9]? = some (.slice a9a n9 a9c)) (hm : n9 ≤ 1048576) (w : World) :
    Calls Tryz.prog 99 #[.agg A] w fun e w' => e = .returned (.int .i64 n9) ∧ Below w.heap.size w w' := by
  go_enter Tryz.func99, Tryz.ntmps99
  go_wp2_with fail
  go_ret
  exact ⟨rfl, by go_grown⟩
/-- Where the last byte ends. -/
def reachD (g : Gt) : Int := match g.2.1.getLast? with | none => (g.1.length : Int) | some p => p.1 + (p.2.1.length : Int)
theorem reach_nil {g : Gt} (h : g.2.1 = []) : reachD g = g.1.length := by unfold reachD; rw [h]; rfl
theorem reach_last {g : Gt} {k : Nat} (h : g.2.1.length = k + 1) (hk : k < g.2.1.length) : reachD g = g.2.1[k].1 + (g.2.1[k].2.1.length : Int) := by
  unfold reachD
  rw [List.getLast?_eq_getElem?, show g.2.1.length - 1 = k by omega, List.getElem?_eq_getElem hk]
theorem pcs_rise : ∀ {e : Int} {ps : List Pc}, pcsFault e ps = 0 → ∀ (F : Int), (∀ p, ps.getLast? = some p → p.1 + (p.2.1.length : Int) ≤ F) → (ps ≠ [] → e ≤ F) ∧ ∀ p ∈ ps, p.1 + (p.2.1.length : Int) ≤ F
  | _, [], _, _, _ => ⟨fun h => absurd rfl h, fun _ h => by cases h⟩
  | e, q :: ps, h, F, hl => by
    unfold pcsFault at h
    split at h
    · rename_i h0; exact absurd h h0
    rename_i h0
    have h0' : pcFault q.1 q.2.1.length e = 0 := by simpa using h0
    obtain ⟨g1, g2, g3, g4⟩ := pcFault_ok h0'
    cases ps with
    | nil =>
      have := hl q (by simp)
      refine ⟨fun _ => by omega, fun p hp => ?_⟩
      simp at hp
      subst hp
      exact this
    | cons q2 ps2 =>
      obtain ⟨i1, i2⟩ := pcs_rise (e := q.1 + q.2.1.length) h F (fun p hp => hl p (by rw [List.getLast?_cons_cons]; exact hp))
      have i3 := i1 (by simp)
      refine ⟨fun _ => by omega, fun p hp => ?_⟩
      rcases List.mem_cons.1 hp with rfl | hp
      · exact i3
      · exact i2 p hp
/-- No byte lies behind the end just where the last byte ends at it or ahead. -/
theorem ends_reach {F : Int} {g : Gt} (h : gtFault g = 0) (h1 : inD F (-1) 400 = true) : endsD F g = !(!decide (F = -1) && decide (F < reachD g)) := by
  obtain ⟨l1, -⟩ := inD_yes h1
  unfold gtFault at h
  split at h
  · cases h
  by_cases hm : F = -1
  · unfold endsD; subst hm; simp
  · have hF : ¬ F < 0 := by omega
    rw [decide_eq_false hm]
    unfold endsD
    rw [decide_eq_false hF]
    simp only [Bool.false_or, Bool.not_false, Bool.true_and]
    by_cases hr : F < reachD g
    · rw [decide_eq_true hr]
      apply Bool.eq_false_iff.2
      intro ha
      simp only [Bool.and_eq_true, decide_eq_true_eq, List.all_eq_true] at ha
      unfold reachD at hr
      split at hr
      · omega
      · rename_i p hp
        have := ha.2 p (List.mem_of_getLast? hp)
        omega
    · rw [decide_eq_false hr]
      simp only [Bool.not_false, Bool.and_eq_true, decide_eq_true_eq, List.all_eq_true]
      have hl : ∀ p, g.2.1.getLast? = some p → p.1 + (p.2.1.length : Int) ≤ F := fun p hp => by
        unfold reachD at hr
        rw [hp] at hr
        simp only at hr
        omega
      obtain ⟨i1, i2⟩ := pcs_rise h F hl
      refine ⟨?_, i2⟩
      by_cases hn : g.2.1 = []
      · rw [reach_nil hn] at hr; omega
      · exact i1 hn
set_option maxHeartbeats 1000000 in
theorem iReach (g : Gt) (v1 v2 : Value) (w : World) (B : Nat) (hr : gtS.Rd w B g [v1, v2]) (hB : B ≤ w.heap.size) (hg : gtFault g = 0) :
    Calls Tryz.prog 100 #[.agg #[v1, v2]] w fun e w' => e = .returned (.int .i64 (reachD g)) ∧ Below w.heap.size w w' := by
  obtain ⟨hg1, hg2, hg3⟩ := gt_in hg
  obtain ⟨a1, c1, a2, c2, e0, -, r2⟩ := rd_gt hr
  simp only [List.cons.injEq, and_true] at e0
  obtain ⟨rfl, rfl⟩ := e0
  obtain ⟨dn, ps, ⟨⟩⟩ := g
  replace hg1 : dn.length ≤ 400 := hg1
  replace hg2 : ps.length ≤ 40 := hg2
  simp only at *
  rcases Nat.eq_zero_or_pos ps.length with h0 | h0
  · have e1 : ps = [] := List.length_eq_zero_iff.1 h0
    rw [reach_nil e1]
    rw [h0]
    show Calls _ _ _ _ fun e w' => e = .returned (.int .i64 (dn.length : Int)) ∧ _
    clear hr r2 hg hg3 h0 hg2
    generalize dn.length = n at *
    go_enter Tryz.func100, Tryz.ntmps100
    go_wp2_with fail
    go_ret
    exact ⟨rfl, by go_grown⟩
  · obtain ⟨k, hk⟩ : ∃ k, ps.length = k + 1 := ⟨ps.length - 1, by omega⟩
    have hkl : k < ps.length := by omega
    rw [reach_last (g := (dn, ps, ())) hk hkl]
    show Calls _ _ _ _ fun e w' => e = .returned (.int .i64 (ps[k].1 + (ps[k].2.1.length : Int))) ∧ _
    obtain ⟨_, _, e1, -, -, hp⟩ := rd_pcs r2
    obtain ⟨b, off, ad, c, ha, hb, z0, z1, -, hw⟩ := hp k hkl
    simp only [List.cons.injEq, Value.slice.injEq, and_true] at e1
    rw [← e1.1] at ha
    subst ha
    obtain ⟨q1, q2, q3⟩ := hg3 ps[k] (List.getElem_mem hkl)
    have HB2 : Hid (∀ W, Below w.heap.size w W → W.cell? ⟨b, off + k * 2, none⟩ = some (.int .i64 ps[k].1) ∧ W.cell? ⟨b, off + k * 2 + 1, none⟩ = some (.slice ad ps[k].2.1.length c)) := fun W hW => ⟨(hW.cell (p := ⟨b, off + k * 2, none⟩) (by dsimp only; omega)).trans z0, (hW.cell (p := ⟨b, off + k * 2 + 1, none⟩) (by dsimp only; omega)).trans z1⟩
    have hblt : b < w.heap.size := by omega
    rw [hk]
    clear hr r2 hg hg3 h0 hp e1 hw
    generalize ps[k].1 = at' at *
    generalize ps[k].2.1.length = n at *
    generalize dn.length = n9 at *
    have hs1 : IntKind.i64.wrap (((k + 1 : Nat) : Int) - 1) = (k : Int) := by simp only [IntKind.wrap, IntKind.bits, IntKind.signed]; simp; omega
    have hki : (k : Int) < ((k + 1 : Nat) : Int) := by omega
    have hk0 : (0 : Int) ≤ (k : Int) := by omega
    have hne : (((k + 1 : Nat) : Int) == 0) = false := by simp; omega
    have HC : Hid (∀ W, Calls Tryz.prog 125 #[.agg #[.int .i64 at', .slice ad n c]] W fun e w' => e = .returned (.int .i64 (at' + n)) ∧ Below W.heap.size W w') := fun W => iPieceEnd at' ad n c W (by omega) (by omega) (by omega)
    obtain ⟨m, hm⟩ : ∃ m, k + 1 = m := ⟨_, rfl⟩
    rw [hm] at hs1 hki hne ⊢
    clear hm hk hkl
    go_enter Tryz.func100, Tryz.ntmps100
    go_upto_region 3 with fail
    obtain ⟨y0, y1⟩ := HB2.out (w.alloc (.cells #[.slice a1 n9 c1, .slice (some ⟨b, off, none⟩) m c2] 76)) ((Below.refl _ _).alloc (Nat.le_refl _) _)
    go_wp2_with fail
    refine (HC.out _).mono ?_
    rintro e w1 ⟨rfl, hb1⟩
    go_wp2_with fail
    go_ret
    exact ⟨rfl, (bl_new hb1).1⟩
/-- The fault of what came in. -/
def inF (g : Gt) (y10 y11 : Int) : Int := if gtFault g ≠ 0 then gtFault g else if (inD y10 (-1) 400 && inD y11 0 g.1.length) = false then 3 else if endsD y10 g = false then 1 else 0
set_option maxHeartbeats 2000000 in
theorem iInFault (A : Array Value) (g : Gt) (a9a : Option Addr) (n9 a9c : Nat) (a10a : Option Addr) (np a10c : Nat) (y10 y11 : Int) (a9 : A[9]? = some (.slice a9a n9 a9c)) (a10 : A[10]? = some (.slice a10a np a10c)) (a11 : A[11]? = some (.int .i64 y10)) (a12 : A[12]? = some (.int .i64 y11)) (hz : A.size = 14)
    (w : World) (B : Nat) (hr : gtS.Rd w B g [.slice a9a n9 a9c, .slice a10a np a10c]) (hB : B ≤ w.heap.size) (hn9 : g.1.length = n9) (hm9 : n9 ≤ 1048576) (hmp : np ≤ 1048576) :
    Calls Tryz.prog 76 #[.agg A] w fun e w' => e = .returned (.int .i64 (inF g y10 y11)) ∧ Below w.heap.size w w' := by
  have HG : Hid (∀ W, Below w.heap.size w W → Calls Tryz.prog 98 #[.agg #[.slice a9a n9 a9c, .slice a10a np a10c]] W fun e w' => e = .returned (.int .i64 (gtFault g)) ∧ Below W.heap.size W w') := fun W hW => iGatherFault g _ W (Sh.Rd.mono (Nat.le_trans hB hW.size) _ _ _ (Sh.Rd.below hr hB hW))
  have HRE0 : Hid (gtFault g = 0 → ∀ W, Below w.heap.size w W → Calls Tryz.prog 100 #[.agg #[.slice a9a n9 a9c, .slice a10a np a10c]] W fun e w' => e = .returned (.int .i64 (reachD g)) ∧ Below W.heap.size W w') := fun hg W hW => iReach g _ _ W B (Sh.Rd.below hr hB hW) (Nat.le_trans hB hW.size) hg
  have HEQ : Hid (gtFault g = 0 → inD y10 (-1) 400 = true → endsD y10 g = !(!decide (y10 = -1) && decide (y10 < reachD g))) := fun h1 h2 => ends_reach h1 h2
  have hR : inF g y10 y11 = if gtFault g ≠ 0 then gtFault g else if (inD y10 (-1) 400 && inD y11 0 n9) = false then 3 else if endsD y10 g = false then 1 else 0 := by unfold inF; rw [hn9]
  rw [hR]
  have HI : (Tryz.prog.info? 79).map (·.size) = some A.toList.length := by rw [Array.length_toList, hz]; exact (by kernel_rfl : (Tryz.prog.info? 79).map (·.size) = some 14)
  clear hr hR hn9 hz
  generalize gtFault g = G at *
  generalize endsD y10 g = E at *
  generalize reachD g = RD at *
  by_cases hG : G = 0
  case neg =>
    rw [if_pos hG]
    have hG' : (G != 0) = true := by simp [hG]
    clear hG HRE0 HEQ
    go_enter Tryz.func76, Tryz.ntmps76
    go_wp2_with fail
    refine (HG.out _ (by go_grown)).mono ?_
    rintro e w1 ⟨rfl, hb⟩
    go_wp2_with fail
    go_ret
    exact ⟨rfl, (bl_new hb).1⟩
  subst hG
  rw [if_neg (by simp)]
  have HRE : Hid _ := HRE0.out rfl
  have HEQ2 : Hid _ := HEQ.out rfl
  clear HRE0 HEQ
  obtain ⟨R, hR⟩ : ∃ R, R = if (inD y10 (-1) 400 && inD y11 0 n9) = false then (3 : Int) else if E = false then 1 else 0 := ⟨_, rfl⟩
  rw [← hR]
  have HR : Hid _ := hR
  clear hR
  go_enter Tryz.func76, Tryz.ntmps76
  go_wp2_with fail
  refine (HG.out _ (by go_grown)).mono ?_
  rintro e w1 ⟨rfl, hb⟩
  have k1 := bx_new hb
  obtain ⟨hb, z1⟩ := bl_new hb
  have HB : Hid (Below w.heap.size w w1) := hb
  clear hb HG
  go_upto_region 4 with fail
  go_cut [21] (fun u wx => u = .bool (!(inD y10 (-1) 400 && inD y11 0 n9)) ∧ Hid (Below w1.heap.size w1 wx))
  case first =>
    cases ha : inD y10 (-1) 400 with
    | false =>
      refine wp_region_noPanic ?_
      refine Goes.start (S := fun w' => Below w1.heap.size w1 w') (z := 100) (by kernel_rfl) ?_
      refine Goes.take (i := 0) (oi := ?oi2) (x := ?vx2) ?ho2 (by kernel_rfl) (by kernel_rfl) (by kernel_rfl) (by kernel_rfl) (fun _ _ _ h => h) (Or.inl ⟨?hw2, ?hy2⟩) (Below.drew (Below.refl _ _)) ?rest2
      case ho2 => (simp only [List.getElem?_toArray, List.getElem?_cons_zero]; rfl)
      case hw2 => rfl
      case hy2 => (intro w' hSw; have q := fun o => (hSw.cell (p := ⟨w.heap.size, o, none⟩) z1).trans (k1 o); go_simp; (try with_reducible rfl))
      case rest2 =>
      (try simp only [Act.put, List.setIfInBounds_toArray, List.set_cons_zero, List.set_cons_succ])
      refine Goes.take (i := 1) (oi := ?oi3) (x := ?vx3) ?ho3 (by kernel_rfl) (by kernel_rfl) (by kernel_rfl) (by kernel_rfl) (fun _ _ _ h => h) (Or.inl ⟨?hw3, ?hy3⟩) (Below.drew (Below.refl _ _)) ?rest3
      case ho3 => (simp only [List.getElem?_toArray, List.getElem?_cons_succ, List.getElem?_cons_zero]; rfl)
      case hw3 => rfl
      case hy3 => (intro w' hSw; have q := fun o => (hSw.cell (p := ⟨w.heap.size, o, none⟩) z1).trans (k1 o); go_simp; (try with_reducible rfl))
      case rest3 =>
      (try simp only [Act.put, List.setIfInBounds_toArray, List.set_cons_zero, List.set_cons_succ])
      refine Goes.call (i := 2) (oi := ?oi4) (x := .bool (inD y10 (-1) 400)) ?ho4 (by kernel_rfl) (by kernel_rfl) (by kernel_rfl) (by kernel_rfl) (fun _ _ _ h => h) ?hq4 (Below.drew (Below.refl _ _)) ?rest4
      case ho4 => (simp only [List.getElem?_toArray, List.getElem?_cons_succ, List.getElem?_cons_zero]; rfl)
      case hq4 => exact ⟨rfl, fun w' hSw => ⟨37, #[.int .i64 y10, .int .i64 (-1), .int .i64 400], (by go_simp), iInD y10 (-1) 400 w'⟩⟩
      case rest4 =>
      (try simp only [Act.put, List.setIfInBounds_toArray, List.set_cons_zero, List.set_cons_succ])
      rw [ha]
      refine Goes.take (i := 3) (oi := ?oi5) (x := ?vx5) ?ho5 (by kernel_rfl) (by kernel_rfl) (by kernel_rfl) (by kernel_rfl) (fun _ _ _ h => h) (Or.inl ⟨?hw5, ?hy5⟩) (Below.drew (Below.refl _ _)) ?rest5
      case ho5 => (simp only [List.getElem?_toArray, List.getElem?_cons_succ, List.getElem?_cons_zero]; rfl)
      case hw5 => rfl
      case hy5 => (intro w' hSw; have q := fun o => (hSw.cell (p := ⟨w.heap.size, o, none⟩) z1).trans (k1 o); go_simp; (try with_reducible rfl))
      case rest5 =>
      (try simp only [Act.put, List.setIfInBounds_toArray, List.set_cons_zero, List.set_cons_succ])
      refine Goes.take (i := 4) (oi := ?oi6) (x := ?vx6) ?ho6 (by kernel_rfl) (by kernel_rfl) (by kernel_rfl) (by kernel_rfl) (fun _ _ _ h => h) (Or.inl ⟨?hw6, ?hy6⟩) (Below.drew (Below.refl _ _)) ?rest6
      case ho6 => (simp only [List.getElem?_toArray, List.getElem?_cons_succ, List.getElem?_cons_zero]; rfl)
      case hw6 => rfl
      case hy6 => (intro w' hSw; have q := fun o => (hSw.cell (p := ⟨w.heap.size, o, none⟩) z1).trans (k1 o); go_simp; (try with_reducible rfl))
      case rest6 =>
      (try simp only [Act.put, List.setIfInBounds_toArray, List.set_cons_zero, List.set_cons_succ])
      refine Goes.take (i := 5) (oi := ?oi7) (x := undef) ?ho7 (by kernel_rfl) (by kernel_rfl) (by kernel_rfl) (by kernel_rfl) (fun _ _ _ h => h) (Or.inr ⟨?hw7, rfl⟩) (Below.drew (Below.refl _ _)) ?rest7
      case ho7 => (simp only [List.getElem?_toArray, List.getElem?_cons_succ, List.getElem?_cons_zero]; rfl)
      case hw7 => rfl
      case rest7 =>
      (try simp only [Act.put, List.setIfInBounds_toArray, List.set_cons_zero, List.set_cons_succ])
      refine Goes.take (i := 6) (oi := ?oi8) (x := undef) ?ho8 (by kernel_rfl) (by kernel_rfl) (by kernel_rfl) (by kernel_rfl) (fun _ _ _ h => h) (Or.inr ⟨?hw8, rfl⟩) (Below.drew (Below.refl _ _)) ?rest8
      case ho8 => (simp only [List.getElem?_toArray, List.getElem?_cons_succ, List.getElem?_cons_zero]; rfl)
      case hw8 => rfl
      case rest8 =>
      (try simp only [Act.put, List.setIfInBounds_toArray, List.set_cons_zero, List.set_cons_succ])
      refine Goes.take (i := 7) (oi := ?oi9) (x := undef) ?ho9 (by kernel_rfl) (by kernel_rfl) (by kernel_rfl) (by kernel_rfl) (fun _ _ _ h => h) (Or.inr ⟨?hw9, rfl⟩) (Below.drew (Below.refl _ _)) ?rest9
      case ho9 => (simp only [List.getElem?_toArray, List.getElem?_cons_succ, List.getElem?_cons_zero]; rfl)
      case hw9 => rfl
      case rest9 =>
      (try simp only [Act.put, List.setIfInBounds_toArray, List.set_cons_zero, List.set_cons_succ])
      refine Goes.take (i := 8) (oi := ?oi10) (x := undef) ?ho10 (by kernel_rfl) (by kernel_rfl) (by kernel_rfl) (by kernel_rfl) (fun _ _ _ h => h) (Or.inr ⟨?hw10, rfl⟩) (Below.drew (Below.refl _ _)) ?rest10
      case ho10 => (simp only [List.getElem?_toArray, List.getElem?_cons_succ, List.getElem?_cons_zero]; rfl)
      case hw10 => rfl
      case rest10 =>
      (try simp only [Act.put, List.setIfInBounds_toArray, List.set_cons_zero, List.set_cons_succ])
      refine Goes.take (i := 9) (oi := ?oi11) (x := undef) ?ho11 (by kernel_rfl) (by kernel_rfl) (by kernel_rfl) (by kernel_rfl) (fun _ _ _ h => h) (Or.inr ⟨?hw11, rfl⟩) (Below.drew (Below.refl _ _)) ?rest11
      case ho11 => (simp only [List.getElem?_toArray, List.getElem?_cons_succ, List.getElem?_cons_zero]; rfl)
      case hw11 => rfl
      case rest11 =>
      (try simp only [Act.put, List.setIfInBounds_toArray, List.set_cons_zero, List.set_cons_succ])
      refine Goes.take (i := 10) (oi := ?oi12) (x := undef) ?ho12 (by kernel_rfl) (by kernel_rfl) (by kernel_rfl) (by kernel_rfl) (fun _ _ _ h => h) (Or.inr ⟨?hw12, rfl⟩) (Below.drew (Below.refl _ _)) ?rest12
      case ho12 => (simp only [List.getElem?_toArray, List.getElem?_cons_succ, List.getElem?_cons_zero]; rfl)
      case hw12 => rfl
      case rest12 =>
      (try simp only [Act.put, List.setIfInBounds_toArray, List.set_cons_zero, List.set_cons_succ])
      refine Goes.take (i := 11) (oi := ?oi13) (x := ?vx13) ?ho13 (by kernel_rfl) (by kernel_rfl) (by kernel_rfl) (by kernel_rfl) (fun _ _ _ h => h) (Or.inl ⟨?hw13, ?hy13⟩) (Below.drew (Below.refl _ _)) ?rest13
      case ho13 => (simp only [List.getElem?_toArray, List.getElem?_cons_succ, List.getElem?_cons_zero]; rfl)
      case hw13 => rfl
      case hy13 => (intro w' hSw; have q := fun o => (hSw.cell (p := ⟨w.heap.size, o, none⟩) z1).trans (k1 o); go_simp; (try with_reducible rfl))
      case rest13 =>
      (try simp only [Act.put, List.setIfInBounds_toArray, List.set_cons_zero, List.set_cons_succ])
      refine Goes.done (by kernel_rfl) ?_ _
      refine NoPanic.normal ?_
      go_wp2_with fail
      go_meet
      exact ⟨by simp [ha], Below.drew (Below.refl _ _)⟩
    | true =>
      refine wp_region_noPanic ?_
      refine Goes.start (S := fun w' => Below w1.heap.size w1 w') (z := 100) (by kernel_rfl) ?_
      refine Goes.take (i := 0) (oi := ?oi102) (x := ?vx102) ?ho102 (by kernel_rfl) (by kernel_rfl) (by kernel_rfl) (by kernel_rfl) (fun _ _ _ h => h) (Or.inl ⟨?hw102, ?hy102⟩) (Below.drew (Below.refl _ _)) ?rest102
      case ho102 => (simp only [List.getElem?_toArray, List.getElem?_cons_zero]; rfl)
      case hw102 => rfl
      case hy102 => (intro w' hSw; have q := fun o => (hSw.cell (p := ⟨w.heap.size, o, none⟩) z1).trans (k1 o); go_simp; (try with_reducible rfl))
      case rest102 =>
      (try simp only [Act.put, List.setIfInBounds_toArray, List.set_cons_zero, List.set_cons_succ])
      refine Goes.take (i := 1) (oi := ?oi103) (x := ?vx103) ?ho103 (by kernel_rfl) (by kernel_rfl) (by kernel_rfl) (by kernel_rfl) (fun _ _ _ h => h) (Or.inl ⟨?hw103, ?hy103⟩) (Below.drew (Below.refl _ _)) ?rest103
      case ho103 => (simp only [List.getElem?_toArray, List.getElem?_cons_succ, List.getElem?_cons_zero]; rfl)
      case hw103 => rfl
      case hy103 => (intro w' hSw; have q := fun o => (hSw.cell (p := ⟨w.heap.size, o, none⟩) z1).trans (k1 o); go_simp; (try with_reducible rfl))
      case rest103 =>
      (try simp only [Act.put, List.setIfInBounds_toArray, List.set_cons_zero, List.set_cons_succ])
      refine Goes.call (i := 2) (oi := ?oi104) (x := .bool (inD y10 (-1) 400)) ?ho104 (by kernel_rfl) (by kernel_rfl) (by kernel_rfl) (by kernel_rfl) (fun _ _ _ h => h) ?hq104 (Below.drew (Below.refl _ _)) ?rest104
      case ho104 => (simp only [List.getElem?_toArray, List.getElem?_cons_succ, List.getElem?_cons_zero]; rfl)
      case hq104 => exact ⟨rfl, fun w' hSw => ⟨37, #[.int .i64 y10, .int .i64 (-1), .int .i64 400], (by go_simp), iInD y10 (-1) 400 w'⟩⟩
      case rest104 =>
      (try simp only [Act.put, List.setIfInBounds_toArray, List.set_cons_zero, List.set_cons_succ])
      rw [ha]
      refine Goes.take (i := 3) (oi := ?oi105) (x := ?vx105) ?ho105 (by kernel_rfl) (by kernel_rfl) (by kernel_rfl) (by kernel_rfl) (fun _ _ _ h => h) (Or.inl ⟨?hw105, ?hy105⟩) (Below.drew (Below.refl _ _)) ?rest105
      case ho105 => (simp only [List.getElem?_toArray, List.getElem?_cons_succ, List.getElem?_cons_zero]; rfl)
      case hw105 => rfl
      case hy105 => (intro w' hSw; have q := fun o => (hSw.cell (p := ⟨w.heap.size, o, none⟩) z1).trans (k1 o); go_simp; (try with_reducible rfl))
      case rest105 =>
      (try simp only [Act.put, List.setIfInBounds_toArray, List.set_cons_zero, List.set_cons_succ])
      refine Goes.take (i := 4) (oi := ?oi106) (x := ?vx106) ?ho106 (by kernel_rfl) (by kernel_rfl) (by kernel_rfl) (by kernel_rfl) (fun _ _ _ h => h) (Or.inl ⟨?hw106, ?hy106⟩) (Below.drew (Below.refl _ _)) ?rest106
      case ho106 => (simp only [List.getElem?_toArray, List.getElem?_cons_succ, List.getElem?_cons_zero]; rfl)
      case hw106 => rfl
      case hy106 => (intro w' hSw; have q := fun o => (hSw.cell (p := ⟨w.heap.size, o, none⟩) z1).trans (k1 o); go_simp; (try with_reducible rfl))
      case rest106 =>
      (try simp only [Act.put, List.setIfInBounds_toArray, List.set_cons_zero, List.set_cons_succ])
      refine Goes.take (i := 5) (oi := ?oi107) (x := ?vx107) ?ho107 (by kernel_rfl) (by kernel_rfl) (by kernel_rfl) (by kernel_rfl) (fun _ _ _ h => h) (Or.inl ⟨?hw107, ?hy107⟩) (Below.drew (Below.refl _ _)) ?rest107
      case ho107 => (simp only [List.getElem?_toArray, List.getElem?_cons_succ, List.getElem?_cons_zero]; rfl)
      case hw107 => rfl
      case hy107 => (intro w' hSw; have q := fun o => (hSw.cell (p := ⟨w.heap.size, o, none⟩) z1).trans (k1 o); go_simp; (try with_reducible rfl))
      case rest107 =>
      (try simp only [Act.put, List.setIfInBounds_toArray, List.set_cons_zero, List.set_cons_succ])
      refine Goes.take (i := 6) (oi := ?oi108) (x := ?vx108) ?ho108 (by kernel_rfl) (by kernel_rfl) (by kernel_rfl) (by kernel_rfl) (fun _ _ _ h => h) (Or.inl ⟨?hw108, ?hy108⟩) (Below.drew (Below.refl _ _)) ?rest108
      case ho108 => (simp only [List.getElem?_toArray, List.getElem?_cons_succ, List.getElem?_cons_zero]; rfl)
      case hw108 => rfl
      case hy108 => (intro w' hSw; have q := fun o => (hSw.cell (p := ⟨w.heap.size, o, none⟩) z1).trans (k1 o); go_simp; (try with_reducible rfl))
      case rest108 =>
      (try simp only [Act.put, List.setIfInBounds_toArray, List.set_cons_zero, List.set_cons_succ])
      refine Goes.take (i := 7) (oi := ?oi109) (x := .agg (A.toList).toArray) ?ho109 (by kernel_rfl) (by kernel_rfl) (by kernel_rfl) (by kernel_rfl) (fun _ _ _ h => h) ?hy109 (Below.drew (Below.refl _ _)) ?rest109
      case ho109 => (simp only [List.getElem?_toArray, List.getElem?_cons_succ, List.getElem?_cons_zero]; rfl)
      case hy109 => exact yieldsIf_load_mid (by rfl) 79 _ rfl (w.heap.size) (0) (by rfl) (A.toList) _ (fun w' hSw => bx_range (fun o => (hSw.cell (p := ⟨w.heap.size, o, none⟩) z1).trans (k1 o))) Tryz.underlying79 rfl HI
      case rest109 =>
      (try simp only [Act.put, List.setIfInBounds_toArray, List.set_cons_zero, List.set_cons_succ])
      refine Goes.all (rs := [8]) (by kernel_rfl) (by simp) ?_
      refine Ups.cons (i := 8) (o := ?oo110) ?ho110 (fun KK hKK => ?stp110) Ups.nil
      case ho110 => (simp only [List.getElem?_toArray, List.getElem?_cons_succ, List.getElem?_cons_zero]; rfl)
      case stp110 =>
      go_simp
      go_at_call 99
      refine (iDoneIn A n9 a9a a9c a9 hm9 _).mono ?_
      rintro e w2 ⟨rfl, hbq⟩
      replace hbq := (Below.drew (Below.refl w1.heap.size w1)).trans hbq
      have HS110 : Hid (Below w1.heap.size w1 w2) := hbq
      clear hbq
      dsimp only
      refine hKK.out _ _ (Or.inr HS110.out) ?_
      clear hKK KK
      (try simp only [Act.put, List.setIfInBounds_toArray, List.set_cons_zero, List.set_cons_succ])
      refine Goes.call (i := 9) (oi := ?oi111) (x := .bool (inD y11 0 n9)) ?ho111 (by kernel_rfl) (by kernel_rfl) (by kernel_rfl) (by kernel_rfl) (fun _ _ _ h => h) ?hq111 HS110.out ?rest111
      case ho111 => (simp only [List.getElem?_toArray, List.getElem?_cons_succ, List.getElem?_cons_zero]; rfl)
      case hq111 => exact ⟨rfl, fun w' hSw => ⟨37, #[.int .i64 y11, .int .i64 0, .int .i64 n9], (by go_simp), iInD y11 0 n9 w'⟩⟩
      case rest111 =>
      (try simp only [Act.put, List.setIfInBounds_toArray, List.set_cons_zero, List.set_cons_succ])
      refine Goes.take (i := 10) (oi := ?oi112) (x := ?vx112) ?ho112 (by kernel_rfl) (by kernel_rfl) (by kernel_rfl) (by kernel_rfl) (fun _ _ _ h => h) (Or.inl ⟨?hw112, ?hy112⟩) HS110.out ?rest112
      case ho112 => (simp only [List.getElem?_toArray, List.getElem?_cons_succ, List.getElem?_cons_zero]; rfl)
      case hw112 => rfl
      case hy112 => (intro w' hSw; have q := fun o => (hSw.cell (p := ⟨w.heap.size, o, none⟩) z1).trans (k1 o); go_simp; (try with_reducible rfl))
      case rest112 =>
      (try simp only [Act.put, List.setIfInBounds_toArray, List.set_cons_zero, List.set_cons_succ])
      refine Goes.take (i := 11) (oi := ?oi113) (x := ?vx113) ?ho113 (by kernel_rfl) (by kernel_rfl) (by kernel_rfl) (by kernel_rfl) (fun _ _ _ h => h) (Or.inl ⟨?hw113, ?hy113⟩) HS110.out ?rest113
      case ho113 => (simp only [List.getElem?_toArray, List.getElem?_cons_succ, List.getElem?_cons_zero]; rfl)
      case hw113 => rfl
      case hy113 => (intro w' hSw; have q := fun o => (hSw.cell (p := ⟨w.heap.size, o, none⟩) z1).trans (k1 o); go_simp; (try with_reducible rfl))
      case rest113 =>
      (try simp only [Act.put, List.setIfInBounds_toArray, List.set_cons_zero, List.set_cons_succ])
      refine Goes.done (by kernel_rfl) ?_ _
      refine NoPanic.normal ?_
      go_wp2_with fail
      go_meet
      exact ⟨by simp [ha], by assumption⟩
  case rest =>
  rename World => w2
  obtain ⟨rfl, hb⟩ := hcut
  have k2 := bx_below k1 z1 hb.out
  have z2 := Nat.lt_of_lt_of_le z1 hb.out.size
  replace HB : Hid (Below w.heap.size w w2) := HB.out.trans (hb.out.mono HB.out.size)
  clear hb k1 z1
  cases hI : (inD y10 (-1) 400 && inD y11 0 n9) with
  | false =>
    have hR : R = 3 := by rw [HR.out, if_pos hI]
    subst hR
    go_wp2_with fail
    go_ret
    exact ⟨rfl, HB.out⟩
  | true =>
  have hI1 : inD y10 (-1) 400 = true := by simp only [Bool.and_eq_true] at hI; exact hI.1
  have hR2 := HR.out
  rw [if_neg (by simp [hI]), HEQ2.out hI1] at hR2
  replace HR : Hid _ := hR2
  replace HRE : Hid (∀ W, Below w2.heap.size w2 W → Calls Tryz.prog 100 #[.agg #[.slice a9a n9 a9c, .slice a10a np a10c]] W fun e w' => e = .returned (.int .i64 RD) ∧ Below W.heap.size W w') := fun W hW => HRE.out W (HB.out.trans (hW.mono HB.out.size))
  clear hR2 hI1 HEQ2
  go_upto_region 6 with fail
  go_cut [32] (fun u wx => u = .bool (!decide (y10 = -1) && decide (y10 < RD)) ∧ Hid (Below w2.heap.size w2 wx))
  case first =>
    by_cases hm : y10 = -1
    · have hm' : (y10 != -1) = false := by simp [hm]
      have HM : Hid (y10 = -1) := hm
      clear hm
      refine wp_region_noPanic ?_
      refine Goes.start (S := fun w' => Below w2.heap.size w2 w') (z := 100) (by kernel_rfl) ?_
      refine Goes.take (i := 0) (oi := ?oi202) (x := ?vx202) ?ho202 (by kernel_rfl) (by kernel_rfl) (by kernel_rfl) (by kernel_rfl) (fun _ _ _ h => h) (Or.inl ⟨?hw202, ?hy202⟩) (Below.drew (Below.refl _ _)) ?rest202
      case ho202 => (simp only [List.getElem?_toArray, List.getElem?_cons_zero]; rfl)
      case hw202 => rfl
      case hy202 => (intro w' hSw; have q := fun o => (hSw.cell (p := ⟨w.heap.size, o, none⟩) z2).trans (k2 o); go_simp; (try with_reducible rfl))
      case rest202 =>
      (try simp only [Act.put, List.setIfInBounds_toArray, List.set_cons_zero, List.set_cons_succ])
      refine Goes.take (i := 1) (oi := ?oi203) (x := ?vx203) ?ho203 (by kernel_rfl) (by kernel_rfl) (by kernel_rfl) (by kernel_rfl) (fun _ _ _ h => h) (Or.inl ⟨?hw203, ?hy203⟩) (Below.drew (Below.refl _ _)) ?rest203
      case ho203 => (simp only [List.getElem?_toArray, List.getElem?_cons_succ, List.getElem?_cons_zero]; rfl)
      case hw203 => rfl
      case hy203 => (intro w' hSw; have q := fun o => (hSw.cell (p := ⟨w.heap.size, o, none⟩) z2).trans (k2 o); go_simp; (try with_reducible rfl))
      case rest203 =>
      (try simp only [Act.put, List.setIfInBounds_toArray, List.set_cons_zero, List.set_cons_succ])
      refine Goes.take (i := 2) (oi := ?oi204) (x := ?vx204) ?ho204 (by kernel_rfl) (by kernel_rfl) (by kernel_rfl) (by kernel_rfl) (fun _ _ _ h => h) (Or.inl ⟨?hw204, ?hy204⟩) (Below.drew (Below.refl _ _)) ?rest204
      case ho204 => (simp only [List.getElem?_toArray, List.getElem?_cons_succ, List.getElem?_cons_zero]; rfl)
      case hw204 => rfl
      case hy204 => (intro w' hSw; have q := fun o => (hSw.cell (p := ⟨w.heap.size, o, none⟩) z2).trans (k2 o); go_simp; (try with_reducible rfl))
      case rest204 =>
      (try simp only [Act.put, List.setIfInBounds_toArray, List.set_cons_zero, List.set_cons_succ])
      refine Goes.take (i := 3) (oi := ?oi205) (x := ?vx205) ?ho205 (by kernel_rfl) (by kernel_rfl) (by kernel_rfl) (by kernel_rfl) (fun _ _ _ h => h) (Or.inl ⟨?hw205, ?hy205⟩) (Below.drew (Below.refl _ _)) ?rest205
      case ho205 => (simp only [List.getElem?_toArray, List.getElem?_cons_succ, List.getElem?_cons_zero]; rfl)
      case hw205 => rfl
      case hy205 => (intro w' hSw; have q := fun o => (hSw.cell (p := ⟨w.heap.size, o, none⟩) z2).trans (k2 o); go_simp; (try with_reducible rfl))
      case rest205 =>
      (try simp only [Act.put, List.setIfInBounds_toArray, List.set_cons_zero, List.set_cons_succ])
      refine Goes.take (i := 4) (oi := ?oi206) (x := undef) ?ho206 (by kernel_rfl) (by kernel_rfl) (by kernel_rfl) (by kernel_rfl) (fun _ _ _ h => h) (Or.inr ⟨?hw206, rfl⟩) (Below.drew (Below.refl _ _)) ?rest206
      case ho206 => (simp only [List.getElem?_toArray, List.getElem?_cons_succ, List.getElem?_cons_zero]; rfl)
      case hw206 => rfl
      case rest206 =>
      (try simp only [Act.put, List.setIfInBounds_toArray, List.set_cons_zero, List.set_cons_succ])
      refine Goes.take (i := 5) (oi := ?oi207) (x := undef) ?ho207 (by kernel_rfl) (by kernel_rfl) (by kernel_rfl) (by kernel_rfl) (fun _ _ _ h => h) (Or.inr ⟨?hw207, rfl⟩) (Below.drew (Below.refl _ _)) ?rest207
      case ho207 => (simp only [List.getElem?_toArray, List.getElem?_cons_succ, List.getElem?_cons_zero]; rfl)
      case hw207 => rfl
      case rest207 =>
      (try simp only [Act.put, List.setIfInBounds_toArray, List.set_cons_zero, List.set_cons_succ])
      refine Goes.take (i := 6) (oi := ?oi208) (x := undef) ?ho208 (by kernel_rfl) (by kernel_rfl) (by kernel_rfl) (by kernel_rfl) (fun _ _ _ h => h) (Or.inr ⟨?hw208, rfl⟩) (Below.drew (Below.refl _ _)) ?rest208
      case ho208 => (simp only [List.getElem?_toArray, List.getElem?_cons_succ, List.getElem?_cons_zero]; rfl)
      case hw208 => rfl
      case rest208 =>
      (try simp only [Act.put, List.setIfInBounds_toArray, List.set_cons_zero, List.set_cons_succ])
      refine Goes.take (i := 7) (oi := ?oi209) (x := undef) ?ho209 (by kernel_rfl) (by kernel_rfl) (by kernel_rfl) (by kernel_rfl) (fun _ _ _ h => h) (Or.inr ⟨?hw209, rfl⟩) (Below.drew (Below.refl _ _)) ?rest209
      case ho209 => (simp only [List.getElem?_toArray, List.getElem?_cons_succ, List.getElem?_cons_zero]; rfl)
      case hw209 => rfl
      case rest209 =>
      (try simp only [Act.put, List.setIfInBounds_toArray, List.set_cons_zero, List.set_cons_succ])
      refine Goes.take (i := 8) (oi := ?oi210) (x := undef) ?ho210 (by kernel_rfl) (by kernel_rfl) (by kernel_rfl) (by kernel_rfl) (fun _ _ _ h => h) (Or.inr ⟨?hw210, rfl⟩) (Below.drew (Below.refl _ _)) ?rest210
      case ho210 => (simp only [List.getElem?_toArray, List.getElem?_cons_succ, List.getElem?_cons_zero]; rfl)
      case hw210 => rfl
      case rest210 =>
      (try simp only [Act.put, List.setIfInBounds_toArray, List.set_cons_zero, List.set_cons_succ])
      refine Goes.take (i := 9) (oi := ?oi211) (x := undef) ?ho211 (by kernel_rfl) (by kernel_rfl) (by kernel_rfl) (by kernel_rfl) (fun _ _ _ h => h) (Or.inr ⟨?hw211, rfl⟩) (Below.drew (Below.refl _ _)) ?rest211
      case ho211 => (simp only [List.getElem?_toArray, List.getElem?_cons_succ, List.getElem?_cons_zero]; rfl)
      case hw211 => rfl
      case rest211 =>
      (try simp only [Act.put, List.setIfInBounds_toArray, List.set_cons_zero, List.set_cons_succ])
      refine Goes.take (i := 10) (oi := ?oi212) (x := ?vx212) ?ho212 (by kernel_rfl) (by kernel_rfl) (by kernel_rfl) (by kernel_rfl) (fun _ _ _ h => h) (Or.inl ⟨?hw212, ?hy212⟩) (Below.drew (Below.refl _ _)) ?rest212
      case ho212 => (simp only [List.getElem?_toArray, List.getElem?_cons_succ, List.getElem?_cons_zero]; rfl)
      case hw212 => rfl
      case hy212 => (intro w' hSw; have q := fun o => (hSw.cell (p := ⟨w.heap.size, o, none⟩) z2).trans (k2 o); go_simp; (try with_reducible rfl))
      case rest212 =>
      (try simp only [Act.put, List.setIfInBounds_toArray, List.set_cons_zero, List.set_cons_succ])
      refine Goes.done (by kernel_rfl) ?_ _
      refine NoPanic.normal ?_
      go_wp2_with fail
      go_meet
      exact ⟨by simp [HM.out], Below.drew (Below.refl _ _)⟩
    · have hm' : (y10 != -1) = true := by simp [hm]
      have HM : Hid (¬ y10 = -1) := hm
      clear hm
      refine wp_region_noPanic ?_
      refine Goes.start (S := fun w' => Below w2.heap.size w2 w') (z := 100) (by kernel_rfl) ?_
      refine Goes.take (i := 0) (oi := ?oi302) (x := ?vx302) ?ho302 (by kernel_rfl) (by kernel_rfl) (by kernel_rfl) (by kernel_rfl) (fun _ _ _ h => h) (Or.inl ⟨?hw302, ?hy302⟩) (Below.drew (Below.refl _ _)) ?rest302
      case ho302 => (simp only [List.getElem?_toArray, List.getElem?_cons_zero]; rfl)
      case hw302 => rfl
      case hy302 => (intro w' hSw; have q := fun o => (hSw.cell (p := ⟨w.heap.size, o, none⟩) z2).trans (k2 o); go_simp; (try with_reducible rfl))
      case rest302 =>
      (try simp only [Act.put, List.setIfInBounds_toArray, List.set_cons_zero, List.set_cons_succ])
      refine Goes.take (i := 1) (oi := ?oi303) (x := ?vx303) ?ho303 (by kernel_rfl) (by kernel_rfl) (by kernel_rfl) (by kernel_rfl) (fun _ _ _ h => h) (Or.inl ⟨?hw303, ?hy303⟩) (Below.drew (Below.refl _ _)) ?rest303
      case ho303 => (simp only [List.getElem?_toArray, List.getElem?_cons_succ, List.getElem?_cons_zero]; rfl)
      case hw303 => rfl
      case hy303 => (intro w' hSw; have q := fun o => (hSw.cell (p := ⟨w.heap.size, o, none⟩) z2).trans (k2 o); go_simp; (try with_reducible rfl))
      case rest303 =>
      (try simp only [Act.put, List.setIfInBounds_toArray, List.set_cons_zero, List.set_cons_succ])
      refine Goes.take (i := 2) (oi := ?oi304) (x := ?vx304) ?ho304 (by kernel_rfl) (by kernel_rfl) (by kernel_rfl) (by kernel_rfl) (fun _ _ _ h => h) (Or.inl ⟨?hw304, ?hy304⟩) (Below.drew (Below.refl _ _)) ?rest304
      case ho304 => (simp only [List.getElem?_toArray, List.getElem?_cons_succ, List.getElem?_cons_zero]; rfl)
      case hw304 => rfl
      case hy304 => (intro w' hSw; have q := fun o => (hSw.cell (p := ⟨w.heap.size, o, none⟩) z2).trans (k2 o); go_simp; (try with_reducible rfl))
      case rest304 =>
      (try simp only [Act.put, List.setIfInBounds_toArray, List.set_cons_zero, List.set_cons_succ])
      refine Goes.take (i := 3) (oi := ?oi305) (x := ?vx305) ?ho305 (by kernel_rfl) (by kernel_rfl) (by kernel_rfl) (by kernel_rfl) (fun _ _ _ h => h) (Or.inl ⟨?hw305, ?hy305⟩) (Below.drew (Below.refl _ _)) ?rest305
      case ho305 => (simp only [List.getElem?_toArray, List.getElem?_cons_succ, List.getElem?_cons_zero]; rfl)
      case hw305 => rfl
      case hy305 => (intro w' hSw; have q := fun o => (hSw.cell (p := ⟨w.heap.size, o, none⟩) z2).trans (k2 o); go_simp; (try with_reducible rfl))
      case rest305 =>
      (try simp only [Act.put, List.setIfInBounds_toArray, List.set_cons_zero, List.set_cons_succ])
      refine Goes.take (i := 4) (oi := ?oi306) (x := ?vx306) ?ho306 (by kernel_rfl) (by kernel_rfl) (by kernel_rfl) (by kernel_rfl) (fun _ _ _ h => h) (Or.inl ⟨?hw306, ?hy306⟩) (Below.drew (Below.refl _ _)) ?rest306
      case ho306 => (simp only [List.getElem?_toArray, List.getElem?_cons_succ, List.getElem?_cons_zero]; rfl)
      case hw306 => rfl
      case hy306 => (intro w' hSw; have q := fun o => (hSw.cell (p := ⟨w.heap.size, o, none⟩) z2).trans (k2 o); go_simp; (try with_reducible rfl))
      case rest306 =>
      (try simp only [Act.put, List.setIfInBounds_toArray, List.set_cons_zero, List.set_cons_succ])
      refine Goes.take (i := 5) (oi := ?oi307) (x := ?vx307) ?ho307 (by kernel_rfl) (by kernel_rfl) (by kernel_rfl) (by kernel_rfl) (fun _ _ _ h => h) (Or.inl ⟨?hw307, ?hy307⟩) (Below.drew (Below.refl _ _)) ?rest307
      case ho307 => (simp only [List.getElem?_toArray, List.getElem?_cons_succ, List.getElem?_cons_zero]; rfl)
      case hw307 => rfl
      case hy307 => (intro w' hSw; have q := fun o => (hSw.cell (p := ⟨w.heap.size, o, none⟩) z2).trans (k2 o); go_simp; (try with_reducible rfl))
      case rest307 =>
      (try simp only [Act.put, List.setIfInBounds_toArray, List.set_cons_zero, List.set_cons_succ])
      refine Goes.take (i := 7) (oi := ?oi308) (x := ?vx308) ?ho308 (by kernel_rfl) (by kernel_rfl) (by kernel_rfl) (by kernel_rfl) (fun _ _ _ h => h) (Or.inl ⟨?hw308, ?hy308⟩) (Below.drew (Below.refl _ _)) ?rest308
      case ho308 => (simp only [List.getElem?_toArray, List.getElem?_cons_succ, List.getElem?_cons_zero]; rfl)
      case hw308 => rfl
      case hy308 => (intro w' hSw; have q := fun o => (hSw.cell (p := ⟨w.heap.size, o, none⟩) z2).trans (k2 o); go_simp; (try with_reducible rfl))
      case rest308 =>
      (try simp only [Act.put, List.setIfInBounds_toArray, List.set_cons_zero, List.set_cons_succ])
      refine Goes.take (i := 8) (oi := ?oi309) (x := ?vx309) ?ho309 (by kernel_rfl) (by kernel_rfl) (by kernel_rfl) (by kernel_rfl) (fun _ _ _ h => h) (Or.inl ⟨?hw309, ?hy309⟩) (Below.drew (Below.refl _ _)) ?rest309
      case ho309 => (simp only [List.getElem?_toArray, List.getElem?_cons_succ, List.getElem?_cons_zero]; rfl)
      case hw309 => rfl
      case hy309 => (intro w' hSw; have q := fun o => (hSw.cell (p := ⟨w.heap.size, o, none⟩) z2).trans (k2 o); go_simp; (try with_reducible rfl))
      case rest309 =>
      (try simp only [Act.put, List.setIfInBounds_toArray, List.set_cons_zero, List.set_cons_succ])
      refine Goes.all (rs := [6]) (by kernel_rfl) (by simp) ?_
      refine Ups.cons (i := 6) (o := ?oo310) ?ho310 (fun KK hKK => ?stp310) Ups.nil
      case ho310 => (simp only [List.getElem?_toArray, List.getElem?_cons_succ, List.getElem?_cons_zero]; rfl)
      case stp310 =>
      go_simp
      go_at_call 100
      refine (HRE.out _ (Below.drew (Below.refl _ _))).mono ?_
      rintro e w3 ⟨rfl, hbq⟩
      replace hbq := (Below.drew (Below.refl w2.heap.size w2)).trans hbq
      have HS310 : Hid (Below w2.heap.size w2 w3) := hbq
      clear hbq
      dsimp only
      refine hKK.out _ _ (Or.inr HS310.out) ?_
      clear hKK KK
      (try simp only [Act.put, List.setIfInBounds_toArray, List.set_cons_zero, List.set_cons_succ])
      refine Goes.take (i := 9) (oi := ?oi311) (x := ?vx311) ?ho311 (by kernel_rfl) (by kernel_rfl) (by kernel_rfl) (by kernel_rfl) (fun _ _ _ h => h) (Or.inl ⟨?hw311, ?hy311⟩) HS310.out ?rest311
      case ho311 => (simp only [List.getElem?_toArray, List.getElem?_cons_succ, List.getElem?_cons_zero]; rfl)
      case hw311 => rfl
      case hy311 => (intro w' hSw; have q := fun o => (hSw.cell (p := ⟨w.heap.size, o, none⟩) z2).trans (k2 o); go_simp; (try with_reducible rfl))
      case rest311 =>
      (try simp only [Act.put, List.setIfInBounds_toArray, List.set_cons_zero, List.set_cons_succ])
      refine Goes.take (i := 10) (oi := ?oi312) (x := ?vx312) ?ho312 (by kernel_rfl) (by kernel_rfl) (by kernel_rfl) (by kernel_rfl) (fun _ _ _ h => h) (Or.inl ⟨?hw312, ?hy312⟩) HS310.out ?rest312
      case ho312 => (simp only [List.getElem?_toArray, List.getElem?_cons_succ, List.getElem?_cons_zero]; rfl)
      case hw312 => rfl
      case hy312 => (intro w' hSw; have q := fun o => (hSw.cell (p := ⟨w.heap.size, o, none⟩) z2).trans (k2 o); go_simp; (try with_reducible rfl))
      case rest312 =>
      (try simp only [Act.put, List.setIfInBounds_toArray, List.set_cons_zero, List.set_cons_succ])
      refine Goes.done (by kernel_rfl) ?_ _
      refine NoPanic.normal ?_
      go_wp2_with fail
      go_meet
      exact ⟨by simp [HM.out], by assumption⟩
  case rest =>
  rename World => w3
  obtain ⟨rfl, hb⟩ := hcut
  replace HB : Hid (Below w.heap.size w w3) := HB.out.trans (hb.out.mono HB.out.size)
  clear hb k2 z2
  cases hE : (!decide (y10 = -1) && decide (y10 < RD)) with
  | true =>
    have hR : R = 1 := by rw [HR.out, hE]; rfl
    subst hR
    go_wp2_with fail
    go_ret
    exact ⟨rfl, HB.out⟩
  | false =>
    have hR : R = 0 := by rw [HR.out, hE]; rfl
    subst hR
    go_wp2_with fail
    go_ret
    exact ⟨rfl, HB.out⟩
end Go.Proofs.YtfpemobkkfobkaaGreatDoor
