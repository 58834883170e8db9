/- What the program answers where a control grows; nothing that was in memory turns; no condition. -/
import Derived.Test.YtebgibjokljlbaaRows
import Derived.Deep.RegionHeld3
import Derived.Laws.EntriesVeiled
import Derived.Test.YtebgibjokljlbaaS01
import Derived.Test.YtebgibjokljlbaaS03
import Derived.Test.YtebgibjokljlbaaS18
namespace Go.Proofs.Ytebgibjokljlbaa
open Go.RowKit
set_option linter.unusedVariables false
set_option linter.unusedSimpArgs false
def grQ (a b p k g : Int) : Int := if a < b then min (a + k) b else a + (p + g) / 64
def grR (a b p k g : Int) : Int := if a < b then p else (p + g) % 64
def grW (a b p k g : Int) : Int := if 64 ≤ grQ a b p k g then 64 else grQ a b p k g
def grP (a b p k g : Int) : Int := if 64 ≤ grQ a b p k g then 0 else grR a b p k g
theorem ret_c3 {a b c a' b' c' : Int} (h1 : a = a') (h2 : b = b') (h3 : c = c') : Ending.returned (.agg #[.int .i64 a, .int .i64 b, .int .i64 c]) = .returned (.agg #[.int .i64 a', .int .i64 b', .int .i64 c']) := by rw [h1, h2, h3]
theorem iFast (a b p k g : Int) (w : World) (h0 : 0 ≤ a) (h1 : a ≤ 64) (h2 : 0 ≤ k) (h3 : k ≤ 1000) :
    Calls Try.prog 154 #[.agg #[.int .i64 a, .int .i64 b, .int .i64 p], .int .i64 k, .int .i64 g] w fun e w' => e = .returned (.agg #[.int .i64 (min (a + k) b), .int .i64 b, .int .i64 p]) ∧ Below w.heap.size w w' := by
  go_enter Try.func154, Try.ntmps154
  go_wp2_with fail
  all_goals (go_returns; exact ⟨ret_c3 (by omega) rfl rfl, by go_grown⟩)
theorem iSlow (a b p k g : Int) (w : World) (h0 : 0 ≤ a) (h1 : a ≤ 64) (h2 : 0 ≤ p) (h3 : p ≤ 63) (h4 : 0 ≤ g) (h5 : g ≤ 64000) :
    Calls Try.prog 155 #[.agg #[.int .i64 a, .int .i64 b, .int .i64 p], .int .i64 k, .int .i64 g] w fun e w' => e = .returned (.agg #[.int .i64 (a + (p + g) / 64), .int .i64 b, .int .i64 ((p + g) % 64)]) ∧ Below w.heap.size w w' := by
  go_enter Try.func155, Try.ntmps155
  go_wp2_with fail
  go_returns
  exact ⟨rfl, by go_grown⟩
theorem iMost (a b p : Int) (w : World) :
    Calls Try.prog 142 #[.agg #[.int .i64 a, .int .i64 b, .int .i64 p]] w fun e w' => e = .returned (.agg #[.int .i64 (if 64 ≤ a then 64 else a), .int .i64 b, .int .i64 (if 64 ≤ a then 0 else p)]) ∧ Below w.heap.size w w' := by
  by_cases h : 64 ≤ a
  · simp only [h, if_true]
    go_enter Try.func142, Try.ntmps142
    go_wp2_with fail
    go_returns
    exact ⟨rfl, by go_grown⟩
  · simp only [h, if_false]
    go_enter Try.func142, Try.ntmps142
    go_wp2_with fail
    go_returns
    exact ⟨rfl, by go_grown⟩
theorem iGrowthOf (a b p : Int) (w : World) :
    Calls Try.prog 141 #[.agg #[.int .i64 a, .int .i64 b, .int .i64 p]] w fun e w' => e = .returned (.func (.func (if a < b then 154 else 155)) #[] #[]) ∧ Below w.heap.size w w' := by
  by_cases h : a < b
  · rw [if_pos h]
    go_enter Try.func141, Try.ntmps141
    go_wp2_with fail
    go_ret
    exact ⟨rfl, by go_grown⟩
  · rw [if_neg h]
    go_enter Try.func141, Try.ntmps141
    go_wp2_with fail
    go_ret
    exact ⟨rfl, by go_grown⟩
def grC (a b p k : Int) (l : List Int) : Int := if ctF a b p = 0 then gnC a k l else ctF a b p
def grV (a b p k : Int) (l : List Int) : Int × Int × Int := if grC a b p k l = 0 then (grW a b p k (gnV a k l), b, grP a b p k (gnV a k l)) else (0, 0, 0)
theorem gn_bd {x k : Int} {l : List Int} (h : gnC x k l = 0) : 0 ≤ k ∧ k ≤ 1000 ∧ 0 ≤ gnV x k l ∧ gnV x k l ≤ 64000 := by
  unfold gnC at h
  split at h
  · rename_i h2
    have e := (gn_yes h2).2
    simp only [gnOk, Bool.and_eq_true] at h2
    obtain ⟨⟨⟨h3, h4⟩, -⟩, h6⟩ := h2
    have h4 := inB_yes h4
    have hx := winB_yes h3
    have hs := gsum_bd h6
    have q1 := gq h4.1 h4.2 hx.1
    have q2 := gq h4.1 h4.2 (show 8 ≤ x + l.sum by omega)
    rw [e]
    omega
  · cases h
theorem gn_mono {x k : Int} {l : List Int} (h : gnC x k l = 0) : gnC x k [] = 0 ∧ gnV x k l ≤ gnV x k [] := by
  unfold gnC at h
  split at h
  · rename_i h2
    have e := (gn_yes h2).2
    simp only [gnOk, Bool.and_eq_true] at h2
    obtain ⟨⟨⟨h3, h4⟩, -⟩, h6⟩ := h2
    have h7 : gnOk x k [] = true := by simp [gnOk, h3, h4]
    rw [e, (gn_yes h7).1, (gn_yes h7).2]
    refine ⟨rfl, ?_⟩
    simp only [List.sum_nil, Int.add_zero]
    omega
  · cases h
theorem gr_facts {a b p k : Int} {l : List Int} (h : grC a b p k l = 0) : gnC a k l = 0 ∧ gnC a k [] = 0 ∧ gnV a k l ≤ gnV a k [] ∧ ctF (grW a b p k (gnV a k l)) b (grP a b p k (gnV a k l)) = 0 ∧ a ≤ grW a b p k (gnV a k l) ∧ 8 ≤ grW a b p k (gnV a k l) ∧ grW a b p k (gnV a k l) ≤ 64 ∧
    grC a b p k [] = 0 ∧ grW a b p k (gnV a k l) ≤ grW a b p k (gnV a k []) := by
  unfold grC at h
  split at h
  · rename_i h0
    obtain ⟨⟨ha0, ha1⟩, ⟨hb0, hb1⟩, hp0, hp1⟩ := ctF_ok h0
    obtain ⟨hk0, hk1, hg0, hg1⟩ := gn_bd h
    obtain ⟨m1, m2⟩ := gn_mono h
    obtain ⟨-, -, hq0, hq1⟩ := gn_bd m1
    have e : grC a b p k [] = 0 := by unfold grC; rw [if_pos h0]; exact m1
    refine ⟨h, m1, m2, ?_, ?_, ?_, ?_, e, ?_⟩
    all_goals generalize gnV a k l = g at *
    all_goals generalize gnV a k [] = g2 at *
    · refine ctF_mk ?_ ?_ hb0 hb1 ?_ ?_ <;> (simp only [grW, grP, grQ, grR] <;> (repeat' split) <;> omega)
    all_goals (unfold grW grQ <;> (repeat' split) <;> omega)
  · rename_i h0
    exact absurd h h0
set_option maxHeartbeats 1000000 in
theorem sGrowCode (a b p k : Int) (l : List Int) (ad : Option Addr) (n cap : Nat) (w : World) (hl : l.length = n) (hr : RI w ad l) (hn : n ≤ 9223372036854775807) (hne : grC a b p k l ≠ 0) :
    Calls Try.prog 125 #[.agg #[.int .i64 a, .int .i64 b, .int .i64 p], .int .i64 k, .slice ad n cap] w fun e w' => e = .returned (.agg #[.int .i64 (grC a b p k l), .int .i64 0, .int .i64 0, .int .i64 0]) ∧ Below w.heap.size w w' := by
  have HC : Hid (∀ W, Calls Try.prog 121 #[.agg #[.int .i64 a, .int .i64 b, .int .i64 p]] W fun e w' => e = .returned (.int .i64 (ctF a b p)) ∧ Below W.heap.size W w') := fun W => sControlFault a b p W
  have HG : Hid (∀ W, Below w.heap.size w W → Calls Try.prog 146 #[.int .i64 a, .int .i64 k, .slice ad n cap] W fun e w' => e = .returned (.agg #[.int .i64 (gnC a k l), .int .i64 (gnV a k l)]) ∧ Below W.heap.size W w') := fun W h => sGainOf a k l ad n cap W hl (hr.below (Nat.le_refl _) h) hn
  obtain ⟨C, hC⟩ : ∃ C, C = grC a b p k l := ⟨_, rfl⟩
  rw [← hC]
  have h1' : (C != 0) = true := by rw [hC]; simpa using hne
  clear hne
  unfold grC at hC
  clear hr hl
  generalize gnC a k l = K at *
  generalize gnV a k l = g at *
  generalize ctF a b p = F at *
  by_cases h0 : F = 0
  · rw [if_pos h0] at hC
    subst hC h0
    go_enter Try.func125, Try.ntmps125
    go_wp2_with fail
    refine (HC.out _).mono ?_
    rintro e w1 ⟨rfl, hb⟩
    have k1 := bx_new (w := w.alloc (.cells #[.int .i64 a, .int .i64 b, .int .i64 p] 62)) hb
    have k0 : ∀ o, w1.cell? ⟨w.heap.size, o, none⟩ = (#[.int .i64 a, .int .i64 b, .int .i64 p] : Array Value)[o]? := fun o => by rw [hb.cell (p := ⟨w.heap.size, o, none⟩) (by simp; omega)]; simp [go_sem]
    have f1 : ∀ o, w1.frozen? ⟨w.heap.size + 1, o, none⟩ = false := fun o => by rw [hb.frozen (p := ⟨w.heap.size + 1, o, none⟩) (by simp)]; simp [go_sem]
    simp only [World.size_alloc] at k1
    have HB : Hid (Below w.heap.size w w1) := Below.trans (by go_grown) (hb.mono (by simp; omega))
    have z1 : w.heap.size + 1 < w1.heap.size := by have := hb.size; simp at this; omega
    have z0 : w.heap.size < w1.heap.size := by omega
    clear hb HC
    go_wp2_with fail
    refine (HG.out _ HB.out).mono ?_
    rintro e w2 ⟨rfl, hb⟩
    replace k0 := bx_below k0 z0 hb
    replace k1 := bx_below k1 z1 hb
    replace f1 := bf_below f1 z1 hb
    replace HB : Hid (Below w.heap.size w _) := HB.out.trans (hb.mono HB.out.size)
    replace z0 := Nat.lt_of_lt_of_le z0 hb.size
    replace z1 := Nat.lt_of_lt_of_le z1 hb.size
    clear hb HG
    go_wp2_with fail
    refine bodyPost_ret (v := .agg #[.int .i64 C, .int .i64 0, .int .i64 0, .int .i64 0]) (by simp [results, Try.results125, go_sem, k1, z1]) rfl ⟨rfl, ?_⟩
    have hB1 := HB.out
    clear k1 k0 f1 HB
    go_grown
  · rw [if_neg h0] at hC
    subst hC
    clear HG h0
    go_enter Try.func125, Try.ntmps125
    go_wp2_with fail
    refine (HC.out _).mono ?_
    rintro e w1 ⟨rfl, hb⟩
    have k1 := bx_new (w := w.alloc (.cells #[.int .i64 a, .int .i64 b, .int .i64 p] 62)) hb
    have k0 : ∀ o, w1.cell? ⟨w.heap.size, o, none⟩ = (#[.int .i64 a, .int .i64 b, .int .i64 p] : Array Value)[o]? := fun o => by rw [hb.cell (p := ⟨w.heap.size, o, none⟩) (by simp; omega)]; simp [go_sem]
    have f1 : ∀ o, w1.frozen? ⟨w.heap.size + 1, o, none⟩ = false := fun o => by rw [hb.frozen (p := ⟨w.heap.size + 1, o, none⟩) (by simp)]; simp [go_sem]
    simp only [World.size_alloc] at k1
    have HB : Hid (Below w.heap.size w w1) := Below.trans (by go_grown) (hb.mono (by simp; omega))
    have z1 : w.heap.size + 1 < w1.heap.size := by have := hb.size; simp at this; omega
    have z0 : w.heap.size < w1.heap.size := by omega
    clear hb HC
    go_wp2_with fail
    refine bodyPost_ret (v := .agg #[.int .i64 C, .int .i64 0, .int .i64 0, .int .i64 0]) (by simp [results, Try.results125, go_sem, k1, z1]) rfl ⟨rfl, ?_⟩
    have hB1 := HB.out
    clear k1 k0 f1 HB
    go_grown
set_option maxHeartbeats 2000000 in
theorem iGrowControl (a b p k : Int) (l : List Int) (ad : Option Addr) (n cap : Nat) (w : World) (hl : l.length = n) (hr : RI w ad l) (hn : n ≤ 9223372036854775807) :
    Calls Try.prog 117 #[.agg #[.int .i64 a, .int .i64 b, .int .i64 p], .int .i64 k, .slice ad n cap] w fun e w' => e = .returned (.agg #[.int .i64 (grC a b p k l), .int .i64 (grV a b p k l).1, .int .i64 (grV a b p k l).2.1, .int .i64 (grV a b p k l).2.2]) ∧ Below w.heap.size w w' := by
  have HC : Hid (∀ W, Calls Try.prog 88 #[.agg #[.int .i64 a, .int .i64 b, .int .i64 p]] W fun e w' => e = .returned (.int .i64 (ctF a b p)) ∧ Below W.heap.size W w') := fun W => iControlFault a b p W
  have HG : Hid (∀ W, Below w.heap.size w W → Calls Try.prog 140 #[.int .i64 a, .int .i64 k, .slice ad n cap] W fun e w' => e = .returned (.agg #[.int .i64 (gnC a k l), .int .i64 (gnV a k l)]) ∧ Below W.heap.size W w') := fun W h => iGainOf a k l ad n cap W hl (hr.below (Nat.le_refl _) h) hn
  have HA : Hid (ctF a b p = 0 → (8 ≤ a ∧ a ≤ 64) ∧ (0 ≤ b ∧ b ≤ 64) ∧ 0 ≤ p ∧ p ≤ 63) := fun h => ctF_ok h
  have HD : Hid (gnC a k l = 0 → 0 ≤ k ∧ k ≤ 1000 ∧ 0 ≤ gnV a k l ∧ gnV a k l ≤ 64000) := fun h => gn_bd h
  obtain ⟨V, hV⟩ : ∃ V, V = grV a b p k l := ⟨_, rfl⟩
  obtain ⟨C, hC⟩ : ∃ C, C = grC a b p k l := ⟨_, rfl⟩
  rw [← hV, ← hC]
  unfold grV at hV
  rw [← hC] at hV
  unfold grC at hC
  clear hr hl
  generalize gnC a k l = K at *
  generalize gnV a k l = g at *
  generalize ctF a b p = F at *
  by_cases h0 : F = 0
  · rw [if_pos h0] at hC
    subst hC
    obtain ⟨⟨ha0, ha1⟩, ⟨hb0, hb1⟩, hp0, hp1⟩ := HA.out h0
    subst h0
    by_cases h1 : C = 0
    · rw [if_pos h1] at hV
      subst h1
      obtain ⟨hk0, hk1, hg0, hg1⟩ := HD.out rfl
      subst hV
      have HV1 : Hid (a < b → grW a b p k g = (if 64 ≤ min (a + k) b then 64 else min (a + k) b) ∧ grP a b p k g = (if 64 ≤ min (a + k) b then 0 else p)) := fun h => by simp [grW, grP, grQ, grR, h]
      have HV2 : Hid (¬ a < b → grW a b p k g = (if 64 ≤ a + (p + g) / 64 then 64 else a + (p + g) / 64) ∧ grP a b p k g = (if 64 ≤ a + (p + g) / 64 then 0 else (p + g) % 64)) := fun h => by simp [grW, grP, grQ, grR, h]
      generalize grW a b p k g = XW at *
      generalize grP a b p k g = XP at *
      clear HA HD
      by_cases hab : a < b
      · obtain ⟨e1, e2⟩ := HV1.out hab
        have HT : Hid (∀ W, Calls Try.prog 141 #[.agg #[.int .i64 a, .int .i64 b, .int .i64 p]] W fun e w' => e = .returned (.func (.func 154) #[] #[]) ∧ Below W.heap.size W w') := fun W => by have := iGrowthOf a b p W; rw [if_pos hab] at this; exact this
        have HU : Hid (∀ W, Calls Try.prog 154 #[.agg #[.int .i64 a, .int .i64 b, .int .i64 p], .int .i64 k, .int .i64 g] W fun e w' => e = .returned (.agg #[.int .i64 (min (a + k) b), .int .i64 b, .int .i64 p]) ∧ Below W.heap.size W w') := fun W => iFast a b p k g W (by omega) ha1 hk0 hk1
        have HM : Hid (∀ W, Calls Try.prog 142 #[.agg #[.int .i64 (min (a + k) b), .int .i64 b, .int .i64 p]] W fun e w' => e = .returned (.agg #[.int .i64 XW, .int .i64 b, .int .i64 XP]) ∧ Below W.heap.size W w') := fun W => by rw [e1, e2]; exact iMost _ b p W
        generalize min (a + k) b = Q at *
        have HE : Hid _ := And.intro e1 e2
        clear HV1 HV2 hab e1 e2
        simp only
        go_enter Try.func117, Try.ntmps117
        go_wp2_with fail
        refine (HC.out _).mono ?_
        rintro e w1 ⟨rfl, hb⟩
        have k1 := bx_new (w := w.alloc (.cells #[.int .i64 a, .int .i64 b, .int .i64 p] 62)) hb
        have k0 : ∀ o, w1.cell? ⟨w.heap.size, o, none⟩ = (#[.int .i64 a, .int .i64 b, .int .i64 p] : Array Value)[o]? := fun o => by rw [hb.cell (p := ⟨w.heap.size, o, none⟩) (by simp; omega)]; simp [go_sem]
        have f1 : ∀ o, w1.frozen? ⟨w.heap.size + 1, o, none⟩ = false := fun o => by rw [hb.frozen (p := ⟨w.heap.size + 1, o, none⟩) (by simp)]; simp [go_sem]
        simp only [World.size_alloc] at k1
        have HB : Hid (Below w.heap.size w w1) := Below.trans (by go_grown) (hb.mono (by simp; omega))
        have z1 : w.heap.size + 1 < w1.heap.size := by have := hb.size; simp at this; omega
        have z0 : w.heap.size < w1.heap.size := by omega
        clear hb HC
        go_wp2_with fail
        refine (HG.out _ HB.out).mono ?_
        rintro e w2 ⟨rfl, hb⟩
        replace k0 := bx_below k0 z0 hb
        replace k1 := bx_below k1 z1 hb
        replace f1 := bf_below f1 z1 hb
        replace HB : Hid (Below w.heap.size w _) := HB.out.trans (hb.mono HB.out.size)
        replace z0 := Nat.lt_of_lt_of_le z0 hb.size
        replace z1 := Nat.lt_of_lt_of_le z1 hb.size
        clear hb HG
        go_wp2_with fail
        refine (HT.out _).mono ?_
        rintro e w3 ⟨rfl, hb3⟩
        have kg := bx_new hb3
        obtain ⟨hb, zg⟩ := bl_new hb3
        replace k0 := bx_below k0 z0 hb
        replace k1 := bx_below k1 z1 hb
        replace f1 := bf_below f1 z1 hb
        replace HB : Hid (Below w.heap.size w _) := HB.out.trans (hb.mono HB.out.size)
        replace z0 := Nat.lt_of_lt_of_le z0 hb.size
        replace z1 := Nat.lt_of_lt_of_le z1 hb.size
        clear hb hb3 HT
        go_wp2_with fail
        refine (HU.out _).mono ?_
        rintro e w4 ⟨rfl, hb⟩
        replace k0 := bx_below k0 z0 hb
        replace k1 := bx_below k1 z1 hb
        replace f1 := bf_below f1 z1 hb
        replace HB : Hid (Below w.heap.size w _) := HB.out.trans (hb.mono HB.out.size)
        replace z0 := Nat.lt_of_lt_of_le z0 hb.size
        replace z1 := Nat.lt_of_lt_of_le z1 hb.size
        clear hb kg HU
        go_wp2_with fail
        refine (HM.out _).mono ?_
        rintro e w5 ⟨rfl, hb⟩
        replace k0 := bx_below k0 z0 hb
        replace k1 := bx_below k1 z1 hb
        replace f1 := bf_below f1 z1 hb
        replace HB : Hid (Below w.heap.size w _) := HB.out.trans (hb.mono HB.out.size)
        replace z0 := Nat.lt_of_lt_of_le z0 hb.size
        replace z1 := Nat.lt_of_lt_of_le z1 hb.size
        clear hb HM
        go_wp2_with fail
        refine bodyPost_ret (v := .agg #[.int .i64 0, .int .i64 XW, .int .i64 b, .int .i64 XP]) (by simp [results, Try.results117, go_sem, k1]) rfl ⟨rfl, ?_⟩
        have hB1 := HB.out
        clear k1 k0 f1 HB
        go_grown
      · obtain ⟨e1, e2⟩ := HV2.out hab
        have HT : Hid (∀ W, Calls Try.prog 141 #[.agg #[.int .i64 a, .int .i64 b, .int .i64 p]] W fun e w' => e = .returned (.func (.func 155) #[] #[]) ∧ Below W.heap.size W w') := fun W => by have := iGrowthOf a b p W; rw [if_neg hab] at this; exact this
        have HU : Hid (∀ W, Calls Try.prog 155 #[.agg #[.int .i64 a, .int .i64 b, .int .i64 p], .int .i64 k, .int .i64 g] W fun e w' => e = .returned (.agg #[.int .i64 (a + (p + g) / 64), .int .i64 b, .int .i64 ((p + g) % 64)]) ∧ Below W.heap.size W w') := fun W => iSlow a b p k g W (by omega) ha1 hp0 hp1 hg0 hg1
        have HM : Hid (∀ W, Calls Try.prog 142 #[.agg #[.int .i64 (a + (p + g) / 64), .int .i64 b, .int .i64 ((p + g) % 64)]] W fun e w' => e = .returned (.agg #[.int .i64 XW, .int .i64 b, .int .i64 XP]) ∧ Below W.heap.size W w') := fun W => by rw [e1, e2]; exact iMost _ b _ W
        generalize a + (p + g) / 64 = Q at *
        generalize (p + g) % 64 = R at *
        clear HV1 HV2 hab e1 e2
        simp only
        go_enter Try.func117, Try.ntmps117
        go_wp2_with fail
        refine (HC.out _).mono ?_
        rintro e w1 ⟨rfl, hb⟩
        have k1 := bx_new (w := w.alloc (.cells #[.int .i64 a, .int .i64 b, .int .i64 p] 62)) hb
        have k0 : ∀ o, w1.cell? ⟨w.heap.size, o, none⟩ = (#[.int .i64 a, .int .i64 b, .int .i64 p] : Array Value)[o]? := fun o => by rw [hb.cell (p := ⟨w.heap.size, o, none⟩) (by simp; omega)]; simp [go_sem]
        have f1 : ∀ o, w1.frozen? ⟨w.heap.size + 1, o, none⟩ = false := fun o => by rw [hb.frozen (p := ⟨w.heap.size + 1, o, none⟩) (by simp)]; simp [go_sem]
        simp only [World.size_alloc] at k1
        have HB : Hid (Below w.heap.size w w1) := Below.trans (by go_grown) (hb.mono (by simp; omega))
        have z1 : w.heap.size + 1 < w1.heap.size := by have := hb.size; simp at this; omega
        have z0 : w.heap.size < w1.heap.size := by omega
        clear hb HC
        go_wp2_with fail
        refine (HG.out _ HB.out).mono ?_
        rintro e w2 ⟨rfl, hb⟩
        replace k0 := bx_below k0 z0 hb
        replace k1 := bx_below k1 z1 hb
        replace f1 := bf_below f1 z1 hb
        replace HB : Hid (Below w.heap.size w _) := HB.out.trans (hb.mono HB.out.size)
        replace z0 := Nat.lt_of_lt_of_le z0 hb.size
        replace z1 := Nat.lt_of_lt_of_le z1 hb.size
        clear hb HG
        go_wp2_with fail
        refine (HT.out _).mono ?_
        rintro e w3 ⟨rfl, hb3⟩
        have kg := bx_new hb3
        obtain ⟨hb, zg⟩ := bl_new hb3
        replace k0 := bx_below k0 z0 hb
        replace k1 := bx_below k1 z1 hb
        replace f1 := bf_below f1 z1 hb
        replace HB : Hid (Below w.heap.size w _) := HB.out.trans (hb.mono HB.out.size)
        replace z0 := Nat.lt_of_lt_of_le z0 hb.size
        replace z1 := Nat.lt_of_lt_of_le z1 hb.size
        clear hb hb3 HT
        go_wp2_with fail
        refine (HU.out _).mono ?_
        rintro e w4 ⟨rfl, hb⟩
        replace k0 := bx_below k0 z0 hb
        replace k1 := bx_below k1 z1 hb
        replace f1 := bf_below f1 z1 hb
        replace HB : Hid (Below w.heap.size w _) := HB.out.trans (hb.mono HB.out.size)
        replace z0 := Nat.lt_of_lt_of_le z0 hb.size
        replace z1 := Nat.lt_of_lt_of_le z1 hb.size
        clear hb kg HU
        go_wp2_with fail
        refine (HM.out _).mono ?_
        rintro e w5 ⟨rfl, hb⟩
        replace k0 := bx_below k0 z0 hb
        replace k1 := bx_below k1 z1 hb
        replace f1 := bf_below f1 z1 hb
        replace HB : Hid (Below w.heap.size w _) := HB.out.trans (hb.mono HB.out.size)
        replace z0 := Nat.lt_of_lt_of_le z0 hb.size
        replace z1 := Nat.lt_of_lt_of_le z1 hb.size
        clear hb HM
        go_wp2_with fail
        refine bodyPost_ret (v := .agg #[.int .i64 0, .int .i64 XW, .int .i64 b, .int .i64 XP]) (by simp [results, Try.results117, go_sem, k1]) rfl ⟨rfl, ?_⟩
        have hB1 := HB.out
        clear k1 k0 f1 HB
        go_grown
    · rw [if_neg h1] at hV
      subst hV
      have h1' : (C != 0) = true := by simp [h1]
      clear HA HD h1
      simp only
      go_enter Try.func117, Try.ntmps117
      go_wp2_with fail
      refine (HC.out _).mono ?_
      rintro e w1 ⟨rfl, hb⟩
      have k1 := bx_new (w := w.alloc (.cells #[.int .i64 a, .int .i64 b, .int .i64 p] 62)) hb
      have k0 : ∀ o, w1.cell? ⟨w.heap.size, o, none⟩ = (#[.int .i64 a, .int .i64 b, .int .i64 p] : Array Value)[o]? := fun o => by rw [hb.cell (p := ⟨w.heap.size, o, none⟩) (by simp; omega)]; simp [go_sem]
      have f1 : ∀ o, w1.frozen? ⟨w.heap.size + 1, o, none⟩ = false := fun o => by rw [hb.frozen (p := ⟨w.heap.size + 1, o, none⟩) (by simp)]; simp [go_sem]
      simp only [World.size_alloc] at k1
      have HB : Hid (Below w.heap.size w w1) := Below.trans (by go_grown) (hb.mono (by simp; omega))
      have z1 : w.heap.size + 1 < w1.heap.size := by have := hb.size; simp at this; omega
      have z0 : w.heap.size < w1.heap.size := by omega
      clear hb HC
      go_wp2_with fail
      refine (HG.out _ HB.out).mono ?_
      rintro e w2 ⟨rfl, hb⟩
      replace k0 := bx_below k0 z0 hb
      replace k1 := bx_below k1 z1 hb
      replace f1 := bf_below f1 z1 hb
      replace HB : Hid (Below w.heap.size w _) := HB.out.trans (hb.mono HB.out.size)
      replace z0 := Nat.lt_of_lt_of_le z0 hb.size
      replace z1 := Nat.lt_of_lt_of_le z1 hb.size
      clear hb HG
      go_wp2_with fail
      refine bodyPost_ret (v := .agg #[.int .i64 C, .int .i64 0, .int .i64 0, .int .i64 0]) (by simp [results, Try.results117, go_sem, k1, z1]) rfl ⟨rfl, ?_⟩
      have hB1 := HB.out
      clear k1 k0 f1 HB
      go_grown
  · rw [if_neg h0] at hC
    subst hC
    rw [if_neg h0] at hV
    subst hV
    have h1' : (C != 0) = true := by simp [h0]
    clear HA HD h0 HG
    simp only
    go_enter Try.func117, Try.ntmps117
    go_wp2_with fail
    refine (HC.out _).mono ?_
    rintro e w1 ⟨rfl, hb⟩
    have k1 := bx_new (w := w.alloc (.cells #[.int .i64 a, .int .i64 b, .int .i64 p] 62)) hb
    have k0 : ∀ o, w1.cell? ⟨w.heap.size, o, none⟩ = (#[.int .i64 a, .int .i64 b, .int .i64 p] : Array Value)[o]? := fun o => by rw [hb.cell (p := ⟨w.heap.size, o, none⟩) (by simp; omega)]; simp [go_sem]
    have f1 : ∀ o, w1.frozen? ⟨w.heap.size + 1, o, none⟩ = false := fun o => by rw [hb.frozen (p := ⟨w.heap.size + 1, o, none⟩) (by simp)]; simp [go_sem]
    simp only [World.size_alloc] at k1
    have HB : Hid (Below w.heap.size w w1) := Below.trans (by go_grown) (hb.mono (by simp; omega))
    have z1 : w.heap.size + 1 < w1.heap.size := by have := hb.size; simp at this; omega
    have z0 : w.heap.size < w1.heap.size := by omega
    clear hb HC
    go_wp2_with fail
    refine bodyPost_ret (v := .agg #[.int .i64 C, .int .i64 0, .int .i64 0, .int .i64 0]) (by simp [results, Try.results117, go_sem, k1, z1]) rfl ⟨rfl, ?_⟩
    have hB1 := HB.out
    clear k1 k0 f1 HB
    go_grown
end Go.Proofs.Ytebgibjokljlbaa
