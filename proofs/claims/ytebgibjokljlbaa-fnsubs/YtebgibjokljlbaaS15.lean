/- What the model answers where a span is taken: code, whether it is fresh, and the catch, which owns its memory; nothing that was in memory turns; no condition but that there are at most a million spans. -/
import Derived.Test.YtebgibjokljlbaaRows
import Derived.Test.YtebgibjokljlbaaS01
import Derived.Test.YtebgibjokljlbaaS03
import Derived.Test.YtebgibjokljlbaaS04
import Derived.Test.YtebgibjokljlbaaS11
import Derived.Test.YtebgibjokljlbaaS12
import Derived.Test.YtebgibjokljlbaaS13
import Derived.Test.YtebgibjokljlbaaS14
namespace Go.Proofs.Ytebgibjokljlbaa
open Go.RowKit
set_option linter.unusedVariables false
set_option maxRecDepth 8000
set_option maxHeartbeats 4000000 in
theorem sTakeSpanS (x : DCatch) (v : Value) (a z : Int) (w : World) (B : Nat) (hr : shCatch.Rd w B x [.int .i64 x.1, .int .i64 x.2.1, v]) (hB : B ≤ w.heap.size) (hT : totCatch x ≤ 1048576) :
    Calls Try.prog 134 #[.agg #[.int .i64 x.1, .int .i64 x.2.1, v], .int .i64 a, .int .i64 z] w fun e w' => ∃ u, e = .returned (.agg #[.int .i64 (tkC x a z), .bool (tkB x a z), .int .i64 (tkV x a z).1, .int .i64 (tkV x a z).2.1, u]) ∧ Own w' w.heap.size w'.heap.size shCatchO (tkV x a z) [.int .i64 (tkV x a z).1, .int .i64 (tkV x a z).2.1, u] ∧ Below w.heap.size w w' ∧ Spare w' w.heap.size u := by
  obtain ⟨vv, ev, rk, -⟩ := rd_Catch hr
  simp only [List.cons.injEq, and_true, true_and] at ev
  subst ev
  obtain ⟨va, cap, ev2⟩ := row_form rk
  simp only [List.cons.injEq, and_true] at ev2
  subst ev2
  have HC : Hid (∀ W, Below w.heap.size w W → ∀ sb, (∀ o, W.cell? ⟨sb, o, none⟩ = (#[.int .i64 x.1, .int .i64 x.2.1, .slice va x.2.2.1.length cap] : Array Value)[o]?) → Calls Try.prog 120 #[.pointer (some ⟨sb, 0, none⟩)] W fun e w' => e = .returned (.int .i64 (caF x)) ∧ Below W.heap.size W w') :=
    fun W hW sb hc => sL7Fault x va _ cap sb W B rfl hc (Sh.Rd.below rk hB hW) (Nat.le_trans hB hW.size)
  by_cases hF : caF x = 0
  · have hn20 := (ca_ok hF).2.2.1
    by_cases hR : tkR a z = true
    · obtain ⟨f, r, hfr, hmd⟩ := mdT_is hF hR
      obtain ⟨p0, p1, p2, p3, p4⟩ := tkR_yes hR
      have hbd := aft_bd hF hR f (by rw [hfr]; simp)
      have hft := aft_to hF hR f (by rw [hfr]; simp)
      have HCP : Hid (∀ W, Below w.heap.size w W → Calls Try.prog 123 #[.agg #[.int .i64 x.1, .int .i64 x.2.1, .slice va x.2.2.1.length cap]] W fun e w' => ∃ ga c, e = .returned (.agg #[.int .i64 x.1, .int .i64 x.2.1, .slice ga x.2.2.1.length c]) ∧ OS w' W.heap.size (.slice ga x.2.2.1.length c) x.2.2.1 ∧ Below W.heap.size W w') :=
        fun W hW => sL7Copy x.1 x.2.1 x.2.2.1 va _ cap W rfl (RS.of_rd (rk.below hB hW)) (rd_cap rk).2.2.2 (by omega)
      have HTK : Hid (∀ (W : World) (ga : Option Addr) (c : Nat), RS W ga x.2.2.1 → Calls Try.prog 151 #[.agg #[.int .i64 x.1, .int .i64 x.2.1, .slice ga x.2.2.1.length c], .int .i64 a, .int .i64 z] W fun e w' => ∃ u, e = .returned (.tuple #[.agg #[.int .i64 x.1, .int .i64 f.2.1, u], .bool (decide (aftS x a z ≠ allS x))]) ∧ Own w' W.heap.size w'.heap.size shSpansO r [u] ∧ Below W.heap.size W w' ∧ Spare w' W.heap.size u) := fun W ga c h => by
        have := sL7Take x.1 x.2.1 a z x.2.2.1 ga _ c W rfl h (by omega) (sps_bd hF) hR (ca_ok hF).1 (ca_ok hF).2.1
        rw [hmd, fresh_uns hF hR] at this
        exact this
      obtain ⟨C, hC⟩ : ∃ C, C = tkC x a z := ⟨_, rfl⟩
      obtain ⟨FR, hFR⟩ : ∃ C, C = tkB x a z := ⟨_, rfl⟩
      obtain ⟨V, hV⟩ : ∃ C, C = tkV x a z := ⟨_, rfl⟩
      obtain ⟨DD, hDD⟩ : ∃ C, C = decide (aftS x a z ≠ allS x) := ⟨_, rfl⟩
      have HM : Hid (20 < r.length → C = 2 ∧ FR = false ∧ V = zCat) := fun hm => by
        obtain ⟨e1, e2, e3⟩ := tk_m hF hR (by rw [hfr]; exact hm)
        exact ⟨hC.trans e1, hFR.trans e2, hV.trans e3⟩
      have HK : Hid (¬ 20 < r.length → C = 0 ∧ FR = DD ∧ V = (x.1, f.2.1, r, ())) := fun hm => by
        obtain ⟨e1, e2, e3⟩ := tk_ok hF hR (by rw [hfr]; exact hm)
        refine ⟨hC.trans e1, hFR.trans (e2.trans hDD.symm), hV.trans ?_⟩
        rw [e3, hfr]; rfl
      rw [← hDD] at HTK
      rw [← hC, ← hFR, ← hV]
      rw [hF] at HC
      have HY : Hid ((0 ≤ x.1 ∧ x.1 ≤ 65535) ∧ 0 ≤ x.2.1 ∧ x.2.1 ≤ 1000000) := ⟨(ca_ok hF).1, (ca_ok hF).2.1⟩
      have hg1 : inC a 0 1000000 = true := inC_mk p0 p1
      have hg2 : inC z 0 100 = true := inC_mk p2 p3
      have hg3 : ¬ (1000000 < a + z) := by omega
      have hg3' : decide (1000000 < a + z) = false := by simp; omega
      have hlr : r.length ≤ 1000 := by have h1 := aft_len (x := x) (a := a) (z := z); rw [hfr] at h1; simp at h1; omega
      clear hC hFR hV hF hr rk hT hB hfr hDD hmd hR
      generalize x.1 = y0 at *
      generalize x.2.1 = y1 at *
      generalize x.2.2.1 = L at *
      obtain ⟨n, hn⟩ : ∃ n, L.length = n := ⟨_, rfl⟩
      rw [hn] at HC HCP HTK hn20 ⊢
      clear hn
      obtain ⟨f0, f1', ⟨⟩⟩ := f
      simp only at *
      go_enter Try.func134, Try.ntmps134
      go_wp2_with fail
      refine (HC.out _ (by go_grown) w.heap.size (fun o => by simp [go_sem])).mono ?_
      rintro e w1 ⟨rfl, hb⟩
      have k0 : ∀ o, w1.cell? ⟨w.heap.size, o, none⟩ = (#[.int .i64 y0, .int .i64 y1, .slice va n cap] : Array Value)[o]? := fun o => by rw [hb.cell (p := ⟨w.heap.size, o, none⟩) (by simp; omega)]; simp [go_sem]
      have k1 : ∀ o, w1.cell? ⟨w.heap.size + 1, o, none⟩ = (#[.int .i64 0, .bool false, .int .i64 0, .int .i64 0, .slice none 0 0] : Array Value)[o]? := fun o => by rw [hb.cell (p := ⟨w.heap.size + 1, o, none⟩) (by simp)]; simp [go_sem]
      have f1 : ∀ o, w1.frozen? ⟨w.heap.size + 1, o, none⟩ = false := fun o => by rw [hb.frozen (p := ⟨w.heap.size + 1, o, none⟩) (by simp)]; simp [go_sem]
      have HB : Hid (Below w.heap.size w w1) := Below.trans (by go_grown) (hb.mono (by simp; omega))
      have z1 : w.heap.size < w1.heap.size := by have := hb.size; simp at this; omega
      have z2 : w.heap.size + 1 < w1.heap.size := by have := hb.size; simp at this; omega
      clear hb HC
      go_wp2_with (first | (go_at_call 118; refine (sTickC _ _).mono ?_; rintro e w' ⟨rfl, hw⟩; subst w') | (go_at_call 97; refine (sInC _ _ _ _).mono ?_; rintro e w' ⟨rfl, hw⟩; subst w'))
      refine (HCP.out _ HB.out).mono ?_
      rintro e w2 ⟨ga, c2, rfl, ho2, hb2⟩
      obtain ⟨a3, c3, e3, rs2, -⟩ := ho2.rs
      simp only [Value.slice.injEq] at e3
      obtain ⟨e3, -, -⟩ := e3
      rw [← e3] at rs2
      have HRS2 : Hid (RS w2 ga L) := rs2
      have q0 := bx_below k0 z1 hb2
      have q1 := bx_below k1 z2 hb2
      have g1 : ∀ o, w2.frozen? ⟨w.heap.size + 1, o, none⟩ = false := fun o => by rw [(bcell hb2).2 _ o z2]; exact f1 o
      have HB2 : Hid (Below w.heap.size w w2) := HB.out.trans (hb2.mono (by omega))
      have z3 : w.heap.size + 1 < w2.heap.size := Nat.lt_of_lt_of_le z2 hb2.size
      have z3' : w.heap.size < w2.heap.size := by omega
      clear ho2 hb2 rs2 k0 k1 f1 HB HCP e3
      go_wp2_with fail
      refine (HTK.out _ ga c2 HRS2.out).mono ?_
      rintro e w3 ⟨u3, rfl, ho3, hb3, hsp3⟩
      obtain ⟨ua, uc, eu⟩ := row_formO (ho3.rd (Nat.le_refl _))
      simp only [List.cons.injEq, and_true] at eu
      subst eu
      have HO3 : Hid _ := ho3
      have HS3 : Hid _ := hsp3
      clear hsp3
      have p0' := bx_below q0 z3' hb3
      have p1' := bx_below q1 z3 hb3
      have h1 : ∀ o, w3.frozen? ⟨w.heap.size + 1, o, none⟩ = false := fun o => by rw [(bcell hb3).2 _ o z3]; exact g1 o
      have HB3 : Hid (Below w.heap.size w w3) := HB2.out.trans (hb3.mono (by omega))
      have z4 : w.heap.size + 1 < w3.heap.size := Nat.lt_of_lt_of_le z3 hb3.size
      have z5 := hb3.size
      have hne : ¬ (w.heap.size + 1 = w3.heap.size) := by omega
      obtain ⟨N3, hN3⟩ : ∃ N3, r.length = N3 := ⟨_, rfl⟩
      have HN3 : Hid (r.length = N3) := hN3
      rw [hN3] at HO3 HS3 hlr ⊢
      clear ho3 hb3 q0 q1 g1 HB2 HRS2 hN3 HTK
      go_upto_region 7 with fail
      obtain ⟨w4, hw4⟩ : ∃ W, W = w3.alloc (.cells #[.int .i64 y0, .int .i64 f1', .slice ua N3 uc] 60) := ⟨_, rfl⟩
      rw [← hw4]
      have hb4 : Below w3.heap.size w3 w4 := by rw [hw4]; exact (Below.refl _ _).alloc (Nat.le_refl _) _
      have r0 : ∀ o, w4.cell? ⟨w3.heap.size, o, none⟩ = (#[.int .i64 y0, .int .i64 f1', .slice ua N3 uc] : Array Value)[o]? := fun o => by rw [hw4]; simp
      have z6 : w3.heap.size < w4.heap.size := by rw [hw4]; simp
      replace p0' := bx_below p0' (by omega) hb4
      replace p1' := bx_below p1' z4 hb4
      replace h1 : ∀ o, w4.frozen? ⟨w.heap.size + 1, o, none⟩ = false := fun o => by rw [(bcell hb4).2 _ o z4]; exact h1 o
      have HB4 : Hid (Below w.heap.size w w4) := HB3.out.trans (hb4.mono (by omega))
      have HO4 : Hid (Own w4 w2.heap.size w3.heap.size shSpansO r [.slice ua N3 uc]) := Own.below HO3.out (Nat.le_refl _) hb4
      have HS4 : Hid (Spare w4 w2.heap.size (.slice ua N3 uc)) := Spare.keep (base := w2.heap.size) (v := .slice ua N3 uc) HS3.out hb4.size (fun g _ h => hb4.block g h)
      have z7 : w.heap.size + 1 < w4.heap.size := by omega
      clear hw4 hb4 HB3 HO3 HS3
      by_cases hm : 20 < r.length
      · obtain ⟨e1, e2, e3⟩ := HM.out hm
        subst e1 e2 e3
        have hN10 : (20 : Int) < (N3 : Int) := by have := HN3.out; omega
        clear hm HM HK
        go_wp2_with fail
        refine bodyPost_ret (v := .agg #[.int .i64 2, .bool false, .int .i64 0, .int .i64 0, .slice none 0 0]) (by simp [results, Try.results134, go_sem, p1']) rfl ?_
        refine ⟨_, rfl, own_zcat _ _ _ (by have hB1 := HB4.out.size; simp; omega), ?_, Spare.none_ _ _ _ _⟩
        have hB1 := HB4.out
        clear p0' p1' h1 HB4 r0
        go_grown
      · obtain ⟨e1, e2, e3⟩ := HK.out hm
        subst e1 e2 e3
        have hN10 : ¬ ((20 : Int) < (N3 : Int)) := by have := HN3.out; omega
        clear hm HM HK
        go_wp2_with fail
        refine bodyPost_ret (v := .agg #[.int .i64 0, .bool FR, .int .i64 y0, .int .i64 f1', .slice ua N3 uc]) (by simp [results, Try.results134, go_sem, p1']) rfl ?_
        refine ⟨_, rfl, own_catO (WalkArith.wf_i64 (by have := HY.out; omega)) (WalkArith.wf_i64 (by omega)) ?_ (by have hB1 := HB4.out.size; simp; omega), ?_, ?_⟩
        · refine Own.mono (lo := w2.heap.size) (hi := w3.heap.size) (Own.keep HO4.out fun b hb1 hb2 => ?_) (by omega) (by simp; omega)
          have hb3 : b ≠ w.heap.size + 1 := by omega
          repeat rw [Below.heap_setCell _ _ _ _ (by dsimp only; exact hb3)]
        · have hB1 := HB4.out
          clear p0' p1' h1 HB4 r0
          go_grown
        · refine (Spare.keep HS4.out (by simp) fun b hb1 hb2 => ?_).mono (by omega)
          have hb3 : b ≠ w.heap.size + 1 := by omega
          repeat rw [Below.heap_setCell _ _ _ _ (by dsimp only; exact hb3)]
    · replace hR : tkR a z = false := by simpa using hR
      obtain ⟨ec, eb, evv⟩ := tk_r hF hR
      rw [ec, eb, evv]
      rw [hF] at HC
      clear ec eb evv hF hr rk hT hB hn20
      generalize x.1 = y0 at *
      generalize x.2.1 = y1 at *
      generalize x.2.2.1.length = n at *
      by_cases hg1 : inC a 0 1000000 = true
      · obtain ⟨b1, b2⟩ := inC_yes hg1
        by_cases hg2 : inC z 0 100 = true
        · obtain ⟨b3, b4⟩ := inC_yes hg2
          have hg3 : 1000000 < a + z := by unfold tkR at hR; rw [hg1, hg2] at hR; simp at hR; exact hR
          go_enter Try.func134, Try.ntmps134
          go_wp2_with fail
          refine (HC.out _ (by go_grown) w.heap.size (fun o => by simp [go_sem])).mono ?_
          rintro e w1 ⟨rfl, hb⟩
          have k0 : ∀ o, w1.cell? ⟨w.heap.size, o, none⟩ = (#[.int .i64 y0, .int .i64 y1, .slice va n cap] : Array Value)[o]? := fun o => by rw [hb.cell (p := ⟨w.heap.size, o, none⟩) (by simp; omega)]; simp [go_sem]
          have k1 : ∀ o, w1.cell? ⟨w.heap.size + 1, o, none⟩ = (#[.int .i64 0, .bool false, .int .i64 0, .int .i64 0, .slice none 0 0] : Array Value)[o]? := fun o => by rw [hb.cell (p := ⟨w.heap.size + 1, o, none⟩) (by simp)]; simp [go_sem]
          have f1 : ∀ o, w1.frozen? ⟨w.heap.size + 1, o, none⟩ = false := fun o => by rw [hb.frozen (p := ⟨w.heap.size + 1, o, none⟩) (by simp)]; simp [go_sem]
          have HB : Hid (Below w.heap.size w w1) := Below.trans (by go_grown) (hb.mono (by simp; omega))
          have z1 : w.heap.size < w1.heap.size := by have := hb.size; simp at this; omega
          have z2 : w.heap.size + 1 < w1.heap.size := by have := hb.size; simp at this; omega
          clear hb HC
          go_wp2_with (first | (go_at_call 118; refine (sTickC _ _).mono ?_; rintro e w' ⟨rfl, hw⟩; subst w') | (go_at_call 97; refine (sInC _ _ _ _).mono ?_; rintro e w' ⟨rfl, hw⟩; subst w'))
          refine bodyPost_ret (v := .agg #[.int .i64 3, .bool false, .int .i64 0, .int .i64 0, .slice none 0 0]) (by simp [results, Try.results134, go_sem, k1]) rfl ?_
          refine ⟨_, rfl, own_zcat _ _ _ (by have hB1 := HB.out.size; simp; omega), ?_, Spare.none_ _ _ _ _⟩
          have hB1 := HB.out
          clear k0 k1 f1 HB
          go_grown
        · replace hg2 : inC z 0 100 = false := by simpa using hg2
          go_enter Try.func134, Try.ntmps134
          go_wp2_with fail
          refine (HC.out _ (by go_grown) w.heap.size (fun o => by simp [go_sem])).mono ?_
          rintro e w1 ⟨rfl, hb⟩
          have k0 : ∀ o, w1.cell? ⟨w.heap.size, o, none⟩ = (#[.int .i64 y0, .int .i64 y1, .slice va n cap] : Array Value)[o]? := fun o => by rw [hb.cell (p := ⟨w.heap.size, o, none⟩) (by simp; omega)]; simp [go_sem]
          have k1 : ∀ o, w1.cell? ⟨w.heap.size + 1, o, none⟩ = (#[.int .i64 0, .bool false, .int .i64 0, .int .i64 0, .slice none 0 0] : Array Value)[o]? := fun o => by rw [hb.cell (p := ⟨w.heap.size + 1, o, none⟩) (by simp)]; simp [go_sem]
          have f1 : ∀ o, w1.frozen? ⟨w.heap.size + 1, o, none⟩ = false := fun o => by rw [hb.frozen (p := ⟨w.heap.size + 1, o, none⟩) (by simp)]; simp [go_sem]
          have HB : Hid (Below w.heap.size w w1) := Below.trans (by go_grown) (hb.mono (by simp; omega))
          have z1 : w.heap.size < w1.heap.size := by have := hb.size; simp at this; omega
          have z2 : w.heap.size + 1 < w1.heap.size := by have := hb.size; simp at this; omega
          clear hb HC
          go_wp2_with (first | (go_at_call 118; refine (sTickC _ _).mono ?_; rintro e w' ⟨rfl, hw⟩; subst w') | (go_at_call 97; refine (sInC _ _ _ _).mono ?_; rintro e w' ⟨rfl, hw⟩; subst w'))
          refine bodyPost_ret (v := .agg #[.int .i64 3, .bool false, .int .i64 0, .int .i64 0, .slice none 0 0]) (by simp [results, Try.results134, go_sem, k1]) rfl ?_
          refine ⟨_, rfl, own_zcat _ _ _ (by have hB1 := HB.out.size; simp; omega), ?_, Spare.none_ _ _ _ _⟩
          have hB1 := HB.out
          clear k0 k1 f1 HB
          go_grown
      · replace hg1 : inC a 0 1000000 = false := by simpa using hg1
        go_enter Try.func134, Try.ntmps134
        go_wp2_with fail
        refine (HC.out _ (by go_grown) w.heap.size (fun o => by simp [go_sem])).mono ?_
        rintro e w1 ⟨rfl, hb⟩
        have k0 : ∀ o, w1.cell? ⟨w.heap.size, o, none⟩ = (#[.int .i64 y0, .int .i64 y1, .slice va n cap] : Array Value)[o]? := fun o => by rw [hb.cell (p := ⟨w.heap.size, o, none⟩) (by simp; omega)]; simp [go_sem]
        have k1 : ∀ o, w1.cell? ⟨w.heap.size + 1, o, none⟩ = (#[.int .i64 0, .bool false, .int .i64 0, .int .i64 0, .slice none 0 0] : Array Value)[o]? := fun o => by rw [hb.cell (p := ⟨w.heap.size + 1, o, none⟩) (by simp)]; simp [go_sem]
        have f1 : ∀ o, w1.frozen? ⟨w.heap.size + 1, o, none⟩ = false := fun o => by rw [hb.frozen (p := ⟨w.heap.size + 1, o, none⟩) (by simp)]; simp [go_sem]
        have HB : Hid (Below w.heap.size w w1) := Below.trans (by go_grown) (hb.mono (by simp; omega))
        have z1 : w.heap.size < w1.heap.size := by have := hb.size; simp at this; omega
        have z2 : w.heap.size + 1 < w1.heap.size := by have := hb.size; simp at this; omega
        clear hb HC
        go_wp2_with (first | (go_at_call 118; refine (sTickC _ _).mono ?_; rintro e w' ⟨rfl, hw⟩; subst w') | (go_at_call 97; refine (sInC _ _ _ _).mono ?_; rintro e w' ⟨rfl, hw⟩; subst w'))
        refine bodyPost_ret (v := .agg #[.int .i64 3, .bool false, .int .i64 0, .int .i64 0, .slice none 0 0]) (by simp [results, Try.results134, go_sem, k1]) rfl ?_
        refine ⟨_, rfl, own_zcat _ _ _ (by have hB1 := HB.out.size; simp; omega), ?_, Spare.none_ _ _ _ _⟩
        have hB1 := HB.out
        clear k0 k1 f1 HB
        go_grown
  · obtain ⟨ec, eb, evv⟩ := tk_f (a := a) (z := z) hF
    rw [ec, eb, evv]
    have hF' : (caF x != 0) = true := by simp [hF]
    clear ec eb evv hF hr rk hT hB
    generalize caF x = F at *
    generalize x.1 = y0 at *
    generalize x.2.1 = y1 at *
    generalize x.2.2.1.length = n at *
    go_enter Try.func134, Try.ntmps134
    go_wp2_with fail
    refine (HC.out _ (by go_grown) w.heap.size (fun o => by simp [go_sem])).mono ?_
    rintro e w1 ⟨rfl, hb⟩
    have k0 : ∀ o, w1.cell? ⟨w.heap.size, o, none⟩ = (#[.int .i64 y0, .int .i64 y1, .slice va n cap] : Array Value)[o]? := fun o => by rw [hb.cell (p := ⟨w.heap.size, o, none⟩) (by simp; omega)]; simp [go_sem]
    have k1 : ∀ o, w1.cell? ⟨w.heap.size + 1, o, none⟩ = (#[.int .i64 0, .bool false, .int .i64 0, .int .i64 0, .slice none 0 0] : Array Value)[o]? := fun o => by rw [hb.cell (p := ⟨w.heap.size + 1, o, none⟩) (by simp)]; simp [go_sem]
    have f1 : ∀ o, w1.frozen? ⟨w.heap.size + 1, o, none⟩ = false := fun o => by rw [hb.frozen (p := ⟨w.heap.size + 1, o, none⟩) (by simp)]; simp [go_sem]
    have HB : Hid (Below w.heap.size w w1) := Below.trans (by go_grown) (hb.mono (by simp; omega))
    have z1 : w.heap.size < w1.heap.size := by have := hb.size; simp at this; omega
    have z2 : w.heap.size + 1 < w1.heap.size := by have := hb.size; simp at this; omega
    clear hb HC
    go_wp2_with fail
    refine bodyPost_ret (v := .agg #[.int .i64 F, .bool false, .int .i64 0, .int .i64 0, .slice none 0 0]) (by simp [results, Try.results134, go_sem, k1]) rfl ?_
    refine ⟨_, rfl, own_zcat _ _ _ (by have hB1 := HB.out.size; simp; omega), ?_, Spare.none_ _ _ _ _⟩
    have hB1 := HB.out
    clear k0 k1 f1 HB
    go_grown
end Go.Proofs.Ytebgibjokljlbaa
