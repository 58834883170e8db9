/- What the program answers where a span is taken, and of a new catch: code, whether it is fresh, and the catch, which owns its memory; nothing that was in memory turns; no condition but that there are at most a million spans. -/
import Derived.Test.YtioehciabgdbaaaRows
import Derived.Test.YtioehciabgdbaaaBase
import Derived.Test.YtioehciabgdbaaaMem
import Derived.Test.YtioehciabgdbaaaHBase
import Derived.Test.YtioehciabgdbaaaHSpan
import Derived.Test.YtioehciabgdbaaaHCatch
import Derived.Test.YtioehciabgdbaaaMSpan
import Derived.Test.YtioehciabgdbaaaMCatch
import Derived.Test.YtioehciabgdbaaaSpanRow
import Derived.Test.YtioehciabgdbaaaCatDef
import Derived.Test.YtioehciabgdbaaaCatSpec
import Derived.Test.YtioehciabgdbaaaCatImpl
import Derived.Test.YtioehciabgdbaaaCatCount
import Derived.Test.YtioehciabgdbaaaCatTake
import Derived.Test.YtioehciabgdbaaaCatCopy
import Derived.Test.YtioehciabgdbaaaBox
import Derived.Deep.RegionHeld3
namespace Go.Proofs.Ytioehciabgdbaaa
open Go.RowKit
set_option linter.unusedVariables false
set_option maxRecDepth 8000

theorem bl_drewK {w w' : World} {O : Obj} (k : Below (w.alloc O).drew.heap.size (w.alloc O).drew w') : Below (w.alloc O).heap.size (w.alloc O) w' := bl_drew k
/-- What is owned behind the first span. -/
theorem OS.tailO {w : World} {base hi g n cap : Nat} {f : DSpan} {r : List DSpan} (h : OS w base (.slice (some ⟨g, 0, none⟩) n cap) (f :: r)) (hh : w.heap.size ≤ hi) : Own w base hi shSpansO r [.slice (if cap = 1 then some ⟨g, 0, none⟩ else some ⟨g, 2, none⟩) (n - 1) (cap - 1)] := by
  obtain ⟨a, c, e, _, _, hc, hm⟩ := h.rs
  simp only [Value.slice.injEq] at e
  obtain ⟨rfl, hn, rfl⟩ := e
  by_cases h1 : cap = 1
  · rw [if_pos h1]
    have : r = [] := by
      have : r.length = 0 := by simp at hc; omega
      exact List.length_eq_zero_iff.1 this
    subst this
    exact ⟨[], Or.inl ⟨rfl, rfl, some ⟨g, 0, none⟩, cap - 1, by simp [hn], by omega, by simp⟩, by simp, by simp⟩
  · rw [if_neg h1]
    obtain ⟨g', ⟨e, ho⟩ | ⟨e, _⟩⟩ := h.ownO hh 1 (by simp)
    · simp only [Option.some.injEq, Addr.mk.injEq, and_true] at e
      subst e
      rw [hn]
      simpa using ho
    · cases e
theorem aft_cons {x : DCatch} {a z : Int} : ∃ f r, aftS x a z = f :: r := by
  unfold aftS
  split
  · cases h : insS a (a + z) (allS x) with
    | nil => exact absurd h (insS_ne _)
    | cons f r => exact ⟨f, r, rfl⟩
  · exact ⟨_, _, rfl⟩
theorem aft_bd {x : DCatch} {a z : Int} (h : caF x = 0) (hR : tkR a z = true) : ∀ t ∈ aftS x a z, 0 ≤ t.1 ∧ t.2.1 ≤ 1000100 := by
  obtain ⟨p0, p1, p2, p3, p4⟩ := tkR_yes hR
  intro t ht
  unfold aftS at ht
  split at ht
  · have h1 := insS_from (a := a) (b := a + z) (e := -1) (l := allS x) (by omega) (fun t ht => by have := all_bd h t ht; omega) t ht
    have h2 := insS_to (a := a) (b := a + z) (e := 1000100) (l := allS x) (by omega) (fun t ht => (all_bd h t ht).2.2) t ht
    omega
  · have := all_bd h t ht; omega
theorem aft_len {x : DCatch} {a z : Int} : (aftS x a z).length ≤ x.2.2.1.length + 2 := by
  unfold aftS
  split
  · have := insS_len (a := a) (b := a + z) (allS x); rw [allS_len] at this; omega
  · rw [allS_len]; omega
theorem aft_to {x : DCatch} {a z : Int} (h : caF x = 0) (hR : tkR a z = true) : ∀ t ∈ aftS x a z, t.1 ≤ t.2.1 := by
  obtain ⟨p0, p1, p2, p3, p4⟩ := tkR_yes hR
  unfold aftS
  split
  · exact (insS_sp (by omega) (allS_sp h)).le
  · exact (allS_sp h).le
set_option maxHeartbeats 4000000 in
theorem iTakeSpan (x : DCatch) (v : Value) (a z : Int) (w : World) (B : Nat) (hr : shCatch.Rd w B x [.int .i64 x.1, .int .i64 x.2.1, v]) (hB : B ≤ w.heap.size) (hT : totCatch x ≤ 1048576) :
    Calls Try.prog 30 #[.agg #[.int .i64 x.1, .int .i64 x.2.1, v], .int .i64 a, .int .i64 z] w fun e w' => ∃ u, e = .returned (.agg #[.int .i64 (tkC x a z), .bool (tkB x a z), .int .i64 (tkV x a z).1, .int .i64 (tkV x a z).2.1, u]) ∧ Own w' w.heap.size w'.heap.size shCatchO (tkV x a z) [.int .i64 (tkV x a z).1, .int .i64 (tkV x a z).2.1, u] ∧ Below w.heap.size w w' := by
  obtain ⟨vv, ev, rk, -⟩ := rd_Catch hr
  simp only [List.cons.injEq, and_true, true_and] at ev
  subst ev
  obtain ⟨va, cap, ev2⟩ := row_form rk
  simp only [List.cons.injEq, and_true] at ev2
  subst ev2
  have HC : Hid (∀ W, Below w.heap.size w W → Calls Try.prog 35 #[.agg #[.int .i64 x.1, .int .i64 x.2.1, .slice va x.2.2.1.length cap]] W fun e w' => e = .returned (.int .i64 (caF x)) ∧ Below W.heap.size W w') :=
    fun W hW => iCatchFault x _ W B (Sh.Rd.below hr hB hW) (Nat.le_trans hB hW.size) hT
  by_cases hF : caF x = 0
  · have hn20 := (ca_ok hF).2.2.1
    have HSN : Hid (∀ W, Below w.heap.size w W → Calls Try.prog 85 #[.agg #[.int .i64 x.1, .int .i64 x.2.1, .slice va x.2.2.1.length cap]] W fun e w' => ∃ u, e = .returned u ∧ OS w' W.heap.size u (allS x) ∧ Below W.heap.size W w') :=
      fun W hW => iSeenOf x _ W B (Sh.Rd.below hr hB hW) (Nat.le_trans hB hW.size) (by omega)
    by_cases hR : tkR a z = true
    · obtain ⟨f, r, hfr⟩ := aft_cons (x := x) (a := a) (z := z)
      have hlen := aft_len (x := x) (a := a) (z := z)
      have hbd := aft_bd hF hR
      rw [hfr] at hlen hbd
      rw [List.length_cons] at hlen
      have hfb := hbd f (by simp)
      have HWR : Hid (WfS r) := wfS_of fun t ht => by have h1 := hbd t (by simp [ht]); have h2 := aft_to hF hR t (by rw [hfr]; simp [ht]); omega
      have hft := aft_to hF hR f (by rw [hfr]; simp)
      have HAD : Hid (∀ (W : World) (b off cap : Nat), RS W (some ⟨b, off, none⟩) (allS x) → Calls Try.prog 86 #[.slice (some ⟨b, off, none⟩) (allS x).length cap, .int .i64 a, .int .i64 z] W fun e w' => ∃ u, e = .returned u ∧ OS w' W.heap.size u (f :: r) ∧ Below W.heap.size W w') := fun W b off cap h => by
        have := iAddSpan (allS x) b off _ cap a z W rfl h (by rw [allS_len]; omega) (by rw [allS_len]; omega) (allS_sp hF) hR
        rw [← hfr]; exact this
      have HY : Hid ((0 ≤ x.1 ∧ x.1 ≤ 65535) ∧ 0 ≤ x.2.1 ∧ x.2.1 ≤ 1000000) := ⟨(ca_ok hF).1, (ca_ok hF).2.1⟩
      have hal : (allS x).length ≤ 100 := by rw [allS_len]; omega
      have hal0 : 0 < (allS x).length := by rw [allS_len]; omega
      obtain ⟨C, hC⟩ : ∃ C, C = tkC x a z := ⟨_, rfl⟩
      obtain ⟨FR, hFR⟩ : ∃ C, C = tkB x a z := ⟨_, rfl⟩
      obtain ⟨V, hV⟩ : ∃ C, C = tkV x a z := ⟨_, rfl⟩
      have HM : Hid (20 < r.length → C = 2 ∧ FR = false ∧ V = zCat) := fun hm => by
        obtain ⟨e1, e2, e3⟩ := tk_m hF hR (by rw [hfr]; exact hm)
        exact ⟨hC.trans e1, hFR.trans e2, hV.trans e3⟩
      have HK : Hid (¬ 20 < r.length → C = 0 ∧ FR = (!decide (allS x = f :: r)) ∧ V = (x.1, f.2.1, r, ())) := fun hm => by
        obtain ⟨e1, e2, e3⟩ := tk_ok hF hR (by rw [hfr]; exact hm)
        rw [hfr] at e2 e3
        refine ⟨hC.trans e1, hFR.trans (e2.trans ?_), hV.trans e3⟩
        by_cases h : allS x = f :: r
        · simp [h]
        · have h2 : f :: r ≠ allS x := fun e => h e.symm
          simp [h, h2]
      rw [← hC, ← hFR, ← hV]
      rw [hF] at HC
      clear hC hFR hV hF hr rk hT hB hfr hbd
      generalize allS x = AL at *
      generalize x.1 = y0 at *
      generalize x.2.1 = y1 at *
      generalize x.2.2.1.length = n at *
      obtain ⟨f0, f1', ⟨⟩⟩ := f
      simp only at *
      go_enter Try.func30, Try.ntmps30
      go_wp2_with fail
      refine (HC.out _ (by go_grown)).mono ?_
      rintro e w1 ⟨rfl, hb⟩
      have k0 : ∀ o, w1.cell? ⟨w.heap.size, o, none⟩ = (#[.int .i64 y0, .int .i64 y1, .slice va n cap] : Array Value)[o]? := fun o => by rw [hb.cell (p := ⟨w.heap.size, o, none⟩) (by simp; omega)]; simp [go_sem]
      have k1 : ∀ o, w1.cell? ⟨w.heap.size + 1, o, none⟩ = (#[.int .i64 0, .bool false, .int .i64 0, .int .i64 0, .slice none 0 0] : Array Value)[o]? := fun o => by rw [hb.cell (p := ⟨w.heap.size + 1, o, none⟩) (by simp)]; simp [go_sem]
      have f1 : ∀ o, w1.frozen? ⟨w.heap.size + 1, o, none⟩ = false := fun o => by rw [hb.frozen (p := ⟨w.heap.size + 1, o, none⟩) (by simp)]; simp [go_sem]
      have HB : Hid (Below w.heap.size w w1) := Below.trans (by go_grown) (hb.mono (by simp; omega))
      have z1 : w.heap.size < w1.heap.size := by have := hb.size; simp at this; omega
      have z2 : w.heap.size + 1 < w1.heap.size := by have := hb.size; simp at this; omega
      clear hb HC
      go_wp2_with (go_at_call 84; refine (iLeaves _ _ _).mono ?_; rintro e w' ⟨rfl, hw⟩; subst w')
      refine (HSN.out _ HB.out).mono ?_
      rintro e w2 ⟨u2, rfl, ho2, hb2⟩
      obtain ⟨g2, c2, e2, hq1, hq2, -, -⟩ := ho2.some_ hal0
      subst e2
      obtain ⟨a3, c3, e3, rs2, -⟩ := ho2.rs
      simp only [Value.slice.injEq] at e3
      obtain ⟨e3, -, -⟩ := e3
      subst e3
      have HRS2 : Hid (RS w2 (some ⟨g2, 0, none⟩) AL) := rs2
      have q0 := bx_below k0 z1 hb2
      have q1 := bx_below k1 z2 hb2
      have g1 : ∀ o, w2.frozen? ⟨w.heap.size + 1, o, none⟩ = false := fun o => by rw [(bcell hb2).2 _ o z2]; exact f1 o
      have HB2 : Hid (Below w.heap.size w w2) := HB.out.trans (hb2.mono (by omega))
      have z3 : w.heap.size + 1 < w2.heap.size := Nat.lt_of_lt_of_le z2 hb2.size
      have z3' : w.heap.size < w2.heap.size := by omega
      clear ho2 hb2 rs2 k0 k1 f1 HB HSN
      have HLA : Hid (AL.length = AL.length) := rfl
      go_wp2_with fail
      refine (HAD.out _ g2 0 c2 HRS2.out).mono ?_
      rintro e w3 ⟨u3, rfl, ho3, hb3⟩
      obtain ⟨g3, c3, e3, hq3, hq4, hq5, hq6⟩ := ho3.some_ (by simp)
      subst e3
      obtain ⟨a4, c4, e4, rs3, -⟩ := ho3.rs
      simp only [Value.slice.injEq] at e4
      obtain ⟨e4, -, -⟩ := e4
      subst e4
      have HRS3 : Hid (RS w3 (some ⟨g3, 0, none⟩) ((f0, f1', ()) :: r)) := rs3
      have HRS2' : Hid (RS w3 (some ⟨g2, 0, none⟩) AL) := HRS2.out.below hb3
      obtain ⟨j0, j1, -⟩ := ho3.cell (i := 0) (by simp)
      simp only [List.getElem_cons_zero, Nat.zero_mul, Nat.zero_add] at j0 j1
      have HO3 : Hid _ := ho3
      have p0 := bx_below q0 z3' hb3
      have p1 := bx_below q1 z3 hb3
      have h1 : ∀ o, w3.frozen? ⟨w.heap.size + 1, o, none⟩ = false := fun o => by rw [(bcell hb3).2 _ o z3]; exact g1 o
      have HB3 : Hid (Below w.heap.size w w3) := HB2.out.trans (hb3.mono (by omega))
      have z4 : w.heap.size + 1 < w3.heap.size := Nat.lt_of_lt_of_le z3 hb3.size
      obtain ⟨N3, hN3⟩ : ∃ N3, ((f0, f1', ()) :: r).length = N3 := ⟨_, rfl⟩
      have HN3 : Hid (r.length + 1 = N3) := hN3
      rw [hN3] at hq5 HO3 ⊢
      have hN4 : 1 ≤ N3 := by have := HN3.out; omega
      have hN5 : N3 ≤ 100 := by have := HN3.out; omega
      have hN6 : (1 : Int) ≤ (N3 : Int) := by omega
      have hN7 : (0 : Int) < (N3 : Int) := by omega
      have hN9 : 0 < N3 := hN4
      have hq5' : (N3 : Int) ≤ (c3 : Int) := by omega
      have hN8 : ((N3 - 1 : Nat) : Int) = (N3 : Int) - 1 := by omega
      obtain ⟨pa, hpa⟩ : ∃ pa, (if c3 = 1 then some (⟨g3, 0, none⟩ : Addr) else some ⟨g3, 2, none⟩) = pa := ⟨_, rfl⟩
      have HTL : Hid (∀ W, Below w3.heap.size w3 W → Own W w2.heap.size W.heap.size shSpansO r [.slice pa (N3 - 1) (c3 - 1)]) := fun W hW => by rw [← hpa, ← HN3.out]; have h := HO3.out; rw [← HN3.out] at h; exact (h.below hW).tailO (Nat.le_refl _)
      clear ho3 hb3 rs3 q0 q1 g1 HB2 HRS2 hN3 hlen
      go_wp2_with fail
      go_region_held3 (fun w' => w'.cell? ⟨g3, 0, none⟩ = some (.int .i64 f0) ∧ w'.cell? ⟨g3, 1, none⟩ = some (.int .i64 f1')) (first | go_keep) (fail)
      obtain ⟨w4, hw4⟩ : ∃ W, W = (w3.alloc (.cells #[.int .i64 f0, .int .i64 f1'] 129)).drew := ⟨_, rfl⟩
      rw [← hw4]
      have hb4 : Below w3.heap.size w3 w4 := by rw [hw4]; exact ((Below.refl _ _).alloc (Nat.le_refl _) _).drew
      have r0 : ∀ o, w4.cell? ⟨w3.heap.size, o, none⟩ = (#[.int .i64 f0, .int .i64 f1'] : Array Value)[o]? := fun o => by rw [hw4]; simp
      have z6 : w3.heap.size < w4.heap.size := by rw [hw4]; simp
      replace p0 := bx_below p0 (by omega) hb4
      replace p1 := bx_below p1 z4 hb4
      replace h1 : ∀ o, w4.frozen? ⟨w.heap.size + 1, o, none⟩ = false := fun o => by rw [(bcell hb4).2 _ o z4]; exact h1 o
      have HB4 : Hid (Below w.heap.size w w4) := HB3.out.trans (hb4.mono (by omega))
      have HBL : Hid (Below w3.heap.size w3 w4) := hb4
      have z7 : w.heap.size + 1 < w4.heap.size := by omega
      clear hw4 hb4 j0 j1
      by_cases hm : 20 < r.length
      · obtain ⟨e1, e2, e3⟩ := HM.out hm
        subst e1 e2 e3
        have hN10 : (20 : Int) < ((N3 - 1 : Nat) : Int) := by have := HN3.out; omega
        clear hm HM HK
        go_wp2_with fail
        refine bodyPost_ret (v := .agg #[.int .i64 2, .bool false, .int .i64 0, .int .i64 0, .slice none 0 0]) (by simp [results, Try.results30, go_sem, p1]) rfl ?_
        refine ⟨_, rfl, own_zcat _ _ _ (by have hB1 := HB4.out.size; simp; omega), ?_⟩
        have hB1 := HB4.out
        clear p0 p1 h1 HB3 HB4 r0
        go_grown
      · obtain ⟨e1, e2, e3⟩ := HK.out hm
        subst e1 e2 e3
        have hN10 : ¬ ((20 : Int) < ((N3 - 1 : Nat) : Int)) := by have := HN3.out; omega
        have HEQ : Hid (∀ W, Below w4.heap.size w4 W → Calls Try.prog 87 #[.slice (some ⟨g2, 0, none⟩) AL.length c2, .slice (some ⟨g3, 0, none⟩) N3 c3] W fun e w' => e = .returned (.bool (decide (AL = (f0, f1', ()) :: r))) ∧ Below W.heap.size W w') := fun W hW => iEqualS AL _ g2 0 _ c2 g3 0 _ c3 W rfl HN3.out (HRS2'.out.below (HBL.out.trans (hW.mono HBL.out.size))) (HRS3.out.below (HBL.out.trans (hW.mono HBL.out.size))) (by omega) (by omega)
        obtain ⟨DD, hDD⟩ : ∃ DD, DD = decide (AL = (f0, f1', ()) :: r) := ⟨_, rfl⟩
        rw [← hDD] at HEQ
        have HDD : Hid _ := hDD
        clear hm HM HK hDD
        go_wp2_with fail
        refine (HEQ.out _ (Below.refl _ _)).mono ?_
        rintro e w5 ⟨rfl, hb5⟩
        replace r0 := bx_below r0 z6 hb5
        replace p0 := bx_below p0 (by omega) hb5
        replace p1 := bx_below p1 z7 hb5
        replace h1 : ∀ o, w5.frozen? ⟨w.heap.size + 1, o, none⟩ = false := fun o => by rw [(bcell hb5).2 _ o z7]; exact h1 o
        have HB5 : Hid (Below w.heap.size w w5) := HB4.out.trans (hb5.mono (by omega))
        have HBM : Hid (Below w3.heap.size w3 w5) := HBL.out.trans (hb5.mono HBL.out.size)
        have z8 : w.heap.size + 1 < w5.heap.size := Nat.lt_of_lt_of_le z7 hb5.size
        have hne : ¬ (w.heap.size + 1 = w3.heap.size) := by omega
        clear hb5 HEQ
        go_wp2_with fail
        refine bodyPost_ret (v := .agg #[.int .i64 0, .bool (!DD), .int .i64 y0, .int .i64 f1', .slice pa (N3 - 1) (c3 - 1)]) (by simp [results, Try.results30, go_sem, p1]) rfl ?_
        have HOF : Hid (Own w5 w2.heap.size w5.heap.size shSpansO r [.slice pa (N3 - 1) (c3 - 1)]) := HTL.out _ HBM.out
        refine ⟨.slice pa (N3 - 1) (c3 - 1), by rw [HDD.out], own_catO (WalkArith.wf_i64 (by have := HY.out; omega)) (WalkArith.wf_i64 (by omega)) ?_ (by have hB1 := HB5.out.size; simp; omega), ?_⟩
        · refine Own.mono (lo := w2.heap.size) (hi := w5.heap.size) (Own.keep HOF.out fun b hb1 hb2 => ?_) (by omega) (by simp)
          have hb3 : b ≠ w.heap.size + 1 := by omega
          repeat rw [Below.heap_setCell _ _ _ _ (by dsimp only; exact hb3)]
        · have hB1 := HB5.out
          clear p0 p1 h1 HB3 HB4 HB5 r0
          go_grown
    · replace hR : tkR a z = false := by simpa using hR
      obtain ⟨ec, eb, evv⟩ := tk_r hF hR
      rw [ec, eb, evv]
      rw [hF] at HC
      clear ec eb evv hF hr rk hT hB HSN hn20
      generalize x.1 = y0 at *
      generalize x.2.1 = y1 at *
      generalize x.2.2.1.length = n at *
      go_enter Try.func30, Try.ntmps30
      go_wp2_with fail
      refine (HC.out _ (by go_grown)).mono ?_
      rintro e w1 ⟨rfl, hb⟩
      have k0 : ∀ o, w1.cell? ⟨w.heap.size, o, none⟩ = (#[.int .i64 y0, .int .i64 y1, .slice va n cap] : Array Value)[o]? := fun o => by rw [hb.cell (p := ⟨w.heap.size, o, none⟩) (by simp; omega)]; simp [go_sem]
      have k1 : ∀ o, w1.cell? ⟨w.heap.size + 1, o, none⟩ = (#[.int .i64 0, .bool false, .int .i64 0, .int .i64 0, .slice none 0 0] : Array Value)[o]? := fun o => by rw [hb.cell (p := ⟨w.heap.size + 1, o, none⟩) (by simp)]; simp [go_sem]
      have f1 : ∀ o, w1.frozen? ⟨w.heap.size + 1, o, none⟩ = false := fun o => by rw [hb.frozen (p := ⟨w.heap.size + 1, o, none⟩) (by simp)]; simp [go_sem]
      have HB : Hid (Below w.heap.size w w1) := Below.trans (by go_grown) (hb.mono (by simp; omega))
      have z1 : w.heap.size < w1.heap.size := by have := hb.size; simp at this; omega
      have z2 : w.heap.size + 1 < w1.heap.size := by have := hb.size; simp at this; omega
      clear hb HC
      go_wp2_with (go_at_call 84; refine (iLeaves _ _ _).mono ?_; rintro e w' ⟨rfl, hw⟩; subst w')
      refine bodyPost_ret (v := .agg #[.int .i64 3, .bool false, .int .i64 0, .int .i64 0, .slice none 0 0]) (by simp [results, Try.results30, go_sem, k1]) rfl ?_
      refine ⟨_, rfl, own_zcat _ _ _ (by have hB1 := HB.out.size; simp; omega), ?_⟩
      have hB1 := HB.out
      clear k0 k1 f1 HB
      go_grown
  · obtain ⟨ec, eb, evv⟩ := tk_f (a := a) (z := z) hF
    rw [ec, eb, evv]
    have hF' : (caF x != 0) = true := by simp [hF]
    clear ec eb evv hF hr rk hT hB
    generalize caF x = F at *
    generalize x.1 = y0 at *
    generalize x.2.1 = y1 at *
    generalize x.2.2.1.length = n at *
    go_enter Try.func30, Try.ntmps30
    go_wp2_with fail
    refine (HC.out _ (by go_grown)).mono ?_
    rintro e w1 ⟨rfl, hb⟩
    have k0 : ∀ o, w1.cell? ⟨w.heap.size, o, none⟩ = (#[.int .i64 y0, .int .i64 y1, .slice va n cap] : Array Value)[o]? := fun o => by rw [hb.cell (p := ⟨w.heap.size, o, none⟩) (by simp; omega)]; simp [go_sem]
    have k1 : ∀ o, w1.cell? ⟨w.heap.size + 1, o, none⟩ = (#[.int .i64 0, .bool false, .int .i64 0, .int .i64 0, .slice none 0 0] : Array Value)[o]? := fun o => by rw [hb.cell (p := ⟨w.heap.size + 1, o, none⟩) (by simp)]; simp [go_sem]
    have f1 : ∀ o, w1.frozen? ⟨w.heap.size + 1, o, none⟩ = false := fun o => by rw [hb.frozen (p := ⟨w.heap.size + 1, o, none⟩) (by simp)]; simp [go_sem]
    have HB : Hid (Below w.heap.size w w1) := Below.trans (by go_grown) (hb.mono (by simp; omega))
    have z1 : w.heap.size < w1.heap.size := by have := hb.size; simp at this; omega
    have z2 : w.heap.size + 1 < w1.heap.size := by have := hb.size; simp at this; omega
    clear hb HC
    go_wp2_with fail
    refine bodyPost_ret (v := .agg #[.int .i64 F, .bool false, .int .i64 0, .int .i64 0, .slice none 0 0]) (by simp [results, Try.results30, go_sem, k1]) rfl ?_
    refine ⟨_, rfl, own_zcat _ _ _ (by have hB1 := HB.out.size; simp; omega), ?_⟩
    have hB1 := HB.out
    clear k0 k1 f1 HB
    go_grown
end Go.Proofs.Ytioehciabgdbaaa
