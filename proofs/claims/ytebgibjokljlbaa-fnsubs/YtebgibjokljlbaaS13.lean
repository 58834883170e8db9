/- What the program answers of catches: their faults, a new one, places and numbers; nothing that was in memory turns; no condition but that there are at most a million spans. -/
import Derived.Test.YtebgibjokljlbaaRows
import Derived.Deep.RegionHeld3
import Derived.Laws.StructEq
import Derived.Test.YtebgibjokljlbaaS01
import Derived.Test.YtebgibjokljlbaaS03
import Derived.Test.YtebgibjokljlbaaS04
import Derived.Test.YtebgibjokljlbaaS11
import Derived.Test.YtebgibjokljlbaaS12
namespace Go.Proofs.Ytebgibjokljlbaa
open Go.RowKit
set_option linter.unusedVariables false
set_option maxRecDepth 8000
theorem iInC (v low high : Int) (w : World) :
    Calls Try.prog 68 #[.int .i64 v, .int .i64 low, .int .i64 high] w fun e w' => e = .returned (.bool (inC v low high)) ∧ w' = w := by
  by_cases h : low ≤ v
  · go_enter Try.func68, Try.ntmps68
    go_wp2
    go_ret
    exact ⟨ret_bool (by simp [inC, h]), rfl⟩
  · have h' : decide (low ≤ v) = false := by simp; omega
    go_enter Try.func68, Try.ntmps68
    go_wp2
    go_ret
    exact ⟨ret_bool (by simp [inC]; omega), rfl⟩
theorem iSpF (z0 z1 e0 : Int) (w : World) :
    Calls Try.prog 128 #[.agg #[.int .i64 z0, .int .i64 z1], .int .i64 e0] w fun e w' => e = .returned (.int .i64 (spF (z0, z1, ()) e0)) ∧ Below w.heap.size w w' := by
  by_cases k1 : 1000100 < z1
  · rw [spF_r (s := (z0, z1, ())) k1]
    go_enter Try.func128, Try.ntmps128
    go_wp2_with fail
    go_ret
    exact ⟨rfl, by go_grown⟩
  · by_cases k2 : z0 ≤ e0
    · rw [spF_f (s := (z0, z1, ())) k1 (Or.inl k2)]
      go_enter Try.func128, Try.ntmps128
      go_wp2_with fail
      go_ret
      exact ⟨rfl, by go_grown⟩
    · have k2' : decide (z0 ≤ e0) = false := by simp; omega
      by_cases k3 : z1 ≤ z0
      · rw [spF_f (s := (z0, z1, ())) k1 (Or.inr k3)]
        go_enter Try.func128, Try.ntmps128
        go_wp2_with fail
        go_ret
        exact ⟨rfl, by go_grown⟩
      · have k3' : decide (z1 ≤ z0) = false := by simp; omega
        rw [spF_ok (s := (z0, z1, ())) k1 (by show ¬ (z0 ≤ e0 ∨ z1 ≤ z0); omega)]
        go_enter Try.func128, Try.ntmps128
        go_wp2_with fail
        go_ret
        exact ⟨rfl, by go_grown⟩
set_option maxHeartbeats 4000000 in
theorem iCatchFault (x : DCatch) (v : Value) (w : World) (B : Nat) (hr : shCatch.Rd w B x [.int .i64 x.1, .int .i64 x.2.1, v]) (hB : B ≤ w.heap.size) (hT : totCatch x ≤ 1048576) :
    Calls Try.prog 87 #[.agg #[.int .i64 x.1, .int .i64 x.2.1, v]] w fun e w' => e = .returned (.int .i64 (caF x)) ∧ Below w.heap.size w w' := by
  obtain ⟨vv, ev, rk, -⟩ := rd_Catch hr
  simp only [List.cons.injEq, and_true, true_and] at ev
  subst ev
  obtain ⟨a, cap, ev2⟩ := row_form rk
  simp only [List.cons.injEq, and_true] at ev2
  subst ev2
  have hmx : x.2.2.1.length ≤ 9223372036854775807 := row_max rk
  by_cases hh : caHead x = true
  · have hh' := hh
    unfold caHead at hh'
    simp only [Bool.and_eq_true] at hh'
    obtain ⟨g1, g2⟩ := hh'
    by_cases hm : 20 < x.2.2.1.length
    · rw [caF_many hh (by omega)]
      clear hr hh rk hT
      generalize x.1 = y0 at *
      generalize x.2.1 = y1 at *
      generalize x.2.2.1.length = n at *
      go_enter Try.func87, Try.ntmps87
      go_wp2_with (go_at_call 68; refine (iInC _ _ _ _).mono ?_; rintro e w' ⟨rfl, hw⟩; subst w')
      go_ret
      exact ⟨rfl, by go_grown⟩
    · rw [caF_sps hh (by omega)]
      have HRd : Hid (∀ W, Below w.heap.size w W → shSpans.Rd W B x.2.2.1 [.slice a x.2.2.1.length cap]) := fun W hW => rk.below hB hW
      have hb2 := inC_yes g2
      clear hr hh rk hT
      obtain ⟨y0, y1, l, _⟩ := x
      simp only at *
      generalize hRR : spsF y1 l = R
      have HRR : Hid (spsF y1 l = R) := hRR
      clear hRR
      obtain ⟨hb20, hb21⟩ := hb2
      obtain ⟨n, hn⟩ : ∃ n, l.length = n := ⟨_, rfl⟩
      have HN : Hid (l.length = n) := hn
      rw [hn] at HRd hm hmx ⊢
      clear hn
      go_enter Try.func87, Try.ntmps87
      go_wp2_with (go_at_call 68; refine (iInC _ _ _ _).mono ?_; rintro e w' ⟨rfl, hw⟩; subst w')
      go_loopw [3, 26] (fun t i wr => ∃ (k : Nat) (e : Int), k ≤ n ∧ i = .int .i64 k ∧ t = .int .i64 e ∧ Hid (spsF e (l.drop k) = R) ∧ Hid (Below w.heap.size w wr)) (fun _ i _ => n - (intOf i).toNat)
      case atStart => exact ⟨0, y1, Nat.zero_le _, rfl, rfl, HRR.out, (by show Below _ _ _; go_grown)⟩
      case round =>
        obtain ⟨k, e, hk, rfl, rfl, hfe, HB⟩ := hrel
        clear g1 g2 HRR
        by_cases hlt : k < n
        · have hkl : k < l.length := by have := HN.out; omega
          obtain ⟨b, off, ha, hb, q0, q1, -, -⟩ := at_Spans (HRd.out wr HB.out) k hkl
          subst ha
          have hst := spsF_at e hkl
          rw [hfe.out] at hst
          have HST : Hid _ := hst
          clear hst hfe
          have hkn : (k : Int) < (n : Int) := by omega
          generalize hx : l[k] = X at *
          obtain ⟨z0, z1, _⟩ := X
          simp only at *
          clear hx
          have HC : Hid (∀ W : World, Calls Try.prog 128 #[.agg #[.int .i64 z0, .int .i64 z1], .int .i64 e] W fun e w' => e = .returned (.int .i64 (spF (z0, z1, ()) _)) ∧ Below W.heap.size W w') := fun W => iSpF z0 z1 e W
          generalize spF (z0, z1, ()) e = F at *
          have hbW' : wr.heap.size ≤ wr.heap.size := Nat.le_refl _
          by_cases hF : F = 0
          · have hs := HST.out
            rw [if_pos hF] at hs
            have HF : Hid _ := hs
            have hF' : (F != 0) = false := by simp [hF]
            clear HST hs
            go_wp2_with fail
            refine (HC.out _).mono ?_
            rintro e w1 ⟨rfl, hb1⟩
            have k5 : ∀ o, w1.cell? ⟨wr.heap.size, o, none⟩ = (#[.int .i64 z0, .int .i64 z1] : Array Value)[o]? := fun o => by rw [hb1.cell (p := ⟨wr.heap.size, o, none⟩) (by simp)]; simp [go_sem]
            have hbW : Below wr.heap.size wr w1 := Below.trans (by go_grown) (hb1.mono (by simp))
            have HB1 : Hid (Below w.heap.size w w1) := HB.out.trans (hbW.mono HB.out.size)
            clear hbW hb1
            go_wp2_with fail
            go_roundw
            case rel => exact ⟨k + 1, z1, by omega, by go_num, rfl, HF.out.symm, HB1.out⟩
            case measure => simp [intOf]; omega
          · have hs := HST.out
            rw [if_neg hF] at hs
            have hF' : (F != 0) = true := by simp [hF]
            subst hs
            clear HST
            go_wp2_with fail
            refine (HC.out _).mono ?_
            rintro e w1 ⟨rfl, hb1⟩
            have hbW : Below wr.heap.size wr w1 := Below.trans (by go_grown) (hb1.mono (by simp))
            have HB1 : Hid (Below w.heap.size w w1) := HB.out.trans (hbW.mono HB.out.size)
            clear hbW hb1
            go_wp2_with fail
            go_ret
            exact ⟨rfl, HB1.out⟩
        · obtain rfl : k = n := by omega
          have he := hfe.out
          rw [← HN.out, spsF_end] at he
          subst he
          go_wp2_with fail
          go_ret
          exact ⟨rfl, HB.out⟩
  · have hh' : caHead x = false := by simpa using hh
    rw [caF_head hh']
    clear hr hh rk hT
    unfold caHead at hh'
    generalize x.1 = y0 at *
    generalize x.2.1 = y1 at *
    generalize x.2.2.1.length = n at *
    by_cases g1 : inC y0 0 65535 = true
    · have g2 : inC y1 0 1000000 = false := by simpa [g1] using hh'
      clear hh'
      go_enter Try.func87, Try.ntmps87
      go_wp2_with (go_at_call 68; refine (iInC _ _ _ _).mono ?_; rintro e w' ⟨rfl, hw⟩; subst w')
      go_ret
      exact ⟨rfl, by go_grown⟩
    · replace g1 : inC y0 0 65535 = false := by simpa using g1
      clear hh'
      go_enter Try.func87, Try.ntmps87
      go_wp2_with (go_at_call 68; refine (iInC _ _ _ _).mono ?_; rintro e w' ⟨rfl, hw⟩; subst w')
      go_ret
      exact ⟨rfl, by go_grown⟩
end Go.Proofs.Ytebgibjokljlbaa
namespace Go.Proofs.Ytebgibjokljlbaa
open Go.RowKit
set_option linter.unusedVariables false
set_option maxRecDepth 8000
theorem allS_len (x : DCatch) : (allS x).length = x.2.2.1.length + 1 := rfl
theorem all_bd {x : DCatch} (h : caF x = 0) : ∀ t ∈ allS x, 0 ≤ t.1 ∧ t.1 ≤ t.2.1 ∧ t.2.1 ≤ 1000100 := by
  obtain ⟨_, h2, _, h4⟩ := ca_ok h
  intro t ht
  rcases List.mem_cons.1 ht with rfl | ht
  · exact ⟨Int.le_refl _, h2.1, by show x.2.1 ≤ _; omega⟩
  · have := (sps_sp h4).2 t ht
    omega
theorem sps_bd {x : DCatch} (h : caF x = 0) : ∀ t ∈ x.2.2.1, 0 ≤ t.1 ∧ t.1 ≤ t.2.1 ∧ t.2.1 ≤ 1000100 := fun t ht => all_bd h t (List.mem_cons_of_mem _ ht)
end Go.Proofs.Ytebgibjokljlbaa
namespace Go.Proofs.Ytebgibjokljlbaa
set_option linter.unusedVariables false
set_option maxRecDepth 8000
end Go.Proofs.Ytebgibjokljlbaa
namespace Go.Proofs.Ytebgibjokljlbaa
open Go.RowKit
set_option linter.unusedVariables false
set_option maxRecDepth 8000
theorem os_none (w : World) (H : Nat) (hH : w.heap.size = H) : OS (w.alloc (.cells #[] 172)) H (.slice (some ⟨H, 0, none⟩) 0 0) [] := by
  subst hH
  exact OS.lit w [] (fun s hs => by simp at hs) (by simp)
theorem own_catO {w : World} {lo hi : Nat} {y0 y1 : Int} {l : List DSpan} {v : Value} (h0 : (Lit.int .i64 y0).wf = true) (h1 : (Lit.int .i64 y1).wf = true) (h : Own w lo hi shSpansO l [v]) (hh : lo ≤ hi) : Own w lo hi shCatchO (y0, y1, l, ()) [.int .i64 y0, .int .i64 y1, v] :=
  hOwnCons (hOwnInt w lo lo h0) (hOwnCons (hOwnInt w lo lo h1) (hOwnCons h (hOwnNil w hi hi) hh (Nat.le_refl _)) (Nat.le_refl _) hh) (Nat.le_refl _) hh
theorem own_spsNone (w : World) (lo hi : Nat) : Own w lo hi shSpansO [] [.slice none 0 0] := ⟨[], Or.inl ⟨rfl, rfl, none, 0, rfl, Nat.zero_le _, fun _ => rfl⟩, by simp, by simp⟩
theorem own_zcat (w : World) (lo hi : Nat) (hh : lo ≤ hi) : Own w lo hi shCatchO zCat [.int .i64 0, .int .i64 0, .slice none 0 0] := own_catO (WalkArith.wf_i64 (by omega)) (WalkArith.wf_i64 (by omega)) (own_spsNone w lo hi) hh
set_option maxHeartbeats 2000000 in
theorem sL7Copy (y0 y1 : Int) (l : List DSpan) (a : Option Addr) (n cap : Nat) (w : World) (hn : l.length = n) (h : RS w a l) (hnil : a = none → cap = 0) (hm : n ≤ 100000) :
    Calls Try.prog 123 #[.agg #[.int .i64 y0, .int .i64 y1, .slice a n cap]] w fun e w' => ∃ ga c, e = .returned (.agg #[.int .i64 y0, .int .i64 y1, .slice ga n c]) ∧ OS w' w.heap.size (.slice ga n c) l ∧ Below w.heap.size w w' := by
  have HRS : Hid (∀ W, Below w.heap.size w W → RS W a l) := fun W hW => h.below hW
  have HN : Hid (l.length = n) := hn
  clear h hn
  go_enter Try.func123, Try.ntmps123
  go_wp2_with (at_builtin; refine app_plS _ rfl _ _ rfl (w.heap.size + 2) (.slice (some ⟨w.heap.size + 2, 0, none⟩) 0 0) [] (by rfl) (os_none _ _ (by simp)) a l n cap HN.out (by rfl) (HRS.out _ (by go_grown)) hnil (by simp; omega) (by simp) ?_; intro v' w1 ho1 hb1 hg1 hat1; obtain ⟨ga, c, ev, -⟩ := ho1.rs; rw [List.nil_append] at ho1 ev; rw [HN.out] at ev; subst ev; (have k0 : ∀ o, w1.cell? ⟨w.heap.size, o, none⟩ = (#[.int .i64 y0, .int .i64 y1, .slice a n cap] : Array Value)[o]? := (fun o => (by rw [hb1.cell (p := ⟨w.heap.size, o, none⟩) (by simp)]; simp [go_sem]))); (have k1 : ∀ o, w1.cell? ⟨w.heap.size + 1, o, none⟩ = (#[.int .i64 0, .int .i64 0, .slice none 0 0] : Array Value)[o]? := (fun o => (by rw [hb1.cell (p := ⟨w.heap.size + 1, o, none⟩) (by simp)]; simp [go_sem]))); (have f0 : ∀ o, w1.frozen? ⟨w.heap.size, o, none⟩ = false := (fun o => (by rw [hb1.frozen (p := ⟨w.heap.size, o, none⟩) (by simp)]; simp [go_sem]))); (have f1 : ∀ o, w1.frozen? ⟨w.heap.size + 1, o, none⟩ = false := (fun o => (by rw [hb1.frozen (p := ⟨w.heap.size + 1, o, none⟩) (by simp)]; simp [go_sem]))); (have HB1 : Hid (Below w.heap.size w w1) := Below.trans (by go_grown) (hb1.mono (by omega))); (have HO1 : Hid (OS w1 (w.heap.size + 2) (.slice ga n c) l) := ho1); (have z1 : w.heap.size + 2 < w1.heap.size := (by have := hb1.size; simp at this; omega)); clear ho1 hb1 hg1 hat1)
  refine bodyPost_ret (v := .agg #[.int .i64 y0, .int .i64 y1, .slice ga n c]) (by simp [results, Try.results123, go_sem, k1]) rfl ?_
  refine ⟨ga, c, rfl, ?_, ?_⟩
  · refine OS.mono (base := w.heap.size + 2) (HO1.out.keeps fun b hb1 _ => ?_) (by omega)
    have h1 : b ≠ w.heap.size := by omega
    have h2 : b ≠ w.heap.size + 1 := by omega
    repeat rw [Below.heap_setCell _ _ _ _ (by dsimp only; first | exact h1 | exact h2)]
  · have hB1 := HB1.out
    clear k0 k1 f0 f1 HB1
    go_grown
set_option maxHeartbeats 2000000 in
theorem iCopyCatch (y0 y1 : Int) (l : List DSpan) (a : Option Addr) (n cap : Nat) (w : World) (hn : l.length = n) (h : RS w a l) (hnil : a = none → cap = 0) (hm : n ≤ 100000) :
    Calls Try.prog 115 #[.agg #[.int .i64 y0, .int .i64 y1, .slice a n cap]] w fun e w' => ∃ ga c, e = .returned (.agg #[.int .i64 y0, .int .i64 y1, .slice ga n c]) ∧ OS w' w.heap.size (.slice ga n c) l ∧ Below w.heap.size w w' := by
  have HRS : Hid (∀ W, Below w.heap.size w W → RS W a l) := fun W hW => h.below hW
  have HN : Hid (l.length = n) := hn
  clear h hn
  go_enter Try.func115, Try.ntmps115
  go_wp2_with (at_builtin; refine app_plS _ rfl _ _ rfl (w.heap.size + 2) (.slice none 0 0) [] (by rfl) (OS.nil _ _) a l n cap HN.out (by rfl) (HRS.out _ (by go_grown)) hnil (by simp; omega) (by simp) ?_; intro v' w1 ho1 hb1 hg1 hat1; obtain ⟨ga, c, ev, -⟩ := ho1.rs; rw [List.nil_append] at ho1 ev; rw [HN.out] at ev; subst ev; (have k0 : ∀ o, w1.cell? ⟨w.heap.size, o, none⟩ = (#[.int .i64 y0, .int .i64 y1, .slice a n cap] : Array Value)[o]? := (fun o => (by rw [hb1.cell (p := ⟨w.heap.size, o, none⟩) (by simp)]; simp [go_sem]))); (have k1 : ∀ o, w1.cell? ⟨w.heap.size + 1, o, none⟩ = (#[.int .i64 0, .int .i64 0, .slice none 0 0] : Array Value)[o]? := (fun o => (by rw [hb1.cell (p := ⟨w.heap.size + 1, o, none⟩) (by simp)]; simp [go_sem]))); (have f0 : ∀ o, w1.frozen? ⟨w.heap.size, o, none⟩ = false := (fun o => (by rw [hb1.frozen (p := ⟨w.heap.size, o, none⟩) (by simp)]; simp [go_sem]))); (have f1 : ∀ o, w1.frozen? ⟨w.heap.size + 1, o, none⟩ = false := (fun o => (by rw [hb1.frozen (p := ⟨w.heap.size + 1, o, none⟩) (by simp)]; simp [go_sem]))); (have HB1 : Hid (Below w.heap.size w w1) := Below.trans (by go_grown) (hb1.mono (by omega))); (have HO1 : Hid (OS w1 (w.heap.size + 2) (.slice ga n c) l) := ho1); (have z1 : w.heap.size + 1 < w1.heap.size := (by have := hb1.size; simp at this; omega)); clear ho1 hb1 hg1 hat1)
  refine bodyPost_ret (v := .agg #[.int .i64 y0, .int .i64 y1, .slice ga n c]) (by simp [results, Try.results115, go_sem, k1]) rfl ?_
  refine ⟨ga, c, rfl, ?_, ?_⟩
  · refine OS.mono (base := w.heap.size + 2) (HO1.out.keeps fun b hb1 _ => ?_) (by omega)
    have h1 : b ≠ w.heap.size := by omega
    have h2 : b ≠ w.heap.size + 1 := by omega
    repeat rw [Below.heap_setCell _ _ _ _ (by dsimp only; first | exact h1 | exact h2)]
  · have hB1 := HB1.out
    clear k0 k1 f0 f1 HB1
    go_grown
end Go.Proofs.Ytebgibjokljlbaa
namespace Go.Proofs.Ytebgibjokljlbaa
open Go.RowKit
set_option linter.unusedVariables false
set_option maxRecDepth 8000
def JR (l : List DSpan) (k : Nat) (J : List DSpan) : Prop := (k = 0 ∧ J = []) ∨ ∃ front c, J = front ++ [c] ∧ front ++ joinG c (l.drop k) = joinT l
theorem JR.first {l : List DSpan} (hk : 0 < l.length) : JR l 1 ([] ++ [l[0]]) := by
  refine Or.inr ⟨[], l[0], rfl, ?_⟩
  cases l with
  | nil => simp at hk
  | cons s l => rfl
theorem JR.join {l front : List DSpan} {c : DSpan} {k : Nat} (hk : k < l.length) (h : front ++ joinG c (l.drop k) = joinT l) (hle : l[k].1 ≤ c.2.1) : JR l (k + 1) (front ++ [(c.1, max c.2.1 l[k].2.1, ())]) := by
  refine Or.inr ⟨front, _, rfl, ?_⟩
  rw [← h, List.drop_eq_getElem_cons hk, joinG, if_pos hle]
theorem JR.end_ {l J : List DSpan} (h : JR l l.length J) : J = joinT l := by
  rcases h with ⟨h0, rfl⟩ | ⟨front, c, rfl, h⟩
  · have : l = [] := List.length_eq_zero_iff.1 h0
    subst this; rfl
  · rw [List.drop_length] at h; exact h
theorem OS.some_ {w : World} {base : Nat} {v : Value} {l : List DSpan} (h : OS w base v l) (hl : 0 < l.length) : ∃ g cap, v = .slice (some ⟨g, 0, none⟩) l.length cap ∧ base ≤ g ∧ g < w.heap.size ∧ l.length ≤ cap ∧ cap ≤ maxLen := by
  obtain ⟨h1, ⟨e, hz⟩ | ⟨g, cap, cur, e, hg, hh, hc, hm, _⟩⟩ := h.own
  · omega
  · exact ⟨g, cap, e, hg, heap_lt hh, hc, hm⟩
theorem OS.cell {w : World} {base g n cap : Nat} {l : List DSpan} (h : OS w base (.slice (some ⟨g, 0, none⟩) n cap) l) {i : Nat} (hi : i < l.length) : w.cell? ⟨g, i * 2, none⟩ = some (.int .i64 l[i].1) ∧ w.cell? ⟨g, i * 2 + 1, none⟩ = some (.int .i64 l[i].2.1) ∧ ∀ j, w.frozen? ⟨g, j, none⟩ = false := by
  have hn : n = l.length := by
    obtain ⟨a, cp, e, _⟩ := h.rs
    simp only [Value.slice.injEq] at e; exact e.2.1
  have ho := h.own
  subst hn
  refine ⟨?_, ?_, fun j => ho.frozenAt j⟩
  · rw [ho.cellAt (i * 2) (by omega)]; exact (cellsS_get hi).1
  · rw [ho.cellAt (i * 2 + 1) (by omega)]; exact (cellsS_get hi).2
theorem rs_lit (w : World) (H : Nat) (hH : w.heap.size = H) (a b : Int) (h1 : (Lit.int .i64 a).wf = true) (h2 : (Lit.int .i64 b).wf = true) : RS (w.alloc (.cells #[.int .i64 a, .int .i64 b] 172)) (some ⟨H, 0, none⟩) [(a, b, ())] := by
  subst hH
  have h := OS.lit w [(a, b, ())] (fun s hs => by simp only [List.mem_singleton] at hs; subst hs; exact ⟨h1, h2⟩) (by simp)
  obtain ⟨ad, cp, e, rs, _⟩ := h.rs
  simp only [Value.slice.injEq] at e
  rw [← e.1] at rs
  exact rs
end Go.Proofs.Ytebgibjokljlbaa
namespace Go.Proofs.Ytebgibjokljlbaa
open Go.RowKit
set_option linter.unusedVariables false
set_option maxRecDepth 8000
theorem OS.tailO {w : World} {base hi g n cap : Nat} {f : DSpan} {r : List DSpan} (h : OS w base (.slice (some ⟨g, 0, none⟩) n cap) (f :: r)) (hh : w.heap.size ≤ hi) : Own w base hi shSpansO r [.slice (if cap = 1 then some ⟨g, 0, none⟩ else some ⟨g, 2, none⟩) (n - 1) (cap - 1)] := by
  obtain ⟨a, c, e, _, _, hc, hm⟩ := h.rs
  simp only [Value.slice.injEq] at e
  obtain ⟨rfl, hn, rfl⟩ := e
  by_cases h1 : cap = 1
  · rw [if_pos h1]
    have : r = [] := by
      have : r.length = 0 := by simp at hc; omega
      exact List.length_eq_zero_iff.1 this
    subst this
    exact ⟨[], Or.inl ⟨rfl, rfl, some ⟨g, 0, none⟩, cap - 1, by simp [hn], by omega, by simp⟩, by simp, by simp⟩
  · rw [if_neg h1]
    obtain ⟨g', ⟨e, ho⟩ | ⟨e, _⟩⟩ := h.ownO hh 1 (by simp)
    · simp only [Option.some.injEq, Addr.mk.injEq, and_true] at e
      subst e
      rw [hn]
      simpa using ho
    · cases e
theorem aft_bd {x : DCatch} {a z : Int} (h : caF x = 0) (hR : tkR a z = true) : ∀ t ∈ aftS x a z, 0 ≤ t.1 ∧ t.2.1 ≤ 1000100 := by
  obtain ⟨p0, p1, p2, p3, p4⟩ := tkR_yes hR
  intro t ht
  unfold aftS at ht
  split at ht
  · have h1 := insS_from (a := a) (b := a + z) (e := -1) (l := allS x) (by omega) (fun t ht => by have := all_bd h t ht; omega) t ht
    have h2 := insS_to (a := a) (b := a + z) (e := 1000100) (l := allS x) (by omega) (fun t ht => (all_bd h t ht).2.2) t ht
    omega
  · have := all_bd h t ht; omega
theorem aft_len {x : DCatch} {a z : Int} : (aftS x a z).length ≤ x.2.2.1.length + 2 := by
  unfold aftS
  split
  · have := insS_len (a := a) (b := a + z) (allS x); rw [allS_len] at this; omega
  · rw [allS_len]; omega
theorem aft_to {x : DCatch} {a z : Int} (h : caF x = 0) (hR : tkR a z = true) : ∀ t ∈ aftS x a z, t.1 ≤ t.2.1 := by
  obtain ⟨p0, p1, p2, p3, p4⟩ := tkR_yes hR
  unfold aftS
  split
  · exact (insS_sp (by omega) (allS_sp h)).le
  · exact (allS_sp h).le
end Go.Proofs.Ytebgibjokljlbaa
namespace Go.Proofs.Ytebgibjokljlbaa
open Go.RowKit
set_option linter.unusedVariables false
set_option maxRecDepth 8000
def seenB (next : Int) (l : List DSpan) (k : Int) : Bool := decide (k < next) || l.any fun s => inC k s.1 (s.2.1 - 1)
set_option maxHeartbeats 2000000 in
theorem sL7Seen (y0 y1 k : Int) (l : List DSpan) (a : Option Addr) (n cap sb : Nat) (w : World) (hn : l.length = n) (hc : ∀ o, w.cell? ⟨sb, o, none⟩ = (#[.int .i64 y0, .int .i64 y1, .slice a n cap] : Array Value)[o]?) (h : RS w a l) (hm : n ≤ 100000) (hbd : ∀ t ∈ l, 0 ≤ t.1 ∧ t.1 ≤ t.2.1 ∧ t.2.1 ≤ 1000100) :
    Calls Try.prog 157 #[.pointer (some ⟨sb, 0, none⟩), .int .i64 k] w fun e w' => e = .returned (.bool (seenB y1 l k)) ∧ ∃ m, w' = w.drewN m := by
  have c1 : w.cell? ⟨sb, 1, none⟩ = some (.int .i64 y1) := hc 1
  have c2 : w.cell? ⟨sb, 2, none⟩ = some (.slice a n cap) := hc 2
  have HN : Hid (l.length = n) := hn
  have HRS : Hid _ := h
  have HBD : Hid _ := hbd
  clear h hn hc hbd
  by_cases hk : k < y1
  · have hR : seenB y1 l k = true := by unfold seenB; simp [hk]
    rw [hR]
    go_enter Try.func157, Try.ntmps157
    go_wp2_with fail
    go_ret
    exact ⟨rfl, 0, rfl⟩
  · have hR : seenB y1 l k = (l.drop 0).any fun s => inC k s.1 (s.2.1 - 1) := by unfold seenB; simp [hk]
    rw [hR]
    obtain ⟨R, hRR⟩ : ∃ R, R = (l.drop 0).any fun s => inC k s.1 (s.2.1 - 1) := ⟨_, rfl⟩
    have HRR : Hid ((l.drop 0).any (fun s => inC k s.1 (s.2.1 - 1)) = R) := hRR.symm
    rw [← hRR]
    clear hRR hR
    go_enter Try.func157, Try.ntmps157
    go_wp2_with fail
    go_loopw [5] (fun i wr => ∃ (j m : Nat), j ≤ n ∧ i = .int .i64 j ∧ Hid ((l.drop j).any (fun s => inC k s.1 (s.2.1 - 1)) = R) ∧ wr = w.drewN m) (fun i _ => n - (intOf i).toNat)
    case atStart => exact ⟨0, 0, Nat.zero_le _, rfl, HRR, rfl⟩
    case round =>
      obtain ⟨j, m, hj, rfl, hs, hwr⟩ := hrel
      have HWR : Hid (wr = w.drewN m) := hwr
      have d1 : wr.cell? ⟨sb, 1, none⟩ = some (.int .i64 y1) := by rw [hwr, World.cell?_drewN]; exact c1
      have d2 : wr.cell? ⟨sb, 2, none⟩ = some (.slice a n cap) := by rw [hwr, World.cell?_drewN]; exact c2
      by_cases hlt : j < n
      · have hjl : j < l.length := by have := HN.out; omega
        rcases HRS.out.mem with e0 | ⟨b, off, ha, hcc⟩
        · exfalso; rw [e0] at hjl; simp at hjl
        · subst ha
          obtain ⟨q0, q1⟩ := hcc j hjl
          replace q0 : wr.cell? ⟨b, off + j * 2, none⟩ = some (.int .i64 l[j].1) := by rw [hwr, World.cell?_drewN]; exact q0
          replace q1 : wr.cell? ⟨b, off + j * 2 + 1, none⟩ = some (.int .i64 l[j].2.1) := by rw [hwr, World.cell?_drewN]; exact q1
          have hp := HBD.out l[j] (List.getElem_mem hjl)
          have hst := hs.out
          rw [List.drop_eq_getElem_cons hjl, List.any_cons] at hst
          have HST : Hid _ := hst
          have hjn : (j : Int) < (n : Int) := by omega
          generalize l[j].1 = z0 at *
          generalize l[j].2.1 = z1 at *
          obtain ⟨hp0, hp1, hp2⟩ := hp
          have hw64 : IntKind.i64.wrap (z1 - 1) = z1 - 1 := by simp only [IntKind.wrap, IntKind.bits, IntKind.signed]; simp; omega
          clear hs hcc hst HRR c1 c2 hwr
          by_cases hin : inC k z0 (z1 - 1) = true
          · have hR : R = true := by have := HST.out; rw [hin] at this; simpa using this.symm
            subst hR
            have HIC : Hid (∀ W, Calls Try.prog 97 #[.int .i64 k, .int .i64 z0, .int .i64 (z1 - 1)] W fun e w' => e = .returned (.bool true) ∧ w' = W) := fun W => by rw [← hin]; exact sInC _ _ _ _
            go_wp2_with fail
            go_quiet ((first | (go_at_call 97; exact Calls.quiet_of_same (HIC.out _))))
            go_wp2_with fail
            go_ret
            exact ⟨rfl, _, by rw [HWR.out, World.drewN_drewN]⟩
          · replace hin : inC k z0 (z1 - 1) = false := by simpa using hin
            have HS2 : Hid ((l.drop (j + 1)).any (fun s => inC k s.1 (s.2.1 - 1)) = R) := by have := HST.out; rw [hin, Bool.false_or] at this; exact this
            clear HST
            have HIC : Hid (∀ W, Calls Try.prog 97 #[.int .i64 k, .int .i64 z0, .int .i64 (z1 - 1)] W fun e w' => e = .returned (.bool false) ∧ w' = W) := fun W => by rw [← hin]; exact sInC _ _ _ _
            go_wp2_with fail
            go_quiet ((first | (go_at_call 97; exact Calls.quiet_of_same (HIC.out _))))
            go_wp2_with fail
            go_roundw
            case rel => exact ⟨j + 1, _, by omega, by go_num, HS2, by rw [HWR.out, World.drewN_drewN]⟩
            case measure => simp [intOf]; omega
      · obtain rfl : j = n := by omega
        have he := hs.out
        rw [← HN.out, List.drop_length] at he
        replace he : R = false := he.symm
        subst he
        clear c1 c2 hwr
        go_wp2_with fail
        go_ret
        exact ⟨rfl, _, HWR.out⟩
end Go.Proofs.Ytebgibjokljlbaa
namespace Go.Proofs.Ytebgibjokljlbaa
open Go.RowKit
set_option linter.unusedVariables false
def unsN (next : Int) (l : List DSpan) (a : Int) : Nat → Bool
  | 0 => false
  | m + 1 => unsN next l a m || !seenB next l (a + m)
theorem unsN_iff {next : Int} {l : List DSpan} {a : Int} : ∀ (m : Nat), unsN next l a m = true ↔ ∃ k, a ≤ k ∧ k < a + m ∧ seenB next l k = false
  | 0 => by
    constructor
    · intro h; cases h
    · rintro ⟨k, h1, h2, _⟩; simp at h2; omega
  | m + 1 => by
    rw [unsN, Bool.or_eq_true, unsN_iff m]
    constructor
    · rintro (⟨k, h1, h2, h3⟩ | h)
      · exact ⟨k, h1, by push_cast; omega, h3⟩
      · exact ⟨a + m, by omega, by push_cast; omega, by simpa using h⟩
    · rintro ⟨k, h1, h2, h3⟩
      push_cast at h2
      by_cases hk : k < a + m
      · exact Or.inl ⟨k, h1, hk, h3⟩
      · have : k = a + m := by omega
        subst this
        right; simp [h3]
theorem seenB_iff {next k : Int} {l : List DSpan} (hk : 0 ≤ k) : seenB next l k = true ↔ seenL k ((0, next, ()) :: l) := by
  unfold seenB seenL
  rw [Bool.or_eq_true, List.any_eq_true]
  constructor
  · rintro (h | ⟨s, hs, h⟩)
    · exact ⟨(0, next, ()), by simp, hk, by simpa using h⟩
    · have := inC_yes h
      exact ⟨s, by simp [hs], by omega, by omega⟩
  · rintro ⟨s, hs, h1, h2⟩
    rcases List.mem_cons.1 hs with rfl | hs
    · left; simpa using h2
    · exact Or.inr ⟨s, hs, inC_mk h1 (by omega)⟩
theorem fresh_uns {x : DCatch} {a z : Int} (hF : caF x = 0) (hR : tkR a z = true) : unsN x.2.1 x.2.2.1 a z.toNat = decide (aftS x a z ≠ allS x) := by
  obtain ⟨p0, p1, p2, p3, p4⟩ := tkR_yes hR
  rw [Bool.eq_iff_iff, unsN_iff, decide_eq_true_eq]
  unfold aftS
  by_cases hz : 0 < z
  · rw [if_pos hz, fresh_iff (by omega) (allS_sp hF)]
    constructor
    · rintro ⟨k, h1, h2, h3⟩
      exact ⟨k, h1, by omega, fun h => by rw [(seenB_iff (by omega)).2 h] at h3; cases h3⟩
    · rintro ⟨k, h1, h2, h3⟩
      refine ⟨k, h1, by omega, ?_⟩
      cases hb : seenB x.2.1 x.2.2.1 k with
      | false => rfl
      | true => exact absurd ((seenB_iff (by omega)).1 hb) h3
  · rw [if_neg hz]
    constructor
    · rintro ⟨k, h1, h2, _⟩; omega
    · intro h; exact absurd rfl h
def mrgZ (zz : Bool) (a b : Int) : List DSpan → List DSpan × Int × Int
  | [] => ([], a, b)
  | s :: l => if zz = true ∨ s.2.1 < a ∨ b < s.1 then (s :: (mrgZ zz a b l).1, (mrgZ zz a b l).2) else mrgZ zz (min a s.1) (max b s.2.1) l
theorem mrgZ_f : ∀ (l : List DSpan) (a b : Int), mrgZ false a b l = mrgS a b l
  | [], a, b => rfl
  | s :: l, a, b => by
    rw [mrgZ, mrgS, mrgZ_f l, mrgZ_f l]
    simp
theorem mrgZ_t : ∀ (l : List DSpan) (a b : Int), mrgZ true a b l = (l, a, b)
  | [], a, b => rfl
  | s :: l, a, b => by rw [mrgZ, if_pos (Or.inl rfl), mrgZ_t l]
def MR (zz : Bool) (a b : Int) (l : List DSpan) (k : Nat) (K : List DSpan) (sa sb : Int) : Prop := (K ++ (mrgZ zz sa sb (l.drop k)).1, (mrgZ zz sa sb (l.drop k)).2) = mrgZ zz a b l
theorem MR.start {zz : Bool} {a b : Int} {l : List DSpan} : MR zz a b l 0 [] a b := by unfold MR; simp
theorem MR.keep {zz : Bool} {a b sa sb : Int} {l K : List DSpan} {k : Nat} (hk : k < l.length) (h : MR zz a b l k K sa sb) (hc : zz = true ∨ l[k].2.1 < sa ∨ sb < l[k].1) : MR zz a b l (k + 1) (K ++ [l[k]]) sa sb := by
  unfold MR at *
  rw [List.drop_eq_getElem_cons hk, mrgZ, if_pos hc] at h
  rw [List.append_assoc]
  exact h
theorem MR.join {zz : Bool} {a b sa sb : Int} {l K : List DSpan} {k : Nat} (hk : k < l.length) (h : MR zz a b l k K sa sb) (hc : ¬ (zz = true ∨ l[k].2.1 < sa ∨ sb < l[k].1)) : MR zz a b l (k + 1) K (min sa l[k].1) (max sb l[k].2.1) := by
  unfold MR at *
  rw [List.drop_eq_getElem_cons hk, mrgZ, if_neg hc] at h
  exact h
theorem MR.end_ {zz : Bool} {a b sa sb : Int} {l K : List DSpan} (h : MR zz a b l l.length K sa sb) : mrgZ zz a b l = (K, sa, sb) := by
  unfold MR at h
  rw [List.drop_length] at h
  simpa [mrgZ] using h.symm
theorem putS_split {a b : Int} : ∀ {K : List DSpan} {j : Nat}, j ≤ K.length → (∀ i (h : i < K.length), i < j → K[i].1 < a) → (∀ (h : j < K.length), ¬ K[j].1 < a) → putS a b K = (K.take j ++ [(a, b, ())]) ++ K.drop j
  | [], j, hj, _, _ => by
    have : j = 0 := by simpa using hj
    subst this; rfl
  | s :: K, 0, _, _, h2 => by
    have := h2 (by simp)
    rw [putS, if_neg (by simpa using this)]; rfl
  | s :: K, j + 1, hj, h1, h2 => by
    have h0 := h1 0 (by simp) (by omega)
    rw [putS, if_pos (by simpa using h0), putS_split (K := K) (j := j) (by simpa using hj) (fun i h hi => by have := h1 (i + 1) (by simpa using h) (by omega); simpa using this) (fun h => by have := h2 (by simpa using h); simpa using this)]
    rfl
def mdT (next : Int) (l : List DSpan) (a z : Int) : List DSpan := if 0 < z ∧ next < (mrgZ (z == 0) a (a + z) l).2.2 then putS (mrgZ (z == 0) a (a + z) l).2.1 (mrgZ (z == 0) a (a + z) l).2.2 (mrgZ (z == 0) a (a + z) l).1 else (mrgZ (z == 0) a (a + z) l).1
theorem mdT_is {x : DCatch} {a z : Int} (hF : caF x = 0) (hR : tkR a z = true) : ∃ f r, aftS x a z = f :: r ∧ modN x.2.1 (mdT x.2.1 x.2.2.1 a z) = (f.2.1, r) := by
  obtain ⟨p0, p1, p2, p3, p4⟩ := tkR_yes hR
  have hb := (ca_ok hF).2.1
  by_cases hz : 0 < z
  · have hz0 : (z == 0) = false := by simp; omega
    obtain ⟨s, r, h1, h2, h3⟩ := modS_ins (a := a) (b := a + z) (next := x.2.1) (l := x.2.2.1) p0 (by omega) hb.1 (allS_sp hF)
    refine ⟨s, r, by unfold aftS; rw [if_pos hz]; exact h1, ?_⟩
    rw [← h3]
    unfold mdT modS
    rw [hz0, mrgZ_f]
    simp [hz]
  · have hz0 : z = 0 := by omega
    subst hz0
    refine ⟨(0, x.2.1, ()), x.2.2.1, by unfold aftS; rw [if_neg hz]; rfl, ?_⟩
    have e : mdT x.2.1 x.2.2.1 a 0 = x.2.2.1 := by unfold mdT; simp [mrgZ_t]
    rw [e]
    have := (allS_sp hF).all
    unfold modN
    cases hl : x.2.2.1 with
    | nil => rfl
    | cons s r =>
      have h := this s (by rw [hl]; simp)
      replace h : x.2.1 < s.1 := h
      simp only
      rw [if_neg (by omega)]
end Go.Proofs.Ytebgibjokljlbaa
