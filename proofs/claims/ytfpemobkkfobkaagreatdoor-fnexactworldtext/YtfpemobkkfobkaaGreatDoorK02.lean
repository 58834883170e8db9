/- What the law's own helpers (measure, copy, compare) make of values of type Flight and slices of them; no condition but that there are at most a million parts. Written by hl.py. -/
import Derived.Test.YtfpemobkkfobkaaGreatDoorRows
import Derived.Deep.DeepCutAuto
import Derived.Deep.RegionHeld3
import Derived.Test.YtfpemobkkfobkaaGreatDoorK01
namespace Go.Proofs.YtfpemobkkfobkaaGreatDoor
open Go.RowKit
set_option linter.unusedVariables false

abbrev shFlight : Sh := .cons (.int .i64) (.cons (.int .i64) (.cons u8s (.cons (.int .i64) (.cons (.int .i64) (.nil)))))
abbrev DFlight : Type := Int × Int × List Int × Int × Int × Unit
def totFlight (x : DFlight) : Nat := x.2.2.1.length

theorem rd_Flight {w : World} {B : Nat} {x : DFlight} {cs : List Value} (h : shFlight.Rd w B x cs) : ∃ v, cs = [.int .i64 x.1, .int .i64 x.2.1, v, .int .i64 x.2.2.2.1, .int .i64 x.2.2.2.2.1] ∧ u8s.Rd w B x.2.2.1 [v] ∧ (Lit.int .i64 x.1).wf = true ∧ (Lit.int .i64 x.2.1).wf = true ∧ (Lit.int .i64 x.2.2.2.1).wf = true ∧ (Lit.int .i64 x.2.2.2.2.1).wf = true := by
  obtain ⟨p0, q0, e0, ⟨g0, w0⟩, p1, q1, e1, ⟨g1, w1⟩, p2, q2, e2, h2, p3, q3, e3, ⟨g3, w3⟩, p4, q4, e4, ⟨g4, w4⟩, hz⟩ := h
  have hz' : q4 = [] := hz
  have l := Sh.Rd.len _ _ _ h2
  replace l : p2.length = 1 := l
  match p2, l, h2 with
  | [v], _, h2 =>
    refine ⟨v, ?_, h2, w0, w1, w3, w4⟩
    rw [e0, g0, e1, g1, e2, e3, g3, e4, g4, hz']
    rfl

set_option maxHeartbeats 1000000 in
theorem lSzFlight (x : DFlight) (v : Value) (left : Int) (w : World) (B : Nat) (hr : shFlight.Rd w B x [.int .i64 x.1, .int .i64 x.2.1, v, .int .i64 x.2.2.2.1, .int .i64 x.2.2.2.2.1]) (hB : B ≤ w.heap.size) (h0 : 0 ≤ left) (h1 : left ≤ 1048576) :
    Calls Tryz.prog 142 #[.agg #[.int .i64 x.1, .int .i64 x.2.1, v, .int .i64 x.2.2.2.1, .int .i64 x.2.2.2.2.1], .int .i64 left] w fun e w' => e = .returned (.int .i64 (if left < totFlight x then -1 else left - totFlight x)) ∧ Below w.heap.size w w' := by
  obtain ⟨vv, ev, rk, wf0, wf1, wf3, wf4⟩ := rd_Flight hr
  simp only [List.cons.injEq, and_true, true_and] at ev
  subst ev
  have HC : Hid (∀ W, Below w.heap.size w W → Calls Tryz.prog 28 #[v, .int .i64 left] W fun e w' => e = .returned (.int .i64 (if left < totFlight x then -1 else left - totFlight x)) ∧ Below W.heap.size W w') := fun W hW => lSzBytes x.2.2.1 v left W B (rk.below hB hW) (Nat.le_trans hB hW.size) h0 h1
  obtain ⟨va, vc, ev2⟩ := row_form rk
  simp only [List.cons.injEq, and_true] at ev2
  subst ev2
  clear hr rk
  generalize totFlight x = N at *
  generalize x.1 = y0 at *
  generalize x.2.1 = y1 at *
  generalize x.2.2.2.1 = y3 at *
  generalize x.2.2.2.2.1 = y4 at *
  generalize x.2.2.1.length = n at *
  by_cases h : left < N
  · rw [if_pos h] at HC ⊢
    go_enter Tryz.func142, Tryz.ntmps142
    go_wp2_with fail
    refine (HC.out _ (by go_grown)).mono ?_
    rintro e w1 ⟨rfl, hb⟩
    go_wp2_with fail
    go_ret
    exact ⟨rfl, Below.trans (by go_grown) (hb.mono (by simp))⟩
  · rw [if_neg h] at HC ⊢
    have h2 : 0 ≤ left - (N : Int) := by omega
    go_enter Tryz.func142, Tryz.ntmps142
    go_wp2_with fail
    refine (HC.out _ (by go_grown)).mono ?_
    rintro e w1 ⟨rfl, hb⟩
    go_wp2_with fail
    go_ret
    exact ⟨rfl, Below.trans (by go_grown) (hb.mono (by simp))⟩

set_option maxHeartbeats 2000000 in
theorem lToFlight (x : DFlight) (v : Value) (w : World) (B : Nat) (hr : shFlight.Rd w B x [.int .i64 x.1, .int .i64 x.2.1, v, .int .i64 x.2.2.2.1, .int .i64 x.2.2.2.2.1]) (hB : B ≤ w.heap.size) (hT : totFlight x ≤ 1048576) :
    Calls Tryz.prog 143 #[.agg #[.int .i64 x.1, .int .i64 x.2.1, v, .int .i64 x.2.2.2.1, .int .i64 x.2.2.2.2.1]] w fun e w' => ∃ u, e = .returned (.agg #[.int .i64 x.1, .int .i64 x.2.1, u, .int .i64 x.2.2.2.1, .int .i64 x.2.2.2.2.1]) ∧ Own w' w.heap.size w'.heap.size shFlight x [.int .i64 x.1, .int .i64 x.2.1, u, .int .i64 x.2.2.2.1, .int .i64 x.2.2.2.2.1] ∧ Below w.heap.size w w' := by
  obtain ⟨vv, ev, rk, wf0, wf1, wf3, wf4⟩ := rd_Flight hr
  simp only [List.cons.injEq, and_true, true_and] at ev
  subst ev
  have HC : Hid (∀ W, Below w.heap.size w W → Calls Tryz.prog 36 #[v] W fun e w' => ∃ u, e = .returned u ∧ Own w' W.heap.size w'.heap.size u8s x.2.2.1 [u] ∧ Below W.heap.size W w') := fun W hW => lToBytes x.2.2.1 v W B (rk.below hB hW) (Nat.le_trans hB hW.size) hT
  obtain ⟨va, vc, ev2⟩ := row_form rk
  simp only [List.cons.injEq, and_true] at ev2
  subst ev2
  have HWF0 : Hid _ := wf0
  have HWF1 : Hid _ := wf1
  have HWF3 : Hid _ := wf3
  have HWF4 : Hid _ := wf4
  clear hr rk hT hB wf0 wf1 wf3 wf4
  obtain ⟨y0, y1, d, y3, y4, _⟩ := x
  simp only at *
  go_enter Tryz.func143, Tryz.ntmps143
  go_wp2_with fail
  refine (HC.out _ (by go_grown)).mono ?_
  rintro e w1 ⟨u, rfl, ho, hb1⟩
  obtain ⟨ua, uc, eu⟩ := row_form (ho.rd (Nat.le_refl _))
  simp only [List.cons.injEq, and_true] at eu
  subst eu
  have hz := hb1.size
  simp at hz
  simp only [World.size_alloc] at ho
  obtain ⟨hc, hf⟩ := bcell hb1
  have z1 : w.heap.size < w1.heap.size := by omega
  have z2 : w.heap.size + 1 < w1.heap.size := by omega
  have z3 : w.heap.size + 1 + 1 < w1.heap.size := by omega
  have HB : Hid _ := hb1
  have HO : Hid (Own w1 (w.heap.size + 1 + 1 + 1) w1.heap.size u8s d [.slice ua d.length uc]) := ho
  clear hb1 ho hz HC
  go_wp2_with fail
  have hB1 : Below w.heap.size w w1 := Below.trans (by go_grown) (HB.out.mono (by simp; omega))
  refine bodyPost_ret (v := .agg #[.int .i64 y0, .int .i64 y1, .slice ua d.length uc, .int .i64 y3, .int .i64 y4]) (by simp [results, Tryz.results143, go_sem, hc]) rfl ⟨_, rfl, ?_, ?_⟩
  · have h2 : Own w1 (w.heap.size + 1 + 1 + 1) w1.heap.size shFlight (y0, y1, d, y3, y4, ()) [.int .i64 y0, .int .i64 y1, .slice ua d.length uc, .int .i64 y3, .int .i64 y4] := hOwnCons (hOwnInt w1 _ (w.heap.size + 1 + 1 + 1) HWF0.out) (hOwnCons (hOwnInt w1 _ (w.heap.size + 1 + 1 + 1) HWF1.out) (hOwnCons HO.out (hOwnCons (hOwnInt w1 _ w1.heap.size HWF3.out) (hOwnCons (hOwnInt w1 _ w1.heap.size HWF4.out) (hOwnNil _ _ _) (Nat.le_refl _) (Nat.le_refl _)) (Nat.le_refl _) (Nat.le_refl _)) (by omega) (Nat.le_refl _)) (Nat.le_refl _) (by omega)) (Nat.le_refl _) (by omega)
    refine Own.mono (Own.keep h2 fun b hb hlt => ?_) (by omega) (by simp)
    repeat rw [Below.heap_setCell _ _ _ _ (by dsimp only; omega)]
  · clear hc hf HO HB
    go_grown

set_option maxHeartbeats 2000000 in
theorem lEqFlight (x : DFlight) (v u : Value) (w : World) (B : Nat) (hr : shFlight.Rd w B x [.int .i64 x.1, .int .i64 x.2.1, v, .int .i64 x.2.2.2.1, .int .i64 x.2.2.2.2.1]) (hr' : shFlight.Rd w B x [.int .i64 x.1, .int .i64 x.2.1, u, .int .i64 x.2.2.2.1, .int .i64 x.2.2.2.2.1]) (hB : B ≤ w.heap.size) (hT : totFlight x ≤ 1048576) :
    Calls Tryz.prog 155 #[.agg #[.int .i64 x.1, .int .i64 x.2.1, v, .int .i64 x.2.2.2.1, .int .i64 x.2.2.2.2.1], .agg #[.int .i64 x.1, .int .i64 x.2.1, u, .int .i64 x.2.2.2.1, .int .i64 x.2.2.2.2.1]] w fun e w' => e = .returned (.bool true) ∧ Below w.heap.size w w' := by
  obtain ⟨vv, ev, rk, wf0, wf1, wf3, wf4⟩ := rd_Flight hr
  simp only [List.cons.injEq, and_true, true_and] at ev
  subst ev
  obtain ⟨vv, ev, rk', -⟩ := rd_Flight hr'
  simp only [List.cons.injEq, and_true, true_and] at ev
  subst ev
  have HC : Hid (∀ W, Below w.heap.size w W → Calls Tryz.prog 46 #[v, u] W fun e w' => e = .returned (.bool true) ∧ Below W.heap.size W w') := fun W hW => lEqBytes x.2.2.1 v u W B (rk.below hB hW) (rk'.below hB hW) (Nat.le_trans hB hW.size) hT
  obtain ⟨va, vc, ev2⟩ := row_form rk
  simp only [List.cons.injEq, and_true] at ev2
  subst ev2
  obtain ⟨ua, uc, ev2⟩ := row_form rk'
  simp only [List.cons.injEq, and_true] at ev2
  subst ev2
  clear hr hr' rk rk' hT wf0 wf1 wf3 wf4
  generalize x.1 = y0 at *
  generalize x.2.1 = y1 at *
  generalize x.2.2.2.1 = y3 at *
  generalize x.2.2.2.2.1 = y4 at *
  generalize x.2.2.1.length = n at *
  go_enter Tryz.func155, Tryz.ntmps155
  go_wp2_with fail
  refine (HC.out _ (by go_grown)).mono ?_
  rintro e w1 ⟨rfl, hb1⟩
  have HB1 : Hid (Below w.heap.size w w1) := Below.trans (by go_grown) (hb1.mono (by simp; omega))
  have k0 : ∀ o, w1.cell? ⟨w.heap.size, o, none⟩ = (#[.int .i64 y0, .int .i64 y1, .slice va n vc, .int .i64 y3, .int .i64 y4] : Array Value)[o]? := fun o => by rw [(bcell hb1).1 _ o (by simp; omega)]; simp [go_sem]
  have k1 : ∀ o, w1.cell? ⟨w.heap.size + 1, o, none⟩ = (#[.int .i64 y0, .int .i64 y1, .slice ua n uc, .int .i64 y3, .int .i64 y4] : Array Value)[o]? := fun o => by rw [(bcell hb1).1 _ o (by simp)]; simp [go_sem]
  clear hb1 HC
  go_wp2_with fail
  go_ret
  exact ⟨rfl, HB1.out⟩

abbrev shFlights : Sh := .row 198 shFlight
def totFlights (l : List DFlight) : Nat := l.length + fsum totFlight l
theorem at_Flights {w : World} {B : Nat} {l : List DFlight} {a : Option Addr} {n cap : Nat} (h : shFlights.Rd w B l [.slice a n cap]) (k : Nat) (hk : k < l.length) : ∃ b off v, a = some ⟨b, off, none⟩ ∧ b < B ∧ w.cell? ⟨b, off + k * 5, none⟩ = some (.int .i64 l[k].1) ∧ w.cell? ⟨b, off + k * 5 + 1, none⟩ = some (.int .i64 l[k].2.1) ∧ w.cell? ⟨b, off + k * 5 + 2, none⟩ = some (v) ∧ w.cell? ⟨b, off + k * 5 + 3, none⟩ = some (.int .i64 l[k].2.2.2.1) ∧ w.cell? ⟨b, off + k * 5 + 4, none⟩ = some (.int .i64 l[k].2.2.2.2.1) ∧ shFlight.Rd w B l[k] [.int .i64 l[k].1, .int .i64 l[k].2.1, v, .int .i64 l[k].2.2.2.1, .int .i64 l[k].2.2.2.2.1] := by
  obtain ⟨a', cap', h1, h2, h3, b, off, h4, h5⟩ := h
  simp only [List.cons.injEq, Value.slice.injEq, and_true] at h1
  obtain ⟨rfl, -, -⟩ := h1
  obtain ⟨ea, hb⟩ := h4 (by intro e; subst e; simp at hk)
  obtain ⟨cs', g1, g2, g3⟩ := h5 k hk
  obtain ⟨v, e, -⟩ := rd_Flight g3
  subst e
  refine ⟨b, off, v, ea, hb, ?_, ?_, ?_, ?_, ?_, g3⟩
  · have := g2 0 (by decide); simpa [Sh.sz] using this
  · have := g2 1 (by decide); simpa [Sh.sz] using this
  · have := g2 2 (by decide); simpa [Sh.sz] using this
  · have := g2 3 (by decide); simpa [Sh.sz] using this
  · have := g2 4 (by decide); simpa [Sh.sz] using this

set_option maxHeartbeats 2000000 in
theorem lSzFlights (l : List DFlight) (v : Value) (left : Int) (w : World) (B : Nat) (hr : shFlights.Rd w B l [v]) (hB : B ≤ w.heap.size) (h0 : 0 ≤ left) (h1 : left ≤ 1048576) :
    Calls Tryz.prog 118 #[v, .int .i64 left] w fun e w' => e = .returned (.int .i64 (if left < totFlights l then -1 else left - totFlights l)) ∧ Below w.heap.size w w' := by
  obtain ⟨a, cap, ev⟩ := row_form hr
  simp only [List.cons.injEq, and_true] at ev
  subst ev
  have hmx : l.length ≤ 9223372036854775807 := row_max hr
  by_cases hA : left < l.length
  · rw [if_pos (by unfold totFlights; omega)]
    clear hr
    generalize l.length = n at *
    have h2 : left - (n : Int) < 0 := by omega
    go_enter Tryz.func118, Tryz.ntmps118
    go_wp2
    go_ret
    exact ⟨rfl, by go_grown⟩
  · obtain ⟨n, hn⟩ : ∃ n, l.length = n := ⟨_, rfl⟩
    rw [hn] at hr hmx hA ⊢
    have h2 : 0 ≤ left - (n : Int) := by omega
    generalize hRR : (if left < (totFlights l : Int) then -1 else left - (totFlights l : Int)) = R
    have HRR : Hid ((if left < (totFlights l : Int) then -1 else left - (totFlights l : Int)) = R) := hRR
    have HRd : Hid (∀ W, Below w.heap.size w W → shFlights.Rd W B l [.slice a n cap]) := fun W hW => hr.below hB hW
    have HN : Hid (l.length = n) := hn
    clear hRR hr hn
    go_enter Tryz.func118, Tryz.ntmps118
    go_wp2_with fail
    go_loopw [1, 5] (fun t i wr => ∃ (k : Nat) (x : Int), k ≤ n ∧ i = .int .i64 k ∧ t = .int .i64 x ∧ 0 ≤ x ∧ x ≤ left ∧ Hid (x = left - n - (fsum totFlight (l.take k) : Nat)) ∧ Below w.heap.size w wr) (fun _ i _ => n - (intOf i).toNat)
    case atStart => exact ⟨0, left - n, Nat.zero_le _, rfl, rfl, h2, by omega, (by simp [fsum] : left - (n : Int) = left - n - (fsum totFlight (l.take 0) : Nat)), Below.refl _ _⟩
    case round =>
      obtain ⟨k, x, hk, rfl, rfl, hx0, hx1, hxe, hbl⟩ := hrel
      by_cases hlt : k < n
      · have hkl : k < l.length := by have := HN.out; omega
        obtain ⟨b, off, v, ha, hb, c0, c1, c2, c3, c4, r3⟩ := at_Flights (HRd.out wr hbl) k hkl
        subst ha
        have HS : Hid (fsum totFlight (l.take (k + 1)) = fsum totFlight (l.take k) + totFlight l[k]) := fsum_take hkl
        have HS2 : Hid (fsum totFlight (l.take (k + 1)) ≤ fsum totFlight l) := fsum_le l (k + 1)
        obtain ⟨vv, ev, rk, -⟩ := rd_Flight r3
        simp only [List.cons.injEq, and_true, true_and] at ev
        subst ev
        obtain ⟨va, vc, ev2⟩ := row_form rk
        simp only [List.cons.injEq, and_true] at ev2
        subst ev2
        have HC : Hid (Calls Tryz.prog 142 #[.agg #[.int .i64 l[k].1, .int .i64 l[k].2.1, .slice va l[k].2.2.1.length vc, .int .i64 l[k].2.2.2.1, .int .i64 l[k].2.2.2.2.1], .int .i64 x] wr fun e w' => e = .returned (.int .i64 (if x < totFlight l[k] then -1 else x - totFlight l[k])) ∧ Below wr.heap.size wr w') := lSzFlight l[k] _ x wr B r3 (Nat.le_trans hB hbl.size) hx0 (by omega)
        have HB : Hid _ := hbl
        clear r3 rk hbl
        generalize totFlight l[k] = q at *
        generalize l[k].1 = y0 at *
        generalize l[k].2.1 = y1 at *
        generalize l[k].2.2.2.1 = y3 at *
        generalize l[k].2.2.2.2.1 = y4 at *
        generalize l[k].2.2.1.length = nn at *
        go_wp2_with fail
        refine HC.out.mono ?_
        rintro e w1 ⟨rfl, hb1⟩
        have HB1 : Hid (Below w.heap.size w w1) := HB.out.trans (hb1.mono HB.out.size)
        clear hb1 HC
        by_cases hq : x < q
        · rw [if_pos hq]
          go_wp2_with fail
          go_ret
          refine ⟨ret_int ?_, HB1.out⟩
          have := HS.out; have := HS2.out; have := hxe.out; have := HN.out
          rw [← HRR.out, if_pos (by unfold totFlights; omega)]
        · rw [if_neg hq]
          have hq2 : 0 ≤ x - (q : Int) := by omega
          have HE : Hid (x - q = left - n - (fsum totFlight (l.take (k + 1)) : Nat)) := by have := HS.out; have := hxe.out; show _ = _; omega
          have hq3 : x - (q : Int) ≤ left := by omega
          clear hq
          generalize x - (q : Int) = x2 at *
          go_wp2_with fail
          go_roundw
          case rel => exact ⟨k + 1, x2, by omega, by go_num, rfl, hq2, hq3, HE, HB1.out⟩
          case measure => simp [intOf]; omega
      · obtain rfl : k = n := by omega
        go_wp2_with fail
        go_ret
        refine ⟨ret_int ?_, hbl⟩
        have h3 := hxe.out; have h4 := HN.out
        rw [← h4, List.take_length] at h3
        rw [← HRR.out, if_neg (by unfold totFlights; omega)]
        unfold totFlights; omega

theorem info_Flight : (Tryz.prog.info? 198).map (fun i => (i.zero, i.size, i.bytes)) = some (some (.agg #[.int .i64 0, .int .i64 0, .slice none 0 0, .int .i64 0, .int .i64 0]), 5, 56) := by kernel_rfl
set_option maxHeartbeats 4000000 in
theorem lToFlights (l : List DFlight) (v : Value) (w : World) (B : Nat) (hr : shFlights.Rd w B l [v]) (hB : B ≤ w.heap.size) (hT : totFlights l ≤ 1048576) :
    Calls Tryz.prog 122 #[v] w fun e w' => ∃ u, e = .returned u ∧ Own w' w.heap.size w'.heap.size shFlights l [u] ∧ Below w.heap.size w w' := by
  obtain ⟨i0, hi, hz0, hz1, hz2⟩ := info_parts info_Flight
  obtain ⟨a, cap, ev⟩ := row_form hr
  simp only [List.cons.injEq, and_true] at ev
  subst ev
  have HT : Hid (∀ k (hk : k < l.length), totFlight l[k] ≤ 1048576) := fun k hk => by have := fsum_at totFlight hk; unfold totFlights at hT; omega
  have hn1 : l.length ≤ 1048576 := by unfold totFlights at hT; omega
  obtain ⟨n, hn⟩ : ∃ n, l.length = n := ⟨_, rfl⟩
  rw [hn] at hr hn1 ⊢
  have HRd : Hid (∀ W, Below w.heap.size w W → shFlights.Rd W B l [.slice a n cap]) := fun W hW => hr.below hB hW
  have HN : Hid (l.length = n) := hn
  clear hr hT hn
  go_enter Tryz.func122, Tryz.ntmps122
  go_wp2_with (at_make; refine wpList_make_full w rfl _ _ 84 rfl w.heap.size 198 i0 (.agg #[.int .i64 0, .int .i64 0, .slice none 0 0, .int .i64 0, .int .i64 0]) 5 Tryz.underlying84 hi hz0 hz1 .i64 .i64 _ _ n (by rfl) (by rfl) rfl rfl (by rw [hz2]; omega) (by unfold maxLen; omega) (Nat.le_refl _) ?_; intro w1 hown hgr)
  have hb1 : Below w.heap.size w w1 := (Below.refl _ _).grown hgr (Nat.le_refl _) (by intro k hk; cases hk)
  have hown0 : Own w1 w.heap.size w1.heap.size shFlights (l.take 0 ++ List.replicate (n - 0) shFlight.zero) [.slice (some ⟨w.heap.size, 0, none⟩) n n] := by
    have h := Own.made (e := shFlight) (z := .agg #[.int .i64 0, .int .i64 0, .slice none 0 0, .int .i64 0, .int .i64 0]) rfl hown
    exact h.tight
  have HO0 : Hid _ := hown0
  have HB0 : Hid _ := hb1
  clear hown hgr hown0 hb1 hi hz0 hz1 hz2
  go_loopw [4] (fun i wr => ∃ k : Nat, k ≤ n ∧ i = .int .i64 k ∧ Own wr w.heap.size wr.heap.size shFlights (l.take k ++ List.replicate (n - k) shFlight.zero) [.slice (some ⟨w.heap.size, 0, none⟩) n n] ∧ Below w.heap.size w wr) (fun i _ => n - (intOf i).toNat)
  case atStart => exact ⟨0, Nat.zero_le _, rfl, HO0.out, HB0.out⟩
  case round =>
    obtain ⟨k, hk, rfl, hown, hbl⟩ := hrel
    clear HO0 HB0
    by_cases hlt : k < n
    · have hkl : k < l.length := by have := HN.out; omega
      obtain ⟨b, off, v, ha, hb, c0, c1, c2, c3, c4, r3⟩ := at_Flights (HRd.out wr hbl) k hkl
      subst ha
      obtain ⟨vv, ev, rk, wf0, wf1, wf3, wf4⟩ := rd_Flight r3
      simp only [List.cons.injEq, and_true, true_and] at ev
      subst ev
      obtain ⟨va, vc, ev2⟩ := row_form rk
      simp only [List.cons.injEq, and_true] at ev2
      subst ev2
      have HC : Hid (Calls Tryz.prog 143 #[.agg #[.int .i64 l[k].1, .int .i64 l[k].2.1, .slice va l[k].2.2.1.length vc, .int .i64 l[k].2.2.2.1, .int .i64 l[k].2.2.2.2.1]] wr fun e w' => ∃ u, e = .returned (.agg #[.int .i64 l[k].1, .int .i64 l[k].2.1, u, .int .i64 l[k].2.2.2.1, .int .i64 l[k].2.2.2.2.1]) ∧ Own w' wr.heap.size w'.heap.size shFlight (l[k].1, l[k].2.1, l[k].2.2.1, l[k].2.2.2.1, l[k].2.2.2.2.1, ()) [.int .i64 l[k].1, .int .i64 l[k].2.1, u, .int .i64 l[k].2.2.2.1, .int .i64 l[k].2.2.2.2.1] ∧ Below wr.heap.size wr w') := lToFlight l[k] _ wr B r3 (Nat.le_trans hB hbl.size) (HT.out k hkl)
      have HQ : Hid (l[k] = (l[k].1, l[k].2.1, l[k].2.2.1, l[k].2.2.2.1, l[k].2.2.2.2.1, ())) := rfl
      have HWF0 : Hid _ := wf0
      have HWF1 : Hid _ := wf1
      have HWF3 : Hid _ := wf3
      have HWF4 : Hid _ := wf4
      have HOwn : Hid _ := hown
      have HBl : Hid _ := hbl
      clear r3 rk hown hbl wf0 wf1 wf3 wf4
      generalize l[k].1 = y0 at *
      generalize l[k].2.1 = y1 at *
      generalize l[k].2.2.2.1 = y3 at *
      generalize l[k].2.2.2.2.1 = y4 at *
      generalize l[k].2.2.1 = d at *
      go_wp2_with fail
      refine HC.out.mono ?_
      rintro e w1 ⟨u, rfl, ho, hb1⟩
      clear HC
      have hz := hb1.size
      obtain ⟨uu, eu, ru, -⟩ := rd_Flight (ho.rd (Nat.le_refl _))
      simp only [List.cons.injEq, and_true, true_and] at eu
      subst eu
      obtain ⟨ua, uc, eu⟩ := row_form ru
      simp only [List.cons.injEq, and_true] at eu
      subst eu
      have o1 : Own w1 w.heap.size wr.heap.size shFlights (l.take k ++ List.replicate (n - k) shFlight.zero) [.slice (some ⟨w.heap.size, 0, none⟩) n n] := HOwn.out.below (Nat.le_refl _) hb1
      have hlen : (l.take k ++ List.replicate (n - k) shFlight.zero).length = n := by have := HN.out; simp; omega
      have o3 := o1.stored (k := k) (by rw [hlen]; exact hlt) ho hz
      rw [← HQ.out, set_step HN.out hlt] at o3
      obtain ⟨sl, fz, -⟩ := hOwnSlot o1
      obtain ⟨old0, hold0⟩ := sl (k * 5) (by show k * 5 < n * 5; omega)
      have fz0 := fz (k * 5)
      obtain ⟨old1, hold1⟩ := sl (k * 5 + 1) (by show k * 5 + 1 < n * 5; omega)
      have fz1 := fz (k * 5 + 1)
      obtain ⟨old2, hold2⟩ := sl (k * 5 + 2) (by show k * 5 + 2 < n * 5; omega)
      have fz2 := fz (k * 5 + 2)
      obtain ⟨old3, hold3⟩ := sl (k * 5 + 3) (by show k * 5 + 3 < n * 5; omega)
      have fz3 := fz (k * 5 + 3)
      obtain ⟨old4, hold4⟩ := sl (k * 5 + 4) (by show k * 5 + 4 < n * 5; omega)
      have fz4 := fz (k * 5 + 4)
      have hs1 : (w1.setCell ⟨w.heap.size, k * 5, none⟩ (.int .i64 y0)).cell? ⟨w.heap.size, k * 5 + 1, none⟩ = some old1 := by rw [World.cell?_setCell_other _ _ _ _ (by simp)]; exact hold1
      have hf1 : (w1.setCell ⟨w.heap.size, k * 5, none⟩ (.int .i64 y0)).frozen? ⟨w.heap.size, k * 5 + 1, none⟩ = false := by simp only [World.frozen?_setCell]; exact fz1
      have hs2 : ((w1.setCell ⟨w.heap.size, k * 5, none⟩ (.int .i64 y0)).setCell ⟨w.heap.size, k * 5 + 1, none⟩ (.int .i64 y1)).cell? ⟨w.heap.size, k * 5 + 2, none⟩ = some old2 := by rw [World.cell?_setCell_other _ _ _ _ (by simp), World.cell?_setCell_other _ _ _ _ (by simp)]; exact hold2
      have hf2 : ((w1.setCell ⟨w.heap.size, k * 5, none⟩ (.int .i64 y0)).setCell ⟨w.heap.size, k * 5 + 1, none⟩ (.int .i64 y1)).frozen? ⟨w.heap.size, k * 5 + 2, none⟩ = false := by simp only [World.frozen?_setCell]; exact fz2
      have hs3 : (((w1.setCell ⟨w.heap.size, k * 5, none⟩ (.int .i64 y0)).setCell ⟨w.heap.size, k * 5 + 1, none⟩ (.int .i64 y1)).setCell ⟨w.heap.size, k * 5 + 2, none⟩ (.slice ua d.length uc)).cell? ⟨w.heap.size, k * 5 + 3, none⟩ = some old3 := by rw [World.cell?_setCell_other _ _ _ _ (by simp), World.cell?_setCell_other _ _ _ _ (by simp), World.cell?_setCell_other _ _ _ _ (by simp)]; exact hold3
      have hf3 : (((w1.setCell ⟨w.heap.size, k * 5, none⟩ (.int .i64 y0)).setCell ⟨w.heap.size, k * 5 + 1, none⟩ (.int .i64 y1)).setCell ⟨w.heap.size, k * 5 + 2, none⟩ (.slice ua d.length uc)).frozen? ⟨w.heap.size, k * 5 + 3, none⟩ = false := by simp only [World.frozen?_setCell]; exact fz3
      have hs4 : ((((w1.setCell ⟨w.heap.size, k * 5, none⟩ (.int .i64 y0)).setCell ⟨w.heap.size, k * 5 + 1, none⟩ (.int .i64 y1)).setCell ⟨w.heap.size, k * 5 + 2, none⟩ (.slice ua d.length uc)).setCell ⟨w.heap.size, k * 5 + 3, none⟩ (.int .i64 y3)).cell? ⟨w.heap.size, k * 5 + 4, none⟩ = some old4 := by rw [World.cell?_setCell_other _ _ _ _ (by simp), World.cell?_setCell_other _ _ _ _ (by simp), World.cell?_setCell_other _ _ _ _ (by simp), World.cell?_setCell_other _ _ _ _ (by simp)]; exact hold4
      have hf4 : ((((w1.setCell ⟨w.heap.size, k * 5, none⟩ (.int .i64 y0)).setCell ⟨w.heap.size, k * 5 + 1, none⟩ (.int .i64 y1)).setCell ⟨w.heap.size, k * 5 + 2, none⟩ (.slice ua d.length uc)).setCell ⟨w.heap.size, k * 5 + 3, none⟩ (.int .i64 y3)).frozen? ⟨w.heap.size, k * 5 + 4, none⟩ = false := by simp only [World.frozen?_setCell]; exact fz4
      have HO3 : Hid (Own (((((w1.setCell ⟨w.heap.size, k * 5, none⟩ (.int .i64 y0)).setCell ⟨w.heap.size, k * 5 + 1, none⟩ (.int .i64 y1)).setCell ⟨w.heap.size, k * 5 + 2, none⟩ (.slice ua d.length uc)).setCell ⟨w.heap.size, k * 5 + 3, none⟩ (.int .i64 y3)).setCell ⟨w.heap.size, k * 5 + 4, none⟩ (.int .i64 y4)) w.heap.size w1.heap.size shFlights (l.take (k + 1) ++ List.replicate (n - (k + 1)) shFlight.zero) [.slice (some ⟨w.heap.size, 0, none⟩) n n]) := o3.1
      have HB3 : Hid (Below w.heap.size w (((((w1.setCell ⟨w.heap.size, k * 5, none⟩ (.int .i64 y0)).setCell ⟨w.heap.size, k * 5 + 1, none⟩ (.int .i64 y1)).setCell ⟨w.heap.size, k * 5 + 2, none⟩ (.slice ua d.length uc)).setCell ⟨w.heap.size, k * 5 + 3, none⟩ (.int .i64 y3)).setCell ⟨w.heap.size, k * 5 + 4, none⟩ (.int .i64 y4))) := Below.setCell (Below.setCell (Below.setCell (Below.setCell (Below.setCell ((HBl.out.trans (hb1.mono HBl.out.size))) (by simp) _) (by simp) _) (by simp) _) (by simp) _) (by simp) _
      clear o1 o3 sl fz ho hb1 hz hlen ru
      go_wp2_with fail
      go_roundw
      case rel => exact ⟨k + 1, by omega, by go_num, HO3.out.tight, HB3.out⟩
      case measure => simp [intOf]; omega
    · obtain rfl : k = n := by omega
      go_wp2_with fail
      go_ret
      refine ⟨_, rfl, ?_, hbl⟩
      have e : l.take k ++ List.replicate (k - k) shFlight.zero = l := by rw [Nat.sub_self, List.take_of_length_le (by have := HN.out; omega)]; simp
      rw [e] at hown
      exact hown

set_option maxHeartbeats 4000000 in
theorem lEqFlights (l : List DFlight) (v u : Value) (w : World) (B : Nat) (hr : shFlights.Rd w B l [v]) (hr' : shFlights.Rd w B l [u]) (hB : B ≤ w.heap.size) (hT : totFlights l ≤ 1048576) :
    Calls Tryz.prog 140 #[v, u] w fun e w' => e = .returned (.bool true) ∧ Below w.heap.size w w' := by
  obtain ⟨a, cap, ev⟩ := row_form hr
  simp only [List.cons.injEq, and_true] at ev
  subst ev
  obtain ⟨a', cap', ev⟩ := row_form hr'
  simp only [List.cons.injEq, and_true] at ev
  subst ev
  have hmx : l.length ≤ 9223372036854775807 := row_max hr
  have HT : Hid (∀ k (hk : k < l.length), totFlight l[k] ≤ 1048576) := fun k hk => by have := fsum_at totFlight hk; unfold totFlights at hT; omega
  obtain ⟨n, hn⟩ : ∃ n, l.length = n := ⟨_, rfl⟩
  rw [hn] at hr hr' hmx ⊢
  have HR1 : Hid (∀ W, Below w.heap.size w W → shFlights.Rd W B l [.slice a n cap]) := fun W hW => hr.below hB hW
  have HR2 : Hid (∀ W, Below w.heap.size w W → shFlights.Rd W B l [.slice a' n cap']) := fun W hW => hr'.below hB hW
  have HN : Hid (l.length = n) := hn
  clear hr hr' hT hn
  go_enter Tryz.func140, Tryz.ntmps140
  go_wp2_with fail
  go_loopw [5] (fun i wr => ∃ (k : Nat), k ≤ n ∧ i = .int .i64 k ∧ Below w.heap.size w wr) (fun i _ => n - (intOf i).toNat)
  case atStart => exact ⟨0, Nat.zero_le _, rfl, Below.refl _ _⟩
  case round =>
    obtain ⟨k, hk, rfl, hbl⟩ := hrel
    by_cases hlt : k < n
    · have hkl : k < l.length := by have := HN.out; omega
      obtain ⟨b0, off0, v, ha, hb0, c00, c01, c02, c03, c04, r0⟩ := at_Flights (HR1.out wr hbl) k hkl
      subst ha
      obtain ⟨vv, ev, rk0, -⟩ := rd_Flight r0
      simp only [List.cons.injEq, and_true, true_and] at ev
      subst ev
      obtain ⟨va, vc, ev2⟩ := row_form rk0
      simp only [List.cons.injEq, and_true] at ev2
      subst ev2
      obtain ⟨b1, off1, u, ha, hb1, c10, c11, c12, c13, c14, r1⟩ := at_Flights (HR2.out wr hbl) k hkl
      subst ha
      obtain ⟨vv, ev, rk1, -⟩ := rd_Flight r1
      simp only [List.cons.injEq, and_true, true_and] at ev
      subst ev
      obtain ⟨ua, uc, ev2⟩ := row_form rk1
      simp only [List.cons.injEq, and_true] at ev2
      subst ev2
      have HC : Hid (∀ W, Below wr.heap.size wr W → Calls Tryz.prog 155 #[.agg #[.int .i64 l[k].1, .int .i64 l[k].2.1, .slice va l[k].2.2.1.length vc, .int .i64 l[k].2.2.2.1, .int .i64 l[k].2.2.2.2.1], .agg #[.int .i64 l[k].1, .int .i64 l[k].2.1, .slice ua l[k].2.2.1.length uc, .int .i64 l[k].2.2.2.1, .int .i64 l[k].2.2.2.2.1]] W fun e w' => e = .returned (.bool true) ∧ Below W.heap.size W w') := fun W hW => lEqFlight l[k] _ _ W B (r0.below (Nat.le_trans hB hbl.size) hW) (r1.below (Nat.le_trans hB hbl.size) hW) (Nat.le_trans hB (Nat.le_trans hbl.size hW.size)) (HT.out k hkl)
      have HBl : Hid _ := hbl
      clear r0 r1 rk0 rk1 hbl
      generalize l[k].1 = y0 at *
      generalize l[k].2.1 = y1 at *
      generalize l[k].2.2.2.1 = y3 at *
      generalize l[k].2.2.2.2.1 = y4 at *
      generalize l[k].2.2.1.length = nn at *
      go_wp2_with fail
      go_region_held3 (fun w' => w'.cell? ⟨b0, off0 + k * 5, none⟩ = some (.int .i64 y0) ∧ w'.cell? ⟨b0, off0 + k * 5 + 1, none⟩ = some (.int .i64 y1) ∧ w'.cell? ⟨b0, off0 + k * 5 + 2, none⟩ = some (.slice va nn vc) ∧ w'.cell? ⟨b0, off0 + k * 5 + 3, none⟩ = some (.int .i64 y3) ∧ w'.cell? ⟨b0, off0 + k * 5 + 4, none⟩ = some (.int .i64 y4) ∧ w'.cell? ⟨b1, off1 + k * 5, none⟩ = some (.int .i64 y0) ∧ w'.cell? ⟨b1, off1 + k * 5 + 1, none⟩ = some (.int .i64 y1) ∧ w'.cell? ⟨b1, off1 + k * 5 + 2, none⟩ = some (.slice ua nn uc) ∧ w'.cell? ⟨b1, off1 + k * 5 + 3, none⟩ = some (.int .i64 y3) ∧ w'.cell? ⟨b1, off1 + k * 5 + 4, none⟩ = some (.int .i64 y4)) (first | go_keep)
        (first | (go_at_call 155; refine (HC.out _ (Below.drew (Below.refl _ _))).mono ?_; rintro e w1 ⟨rfl, hb1⟩; replace hb1 := (Below.drew (Below.refl wr.heap.size wr)).trans hb1; have HB1 : Hid (Below w.heap.size w w1) := HBl.out.trans (hb1.mono HBl.out.size); have d00 := (hb1.cell (p := ⟨b0, off0 + k * 5, none⟩) (by dsimp only; have := HBl.out.size; omega)).trans c00; have d01 := (hb1.cell (p := ⟨b0, off0 + k * 5 + 1, none⟩) (by dsimp only; have := HBl.out.size; omega)).trans c01; have d02 := (hb1.cell (p := ⟨b0, off0 + k * 5 + 2, none⟩) (by dsimp only; have := HBl.out.size; omega)).trans c02; have d03 := (hb1.cell (p := ⟨b0, off0 + k * 5 + 3, none⟩) (by dsimp only; have := HBl.out.size; omega)).trans c03; have d04 := (hb1.cell (p := ⟨b0, off0 + k * 5 + 4, none⟩) (by dsimp only; have := HBl.out.size; omega)).trans c04; have d10 := (hb1.cell (p := ⟨b1, off1 + k * 5, none⟩) (by dsimp only; have := HBl.out.size; omega)).trans c10; have d11 := (hb1.cell (p := ⟨b1, off1 + k * 5 + 1, none⟩) (by dsimp only; have := HBl.out.size; omega)).trans c11; have d12 := (hb1.cell (p := ⟨b1, off1 + k * 5 + 2, none⟩) (by dsimp only; have := HBl.out.size; omega)).trans c12; have d13 := (hb1.cell (p := ⟨b1, off1 + k * 5 + 3, none⟩) (by dsimp only; have := HBl.out.size; omega)).trans c13; have d14 := (hb1.cell (p := ⟨b1, off1 + k * 5 + 4, none⟩) (by dsimp only; have := HBl.out.size; omega)).trans c14; clear hb1))
      all_goals (go_wp2_with fail; go_roundw)
      case rel => exact ⟨k + 1, by omega, by go_num, HB1.out⟩
      case measure => simp [intOf]; omega
    · obtain rfl : k = n := by omega
      go_wp2_with fail
      go_ret
      exact ⟨rfl, hbl⟩
end Go.Proofs.YtfpemobkkfobkaaGreatDoor

/- What the law's own helpers (measure, copy, compare) make of values of type Sender; no condition but that there are at most a million parts. Written by hl.py. -/
namespace Go.Proofs.YtfpemobkkfobkaaGreatDoor
open Go.RowKit
set_option linter.unusedVariables false

abbrev shSender : Sh := .cons (.int .i64) (.cons (.int .i64) (.cons (.int .i64) (.cons shFlights (.nil))))
abbrev DSender : Type := Int × Int × Int × (List DFlight) × Unit
def totSender (x : DSender) : Nat := totFlights x.2.2.2.1

theorem rd_Sender {w : World} {B : Nat} {x : DSender} {cs : List Value} (h : shSender.Rd w B x cs) : ∃ v, cs = [.int .i64 x.1, .int .i64 x.2.1, .int .i64 x.2.2.1, v] ∧ shFlights.Rd w B x.2.2.2.1 [v] ∧ (Lit.int .i64 x.1).wf = true ∧ (Lit.int .i64 x.2.1).wf = true ∧ (Lit.int .i64 x.2.2.1).wf = true := by
  obtain ⟨p0, q0, e0, ⟨g0, w0⟩, p1, q1, e1, ⟨g1, w1⟩, p2, q2, e2, ⟨g2, w2⟩, p3, q3, e3, h3, hz⟩ := h
  have hz' : q3 = [] := hz
  have l := Sh.Rd.len _ _ _ h3
  replace l : p3.length = 1 := l
  match p3, l, h3 with
  | [v], _, h3 =>
    refine ⟨v, ?_, h3, w0, w1, w2⟩
    rw [e0, g0, e1, g1, e2, g2, e3, hz']
    rfl

set_option maxHeartbeats 1000000 in
theorem lSzSender (x : DSender) (v : Value) (left : Int) (w : World) (B : Nat) (hr : shSender.Rd w B x [.int .i64 x.1, .int .i64 x.2.1, .int .i64 x.2.2.1, v]) (hB : B ≤ w.heap.size) (h0 : 0 ≤ left) (h1 : left ≤ 1048576) :
    Calls Tryz.prog 87 #[.agg #[.int .i64 x.1, .int .i64 x.2.1, .int .i64 x.2.2.1, v], .int .i64 left] w fun e w' => e = .returned (.int .i64 (if left < totSender x then -1 else left - totSender x)) ∧ Below w.heap.size w w' := by
  obtain ⟨vv, ev, rk, wf0, wf1, wf2⟩ := rd_Sender hr
  simp only [List.cons.injEq, and_true, true_and] at ev
  subst ev
  have HC : Hid (∀ W, Below w.heap.size w W → Calls Tryz.prog 118 #[v, .int .i64 left] W fun e w' => e = .returned (.int .i64 (if left < totSender x then -1 else left - totSender x)) ∧ Below W.heap.size W w') := fun W hW => lSzFlights x.2.2.2.1 v left W B (rk.below hB hW) (Nat.le_trans hB hW.size) h0 h1
  obtain ⟨va, vc, ev2⟩ := row_form rk
  simp only [List.cons.injEq, and_true] at ev2
  subst ev2
  clear hr rk
  generalize totSender x = N at *
  generalize x.1 = y0 at *
  generalize x.2.1 = y1 at *
  generalize x.2.2.1 = y2 at *
  generalize x.2.2.2.1.length = n at *
  by_cases h : left < N
  · rw [if_pos h] at HC ⊢
    go_enter Tryz.func87, Tryz.ntmps87
    go_wp2_with fail
    refine (HC.out _ (by go_grown)).mono ?_
    rintro e w1 ⟨rfl, hb⟩
    go_wp2_with fail
    go_ret
    exact ⟨rfl, Below.trans (by go_grown) (hb.mono (by simp))⟩
  · rw [if_neg h] at HC ⊢
    have h2 : 0 ≤ left - (N : Int) := by omega
    go_enter Tryz.func87, Tryz.ntmps87
    go_wp2_with fail
    refine (HC.out _ (by go_grown)).mono ?_
    rintro e w1 ⟨rfl, hb⟩
    go_wp2_with fail
    go_ret
    exact ⟨rfl, Below.trans (by go_grown) (hb.mono (by simp))⟩

set_option maxHeartbeats 2000000 in
theorem lToSender (x : DSender) (v : Value) (w : World) (B : Nat) (hr : shSender.Rd w B x [.int .i64 x.1, .int .i64 x.2.1, .int .i64 x.2.2.1, v]) (hB : B ≤ w.heap.size) (hT : totSender x ≤ 1048576) :
    Calls Tryz.prog 94 #[.agg #[.int .i64 x.1, .int .i64 x.2.1, .int .i64 x.2.2.1, v]] w fun e w' => ∃ u, e = .returned (.agg #[.int .i64 x.1, .int .i64 x.2.1, .int .i64 x.2.2.1, u]) ∧ Own w' w.heap.size w'.heap.size shSender x [.int .i64 x.1, .int .i64 x.2.1, .int .i64 x.2.2.1, u] ∧ Below w.heap.size w w' := by
  obtain ⟨vv, ev, rk, wf0, wf1, wf2⟩ := rd_Sender hr
  simp only [List.cons.injEq, and_true, true_and] at ev
  subst ev
  have HC : Hid (∀ W, Below w.heap.size w W → Calls Tryz.prog 122 #[v] W fun e w' => ∃ u, e = .returned u ∧ Own w' W.heap.size w'.heap.size shFlights x.2.2.2.1 [u] ∧ Below W.heap.size W w') := fun W hW => lToFlights x.2.2.2.1 v W B (rk.below hB hW) (Nat.le_trans hB hW.size) hT
  obtain ⟨va, vc, ev2⟩ := row_form rk
  simp only [List.cons.injEq, and_true] at ev2
  subst ev2
  have HWF0 : Hid _ := wf0
  have HWF1 : Hid _ := wf1
  have HWF2 : Hid _ := wf2
  clear hr rk hT hB wf0 wf1 wf2
  obtain ⟨y0, y1, y2, d, _⟩ := x
  simp only at *
  go_enter Tryz.func94, Tryz.ntmps94
  go_wp2_with fail
  refine (HC.out _ (by go_grown)).mono ?_
  rintro e w1 ⟨u, rfl, ho, hb1⟩
  obtain ⟨ua, uc, eu⟩ := row_form (ho.rd (Nat.le_refl _))
  simp only [List.cons.injEq, and_true] at eu
  subst eu
  have hz := hb1.size
  simp at hz
  simp only [World.size_alloc] at ho
  obtain ⟨hc, hf⟩ := bcell hb1
  have z1 : w.heap.size < w1.heap.size := by omega
  have z2 : w.heap.size + 1 < w1.heap.size := by omega
  have z3 : w.heap.size + 1 + 1 < w1.heap.size := by omega
  have HB : Hid _ := hb1
  have HO : Hid (Own w1 (w.heap.size + 1 + 1 + 1) w1.heap.size shFlights d [.slice ua d.length uc]) := ho
  clear hb1 ho hz HC
  go_wp2_with fail
  have hB1 : Below w.heap.size w w1 := Below.trans (by go_grown) (HB.out.mono (by simp; omega))
  refine bodyPost_ret (v := .agg #[.int .i64 y0, .int .i64 y1, .int .i64 y2, .slice ua d.length uc]) (by simp [results, Tryz.results94, go_sem, hc]) rfl ⟨_, rfl, ?_, ?_⟩
  · have h2 : Own w1 (w.heap.size + 1 + 1 + 1) w1.heap.size shSender (y0, y1, y2, d, ()) [.int .i64 y0, .int .i64 y1, .int .i64 y2, .slice ua d.length uc] := hOwnCons (hOwnInt w1 _ (w.heap.size + 1 + 1 + 1) HWF0.out) (hOwnCons (hOwnInt w1 _ (w.heap.size + 1 + 1 + 1) HWF1.out) (hOwnCons (hOwnInt w1 _ (w.heap.size + 1 + 1 + 1) HWF2.out) (hOwnCons HO.out (hOwnNil _ _ _) (by omega) (Nat.le_refl _)) (Nat.le_refl _) (by omega)) (Nat.le_refl _) (by omega)) (Nat.le_refl _) (by omega)
    refine Own.mono (Own.keep h2 fun b hb hlt => ?_) (by omega) (by simp)
    repeat rw [Below.heap_setCell _ _ _ _ (by dsimp only; omega)]
  · clear hc hf HO HB
    go_grown

set_option maxHeartbeats 2000000 in
theorem lEqSender (x : DSender) (v u : Value) (w : World) (B : Nat) (hr : shSender.Rd w B x [.int .i64 x.1, .int .i64 x.2.1, .int .i64 x.2.2.1, v]) (hr' : shSender.Rd w B x [.int .i64 x.1, .int .i64 x.2.1, .int .i64 x.2.2.1, u]) (hB : B ≤ w.heap.size) (hT : totSender x ≤ 1048576) :
    Calls Tryz.prog 115 #[.agg #[.int .i64 x.1, .int .i64 x.2.1, .int .i64 x.2.2.1, v], .agg #[.int .i64 x.1, .int .i64 x.2.1, .int .i64 x.2.2.1, u]] w fun e w' => e = .returned (.bool true) ∧ Below w.heap.size w w' := by
  obtain ⟨vv, ev, rk, wf0, wf1, wf2⟩ := rd_Sender hr
  simp only [List.cons.injEq, and_true, true_and] at ev
  subst ev
  obtain ⟨vv, ev, rk', -⟩ := rd_Sender hr'
  simp only [List.cons.injEq, and_true, true_and] at ev
  subst ev
  have HC : Hid (∀ W, Below w.heap.size w W → Calls Tryz.prog 140 #[v, u] W fun e w' => e = .returned (.bool true) ∧ Below W.heap.size W w') := fun W hW => lEqFlights x.2.2.2.1 v u W B (rk.below hB hW) (rk'.below hB hW) (Nat.le_trans hB hW.size) hT
  obtain ⟨va, vc, ev2⟩ := row_form rk
  simp only [List.cons.injEq, and_true] at ev2
  subst ev2
  obtain ⟨ua, uc, ev2⟩ := row_form rk'
  simp only [List.cons.injEq, and_true] at ev2
  subst ev2
  clear hr hr' rk rk' hT wf0 wf1 wf2
  generalize x.1 = y0 at *
  generalize x.2.1 = y1 at *
  generalize x.2.2.1 = y2 at *
  generalize x.2.2.2.1.length = n at *
  go_enter Tryz.func115, Tryz.ntmps115
  go_wp2_with fail
  refine (HC.out _ (by go_grown)).mono ?_
  rintro e w1 ⟨rfl, hb1⟩
  have HB1 : Hid (Below w.heap.size w w1) := Below.trans (by go_grown) (hb1.mono (by simp; omega))
  have k0 : ∀ o, w1.cell? ⟨w.heap.size, o, none⟩ = (#[.int .i64 y0, .int .i64 y1, .int .i64 y2, .slice va n vc] : Array Value)[o]? := fun o => by rw [(bcell hb1).1 _ o (by simp; omega)]; simp [go_sem]
  have k1 : ∀ o, w1.cell? ⟨w.heap.size + 1, o, none⟩ = (#[.int .i64 y0, .int .i64 y1, .int .i64 y2, .slice ua n uc] : Array Value)[o]? := fun o => by rw [(bcell hb1).1 _ o (by simp)]; simp [go_sem]
  clear hb1 HC
  go_wp2_with fail
  go_ret
  exact ⟨rfl, HB1.out⟩
end Go.Proofs.YtfpemobkkfobkaaGreatDoor

/- What the law's own helpers (measure, copy, compare) make of spans and slices of them; no condition but that there are at most a million parts. -/
namespace Go.Proofs.YtfpemobkkfobkaaGreatDoor
open Go.RowKit
set_option linter.unusedVariables false

abbrev shSpan : Sh := .cons (.int .i64) (.cons (.int .i64) .nil)
abbrev DSpan : Type := Int × Int × Unit
abbrev shSpans : Sh := .row 201 shSpan
def totSpans (l : List DSpan) : Nat := l.length
theorem rd_Span {w : World} {B : Nat} {x : DSpan} {cs : List Value} (h : shSpan.Rd w B x cs) : cs = [.int .i64 x.1, .int .i64 x.2.1] ∧ (Lit.int .i64 x.1).wf = true ∧ (Lit.int .i64 x.2.1).wf = true := by
  obtain ⟨p0, q0, e0, ⟨g0, w0⟩, p1, q1, e1, ⟨g1, w1⟩, hz⟩ := h
  have hz' : q1 = [] := hz
  refine ⟨?_, w0, w1⟩
  rw [e0, g0, e1, g1, hz']
  rfl
theorem at_Spans {w : World} {B : Nat} {l : List DSpan} {a : Option Addr} {n cap : Nat} (h : shSpans.Rd w B l [.slice a n cap]) (k : Nat) (hk : k < l.length) : ∃ b off, a = some ⟨b, off, none⟩ ∧ b < B ∧ w.cell? ⟨b, off + k * 2, none⟩ = some (.int .i64 l[k].1) ∧ w.cell? ⟨b, off + k * 2 + 1, none⟩ = some (.int .i64 l[k].2.1) ∧ (Lit.int .i64 l[k].1).wf = true ∧ (Lit.int .i64 l[k].2.1).wf = true := by
  obtain ⟨a', cap', h1, h2, h3, b, off, h4, h5⟩ := h
  simp only [List.cons.injEq, Value.slice.injEq, and_true] at h1
  obtain ⟨rfl, -, -⟩ := h1
  obtain ⟨ea, hb⟩ := h4 (by intro e; subst e; simp at hk)
  obtain ⟨cs', g1, g2, g3⟩ := h5 k hk
  obtain ⟨e, w0, w1⟩ := rd_Span g3
  subst e
  refine ⟨b, off, ea, hb, ?_, ?_, w0, w1⟩
  · have := g2 0 (by decide); simpa [Sh.sz] using this
  · have := g2 1 (by decide); simpa [Sh.sz] using this
theorem own_span {w : World} {y0 y1 : Int} (lo : Nat) (h0 : (Lit.int .i64 y0).wf = true) (h1 : (Lit.int .i64 y1).wf = true) : Own w lo lo shSpan (y0, y1, ()) [.int .i64 y0, .int .i64 y1] :=
  hOwnCons (hOwnInt w lo lo h0) (hOwnCons (hOwnInt w lo lo h1) (hOwnNil _ _ _) (Nat.le_refl _) (Nat.le_refl _)) (Nat.le_refl _) (Nat.le_refl _)
theorem info_Span : (Tryz.prog.info? 201).map (fun i => (i.zero, i.size, i.bytes)) = some (some (.agg #[.int .i64 0, .int .i64 0]), 2, 16) := by kernel_rfl

theorem lSzSpans (l : List DSpan) (v : Value) (left : Int) (w : World) (B : Nat) (hr : shSpans.Rd w B l [v]) (hB : B ≤ w.heap.size) (h0 : 0 ≤ left) (h1 : left ≤ 1048576) :
    Calls Tryz.prog 119 #[v, .int .i64 left] w fun e w' => e = .returned (.int .i64 (if left < totSpans l then -1 else left - totSpans l)) ∧ Below w.heap.size w w' := by
  obtain ⟨a, cap, ev⟩ := row_form hr
  simp only [List.cons.injEq, and_true] at ev
  subst ev
  have hmx : l.length ≤ 9223372036854775807 := row_max hr
  unfold totSpans
  clear hr
  generalize l.length = n at *
  by_cases hA : left < n
  · rw [if_pos hA]
    have h2 : left - (n : Int) < 0 := by omega
    go_enter Tryz.func119, Tryz.ntmps119
    go_wp2
    go_ret
    exact ⟨rfl, Below.refl _ _⟩
  · rw [if_neg hA]
    have h2 : ¬ (left - (n : Int) < 0) := by omega
    go_enter Tryz.func119, Tryz.ntmps119
    go_wp2
    go_ret
    exact ⟨rfl, Below.refl _ _⟩
theorem lToSpan (y0 y1 : Int) (w : World) :
    Calls Tryz.prog 144 #[.agg #[.int .i64 y0, .int .i64 y1]] w fun e w' => e = .returned (.agg #[.int .i64 y0, .int .i64 y1]) ∧ Below w.heap.size w w' := by
  go_enter Tryz.func144, Tryz.ntmps144
  go_wp2_with fail
  go_returns
  exact ⟨rfl, by go_grown⟩
set_option maxHeartbeats 1000000 in
theorem lToSpans (l : List DSpan) (v : Value) (w : World) (B : Nat) (hr : shSpans.Rd w B l [v]) (hB : B ≤ w.heap.size) (hT : totSpans l ≤ 1048576) :
    Calls Tryz.prog 123 #[v] w fun e w' => ∃ u, e = .returned u ∧ Own w' w.heap.size w'.heap.size shSpans l [u] ∧ Below w.heap.size w w' := by
  obtain ⟨i0, hi, hz0, hz1, hz2⟩ := info_parts info_Span
  obtain ⟨a, cap, ev⟩ := row_form hr
  simp only [List.cons.injEq, and_true] at ev
  subst ev
  have hn1 : l.length ≤ 1048576 := hT
  obtain ⟨n, hn⟩ : ∃ n, l.length = n := ⟨_, rfl⟩
  rw [hn] at hr hn1 ⊢
  have HRd : Hid (∀ W, Below w.heap.size w W → shSpans.Rd W B l [.slice a n cap]) := fun W hW => hr.below hB hW
  have HN : Hid (l.length = n) := hn
  clear hr hT hn
  go_enter Tryz.func123, Tryz.ntmps123
  go_wp2_with (at_make; refine wpList_make_full w rfl _ _ 87 rfl w.heap.size 201 i0 (.agg #[.int .i64 0, .int .i64 0]) 2 Tryz.underlying87 hi hz0 hz1 .i64 .i64 _ _ n (by rfl) (by rfl) rfl rfl (by rw [hz2]; omega) (by unfold maxLen; omega) (Nat.le_refl _) ?_; intro w1 hown hgr)
  have hb1 : Below w.heap.size w w1 := (Below.refl _ _).grown hgr (Nat.le_refl _) (by intro k hk; cases hk)
  have hown0 : Own w1 w.heap.size w1.heap.size shSpans (l.take 0 ++ List.replicate (n - 0) shSpan.zero) [.slice (some ⟨w.heap.size, 0, none⟩) n n] := by
    have h := Own.made (e := shSpan) (z := .agg #[.int .i64 0, .int .i64 0]) rfl hown
    exact h.tight
  have HO0 : Hid _ := hown0
  have HB0 : Hid _ := hb1
  clear hown hgr hown0 hb1 hi hz0 hz1 hz2
  go_loopw [4] (fun i wr => ∃ k : Nat, k ≤ n ∧ i = .int .i64 k ∧ Own wr w.heap.size wr.heap.size shSpans (l.take k ++ List.replicate (n - k) shSpan.zero) [.slice (some ⟨w.heap.size, 0, none⟩) n n] ∧ Below w.heap.size w wr) (fun i _ => n - (intOf i).toNat)
  case atStart => exact ⟨0, Nat.zero_le _, rfl, HO0.out, HB0.out⟩
  case round =>
    obtain ⟨k, hk, rfl, hown, hbl⟩ := hrel
    clear HO0 HB0
    by_cases hlt : k < n
    · have hkl : k < l.length := by have := HN.out; omega
      obtain ⟨b, off, ha, hb, c0, c1, wf0, wf1⟩ := at_Spans (HRd.out wr hbl) k hkl
      subst ha
      have HQ : Hid (l[k] = (l[k].1, l[k].2.1, ())) := rfl
      have HWF0 : Hid _ := wf0
      have HWF1 : Hid _ := wf1
      have HOwn : Hid _ := hown
      have HBl : Hid _ := hbl
      clear hown hbl wf0 wf1
      generalize l[k].1 = y0 at *
      generalize l[k].2.1 = y1 at *
      go_wp2_with fail
      refine (lToSpan y0 y1 _).mono ?_
      rintro e w1 ⟨rfl, hb1⟩
      have hz := hb1.size
      have o1 : Own w1 w.heap.size wr.heap.size shSpans (l.take k ++ List.replicate (n - k) shSpan.zero) [.slice (some ⟨w.heap.size, 0, none⟩) n n] := HOwn.out.below (Nat.le_refl _) hb1
      have hlen : (l.take k ++ List.replicate (n - k) shSpan.zero).length = n := by have := HN.out; simp; omega
      have o3 := o1.stored (k := k) (by rw [hlen]; exact hlt) (own_span _ HWF0.out HWF1.out) (Nat.le_refl _)
      rw [← HQ.out, set_step HN.out hlt] at o3
      obtain ⟨sl, fz, -⟩ := hOwnSlot o1
      obtain ⟨old0, hold0⟩ := sl (k * 2) (by show k * 2 < n * 2; omega)
      have fz0 := fz (k * 2)
      obtain ⟨old1, hold1⟩ := sl (k * 2 + 1) (by show k * 2 + 1 < n * 2; omega)
      have fz1 := fz (k * 2 + 1)
      have hs1 : (w1.setCell ⟨w.heap.size, k * 2, none⟩ (.int .i64 y0)).cell? ⟨w.heap.size, k * 2 + 1, none⟩ = some old1 := by rw [World.cell?_setCell_other _ _ _ _ (by simp)]; exact hold1
      have hf1 : (w1.setCell ⟨w.heap.size, k * 2, none⟩ (.int .i64 y0)).frozen? ⟨w.heap.size, k * 2 + 1, none⟩ = false := by simp only [World.frozen?_setCell]; exact fz1
      have HO3 : Hid (Own ((w1.setCell ⟨w.heap.size, k * 2, none⟩ (.int .i64 y0)).setCell ⟨w.heap.size, k * 2 + 1, none⟩ (.int .i64 y1)) w.heap.size wr.heap.size shSpans (l.take (k + 1) ++ List.replicate (n - (k + 1)) shSpan.zero) [.slice (some ⟨w.heap.size, 0, none⟩) n n]) := o3.1
      have HB3 : Hid (Below w.heap.size w ((w1.setCell ⟨w.heap.size, k * 2, none⟩ (.int .i64 y0)).setCell ⟨w.heap.size, k * 2 + 1, none⟩ (.int .i64 y1))) := Below.setCell (Below.setCell ((HBl.out.trans (hb1.mono HBl.out.size))) (by simp) _) (by simp) _
      have hzz : wr.heap.size ≤ ((w1.setCell ⟨w.heap.size, k * 2, none⟩ (.int .i64 y0)).setCell ⟨w.heap.size, k * 2 + 1, none⟩ (.int .i64 y1)).heap.size := by simpa using hz
      have HZ : Hid _ := hzz
      clear o1 o3 sl fz hb1 hz hlen hzz
      go_wp2_with fail
      go_roundw
      case rel => exact ⟨k + 1, by omega, by go_num, Own.mono HO3.out (Nat.le_refl _) HZ.out, HB3.out⟩
      case measure => simp [intOf]; omega
    · obtain rfl : k = n := by omega
      go_wp2_with fail
      go_ret
      refine ⟨_, rfl, ?_, hbl⟩
      have e : l.take k ++ List.replicate (k - k) shSpan.zero = l := by rw [Nat.sub_self, List.take_of_length_le (by have := HN.out; omega)]; simp
      rw [e] at hown
      exact hown
theorem lEqSpan (y0 y1 : Int) (w : World) :
    Calls Tryz.prog 156 #[.agg #[.int .i64 y0, .int .i64 y1], .agg #[.int .i64 y0, .int .i64 y1]] w fun e w' => e = .returned (.bool true) ∧ Below w.heap.size w w' := by
  go_enter Tryz.func156, Tryz.ntmps156
  go_wp2_with fail
  go_ret
  exact ⟨rfl, by go_grown⟩
set_option maxHeartbeats 1000000 in
theorem lEqSpans (l : List DSpan) (v u : Value) (w : World) (B : Nat) (hr : shSpans.Rd w B l [v]) (hr' : shSpans.Rd w B l [u]) (hB : B ≤ w.heap.size) (hT : totSpans l ≤ 1048576) :
    Calls Tryz.prog 141 #[v, u] w fun e w' => e = .returned (.bool true) ∧ Below w.heap.size w w' := by
  obtain ⟨a, cap, ev⟩ := row_form hr
  simp only [List.cons.injEq, and_true] at ev
  subst ev
  obtain ⟨a', cap', ev⟩ := row_form hr'
  simp only [List.cons.injEq, and_true] at ev
  subst ev
  have hmx : l.length ≤ 9223372036854775807 := row_max hr
  obtain ⟨n, hn⟩ : ∃ n, l.length = n := ⟨_, rfl⟩
  rw [hn] at hr hr' hmx ⊢
  have HR1 : Hid (∀ W, Below w.heap.size w W → shSpans.Rd W B l [.slice a n cap]) := fun W hW => hr.below hB hW
  have HR2 : Hid (∀ W, Below w.heap.size w W → shSpans.Rd W B l [.slice a' n cap']) := fun W hW => hr'.below hB hW
  have HN : Hid (l.length = n) := hn
  clear hr hr' hT hn
  go_enter Tryz.func141, Tryz.ntmps141
  go_wp2_with fail
  go_loopw [5] (fun i wr => ∃ (k : Nat), k ≤ n ∧ i = .int .i64 k ∧ Below w.heap.size w wr) (fun i _ => n - (intOf i).toNat)
  case atStart => exact ⟨0, Nat.zero_le _, rfl, Below.refl _ _⟩
  case round =>
    obtain ⟨k, hk, rfl, hbl⟩ := hrel
    by_cases hlt : k < n
    · have hkl : k < l.length := by have := HN.out; omega
      obtain ⟨b0, off0, ha, hb0, c00, c01, -, -⟩ := at_Spans (HR1.out wr hbl) k hkl
      subst ha
      obtain ⟨b1, off1, ha, hb1, c10, c11, -, -⟩ := at_Spans (HR2.out wr hbl) k hkl
      subst ha
      have HBl : Hid _ := hbl
      have z0 : b0 < wr.heap.size := Nat.lt_of_lt_of_le hb0 (Nat.le_trans hB HBl.out.size)
      have z1 : b1 < wr.heap.size := Nat.lt_of_lt_of_le hb1 (Nat.le_trans hB HBl.out.size)
      clear hbl hb0 hb1
      generalize l[k].1 = y0 at *
      generalize l[k].2.1 = y1 at *
      go_wp2_with fail
      go_region_held3 (fun w' => w'.cell? ⟨b0, off0 + k * 2, none⟩ = some (.int .i64 y0) ∧ w'.cell? ⟨b0, off0 + k * 2 + 1, none⟩ = some (.int .i64 y1) ∧ w'.cell? ⟨b1, off1 + k * 2, none⟩ = some (.int .i64 y0) ∧ w'.cell? ⟨b1, off1 + k * 2 + 1, none⟩ = some (.int .i64 y1)) (first | go_keep)
        (first | (go_at_call 156; refine (lEqSpan y0 y1 _).mono ?_; rintro e w1 ⟨rfl, hb⟩; replace hb := (Below.drew (Below.refl wr.heap.size wr)).trans hb; have HB1 : Hid (Below w.heap.size w w1) := HBl.out.trans (hb.mono HBl.out.size); have d00 := (hb.cell (p := ⟨b0, off0 + k * 2, none⟩) z0).trans c00; have d01 := (hb.cell (p := ⟨b0, off0 + k * 2 + 1, none⟩) z0).trans c01; have d10 := (hb.cell (p := ⟨b1, off1 + k * 2, none⟩) z1).trans c10; have d11 := (hb.cell (p := ⟨b1, off1 + k * 2 + 1, none⟩) z1).trans c11; clear hb))
      all_goals (go_wp2_with fail; go_roundw)
      case rel => exact ⟨k + 1, by omega, by go_num, HB1.out⟩
      case measure => simp [intOf]; omega
    · obtain rfl : k = n := by omega
      go_wp2_with fail
      go_ret
      exact ⟨rfl, hbl⟩
end Go.Proofs.YtfpemobkkfobkaaGreatDoor

/- What the law's own helpers (measure, copy, compare) make of values of type Catch; no condition but that there are at most a million parts. Written by hl.py. -/
namespace Go.Proofs.YtfpemobkkfobkaaGreatDoor
open Go.RowKit
set_option linter.unusedVariables false

abbrev shCatch : Sh := .cons (.int .i64) (.cons (.int .i64) (.cons shSpans (.nil)))
abbrev DCatch : Type := Int × Int × (List DSpan) × Unit
def totCatch (x : DCatch) : Nat := totSpans x.2.2.1

theorem rd_Catch {w : World} {B : Nat} {x : DCatch} {cs : List Value} (h : shCatch.Rd w B x cs) : ∃ v, cs = [.int .i64 x.1, .int .i64 x.2.1, v] ∧ shSpans.Rd w B x.2.2.1 [v] ∧ (Lit.int .i64 x.1).wf = true ∧ (Lit.int .i64 x.2.1).wf = true := by
  obtain ⟨p0, q0, e0, ⟨g0, w0⟩, p1, q1, e1, ⟨g1, w1⟩, p2, q2, e2, h2, hz⟩ := h
  have hz' : q2 = [] := hz
  have l := Sh.Rd.len _ _ _ h2
  replace l : p2.length = 1 := l
  match p2, l, h2 with
  | [v], _, h2 =>
    refine ⟨v, ?_, h2, w0, w1⟩
    rw [e0, g0, e1, g1, e2, hz']
    rfl

set_option maxHeartbeats 1000000 in
theorem lSzCatch (x : DCatch) (v : Value) (left : Int) (w : World) (B : Nat) (hr : shCatch.Rd w B x [.int .i64 x.1, .int .i64 x.2.1, v]) (hB : B ≤ w.heap.size) (h0 : 0 ≤ left) (h1 : left ≤ 1048576) :
    Calls Tryz.prog 88 #[.agg #[.int .i64 x.1, .int .i64 x.2.1, v], .int .i64 left] w fun e w' => e = .returned (.int .i64 (if left < totCatch x then -1 else left - totCatch x)) ∧ Below w.heap.size w w' := by
  obtain ⟨vv, ev, rk, wf0, wf1⟩ := rd_Catch hr
  simp only [List.cons.injEq, and_true, true_and] at ev
  subst ev
  have HC : Hid (∀ W, Below w.heap.size w W → Calls Tryz.prog 119 #[v, .int .i64 left] W fun e w' => e = .returned (.int .i64 (if left < totCatch x then -1 else left - totCatch x)) ∧ Below W.heap.size W w') := fun W hW => lSzSpans x.2.2.1 v left W B (rk.below hB hW) (Nat.le_trans hB hW.size) h0 h1
  obtain ⟨va, vc, ev2⟩ := row_form rk
  simp only [List.cons.injEq, and_true] at ev2
  subst ev2
  clear hr rk
  generalize totCatch x = N at *
  generalize x.1 = y0 at *
  generalize x.2.1 = y1 at *
  generalize x.2.2.1.length = n at *
  by_cases h : left < N
  · rw [if_pos h] at HC ⊢
    go_enter Tryz.func88, Tryz.ntmps88
    go_wp2_with fail
    refine (HC.out _ (by go_grown)).mono ?_
    rintro e w1 ⟨rfl, hb⟩
    go_wp2_with fail
    go_ret
    exact ⟨rfl, Below.trans (by go_grown) (hb.mono (by simp))⟩
  · rw [if_neg h] at HC ⊢
    have h2 : 0 ≤ left - (N : Int) := by omega
    go_enter Tryz.func88, Tryz.ntmps88
    go_wp2_with fail
    refine (HC.out _ (by go_grown)).mono ?_
    rintro e w1 ⟨rfl, hb⟩
    go_wp2_with fail
    go_ret
    exact ⟨rfl, Below.trans (by go_grown) (hb.mono (by simp))⟩

set_option maxHeartbeats 2000000 in
theorem lToCatch (x : DCatch) (v : Value) (w : World) (B : Nat) (hr : shCatch.Rd w B x [.int .i64 x.1, .int .i64 x.2.1, v]) (hB : B ≤ w.heap.size) (hT : totCatch x ≤ 1048576) :
    Calls Tryz.prog 95 #[.agg #[.int .i64 x.1, .int .i64 x.2.1, v]] w fun e w' => ∃ u, e = .returned (.agg #[.int .i64 x.1, .int .i64 x.2.1, u]) ∧ Own w' w.heap.size w'.heap.size shCatch x [.int .i64 x.1, .int .i64 x.2.1, u] ∧ Below w.heap.size w w' := by
  obtain ⟨vv, ev, rk, wf0, wf1⟩ := rd_Catch hr
  simp only [List.cons.injEq, and_true, true_and] at ev
  subst ev
  have HC : Hid (∀ W, Below w.heap.size w W → Calls Tryz.prog 123 #[v] W fun e w' => ∃ u, e = .returned u ∧ Own w' W.heap.size w'.heap.size shSpans x.2.2.1 [u] ∧ Below W.heap.size W w') := fun W hW => lToSpans x.2.2.1 v W B (rk.below hB hW) (Nat.le_trans hB hW.size) hT
  obtain ⟨va, vc, ev2⟩ := row_form rk
  simp only [List.cons.injEq, and_true] at ev2
  subst ev2
  have HWF0 : Hid _ := wf0
  have HWF1 : Hid _ := wf1
  clear hr rk hT hB wf0 wf1
  obtain ⟨y0, y1, d, _⟩ := x
  simp only at *
  go_enter Tryz.func95, Tryz.ntmps95
  go_wp2_with fail
  refine (HC.out _ (by go_grown)).mono ?_
  rintro e w1 ⟨u, rfl, ho, hb1⟩
  obtain ⟨ua, uc, eu⟩ := row_form (ho.rd (Nat.le_refl _))
  simp only [List.cons.injEq, and_true] at eu
  subst eu
  have hz := hb1.size
  simp at hz
  simp only [World.size_alloc] at ho
  obtain ⟨hc, hf⟩ := bcell hb1
  have z1 : w.heap.size < w1.heap.size := by omega
  have z2 : w.heap.size + 1 < w1.heap.size := by omega
  have z3 : w.heap.size + 1 + 1 < w1.heap.size := by omega
  have HB : Hid _ := hb1
  have HO : Hid (Own w1 (w.heap.size + 1 + 1 + 1) w1.heap.size shSpans d [.slice ua d.length uc]) := ho
  clear hb1 ho hz HC
  go_wp2_with fail
  have hB1 : Below w.heap.size w w1 := Below.trans (by go_grown) (HB.out.mono (by simp; omega))
  refine bodyPost_ret (v := .agg #[.int .i64 y0, .int .i64 y1, .slice ua d.length uc]) (by simp [results, Tryz.results95, go_sem, hc]) rfl ⟨_, rfl, ?_, ?_⟩
  · have h2 : Own w1 (w.heap.size + 1 + 1 + 1) w1.heap.size shCatch (y0, y1, d, ()) [.int .i64 y0, .int .i64 y1, .slice ua d.length uc] := hOwnCons (hOwnInt w1 _ (w.heap.size + 1 + 1 + 1) HWF0.out) (hOwnCons (hOwnInt w1 _ (w.heap.size + 1 + 1 + 1) HWF1.out) (hOwnCons HO.out (hOwnNil _ _ _) (by omega) (Nat.le_refl _)) (Nat.le_refl _) (by omega)) (Nat.le_refl _) (by omega)
    refine Own.mono (Own.keep h2 fun b hb hlt => ?_) (by omega) (by simp)
    repeat rw [Below.heap_setCell _ _ _ _ (by dsimp only; omega)]
  · clear hc hf HO HB
    go_grown

set_option maxHeartbeats 2000000 in
theorem lEqCatch (x : DCatch) (v u : Value) (w : World) (B : Nat) (hr : shCatch.Rd w B x [.int .i64 x.1, .int .i64 x.2.1, v]) (hr' : shCatch.Rd w B x [.int .i64 x.1, .int .i64 x.2.1, u]) (hB : B ≤ w.heap.size) (hT : totCatch x ≤ 1048576) :
    Calls Tryz.prog 116 #[.agg #[.int .i64 x.1, .int .i64 x.2.1, v], .agg #[.int .i64 x.1, .int .i64 x.2.1, u]] w fun e w' => e = .returned (.bool true) ∧ Below w.heap.size w w' := by
  obtain ⟨vv, ev, rk, wf0, wf1⟩ := rd_Catch hr
  simp only [List.cons.injEq, and_true, true_and] at ev
  subst ev
  obtain ⟨vv, ev, rk', -⟩ := rd_Catch hr'
  simp only [List.cons.injEq, and_true, true_and] at ev
  subst ev
  have HC : Hid (∀ W, Below w.heap.size w W → Calls Tryz.prog 141 #[v, u] W fun e w' => e = .returned (.bool true) ∧ Below W.heap.size W w') := fun W hW => lEqSpans x.2.2.1 v u W B (rk.below hB hW) (rk'.below hB hW) (Nat.le_trans hB hW.size) hT
  obtain ⟨va, vc, ev2⟩ := row_form rk
  simp only [List.cons.injEq, and_true] at ev2
  subst ev2
  obtain ⟨ua, uc, ev2⟩ := row_form rk'
  simp only [List.cons.injEq, and_true] at ev2
  subst ev2
  clear hr hr' rk rk' hT wf0 wf1
  generalize x.1 = y0 at *
  generalize x.2.1 = y1 at *
  generalize x.2.2.1.length = n at *
  go_enter Tryz.func116, Tryz.ntmps116
  go_wp2_with fail
  refine (HC.out _ (by go_grown)).mono ?_
  rintro e w1 ⟨rfl, hb1⟩
  have HB1 : Hid (Below w.heap.size w w1) := Below.trans (by go_grown) (hb1.mono (by simp; omega))
  have k0 : ∀ o, w1.cell? ⟨w.heap.size, o, none⟩ = (#[.int .i64 y0, .int .i64 y1, .slice va n vc] : Array Value)[o]? := fun o => by rw [(bcell hb1).1 _ o (by simp; omega)]; simp [go_sem]
  have k1 : ∀ o, w1.cell? ⟨w.heap.size + 1, o, none⟩ = (#[.int .i64 y0, .int .i64 y1, .slice ua n uc] : Array Value)[o]? := fun o => by rw [(bcell hb1).1 _ o (by simp)]; simp [go_sem]
  clear hb1 HC
  go_wp2_with fail
  go_ret
  exact ⟨rfl, HB1.out⟩
end Go.Proofs.YtfpemobkkfobkaaGreatDoor

/- A law's parameters opened: bytes, a number; no condition. -/
namespace Go.Proofs.YtfpemobkkfobkaaGreatDoor
open Go.RowKit Go.ChangeShapes Go.WideShapes Go.ChangeAt
set_option linter.unusedVariables false
set_option maxRecDepth 8000

theorem rd_i64 {n : Int} (h : (Lit.int .i64 n).wf = true) : -9223372036854775808 ≤ n ∧ n ≤ 9223372036854775807 := by
  simp [Lit.wf, IntKind.min, IntKind.max, IntKind.signed, IntKind.bits] at h; omega
theorem val_agg {w : World} {base : Nat} {t : TypeId} {v : Value} {fs : Array Field} (hu : Tryz.prog.underlying t = some (.struct fs)) (o : Value.okWide Tryz.prog w .any base t v) : ∃ cs, v = .agg cs := by
  unfold Value.okWide at o
  rw [hu] at o
  obtain ⟨cs, h, _⟩ := o
  exact ⟨cs, h⟩

theorem open_i64v {H : Type} {enc : TypeId × Value → H} {w : World} {base : Nat} {v : Value} (o : Value.okWide Tryz.prog w .any base 2 v) (hx : ∃ n y, DataW.trod enc Tryz.prog w 0 (fun _ => true) true n 2 v.cells.toList = some y) :
    ∃ n, v = .int .i64 n ∧ (Lit.int .i64 n).wf = true := by
  obtain ⟨n, y, h⟩ := hx
  obtain ⟨n, e, _, hr⟩ := DataW.trod_int Tryz.underlying2 h
  refine ⟨n, ?_, hr⟩
  cases v <;> simp_all [Value.okWide, Cell.okWide, Cell.ok, Value.cells, Tryz.underlying2]

theorem fits_u8 : u8s.fits Tryz.prog (.inl 62) := ⟨_, Tryz.underlying62, by kernel_rfl, by decide, Tryz.underlying5⟩
theorem open_byv {H : Type} {enc : TypeId × Value → H} {w : World} {base : Nat} {v : Value} (o : Value.okWide Tryz.prog w .any base 62 v) (hx : ∃ n y, DataW.trod enc Tryz.prog w 0 (fun _ => true) true n 62 v.cells.toList = some y) :
    ∃ l, u8s.Rd w w.heap.size l [v] := by
  obtain ⟨l, hd⟩ := (open_sh (enc := enc) (P := Tryz.prog) (w := w) u8s).1 _ _ fits_u8 hx
  obtain ⟨a, cap, e, r⟩ := hd
  have : v = .slice a l.length cap := by cases v <;> simp_all [Value.okWide, Cell.okWide, Cell.ok, Value.cells, Tryz.underlying62]
  subst this
  exact ⟨l, a, cap, rfl, r⟩
end Go.Proofs.YtfpemobkkfobkaaGreatDoor

/- What stays of a law's own boxes over a call that leaves old memory alone; no condition. -/
namespace Go.Proofs.YtfpemobkkfobkaaGreatDoor
open Go.RowKit
set_option linter.unusedVariables false

theorem bx_below {w w' : World} {b : Nat} {cs : Array Value} (h : ∀ o, w.cell? ⟨b, o, none⟩ = cs[o]?) (hb : b < w.heap.size) (k : Below w.heap.size w w') : ∀ o, w'.cell? ⟨b, o, none⟩ = cs[o]? :=
  fun o => (k.cell (p := ⟨b, o, none⟩) hb).trans (h o)
theorem bx_new {w w' : World} {cs : Array Value} {t : TypeId} (k : Below (w.alloc (.cells cs t)).heap.size (w.alloc (.cells cs t)) w') : ∀ o, w'.cell? ⟨w.heap.size, o, none⟩ = cs[o]? :=
  fun o => (k.cell (p := ⟨w.heap.size, o, none⟩) (by simp)).trans (by simp)
theorem bl_new {w w' : World} {O : Obj} (k : Below (w.alloc O).heap.size (w.alloc O) w') : Below w.heap.size w w' ∧ w.heap.size < w'.heap.size := by
  refine ⟨((Below.refl _ _).alloc (Nat.le_refl _) _).trans (k.mono (by simp)), ?_⟩
  have := k.size
  simp at this
  omega
theorem bl_drew {w w' : World} (k : Below w.drew.heap.size w.drew w') : Below w.heap.size w w' := (Below.drew (Below.refl _ _)).trans k
theorem bl_of {w w' : World} (k : w' = w) : Below w.heap.size w w' := by rw [k]; exact Below.refl _ _
/-- A box that is written by a call on a row of the call's own (from block lo on, below hi) stays. -/
theorem bx_keep {w w' : World} {b : Nat} {cs : Array Value} (h : ∀ o, w.cell? ⟨b, o, none⟩ = cs[o]?) (hk : w'.heap[b]? = w.heap[b]?) : ∀ o, w'.cell? ⟨b, o, none⟩ = cs[o]? :=
  fun o => (World.cell?_of_block (w := w) (a := ⟨b, o, none⟩) hk).trans (h o)
end Go.Proofs.YtfpemobkkfobkaaGreatDoor
