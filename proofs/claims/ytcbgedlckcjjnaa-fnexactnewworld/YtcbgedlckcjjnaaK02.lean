/- What the law's own helpers (measure, copy, compare) make of values of type Flight and slices of them; no condition but that there are at most a million parts. Written by hl.py. -/
import Derived.Test.YtcbgedlckcjjnaaRows
import Derived.Deep.DeepCutAuto
import Derived.Deep.RegionHeld3
import Derived.Test.YtcbgedlckcjjnaaK01
namespace Go.Proofs.Ytcbgedlckcjjnaa
open Go.RowKit
set_option linter.unusedVariables false

abbrev shFlight : Sh := .cons (.int .i64) (.cons (.int .i64) (.cons u8s (.cons (.int .i64) (.cons (.int .i64) (.nil)))))
abbrev DFlight : Type := Int × Int × List Int × Int × Int × Unit
def totFlight (x : DFlight) : Nat := x.2.2.1.length

theorem rd_Flight {w : World} {B : Nat} {x : DFlight} {cs : List Value} (h : shFlight.Rd w B x cs) : ∃ v, cs = [.int .i64 x.1, .int .i64 x.2.1, v, .int .i64 x.2.2.2.1, .int .i64 x.2.2.2.2.1] ∧ u8s.Rd w B x.2.2.1 [v] ∧ (Lit.int .i64 x.1).wf = true ∧ (Lit.int .i64 x.2.1).wf = true ∧ (Lit.int .i64 x.2.2.2.1).wf = true ∧ (Lit.int .i64 x.2.2.2.2.1).wf = true := by
  obtain ⟨p0, q0, e0, ⟨g0, w0⟩, p1, q1, e1, ⟨g1, w1⟩, p2, q2, e2, h2, p3, q3, e3, ⟨g3, w3⟩, p4, q4, e4, ⟨g4, w4⟩, hz⟩ := h
  have hz' : q4 = [] := hz
  have l := Sh.Rd.len _ _ _ h2
  replace l : p2.length = 1 := l
  match p2, l, h2 with
  | [v], _, h2 =>
    refine ⟨v, ?_, h2, w0, w1, w3, w4⟩
    rw [e0, g0, e1, g1, e2, e3, g3, e4, g4, hz']
    rfl



set_option maxHeartbeats 2000000 in
theorem lEqFlight (x : DFlight) (v u : Value) (w : World) (B : Nat) (hr : shFlight.Rd w B x [.int .i64 x.1, .int .i64 x.2.1, v, .int .i64 x.2.2.2.1, .int .i64 x.2.2.2.2.1]) (hr' : shFlight.Rd w B x [.int .i64 x.1, .int .i64 x.2.1, u, .int .i64 x.2.2.2.1, .int .i64 x.2.2.2.2.1]) (hB : B ≤ w.heap.size) (hT : totFlight x ≤ 1048576) :
    Calls Try.prog 62 #[.agg #[.int .i64 x.1, .int .i64 x.2.1, v, .int .i64 x.2.2.2.1, .int .i64 x.2.2.2.2.1], .agg #[.int .i64 x.1, .int .i64 x.2.1, u, .int .i64 x.2.2.2.1, .int .i64 x.2.2.2.2.1]] w fun e w' => e = .returned (.bool true) ∧ Below w.heap.size w w' := by
  obtain ⟨vv, ev, rk, wf0, wf1, wf3, wf4⟩ := rd_Flight hr
  simp only [List.cons.injEq, and_true, true_and] at ev
  subst ev
  obtain ⟨vv, ev, rk', -⟩ := rd_Flight hr'
  simp only [List.cons.injEq, and_true, true_and] at ev
  subst ev
  have HC : Hid (∀ W, Below w.heap.size w W → Calls Try.prog 13 #[v, u] W fun e w' => e = .returned (.bool true) ∧ Below W.heap.size W w') := fun W hW => lEqBytes x.2.2.1 v u W B (rk.below hB hW) (rk'.below hB hW) (Nat.le_trans hB hW.size) hT
  obtain ⟨va, vc, ev2⟩ := row_form rk
  simp only [List.cons.injEq, and_true] at ev2
  subst ev2
  obtain ⟨ua, uc, ev2⟩ := row_form rk'
  simp only [List.cons.injEq, and_true] at ev2
  subst ev2
  clear hr hr' rk rk' hT wf0 wf1 wf3 wf4
  generalize x.1 = y0 at *
  generalize x.2.1 = y1 at *
  generalize x.2.2.2.1 = y3 at *
  generalize x.2.2.2.2.1 = y4 at *
  generalize x.2.2.1.length = n at *
  go_enter Try.func62, Try.ntmps62
  go_wp2_with fail
  refine (HC.out _ (by go_grown)).mono ?_
  rintro e w1 ⟨rfl, hb1⟩
  have HB1 : Hid (Below w.heap.size w w1) := Below.trans (by go_grown) (hb1.mono (by simp; omega))
  have k0 : ∀ o, w1.cell? ⟨w.heap.size, o, none⟩ = (#[.int .i64 y0, .int .i64 y1, .slice va n vc, .int .i64 y3, .int .i64 y4] : Array Value)[o]? := fun o => by rw [(bcell hb1).1 _ o (by simp; omega)]; simp [go_sem]
  have k1 : ∀ o, w1.cell? ⟨w.heap.size + 1, o, none⟩ = (#[.int .i64 y0, .int .i64 y1, .slice ua n uc, .int .i64 y3, .int .i64 y4] : Array Value)[o]? := fun o => by rw [(bcell hb1).1 _ o (by simp)]; simp [go_sem]
  clear hb1 HC
  go_wp2_with fail
  go_ret
  exact ⟨rfl, HB1.out⟩

abbrev shFlights : Sh := .row 97 shFlight
def totFlights (l : List DFlight) : Nat := l.length + fsum totFlight l
theorem at_Flights {w : World} {B : Nat} {l : List DFlight} {a : Option Addr} {n cap : Nat} (h : shFlights.Rd w B l [.slice a n cap]) (k : Nat) (hk : k < l.length) : ∃ b off v, a = some ⟨b, off, none⟩ ∧ b < B ∧ w.cell? ⟨b, off + k * 5, none⟩ = some (.int .i64 l[k].1) ∧ w.cell? ⟨b, off + k * 5 + 1, none⟩ = some (.int .i64 l[k].2.1) ∧ w.cell? ⟨b, off + k * 5 + 2, none⟩ = some (v) ∧ w.cell? ⟨b, off + k * 5 + 3, none⟩ = some (.int .i64 l[k].2.2.2.1) ∧ w.cell? ⟨b, off + k * 5 + 4, none⟩ = some (.int .i64 l[k].2.2.2.2.1) ∧ shFlight.Rd w B l[k] [.int .i64 l[k].1, .int .i64 l[k].2.1, v, .int .i64 l[k].2.2.2.1, .int .i64 l[k].2.2.2.2.1] := by
  obtain ⟨a', cap', h1, h2, h3, b, off, h4, h5⟩ := h
  simp only [List.cons.injEq, Value.slice.injEq, and_true] at h1
  obtain ⟨rfl, -, -⟩ := h1
  obtain ⟨ea, hb⟩ := h4 (by intro e; subst e; simp at hk)
  obtain ⟨cs', g1, g2, g3⟩ := h5 k hk
  obtain ⟨v, e, -⟩ := rd_Flight g3
  subst e
  refine ⟨b, off, v, ea, hb, ?_, ?_, ?_, ?_, ?_, g3⟩
  · have := g2 0 (by decide); simpa [Sh.sz] using this
  · have := g2 1 (by decide); simpa [Sh.sz] using this
  · have := g2 2 (by decide); simpa [Sh.sz] using this
  · have := g2 3 (by decide); simpa [Sh.sz] using this
  · have := g2 4 (by decide); simpa [Sh.sz] using this



set_option maxHeartbeats 4000000 in
theorem lEqFlights (l : List DFlight) (v u : Value) (w : World) (B : Nat) (hr : shFlights.Rd w B l [v]) (hr' : shFlights.Rd w B l [u]) (hB : B ≤ w.heap.size) (hT : totFlights l ≤ 1048576) :
    Calls Try.prog 60 #[v, u] w fun e w' => e = .returned (.bool true) ∧ Below w.heap.size w w' := by
  obtain ⟨a, cap, ev⟩ := row_form hr
  simp only [List.cons.injEq, and_true] at ev
  subst ev
  obtain ⟨a', cap', ev⟩ := row_form hr'
  simp only [List.cons.injEq, and_true] at ev
  subst ev
  have hmx : l.length ≤ 9223372036854775807 := row_max hr
  have HT : Hid (∀ k (hk : k < l.length), totFlight l[k] ≤ 1048576) := fun k hk => by have := fsum_at totFlight hk; unfold totFlights at hT; omega
  obtain ⟨n, hn⟩ : ∃ n, l.length = n := ⟨_, rfl⟩
  rw [hn] at hr hr' hmx ⊢
  have HR1 : Hid (∀ W, Below w.heap.size w W → shFlights.Rd W B l [.slice a n cap]) := fun W hW => hr.below hB hW
  have HR2 : Hid (∀ W, Below w.heap.size w W → shFlights.Rd W B l [.slice a' n cap']) := fun W hW => hr'.below hB hW
  have HN : Hid (l.length = n) := hn
  clear hr hr' hT hn
  go_enter Try.func60, Try.ntmps60
  go_wp2_with fail
  go_loopw [5] (fun i wr => ∃ (k : Nat), k ≤ n ∧ i = .int .i64 k ∧ Below w.heap.size w wr) (fun i _ => n - (intOf i).toNat)
  case atStart => exact ⟨0, Nat.zero_le _, rfl, Below.refl _ _⟩
  case round =>
    obtain ⟨k, hk, rfl, hbl⟩ := hrel
    by_cases hlt : k < n
    · have hkl : k < l.length := by have := HN.out; omega
      obtain ⟨b0, off0, v, ha, hb0, c00, c01, c02, c03, c04, r0⟩ := at_Flights (HR1.out wr hbl) k hkl
      subst ha
      obtain ⟨vv, ev, rk0, -⟩ := rd_Flight r0
      simp only [List.cons.injEq, and_true, true_and] at ev
      subst ev
      obtain ⟨va, vc, ev2⟩ := row_form rk0
      simp only [List.cons.injEq, and_true] at ev2
      subst ev2
      obtain ⟨b1, off1, u, ha, hb1, c10, c11, c12, c13, c14, r1⟩ := at_Flights (HR2.out wr hbl) k hkl
      subst ha
      obtain ⟨vv, ev, rk1, -⟩ := rd_Flight r1
      simp only [List.cons.injEq, and_true, true_and] at ev
      subst ev
      obtain ⟨ua, uc, ev2⟩ := row_form rk1
      simp only [List.cons.injEq, and_true] at ev2
      subst ev2
      have HC : Hid (∀ W, Below wr.heap.size wr W → Calls Try.prog 62 #[.agg #[.int .i64 l[k].1, .int .i64 l[k].2.1, .slice va l[k].2.2.1.length vc, .int .i64 l[k].2.2.2.1, .int .i64 l[k].2.2.2.2.1], .agg #[.int .i64 l[k].1, .int .i64 l[k].2.1, .slice ua l[k].2.2.1.length uc, .int .i64 l[k].2.2.2.1, .int .i64 l[k].2.2.2.2.1]] W fun e w' => e = .returned (.bool true) ∧ Below W.heap.size W w') := fun W hW => lEqFlight l[k] _ _ W B (r0.below (Nat.le_trans hB hbl.size) hW) (r1.below (Nat.le_trans hB hbl.size) hW) (Nat.le_trans hB (Nat.le_trans hbl.size hW.size)) (HT.out k hkl)
      have HBl : Hid _ := hbl
      clear r0 r1 rk0 rk1 hbl
      generalize l[k].1 = y0 at *
      generalize l[k].2.1 = y1 at *
      generalize l[k].2.2.2.1 = y3 at *
      generalize l[k].2.2.2.2.1 = y4 at *
      generalize l[k].2.2.1.length = nn at *
      go_wp2_with fail
      go_region_held3 (fun w' => w'.cell? ⟨b0, off0 + k * 5, none⟩ = some (.int .i64 y0) ∧ w'.cell? ⟨b0, off0 + k * 5 + 1, none⟩ = some (.int .i64 y1) ∧ w'.cell? ⟨b0, off0 + k * 5 + 2, none⟩ = some (.slice va nn vc) ∧ w'.cell? ⟨b0, off0 + k * 5 + 3, none⟩ = some (.int .i64 y3) ∧ w'.cell? ⟨b0, off0 + k * 5 + 4, none⟩ = some (.int .i64 y4) ∧ w'.cell? ⟨b1, off1 + k * 5, none⟩ = some (.int .i64 y0) ∧ w'.cell? ⟨b1, off1 + k * 5 + 1, none⟩ = some (.int .i64 y1) ∧ w'.cell? ⟨b1, off1 + k * 5 + 2, none⟩ = some (.slice ua nn uc) ∧ w'.cell? ⟨b1, off1 + k * 5 + 3, none⟩ = some (.int .i64 y3) ∧ w'.cell? ⟨b1, off1 + k * 5 + 4, none⟩ = some (.int .i64 y4)) (first | go_keep)
        (first | (go_at_call 62; refine (HC.out _ (Below.drew (Below.refl _ _))).mono ?_; rintro e w1 ⟨rfl, hb1⟩; replace hb1 := (Below.drew (Below.refl wr.heap.size wr)).trans hb1; have HB1 : Hid (Below w.heap.size w w1) := HBl.out.trans (hb1.mono HBl.out.size); have d00 := (hb1.cell (p := ⟨b0, off0 + k * 5, none⟩) (by dsimp only; have := HBl.out.size; omega)).trans c00; have d01 := (hb1.cell (p := ⟨b0, off0 + k * 5 + 1, none⟩) (by dsimp only; have := HBl.out.size; omega)).trans c01; have d02 := (hb1.cell (p := ⟨b0, off0 + k * 5 + 2, none⟩) (by dsimp only; have := HBl.out.size; omega)).trans c02; have d03 := (hb1.cell (p := ⟨b0, off0 + k * 5 + 3, none⟩) (by dsimp only; have := HBl.out.size; omega)).trans c03; have d04 := (hb1.cell (p := ⟨b0, off0 + k * 5 + 4, none⟩) (by dsimp only; have := HBl.out.size; omega)).trans c04; have d10 := (hb1.cell (p := ⟨b1, off1 + k * 5, none⟩) (by dsimp only; have := HBl.out.size; omega)).trans c10; have d11 := (hb1.cell (p := ⟨b1, off1 + k * 5 + 1, none⟩) (by dsimp only; have := HBl.out.size; omega)).trans c11; have d12 := (hb1.cell (p := ⟨b1, off1 + k * 5 + 2, none⟩) (by dsimp only; have := HBl.out.size; omega)).trans c12; have d13 := (hb1.cell (p := ⟨b1, off1 + k * 5 + 3, none⟩) (by dsimp only; have := HBl.out.size; omega)).trans c13; have d14 := (hb1.cell (p := ⟨b1, off1 + k * 5 + 4, none⟩) (by dsimp only; have := HBl.out.size; omega)).trans c14; clear hb1))
      all_goals (go_wp2_with fail; go_roundw)
      case rel => exact ⟨k + 1, by omega, by go_num, HB1.out⟩
      case measure => simp [intOf]; omega
    · obtain rfl : k = n := by omega
      go_wp2_with fail
      go_ret
      exact ⟨rfl, hbl⟩
end Go.Proofs.Ytcbgedlckcjjnaa

/- What the law's own helpers (measure, copy, compare) make of values of type Sender; no condition but that there are at most a million parts. Written by hl.py. -/
namespace Go.Proofs.Ytcbgedlckcjjnaa
open Go.RowKit
set_option linter.unusedVariables false

abbrev shSender : Sh := .cons (.int .i64) (.cons (.int .i64) (.cons (.int .i64) (.cons shFlights (.nil))))
abbrev DSender : Type := Int × Int × Int × (List DFlight) × Unit
def totSender (x : DSender) : Nat := totFlights x.2.2.2.1

theorem rd_Sender {w : World} {B : Nat} {x : DSender} {cs : List Value} (h : shSender.Rd w B x cs) : ∃ v, cs = [.int .i64 x.1, .int .i64 x.2.1, .int .i64 x.2.2.1, v] ∧ shFlights.Rd w B x.2.2.2.1 [v] ∧ (Lit.int .i64 x.1).wf = true ∧ (Lit.int .i64 x.2.1).wf = true ∧ (Lit.int .i64 x.2.2.1).wf = true := by
  obtain ⟨p0, q0, e0, ⟨g0, w0⟩, p1, q1, e1, ⟨g1, w1⟩, p2, q2, e2, ⟨g2, w2⟩, p3, q3, e3, h3, hz⟩ := h
  have hz' : q3 = [] := hz
  have l := Sh.Rd.len _ _ _ h3
  replace l : p3.length = 1 := l
  match p3, l, h3 with
  | [v], _, h3 =>
    refine ⟨v, ?_, h3, w0, w1, w2⟩
    rw [e0, g0, e1, g1, e2, g2, e3, hz']
    rfl



set_option maxHeartbeats 2000000 in
theorem lEqSender (x : DSender) (v u : Value) (w : World) (B : Nat) (hr : shSender.Rd w B x [.int .i64 x.1, .int .i64 x.2.1, .int .i64 x.2.2.1, v]) (hr' : shSender.Rd w B x [.int .i64 x.1, .int .i64 x.2.1, .int .i64 x.2.2.1, u]) (hB : B ≤ w.heap.size) (hT : totSender x ≤ 1048576) :
    Calls Try.prog 57 #[.agg #[.int .i64 x.1, .int .i64 x.2.1, .int .i64 x.2.2.1, v], .agg #[.int .i64 x.1, .int .i64 x.2.1, .int .i64 x.2.2.1, u]] w fun e w' => e = .returned (.bool true) ∧ Below w.heap.size w w' := by
  obtain ⟨vv, ev, rk, wf0, wf1, wf2⟩ := rd_Sender hr
  simp only [List.cons.injEq, and_true, true_and] at ev
  subst ev
  obtain ⟨vv, ev, rk', -⟩ := rd_Sender hr'
  simp only [List.cons.injEq, and_true, true_and] at ev
  subst ev
  have HC : Hid (∀ W, Below w.heap.size w W → Calls Try.prog 60 #[v, u] W fun e w' => e = .returned (.bool true) ∧ Below W.heap.size W w') := fun W hW => lEqFlights x.2.2.2.1 v u W B (rk.below hB hW) (rk'.below hB hW) (Nat.le_trans hB hW.size) hT
  obtain ⟨va, vc, ev2⟩ := row_form rk
  simp only [List.cons.injEq, and_true] at ev2
  subst ev2
  obtain ⟨ua, uc, ev2⟩ := row_form rk'
  simp only [List.cons.injEq, and_true] at ev2
  subst ev2
  clear hr hr' rk rk' hT wf0 wf1 wf2
  generalize x.1 = y0 at *
  generalize x.2.1 = y1 at *
  generalize x.2.2.1 = y2 at *
  generalize x.2.2.2.1.length = n at *
  go_enter Try.func57, Try.ntmps57
  go_wp2_with fail
  refine (HC.out _ (by go_grown)).mono ?_
  rintro e w1 ⟨rfl, hb1⟩
  have HB1 : Hid (Below w.heap.size w w1) := Below.trans (by go_grown) (hb1.mono (by simp; omega))
  have k0 : ∀ o, w1.cell? ⟨w.heap.size, o, none⟩ = (#[.int .i64 y0, .int .i64 y1, .int .i64 y2, .slice va n vc] : Array Value)[o]? := fun o => by rw [(bcell hb1).1 _ o (by simp; omega)]; simp [go_sem]
  have k1 : ∀ o, w1.cell? ⟨w.heap.size + 1, o, none⟩ = (#[.int .i64 y0, .int .i64 y1, .int .i64 y2, .slice ua n uc] : Array Value)[o]? := fun o => by rw [(bcell hb1).1 _ o (by simp)]; simp [go_sem]
  clear hb1 HC
  go_wp2_with fail
  go_ret
  exact ⟨rfl, HB1.out⟩
end Go.Proofs.Ytcbgedlckcjjnaa

/- What the law's own helpers (measure, copy, compare) make of spans and slices of them; no condition but that there are at most a million parts. -/
namespace Go.Proofs.Ytcbgedlckcjjnaa
open Go.RowKit
set_option linter.unusedVariables false

abbrev shSpan : Sh := .cons (.int .i64) (.cons (.int .i64) .nil)
abbrev DSpan : Type := Int × Int × Unit
abbrev shSpans : Sh := .row 99 shSpan
def totSpans (l : List DSpan) : Nat := l.length
theorem rd_Span {w : World} {B : Nat} {x : DSpan} {cs : List Value} (h : shSpan.Rd w B x cs) : cs = [.int .i64 x.1, .int .i64 x.2.1] ∧ (Lit.int .i64 x.1).wf = true ∧ (Lit.int .i64 x.2.1).wf = true := by
  obtain ⟨p0, q0, e0, ⟨g0, w0⟩, p1, q1, e1, ⟨g1, w1⟩, hz⟩ := h
  have hz' : q1 = [] := hz
  refine ⟨?_, w0, w1⟩
  rw [e0, g0, e1, g1, hz']
  rfl
theorem at_Spans {w : World} {B : Nat} {l : List DSpan} {a : Option Addr} {n cap : Nat} (h : shSpans.Rd w B l [.slice a n cap]) (k : Nat) (hk : k < l.length) : ∃ b off, a = some ⟨b, off, none⟩ ∧ b < B ∧ w.cell? ⟨b, off + k * 2, none⟩ = some (.int .i64 l[k].1) ∧ w.cell? ⟨b, off + k * 2 + 1, none⟩ = some (.int .i64 l[k].2.1) ∧ (Lit.int .i64 l[k].1).wf = true ∧ (Lit.int .i64 l[k].2.1).wf = true := by
  obtain ⟨a', cap', h1, h2, h3, b, off, h4, h5⟩ := h
  simp only [List.cons.injEq, Value.slice.injEq, and_true] at h1
  obtain ⟨rfl, -, -⟩ := h1
  obtain ⟨ea, hb⟩ := h4 (by intro e; subst e; simp at hk)
  obtain ⟨cs', g1, g2, g3⟩ := h5 k hk
  obtain ⟨e, w0, w1⟩ := rd_Span g3
  subst e
  refine ⟨b, off, ea, hb, ?_, ?_, w0, w1⟩
  · have := g2 0 (by decide); simpa [Sh.sz] using this
  · have := g2 1 (by decide); simpa [Sh.sz] using this
theorem own_span {w : World} {y0 y1 : Int} (lo : Nat) (h0 : (Lit.int .i64 y0).wf = true) (h1 : (Lit.int .i64 y1).wf = true) : Own w lo lo shSpan (y0, y1, ()) [.int .i64 y0, .int .i64 y1] :=
  hOwnCons (hOwnInt w lo lo h0) (hOwnCons (hOwnInt w lo lo h1) (hOwnNil _ _ _) (Nat.le_refl _) (Nat.le_refl _)) (Nat.le_refl _) (Nat.le_refl _)
theorem info_Span : (Try.prog.info? 99).map (fun i => (i.zero, i.size, i.bytes)) = some (some (.agg #[.int .i64 0, .int .i64 0]), 2, 16) := by kernel_rfl

theorem lEqSpan (y0 y1 : Int) (w : World) :
    Calls Try.prog 63 #[.agg #[.int .i64 y0, .int .i64 y1], .agg #[.int .i64 y0, .int .i64 y1]] w fun e w' => e = .returned (.bool true) ∧ Below w.heap.size w w' := by
  go_enter Try.func63, Try.ntmps63
  go_wp2_with fail
  go_ret
  exact ⟨rfl, by go_grown⟩
set_option maxHeartbeats 1000000 in
theorem lEqSpans (l : List DSpan) (v u : Value) (w : World) (B : Nat) (hr : shSpans.Rd w B l [v]) (hr' : shSpans.Rd w B l [u]) (hB : B ≤ w.heap.size) (hT : totSpans l ≤ 1048576) :
    Calls Try.prog 61 #[v, u] w fun e w' => e = .returned (.bool true) ∧ Below w.heap.size w w' := by
  obtain ⟨a, cap, ev⟩ := row_form hr
  simp only [List.cons.injEq, and_true] at ev
  subst ev
  obtain ⟨a', cap', ev⟩ := row_form hr'
  simp only [List.cons.injEq, and_true] at ev
  subst ev
  have hmx : l.length ≤ 9223372036854775807 := row_max hr
  obtain ⟨n, hn⟩ : ∃ n, l.length = n := ⟨_, rfl⟩
  rw [hn] at hr hr' hmx ⊢
  have HR1 : Hid (∀ W, Below w.heap.size w W → shSpans.Rd W B l [.slice a n cap]) := fun W hW => hr.below hB hW
  have HR2 : Hid (∀ W, Below w.heap.size w W → shSpans.Rd W B l [.slice a' n cap']) := fun W hW => hr'.below hB hW
  have HN : Hid (l.length = n) := hn
  clear hr hr' hT hn
  go_enter Try.func61, Try.ntmps61
  go_wp2_with fail
  go_loopw [5] (fun i wr => ∃ (k : Nat), k ≤ n ∧ i = .int .i64 k ∧ Below w.heap.size w wr) (fun i _ => n - (intOf i).toNat)
  case atStart => exact ⟨0, Nat.zero_le _, rfl, Below.refl _ _⟩
  case round =>
    obtain ⟨k, hk, rfl, hbl⟩ := hrel
    by_cases hlt : k < n
    · have hkl : k < l.length := by have := HN.out; omega
      obtain ⟨b0, off0, ha, hb0, c00, c01, -, -⟩ := at_Spans (HR1.out wr hbl) k hkl
      subst ha
      obtain ⟨b1, off1, ha, hb1, c10, c11, -, -⟩ := at_Spans (HR2.out wr hbl) k hkl
      subst ha
      have HBl : Hid _ := hbl
      have z0 : b0 < wr.heap.size := Nat.lt_of_lt_of_le hb0 (Nat.le_trans hB HBl.out.size)
      have z1 : b1 < wr.heap.size := Nat.lt_of_lt_of_le hb1 (Nat.le_trans hB HBl.out.size)
      clear hbl hb0 hb1
      generalize l[k].1 = y0 at *
      generalize l[k].2.1 = y1 at *
      go_wp2_with fail
      go_region_held3 (fun w' => w'.cell? ⟨b0, off0 + k * 2, none⟩ = some (.int .i64 y0) ∧ w'.cell? ⟨b0, off0 + k * 2 + 1, none⟩ = some (.int .i64 y1) ∧ w'.cell? ⟨b1, off1 + k * 2, none⟩ = some (.int .i64 y0) ∧ w'.cell? ⟨b1, off1 + k * 2 + 1, none⟩ = some (.int .i64 y1)) (first | go_keep)
        (first | (go_at_call 63; refine (lEqSpan y0 y1 _).mono ?_; rintro e w1 ⟨rfl, hb⟩; replace hb := (Below.drew (Below.refl wr.heap.size wr)).trans hb; have HB1 : Hid (Below w.heap.size w w1) := HBl.out.trans (hb.mono HBl.out.size); have d00 := (hb.cell (p := ⟨b0, off0 + k * 2, none⟩) z0).trans c00; have d01 := (hb.cell (p := ⟨b0, off0 + k * 2 + 1, none⟩) z0).trans c01; have d10 := (hb.cell (p := ⟨b1, off1 + k * 2, none⟩) z1).trans c10; have d11 := (hb.cell (p := ⟨b1, off1 + k * 2 + 1, none⟩) z1).trans c11; clear hb))
      all_goals (go_wp2_with fail; go_roundw)
      case rel => exact ⟨k + 1, by omega, by go_num, HB1.out⟩
      case measure => simp [intOf]; omega
    · obtain rfl : k = n := by omega
      go_wp2_with fail
      go_ret
      exact ⟨rfl, hbl⟩
end Go.Proofs.Ytcbgedlckcjjnaa

/- What the law's own helpers (measure, copy, compare) make of values of type Catch; no condition but that there are at most a million parts. Written by hl.py. -/
namespace Go.Proofs.Ytcbgedlckcjjnaa
open Go.RowKit
set_option linter.unusedVariables false

abbrev shCatch : Sh := .cons (.int .i64) (.cons (.int .i64) (.cons shSpans (.nil)))
abbrev DCatch : Type := Int × Int × (List DSpan) × Unit
def totCatch (x : DCatch) : Nat := totSpans x.2.2.1

theorem rd_Catch {w : World} {B : Nat} {x : DCatch} {cs : List Value} (h : shCatch.Rd w B x cs) : ∃ v, cs = [.int .i64 x.1, .int .i64 x.2.1, v] ∧ shSpans.Rd w B x.2.2.1 [v] ∧ (Lit.int .i64 x.1).wf = true ∧ (Lit.int .i64 x.2.1).wf = true := by
  obtain ⟨p0, q0, e0, ⟨g0, w0⟩, p1, q1, e1, ⟨g1, w1⟩, p2, q2, e2, h2, hz⟩ := h
  have hz' : q2 = [] := hz
  have l := Sh.Rd.len _ _ _ h2
  replace l : p2.length = 1 := l
  match p2, l, h2 with
  | [v], _, h2 =>
    refine ⟨v, ?_, h2, w0, w1⟩
    rw [e0, g0, e1, g1, e2, hz']
    rfl



set_option maxHeartbeats 2000000 in
theorem lEqCatch (x : DCatch) (v u : Value) (w : World) (B : Nat) (hr : shCatch.Rd w B x [.int .i64 x.1, .int .i64 x.2.1, v]) (hr' : shCatch.Rd w B x [.int .i64 x.1, .int .i64 x.2.1, u]) (hB : B ≤ w.heap.size) (hT : totCatch x ≤ 1048576) :
    Calls Try.prog 58 #[.agg #[.int .i64 x.1, .int .i64 x.2.1, v], .agg #[.int .i64 x.1, .int .i64 x.2.1, u]] w fun e w' => e = .returned (.bool true) ∧ Below w.heap.size w w' := by
  obtain ⟨vv, ev, rk, wf0, wf1⟩ := rd_Catch hr
  simp only [List.cons.injEq, and_true, true_and] at ev
  subst ev
  obtain ⟨vv, ev, rk', -⟩ := rd_Catch hr'
  simp only [List.cons.injEq, and_true, true_and] at ev
  subst ev
  have HC : Hid (∀ W, Below w.heap.size w W → Calls Try.prog 61 #[v, u] W fun e w' => e = .returned (.bool true) ∧ Below W.heap.size W w') := fun W hW => lEqSpans x.2.2.1 v u W B (rk.below hB hW) (rk'.below hB hW) (Nat.le_trans hB hW.size) hT
  obtain ⟨va, vc, ev2⟩ := row_form rk
  simp only [List.cons.injEq, and_true] at ev2
  subst ev2
  obtain ⟨ua, uc, ev2⟩ := row_form rk'
  simp only [List.cons.injEq, and_true] at ev2
  subst ev2
  clear hr hr' rk rk' hT wf0 wf1
  generalize x.1 = y0 at *
  generalize x.2.1 = y1 at *
  generalize x.2.2.1.length = n at *
  go_enter Try.func58, Try.ntmps58
  go_wp2_with fail
  refine (HC.out _ (by go_grown)).mono ?_
  rintro e w1 ⟨rfl, hb1⟩
  have HB1 : Hid (Below w.heap.size w w1) := Below.trans (by go_grown) (hb1.mono (by simp; omega))
  have k0 : ∀ o, w1.cell? ⟨w.heap.size, o, none⟩ = (#[.int .i64 y0, .int .i64 y1, .slice va n vc] : Array Value)[o]? := fun o => by rw [(bcell hb1).1 _ o (by simp; omega)]; simp [go_sem]
  have k1 : ∀ o, w1.cell? ⟨w.heap.size + 1, o, none⟩ = (#[.int .i64 y0, .int .i64 y1, .slice ua n uc] : Array Value)[o]? := fun o => by rw [(bcell hb1).1 _ o (by simp)]; simp [go_sem]
  clear hb1 HC
  go_wp2_with fail
  go_ret
  exact ⟨rfl, HB1.out⟩
end Go.Proofs.Ytcbgedlckcjjnaa

/- A law's parameters opened: bytes, a number; no condition. -/
namespace Go.Proofs.Ytcbgedlckcjjnaa
open Go.RowKit Go.ChangeShapes Go.WideShapes Go.ChangeAt
set_option linter.unusedVariables false
set_option maxRecDepth 8000

theorem rd_i64 {n : Int} (h : (Lit.int .i64 n).wf = true) : -9223372036854775808 ≤ n ∧ n ≤ 9223372036854775807 := by
  simp [Lit.wf, IntKind.min, IntKind.max, IntKind.signed, IntKind.bits] at h; omega
theorem val_agg {w : World} {base : Nat} {t : TypeId} {v : Value} {fs : Array Field} (hu : Try.prog.underlying t = some (.struct fs)) (o : Value.okWide Try.prog w .any base t v) : ∃ cs, v = .agg cs := by
  unfold Value.okWide at o
  rw [hu] at o
  obtain ⟨cs, h, _⟩ := o
  exact ⟨cs, h⟩

theorem open_i64v {H : Type} {enc : TypeId × Value → H} {w : World} {base : Nat} {v : Value} (o : Value.okWide Try.prog w .any base 2 v) (hx : ∃ n y, DataW.trod enc Try.prog w 0 (fun _ => true) true n 2 v.cells.toList = some y) :
    ∃ n, v = .int .i64 n ∧ (Lit.int .i64 n).wf = true := by
  obtain ⟨n, y, h⟩ := hx
  obtain ⟨n, e, _, hr⟩ := DataW.trod_int Try.underlying2 h
  refine ⟨n, ?_, hr⟩
  cases v <;> simp_all [Value.okWide, Cell.okWide, Cell.ok, Value.cells, Try.underlying2]

theorem fits_u8 : u8s.fits Try.prog (.inl 22) := ⟨_, Try.underlying22, by kernel_rfl, by decide, Try.underlying5⟩
theorem open_byv {H : Type} {enc : TypeId × Value → H} {w : World} {base : Nat} {v : Value} (o : Value.okWide Try.prog w .any base 22 v) (hx : ∃ n y, DataW.trod enc Try.prog w 0 (fun _ => true) true n 22 v.cells.toList = some y) :
    ∃ l, u8s.Rd w w.heap.size l [v] := by
  obtain ⟨l, hd⟩ := (open_sh (enc := enc) (P := Try.prog) (w := w) u8s).1 _ _ fits_u8 hx
  obtain ⟨a, cap, e, r⟩ := hd
  have : v = .slice a l.length cap := by cases v <;> simp_all [Value.okWide, Cell.okWide, Cell.ok, Value.cells, Try.underlying22]
  subst this
  exact ⟨l, a, cap, rfl, r⟩
end Go.Proofs.Ytcbgedlckcjjnaa

/- What stays of a law's own boxes over a call that leaves old memory alone; no condition. -/
namespace Go.Proofs.Ytcbgedlckcjjnaa
open Go.RowKit
set_option linter.unusedVariables false

theorem bx_below {w w' : World} {b : Nat} {cs : Array Value} (h : ∀ o, w.cell? ⟨b, o, none⟩ = cs[o]?) (hb : b < w.heap.size) (k : Below w.heap.size w w') : ∀ o, w'.cell? ⟨b, o, none⟩ = cs[o]? :=
  fun o => (k.cell (p := ⟨b, o, none⟩) hb).trans (h o)
theorem bx_new {w w' : World} {cs : Array Value} {t : TypeId} (k : Below (w.alloc (.cells cs t)).heap.size (w.alloc (.cells cs t)) w') : ∀ o, w'.cell? ⟨w.heap.size, o, none⟩ = cs[o]? :=
  fun o => (k.cell (p := ⟨w.heap.size, o, none⟩) (by simp)).trans (by simp)
theorem bl_new {w w' : World} {O : Obj} (k : Below (w.alloc O).heap.size (w.alloc O) w') : Below w.heap.size w w' ∧ w.heap.size < w'.heap.size := by
  refine ⟨((Below.refl _ _).alloc (Nat.le_refl _) _).trans (k.mono (by simp)), ?_⟩
  have := k.size
  simp at this
  omega
theorem bl_drew {w w' : World} (k : Below w.drew.heap.size w.drew w') : Below w.heap.size w w' := (Below.drew (Below.refl _ _)).trans k
theorem bl_of {w w' : World} (k : w' = w) : Below w.heap.size w w' := by rw [k]; exact Below.refl _ _
/-- A box that is written by a call on a row of the call's own (from block lo on, below hi) stays. -/
theorem bx_keep {w w' : World} {b : Nat} {cs : Array Value} (h : ∀ o, w.cell? ⟨b, o, none⟩ = cs[o]?) (hk : w'.heap[b]? = w.heap[b]?) : ∀ o, w'.cell? ⟨b, o, none⟩ = cs[o]? :=
  fun o => (World.cell?_of_block (w := w) (a := ⟨b, o, none⟩) hk).trans (h o)
end Go.Proofs.Ytcbgedlckcjjnaa
