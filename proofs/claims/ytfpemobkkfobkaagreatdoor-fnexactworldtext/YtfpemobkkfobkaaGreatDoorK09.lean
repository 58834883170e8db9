/- Gathers: pieces of a stream as data, what a gather that is read holds piece by piece, and its faults as a function; no condition. -/
import Derived.Test.YtfpemobkkfobkaaGreatDoorRows
import Derived.Deep.DeepCutAuto
import Derived.Test.YtfpemobkkfobkaaGreatDoorK01
namespace Go.Proofs.YtfpemobkkfobkaaGreatDoor
open Go.RowKit
set_option linter.unusedVariables false

abbrev pcS : Sh := .cons (.int .i64) (.cons u8s .nil)
abbrev pcsS : Sh := .row 143 pcS
abbrev gtS : Sh := .cons u8s (.cons pcsS .nil)
abbrev Pc : Type := Int × List Int × Unit
abbrev Gt : Type := List Int × List Pc × Unit

theorem rd_i64G {n : Int} (h : (Lit.int .i64 n).wf = true) : -9223372036854775808 ≤ n ∧ n ≤ 9223372036854775807 := by
  simp [Lit.wf, IntKind.min, IntKind.max, IntKind.signed, IntKind.bits] at h; omega

theorem rd_pcs {w : World} {B : Nat} {ps : List Pc} {cs : List Value} (h : pcsS.Rd w B ps cs) : ∃ a cap, cs = [.slice a ps.length cap] ∧ ps.length ≤ maxLen ∧ (a = none → cap = 0) ∧
    ∀ i (hi : i < ps.length), ∃ b off ad c, a = some ⟨b, off, none⟩ ∧ b < B ∧ w.cell? ⟨b, off + i * 2, none⟩ = some (.int .i64 ps[i].1) ∧ w.cell? ⟨b, off + i * 2 + 1, none⟩ = some (.slice ad ps[i].2.1.length c) ∧
      u8s.Rd w B ps[i].2.1 [.slice ad ps[i].2.1.length c] ∧ (-9223372036854775808 ≤ ps[i].1 ∧ ps[i].1 ≤ 9223372036854775807) := by
  obtain ⟨a, cap, h1, h2, h3, b, off, h4, h5⟩ := h
  refine ⟨a, cap, h1, Nat.le_trans h2.1 h2.2, h3, fun i hi => ?_⟩
  obtain ⟨ea, hb⟩ := h4 (by intro e; subst e; simp at hi)
  obtain ⟨cs', g1, g2, c1, c2, g3, ⟨g4, g5⟩, c3, c4, g6, g7, g8⟩ := h5 i hi
  obtain ⟨ad, c, g9, g10⟩ := g7
  have g8' : c4 = [] := g8
  subst g8' g4 g6 g3
  subst g9
  refine ⟨b, off, ad, c, ea, hb, ?_, ?_, ⟨ad, c, rfl, g10⟩, rd_i64G g5⟩
  · have := g2 0 (by decide)
    simpa [Sh.sz] using this
  · have := g2 1 (by decide)
    simpa [Sh.sz] using this

theorem rd_gt {w : World} {B : Nat} {g : Gt} {cs : List Value} (h : gtS.Rd w B g cs) : ∃ a1 c1 a2 c2, cs = [.slice a1 g.1.length c1, .slice a2 g.2.1.length c2] ∧
    u8s.Rd w B g.1 [.slice a1 g.1.length c1] ∧ pcsS.Rd w B g.2.1 [.slice a2 g.2.1.length c2] := by
  obtain ⟨x1, x2, e1, ⟨a1, c1, e2, r1⟩, x3, x4, e3, ⟨a2, c2, e4, r2⟩, r3⟩ := h
  have r3' : x4 = [] := r3
  subst r3' e2 e4 e3 e1
  exact ⟨a1, c1, a2, c2, rfl, ⟨a1, c1, rfl, r1⟩, ⟨a2, c2, rfl, r2⟩⟩

/-- The fault of one piece, behind what ends at e. -/
def pcFault (at' : Int) (n : Nat) (e : Int) : Int := if n = 0 then 1 else if at' < 0 ∨ 400 - (n : Int) < at' then 3 else if at' ≤ e then 1 else 0
/-- The fault of the pieces behind e. -/
def pcsFault : Int → List Pc → Int
  | _, [] => 0
  | e, p :: ps => if pcFault p.1 p.2.1.length e ≠ 0 then pcFault p.1 p.2.1.length e else pcsFault (p.1 + p.2.1.length) ps
def gtFault (g : Gt) : Int := if 400 < g.1.length ∨ 40 < g.2.1.length then 2 else pcsFault g.1.length g.2.1

theorem pcsFault_at {ps : List Pc} {k : Nat} (e : Int) (hk : k < ps.length) : pcsFault e (ps.drop k) = if pcFault ps[k].1 ps[k].2.1.length e ≠ 0 then pcFault ps[k].1 ps[k].2.1.length e else pcsFault (ps[k].1 + ps[k].2.1.length) (ps.drop (k + 1)) := by
  rw [List.drop_eq_getElem_cons hk]; rfl
theorem pcsFault_end {ps : List Pc} (e : Int) : pcsFault e (ps.drop ps.length) = 0 := by rw [List.drop_length]; rfl
theorem pcFault_ok {a : Int} {n : Nat} {e : Int} (h : pcFault a n e = 0) : 0 < n ∧ 0 ≤ a ∧ a + n ≤ 400 ∧ e < a := by
  unfold pcFault at h
  split at h
  · omega
  · split at h
    · omega
    · split at h
      · omega
      · omega
end Go.Proofs.YtfpemobkkfobkaaGreatDoor

/- What the program's GatherFault and its helpers answer; what was in memory stays; no condition but that lengths are below 2^47. -/
namespace Go.Proofs.YtfpemobkkfobkaaGreatDoor
open Go.RowKit
set_option linter.unusedVariables false

theorem iPieceEnd (a : Int) (ad : Option Addr) (n c : Nat) (w : World) (h0 : -4611686018427387904 ≤ a) (h1 : a ≤ 4611686018427387904) (hn : n ≤ 281474976710656) :
    Calls Tryz.prog 125 #[.agg #[.int .i64 a, .slice ad n c]] w fun e w' => e = .returned (.int .i64 (a + n)) ∧ Below w.heap.size w w' := by
  go_enter Tryz.func125, Tryz.ntmps125
  go_wp2_with fail
  go_ret
  exact ⟨rfl, by go_grown⟩

theorem iLeaves (a : Int) (ad : Option Addr) (n c : Nat) (w : World) (hn : n ≤ 9223372036854775807) :
    Calls Tryz.prog 145 #[.int .i64 a, .slice ad n c] w fun e w' => e = .returned (.bool (decide (a < 0 ∨ 400 - (n : Int) < a))) ∧ Below w.heap.size w w' := by
  by_cases h : a < 0
  · go_enter Tryz.func145, Tryz.ntmps145
    go_wp2_with fail
    go_ret
    exact ⟨ret_bool (by simp [h]), by go_grown⟩
  · go_enter Tryz.func145, Tryz.ntmps145
    go_wp2_with fail
    go_ret
    exact ⟨ret_bool (by simp; omega), by go_grown⟩

theorem iPieceFault (a : Int) (ad : Option Addr) (n c : Nat) (e0 : Int) (w : World) (hn : n ≤ 9223372036854775807) :
    Calls Tryz.prog 124 #[.agg #[.int .i64 a, .slice ad n c], .int .i64 e0] w fun e w' => e = .returned (.int .i64 (pcFault a n e0)) ∧ Below w.heap.size w w' := by
  by_cases hz : n = 0
  · subst hz
    go_enter Tryz.func124, Tryz.ntmps124
    go_wp2_with fail
    go_ret
    exact ⟨rfl, by go_grown⟩
  · have c1 := fun w => iLeaves a ad n c w hn
    by_cases h1 : a < 0 ∨ 400 - (n : Int) < a
    · simp only [h1, decide_true] at c1
      have e1 : pcFault a n e0 = 3 := by unfold pcFault; rw [if_neg hz, if_pos h1]
      rw [e1]
      clear e1
      go_enter Tryz.func124, Tryz.ntmps124
      go_wp2_with (go_at_call 145; refine (c1 _).mono ?_; rintro e w1 ⟨rfl, hb1⟩)
      go_ret
      exact ⟨rfl, Below.trans (by go_grown) (hb1.mono (by simp))⟩
    · simp only [h1, decide_false] at c1
      by_cases h2 : a ≤ e0
      · have e1 : pcFault a n e0 = 1 := by unfold pcFault; rw [if_neg hz, if_neg h1, if_pos h2]
        rw [e1]
        clear e1
        go_enter Tryz.func124, Tryz.ntmps124
        go_wp2_with fail
        refine (c1 _).mono ?_
        rintro e w1 ⟨rfl, hb1⟩
        have k0 : ∀ o, w1.cell? ⟨w.heap.size, o, none⟩ = (#[.int .i64 a, .slice ad n c] : Array Value)[o]? := fun o => by rw [(bcell hb1).1 _ o (by simp)]; simp [go_sem]
        have HB : Hid _ := hb1
        clear hb1
        go_wp2_with fail
        go_ret
        exact ⟨rfl, Below.trans (by go_grown) (HB.out.mono (by simp))⟩
      · have e1 : pcFault a n e0 = 0 := by unfold pcFault; rw [if_neg hz, if_neg h1, if_neg h2]
        rw [e1]
        clear e1
        go_enter Tryz.func124, Tryz.ntmps124
        go_wp2_with fail
        refine (c1 _).mono ?_
        rintro e w1 ⟨rfl, hb1⟩
        have k0 : ∀ o, w1.cell? ⟨w.heap.size, o, none⟩ = (#[.int .i64 a, .slice ad n c] : Array Value)[o]? := fun o => by rw [(bcell hb1).1 _ o (by simp)]; simp [go_sem]
        have HB : Hid _ := hb1
        clear hb1
        go_wp2_with fail
        go_ret
        exact ⟨rfl, Below.trans (by go_grown) (HB.out.mono (by simp))⟩

set_option maxHeartbeats 1000000 in
theorem iGatherFault (g : Gt) (cs : List Value) (w : World) (hr : gtS.Rd w w.heap.size g cs) :
    Calls Tryz.prog 98 #[.agg cs.toArray] w fun e w' => e = .returned (.int .i64 (gtFault g)) ∧ Below w.heap.size w w' := by
  obtain ⟨a1, c1, a2, c2, rfl, r1, r2⟩ := rd_gt hr
  obtain ⟨_, _, e1, _, _, m1⟩ := rd_bytes r1
  obtain ⟨_, _, e2, m2, _, hp⟩ := rd_pcs r2
  simp only [List.cons.injEq, Value.slice.injEq, and_true, true_and] at e1 e2
  obtain ⟨rfl, rfl⟩ := e1
  obtain ⟨rfl, rfl⟩ := e2
  unfold maxLen at m1 m2
  obtain ⟨done, ps, _⟩ := g
  simp only at *
  by_cases hm : 400 < done.length ∨ 40 < ps.length
  · have e3 : gtFault (done, ps, ()) = 2 := by unfold gtFault; rw [if_pos hm]
    rw [e3]
    by_cases hm1 : 400 < done.length
    · go_enter Tryz.func98, Tryz.ntmps98
      go_wp2_with fail
      go_ret
      exact ⟨rfl, by go_grown⟩
    · have hm2 : 40 < ps.length := by omega
      go_enter Tryz.func98, Tryz.ntmps98
      go_wp2_with fail
      go_ret
      exact ⟨rfl, by go_grown⟩
  · have e3 : gtFault (done, ps, ()) = pcsFault done.length ps := by unfold gtFault; rw [if_neg hm]
    rw [e3]
    have hm1 : done.length ≤ 400 := by omega
    have hm2 : ps.length ≤ 40 := by omega
    clear e3 hm
    go_enter Tryz.func98, Tryz.ntmps98
    go_wp2_with fail
    go_loopw [3, 23] (fun t i wr => ∃ (k : Nat) (e0 : Int), k ≤ ps.length ∧ i = .int .i64 k ∧ t = .int .i64 e0 ∧ pcsFault done.length ps = pcsFault e0 (ps.drop k) ∧ Below w.heap.size w wr) (fun _ i _ => ps.length - (intOf i).toNat)
    case atStart => exact ⟨0, done.length, Nat.zero_le _, rfl, rfl, rfl, by go_grown⟩
    case round =>
      obtain ⟨k, e0, hk, rfl, rfl, hq, hbl⟩ := hrel
      by_cases hlt : k < ps.length
      · obtain ⟨b, off, ad, c, rfl, hb, x0, x1, r3, hw⟩ := hp k hlt
        obtain ⟨_, _, e3, _, _, m3⟩ := rd_bytes r3
        have y0 : wr.cell? ⟨b, off + k * 2, none⟩ = some (.int .i64 ps[k].1) := (hbl.cell (p := ⟨b, off + k * 2, none⟩) hb).trans x0
        have y1 : wr.cell? ⟨b, off + k * 2 + 1, none⟩ = some (.slice ad ps[k].2.1.length c) := (hbl.cell (p := ⟨b, off + k * 2 + 1, none⟩) hb).trans x1
        rw [pcsFault_at e0 hlt] at hq
        unfold maxLen at m3
        clear x0 x1 r3 e3 hp r1 r2 hr
        generalize ps[k].1 = at' at *
        generalize ps[k].2.1.length = n at *
        have HQ : Hid _ := hq
        have HB : Hid _ := hbl
        clear hq hbl
        go_wp2_with fail
        refine (iPieceFault at' ad n c e0 _ (by omega)).mono ?_
        rintro e w1 ⟨rfl, hb1⟩
        have k0 : ∀ o, w1.cell? ⟨wr.heap.size, o, none⟩ = (#[.int .i64 at', .slice ad n c] : Array Value)[o]? := fun o => by rw [(bcell hb1).1 _ o (by simp)]; simp [go_sem]
        have HB1 : Hid (Below w.heap.size w w1) := (HB.out.trans ((Below.refl _ _ |>.alloc HB.out.size _).trans (hb1.mono (by simp; have := HB.out.size; omega))))
        clear hb1
        by_cases hf : pcFault at' n e0 = 0
        · obtain ⟨f1, f2, f3, f4⟩ := pcFault_ok hf
          replace HQ : Hid (pcsFault done.length ps = pcsFault (at' + n) (ps.drop (k + 1))) := by have := HQ.out; rw [if_neg (by simp [hf])] at this; exact this
          rw [hf]
          clear hf
          go_wp2_with fail
          refine (iPieceEnd at' ad n c _ (by omega) (by omega) (by omega)).mono ?_
          rintro e w2 ⟨rfl, hb2⟩
          have HB2 : Hid (Below w.heap.size w w2) := HB1.out.trans (hb2.mono HB1.out.size)
          clear hb2
          go_wp2_with fail
          go_roundw
          case rel => exact ⟨k + 1, at' + n, by omega, by go_num, rfl, HQ.out, HB2.out⟩
          case measure => simp [intOf]; omega
        · replace HQ : Hid (pcsFault done.length ps = pcFault at' n e0) := by have := HQ.out; rw [if_pos (by simpa using hf)] at this; exact this
          have hf2 : (pcFault at' n e0 == 0) = false := by simpa using hf
          generalize pcFault at' n e0 = f at *
          go_wp2_with fail
          go_ret
          exact ⟨ret_int HQ.out.symm, HB1.out⟩
      · obtain rfl : k = ps.length := by omega
        rw [pcsFault_end] at hq
        have HQ : Hid _ := hq
        clear hq hp r1 r2 hr
        go_wp2_with fail
        go_ret
        exact ⟨ret_int HQ.out.symm, hbl⟩
end Go.Proofs.YtfpemobkkfobkaaGreatDoor

/- What the law's own helpers (measure, copy, compare) make of gathers; no condition but that there are at most a million bytes and pieces. -/
namespace Go.Proofs.YtfpemobkkfobkaaGreatDoor
open Go.RowKit
set_option linter.unusedVariables false

def dsum (ps : List Pc) : Nat := (ps.map fun p => p.2.1.length).sum
def pcsTot (ps : List Pc) : Nat := ps.length + dsum ps
def gtTot (g : Gt) : Nat := g.1.length + pcsTot g.2.1
theorem dsum_take {ps : List Pc} {k : Nat} (hk : k < ps.length) : dsum (ps.take (k + 1)) = dsum (ps.take k) + ps[k].2.1.length := by
  unfold dsum
  rw [List.take_succ_eq_append_getElem hk, List.map_append, List.sum_append]
  simp only [List.map_cons, List.map_nil, List.sum_cons, List.sum_nil, Nat.add_zero]
theorem dsum_le (ps : List Pc) (k : Nat) : dsum (ps.take k) ≤ dsum ps := by
  have h : dsum ps = dsum (ps.take k) + dsum (ps.drop k) := by
    unfold dsum
    rw [← List.sum_append, ← List.map_append, List.take_append_drop]
  omega
theorem dsum_at {ps : List Pc} {k : Nat} (hk : k < ps.length) : ps[k].2.1.length ≤ dsum ps := by
  have := dsum_take hk; have := dsum_le ps (k + 1); omega

theorem Own.slot {w : World} {lo hi : Nat} {t : TypeId} {e : Sh} {l : List e.El} {g n cap : Nat} (h : Own w lo hi (.row t e) l [.slice (some ⟨g, 0, none⟩) n cap]) :
    (∀ j, j < n * e.sz → ∃ old, w.cell? ⟨g, j, none⟩ = some old) ∧ (∀ j, w.frozen? ⟨g, j, none⟩ = false) ∧ lo ≤ g ∧ g < hi ∧ n = l.length ∧ n ≤ cap := by
  obtain ⟨bs, h1, h2, h3⟩ := h
  rcases h1 with ⟨_, h1, _⟩ | ⟨g', cap', cur, F, e1, rfl, g3, g4, g5, g6, g7, g8⟩
  · simp at h1
  · simp only [List.cons.injEq, Value.slice.injEq, Option.some.injEq, Addr.mk.injEq, and_true] at e1
    obtain ⟨rfl, rfl, rfl⟩ := e1
    have := h3 g (by simp)
    refine ⟨fun j hj => ?_, fun j => by simp [World.frozen?, g3], this.1, this.2, rfl, g4⟩
    have hle : l.length * e.sz ≤ cap * e.sz := Nat.mul_le_mul_right _ g4
    exact ⟨cur[j]'(by omega), by rw [cell_of_heap g3, Array.getElem?_eq_getElem]⟩

theorem Own.cons {w : World} {lo mid hi : Nat} {f r : Sh} {d1 : f.El} {d2 : r.El} {c1 c2 : List Value} (h1 : Own w lo mid f d1 c1) (h2 : Own w mid hi r d2 c2) (hlm : lo ≤ mid) (hmh : mid ≤ hi) : Own w lo hi (.cons f r) (d1, d2) (c1 ++ c2) := by
  obtain ⟨b1, x1, x2, x3⟩ := h1
  obtain ⟨b2, y1, y2, y3⟩ := h2
  refine ⟨b1 ++ b2, ⟨b1, b2, c1, c2, rfl, rfl, x1, y1⟩, ?_, fun b hb => ?_⟩
  · rw [List.nodup_append]
    refine ⟨x2, y2, fun a ha b hb e => ?_⟩
    have := x3 a ha; have := y3 b hb; omega
  · rcases List.mem_append.1 hb with hb | hb
    · have := x3 b hb; omega
    · have := y3 b hb; omega
theorem Own.nil (w : World) (lo hi : Nat) : Own w lo hi .nil () [] := ⟨[], ⟨rfl, rfl⟩, by simp, by simp⟩
theorem Own.int (w : World) (lo hi : Nat) {k : IntKind} {n : Int} (h : (Lit.int k n).wf = true) : Own w lo hi (.int k) n [.int k n] := ⟨[], ⟨rfl, rfl, h⟩, by simp, by simp⟩
theorem wf_i64' {n : Int} (h : -9223372036854775808 ≤ n ∧ n ≤ 9223372036854775807) : (Lit.int .i64 n).wf = true := by
  simp [Lit.wf, IntKind.min, IntKind.max, IntKind.signed, IntKind.bits]; omega

theorem lSzPiece (x : Int) (a : Option Addr) (n cap : Nat) (left : Int) (w : World) (hn : n ≤ maxLen) (h0 : 0 ≤ left) (h1 : left ≤ 1048576) :
    Calls Tryz.prog 86 #[.agg #[.int .i64 x, .slice a n cap], .int .i64 left] w fun e w' => e = .returned (.int .i64 (if left < n then -1 else left - n)) ∧ Below w.heap.size w w' := by
  by_cases h : left < n
  · have c := fun w => lSzByteS a n cap left w hn h0 h1
    rw [if_pos h] at c ⊢
    go_enter Tryz.func86, Tryz.ntmps86
    go_wp2_with (go_at_call 28; refine (c _).mono ?_; rintro e w' ⟨rfl, hw⟩; subst w')
    go_ret
    exact ⟨rfl, by go_grown⟩
  · have c := fun w => lSzByteS a n cap left w hn h0 h1
    rw [if_neg h] at c ⊢
    have h2 : 0 ≤ left - (n : Int) := by omega
    go_enter Tryz.func86, Tryz.ntmps86
    go_wp2_with (go_at_call 28; refine (c _).mono ?_; rintro e w' ⟨rfl, hw⟩; subst w')
    go_ret
    exact ⟨rfl, by go_grown⟩

set_option maxHeartbeats 1000000 in
theorem lSzPieceS (ps : List Pc) (a : Option Addr) (n cap : Nat) (left : Int) (w : World) (B : Nat) (hn : ps.length = n) (hr : pcsS.Rd w B ps [.slice a n cap]) (hB : B ≤ w.heap.size) (h0 : 0 ≤ left) (h1 : left ≤ 1048576) :
    Calls Tryz.prog 67 #[.slice a n cap, .int .i64 left] w fun e w' => e = .returned (.int .i64 (if left < pcsTot ps then -1 else left - pcsTot ps)) ∧ Below w.heap.size w w' := by
  have hmx : n ≤ 9223372036854775807 := by obtain ⟨_, _, _, h, _⟩ := hr; rw [← hn]; exact Nat.le_trans h.1 h.2
  by_cases hA : left < n
  · rw [if_pos (by unfold pcsTot; omega)]
    have h2 : left - (n : Int) < 0 := by omega
    go_enter Tryz.func67, Tryz.ntmps67
    go_wp2
    go_ret
    exact ⟨rfl, by go_grown⟩
  · have h2 : 0 ≤ left - (n : Int) := by omega
    generalize hRR : (if left < pcsTot ps then -1 else left - pcsTot ps) = R
    have HRR : Hid ((if left < pcsTot ps then -1 else left - pcsTot ps) = R) := hRR
    have HRd : Hid (∀ W, Below w.heap.size w W → pcsS.Rd W B ps [.slice a n cap]) := fun W hW => hr.below hB hW
    clear hRR hr
    go_enter Tryz.func67, Tryz.ntmps67
    go_wp2_with fail
    go_loopw [1, 5] (fun t i wr => ∃ (k : Nat) (x : Int), k ≤ n ∧ i = .int .i64 k ∧ t = .int .i64 x ∧ 0 ≤ x ∧ x ≤ left ∧ Hid (x = left - n - (dsum (ps.take k) : Nat)) ∧ Below w.heap.size w wr) (fun _ i _ => n - (intOf i).toNat)
    case atStart => exact ⟨0, left - n, Nat.zero_le _, rfl, rfl, h2, by omega, (by simp [dsum] : left - (n : Int) = left - n - (dsum (ps.take 0) : Nat)), Below.refl _ _⟩
    case round =>
      obtain ⟨k, x, hk, rfl, rfl, hx0, hx1, hxe, hbl⟩ := hrel
      by_cases hlt : k < n
      · obtain ⟨_, _, e1, _, _, hp⟩ := rd_pcs (HRd.out wr hbl)
        obtain ⟨b, off, ad, c, ha, hb, y0, y1, r3, hw⟩ := hp k (by omega)
        simp only [List.cons.injEq, Value.slice.injEq, and_true] at e1
        rw [← e1.1] at ha
        subst ha
        obtain ⟨_, _, e3, _, _, m3⟩ := rd_bytes r3
        have HS : Hid (dsum (ps.take (k + 1)) = dsum (ps.take k) + ps[k].2.1.length) := dsum_take (ps := ps) (k := k) (by omega)
        have HS2 : Hid (dsum (ps.take (k + 1)) ≤ dsum ps) := dsum_le ps (k + 1)
        have M3 : Hid (ps[k].2.1.length ≤ maxLen) := m3
        clear hp r3 e1 e3 m3
        generalize ps[k].1 = at' at *
        generalize ps[k].2.1.length = m at *
        have HB : Hid _ := hbl
        clear hbl
        go_wp2_with fail
        refine (lSzPiece at' ad m c _ _ M3.out (by omega) (by omega)).mono ?_
        rintro e w1 ⟨rfl, hb1⟩
        have HB1 : Hid (Below w.heap.size w w1) := HB.out.trans (hb1.mono HB.out.size)
        clear hb1
        by_cases hq : x < m
        · rw [if_pos hq]
          go_wp2_with fail
          go_ret
          refine ⟨ret_int ?_, HB1.out⟩
          have := HS.out; have := HS2.out; have := hxe.out
          rw [← HRR.out, if_pos (by unfold pcsTot; omega)]
        · rw [if_neg hq]
          have hq2 : 0 ≤ x - (m : Int) := by omega
          have HE : Hid (x - m = left - n - (dsum (ps.take (k + 1)) : Nat)) := by have := HS.out; have := HS2.out; have := hxe.out; show _ = _; omega
          have hq3 : x - (m : Int) ≤ left := by omega
          clear hq
          generalize x - (m : Int) = x2 at *
          go_wp2_with fail
          go_roundw
          case rel => exact ⟨k + 1, x2, by omega, by go_num, rfl, hq2, hq3, HE, HB1.out⟩
          case measure => simp [intOf]; omega
      · obtain rfl : k = n := by omega
        go_wp2_with fail
        go_ret
        refine ⟨ret_int ?_, hbl⟩
        have := hxe.out
        rw [← hn, List.take_length] at this
        rw [← HRR.out, if_neg (by unfold pcsTot; omega)]
        unfold pcsTot; omega

set_option maxHeartbeats 1000000 in
theorem lSzGather (g : Gt) (v1 v2 : Value) (left : Int) (w : World) (B : Nat) (hr : gtS.Rd w B g [v1, v2]) (hB : B ≤ w.heap.size) (h0 : 0 ≤ left) (h1 : left ≤ 1048576) :
    Calls Tryz.prog 47 #[.agg #[v1, v2], .int .i64 left] w fun e w' => e = .returned (.int .i64 (if left < gtTot g then -1 else left - gtTot g)) ∧ Below w.heap.size w w' := by
  obtain ⟨a1, c1, a2, c2, e0, r1, r2⟩ := rd_gt hr
  simp only [List.cons.injEq, and_true] at e0
  obtain ⟨rfl, rfl⟩ := e0
  obtain ⟨_, _, e3, _, _, m1⟩ := rd_bytes r1
  clear e3
  have hs := fun w => lSzByteS a1 g.1.length c1 left w m1 h0 h1
  by_cases hA : left < g.1.length
  · rw [if_pos (by unfold gtTot; omega)]
    rw [if_pos hA] at hs
    go_enter Tryz.func47, Tryz.ntmps47
    go_wp2_with (go_at_call 28; refine (hs _).mono ?_; rintro e w' ⟨rfl, hw⟩; subst w')
    go_ret
    exact ⟨rfl, by go_grown⟩
  · rw [if_neg hA] at hs
    have h2 : 0 ≤ left - (g.1.length : Int) := by omega
    have HR : Hid (∀ W, Below w.heap.size w W → pcsS.Rd W B g.2.1 [.slice a2 g.2.1.length c2]) := fun W hW => r2.below hB hW
    clear r1 r2 hr
    generalize hRR : (if left < gtTot g then -1 else left - gtTot g) = R
    have HRR : Hid ((if left - g.1.length < pcsTot g.2.1 then -1 else left - g.1.length - pcsTot g.2.1) = R) := by
      show _ = _
      rw [← hRR]; unfold gtTot
      by_cases hq : left - (g.1.length : Int) < pcsTot g.2.1
      · rw [if_pos hq, if_pos (by omega)]
      · rw [if_neg hq, if_neg (by omega)]; omega
    clear hRR
    have h3 : left - (g.1.length : Int) ≤ 1048576 := by omega
    generalize g.1.length = N1 at *
    generalize left - (N1 : Int) = x at *
    go_enter Tryz.func47, Tryz.ntmps47
    go_wp2_with (go_at_call 28; refine (hs _).mono ?_; rintro e w' ⟨rfl, hw⟩; subst w')
    refine (lSzPieceS g.2.1 a2 _ c2 _ _ B rfl (HR.out _ (by go_grown)) (by simp; omega) (by omega) (by omega)).mono ?_
    rintro e w1 ⟨rfl, hb1⟩
    have HB1 : Hid (Below w.heap.size w w1) := Below.trans (by go_grown) (hb1.mono (by simp))
    clear hb1
    rw [HRR.out]
    by_cases hq : R < 0
    · have hR : R = -1 := by
        have := HRR.out
        split at this <;> omega
      subst hR
      go_wp2_with fail
      go_ret
      exact ⟨rfl, HB1.out⟩
    · go_wp2_with fail
      go_ret
      exact ⟨rfl, HB1.out⟩

set_option maxHeartbeats 1000000 in
theorem lToPiece (x : Int) (a : Option Addr) (n cap : Nat) (l : List Int) (w : World) (hl : l.length = n) (hr : RB w a l) (hn : n ≤ 1048576) :
    Calls Tryz.prog 93 #[.agg #[.int .i64 x, .slice a n cap]] w fun e w' => ∃ v, e = .returned (.agg #[.int .i64 x, v]) ∧ Own w' w.heap.size w'.heap.size u8s l [v] ∧ Below w.heap.size w w' := by
  have HR : Hid (∀ W, Below w.heap.size w W → RB W a l) := fun W h => hr.below (Nat.le_refl _) h
  clear hr
  go_enter Tryz.func93, Tryz.ntmps93
  go_wp2_with fail
  refine (lToByteS a n cap l _ hl (HR.out _ (by go_grown)) hn).mono ?_
  rintro e w1 ⟨rfl, ho, hb1⟩
  have hz := hb1.size
  simp at hz
  simp only [World.size_alloc] at ho
  obtain ⟨hc, hf⟩ := bcell hb1
  have z1 : w.heap.size < w1.heap.size := by omega
  have z2 : w.heap.size + 1 < w1.heap.size := by omega
  have z3 : w.heap.size + 1 + 1 < w1.heap.size := by omega
  have HB : Hid _ := hb1
  have HO : Hid _ := ho
  clear hb1 ho hz
  go_wp2
  have hB1 : Below w.heap.size w w1 := Below.trans (by go_grown) (HB.out.mono (by simp; omega))
  refine bodyPost_ret (v := .agg #[.int .i64 x, .slice (some ⟨w.heap.size + 1 + 1 + 1, 0, none⟩) n n]) (by simp [results, Tryz.results93, go_sem, hc]) rfl ⟨_, rfl, ?_, ?_⟩
  · have h2 : Own w1 (w.heap.size + 1 + 1 + 1) w1.heap.size u8s l [.slice (some ⟨w.heap.size + 1 + 1 + 1, 0, none⟩) n n] := own_bytes HO.out (Nat.le_refl _)
    refine Own.mono (Own.keep h2 fun b hb hlt => ?_) (by omega) (by simp)
    repeat rw [Below.heap_setCell _ _ _ _ (by dsimp only; omega)]
  · clear hc hf HO HB
    go_grown
theorem info_piece : (Tryz.prog.info? 143).map (fun i => (i.zero, i.size, i.bytes)) = some (some (.agg #[.int .i64 0, .slice none 0 0]), 2, 32) := by kernel_rfl

set_option maxHeartbeats 1000000 in
theorem lToPieceS (ps : List Pc) (a : Option Addr) (n cap : Nat) (w : World) (B : Nat) (hn : ps.length = n) (hr : pcsS.Rd w B ps [.slice a n cap]) (hB : B ≤ w.heap.size) (hT : pcsTot ps ≤ 1048576) :
    Calls Tryz.prog 72 #[.slice a n cap] w fun e w' => ∃ v, e = .returned v ∧ Own w' w.heap.size w'.heap.size pcsS ps [v] ∧ Below w.heap.size w w' := by
  obtain ⟨i0, hi, hz0, hz1, hz2⟩ := info_parts info_piece
  have hn1 : n ≤ 1048576 := by unfold pcsTot at hT; omega
  have HRd : Hid (∀ W, Below w.heap.size w W → pcsS.Rd W B ps [.slice a n cap]) := fun W hW => hr.below hB hW
  have HT : Hid (∀ k (hk : k < ps.length), ps[k].2.1.length ≤ 1048576) := fun k hk => by have := dsum_at hk; unfold pcsTot at hT; omega
  clear hr hT
  go_enter Tryz.func72, Tryz.ntmps72
  go_wp2_with (at_make; refine wpList_make_full w rfl _ _ 74 rfl w.heap.size 143 i0 (.agg #[.int .i64 0, .slice none 0 0]) 2 Tryz.underlying74 hi hz0 hz1 .i64 .i64 _ _ n (by rfl) (by rfl) rfl rfl (by rw [hz2]; omega) (by unfold maxLen; omega) (Nat.le_refl _) ?_; intro w1 hown hgr)
  have hb1 : Below w.heap.size w w1 := (Below.refl _ _).grown hgr (Nat.le_refl _) (by intro k hk; cases hk)
  have hown0 : Own w1 w.heap.size w1.heap.size pcsS (ps.take 0 ++ List.replicate (n - 0) pcS.zero) [.slice (some ⟨w.heap.size, 0, none⟩) n n] := by
    have h := Own.made (e := pcS) (z := .agg #[.int .i64 0, .slice none 0 0]) rfl hown
    exact h.tight
  have HO0 : Hid _ := hown0
  have HB0 : Hid _ := hb1
  clear hown hgr hown0 hb1 hi hz0 hz1 hz2
  go_loopw [4] (fun i wr => ∃ k : Nat, k ≤ n ∧ i = .int .i64 k ∧ Own wr w.heap.size wr.heap.size pcsS (ps.take k ++ List.replicate (n - k) pcS.zero) [.slice (some ⟨w.heap.size, 0, none⟩) n n] ∧ Below w.heap.size w wr) (fun i _ => n - (intOf i).toNat)
  case atStart => exact ⟨0, Nat.zero_le _, rfl, HO0.out, HB0.out⟩
  case round =>
    obtain ⟨k, hk, rfl, hown, hbl⟩ := hrel
    clear HO0 HB0
    by_cases hlt : k < n
    · obtain ⟨_, _, e1, _, _, hp⟩ := rd_pcs (HRd.out wr hbl)
      obtain ⟨b, off, ad, c, ha, hb, y0, y1, r3, hw⟩ := hp k (by omega)
      simp only [List.cons.injEq, Value.slice.injEq, and_true] at e1
      rw [← e1.1] at ha
      subst ha
      obtain ⟨ad', c', e3, r4, _, m3⟩ := rd_bytes r3
      simp only [List.cons.injEq, Value.slice.injEq, and_true, true_and] at e3
      obtain ⟨rfl, rfl⟩ := e3
      have m4 := HT.out k (by omega)
      have HQ : Hid (ps[k] = (ps[k].1, ps[k].2.1, ())) := rfl
      have HK : Hid (k < ps.length) := by show k < ps.length; omega
      clear hp r3 e1 m3
      have HRB : Hid _ := r4
      have HOwn : Hid _ := hown
      have HBl : Hid _ := hbl
      have HW : Hid _ := hw
      clear r4 hown hbl hw
      generalize ps[k].2.1 = d at *
      generalize ps[k].1 = at' at *
      go_wp2_with fail
      refine (lToPiece at' ad _ c d _ rfl HRB.out m4).mono ?_
      rintro e w1 ⟨v, rfl, ho1, hb1⟩
      have hz := hb1.size
      obtain ⟨av, cv, ev, -, -, -⟩ := rd_bytes (ho1.rd (Nat.le_refl _))
      simp only [List.cons.injEq, and_true] at ev
      subst ev
      have o1 : Own w1 w.heap.size wr.heap.size pcsS (ps.take k ++ List.replicate (n - k) pcS.zero) [.slice (some ⟨w.heap.size, 0, none⟩) n n] := HOwn.out.below (Nat.le_refl _) hb1
      have hlen : (ps.take k ++ List.replicate (n - k) pcS.zero).length = n := by simp; omega
      have o2 : Own w1 wr.heap.size w1.heap.size pcS (at', d, ()) [.int .i64 at', .slice av d.length cv] := Own.cons (Own.int w1 _ wr.heap.size (wf_i64' HW.out)) (Own.cons ho1 (Own.nil _ _ _) hz (Nat.le_refl _)) (Nat.le_refl _) hz
      have o3 := o1.stored (k := k) (by rw [hlen]; exact hlt) o2 hz
      rw [← HQ.out, set_step hn hlt] at o3
      obtain ⟨sl, fz, -⟩ := o1.slot
      obtain ⟨old0, hold0⟩ := sl (k * 2) (by show k * 2 < n * 2; omega)
      obtain ⟨old1, hold1⟩ := sl (k * 2 + 1) (by show k * 2 + 1 < n * 2; omega)
      have fz0 := fz (k * 2)
      have fz1 := fz (k * 2 + 1)
      have hold2 : (w1.setCell ⟨w.heap.size, k * 2, none⟩ (.int .i64 at')).cell? ⟨w.heap.size, k * 2 + 1, none⟩ = some old1 := by rw [World.cell?_setCell_other _ _ _ _ (by simp)]; exact hold1
      have fz2 : (w1.setCell ⟨w.heap.size, k * 2, none⟩ (.int .i64 at')).frozen? ⟨w.heap.size, k * 2 + 1, none⟩ = false := by rw [World.frozen?_setCell]; exact fz1
      have HO3 : Hid (Own ((w1.setCell ⟨w.heap.size, k * 2, none⟩ (.int .i64 at')).setCell ⟨w.heap.size, k * 2 + 1, none⟩ (.slice av d.length cv)) w.heap.size w1.heap.size pcsS (ps.take (k + 1) ++ List.replicate (n - (k + 1)) pcS.zero) [.slice (some ⟨w.heap.size, 0, none⟩) n n]) := o3.1
      have HB3 : Hid (Below w.heap.size w ((w1.setCell ⟨w.heap.size, k * 2, none⟩ (.int .i64 at')).setCell ⟨w.heap.size, k * 2 + 1, none⟩ (.slice av d.length cv))) := ((HBl.out.trans (hb1.mono HBl.out.size)).setCell (by simp) _).setCell (by simp) _
      clear o1 o2 o3 sl fz ho1 hb1 hz hlen
      go_wp2_with fail
      go_roundw
      case rel => exact ⟨k + 1, by omega, by go_num, HO3.out.tight, HB3.out⟩
      case measure => simp [intOf]; omega
    · obtain rfl : k = n := by omega
      go_wp2_with fail
      go_ret
      refine ⟨_, rfl, ?_, hbl⟩
      have e : ps.take k ++ List.replicate (k - k) pcS.zero = ps := by rw [Nat.sub_self, List.take_of_length_le (by omega)]; simp
      rw [e] at hown
      exact hown

set_option maxHeartbeats 1000000 in
theorem lToGather (g : Gt) (v1 v2 : Value) (w : World) (B : Nat) (hr : gtS.Rd w B g [v1, v2]) (hB : B ≤ w.heap.size) (hT : gtTot g ≤ 1048576) :
    Calls Tryz.prog 55 #[.agg #[v1, v2]] w fun e w' => ∃ u1 u2, e = .returned (.agg #[u1, u2]) ∧ Own w' w.heap.size w'.heap.size gtS g [u1, u2] ∧ Below w.heap.size w w' := by
  obtain ⟨a1, c1, a2, c2, e0, r1, r2⟩ := rd_gt hr
  simp only [List.cons.injEq, and_true] at e0
  obtain ⟨rfl, rfl⟩ := e0
  have HR1 : Hid (∀ W, Below w.heap.size w W → u8s.Rd W B g.1 [.slice a1 g.1.length c1]) := fun W hW => r1.below hB hW
  have HR2 : Hid (∀ W, Below w.heap.size w W → pcsS.Rd W B g.2.1 [.slice a2 g.2.1.length c2]) := fun W hW => r2.below hB hW
  have t1 : g.1.length ≤ 1048576 := by unfold gtTot at hT; omega
  have t2 : pcsTot g.2.1 ≤ 1048576 := by unfold gtTot at hT; omega
  clear hr r1 r2 hT
  obtain ⟨done, ps, _⟩ := g
  simp only at *
  go_enter Tryz.func55, Tryz.ntmps55
  go_wp2_with fail
  obtain ⟨_, _, e3, rb, -, -⟩ := rd_bytes (HR1.out ((((w.alloc (.cells #[.slice a1 done.length c1, .slice a2 ps.length c2] 65)).alloc (.cells #[.slice none 0 0, .slice none 0 0] 76)).alloc (.cells #[.slice none 0 0, .slice none 0 0] 76))) (by go_grown))
  simp only [List.cons.injEq, Value.slice.injEq, and_true, true_and] at e3
  obtain ⟨rfl, rfl⟩ := e3
  refine (lToByteS a1 _ c1 done _ rfl rb t1).mono ?_
  rintro e w1 ⟨rfl, ho, hb1⟩
  have hz := hb1.size
  simp at hz
  simp only [World.size_alloc] at ho
  have hc0 : ∀ o, w1.cell? ⟨w.heap.size, o, none⟩ = (#[.slice a1 done.length c1, .slice a2 ps.length c2] : Array Value)[o]? := fun o => by rw [(bcell hb1).1 w.heap.size o (by simp; omega)]; simp [go_sem]
  have hc1 : ∀ o, w1.cell? ⟨w.heap.size + 1, o, none⟩ = (#[.slice none 0 0, .slice none 0 0] : Array Value)[o]? := fun o => by rw [(bcell hb1).1 (w.heap.size + 1) o (by simp)]; simp [go_sem]
  have hc2 : ∀ o, w1.cell? ⟨w.heap.size + 1 + 1, o, none⟩ = (#[.slice none 0 0, .slice none 0 0] : Array Value)[o]? := fun o => by rw [(bcell hb1).1 (w.heap.size + 1 + 1) o (by simp)]; simp [go_sem]
  have hf2 : ∀ o, w1.frozen? ⟨w.heap.size + 1 + 1, o, none⟩ = false := fun o => by rw [(bcell hb1).2 (w.heap.size + 1 + 1) o (by simp)]; simp [go_sem]
  have hf1 : ∀ o, w1.frozen? ⟨w.heap.size + 1, o, none⟩ = false := fun o => by rw [(bcell hb1).2 (w.heap.size + 1) o (by simp)]; simp [go_sem]
  have z3 : w.heap.size + 1 + 1 < w1.heap.size := by omega
  have HB1 : Hid (Below w.heap.size w w1) := Below.trans (by go_grown) (hb1.mono (by simp; omega))
  have HO : Hid (Own w1 (w.heap.size + 1 + 1 + 1) w1.heap.size u8s done [.slice (some ⟨w.heap.size + 1 + 1 + 1, 0, none⟩) done.length done.length]) := own_bytes ho (Nat.le_refl _)
  clear hb1 ho hz rb HR1
  go_wp2_with fail
  obtain ⟨W1, hW1⟩ : ∃ W, W = w1.setCell ⟨w.heap.size + 1 + 1, 0, none⟩ (.slice (some ⟨w.heap.size + 1 + 1 + 1, 0, none⟩) done.length done.length) := ⟨_, rfl⟩
  rw [← hW1]
  have HBW : Hid (Below w.heap.size w W1) := by rw [hW1]; exact HB1.out.setCell (by simp; omega) _
  have HOW : Hid (Own W1 (w.heap.size + 1 + 1 + 1) W1.heap.size u8s done [.slice (some ⟨w.heap.size + 1 + 1 + 1, 0, none⟩) done.length done.length]) := by
    rw [hW1]
    refine Own.mono (Own.keep HO.out fun b hb hlt => ?_) (Nat.le_refl _) (by simp)
    rw [Below.heap_setCell _ _ _ _ (by dsimp only; omega)]
  have d1 : ∀ o, W1.cell? ⟨w.heap.size + 1, o, none⟩ = (#[.slice none 0 0, .slice none 0 0] : Array Value)[o]? := fun o => by rw [hW1, World.cell?_setCell_other _ _ _ _ (by simp)]; exact hc1 o
  have d2 : ∀ o, W1.cell? ⟨w.heap.size + 1 + 1, o, none⟩ = (#[.slice (some ⟨w.heap.size + 1 + 1 + 1, 0, none⟩) done.length done.length, .slice none 0 0] : Array Value)[o]? := fun o => by
    rw [hW1]
    by_cases e : o = 0
    · subst e; rw [World.cell?_setCell_same _ _ _ (hc2 0)]; rfl
    · rw [World.cell?_setCell_other _ _ _ _ (by simp), hc2 o]
      match o, e with
      | o + 1, _ => simp
  have g1 : ∀ o, W1.frozen? ⟨w.heap.size + 1, o, none⟩ = false := fun o => by rw [hW1, World.frozen?_setCell]; exact hf1 o
  have g2 : ∀ o, W1.frozen? ⟨w.heap.size + 1 + 1, o, none⟩ = false := fun o => by rw [hW1, World.frozen?_setCell]; exact hf2 o
  have z4 : w.heap.size + 1 + 1 < W1.heap.size := by rw [hW1]; simpa using z3
  clear hc0 hc1 hc2 hf1 hf2 HB1 HO hW1
  refine (lToPieceS ps a2 _ c2 W1 B rfl (HR2.out W1 HBW.out) (Nat.le_trans hB HBW.out.size) t2).mono ?_
  rintro e w2 ⟨v, rfl, ho2, hb2⟩
  obtain ⟨av, cv, ev, -, -, -⟩ := rd_pcs (ho2.rd (Nat.le_refl _))
  simp only [List.cons.injEq, and_true] at ev
  subst ev
  have hz2 := hb2.size
  have q1 : ∀ o, w2.cell? ⟨w.heap.size + 1, o, none⟩ = (#[.slice none 0 0, .slice none 0 0] : Array Value)[o]? := fun o => by rw [(bcell hb2).1 _ o (by omega)]; exact d1 o
  have q2 : ∀ o, w2.cell? ⟨w.heap.size + 1 + 1, o, none⟩ = (#[.slice (some ⟨w.heap.size + 1 + 1 + 1, 0, none⟩) done.length done.length, .slice none 0 0] : Array Value)[o]? := fun o => by rw [(bcell hb2).1 _ o (by omega)]; exact d2 o
  have f1 : ∀ o, w2.frozen? ⟨w.heap.size + 1, o, none⟩ = false := fun o => by rw [(bcell hb2).2 _ o (by omega)]; exact g1 o
  have f2 : ∀ o, w2.frozen? ⟨w.heap.size + 1 + 1, o, none⟩ = false := fun o => by rw [(bcell hb2).2 _ o (by omega)]; exact g2 o
  have HB2 : Hid (Below w.heap.size w w2) := HBW.out.trans (hb2.mono HBW.out.size)
  have HO2 : Hid (Own w2 (w.heap.size + 1 + 1 + 1) w2.heap.size gtS (done, ps, ()) [.slice (some ⟨w.heap.size + 1 + 1 + 1, 0, none⟩) done.length done.length, .slice av ps.length cv]) :=
    Own.cons (HOW.out.below (Nat.le_refl _) hb2) (Own.cons ho2 (Own.nil _ _ _) hz2 (Nat.le_refl _)) (by omega) hz2
  have z5 : w.heap.size + 1 + 1 < w2.heap.size := by omega
  have z6 : w.heap.size + 1 < w2.heap.size := by omega
  clear d1 d2 g1 g2 ho2 hb2 hz2 HOW HBW HR2
  go_wp2_with fail
  refine bodyPost_ret (v := .agg #[.slice (some ⟨w.heap.size + 1 + 1 + 1, 0, none⟩) done.length done.length, .slice av ps.length cv]) (by simp [results, Tryz.results55, go_sem, q1]) rfl ⟨_, _, rfl, ?_, ?_⟩
  · refine Own.mono (Own.keep HO2.out fun b hb hlt => ?_) (by omega) (by simp)
    repeat rw [Below.heap_setCell _ _ _ _ (by dsimp only; omega)]
  · have hB1 := HB2.out
    clear q1 q2 f1 f2 HO2 HB2
    go_grown

set_option maxHeartbeats 1000000 in
theorem lEqPiece (x : Int) (a b : Option Addr) (n cap cap' : Nat) (l : List Int) (w : World) (hl : l.length = n) (ha : RB w a l) (hb : RB w b l) (hn : n ≤ 281474976710656) :
    Calls Tryz.prog 114 #[.agg #[.int .i64 x, .slice a n cap], .agg #[.int .i64 x, .slice b n cap']] w fun e w' => e = .returned (.bool true) ∧ Below w.heap.size w w' := by
  have c : ∀ W, Below w.heap.size w W → Calls Tryz.prog 46 #[.slice a n cap, .slice b n cap'] W fun e w' => e = .returned (.bool true) ∧ Below W.heap.size W w' := by
    intro W hW
    refine (lEqByteS a b n cap cap' l W hl (ha.below (Nat.le_refl _) hW) (hb.below (Nat.le_refl _) hW) hn).mono ?_
    rintro e w' ⟨m, rfl, rfl⟩
    exact ⟨rfl, below_drewN (Below.refl _ _) m⟩
  have HC : Hid _ := c
  clear c ha hb
  go_enter Tryz.func114, Tryz.ntmps114
  go_wp2_with fail
  refine (HC.out _ (by go_grown)).mono ?_
  rintro e w1 ⟨rfl, hb1⟩
  go_wp2_with fail
  go_ret
  exact ⟨rfl, Below.trans (by go_grown) (hb1.mono (by simp; omega))⟩
theorem below_drew' {w w' : World} (k : Below w.drew.heap.size w.drew w') : Below w.heap.size w w' := (Below.drew (Below.refl _ _)).trans k

set_option maxHeartbeats 1000000 in
theorem lEqPieceS (ps : List Pc) (a a' : Option Addr) (n cap cap' : Nat) (w : World) (B : Nat) (hn : ps.length = n) (hr : pcsS.Rd w B ps [.slice a n cap]) (hr' : pcsS.Rd w B ps [.slice a' n cap']) (hB : B ≤ w.heap.size) (hT : ∀ k (hk : k < ps.length), ps[k].2.1.length ≤ 1048576) :
    Calls Tryz.prog 84 #[.slice a n cap, .slice a' n cap'] w fun e w' => e = .returned (.bool true) ∧ Below w.heap.size w w' := by
  have hmx : n ≤ 9223372036854775807 := by obtain ⟨_, _, _, h, _⟩ := hr; rw [← hn]; exact Nat.le_trans h.1 h.2
  have HR1 : Hid (∀ W, Below w.heap.size w W → pcsS.Rd W B ps [.slice a n cap]) := fun W hW => hr.below hB hW
  have HR2 : Hid (∀ W, Below w.heap.size w W → pcsS.Rd W B ps [.slice a' n cap']) := fun W hW => hr'.below hB hW
  have HT : Hid _ := hT
  clear hr hr' hT
  go_enter Tryz.func84, Tryz.ntmps84
  go_wp2_with fail
  go_loopw [5] (fun i wr => ∃ (k : Nat), k ≤ n ∧ i = .int .i64 k ∧ Below w.heap.size w wr) (fun i _ => n - (intOf i).toNat)
  case atStart => exact ⟨0, Nat.zero_le _, rfl, Below.refl _ _⟩
  case round =>
    obtain ⟨k, hk, rfl, hbl⟩ := hrel
    by_cases hlt : k < n
    · obtain ⟨_, _, e1, -, -, hp⟩ := rd_pcs (HR1.out wr hbl)
      obtain ⟨b, off, ad, c, ha, hb, y0, y1, r3, hw⟩ := hp k (by omega)
      simp only [List.cons.injEq, Value.slice.injEq, and_true] at e1
      rw [← e1.1] at ha
      subst ha
      obtain ⟨ad1, c1, e3, r4, -, -⟩ := rd_bytes r3
      simp only [List.cons.injEq, Value.slice.injEq, and_true, true_and] at e3
      obtain ⟨rfl, rfl⟩ := e3
      clear hp e1 r3
      obtain ⟨_, _, e1, -, -, hp⟩ := rd_pcs (HR2.out wr hbl)
      obtain ⟨b', off', ad', c', ha, hb', y0', y1', r3, -⟩ := hp k (by omega)
      simp only [List.cons.injEq, Value.slice.injEq, and_true] at e1
      rw [← e1.1] at ha
      subst ha
      obtain ⟨ad1', c1', e3, r4', -, -⟩ := rd_bytes r3
      simp only [List.cons.injEq, Value.slice.injEq, and_true, true_and] at e3
      obtain ⟨rfl, rfl⟩ := e3
      have m4 := HT.out k (by omega)
      clear hp e1 r3
      have HRB : Hid _ := r4
      have HRB' : Hid _ := r4'
      have HBl : Hid _ := hbl
      clear r4 r4' hbl hw
      generalize ps[k].2.1 = d at *
      generalize ps[k].1 = at' at *
      have HC : Hid (∀ W, Below wr.heap.size wr W → Calls Tryz.prog 114 #[.agg #[.int .i64 at', .slice ad d.length c], .agg #[.int .i64 at', .slice ad' d.length c']] W fun e w' => e = .returned (.bool true) ∧ Below W.heap.size W w') :=
        fun W hW => lEqPiece at' ad ad' _ c c' d W rfl (HRB.out.below (Nat.le_refl _) hW) (HRB'.out.below (Nat.le_refl _) hW) (by omega)
      clear HRB HRB'
      go_wp2_with fail
      go_cut [26] (fun u wx => u = .bool false ∧ Below wr.heap.size wr wx)
      case first =>
        go_region_with ((go_at_call 114; refine (HC.out _ (Below.drew (Below.refl _ _))).mono ?_; rintro e w1 ⟨rfl, hb1⟩; replace hb1 := below_drew' hb1; have HB1 : Hid _ := hb1; clear hb1))
        all_goals (go_wp2_with fail; go_meet; exact ⟨rfl, HB1.out⟩)
      case rest =>
        rename World => w1
        obtain ⟨rfl, hb1⟩ := hcut
        have HB1 : Hid (Below w.heap.size w w1) := HBl.out.trans (hb1.mono HBl.out.size)
        clear hb1 HC HBl
        go_wp2_with fail
        go_roundw
        case rel => exact ⟨k + 1, by omega, by go_num, HB1.out⟩
        case measure => simp [intOf]; omega
    · obtain rfl : k = n := by omega
      go_wp2_with fail
      go_ret
      exact ⟨rfl, hbl⟩

set_option maxHeartbeats 1000000 in
theorem lEqGather (g : Gt) (v1 v2 u1 u2 : Value) (w : World) (B : Nat) (hr : gtS.Rd w B g [v1, v2]) (hr' : gtS.Rd w B g [u1, u2]) (hB : B ≤ w.heap.size) (hT : gtTot g ≤ 1048576) :
    Calls Tryz.prog 64 #[.agg #[v1, v2], .agg #[u1, u2]] w fun e w' => e = .returned (.bool true) ∧ Below w.heap.size w w' := by
  obtain ⟨a1, c1, a2, c2, e0, r1, r2⟩ := rd_gt hr
  simp only [List.cons.injEq, and_true] at e0
  obtain ⟨rfl, rfl⟩ := e0
  obtain ⟨b1, d1, b2, d2, e0, s1, s2⟩ := rd_gt hr'
  simp only [List.cons.injEq, and_true] at e0
  obtain ⟨rfl, rfl⟩ := e0
  have t1 : g.1.length ≤ 1048576 := by unfold gtTot at hT; omega
  have t2 : ∀ k (hk : k < g.2.1.length), g.2.1[k].2.1.length ≤ 1048576 := fun k hk => by have := dsum_at hk; unfold gtTot pcsTot at hT; omega
  have HC1 : Hid (∀ W, Below w.heap.size w W → Calls Tryz.prog 46 #[.slice a1 g.1.length c1, .slice b1 g.1.length d1] W fun e w' => e = .returned (.bool true) ∧ Below W.heap.size W w') := by
    intro W hW
    obtain ⟨_, _, e3, q1, -, -⟩ := rd_bytes (r1.below hB hW)
    simp only [List.cons.injEq, Value.slice.injEq, and_true, true_and] at e3
    obtain ⟨rfl, rfl⟩ := e3
    obtain ⟨_, _, e3, q2, -, -⟩ := rd_bytes (s1.below hB hW)
    simp only [List.cons.injEq, Value.slice.injEq, and_true, true_and] at e3
    obtain ⟨rfl, rfl⟩ := e3
    refine (lEqByteS a1 b1 _ c1 d1 g.1 W rfl q1 q2 (by omega)).mono ?_
    rintro e w' ⟨m, rfl, rfl⟩
    exact ⟨rfl, below_drewN (Below.refl _ _) m⟩
  have HC2 : Hid (∀ W, Below w.heap.size w W → Calls Tryz.prog 84 #[.slice a2 g.2.1.length c2, .slice b2 g.2.1.length d2] W fun e w' => e = .returned (.bool true) ∧ Below W.heap.size W w') :=
    fun W hW => lEqPieceS g.2.1 a2 b2 _ c2 d2 W B rfl (r2.below hB hW) (s2.below hB hW) (Nat.le_trans hB hW.size) t2
  clear hr hr' r1 r2 s1 s2 t2 hT
  generalize g.1.length = n1 at *
  generalize g.2.1.length = n2 at *
  go_enter Tryz.func64, Tryz.ntmps64
  go_wp2_with fail
  refine (HC1.out _ (by go_grown)).mono ?_
  rintro e w1 ⟨rfl, hb1⟩
  have hz := hb1.size
  simp at hz
  have k0 : ∀ o, w1.cell? ⟨w.heap.size, o, none⟩ = (#[.slice a1 n1 c1, .slice a2 n2 c2] : Array Value)[o]? := fun o => by rw [(bcell hb1).1 _ o (by simp; omega)]; simp [go_sem]
  have k1 : ∀ o, w1.cell? ⟨w.heap.size + 1, o, none⟩ = (#[.slice b1 n1 d1, .slice b2 n2 d2] : Array Value)[o]? := fun o => by rw [(bcell hb1).1 _ o (by simp)]; simp [go_sem]
  have HB1 : Hid (Below w.heap.size w w1) := Below.trans (by go_grown) (hb1.mono (by simp; omega))
  clear hb1 HC1
  go_wp2_with fail
  refine (HC2.out _ HB1.out).mono ?_
  rintro e w2 ⟨rfl, hb2⟩
  have HB2 : Hid (Below w.heap.size w w2) := HB1.out.trans (hb2.mono HB1.out.size)
  clear hb2
  go_wp2_with fail
  go_ret
  exact ⟨rfl, HB2.out⟩
end Go.Proofs.YtfpemobkkfobkaaGreatDoor

/- What the model's GatherFault and its helpers answer; what was in memory stays; no condition but that each piece has at most a million bytes. -/
namespace Go.Proofs.YtfpemobkkfobkaaGreatDoor
open Go.RowKit
set_option linter.unusedVariables false

theorem sInG (v low high : Int) (w : World) : Calls Tryz.prog 29 #[.int .i64 v, .int .i64 low, .int .i64 high] w fun e w' => e = .returned (.bool (decide (low ≤ v ∧ v ≤ high))) ∧ w' = w := by
  by_cases h : low ≤ v
  · go_enter Tryz.func29, Tryz.ntmps29
    go_wp2
    go_ret
    exact ⟨ret_bool (by simp [h]), rfl⟩
  · go_enter Tryz.func29, Tryz.ntmps29
    go_wp2
    go_ret
    exact ⟨ret_bool (by simp; omega), rfl⟩

theorem sPlace (a : Int) (n : Nat) (w : World) (hn : n ≤ 1048576) : Calls Tryz.prog 69 #[.int .i64 a, .int .i64 n] w fun e w' => e = .returned (.bool (decide (0 ≤ a ∧ a + n ≤ 400))) ∧ w' = w := by
  have c := fun w => sInG a 0 400 w
  by_cases h : 0 ≤ a ∧ a ≤ 400
  · have hd : decide (0 ≤ a ∧ a ≤ 400) = true := by simp [h]
    rw [hd] at c
    have h1 := h.1
    have h2 := h.2
    clear h hd
    go_enter Tryz.func69, Tryz.ntmps69
    go_wp2_with (go_at_call 29; refine (c _).mono ?_; rintro e w' ⟨rfl, hw⟩; subst w')
    go_ret
    exact ⟨ret_bool (by simp [h1]), rfl⟩
  · have hd : decide (0 ≤ a ∧ a ≤ 400) = false := by simp only [decide_eq_false_iff_not]; exact h
    rw [hd] at c
    have HF : Hid (decide (0 ≤ a ∧ a + n ≤ 400) = false) := by show _ = _; simp only [decide_eq_false_iff_not]; omega
    clear h hd
    go_enter Tryz.func69, Tryz.ntmps69
    go_wp2_with (go_at_call 29; refine (c _).mono ?_; rintro e w' ⟨rfl, hw⟩; subst w')
    go_ret
    exact ⟨ret_bool HF.out.symm, rfl⟩

theorem pcFault_1 {a : Int} {n : Nat} {e : Int} (h : n = 0) : pcFault a n e = 1 := by unfold pcFault; rw [if_pos h]
theorem pcFault_3 {a : Int} {n : Nat} {e : Int} (h : n ≠ 0) (h2 : ¬ (0 ≤ a ∧ a + n ≤ 400)) : pcFault a n e = 3 := by unfold pcFault; rw [if_neg h, if_pos (by omega)]
theorem pcFault_1' {a : Int} {n : Nat} {e : Int} (h : n ≠ 0) (h2 : 0 ≤ a ∧ a + n ≤ 400) (h3 : a ≤ e) : pcFault a n e = 1 := by unfold pcFault; rw [if_neg h, if_neg (by omega), if_pos h3]
theorem pcFault_0 {a : Int} {n : Nat} {e : Int} (h : n ≠ 0) (h2 : 0 ≤ a ∧ a + n ≤ 400) (h3 : ¬ a ≤ e) : pcFault a n e = 0 := by unfold pcFault; rw [if_neg h, if_neg (by omega), if_neg h3]

set_option maxHeartbeats 2000000 in
theorem sL3FaultO (g : Gt) (v1 v2 : Value) (p of : Nat) (w : World) (B : Nat) (hr : gtS.Rd w B g [v1, v2]) (hB : B ≤ w.heap.size) (hT : ∀ k (hk : k < g.2.1.length), g.2.1[k].2.1.length ≤ 1048576)
    (hx1 : w.cell? ⟨p, of, none⟩ = some v1) (hx2 : w.cell? ⟨p, of + 1, none⟩ = some v2) :
    Calls Tryz.prog 51 #[.pointer (some ⟨p, of, none⟩)] w fun e w' => e = .returned (.int .i64 (gtFault g)) ∧ Below w.heap.size w w' := by
  obtain ⟨a1, c1, a2, c2, e0, r1, r2⟩ := rd_gt hr
  simp only [List.cons.injEq, and_true] at e0
  obtain ⟨rfl, rfl⟩ := e0
  obtain ⟨_, _, e1, -, -, m1⟩ := rd_bytes r1
  obtain ⟨_, _, e2, m2, -, -⟩ := rd_pcs r2
  clear e1 e2
  unfold maxLen at m1 m2
  obtain ⟨done, ps, _⟩ := g
  simp only at *
  have hpl : p < w.heap.size := cell_lt hx1
  have HR : Hid (∀ W, Below w.heap.size w W → pcsS.Rd W B ps [.slice a2 ps.length c2]) := fun W hW => r2.below hB hW
  have HT : Hid _ := hT
  clear hr r1 r2 hT
  by_cases hm : 400 < done.length ∨ 40 < ps.length
  · have e3 : gtFault (done, ps, ()) = 2 := by unfold gtFault; rw [if_pos hm]
    rw [e3]
    by_cases hm1 : 400 < done.length
    · go_enter Tryz.func51, Tryz.ntmps51
      go_wp2_with fail
      go_ret
      exact ⟨rfl, Below.refl _ _⟩
    · have hm2 : 40 < ps.length := by omega
      go_enter Tryz.func51, Tryz.ntmps51
      go_wp2_with fail
      go_ret
      exact ⟨rfl, Below.refl _ _⟩
  · have e3 : gtFault (done, ps, ()) = pcsFault done.length ps := by unfold gtFault; rw [if_neg hm]
    rw [e3]
    have hm1 : done.length ≤ 400 := by omega
    have hm2 : ps.length ≤ 40 := by omega
    clear e3 hm
    go_enter Tryz.func51, Tryz.ntmps51
    go_wp2_with fail
    go_loopw [3, 4] (fun t i wr => ∃ (k : Nat) (e0 : Int), k ≤ ps.length ∧ i = .int .i64 k ∧ t = .int .i64 e0 ∧ pcsFault done.length ps = pcsFault e0 (ps.drop k) ∧ Below w.heap.size w wr) (fun _ i _ => ps.length - (intOf i).toNat)
    case atStart => exact ⟨0, done.length, Nat.zero_le _, rfl, rfl, rfl, Below.refl _ _⟩
    case round =>
      obtain ⟨k, e0, hk, rfl, rfl, hq, hbl⟩ := hrel
      have q1 := (hbl.cell (p := ⟨p, of, none⟩) hpl).trans hx1
      have q2 := (hbl.cell (p := ⟨p, of + 1, none⟩) hpl).trans hx2
      clear hx1 hx2
      by_cases hlt : k < ps.length
      · obtain ⟨_, _, e1, -, -, hp⟩ := rd_pcs (HR.out wr hbl)
        obtain ⟨b, off, ad, c, ha, hb, y0, y1, r3, hw⟩ := hp k hlt
        simp only [List.cons.injEq, Value.slice.injEq, and_true, true_and] at e1
        rw [← e1.1] at ha
        subst ha
        have m4 := HT.out k hlt
        rw [pcsFault_at e0 hlt] at hq
        clear hp r3 e1
        generalize ps[k].1 = at' at *
        generalize ps[k].2.1.length = n at *
        have HQ : Hid _ := hq
        have HB : Hid _ := hbl
        have HB1 : Hid (Below w.heap.size w (wr.alloc (.cells #[.int .i64 at', .slice ad n c] 143))) := hbl.alloc hbl.size _
        have c1 := fun w => sPlace at' n w m4
        clear hq hbl
        by_cases hz : n = 0
        · replace HQ : Hid (pcsFault done.length ps = 1) := by have := HQ.out; rw [pcFault_1 hz, if_pos (by decide)] at this; exact this
          subst hz
          go_wp2_with fail
          go_ret
          exact ⟨ret_int HQ.out.symm, HB1.out⟩
        · have hz2 : ((n : Int) == 0) = false := by simpa using hz
          by_cases h1 : 0 ≤ at' ∧ at' + n ≤ 400
          · simp only [h1, and_self, decide_true] at c1
            obtain ⟨h1a, h1b⟩ := h1
            by_cases h2 : at' ≤ e0
            · replace HQ : Hid (pcsFault done.length ps = 1) := by have := HQ.out; rw [pcFault_1' hz ⟨h1a, h1b⟩ h2, if_pos (by decide)] at this; exact this
              go_wp2_with (go_at_call 69; refine (c1 _).mono ?_; rintro e w' ⟨rfl, hw⟩; subst w')
              go_ret
              exact ⟨ret_int HQ.out.symm, HB1.out⟩
            · replace HQ : Hid (pcsFault done.length ps = pcsFault (at' + n) (ps.drop (k + 1))) := by have := HQ.out; rw [pcFault_0 hz ⟨h1a, h1b⟩ h2, if_neg (by decide)] at this; exact this
              go_wp2_with (go_at_call 69; refine (c1 _).mono ?_; rintro e w' ⟨rfl, hw⟩; subst w')
              go_roundw
              case rel => exact ⟨k + 1, at' + n, by omega, by go_num, rfl, HQ.out, HB1.out⟩
              case measure => simp [intOf]; omega
          · simp only [h1, decide_false] at c1
            replace HQ : Hid (pcsFault done.length ps = 3) := by have := HQ.out; rw [pcFault_3 hz h1, if_pos (by decide)] at this; exact this
            go_wp2_with (go_at_call 69; refine (c1 _).mono ?_; rintro e w' ⟨rfl, hw⟩; subst w')
            go_ret
            exact ⟨ret_int HQ.out.symm, HB1.out⟩
      · obtain rfl : k = ps.length := by omega
        rw [pcsFault_end] at hq
        have HQ : Hid _ := hq
        clear hq
        go_wp2_with fail
        go_ret
        exact ⟨ret_int HQ.out.symm, hbl⟩

theorem sL3Fault (g : Gt) (v1 v2 : Value) (p : Nat) (w : World) (B : Nat) (hr : gtS.Rd w B g [v1, v2]) (hB : B ≤ w.heap.size) (hT : ∀ k (hk : k < g.2.1.length), g.2.1[k].2.1.length ≤ 1048576)
    (hp : ∀ o, w.cell? ⟨p, o, none⟩ = (#[v1, v2] : Array Value)[o]?) :
    Calls Tryz.prog 51 #[.pointer (some ⟨p, 0, none⟩)] w fun e w' => e = .returned (.int .i64 (gtFault g)) ∧ Below w.heap.size w w' := sL3FaultO g v1 v2 p 0 w B hr hB hT (hp 0) (hp 1)

end Go.Proofs.YtfpemobkkfobkaaGreatDoor
