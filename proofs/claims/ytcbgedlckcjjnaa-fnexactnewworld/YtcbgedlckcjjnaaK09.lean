/- Gathers: pieces of a stream as data, what a gather that is read holds piece by piece, and its faults as a function; no condition. -/
import Derived.Test.YtcbgedlckcjjnaaRows
import Derived.Deep.DeepCutAuto
import Derived.Test.YtcbgedlckcjjnaaK01
namespace Go.Proofs.Ytcbgedlckcjjnaa
open Go.RowKit
set_option linter.unusedVariables false

abbrev pcS : Sh := .cons (.int .i64) (.cons u8s .nil)
abbrev pcsS : Sh := .row 81 pcS
abbrev gtS : Sh := .cons u8s (.cons pcsS .nil)
abbrev Pc : Type := Int × List Int × Unit
abbrev Gt : Type := List Int × List Pc × Unit

theorem rd_i64G {n : Int} (h : (Lit.int .i64 n).wf = true) : -9223372036854775808 ≤ n ∧ n ≤ 9223372036854775807 := by
  simp [Lit.wf, IntKind.min, IntKind.max, IntKind.signed, IntKind.bits] at h; omega

theorem rd_pcs {w : World} {B : Nat} {ps : List Pc} {cs : List Value} (h : pcsS.Rd w B ps cs) : ∃ a cap, cs = [.slice a ps.length cap] ∧ ps.length ≤ maxLen ∧ (a = none → cap = 0) ∧
    ∀ i (hi : i < ps.length), ∃ b off ad c, a = some ⟨b, off, none⟩ ∧ b < B ∧ w.cell? ⟨b, off + i * 2, none⟩ = some (.int .i64 ps[i].1) ∧ w.cell? ⟨b, off + i * 2 + 1, none⟩ = some (.slice ad ps[i].2.1.length c) ∧
      u8s.Rd w B ps[i].2.1 [.slice ad ps[i].2.1.length c] ∧ (-9223372036854775808 ≤ ps[i].1 ∧ ps[i].1 ≤ 9223372036854775807) := by
  obtain ⟨a, cap, h1, h2, h3, b, off, h4, h5⟩ := h
  refine ⟨a, cap, h1, Nat.le_trans h2.1 h2.2, h3, fun i hi => ?_⟩
  obtain ⟨ea, hb⟩ := h4 (by intro e; subst e; simp at hi)
  obtain ⟨cs', g1, g2, c1, c2, g3, ⟨g4, g5⟩, c3, c4, g6, g7, g8⟩ := h5 i hi
  obtain ⟨ad, c, g9, g10⟩ := g7
  have g8' : c4 = [] := g8
  subst g8' g4 g6 g3
  subst g9
  refine ⟨b, off, ad, c, ea, hb, ?_, ?_, ⟨ad, c, rfl, g10⟩, rd_i64G g5⟩
  · have := g2 0 (by decide)
    simpa [Sh.sz] using this
  · have := g2 1 (by decide)
    simpa [Sh.sz] using this

theorem rd_gt {w : World} {B : Nat} {g : Gt} {cs : List Value} (h : gtS.Rd w B g cs) : ∃ a1 c1 a2 c2, cs = [.slice a1 g.1.length c1, .slice a2 g.2.1.length c2] ∧
    u8s.Rd w B g.1 [.slice a1 g.1.length c1] ∧ pcsS.Rd w B g.2.1 [.slice a2 g.2.1.length c2] := by
  obtain ⟨x1, x2, e1, ⟨a1, c1, e2, r1⟩, x3, x4, e3, ⟨a2, c2, e4, r2⟩, r3⟩ := h
  have r3' : x4 = [] := r3
  subst r3' e2 e4 e3 e1
  exact ⟨a1, c1, a2, c2, rfl, ⟨a1, c1, rfl, r1⟩, ⟨a2, c2, rfl, r2⟩⟩

/-- The fault of one piece, behind what ends at e. -/
def pcFault (at' : Int) (n : Nat) (e : Int) : Int := if n = 0 then 1 else if at' < 0 ∨ 400 - (n : Int) < at' then 3 else if at' ≤ e then 1 else 0
/-- The fault of the pieces behind e. -/
def pcsFault : Int → List Pc → Int
  | _, [] => 0
  | e, p :: ps => if pcFault p.1 p.2.1.length e ≠ 0 then pcFault p.1 p.2.1.length e else pcsFault (p.1 + p.2.1.length) ps
def gtFault (g : Gt) : Int := if 400 < g.1.length ∨ 40 < g.2.1.length then 2 else pcsFault g.1.length g.2.1

theorem pcsFault_at {ps : List Pc} {k : Nat} (e : Int) (hk : k < ps.length) : pcsFault e (ps.drop k) = if pcFault ps[k].1 ps[k].2.1.length e ≠ 0 then pcFault ps[k].1 ps[k].2.1.length e else pcsFault (ps[k].1 + ps[k].2.1.length) (ps.drop (k + 1)) := by
  rw [List.drop_eq_getElem_cons hk]; rfl
theorem pcsFault_end {ps : List Pc} (e : Int) : pcsFault e (ps.drop ps.length) = 0 := by rw [List.drop_length]; rfl
theorem pcFault_ok {a : Int} {n : Nat} {e : Int} (h : pcFault a n e = 0) : 0 < n ∧ 0 ≤ a ∧ a + n ≤ 400 ∧ e < a := by
  unfold pcFault at h
  split at h
  · omega
  · split at h
    · omega
    · split at h
      · omega
      · omega
end Go.Proofs.Ytcbgedlckcjjnaa

/- What the law's own helpers (measure, copy, compare) make of gathers; no condition but that there are at most a million bytes and pieces. -/
namespace Go.Proofs.Ytcbgedlckcjjnaa
open Go.RowKit
set_option linter.unusedVariables false

def dsum (ps : List Pc) : Nat := (ps.map fun p => p.2.1.length).sum
def pcsTot (ps : List Pc) : Nat := ps.length + dsum ps
def gtTot (g : Gt) : Nat := g.1.length + pcsTot g.2.1
theorem dsum_take {ps : List Pc} {k : Nat} (hk : k < ps.length) : dsum (ps.take (k + 1)) = dsum (ps.take k) + ps[k].2.1.length := by
  unfold dsum
  rw [List.take_succ_eq_append_getElem hk, List.map_append, List.sum_append]
  simp only [List.map_cons, List.map_nil, List.sum_cons, List.sum_nil, Nat.add_zero]
theorem dsum_le (ps : List Pc) (k : Nat) : dsum (ps.take k) ≤ dsum ps := by
  have h : dsum ps = dsum (ps.take k) + dsum (ps.drop k) := by
    unfold dsum
    rw [← List.sum_append, ← List.map_append, List.take_append_drop]
  omega
theorem dsum_at {ps : List Pc} {k : Nat} (hk : k < ps.length) : ps[k].2.1.length ≤ dsum ps := by
  have := dsum_take hk; have := dsum_le ps (k + 1); omega

theorem Own.slot {w : World} {lo hi : Nat} {t : TypeId} {e : Sh} {l : List e.El} {g n cap : Nat} (h : Own w lo hi (.row t e) l [.slice (some ⟨g, 0, none⟩) n cap]) :
    (∀ j, j < n * e.sz → ∃ old, w.cell? ⟨g, j, none⟩ = some old) ∧ (∀ j, w.frozen? ⟨g, j, none⟩ = false) ∧ lo ≤ g ∧ g < hi ∧ n = l.length ∧ n ≤ cap := by
  obtain ⟨bs, h1, h2, h3⟩ := h
  rcases h1 with ⟨_, h1, _⟩ | ⟨g', cap', cur, F, e1, rfl, g3, g4, g5, g6, g7, g8⟩
  · simp at h1
  · simp only [List.cons.injEq, Value.slice.injEq, Option.some.injEq, Addr.mk.injEq, and_true] at e1
    obtain ⟨rfl, rfl, rfl⟩ := e1
    have := h3 g (by simp)
    refine ⟨fun j hj => ?_, fun j => by simp [World.frozen?, g3], this.1, this.2, rfl, g4⟩
    have hle : l.length * e.sz ≤ cap * e.sz := Nat.mul_le_mul_right _ g4
    exact ⟨cur[j]'(by omega), by rw [cell_of_heap g3, Array.getElem?_eq_getElem]⟩

theorem Own.cons {w : World} {lo mid hi : Nat} {f r : Sh} {d1 : f.El} {d2 : r.El} {c1 c2 : List Value} (h1 : Own w lo mid f d1 c1) (h2 : Own w mid hi r d2 c2) (hlm : lo ≤ mid) (hmh : mid ≤ hi) : Own w lo hi (.cons f r) (d1, d2) (c1 ++ c2) := by
  obtain ⟨b1, x1, x2, x3⟩ := h1
  obtain ⟨b2, y1, y2, y3⟩ := h2
  refine ⟨b1 ++ b2, ⟨b1, b2, c1, c2, rfl, rfl, x1, y1⟩, ?_, fun b hb => ?_⟩
  · rw [List.nodup_append]
    refine ⟨x2, y2, fun a ha b hb e => ?_⟩
    have := x3 a ha; have := y3 b hb; omega
  · rcases List.mem_append.1 hb with hb | hb
    · have := x3 b hb; omega
    · have := y3 b hb; omega
theorem Own.nil (w : World) (lo hi : Nat) : Own w lo hi .nil () [] := ⟨[], ⟨rfl, rfl⟩, by simp, by simp⟩
theorem Own.int (w : World) (lo hi : Nat) {k : IntKind} {n : Int} (h : (Lit.int k n).wf = true) : Own w lo hi (.int k) n [.int k n] := ⟨[], ⟨rfl, rfl, h⟩, by simp, by simp⟩
theorem wf_i64' {n : Int} (h : -9223372036854775808 ≤ n ∧ n ≤ 9223372036854775807) : (Lit.int .i64 n).wf = true := by
  simp [Lit.wf, IntKind.min, IntKind.max, IntKind.signed, IntKind.bits]; omega




set_option maxHeartbeats 1000000 in
theorem lEqPiece (x : Int) (a b : Option Addr) (n cap cap' : Nat) (l : List Int) (w : World) (hl : l.length = n) (ha : RB w a l) (hb : RB w b l) (hn : n ≤ 281474976710656) :
    Calls Try.prog 56 #[.agg #[.int .i64 x, .slice a n cap], .agg #[.int .i64 x, .slice b n cap']] w fun e w' => e = .returned (.bool true) ∧ Below w.heap.size w w' := by
  have c : ∀ W, Below w.heap.size w W → Calls Try.prog 13 #[.slice a n cap, .slice b n cap'] W fun e w' => e = .returned (.bool true) ∧ Below W.heap.size W w' := by
    intro W hW
    refine (lEqByteS a b n cap cap' l W hl (ha.below (Nat.le_refl _) hW) (hb.below (Nat.le_refl _) hW) hn).mono ?_
    rintro e w' ⟨m, rfl, rfl⟩
    exact ⟨rfl, below_drewN (Below.refl _ _) m⟩
  have HC : Hid _ := c
  clear c ha hb
  go_enter Try.func56, Try.ntmps56
  go_wp2_with fail
  refine (HC.out _ (by go_grown)).mono ?_
  rintro e w1 ⟨rfl, hb1⟩
  go_wp2_with fail
  go_ret
  exact ⟨rfl, Below.trans (by go_grown) (hb1.mono (by simp; omega))⟩
theorem below_drew' {w w' : World} (k : Below w.drew.heap.size w.drew w') : Below w.heap.size w w' := (Below.drew (Below.refl _ _)).trans k

set_option maxHeartbeats 1000000 in
theorem lEqPieceS (ps : List Pc) (a a' : Option Addr) (n cap cap' : Nat) (w : World) (B : Nat) (hn : ps.length = n) (hr : pcsS.Rd w B ps [.slice a n cap]) (hr' : pcsS.Rd w B ps [.slice a' n cap']) (hB : B ≤ w.heap.size) (hT : ∀ k (hk : k < ps.length), ps[k].2.1.length ≤ 1048576) :
    Calls Try.prog 54 #[.slice a n cap, .slice a' n cap'] w fun e w' => e = .returned (.bool true) ∧ Below w.heap.size w w' := by
  have hmx : n ≤ 9223372036854775807 := by obtain ⟨_, _, _, h, _⟩ := hr; rw [← hn]; exact Nat.le_trans h.1 h.2
  have HR1 : Hid (∀ W, Below w.heap.size w W → pcsS.Rd W B ps [.slice a n cap]) := fun W hW => hr.below hB hW
  have HR2 : Hid (∀ W, Below w.heap.size w W → pcsS.Rd W B ps [.slice a' n cap']) := fun W hW => hr'.below hB hW
  have HT : Hid _ := hT
  clear hr hr' hT
  go_enter Try.func54, Try.ntmps54
  go_wp2_with fail
  go_loopw [5] (fun i wr => ∃ (k : Nat), k ≤ n ∧ i = .int .i64 k ∧ Below w.heap.size w wr) (fun i _ => n - (intOf i).toNat)
  case atStart => exact ⟨0, Nat.zero_le _, rfl, Below.refl _ _⟩
  case round =>
    obtain ⟨k, hk, rfl, hbl⟩ := hrel
    by_cases hlt : k < n
    · obtain ⟨_, _, e1, -, -, hp⟩ := rd_pcs (HR1.out wr hbl)
      obtain ⟨b, off, ad, c, ha, hb, y0, y1, r3, hw⟩ := hp k (by omega)
      simp only [List.cons.injEq, Value.slice.injEq, and_true] at e1
      rw [← e1.1] at ha
      subst ha
      obtain ⟨ad1, c1, e3, r4, -, -⟩ := rd_bytes r3
      simp only [List.cons.injEq, Value.slice.injEq, and_true, true_and] at e3
      obtain ⟨rfl, rfl⟩ := e3
      clear hp e1 r3
      obtain ⟨_, _, e1, -, -, hp⟩ := rd_pcs (HR2.out wr hbl)
      obtain ⟨b', off', ad', c', ha, hb', y0', y1', r3, -⟩ := hp k (by omega)
      simp only [List.cons.injEq, Value.slice.injEq, and_true] at e1
      rw [← e1.1] at ha
      subst ha
      obtain ⟨ad1', c1', e3, r4', -, -⟩ := rd_bytes r3
      simp only [List.cons.injEq, Value.slice.injEq, and_true, true_and] at e3
      obtain ⟨rfl, rfl⟩ := e3
      have m4 := HT.out k (by omega)
      clear hp e1 r3
      have HRB : Hid _ := r4
      have HRB' : Hid _ := r4'
      have HBl : Hid _ := hbl
      clear r4 r4' hbl hw
      generalize ps[k].2.1 = d at *
      generalize ps[k].1 = at' at *
      have HC : Hid (∀ W, Below wr.heap.size wr W → Calls Try.prog 56 #[.agg #[.int .i64 at', .slice ad d.length c], .agg #[.int .i64 at', .slice ad' d.length c']] W fun e w' => e = .returned (.bool true) ∧ Below W.heap.size W w') :=
        fun W hW => lEqPiece at' ad ad' _ c c' d W rfl (HRB.out.below (Nat.le_refl _) hW) (HRB'.out.below (Nat.le_refl _) hW) (by omega)
      clear HRB HRB'
      go_wp2_with fail
      go_cut [26] (fun u wx => u = .bool false ∧ Below wr.heap.size wr wx)
      case first =>
        go_region_with ((go_at_call 56; refine (HC.out _ (Below.drew (Below.refl _ _))).mono ?_; rintro e w1 ⟨rfl, hb1⟩; replace hb1 := below_drew' hb1; have HB1 : Hid _ := hb1; clear hb1))
        all_goals (go_wp2_with fail; go_meet; exact ⟨rfl, HB1.out⟩)
      case rest =>
        rename World => w1
        obtain ⟨rfl, hb1⟩ := hcut
        have HB1 : Hid (Below w.heap.size w w1) := HBl.out.trans (hb1.mono HBl.out.size)
        clear hb1 HC HBl
        go_wp2_with fail
        go_roundw
        case rel => exact ⟨k + 1, by omega, by go_num, HB1.out⟩
        case measure => simp [intOf]; omega
    · obtain rfl : k = n := by omega
      go_wp2_with fail
      go_ret
      exact ⟨rfl, hbl⟩

set_option maxHeartbeats 1000000 in
theorem lEqGather (g : Gt) (v1 v2 u1 u2 : Value) (w : World) (B : Nat) (hr : gtS.Rd w B g [v1, v2]) (hr' : gtS.Rd w B g [u1, u2]) (hB : B ≤ w.heap.size) (hT : gtTot g ≤ 1048576) :
    Calls Try.prog 47 #[.agg #[v1, v2], .agg #[u1, u2]] w fun e w' => e = .returned (.bool true) ∧ Below w.heap.size w w' := by
  obtain ⟨a1, c1, a2, c2, e0, r1, r2⟩ := rd_gt hr
  simp only [List.cons.injEq, and_true] at e0
  obtain ⟨rfl, rfl⟩ := e0
  obtain ⟨b1, d1, b2, d2, e0, s1, s2⟩ := rd_gt hr'
  simp only [List.cons.injEq, and_true] at e0
  obtain ⟨rfl, rfl⟩ := e0
  have t1 : g.1.length ≤ 1048576 := by unfold gtTot at hT; omega
  have t2 : ∀ k (hk : k < g.2.1.length), g.2.1[k].2.1.length ≤ 1048576 := fun k hk => by have := dsum_at hk; unfold gtTot pcsTot at hT; omega
  have HC1 : Hid (∀ W, Below w.heap.size w W → Calls Try.prog 13 #[.slice a1 g.1.length c1, .slice b1 g.1.length d1] W fun e w' => e = .returned (.bool true) ∧ Below W.heap.size W w') := by
    intro W hW
    obtain ⟨_, _, e3, q1, -, -⟩ := rd_bytes (r1.below hB hW)
    simp only [List.cons.injEq, Value.slice.injEq, and_true, true_and] at e3
    obtain ⟨rfl, rfl⟩ := e3
    obtain ⟨_, _, e3, q2, -, -⟩ := rd_bytes (s1.below hB hW)
    simp only [List.cons.injEq, Value.slice.injEq, and_true, true_and] at e3
    obtain ⟨rfl, rfl⟩ := e3
    refine (lEqByteS a1 b1 _ c1 d1 g.1 W rfl q1 q2 (by omega)).mono ?_
    rintro e w' ⟨m, rfl, rfl⟩
    exact ⟨rfl, below_drewN (Below.refl _ _) m⟩
  have HC2 : Hid (∀ W, Below w.heap.size w W → Calls Try.prog 54 #[.slice a2 g.2.1.length c2, .slice b2 g.2.1.length d2] W fun e w' => e = .returned (.bool true) ∧ Below W.heap.size W w') :=
    fun W hW => lEqPieceS g.2.1 a2 b2 _ c2 d2 W B rfl (r2.below hB hW) (s2.below hB hW) (Nat.le_trans hB hW.size) t2
  clear hr hr' r1 r2 s1 s2 t2 hT
  generalize g.1.length = n1 at *
  generalize g.2.1.length = n2 at *
  go_enter Try.func47, Try.ntmps47
  go_wp2_with fail
  refine (HC1.out _ (by go_grown)).mono ?_
  rintro e w1 ⟨rfl, hb1⟩
  have hz := hb1.size
  simp at hz
  have k0 : ∀ o, w1.cell? ⟨w.heap.size, o, none⟩ = (#[.slice a1 n1 c1, .slice a2 n2 c2] : Array Value)[o]? := fun o => by rw [(bcell hb1).1 _ o (by simp; omega)]; simp [go_sem]
  have k1 : ∀ o, w1.cell? ⟨w.heap.size + 1, o, none⟩ = (#[.slice b1 n1 d1, .slice b2 n2 d2] : Array Value)[o]? := fun o => by rw [(bcell hb1).1 _ o (by simp)]; simp [go_sem]
  have HB1 : Hid (Below w.heap.size w w1) := Below.trans (by go_grown) (hb1.mono (by simp; omega))
  clear hb1 HC1
  go_wp2_with fail
  refine (HC2.out _ HB1.out).mono ?_
  rintro e w2 ⟨rfl, hb2⟩
  have HB2 : Hid (Below w.heap.size w w2) := HB1.out.trans (hb2.mono HB1.out.size)
  clear hb2
  go_wp2_with fail
  go_ret
  exact ⟨rfl, HB2.out⟩
end Go.Proofs.Ytcbgedlckcjjnaa
