/- Bytes copied, and what StripSegment answers, of the program and of its model: the segment without its option, its load a new one; nothing that was in memory turns; no condition but that the load has at most a million bytes. -/
import Derived.Test.YtfpemobkkfobkaaGreatDoorRows
import Derived.Deep.DeepMust
import Derived.Deep.DeepCutAuto
import Derived.Deep.RegionHeld3
import Derived.Deep.MidRow
import Derived.Test.YtfpemobkkfobkaaGreatDoorK01
import Derived.Test.YtfpemobkkfobkaaGreatDoorK02
import Derived.Test.YtfpemobkkfobkaaGreatDoorK03
import Derived.Test.YtfpemobkkfobkaaGreatDoorK10
import Derived.Test.YtfpemobkkfobkaaGreatDoorK17
import Derived.Test.YtfpemobkkfobkaaGreatDoorK20
import Derived.Test.YtfpemobkkfobkaaGreatDoorK42
import Derived.Test.YtfpemobkkfobkaaGreatDoorK43
namespace Go.Proofs.YtfpemobkkfobkaaGreatDoor
open Go.RowKit
set_option linter.unusedVariables false

theorem OB.empty (w : World) (base : Nat) : OB w base (.slice none 0 0) [] := ⟨⟨rfl, Or.inl ⟨rfl, rfl⟩⟩, by simp⟩
theorem OB.made (w : World) (base : Nat) (hb : base ≤ w.heap.size) : OB (w.alloc (.cells #[] 5)) base (.slice (some ⟨w.heap.size, 0, none⟩) 0 0) [] := ⟨World.ownsRow_made w #[] 0 hb (by decide) rfl, by simp⟩


def Seg.strip (s : Seg) : Seg := { s with opt := 0, a := 0, b := 0 }



end Go.Proofs.YtfpemobkkfobkaaGreatDoor

/- What the law's own helpers (measure, copy, compare, mark, hold) make of rows of bools; no condition but that there are at most a million parts. -/
namespace Go.Proofs.YtfpemobkkfobkaaGreatDoor
open Go.RowKit
set_option linter.unusedVariables false
set_option maxRecDepth 8000

abbrev bls (t : TypeId) : Sh := .row t .bool
theorem rd_bls {w : World} {B : Nat} {t : TypeId} {l : List Bool} {v : Value} (h : (bls t).Rd w B l [v]) : ∃ a cap, v = .slice a l.length cap ∧ l.length ≤ 9223372036854775807 ∧ ∃ b off, (l ≠ [] → a = some ⟨b, off, none⟩ ∧ b < B) ∧ ∀ i (h : i < l.length), w.cell? ⟨b, off + i, none⟩ = some (.bool l[i]) := by
  have hm : l.length ≤ 9223372036854775807 := row_max h
  obtain ⟨a, cap, h1, h2, h3, b, off, h4, h5⟩ := h
  simp only [List.cons.injEq, and_true] at h1
  refine ⟨a, cap, h1, hm, b, off, h4, fun i hi => ?_⟩
  obtain ⟨cs', g1, g2, g3⟩ := h5 i hi
  have g3' : cs' = [.bool l[i]] := g3
  have := g2 0 (by decide)
  rw [g3'] at this
  simpa [Sh.sz] using this
theorem bls_t {w : World} {B : Nat} {t t' : TypeId} {l : List Bool} {cs : List Value} (h : (bls t).Rd w B l cs) : (bls t').Rd w B l cs := h

theorem lSzBools (t : TypeId) (l : List Bool) (v : Value) (left : Int) (w : World) (B : Nat) (hr : (bls t).Rd w B l [v]) (h0 : 0 ≤ left) (h1 : left ≤ 1048576) :
    Calls Tryz.prog 13 #[v, .int .i64 left] w fun e w' => e = .returned (.int .i64 (if left < (l.length : Nat) then -1 else left - (l.length : Nat))) ∧ Below w.heap.size w w' := by
  obtain ⟨a, cap, rfl, hm, -⟩ := rd_bls hr
  clear hr
  generalize l.length = n at *
  by_cases h : left < n
  · rw [if_pos h]
    have h2 : left - (n : Int) < 0 := by omega
    go_enter Tryz.func13, Tryz.ntmps13
    go_wp2
    go_ret
    exact ⟨rfl, Below.refl _ _⟩
  · rw [if_neg h]
    have h2 : 0 ≤ left - (n : Int) := by omega
    go_enter Tryz.func13, Tryz.ntmps13
    go_wp2
    go_ret
    exact ⟨rfl, Below.refl _ _⟩

theorem info_bool : (Tryz.prog.info? 4).map (fun i => (i.zero, i.size, i.bytes)) = some (some (.bool false), 1, 1) := by kernel_rfl
set_option maxHeartbeats 2000000 in
theorem lToBools (t : TypeId) (l : List Bool) (v : Value) (w : World) (B : Nat) (hr : (bls t).Rd w B l [v]) (hB : B ≤ w.heap.size) (hT : l.length ≤ 1048576) :
    Calls Tryz.prog 19 #[v] w fun e w' => ∃ u, e = .returned u ∧ Own w' w.heap.size w'.heap.size (bls 4) l [u] ∧ Below w.heap.size w w' := by
  obtain ⟨i0, hi, hz0, hz1, hz2⟩ := info_parts info_bool
  obtain ⟨a, cap, rfl, hm, b, off, hne, hc⟩ := rd_bls hr
  clear hr
  obtain ⟨n, hn⟩ : ∃ n, l.length = n := ⟨_, rfl⟩
  have hn1 : n ≤ 1048576 := by omega
  have HC : Hid (∀ W, Below w.heap.size w W → ∀ i (h : i < l.length), a = some ⟨b, off, none⟩ ∧ W.cell? ⟨b, off + i, none⟩ = some (.bool l[i])) := fun W hW i h => by
    have q := hne (by intro e; subst e; simp at h)
    exact ⟨q.1, (hW.cell (p := ⟨b, off + i, none⟩) (by show b < _; omega)).trans (hc i h)⟩
  rw [hn]
  have HN : Hid (l.length = n) := hn
  clear hn hc hne hT hm
  go_enter Tryz.func19, Tryz.ntmps19
  go_wp2_with (at_make; refine wpList_make_full w rfl _ _ 24 rfl w.heap.size 4 i0 (.bool false) 1 Tryz.underlying24 hi hz0 hz1 .i64 .i64 _ _ n (by rfl) (by rfl) rfl rfl (by rw [hz2]; omega) (by unfold maxLen; omega) (Nat.le_refl _) ?_; intro w1 hown hgr)
  have hb1 : Below w.heap.size w w1 := (Below.refl _ _).grown hgr (Nat.le_refl _) (by intro k hk; cases hk)
  have hown0 : Own w1 w.heap.size w1.heap.size (bls 4) (l.take 0 ++ List.replicate (n - 0) false) [.slice (some ⟨w.heap.size, 0, none⟩) n n] := by
    have h := Own.made (e := .bool) (z := .bool false) rfl hown
    exact h.tight
  have HO0 : Hid _ := hown0
  have HB0 : Hid _ := hb1
  clear hown hgr hown0 hb1 hi hz0 hz1 hz2
  go_loopw [4] (fun i wr => ∃ k : Nat, k ≤ n ∧ i = .int .i64 k ∧ Own wr w.heap.size wr.heap.size (bls 4) (l.take k ++ List.replicate (n - k) false) [.slice (some ⟨w.heap.size, 0, none⟩) n n] ∧ Below w.heap.size w wr) (fun i _ => n - (intOf i).toNat)
  case atStart => exact ⟨0, Nat.zero_le _, rfl, HO0.out, HB0.out⟩
  case round =>
    obtain ⟨k, hk, rfl, hown, hbl⟩ := hrel
    clear HO0 HB0
    by_cases hlt : k < n
    · have hkl : k < l.length := by have := HN.out; omega
      obtain ⟨ha, hck⟩ := HC.out wr hbl k hkl
      subst ha
      have hlen : (l.take k ++ List.replicate (n - k) false).length = n := by have := HN.out; simp; omega
      have o3 := hown.stored (k := k) (by rw [hlen]; exact hlt) (hOwnBool wr wr.heap.size wr.heap.size l[k]) (Nat.le_refl _)
      rw [set_step HN.out hlt] at o3
      obtain ⟨sl, fz, -⟩ := hOwnSlot hown
      obtain ⟨old, hold⟩ := sl k (by show k < n * 1; omega)
      have hfz := fz k
      have o4 := o3.1
      have e1 : setRow wr w.heap.size (k * Sh.bool.sz) [.bool l[k]] = wr.setCell ⟨w.heap.size, k, none⟩ (.bool l[k]) := by show wr.setCell ⟨w.heap.size, k * 1, none⟩ _ = _; rw [Nat.mul_one]
      rw [e1] at o4
      have HR : Hid (Own (wr.setCell ⟨w.heap.size, k, none⟩ (.bool l[k])) w.heap.size (wr.setCell ⟨w.heap.size, k, none⟩ (.bool l[k])).heap.size (bls 4) (l.take (k + 1) ++ List.replicate (n - (k + 1)) false) [.slice (some ⟨w.heap.size, 0, none⟩) n n]) := o4.tight
      have HR2 : Hid (Below w.heap.size w (wr.setCell ⟨w.heap.size, k, none⟩ (.bool l[k]))) := hbl.setCell (by simp) _
      clear o3 o4 e1 sl fz hown hbl hlen
      generalize l[k] = x at *
      go_wp2
      go_roundw
      case rel => exact ⟨k + 1, by omega, by go_num, HR.out, HR2.out⟩
      case measure => simp [intOf]; omega
    · obtain rfl : k = n := by omega
      go_wp2
      go_ret
      refine ⟨_, rfl, ?_, hbl⟩
      have e : l.take k ++ List.replicate (k - k) false = l := by rw [Nat.sub_self, List.take_of_length_le (by have := HN.out; omega)]; simp
      rw [e] at hown
      exact hown

set_option maxHeartbeats 1000000 in
theorem lEqBools (t t' : TypeId) (l : List Bool) (v u : Value) (w : World) (B : Nat) (hr : (bls t).Rd w B l [v]) (hr' : (bls t').Rd w B l [u]) (hB : B ≤ w.heap.size) (hT : l.length ≤ 1048576) :
    Calls Tryz.prog 25 #[v, u] w fun e w' => e = .returned (.bool true) ∧ Below w.heap.size w w' := by
  obtain ⟨a, cap, rfl, hm, b, off, hne, hc⟩ := rd_bls hr
  obtain ⟨a', cap', rfl, -, b', off', hne', hc'⟩ := rd_bls hr'
  clear hr hr'
  have HC : Hid (∀ i (h : i < l.length), a = some ⟨b, off, none⟩ ∧ a' = some ⟨b', off', none⟩ ∧ w.cell? ⟨b, off + i, none⟩ = some (.bool l[i]) ∧ w.cell? ⟨b', off' + i, none⟩ = some (.bool l[i])) := fun i h => by
    have q := hne (by intro e; subst e; simp at h)
    have q' := hne' (by intro e; subst e; simp at h)
    exact ⟨q.1, q'.1, hc i h, hc' i h⟩
  obtain ⟨n, hn⟩ : ∃ n, l.length = n := ⟨_, rfl⟩
  rw [hn] at hm ⊢
  have HN : Hid (l.length = n) := hn
  clear hn hc hne hc' hne' hT
  go_enter Tryz.func25, Tryz.ntmps25
  go_wp2
  go_loopw [5] (fun i wr => ∃ (k m : Nat), k ≤ n ∧ i = .int .i64 k ∧ wr = w.drewN m) (fun i _ => n - (intOf i).toNat)
  case atStart => exact ⟨0, 0, Nat.zero_le _, rfl, rfl⟩
  case round =>
    obtain ⟨k, m, hk, rfl, rfl⟩ := hrel
    by_cases hlt : k < n
    · have hkl : k < l.length := by have := HN.out; omega
      obtain ⟨ha, ha', c1, c2⟩ := HC.out k hkl
      subst ha ha'
      generalize l[k] = x at *
      go_wp2
      go_quiet (fail)
      go_wp2
      go_roundw
      case rel => exact ⟨k + 1, _, by omega, by go_num, rfl⟩
      case measure => simp [intOf]; omega
    · obtain rfl : k = n := by omega
      go_wp2
      go_ret
      exact ⟨rfl, below_drewN (Below.refl _ _) m⟩

/-- The marks from c on. -/
def markB (c : Int) (n : Nat) : List Bool := (List.range n).map fun (i : Nat) => (c + (i : Int)) % 3 == 0
theorem markB_length (c : Int) (n : Nat) : (markB c n).length = n := by simp [markB]
theorem markB_get (c : Int) (n i : Nat) (h : i < (markB c n).length) : (markB c n)[i] = ((c + i) % 3 == 0) := by simp [markB]
theorem markB_succ (c : Int) (n : Nat) : markB c (n + 1) = markB c n ++ [(c + n) % 3 == 0] := by simp [markB, List.range_succ]
theorem set_markB {l : List Bool} {c : Int} {k : Nat} (hk : k < l.length) : (markB c k ++ l.drop k).set k ((c + k) % 3 == 0) = markB c (k + 1) ++ l.drop (k + 1) := by
  have h1 := markB_length c k
  rw [List.set_append_right _ _ (by omega), h1, Nat.sub_self, List.drop_eq_getElem_cons hk, List.set_cons_zero, markB_succ, List.append_assoc]
  rfl


end Go.Proofs.YtfpemobkkfobkaaGreatDoor

/- What the law's own helpers (measure, copy) make of segments and rows of them; no condition but that there are at most a million parts. Written by mknet0.py. -/
namespace Go.Proofs.YtfpemobkkfobkaaGreatDoor
open Go.RowKit
set_option linter.unusedVariables false
set_option maxRecDepth 8000


theorem rd_Segment {w : World} {B : Nat} {x : DSegm} {cs : List Value} (h : shSegm.Rd w B x cs) : ∃ v, cs = [.int .i64 x.1, .int .i64 x.2.1, .bool x.2.2.1, .bool x.2.2.2.1, .bool x.2.2.2.2.1, .int .i64 x.2.2.2.2.2.1, .int .i64 x.2.2.2.2.2.2.1, .int .i64 x.2.2.2.2.2.2.2.1, .int .i64 x.2.2.2.2.2.2.2.2.1, .int .i64 x.2.2.2.2.2.2.2.2.2.1, .int .i64 x.2.2.2.2.2.2.2.2.2.2.1, v] ∧ u8s.Rd w B x.2.2.2.2.2.2.2.2.2.2.2.1 [v] ∧ (Lit.int .i64 x.1).wf = true ∧ (Lit.int .i64 x.2.1).wf = true ∧ (Lit.int .i64 x.2.2.2.2.2.1).wf = true ∧ (Lit.int .i64 x.2.2.2.2.2.2.1).wf = true ∧ (Lit.int .i64 x.2.2.2.2.2.2.2.1).wf = true ∧ (Lit.int .i64 x.2.2.2.2.2.2.2.2.1).wf = true ∧ (Lit.int .i64 x.2.2.2.2.2.2.2.2.2.1).wf = true ∧ (Lit.int .i64 x.2.2.2.2.2.2.2.2.2.2.1).wf = true := by
  obtain ⟨p0, q0, e0, ⟨g0, w0⟩, p1, q1, e1, ⟨g1, w1⟩, p2, q2, e2, g2, p3, q3, e3, g3, p4, q4, e4, g4, p5, q5, e5, ⟨g5, w5⟩, p6, q6, e6, ⟨g6, w6⟩, p7, q7, e7, ⟨g7, w7⟩, p8, q8, e8, ⟨g8, w8⟩, p9, q9, e9, ⟨g9, w9⟩, p10, q10, e10, ⟨g10, w10⟩, p11, q11, e11, h11, hz⟩ := h
  have hz' : q11 = [] := hz
  have l := Sh.Rd.len _ _ _ h11
  replace l : p11.length = 1 := l
  match p11, l, h11 with
  | [v], _, h11 =>
    refine ⟨v, ?_, h11, w0, w1, w5, w6, w7, w8, w9, w10⟩
    rw [e0, g0, e1, g1, e2, g2, e3, g3, e4, g4, e5, g5, e6, g6, e7, g7, e8, g8, e9, g9, e10, g10, e11, hz']
    rfl

set_option maxHeartbeats 1000000 in
theorem lSzSegmL (x : DSegm) (v : Value) (left : Int) (w : World) (B : Nat) (hr : shSegm.Rd w B x [.int .i64 x.1, .int .i64 x.2.1, .bool x.2.2.1, .bool x.2.2.2.1, .bool x.2.2.2.2.1, .int .i64 x.2.2.2.2.2.1, .int .i64 x.2.2.2.2.2.2.1, .int .i64 x.2.2.2.2.2.2.2.1, .int .i64 x.2.2.2.2.2.2.2.2.1, .int .i64 x.2.2.2.2.2.2.2.2.2.1, .int .i64 x.2.2.2.2.2.2.2.2.2.2.1, v]) (hB : B ≤ w.heap.size) (h0 : 0 ≤ left) (h1 : left ≤ 1048576) :
    Calls Tryz.prog 49 #[.agg #[.int .i64 x.1, .int .i64 x.2.1, .bool x.2.2.1, .bool x.2.2.2.1, .bool x.2.2.2.2.1, .int .i64 x.2.2.2.2.2.1, .int .i64 x.2.2.2.2.2.2.1, .int .i64 x.2.2.2.2.2.2.2.1, .int .i64 x.2.2.2.2.2.2.2.2.1, .int .i64 x.2.2.2.2.2.2.2.2.2.1, .int .i64 x.2.2.2.2.2.2.2.2.2.2.1, v], .int .i64 left] w fun e w' => e = .returned (.int .i64 (if left < totSegm x then -1 else left - totSegm x)) ∧ Below w.heap.size w w' := by
  obtain ⟨vv, ev, rk, wf0, wf1, wf5, wf6, wf7, wf8, wf9, wf10⟩ := rd_Segment hr
  simp only [List.cons.injEq, and_true, true_and] at ev
  subst ev
  have HC : Hid (∀ W, Below w.heap.size w W → Calls Tryz.prog 28 #[v, .int .i64 left] W fun e w' => e = .returned (.int .i64 (if left < totSegm x then -1 else left - totSegm x)) ∧ Below W.heap.size W w') := fun W hW => lSzBytes x.2.2.2.2.2.2.2.2.2.2.2.1 v left W B (rk.below hB hW) (Nat.le_trans hB hW.size) h0 h1
  obtain ⟨va, vc, ev2⟩ := row_form rk
  simp only [List.cons.injEq, and_true] at ev2
  subst ev2
  clear hr rk
  generalize totSegm x = N at *
  generalize x.1 = y0 at *
  generalize x.2.1 = y1 at *
  generalize x.2.2.1 = y2 at *
  generalize x.2.2.2.1 = y3 at *
  generalize x.2.2.2.2.1 = y4 at *
  generalize x.2.2.2.2.2.1 = y5 at *
  generalize x.2.2.2.2.2.2.1 = y6 at *
  generalize x.2.2.2.2.2.2.2.1 = y7 at *
  generalize x.2.2.2.2.2.2.2.2.1 = y8 at *
  generalize x.2.2.2.2.2.2.2.2.2.1 = y9 at *
  generalize x.2.2.2.2.2.2.2.2.2.2.1 = y10 at *
  generalize x.2.2.2.2.2.2.2.2.2.2.2.1.length = n at *
  by_cases h : left < N
  · rw [if_pos h] at HC ⊢
    go_enter Tryz.func49, Tryz.ntmps49
    go_wp2_with fail
    refine (HC.out _ (by go_grown)).mono ?_
    rintro e w1 ⟨rfl, hb⟩
    go_wp2_with fail
    go_ret
    exact ⟨rfl, Below.trans (by go_grown) (hb.mono (by simp))⟩
  · rw [if_neg h] at HC ⊢
    have h2 : 0 ≤ left - (N : Int) := by omega
    go_enter Tryz.func49, Tryz.ntmps49
    go_wp2_with fail
    refine (HC.out _ (by go_grown)).mono ?_
    rintro e w1 ⟨rfl, hb⟩
    go_wp2_with fail
    go_ret
    exact ⟨rfl, Below.trans (by go_grown) (hb.mono (by simp))⟩

set_option maxHeartbeats 2000000 in
theorem lToSegmL (x : DSegm) (v : Value) (w : World) (B : Nat) (hr : shSegm.Rd w B x [.int .i64 x.1, .int .i64 x.2.1, .bool x.2.2.1, .bool x.2.2.2.1, .bool x.2.2.2.2.1, .int .i64 x.2.2.2.2.2.1, .int .i64 x.2.2.2.2.2.2.1, .int .i64 x.2.2.2.2.2.2.2.1, .int .i64 x.2.2.2.2.2.2.2.2.1, .int .i64 x.2.2.2.2.2.2.2.2.2.1, .int .i64 x.2.2.2.2.2.2.2.2.2.2.1, v]) (hB : B ≤ w.heap.size) (hT : totSegm x ≤ 1048576) :
    Calls Tryz.prog 57 #[.agg #[.int .i64 x.1, .int .i64 x.2.1, .bool x.2.2.1, .bool x.2.2.2.1, .bool x.2.2.2.2.1, .int .i64 x.2.2.2.2.2.1, .int .i64 x.2.2.2.2.2.2.1, .int .i64 x.2.2.2.2.2.2.2.1, .int .i64 x.2.2.2.2.2.2.2.2.1, .int .i64 x.2.2.2.2.2.2.2.2.2.1, .int .i64 x.2.2.2.2.2.2.2.2.2.2.1, v]] w fun e w' => ∃ u, e = .returned (.agg #[.int .i64 x.1, .int .i64 x.2.1, .bool x.2.2.1, .bool x.2.2.2.1, .bool x.2.2.2.2.1, .int .i64 x.2.2.2.2.2.1, .int .i64 x.2.2.2.2.2.2.1, .int .i64 x.2.2.2.2.2.2.2.1, .int .i64 x.2.2.2.2.2.2.2.2.1, .int .i64 x.2.2.2.2.2.2.2.2.2.1, .int .i64 x.2.2.2.2.2.2.2.2.2.2.1, u]) ∧ Own w' w.heap.size w'.heap.size shSegm x [.int .i64 x.1, .int .i64 x.2.1, .bool x.2.2.1, .bool x.2.2.2.1, .bool x.2.2.2.2.1, .int .i64 x.2.2.2.2.2.1, .int .i64 x.2.2.2.2.2.2.1, .int .i64 x.2.2.2.2.2.2.2.1, .int .i64 x.2.2.2.2.2.2.2.2.1, .int .i64 x.2.2.2.2.2.2.2.2.2.1, .int .i64 x.2.2.2.2.2.2.2.2.2.2.1, u] ∧ Below w.heap.size w w' := by
  obtain ⟨vv, ev, rk, wf0, wf1, wf5, wf6, wf7, wf8, wf9, wf10⟩ := rd_Segment hr
  simp only [List.cons.injEq, and_true, true_and] at ev
  subst ev
  have HC : Hid (∀ W, Below w.heap.size w W → Calls Tryz.prog 36 #[v] W fun e w' => ∃ u, e = .returned u ∧ Own w' W.heap.size w'.heap.size u8s x.2.2.2.2.2.2.2.2.2.2.2.1 [u] ∧ Below W.heap.size W w') := fun W hW => lToBytes x.2.2.2.2.2.2.2.2.2.2.2.1 v W B (rk.below hB hW) (Nat.le_trans hB hW.size) hT
  obtain ⟨va, vc, ev2⟩ := row_form rk
  simp only [List.cons.injEq, and_true] at ev2
  subst ev2
  have HWF0 : Hid _ := wf0
  have HWF1 : Hid _ := wf1
  have HWF5 : Hid _ := wf5
  have HWF6 : Hid _ := wf6
  have HWF7 : Hid _ := wf7
  have HWF8 : Hid _ := wf8
  have HWF9 : Hid _ := wf9
  have HWF10 : Hid _ := wf10
  clear hr rk hT hB wf0 wf1 wf5 wf6 wf7 wf8 wf9 wf10
  obtain ⟨y0, y1, y2, y3, y4, y5, y6, y7, y8, y9, y10, d, _⟩ := x
  simp only at *
  go_enter Tryz.func57, Tryz.ntmps57
  go_wp2_with fail
  refine (HC.out _ (by go_grown)).mono ?_
  rintro e w1 ⟨u, rfl, ho, hb1⟩
  obtain ⟨ua, uc, eu⟩ := row_form (ho.rd (Nat.le_refl _))
  simp only [List.cons.injEq, and_true] at eu
  subst eu
  have hz := hb1.size
  simp at hz
  simp only [World.size_alloc] at ho
  obtain ⟨hc, hf⟩ := bcell hb1
  have z1 : w.heap.size < w1.heap.size := by omega
  have z2 : w.heap.size + 1 < w1.heap.size := by omega
  have z3 : w.heap.size + 1 + 1 < w1.heap.size := by omega
  have HB : Hid _ := hb1
  have HO : Hid (Own w1 (w.heap.size + 1 + 1 + 1) w1.heap.size u8s d [.slice ua d.length uc]) := ho
  clear hb1 ho hz HC
  go_wp2_with fail
  have hB1 : Below w.heap.size w w1 := Below.trans (by go_grown) (HB.out.mono (by simp; omega))
  refine bodyPost_ret (v := .agg #[.int .i64 y0, .int .i64 y1, .bool y2, .bool y3, .bool y4, .int .i64 y5, .int .i64 y6, .int .i64 y7, .int .i64 y8, .int .i64 y9, .int .i64 y10, .slice ua d.length uc]) (by simp [results, Tryz.results57, go_sem, hc]) rfl ⟨_, rfl, ?_, ?_⟩
  · have h2 : Own w1 (w.heap.size + 1 + 1 + 1) w1.heap.size shSegm (y0, y1, y2, y3, y4, y5, y6, y7, y8, y9, y10, d, ()) [.int .i64 y0, .int .i64 y1, .bool y2, .bool y3, .bool y4, .int .i64 y5, .int .i64 y6, .int .i64 y7, .int .i64 y8, .int .i64 y9, .int .i64 y10, .slice ua d.length uc] := hOwnCons (hOwnInt w1 _ (w.heap.size + 1 + 1 + 1) HWF0.out) (hOwnCons (hOwnInt w1 _ (w.heap.size + 1 + 1 + 1) HWF1.out) (hOwnCons (hOwnBool w1 _ (w.heap.size + 1 + 1 + 1) _) (hOwnCons (hOwnBool w1 _ (w.heap.size + 1 + 1 + 1) _) (hOwnCons (hOwnBool w1 _ (w.heap.size + 1 + 1 + 1) _) (hOwnCons (hOwnInt w1 _ (w.heap.size + 1 + 1 + 1) HWF5.out) (hOwnCons (hOwnInt w1 _ (w.heap.size + 1 + 1 + 1) HWF6.out) (hOwnCons (hOwnInt w1 _ (w.heap.size + 1 + 1 + 1) HWF7.out) (hOwnCons (hOwnInt w1 _ (w.heap.size + 1 + 1 + 1) HWF8.out) (hOwnCons (hOwnInt w1 _ (w.heap.size + 1 + 1 + 1) HWF9.out) (hOwnCons (hOwnInt w1 _ (w.heap.size + 1 + 1 + 1) HWF10.out) (hOwnCons HO.out (hOwnNil _ _ _) (by omega) (Nat.le_refl _)) (Nat.le_refl _) (by omega)) (Nat.le_refl _) (by omega)) (Nat.le_refl _) (by omega)) (Nat.le_refl _) (by omega)) (Nat.le_refl _) (by omega)) (Nat.le_refl _) (by omega)) (Nat.le_refl _) (by omega)) (Nat.le_refl _) (by omega)) (Nat.le_refl _) (by omega)) (Nat.le_refl _) (by omega)) (Nat.le_refl _) (by omega)
    refine Own.mono (Own.keep h2 fun b hb hlt => ?_) (by omega) (by simp)
    repeat rw [Below.heap_setCell _ _ _ _ (by dsimp only; omega)]
  · clear hc hf HO HB
    go_grown

theorem setRow_cellsN (g : Nat) : ∀ (vs : List Value) (w : World) (off : Nat), setRow w g off vs = w.setCells g off vs
  | [], _, _ => rfl
  | v :: vs, w, off => setRow_cellsN g vs (w.setCell ⟨g, off, none⟩ v) (off + 1)
theorem lSzSegmA (x : DSegm) (A : Array Value) (left : Int) (w : World) (B : Nat) (hr : shSegm.Rd w B x A.toList) (hB : B ≤ w.heap.size) (h0 : 0 ≤ left) (h1 : left ≤ 1048576) :
    Calls Tryz.prog 49 #[.agg A, .int .i64 left] w fun e w' => e = .returned (.int .i64 (if left < totSegm x then -1 else left - totSegm x)) ∧ Below w.heap.size w w' := by
  obtain ⟨u, e, -⟩ := rd_Segment hr
  rw [e] at hr
  rw [arr_of e]
  exact lSzSegmL x u left w B hr hB h0 h1
theorem lToSegmA (x : DSegm) (A : Array Value) (w : World) (B : Nat) (hr : shSegm.Rd w B x A.toList) (hB : B ≤ w.heap.size) (hT : totSegm x ≤ 1048576) :
    Calls Tryz.prog 57 #[.agg A] w fun e w' => ∃ A', e = .returned (.agg A') ∧ Own w' w.heap.size w'.heap.size shSegm x A'.toList ∧ Below w.heap.size w w' := by
  obtain ⟨u, e, -⟩ := rd_Segment hr
  rw [e] at hr
  rw [arr_of e]
  refine (lToSegmL x u w B hr hB hT).mono ?_
  rintro e w' ⟨u2, he, ho, hb⟩
  exact ⟨_, he, ho, hb⟩
theorem info_SegL : (Tryz.prog.info? 109).map (·.size) = some 12 := by kernel_rfl
set_option maxHeartbeats 2000000 in
theorem lSzSegms (l : List DSegm) (v : Value) (left : Int) (w : World) (B : Nat) (hr : shSegms.Rd w B l [v]) (hB : B ≤ w.heap.size) (h0 : 0 ≤ left) (h1 : left ≤ 1048576) :
    Calls Tryz.prog 27 #[v, .int .i64 left] w fun e w' => e = .returned (.int .i64 (if left < totSegms l then -1 else left - totSegms l)) ∧ Below w.heap.size w w' := by
  obtain ⟨a, cap, ev⟩ := row_form hr
  simp only [List.cons.injEq, and_true] at ev
  subst ev
  have hmx : l.length ≤ 9223372036854775807 := row_max hr
  by_cases hA : left < l.length
  · rw [if_pos (by unfold totSegms; omega)]
    clear hr
    generalize l.length = n at *
    have h2 : left - (n : Int) < 0 := by omega
    go_enter Tryz.func27, Tryz.ntmps27
    go_wp2
    go_ret
    exact ⟨rfl, by go_grown⟩
  · obtain ⟨n, hn⟩ : ∃ n, l.length = n := ⟨_, rfl⟩
    rw [hn] at hr hmx hA ⊢
    have h2 : 0 ≤ left - (n : Int) := by omega
    generalize hRR : (if left < (totSegms l : Int) then -1 else left - (totSegms l : Int)) = R
    have HRR : Hid ((if left < (totSegms l : Int) then -1 else left - (totSegms l : Int)) = R) := hRR
    have HRd : Hid (∀ W, Below w.heap.size w W → shSegms.Rd W B l [.slice a n cap]) := fun W hW => hr.below hB hW
    have HN : Hid (l.length = n) := hn
    clear hRR hr hn
    go_enter Tryz.func27, Tryz.ntmps27
    go_wp2_with fail
    go_loopw [1, 5] (fun t i wr => ∃ (k : Nat) (x : Int), k ≤ n ∧ i = .int .i64 k ∧ t = .int .i64 x ∧ 0 ≤ x ∧ x ≤ left ∧ Hid (x = left - n - (fsum totSegm (l.take k) : Nat)) ∧ Below w.heap.size w wr) (fun _ i _ => n - (intOf i).toNat)
    case atStart => exact ⟨0, left - n, Nat.zero_le _, rfl, rfl, h2, by omega, (by simp [fsum] : left - (n : Int) = left - n - (fsum totSegm (l.take 0) : Nat)), Below.refl _ _⟩
    case round =>
      obtain ⟨k, x, hk, rfl, rfl, hx0, hx1, hxe, hbl⟩ := hrel
      by_cases hlt : k < n
      · have hkl : k < l.length := by have := HN.out; omega
        obtain ⟨b, off, cs, ha, hb, hlen, hrg, r3⟩ := row_at (HRd.out wr hbl) k hkl
        subst ha
        replace hlen : cs.length = 12 := hlen
        replace hrg : wr.rangeAt b (off + k * 12) cs := hrg
        have HI : (Tryz.prog.info? 109).map (·.size) = some cs.length := by rw [hlen]; exact info_SegL
        have HS : Hid (fsum totSegm (l.take (k + 1)) = fsum totSegm (l.take k) + totSegm l[k]) := fsum_take hkl
        have HS2 : Hid (fsum totSegm (l.take (k + 1)) ≤ fsum totSegm l) := fsum_le l (k + 1)
        have HC : Hid (Calls Tryz.prog 49 #[.agg cs.toArray, .int .i64 x] wr fun e w' => e = .returned (.int .i64 (if x < totSegm l[k] then -1 else x - totSegm l[k])) ∧ Below wr.heap.size wr w') := lSzSegmA l[k] cs.toArray x wr B r3 (Nat.le_trans hB hbl.size) hx0 (by omega)
        have HB : Hid _ := hbl
        have HG : Hid _ := hrg
        have HI' : Hid _ := HI
        clear r3 hbl hrg HI
        generalize totSegm l[k] = q at *
        go_wp2_with (refine wpList_load_mid rfl 109 _ rfl _ _ (by rfl) cs _ HG.out Tryz.underlying109 rfl HI'.out ?_)
        refine HC.out.mono ?_
        rintro e w1 ⟨rfl, hb1⟩
        have HB1 : Hid (Below w.heap.size w w1) := HB.out.trans (hb1.mono HB.out.size)
        clear hb1 HC
        by_cases hq : x < q
        · rw [if_pos hq]
          go_wp2_with fail
          go_ret
          refine ⟨ret_int ?_, HB1.out⟩
          have := HS.out; have := HS2.out; have := hxe.out; have := HN.out
          rw [← HRR.out, if_pos (by unfold totSegms; omega)]
        · rw [if_neg hq]
          have hq2 : 0 ≤ x - (q : Int) := by omega
          have HE : Hid (x - q = left - n - (fsum totSegm (l.take (k + 1)) : Nat)) := by have := HS.out; have := hxe.out; show _ = _; omega
          have hq3 : x - (q : Int) ≤ left := by omega
          clear hq
          generalize x - (q : Int) = x2 at *
          go_wp2_with fail
          go_roundw
          case rel => exact ⟨k + 1, x2, by omega, by go_num, rfl, hq2, hq3, HE, HB1.out⟩
          case measure => simp [intOf]; omega
      · obtain rfl : k = n := by omega
        go_wp2_with fail
        go_ret
        refine ⟨ret_int ?_, hbl⟩
        have h3 := hxe.out; have h4 := HN.out
        rw [← h4, List.take_length] at h3
        rw [← HRR.out, if_neg (by unfold totSegms; omega)]
        unfold totSegms; omega

theorem info_SegI : (Tryz.prog.info? 115).map (·.size) = some 12 := by kernel_rfl
theorem info_SegZ : (Tryz.prog.info? 115).map (fun i => (i.zero, i.size, i.bytes)) = some (some (.agg #[.int .i64 0, .int .i64 0, .bool false, .bool false, .bool false, .int .i64 0, .int .i64 0, .int .i64 0, .int .i64 0, .int .i64 0, .int .i64 0, .slice none 0 0]), 12, 96) := by kernel_rfl
set_option maxHeartbeats 4000000 in
theorem lToSegms (l : List DSegm) (v : Value) (w : World) (B : Nat) (hr : shSegms.Rd w B l [v]) (hB : B ≤ w.heap.size) (hT : totSegms l ≤ 1048576) :
    Calls Tryz.prog 35 #[v] w fun e w' => ∃ u, e = .returned u ∧ Own w' w.heap.size w'.heap.size shSegms l [u] ∧ Below w.heap.size w w' := by
  obtain ⟨i0, hi, hz0, hz1, hz2⟩ := info_parts info_SegZ
  obtain ⟨a, cap, ev⟩ := row_form hr
  simp only [List.cons.injEq, and_true] at ev
  subst ev
  have HT : Hid (∀ k (hk : k < l.length), totSegm l[k] ≤ 1048576) := fun k hk => by have := fsum_at totSegm hk; unfold totSegms at hT; omega
  have hn1 : l.length ≤ 1048576 := by unfold totSegms at hT; omega
  obtain ⟨n, hn⟩ : ∃ n, l.length = n := ⟨_, rfl⟩
  rw [hn] at hr hn1 ⊢
  have HRd : Hid (∀ W, Below w.heap.size w W → shSegms.Rd W B l [.slice a n cap]) := fun W hW => hr.below hB hW
  have HN : Hid (l.length = n) := hn
  clear hr hT hn
  go_enter Tryz.func35, Tryz.ntmps35
  go_wp2_with (at_make; refine wpList_make_full w rfl _ _ 35 rfl w.heap.size 115 i0 (.agg #[.int .i64 0, .int .i64 0, .bool false, .bool false, .bool false, .int .i64 0, .int .i64 0, .int .i64 0, .int .i64 0, .int .i64 0, .int .i64 0, .slice none 0 0]) 12 Tryz.underlying35 hi hz0 hz1 .i64 .i64 _ _ n (by rfl) (by rfl) rfl rfl (by rw [hz2]; omega) (by unfold maxLen; omega) (Nat.le_refl _) ?_; intro w1 hown hgr)
  have hb1 : Below w.heap.size w w1 := (Below.refl _ _).grown hgr (Nat.le_refl _) (by intro k hk; cases hk)
  have hown0 : Own w1 w.heap.size w1.heap.size shSegms (l.take 0 ++ List.replicate (n - 0) shSegm.zero) [.slice (some ⟨w.heap.size, 0, none⟩) n n] := by
    have h := Own.made (e := shSegm) (z := .agg #[.int .i64 0, .int .i64 0, .bool false, .bool false, .bool false, .int .i64 0, .int .i64 0, .int .i64 0, .int .i64 0, .int .i64 0, .int .i64 0, .slice none 0 0]) rfl hown
    exact h.tight
  have HO0 : Hid _ := hown0
  have HB0 : Hid _ := hb1
  clear hown hgr hown0 hb1 hi hz0 hz1 hz2
  go_loopw [4] (fun i wr => ∃ k : Nat, k ≤ n ∧ i = .int .i64 k ∧ Own wr w.heap.size wr.heap.size shSegms (l.take k ++ List.replicate (n - k) shSegm.zero) [.slice (some ⟨w.heap.size, 0, none⟩) n n] ∧ Below w.heap.size w wr) (fun i _ => n - (intOf i).toNat)
  case atStart => exact ⟨0, Nat.zero_le _, rfl, HO0.out, HB0.out⟩
  case round =>
    obtain ⟨k, hk, rfl, hown, hbl⟩ := hrel
    clear HO0 HB0
    by_cases hlt : k < n
    · have hkl : k < l.length := by have := HN.out; omega
      obtain ⟨b, off, cs, ha, hb, hlen, hrg, r3⟩ := row_at (HRd.out wr hbl) k hkl
      subst ha
      replace hlen : cs.length = 12 := hlen
      replace hrg : wr.rangeAt b (off + k * 12) cs := hrg
      have HI : (Tryz.prog.info? 109).map (·.size) = some cs.length := by rw [hlen]; exact (by kernel_rfl : (Tryz.prog.info? 109).map (·.size) = some 12)
      have HC : Hid (Calls Tryz.prog 57 #[.agg cs.toArray] wr fun e w' => ∃ A, e = .returned (.agg A) ∧ Own w' wr.heap.size w'.heap.size shSegm l[k] A.toList ∧ Below wr.heap.size wr w') := lToSegmA l[k] cs.toArray wr B r3 (Nat.le_trans hB hbl.size) (HT.out k hkl)
      have HG : Hid _ := hrg
      have HI' : Hid _ := HI
      have HOwn : Hid _ := hown
      have HBl : Hid _ := hbl
      clear r3 hrg HI hown hbl
      go_wp2_with (refine wpList_load_mid rfl 109 _ rfl _ _ (by rfl) cs _ HG.out Tryz.underlying109 rfl HI'.out ?_)
      refine HC.out.mono ?_
      rintro e w1 ⟨A, rfl, ho, hb1⟩
      clear HC
      have hz := hb1.size
      have hA : A.size = 12 := rd_size (ho.rd (Nat.le_refl _))
      have hA1 : A.all (·.oneCell') = true := rd_all (ho.rd (Nat.le_refl _))
      have o1 : Own w1 w.heap.size wr.heap.size shSegms (l.take k ++ List.replicate (n - k) shSegm.zero) [.slice (some ⟨w.heap.size, 0, none⟩) n n] := HOwn.out.below (Nat.le_refl _) hb1
      have hlen2 : (l.take k ++ List.replicate (n - k) shSegm.zero).length = n := by have := HN.out; simp; omega
      have o3 := o1.stored (k := k) (by rw [hlen2]; exact hlt) ho hz
      rw [set_step HN.out hlt, setRow_cellsN] at o3
      obtain ⟨sl, fz, -⟩ := hOwnSlot o1
      have hth : w1.there w.heap.size (k * 12) A.size := fun j hj => by
        obtain ⟨old, hold⟩ := sl (k * 12 + j) (by show k * 12 + j < n * 12; omega)
        exact ⟨by rw [hold]; rfl, fz _⟩
      have HT3 : Hid _ := hth
      have HI3 : Hid ((Tryz.prog.info? 115).map (·.size) = some A.size) := by show _ = _; rw [hA]; exact info_SegI
      have HA1 : Hid _ := hA1
      have HO3 : Hid (Own (w1.setCells w.heap.size (k * 12) A.toList) w.heap.size w1.heap.size shSegms (l.take (k + 1) ++ List.replicate (n - (k + 1)) shSegm.zero) [.slice (some ⟨w.heap.size, 0, none⟩) n n]) := o3.1
      have HB3 : Hid (Below w.heap.size w (w1.setCells w.heap.size (k * 12) A.toList)) := setCells_below (Nat.le_refl _) _ _ _ _ (HBl.out.trans (hb1.mono HBl.out.size))
      clear o1 o3 sl fz ho hb1 hz hlen2 hth hA hA1
      go_wp2_with (refine wpList_store_mid rfl 115 _ _ rfl _ _ A (by rfl) (by rfl) HT3.out HI3.out HA1.out ?_)
      go_roundw
      case rel => exact ⟨k + 1, by omega, by go_num, HO3.out.tight, HB3.out⟩
      case measure => simp [intOf]; omega
    · obtain rfl : k = n := by omega
      go_wp2_with fail
      go_ret
      refine ⟨_, rfl, ?_, hbl⟩
      have e : l.take k ++ List.replicate (k - k) shSegm.zero = l := by rw [Nat.sub_self, List.take_of_length_le (by have := HN.out; omega)]; simp
      rw [e] at hown
      exact hown

end Go.Proofs.YtfpemobkkfobkaaGreatDoor
