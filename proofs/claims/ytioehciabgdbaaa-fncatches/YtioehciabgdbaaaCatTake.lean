/- What the program makes of spans that are taken: copied, sorted, joined, compared; nothing that was in memory turns; no condition but that there are at most a hundred thousand. -/
import Derived.Test.YtioehciabgdbaaaRows
import Derived.Test.YtioehciabgdbaaaBase
import Derived.Test.YtioehciabgdbaaaMem
import Derived.Test.YtioehciabgdbaaaHBase
import Derived.Test.YtioehciabgdbaaaHSpan
import Derived.Test.YtioehciabgdbaaaHCatch
import Derived.Test.YtioehciabgdbaaaMSpan
import Derived.Test.YtioehciabgdbaaaSpanRow
import Derived.Test.YtioehciabgdbaaaCatDef
import Derived.Test.YtioehciabgdbaaaCatImpl
import Derived.Test.YtioehciabgdbaaaCatCount
import Derived.Test.YtioehciabgdbaaaCatSort
import Derived.Test.YtioehciabgdbaaaCatCopy
import Derived.Test.YtioehciabgdbaaaBox
import Derived.Shelf.SlicesQ.Equal
import Derived.Laws.StructEq
namespace Go.Proofs.Ytioehciabgdbaaa
open Go.RowKit Go.Shelf
set_option linter.unusedVariables false
set_option maxRecDepth 8000

/-! ### Plain facts -/
theorem SpL.pw : ∀ {l : List DSpan}, SpL l → l.Pairwise fun a b => a.1 ≤ b.1
  | [], _ => List.Pairwise.nil
  | s :: l, h => List.Pairwise.cons (fun t ht => by have := h.all t ht; have := h.head; omega) (SpL.pw h.tail)
theorem SpL.uniq : ∀ {l : List DSpan}, SpL l → ∀ a ∈ l, ∀ b ∈ l, a.1 = b.1 → a = b
  | [], _, a, ha, _, _, _ => by simp at ha
  | s :: l, h, a, ha, b, hb, e => by
    have hh := h.head
    rcases List.mem_cons.1 ha with h1 | h1
    · rcases List.mem_cons.1 hb with h2 | h2
      · rw [h1, h2]
      · have := h.all b h2; rw [h1] at e; omega
    · rcases List.mem_cons.1 hb with h2 | h2
      · have := h.all a h1; rw [h2] at e; omega
      · exact SpL.uniq h.tail a h1 b h2 e
theorem sort_same {l l' : List DSpan} (h : SpL l) (hp : l'.Perm l) (hs : l'.Pairwise fun a b => a.1 ≤ b.1) : l' = l :=
  List.Perm.eq_of_pairwise (le := fun a b : DSpan => a.1 ≤ b.1) (fun a b ha hb h1 h2 => h.uniq a (hp.mem_iff.1 ha) b hb (by omega)) hs h.pw hp
theorem sort_ins {l l' : List DSpan} {a b : Int} (hab : a ≤ b) (h : SpL l) (hp : l'.Perm (l ++ [(a, b, ())])) (hs : l'.Pairwise fun a b => a.1 ≤ b.1) : joinT l' = insS a b l := by
  obtain ⟨p, q, rfl⟩ := List.append_of_mem (hp.mem_iff.2 (by simp : (a, b, ()) ∈ l ++ [(a, b, ())]))
  have h1 : (p ++ q).Perm l := by
    have := (List.perm_middle (a := (a, b, ())) (l₁ := p) (l₂ := q)).symm.trans (hp.trans (List.perm_append_comm (l₁ := l) (l₂ := [(a, b, ())])))
    exact this.cons_inv
  rw [List.pairwise_append, List.pairwise_cons] at hs
  obtain ⟨s1, ⟨s2, s3⟩, s4⟩ := hs
  have hpq : p ++ q = l := sort_same h h1 (by
    rw [List.pairwise_append]
    exact ⟨s1, s3, fun x hx y hy => s4 x hx y (List.mem_cons_of_mem _ hy)⟩)
  subst hpq
  exact joinT_ins hab h (fun t ht => s4 t ht (a, b, ()) (by simp)) (fun t ht => s2 t ht)
def JR (l : List DSpan) (k : Nat) (J : List DSpan) : Prop := (k = 0 ∧ J = []) ∨ ∃ front c, J = front ++ [c] ∧ front ++ joinG c (l.drop k) = joinT l
theorem JR.first {l : List DSpan} (hk : 0 < l.length) : JR l 1 ([] ++ [l[0]]) := by
  refine Or.inr ⟨[], l[0], rfl, ?_⟩
  cases l with
  | nil => simp at hk
  | cons s l => rfl
theorem JR.join {l front : List DSpan} {c : DSpan} {k : Nat} (hk : k < l.length) (h : front ++ joinG c (l.drop k) = joinT l) (hle : l[k].1 ≤ c.2.1) : JR l (k + 1) (front ++ [(c.1, max c.2.1 l[k].2.1, ())]) := by
  refine Or.inr ⟨front, _, rfl, ?_⟩
  rw [← h, List.drop_eq_getElem_cons hk, joinG, if_pos hle]
theorem JR.more {l front : List DSpan} {c : DSpan} {k : Nat} (hk : k < l.length) (h : front ++ joinG c (l.drop k) = joinT l) (hle : ¬ l[k].1 ≤ c.2.1) : JR l (k + 1) ((front ++ [c]) ++ [l[k]]) := by
  refine Or.inr ⟨front ++ [c], l[k], rfl, ?_⟩
  rw [← h, List.drop_eq_getElem_cons hk, joinG, if_neg hle, List.append_assoc]
  rfl
theorem JR.end_ {l J : List DSpan} (h : JR l l.length J) : J = joinT l := by
  rcases h with ⟨h0, rfl⟩ | ⟨front, c, rfl, h⟩
  · have : l = [] := List.length_eq_zero_iff.1 h0
    subst this; rfl
  · rw [List.drop_length] at h; exact h
theorem cellsS_set {front : List DSpan} {c : DSpan} {v : Int} : (cellsS (front ++ [c])).set (front.length * 2 + 1) (.int .i64 v) = cellsS (front ++ [(c.1, v, ())]) := by
  rw [cellsS_app, cellsS_app, List.set_append_right _ _ (by rw [cellsS_len]; omega), cellsS_len, show front.length * 2 + 1 - front.length * 2 = 1 by omega]
  rfl
/-- The end of the last span of a row of the call's own stored. -/
theorem OS.last {w : World} {base g n cap : Nat} {front : List DSpan} {c : DSpan} {v : Int} (h : OS w base (.slice (some ⟨g, 0, none⟩) n cap) (front ++ [c])) (hv : (Lit.int .i64 v).wf = true) :
    OS (w.setCell ⟨g, front.length * 2 + 1, none⟩ (.int .i64 v)) base (.slice (some ⟨g, 0, none⟩) n cap) (front ++ [(c.1, v, ())]) := by
  have hn : n = (front ++ [c]).length := by
    obtain ⟨a, cp, e, _⟩ := h.rs
    simp only [Value.slice.injEq] at e; exact e.2.1
  have hw := h.wf
  have ho := h.own
  subst hn
  have := (ho.stored (front.length * 2 + 1) (.int .i64 v)).1
  rw [cellsS_set] at this
  refine ⟨by simpa using this, fun s hs => ?_⟩
  rcases List.mem_append.1 hs with hs | hs
  · exact hw s (List.mem_append_left _ hs)
  · simp only [List.mem_singleton] at hs; subst hs
    exact ⟨(hw c (by simp)).1, hv⟩
/-- The form of a row of the call's own that is not empty. -/
theorem OS.some_ {w : World} {base : Nat} {v : Value} {l : List DSpan} (h : OS w base v l) (hl : 0 < l.length) : ∃ g cap, v = .slice (some ⟨g, 0, none⟩) l.length cap ∧ base ≤ g ∧ g < w.heap.size ∧ l.length ≤ cap ∧ cap ≤ maxLen := by
  obtain ⟨h1, ⟨e, hz⟩ | ⟨g, cap, cur, e, hg, hh, hc, hm, _⟩⟩ := h.own
  · omega
  · exact ⟨g, cap, e, hg, heap_lt hh, hc, hm⟩
theorem OS.cell {w : World} {base g n cap : Nat} {l : List DSpan} (h : OS w base (.slice (some ⟨g, 0, none⟩) n cap) l) {i : Nat} (hi : i < l.length) : w.cell? ⟨g, i * 2, none⟩ = some (.int .i64 l[i].1) ∧ w.cell? ⟨g, i * 2 + 1, none⟩ = some (.int .i64 l[i].2.1) ∧ ∀ j, w.frozen? ⟨g, j, none⟩ = false := by
  have hn : n = l.length := by
    obtain ⟨a, cp, e, _⟩ := h.rs
    simp only [Value.slice.injEq] at e; exact e.2.1
  have ho := h.own
  subst hn
  refine ⟨?_, ?_, fun j => ho.frozenAt j⟩
  · rw [ho.cellAt (i * 2) (by omega)]; exact (cellsS_get hi).1
  · rw [ho.cellAt (i * 2 + 1) (by omega)]; exact (cellsS_get hi).2
theorem rs_lit (w : World) (H : Nat) (hH : w.heap.size = H) (a b : Int) (h1 : (Lit.int .i64 a).wf = true) (h2 : (Lit.int .i64 b).wf = true) : RS (w.alloc (.cells #[.int .i64 a, .int .i64 b] 129)) (some ⟨H, 0, none⟩) [(a, b, ())] := by
  subst hH
  have h := OS.lit w [(a, b, ())] (fun s hs => by simp only [List.mem_singleton] at hs; subst hs; exact ⟨h1, h2⟩) (by simp)
  obtain ⟨ad, cp, e, rs, _⟩ := h.rs
  simp only [Value.slice.injEq] at e
  rw [← e.1] at rs
  exact rs
set_option maxHeartbeats 2000000 in
theorem iCloneS (l : List DSpan) (b off n cap : Nat) (w : World) (hn : l.length = n) (h : RS w (some ⟨b, off, none⟩) l) (hm : n ≤ 100000) :
    Calls Try.prog 128 #[.slice (some ⟨b, off, none⟩) n cap] w fun e w' => ∃ u, e = .returned u ∧ OS w' w.heap.size u l ∧ Below w.heap.size w w' := by
  have HRS : Hid (∀ W, Below w.heap.size w W → RS W (some ⟨b, off, none⟩) l) := fun W hW => h.below hW
  have HN : Hid (l.length = n) := hn
  have q22 : ∀ (w : World) (a : Option Addr) (n c n' c' : Nat), (binOp .eql 55 (.slice a n c) (.slice none n' c')).run Try.prog w = .ok (.bool a.isNone) w := fun w a n c n' c' => Lib.run_eql_slice_nil w _ _ a n c n' c' Try.underlying55
  clear h hn
  go_enter Try.func128, Try.ntmps128
  go_wp2_with (at_builtin; refine app_plS _ rfl _ _ rfl w.heap.size (.slice (some ⟨w.heap.size, 0, none⟩) 0 0) [] (by rfl) (os_none w _ rfl) (some ⟨b, off, none⟩) l n cap HN.out (by rfl) (HRS.out _ (by go_grown)) (by intro e; cases e) (by simp; omega) (by simp) ?_; intro v' w1 ho1 hb1 hg1 hat1)
  go_ret
  refine ⟨_, rfl, by simpa using ho1, ?_⟩
  exact Below.trans (by go_grown) hb1
set_option maxHeartbeats 4000000 in
theorem iJoin (l : List DSpan) (b off n cap : Nat) (w : World) (hn : l.length = n) (h : RS w (some ⟨b, off, none⟩) l) (hm : n ≤ 100000) (hbl : b < w.heap.size) :
    Calls Try.prog 131 #[.slice (some ⟨b, off, none⟩) n cap] w fun e w' => ∃ u, e = .returned u ∧ OS w' w.heap.size u (joinT l) ∧ Below w.heap.size w w' := by
  have HC : Hid (∀ i (hi : i < l.length), w.cell? ⟨b, off + i * 2, none⟩ = some (.int .i64 l[i].1) ∧ w.cell? ⟨b, off + i * 2 + 1, none⟩ = some (.int .i64 l[i].2.1)) := by
    intro i hi
    rcases h.mem with e | ⟨b', off', e, hc⟩
    · rw [e] at hi; simp at hi
    · simp only [Option.some.injEq, Addr.mk.injEq, and_true] at e
      obtain ⟨rfl, rfl⟩ := e
      exact hc i hi
  have HWF : Hid (WfS l) := h.wf
  have HN : Hid (l.length = n) := hn
  clear h hn
  go_enter Try.func131, Try.ntmps131
  go_wp2_with fail
  go_loopw [3, 9] (fun jv i wr => ∃ (k : Nat) (J : List DSpan) (ja : Option Addr) (m jc : Nat), k ≤ n ∧ m ≤ k ∧ i = .int .i64 k ∧ jv = .slice ja m jc ∧ Hid (J.length = m) ∧ Hid (OS wr w.heap.size (.slice ja m jc) J) ∧ Hid (JR l k J) ∧ Hid (Below w.heap.size w wr)) (fun _ i _ => n - (intOf i).toNat)
  case atStart => exact ⟨0, [], none, 0, 0, Nat.zero_le _, Nat.le_refl _, rfl, rfl, rfl, OS.nil _ _, Or.inl ⟨rfl, rfl⟩, Below.refl _ _⟩
  case round =>
    obtain ⟨k, J, ja, m, jc, hk, hmk, rfl, rfl, HL, HO, HJ, HB⟩ := hrel
    by_cases hlt : k < n
    · have hkl : k < l.length := by have := HN.out; omega
      obtain ⟨q0, q1⟩ := HC.out k hkl
      replace q0 := (HB.out.cell (p := ⟨b, off + k * 2, none⟩) hbl).trans q0
      replace q1 := (HB.out.cell (p := ⟨b, off + k * 2 + 1, none⟩) hbl).trans q1
      have hbr : b < wr.heap.size := Nat.lt_of_lt_of_le hbl HB.out.size
      have HS : Hid ((Lit.int .i64 l[k].1).wf = true ∧ (Lit.int .i64 l[k].2.1).wf = true) := HWF.out _ (List.getElem_mem hkl)
      have hkn : (k : Int) < (n : Int) := by omega
      rcases HJ.out with ⟨e0, eJ⟩ | ⟨front, c, eJ, hj⟩
      · subst eJ
        have em : m = 0 := by have := HL.out; simpa using this.symm
        subst em
        subst e0
        have HJ1 : Hid (JR l 1 ([] ++ [l[0]])) := JR.first hkl
        generalize hx : l[0] = X at *
        obtain ⟨z0, z1, _⟩ := X
        simp only at *
        clear hx HJ
        simp only [Nat.zero_mul, Nat.add_zero] at q0 q1
        have HRL : Hid (∀ (W : World) (H : Nat), W.heap.size = H → RS (W.alloc (.cells #[.int .i64 z0, .int .i64 z1] 129)) (some ⟨H, 0, none⟩) [(z0, z1, ())]) := fun W H e => rs_lit W H e z0 z1 HS.out.1 HS.out.2
        go_wp2_with fail
        go_quiet (fail)
        go_wp2_with (at_builtin; refine app_plS _ rfl _ _ rfl w.heap.size (.slice ja 0 jc) [] (by rfl) (HO.out.below (by go_grown; exact below_drewN (by go_grown) _)) (some ⟨wr.heap.size + 1, 0, none⟩) [(z0, z1, ())] 1 1 rfl (by rfl) (HRL.out _ _ (by simp)) (by intro e; cases e) (by simp) (by have := HB.out.size; simp; omega) ?_; intro v' w1 ho1 hb1 hg1 hat1; (have HB1 : Hid (Below w.heap.size w w1) := HB.out.trans (Below.trans (Below.mono (B := wr.heap.size) (by go_grown; exact below_drewN (by go_grown) _) HB.out.size) hb1)); obtain ⟨a1, c1, e1, -⟩ := ho1.rs; subst e1; (have HO1 : Hid _ := ho1); clear ho1 hb1 hg1 hat1)
        go_roundw
        case rel => exact ⟨1, _, _, _, _, by omega, by simp, by go_num, rfl, (show ([] ++ [(z0, z1, ())] : List DSpan).length = 1 from rfl), HO1.out, HJ1, HB1⟩
        case measure => simp [intOf]; omega
      · subst eJ
        obtain ⟨g, gc, eg, hg1, hg2, -, -⟩ := HO.out.some_ (by simp)
        simp only [Value.slice.injEq] at eg
        obtain ⟨rfl, em, rfl⟩ := eg
        obtain ⟨p, hp⟩ : ∃ p, front.length = p := ⟨_, rfl⟩
        have HP : Hid (front.length = p) := hp
        have em' : m = p + 1 := by rw [em]; simp [hp]
        obtain ⟨j0, j1, jf⟩ := HO.out.cell (i := p) (by simp [hp])
        have ec : (front ++ [c])[p]'(by simp [hp]) = c := by subst hp; simp
        rw [ec] at j0 j1
        have jf1 := jf (p * 2 + 1)
        have HWC : Hid ((Lit.int .i64 c.2.1).wf = true) := (HO.out.wf c (by simp)).2
        have hml : (m : Int) - 1 = (p : Int) := by omega
        have hpm : (p : Int) < (m : Int) := by omega
        have hne : g ≠ b := by omega
        clear em jf ec j0
        by_cases hle : l[k].1 ≤ c.2.1
        · have HJ1 : Hid (JR l (k + 1) (front ++ [(c.1, max c.2.1 l[k].2.1, ())])) := JR.join hkl hj hle
          have HO2 : Hid (∀ W, Below wr.heap.size wr W → OS (W.setCell ⟨g, p * 2 + 1, none⟩ (.int .i64 (max c.2.1 l[k].2.1))) w.heap.size (.slice (some ⟨g, 0, none⟩) m jc) (front ++ [(c.1, max c.2.1 l[k].2.1, ())])) := fun W hW => by
            have h2 := HS.out.2
            have h3 := HWC.out
            have := (HO.out.below hW).last (v := max c.2.1 l[k].2.1) (by rcases Int.le_total c.2.1 l[k].2.1 with h | h <;> simp [h, h2, h3, Int.max_eq_left, Int.max_eq_right])
            rw [hp] at this
            exact this
          have HWS : Hid (∀ W, Below wr.heap.size wr W → Below w.heap.size w (W.setCell ⟨g, p * 2 + 1, none⟩ (.int .i64 (max c.2.1 l[k].2.1)))) := fun W hW => (HB.out.trans (hW.mono HB.out.size)).setCell hg1 _
          have HL2 : Hid ((front ++ [(c.1, max c.2.1 l[k].2.1, ())]).length = m) := by show _ = _; simp [hp, em']
          clear hp hj em'
          generalize hx : l[k] = X at *
          obtain ⟨z0, z1, _⟩ := X
          simp only at *
          clear hx
          generalize c.2.1 = c1 at *
          generalize front ++ [(c.1, max c1 z1, ())] = J2 at *
          go_wp2_with fail
          go_quiet (fail)
          go_wp2_with fail
          go_region
          go_wp2_with fail
          go_roundw
          case rel => exact ⟨k + 1, J2, _, _, _, by omega, by omega, by go_num, rfl, HL2, HO2.out _ (below_drewN (by go_grown) _), HJ1, HWS.out _ (below_drewN (by go_grown) _)⟩
          case measure => simp [intOf]; omega
        · have HJ1 : Hid (JR l (k + 1) ((front ++ [c]) ++ [l[k]])) := JR.more hkl hj hle
          have hle' : decide (l[k].1 ≤ c.2.1) = false := by simp; omega
          clear hp hj HJ em'
          generalize hx : l[k] = X at *
          obtain ⟨z0, z1, _⟩ := X
          simp only at *
          clear hx
          generalize c.2.1 = c1 at *
          generalize front ++ [c] = F1 at *
          have hml2 : F1.length ≤ 200000 := by have := HL.out; omega
          have HRL : Hid (∀ (W : World) (H : Nat), W.heap.size = H → RS (W.alloc (.cells #[.int .i64 z0, .int .i64 z1] 129)) (some ⟨H, 0, none⟩) [(z0, z1, ())]) := fun W H e => rs_lit W H e z0 z1 HS.out.1 HS.out.2
          have HL2 : Hid ((F1 ++ [(z0, z1, ())]).length = m + 1) := by show _ = _; have := HL.out; simp [this]
          go_wp2_with fail
          go_quiet (fail)
          go_wp2_with (at_builtin; refine app_plS _ rfl _ _ rfl w.heap.size (.slice (some ⟨g, 0, none⟩) m jc) F1 (by rfl) (HO.out.below (by go_grown; exact below_drewN (by go_grown) _)) (some ⟨wr.heap.size + 1, 0, none⟩) [(z0, z1, ())] 1 1 rfl (by rfl) (HRL.out _ _ (by simp)) (by intro e; cases e) (by omega) (by have := HB.out.size; simp; omega) ?_; intro v' w1 ho1 hb1 hg1 hat1; (have HB1 : Hid (Below w.heap.size w w1) := HB.out.trans (Below.trans (Below.mono (B := wr.heap.size) (by go_grown; exact below_drewN (by go_grown) _) HB.out.size) hb1)); obtain ⟨a1, c1, e1, -⟩ := ho1.rs; subst e1; (have HO1 : Hid _ := ho1); rw [HL2.out] at HO1 ⊢; clear ho1 hb1 hg1 hat1)
          go_roundw
          case rel => exact ⟨k + 1, F1 ++ [(z0, z1, ())], _, _, _, by omega, by omega, by go_num, rfl, HL2, HO1.out, HJ1, HB1⟩
          case measure => simp [intOf]; omega
    · obtain rfl : k = n := by omega
      go_wp2_with fail
      go_ret
      refine ⟨_, rfl, ?_, HB.out⟩
      have h := HJ.out
      rw [← HN.out] at h
      rw [← h.end_]
      exact HO.out
def layEqual_ren : Go.Shelf.Ren := ⟨fun | 8 => 87 | n => n, fun | 22 => 55 | 24 => 129 | 4 => 4 | 3 => 3 | 0 => 0 | n => n, fun | n => n⟩
theorem layEqual : Go.Proofs.SlLaysQ.n8 Try.prog layEqual_ren := {
  mixed := by kernel_rfl,
  f8 := ⟨Try.f87.name, by decide, Try.func87.trans (congrArg some (by kernel_rfl))⟩,
  t0 := Try.underlying0,
  a0 := Try.isAgg0,
  z0 := Try.sizeOf0,
  v0 := Try.zeroValue0,
  t3 := Try.underlying3,
  a3 := Try.isAgg3,
  z3 := Try.sizeOf3,
  v3 := Try.zeroValue3,
  t4 := Try.underlying4,
  a4 := Try.isAgg4,
  z4 := Try.sizeOf4,
  v4 := Try.zeroValue4,
  t22 := Try.underlying55,
  a22 := Try.isAgg55,
  z22 := Try.sizeOf55,
  v22 := Try.zeroValue55 }
def sameS (x y : DSpan) : Bool := x.1 == y.1 && x.2.1 == y.2.1
theorem neqSpan : NeqAt Try.prog 129 (fun x => .agg (encS x).toArray) sameS := by
  refine ⟨fun x y w => ?_, GuardAt.agg _ (by kernel_rfl)⟩
  have u3 := Try.underlying2
  have a3 := Try.isAgg2
  have z3 := Try.sizeOf2
  have hS : Try.prog.underlying 129 = some (.struct (Try.prog.fieldsOf 129)) := by kernel_rfl
  have hp : Try.prog.stoodInHeld 129 = false := by kernel_rfl
  simp only [encS, sameS]
  rw [run_neq_struct, show (10000 : Nat) = 9999 + 1 from rfl, run_equalIn_agg w 9999 129 _ _ hS hp]
  simp only [Program.fieldsOf, Try.underlying129]
  go_simp
  by_cases h1 : x.fst = y.fst <;> by_cases h2 : x.snd.fst = y.snd.fst <;> simp [h1, h2]
theorem allEq_same : ∀ (xs ys : List DSpan), Lib.allEq sameS xs ys = decide (xs = ys)
  | [], [] => by simp [Lib.allEq]
  | [], y :: ys => by simp [Lib.allEq]
  | x :: xs, [] => by simp [Lib.allEq]
  | x :: xs, y :: ys => by
    rw [Lib.allEq, allEq_same xs ys]
    obtain ⟨x0, x1, _⟩ := x
    obtain ⟨y0, y1, _⟩ := y
    simp only [sameS]
    by_cases h1 : x0 = y0 <;> by_cases h2 : x1 = y1 <;> simp [h1, h2]
theorem rs_cells {w : World} {b off : Nat} {l : List DSpan} (h : RS w (some ⟨b, off, none⟩) l) : ∀ j, j < l.length → ∀ i v, (encS l[j]!)[i]? = some v → w.cell? ⟨b, off + j * 2 + i, none⟩ = some v := by
  intro j hj i v hv
  rcases h.mem with e | ⟨b', off', e, hc⟩
  · rw [e] at hj; simp at hj
  · simp only [Option.some.injEq, Addr.mk.injEq, and_true] at e
    obtain ⟨rfl, rfl⟩ := e
    rw [getElem!_pos l j hj] at hv
    match i, hv with
    | 0, hv => simp only [encS, List.getElem?_cons_zero, Option.some.injEq] at hv; rw [← hv]; exact (hc j hj).1
    | 1, hv => simp only [encS, List.getElem?_cons_succ, List.getElem?_cons_zero, Option.some.injEq] at hv; rw [← hv]; exact (hc j hj).2
    | (i + 2), hv => simp [encS] at hv
theorem iEqualS (xs ys : List DSpan) (b1 o1 n c b2 o2 m d : Nat) (w : World) (hn : xs.length = n) (hm : ys.length = m) (h1 : RS w (some ⟨b1, o1, none⟩) xs) (h2 : RS w (some ⟨b2, o2, none⟩) ys) (hn2 : n ≤ 100000) (hm2 : m ≤ 100000) :
    Calls Try.prog 87 #[.slice (some ⟨b1, o1, none⟩) n c, .slice (some ⟨b2, o2, none⟩) m d] w fun e w' => e = .returned (.bool (decide (xs = ys))) ∧ Below w.heap.size w w' := by
  have hcon := AnyQ.slices_Equal layEqual 2 Try.isAgg129 Try.sizeOf129 encS (fun _ => rfl) sameS neqSpan b1 o1 n c b2 o2 m d xs ys w (by omega) (by omega) (by omega) (by omega) (rs_cells h1) (rs_cells h2)
  change Calls Try.prog 87 _ _ _ at hcon
  refine hcon.mono ?_
  rintro e w' ⟨rfl, q, rfl⟩
  rw [List.take_of_length_le (by omega), List.take_of_length_le (by omega), allEq_same]
  exact ⟨rfl, below_drewN (Below.refl _ _) _⟩
theorem iLeaves (a z : Int) (w : World) : Calls Try.prog 84 #[.int .i64 a, .int .i64 z] w fun e w' => e = .returned (.bool (!tkR a z)) ∧ w' = w := by
  by_cases h1 : a < 0
  · have hR : tkR a z = false := by unfold tkR inC; simp; omega
    rw [hR]
    go_enter Try.func84, Try.ntmps84
    go_wp2_with (go_at_call 76; refine (iInC _ _ _ _).mono ?_; rintro e w' ⟨rfl, hw⟩; subst w')
    go_ret
    exact ⟨rfl, rfl⟩
  · have h1' : decide (a < 0) = false := by simp; omega
    by_cases h2 : inC z 0 100 = true
    · have hz := inC_yes h2
      obtain ⟨hz0, hz1⟩ := hz
      have hR : (!tkR a z) = decide (1000000 - z < a) := by unfold tkR; rw [h2]; unfold inC; rw [Bool.eq_iff_iff]; simp; omega
      rw [hR]
      go_enter Try.func84, Try.ntmps84
      go_wp2_with (go_at_call 76; refine (iInC _ _ _ _).mono ?_; rintro e w' ⟨rfl, hw⟩; subst w')
      go_ret
      exact ⟨rfl, rfl⟩
    · replace h2 : inC z 0 100 = false := by simpa using h2
      have hR : tkR a z = false := by unfold tkR; rw [h2]; simp
      rw [hR]
      go_enter Try.func84, Try.ntmps84
      go_wp2_with (go_at_call 76; refine (iInC _ _ _ _).mono ?_; rintro e w' ⟨rfl, hw⟩; subst w')
      go_ret
      exact ⟨rfl, rfl⟩
set_option maxHeartbeats 2000000 in
theorem iAddSpan (l : List DSpan) (b off n cap : Nat) (a z : Int) (w : World) (hn : l.length = n) (h : RS w (some ⟨b, off, none⟩) l) (h0 : 0 < n) (hm : n ≤ 1000) (hsp : SpL l) (hR : tkR a z = true) :
    Calls Try.prog 86 #[.slice (some ⟨b, off, none⟩) n cap, .int .i64 a, .int .i64 z] w fun e w' => ∃ u, e = .returned u ∧ OS w' w.heap.size u (if 0 < z then insS a (a + z) l else l) ∧ Below w.heap.size w w' := by
  obtain ⟨p0, p1, p2, p3, p4⟩ := tkR_yes hR
  have HC : Hid (∀ W, Below w.heap.size w W → Calls Try.prog 128 #[.slice (some ⟨b, off, none⟩) n cap] W fun e w' => ∃ u, e = .returned u ∧ OS w' W.heap.size u l ∧ Below W.heap.size W w') := fun W hW => iCloneS l b off n cap W hn (h.below hW) (by omega)
  have HN : Hid (l.length = n) := hn
  have HSP : Hid (SpL l) := hsp
  clear h hn hsp hR
  obtain ⟨R, hRR⟩ : ∃ R, R = (if 0 < z then insS a (a + z) l else l) := ⟨_, rfl⟩
  rw [← hRR]
  have HRR : Hid (R = (if 0 < z then insS a (a + z) l else l)) := hRR
  clear hRR
  go_enter Try.func86, Try.ntmps86
  go_wp2_with fail
  refine (HC.out _ (Below.refl _ _)).mono ?_
  rintro e w1 ⟨u, rfl, ho1, hb1⟩
  obtain ⟨g1, c1, e1, hg1, hg1', -, -⟩ := ho1.some_ (by rw [HN.out]; exact h0)
  subst e1
  rw [HN.out] at ho1 ⊢
  have HO1 : Hid _ := ho1
  have HB1 : Hid _ := hb1
  clear ho1 hb1 HC
  by_cases hz : 0 < z
  · have HR2 : Hid (R = insS a (a + z) l) := by show _ = _; rw [HRR.out, if_pos hz]
    have HRL : Hid (∀ (W : World) (H : Nat), W.heap.size = H → RS (W.alloc (.cells #[.int .i64 a, .int .i64 (a + z)] 129)) (some ⟨H, 0, none⟩) [(a, a + z, ())]) := fun W H e => rs_lit W H e a (a + z) (WalkArith.wf_i64 (by omega)) (WalkArith.wf_i64 (by omega))
    have HLL : Hid ((l ++ [(a, a + z, ())]).length = n + 1) := by show _ = _; have := HN.out; simp [this]
    have hln : l.length + 1 ≤ 1000000 := by have := HN.out; omega
    have hwz : w.heap.size ≤ w1.heap.size := HB1.out.size
    go_wp2_with (at_builtin; refine app_plS _ rfl _ _ rfl w.heap.size (.slice (some ⟨g1, 0, none⟩) n c1) l (by rfl) (HO1.out.below (by go_grown)) (some ⟨w1.heap.size, 0, none⟩) [(a, a + z, ())] 1 1 rfl (by rfl) (HRL.out _ _ rfl) (by intro e; cases e) hln (by simp; omega) ?_; intro v' w2 ho2 hb2 hg2 hat2; (have HB2 : Hid (Below w.heap.size w w2) := HB1.out.trans (Below.trans (Below.mono (B := w1.heap.size) (by go_grown) hwz) hb2)); obtain ⟨g2, c2, e2, hq1, hq2, -, -⟩ := ho2.some_ (by rw [HLL.out]; omega); subst e2; rw [HLL.out] at ho2 ⊢; (have HO2 : Hid _ := ho2); clear ho2 hb2 hg2 hat2)
    refine (iSortSpans (l ++ [(a, a + z, ())]) g2 (n + 1) c2 w.heap.size _ HO2.out (by rw [HLL.out]; omega)).mono ?_
    rintro e w3 ⟨rfl, l', hp, hs, ho3, hb3, -⟩
    have HLP : Hid (l'.length = n + 1) := by show _ = _; rw [hp.length_eq]; exact HLL.out
    have HJT : Hid (joinT l' = insS a (a + z) l) := sort_ins (by omega) HSP.out hp hs
    have HB3 : Hid (Below w.heap.size w w3) := HB2.out.trans hb3
    have hgz : g2 < w3.heap.size := Nat.lt_of_lt_of_le hq2 hb3.size
    obtain ⟨a3, c3, e3, rs3, -⟩ := ho3.rs
    simp only [Value.slice.injEq] at e3
    obtain ⟨e3, -, -⟩ := e3
    subst e3
    have HRS3 : Hid _ := rs3
    clear hp hs ho3 hb3 rs3 HO2 HO1 HLL HRL
    go_wp2_with fail
    refine (iJoin l' g2 0 (n + 1) c2 _ HLP.out HRS3.out (by omega) hgz).mono ?_
    rintro e w4 ⟨u4, rfl, ho4, hb4⟩
    rw [HJT.out, ← HR2.out] at ho4
    have HO4 : Hid _ := ho4
    have HB4 : Hid (Below w.heap.size w w4) := HB3.out.trans (hb4.mono HB3.out.size)
    have hz3 := HB3.out.size
    clear ho4 hb4
    go_wp2_with fail
    go_ret
    exact ⟨_, rfl, HO4.out.mono hz3, HB4.out⟩
  · have HR2 : Hid (R = l) := by show _ = _; rw [HRR.out, if_neg hz]
    go_wp2_with fail
    refine (iSortSpans l g1 n c1 w.heap.size _ HO1.out (by rw [HN.out]; omega)).mono ?_
    rintro e w3 ⟨rfl, l', hp, hs, ho3, hb3, -⟩
    have hll : l' = l := sort_same HSP.out hp hs
    subst hll
    have HB3 : Hid (Below w.heap.size w w3) := HB1.out.trans hb3
    have hgz : g1 < w3.heap.size := Nat.lt_of_lt_of_le hg1' hb3.size
    obtain ⟨a3, c3, e3, rs3, -⟩ := ho3.rs
    simp only [Value.slice.injEq] at e3
    obtain ⟨e3, -, -⟩ := e3
    subst e3
    have HRS3 : Hid _ := rs3
    clear hp hs ho3 hb3 rs3 HO1
    go_wp2_with fail
    refine (iJoin l' g1 0 n c1 _ HN.out HRS3.out (by omega) hgz).mono ?_
    rintro e w4 ⟨u4, rfl, ho4, hb4⟩
    rw [joinT_sp HSP.out, ← HR2.out] at ho4
    have HO4 : Hid _ := ho4
    have HB4 : Hid (Below w.heap.size w w4) := HB3.out.trans (hb4.mono HB3.out.size)
    have hz3 := HB3.out.size
    clear ho4 hb4
    go_wp2_with fail
    go_ret
    exact ⟨_, rfl, HO4.out.mono hz3, HB4.out⟩
end Go.Proofs.Ytioehciabgdbaaa
