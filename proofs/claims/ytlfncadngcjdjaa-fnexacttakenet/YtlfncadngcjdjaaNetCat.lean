/- Two rows of segments put together by the library (slices.Concat): what is read of it is the one row and then the other; nothing that was in memory turns; the condition is that there are at most a few million. -/
import Derived.Test.YtlfncadngcjdjaaRows
import Derived.Test.YtlfncadngcjdjaaBase
import Derived.Test.YtlfncadngcjdjaaBytes
import Derived.Test.YtlfncadngcjdjaaMem
import Derived.Test.YtlfncadngcjdjaaMemOpen
import Derived.Test.YtlfncadngcjdjaaMemRow
import Derived.Test.YtlfncadngcjdjaaHBase
import Derived.Test.YtlfncadngcjdjaaMemApp
import Derived.Test.YtlfncadngcjdjaaBox
import Derived.Test.YtlfncadngcjdjaaSubBox
import Derived.Test.YtlfncadngcjdjaaAgg
import Derived.Test.YtlfncadngcjdjaaMSegs
import Derived.Test.YtlfncadngcjdjaaHSegs
import Derived.Test.YtlfncadngcjdjaaHBool
import Derived.Test.YtlfncadngcjdjaaNetSeg
import Derived.Test.YtlfncadngcjdjaaNetSpF
import Derived.Test.YtlfncadngcjdjaaNetBx
import Derived.Lib.AppendZeros
import Derived.Lib.AppendZerosOnto
import Derived.Deep.DeepCutAuto
import Derived.Deep.DeepMust
import Derived.Maps.AppendAt
namespace Go.Proofs.Ytlfncadngcjdjaa
open Go.RowKit
set_option linter.unusedVariables false
set_option maxRecDepth 8000

/-- All cells of a row that is read. -/
theorem rd_news {w : World} {B : Nat} {t : TypeId} {e : Sh} {l : List e.El} {a : Option Addr} {n cap : Nat} (h : (Sh.row t e).Rd w B l [.slice a n cap]) :
    n = l.length ∧ (a = none → n = 0 ∧ cap = 0) ∧ ∃ news : List Value, news.length = n * e.sz ∧ (∀ ad, a = some ad → ∀ j u, news[j]? = some u → w.cell? (ad.add j) = some u) ∧ (∀ u ∈ news, u.oneCell' = true) ∧ ∀ i (h : i < l.length), e.Rd w B l[i] (chunk news e.sz i) := by
  obtain ⟨a', cap', h1, h2, h3, b, off, h4, h5⟩ := h
  simp only [List.cons.injEq, Value.slice.injEq, and_true] at h1
  obtain ⟨rfl, rfl, rfl⟩ := h1
  refine ⟨rfl, fun ha => ⟨by have := h3 ha; omega, h3 ha⟩, ?_⟩
  have key : ∀ k, k ≤ l.length → ∃ news : List Value, news.length = k * e.sz ∧ (∀ j u, news[j]? = some u → w.cell? ⟨b, off + j, none⟩ = some u) ∧ (∀ u ∈ news, u.oneCell' = true) ∧ ∀ i (hi : i < k) (h : i < l.length), e.Rd w B l[i] (chunk news e.sz i) := by
    intro k
    induction k with
    | zero => intro _; exact ⟨[], by simp, by simp, by simp, fun i hi => by omega⟩
    | succ k ih =>
      intro hk
      obtain ⟨news, g1, g2, g3, g4⟩ := ih (by omega)
      obtain ⟨cs, c1, c2, c3⟩ := h5 k (by omega)
      refine ⟨news ++ cs, by rw [List.length_append, g1, c1, Nat.succ_mul], fun j u hj => ?_, fun u hu => ?_, fun i hi h => ?_⟩
      · by_cases hlt : j < news.length
        · rw [List.getElem?_append_left hlt] at hj; exact g2 j u hj
        · rw [List.getElem?_append_right (by omega)] at hj
          have hj2 : j - news.length < e.sz := by
            have := (List.getElem?_eq_some_iff.1 hj).1; omega
          have := c2 (j - news.length) hj2
          rw [hj, g1, show off + k * e.sz + (j - k * e.sz) = off + j by omega] at this
          exact this
      · rcases List.mem_append.1 hu with hu | hu
        · exact g3 u hu
        · exact rd_one _ _ _ c3 u hu
      · by_cases hik : i < k
        · rw [chunk_app_lt g1 hik]; exact g4 i hik h
        · obtain rfl : i = k := by omega
          rw [chunk_app_eq g1 c1]; exact c3
  obtain ⟨news, g1, g2, g3, g4⟩ := key l.length (Nat.le_refl _)
  refine ⟨news, g1, fun ad ha j u hj => ?_, g3, fun i hi => g4 i hi hi⟩
  have hl : l ≠ [] := by
    intro e; subst e
    simp at g1; subst g1; simp at hj
  obtain ⟨q1, -⟩ := h4 hl
  rw [q1] at ha
  simp only [Option.some.injEq] at ha
  subst ha
  rw [add_none]; exact g2 j u hj
/-- A row of the call's own is read as what its elements are read as. -/
theorem rd_own {w : World} {base B : Nat} {t : TypeId} {e : Sh} {l : List e.El} {v : Value} {xs : List Value} (ho : w.ownsRow base t e.sz v l.length xs) (hv : ∀ b, v.ownBlock = some b → b < B) (hel : ∀ i (h : i < l.length), e.Rd w B l[i] (chunk xs e.sz i)) : (Sh.row t e).Rd w B l [v] := by
  obtain ⟨hx, ⟨rfl, hz⟩ | ⟨g, cap, cur, rfl, hg, hh, hc, hm, hs, ht⟩⟩ := ho
  · have : l = [] := List.length_eq_zero_iff.1 hz
    subst this
    exact ⟨none, 0, rfl, ⟨Nat.le_refl _, by decide⟩, fun _ => rfl, 0, 0, fun h => absurd rfl h, fun i h => by simp at h⟩
  · refine ⟨_, cap, rfl, ⟨hc, hm⟩, fun h => by simp at h, g, 0, fun _ => ⟨rfl, hv g rfl⟩, fun i hi => ⟨chunk xs e.sz i, chunk_len hx hi, fun j hj => ?_, hel i hi⟩⟩
    rw [chunk_get hj, Nat.zero_add, cell_of_heap hh, ← ht, List.getElem?_take, if_pos, Array.getElem?_toList]
    have : (i + 1) * e.sz ≤ l.length * e.sz := Nat.mul_le_mul_right _ hi
    rw [Nat.succ_mul] at this
    omega
theorem ownsRow_below {w w' : World} {base : Nat} {t : TypeId} {size : Nat} {v : Value} {n : Nat} {xs : List Value} (h : w.ownsRow base t size v n xs) (hk : ∀ b, v.ownBlock = some b → w'.heap[b]? = w.heap[b]?) : w'.ownsRow base t size v n xs := by
  obtain ⟨hx, ⟨rfl, hz⟩ | ⟨g, cap, cur, rfl, hg, hh, r⟩⟩ := h
  · exact ⟨hx, Or.inl ⟨rfl, hz⟩⟩
  · exact ⟨hx, Or.inr ⟨g, cap, cur, rfl, hg, (hk g rfl).trans hh, r⟩⟩

theorem ownsRow_form {w : World} {base : Nat} {t : TypeId} {size : Nat} {v : Value} {n : Nat} {xs : List Value} (h : w.ownsRow base t size v n xs) : ∃ a c, v = .slice a n c := by
  rcases h.2 with ⟨rfl, q⟩ | ⟨g, cp, cu, rfl, -⟩
  · exact ⟨none, 0, by rw [q]⟩
  · exact ⟨_, _, rfl⟩
/-- A row appended to a row of the call's own, cell by cell. -/
theorem app_row {ops : Array Oper} {rest : List Oper} {o : Oper} {a : Act} {Q : Exit → Act → World → Prop} (w : World) (hgd : o.guard = none) (s x : Operand)
    (ho : o.op = .call { callee := .builtin .append, args := #[s, x], argTypes := #[24, 24] }) (base : Nat) (v : Value) (n : Nat) (xs : List Value) (hs : a.eval s = v) (hown : w.ownsRow base 31 12 v n xs)
    (ad : Option Addr) (m c : Nat) (news : List Value) (hx : a.eval x = .slice ad m c) (hnil : ad = none → m = 0 ∧ c = 0) (hl : news.length = m * 12) (hnews : ∀ q, ad = some q → ∀ j u, news[j]? = some u → w.cell? (q.add j) = some u) (h1 : ∀ u ∈ news, u.oneCell' = true)
    (hn : n + m ≤ 8388608) (hb : base ≤ w.heap.size)
    (h : ∀ va vc w', w'.ownsRow base 31 12 (.slice va (n + m) vc) (n + m) (xs ++ news) → Below base w w' → w.grownBy w' v.ownBlock → wpList Try.prog ops Q rest (a.put o.dst (.slice va (n + m) vc)) w') :
    wpList Try.prog ops Q (o :: rest) a w := by
  obtain ⟨i0, hi, hz0, hz1, hz2⟩ := info_parts info_SZ
  cases ad with
  | none =>
    obtain ⟨rfl, rfl⟩ := hnil rfl
    have e : news = [] := List.length_eq_zero_iff.1 (by simpa using hl)
    subst e
    refine wpList_plain hgd fun K hK => ?_
    have hrun := run_append_owned_none (P := Try.prog) w base 24 o.type 31 i0 12 Try.underlying24 hi v n _ hown
    unfold Oper.wp execOp
    simp only [ho, resolve, invoke, builtin, Sem.run_bind, Sem.run_pure, Result.andThen_ok, List.map_toArray, List.map_cons, List.map_nil, hs, hx, hrun]
    obtain ⟨va, vc, e⟩ := ownsRow_form hown
    subst e
    exact hK _ _ (h va vc w (by rw [List.append_nil]; exact hown) (Below.refl _ _) (World.grownBy.refl _ _))
  | some ad =>
    refine wpList_append_own_at _ hgd s x 24 ho base 31 i0 _ 12 96 Try.underlying24 hi hz0 hz1 hz2 rfl (by decide) v n xs hs hown ad m c news hx hl (hnews ad rfl) h1 (by unfold maxLen; omega) (by omega) hb ?_
    intro v' w' q1 q2 _ _
    obtain ⟨va, vc, e⟩ := ownsRow_form q1
    subst e
    exact h va vc w' q1 ((Below.refl _ _).grown q2 hb (fun k hk => (hown.lt k hk).1)) q2

set_option maxHeartbeats 2000000 in
theorem iGrow0 (m : Nat) (hm : m ≤ 8388608) (w : World) :
    Calls Try.prog 75 #[.slice none 0 0, .int .i64 m] w fun e w' => ∃ v, e = .returned v ∧ w'.ownsRow w.heap.size 31 12 v 0 [] ∧ (∃ a c, v = .slice a 0 c) ∧ Below w.heap.size w w' := by
  by_cases h0 : m = 0
  · subst h0
    go_enter Try.func75, Try.ntmps75
    go_wp2
    go_ret
    exact ⟨_, rfl, ⟨rfl, Or.inl ⟨rfl, rfl⟩⟩, ⟨_, _, rfl⟩, Below.refl _ _⟩
  · obtain ⟨i0, hi, hz0, hz1, hz2⟩ := info_parts info_SZ
    have h1 : ¬ ((m : Int) < 0) := by omega
    have h4 : (m : Int) > 0 := by omega
    obtain ⟨G, hG⟩ : ∃ G, G = grownCap w m 0 31 := ⟨_, rfl⟩
    have hGn : m ≤ G := by rw [hG]; exact grownCap_ge w _ _ _
    have hG63 : G ≤ 9223372036854775807 := by
      have := grownCap_le_maxLen w m 0 31 (by unfold maxLen; omega)
      rw [← hG] at this; unfold maxLen at this; omega
    have hold : (Builtin.firstCells i0.size 0 (.slice none 0 0)).run Try.prog w.drew = .ok ([] : List Value).toArray w.drew := run_firstCells_none w.drew i0.size 0 0 0
    have hrz : ∀ ty, (Builtin.append_ #[24, 3] ty #[.slice none 0 0, .int .i64 (m : Int)]).run Try.prog w =
        .ok (.slice (some ⟨w.heap.size, 0, none⟩) m G) (w.drew.alloc (.cells (([] : List Value).toArray ++ Builtin.zeroCells (Value.agg #[.int .i64 0, .int .i64 0, .bool false, .bool false, .bool false, .int .i64 0, .int .i64 0, .int .i64 0, .int .i64 0, .int .i64 0, .int .i64 0, .slice none 0 0]).cells m ++ Builtin.zeroCells (Value.agg #[.int .i64 0, .int .i64 0, .bool false, .bool false, .bool false, .int .i64 0, .int .i64 0, .int .i64 0, .int .i64 0, .int .i64 0, .int .i64 0, .slice none 0 0]).cells (G - m)) 31)) := fun ty => by
      have h := Lib.run_append_grow_zeros (P := Try.prog) w 24 3 ty 31 i0 _ .i64 .i64 Try.underlying24 Try.underlying3 hi hz0 none 0 0 [] hold m (by omega) (by rw [hz1]; decide) (by omega) (by omega) (by rw [hz2]; omega) (by rw [Nat.zero_add, hz2]; exact growslice_fits (by omega) (by omega))
      rw [Nat.zero_add, ← hG] at h
      exact h
    have hsz : (([] : List Value).toArray ++ Builtin.zeroCells (Value.agg #[.int .i64 0, .int .i64 0, .bool false, .bool false, .bool false, .int .i64 0, .int .i64 0, .int .i64 0, .int .i64 0, .int .i64 0, .int .i64 0, .slice none 0 0]).cells m ++ Builtin.zeroCells (Value.agg #[.int .i64 0, .int .i64 0, .bool false, .bool false, .bool false, .int .i64 0, .int .i64 0, .int .i64 0, .int .i64 0, .int .i64 0, .int .i64 0, .slice none 0 0]).cells (G - m)).size = G * 12 := by
      simp only [Array.size_append, List.size_toArray, size_zeroCells, List.length_nil]
      show 0 + m * 12 + (G - m) * 12 = G * 12
      omega
    generalize ([] : List Value).toArray ++ Builtin.zeroCells (Value.agg #[.int .i64 0, .int .i64 0, .bool false, .bool false, .bool false, .int .i64 0, .int .i64 0, .int .i64 0, .int .i64 0, .int .i64 0, .int .i64 0, .slice none 0 0]).cells m ++ Builtin.zeroCells (Value.agg #[.int .i64 0, .int .i64 0, .bool false, .bool false, .bool false, .int .i64 0, .int .i64 0, .int .i64 0, .int .i64 0, .int .i64 0, .int .i64 0, .slice none 0 0]).cells (G - m) = ZZ at hrz hsz
    have HO : Hid ((w.drew.alloc (.cells ZZ 31)).ownsRow w.heap.size 31 12 (.slice (some ⟨w.heap.size, 0, none⟩) 0 G) 0 []) := World.ownsRow_made w.drew ZZ G (Nat.le_refl _) (by unfold maxLen; omega) hsz
    have HB : Hid (Below w.heap.size w (w.drew.alloc (.cells ZZ 31))) := ((Below.refl _ _).drew).alloc (Nat.le_refl _) _
    clear hold hG hsz hi hz0 hz1 hz2
    go_enter Try.func75, Try.ntmps75
    go_wp2_with (at_builtin; refine Lib.wpList_append_run _ rfl _ _ _ _ rfl _ _ rfl rfl _ _ (hrz _) ?_)
    go_ret
    exact ⟨_, rfl, HO.out, ⟨_, _, rfl⟩, HB.out⟩

set_option maxHeartbeats 4000000 in
theorem iConcat (l1 l2 : List DSegm) (v1 v2 : Value) (s : Nat) (w : World) (B : Nat) (h1 : shSegms.Rd w B l1 [v1]) (h2 : shSegms.Rd w B l2 [v2]) (hB : B ≤ w.heap.size) (ks : ∀ o, w.cell? ⟨s, o, none⟩ = (#[v1, v2] : Array Value)[o]?) (hs : s < w.heap.size) (hl1 : l1.length ≤ 1048576) (hl2 : l2.length ≤ 1048576) :
    Calls Try.prog 46 #[.slice (some ⟨s, 0, none⟩) 2 2] w fun e w' => ∃ v, e = .returned v ∧ shSegms.Rd w' w'.heap.size (l1 ++ l2) [v] ∧ Below w.heap.size w w' := by
  obtain ⟨a1, c1, ev⟩ := row_form h1
  simp only [List.cons.injEq, and_true] at ev
  subst ev
  obtain ⟨a2, c2, ev⟩ := row_form h2
  simp only [List.cons.injEq, and_true] at ev
  subst ev
  obtain ⟨-, nil1, news1, g1, f1, o1, e1⟩ := rd_news h1
  obtain ⟨-, nil2, news2, g2, f2, o2, e2⟩ := rd_news h2
  have HE : Hid (∀ (W : World) (v : Value), Below w.heap.size w W → W.ownsRow w.heap.size 31 12 v (l1.length + l2.length) ([] ++ news1 ++ news2) → shSegms.Rd W W.heap.size (l1 ++ l2) [v]) := fun W v hW ho => by
    refine rd_own (e := shSegm) (xs := news1 ++ news2) (base := w.heap.size) (by rw [List.length_append]; exact ho) (fun b e => (ho.lt b e).2) fun i hi => ?_
    have g1' : news1.length = l1.length * shSegm.sz := g1
    by_cases hlt : i < l1.length
    · rw [List.getElem_append_left hlt, chunk_app_lt g1' hlt]
      exact Sh.Rd.mono (Nat.le_trans hB hW.size) _ _ _ (Sh.Rd.below (e1 i hlt) hB hW)
    · have hlt2 : i - l1.length < l2.length := by rw [List.length_append] at hi; omega
      rw [List.getElem_append_right (by omega)]
      have hc : chunk (news1 ++ news2) shSegm.sz i = chunk news2 shSegm.sz (i - l1.length) := by
        unfold chunk
        have hge : news1.length ≤ i * shSegm.sz := by rw [g1']; exact Nat.mul_le_mul_right _ (by omega)
        rw [List.drop_append, List.drop_of_length_le hge, List.nil_append, g1', ← Nat.sub_mul]
      rw [hc]
      exact Sh.Rd.mono (Nat.le_trans hB hW.size) _ _ _ (Sh.Rd.below (e2 _ hlt2) hB hW)
  have HF1 : Hid (∀ W, Below w.heap.size w W → ∀ q, a1 = some q → ∀ j u, news1[j]? = some u → W.cell? (q.add j) = some u) := fun W hW q hq j u hu => by
    have hc := f1 q hq j u hu
    exact (hW.cell (p := q.add j) (cell_lt hc)).trans hc
  have HF2 : Hid (∀ W, Below w.heap.size w W → ∀ q, a2 = some q → ∀ j u, news2[j]? = some u → W.cell? (q.add j) = some u) := fun W hW q hq j u hu => by
    have hc := f2 q hq j u hu
    exact (hW.cell (p := q.add j) (cell_lt hc)).trans hc
  have HG1 : Hid (news1.length = l1.length * 12) := g1
  have HG2 : Hid (news2.length = l2.length * 12) := g2
  have HN1 : Hid _ := nil1
  have HN2 : Hid _ := nil2
  have HO1 : Hid _ := o1
  have HO2 : Hid _ := o2
  clear h1 h2 g1 g2 f1 f2 o1 o2 e1 e2 nil1 nil2
  generalize l1.length = n1 at *
  generalize l2.length = n2 at *
  have hs1 : 0 ≤ (n1 : Int) + (n2 : Int) := by omega
  go_enter Try.func46, Try.ntmps46
  go_upto_region 3 with fail
  go_loop [3, 11] (fun q i => ∃ k : Nat, k ≤ 2 ∧ i = .int .i64 k ∧ q = .int .i64 (if k = 0 then 0 else if k = 1 then (n1 : Int) else (n1 : Int) + n2)) (fun _ i => 2 - (intOf i).toNat)
  case atStart => exact ⟨0, by omega, rfl, rfl⟩
  case round =>
    obtain ⟨k, hk, rfl, rfl⟩ := hrel
    rcases (show k = 0 ∨ k = 1 ∨ k = 2 by omega) with rfl | rfl | rfl
    · simp only [if_true]
      go_wp2_with fail
      go_round
      case rel => exact ⟨1, by omega, by go_num, by go_num⟩
      case measure => simp [intOf]
    · simp only [show ¬ ((1 : Nat) = 0) by omega, if_true, if_false]
      go_wp2_with fail
      go_round
      case rel => exact ⟨2, by omega, by go_num, by go_num⟩
      case measure => simp [intOf]
    · simp only [show ¬ ((2 : Nat) = 0) by omega, show ¬ ((2 : Nat) = 1) by omega, if_false]
      go_wp2_with fail
      have hcast : (n1 : Int) + (n2 : Int) = ((n1 + n2 : Nat) : Int) := by omega
      rw [hcast]
      clear hcast
      refine (iGrow0 (n1 + n2) (by omega) _).mono ?_
      rintro e w1 ⟨v, rfl, ho, ⟨va, vc, rfl⟩, hb⟩
      replace ks := bx_below ks hs hb
      have zs : s < w1.heap.size := Nat.lt_of_lt_of_le hs hb.size
      have HB : Hid (Below w.heap.size w w1) := hb
      have HO : Hid (w1.ownsRow w.heap.size 31 12 (.slice va 0 vc) 0 []) := ho
      clear hb ho
      go_upto_region 11 with fail
      go_loopw [6, 27] (fun q i wr => ∃ (k m : Nat) (xs : List Value) (va : Option Addr) (vc : Nat), k ≤ 2 ∧ i = .int .i64 k ∧ q = .slice va m vc ∧ (∀ o, wr.cell? ⟨s, o, none⟩ = (#[.slice a1 n1 c1, .slice a2 n2 c2] : Array Value)[o]?) ∧ Hid (wr.ownsRow w.heap.size 31 12 (.slice va m vc) m xs) ∧ Hid (Below w.heap.size w wr) ∧ Hid (k = 0 → m = 0 ∧ xs = []) ∧ Hid (k = 1 → m = n1 ∧ xs = [] ++ news1) ∧ Hid (k = 2 → m = n1 + n2 ∧ xs = [] ++ news1 ++ news2)) (fun _ i _ => 2 - (intOf i).toNat)
      case atStart => exact ⟨0, 0, [], va, vc, by omega, rfl, rfl, ks, HO, HB, (fun _ => ⟨rfl, rfl⟩ : (0 : Nat) = 0 → _), (fun h => by omega : (0 : Nat) = 1 → _), (fun h => by omega : (0 : Nat) = 2 → _)⟩
      case round =>
        clear ks HO HB
        obtain ⟨k, m, xs, va, vc, hk, rfl, rfl, ks, HO, HB, E0, E1, E2⟩ := hrel
        rcases (show k = 0 ∨ k = 1 ∨ k = 2 by omega) with rfl | rfl | rfl
        · obtain ⟨rfl, rfl⟩ := E0.out rfl
          clear E0 E1 E2
          go_wp2_with (at_builtin; refine app_row _ rfl _ _ rfl w.heap.size _ 0 [] (by rfl) HO.out a1 n1 c1 news1 (by rfl) HN1.out HG1.out (HF1.out _ HB.out) HO1.out (by omega) HB.out.size ?_; intro a3 c3 w3 ho3 hb3 hg3)
          have HB3 : Hid (Below w.heap.size w w3) := HB.out.trans hb3
          have ks3 : ∀ o, w3.cell? ⟨s, o, none⟩ = (#[.slice a1 n1 c1, .slice a2 n2 c2] : Array Value)[o]? := bxC ks hb3 hs
          go_roundw
          case rel => exact ⟨1, n1, _, a3, c3, by omega, by go_num, rfl, ks3, by rw [Nat.zero_add] at ho3; exact ho3, HB3, (fun h => by omega : (1 : Nat) = 0 → _), (fun _ => ⟨rfl, rfl⟩ : (1 : Nat) = 1 → _), (fun h => by omega : (1 : Nat) = 2 → _)⟩
          case measure => simp [intOf]
        · obtain ⟨em, ex⟩ := E1.out rfl
          replace em := em.symm
          subst em
          replace HO : Hid (wr.ownsRow w.heap.size 31 12 (.slice va n1 vc) n1 ([] ++ news1)) := by have h := HO.out; rw [ex] at h; exact h
          clear E0 E1 E2 ex
          go_wp2_with (at_builtin; refine app_row _ rfl _ _ rfl w.heap.size _ n1 ([] ++ news1) (by rfl) HO.out a2 n2 c2 news2 (by rfl) HN2.out HG2.out (HF2.out _ HB.out) HO2.out (by omega) HB.out.size ?_; intro a3 c3 w3 ho3 hb3 hg3)
          have HB3 : Hid (Below w.heap.size w w3) := HB.out.trans hb3
          have ks3 : ∀ o, w3.cell? ⟨s, o, none⟩ = (#[.slice a1 n1 c1, .slice a2 n2 c2] : Array Value)[o]? := bxC ks hb3 hs
          go_roundw
          case rel => exact ⟨2, _, _, a3, c3, by omega, by go_num, rfl, ks3, ho3, HB3, (fun h => by omega : (2 : Nat) = 0 → _), (fun h => by omega : (2 : Nat) = 1 → _), (fun _ => ⟨rfl, rfl⟩ : (2 : Nat) = 2 → _)⟩
          case measure => simp [intOf]
        · obtain ⟨em, ex⟩ := E2.out rfl
          subst em
          replace HO : Hid (wr.ownsRow w.heap.size 31 12 (.slice va (n1 + n2) vc) (n1 + n2) ([] ++ news1 ++ news2)) := by have h := HO.out; rw [ex] at h; exact h
          clear E0 E1 E2 ex
          go_wp2_with fail
          go_ret
          exact ⟨_, rfl, HE.out _ _ HB.out HO.out, HB.out⟩
end Go.Proofs.Ytlfncadngcjdjaa
