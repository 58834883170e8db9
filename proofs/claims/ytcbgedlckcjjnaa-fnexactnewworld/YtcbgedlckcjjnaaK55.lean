/- Bytes copied, and what StripSegment answers, of the program and of its model: the segment without its option, its load a new one; nothing that was in memory turns; no condition but that the load has at most a million bytes. -/
import Derived.Test.YtcbgedlckcjjnaaRows
import Derived.Deep.DeepMust
import Derived.Deep.DeepCutAuto
import Derived.Deep.RegionHeld3
import Derived.Deep.MidRow
import Derived.Test.YtcbgedlckcjjnaaK01
import Derived.Test.YtcbgedlckcjjnaaK02
import Derived.Test.YtcbgedlckcjjnaaK03
import Derived.Test.YtcbgedlckcjjnaaK10
import Derived.Test.YtcbgedlckcjjnaaK17
import Derived.Test.YtcbgedlckcjjnaaK20
import Derived.Test.YtcbgedlckcjjnaaK42
import Derived.Test.YtcbgedlckcjjnaaK43
namespace Go.Proofs.Ytcbgedlckcjjnaa
open Go.RowKit
set_option linter.unusedVariables false

theorem OB.empty (w : World) (base : Nat) : OB w base (.slice none 0 0) [] := ⟨⟨rfl, Or.inl ⟨rfl, rfl⟩⟩, by simp⟩
theorem OB.made (w : World) (base : Nat) (hb : base ≤ w.heap.size) : OB (w.alloc (.cells #[] 5)) base (.slice (some ⟨w.heap.size, 0, none⟩) 0 0) [] := ⟨World.ownsRow_made w #[] 0 hb (by decide) rfl, by simp⟩

theorem iCopyBytes (a : Option Addr) (n cap : Nat) (l : List Int) (w : World) (hl : l.length = n) (hr : RB w a l) (hnil : a = none → cap = 0) (hn : n ≤ 1048576) :
    Calls Try.prog 38 #[.slice a n cap] w fun e w' => ∃ v, e = .returned v ∧ OB w' w.heap.size v l ∧ Below w.heap.size w w' := by
  go_enter Try.func38, Try.ntmps38
  go_wp2_with (at_builtin; refine app_u8 w rfl _ _ rfl w.heap.size (.slice none 0 0) [] (by rfl) (OB.empty _ _) a l n cap hl (by rfl) hr hnil (by simp; omega) (Nat.le_refl _) ?_; intro v' w5 ho5 hb5 hg5)
  go_ret
  exact ⟨_, rfl, ho5, hb5⟩

def Seg.strip (s : Seg) : Seg := { s with opt := 0, a := 0, b := 0 }



end Go.Proofs.Ytcbgedlckcjjnaa

/- What the law's own helpers (measure, copy, compare, mark, hold) make of rows of bools; no condition but that there are at most a million parts. -/
namespace Go.Proofs.Ytcbgedlckcjjnaa
open Go.RowKit
set_option linter.unusedVariables false
set_option maxRecDepth 8000

abbrev bls (t : TypeId) : Sh := .row t .bool
theorem rd_bls {w : World} {B : Nat} {t : TypeId} {l : List Bool} {v : Value} (h : (bls t).Rd w B l [v]) : ∃ a cap, v = .slice a l.length cap ∧ l.length ≤ 9223372036854775807 ∧ ∃ b off, (l ≠ [] → a = some ⟨b, off, none⟩ ∧ b < B) ∧ ∀ i (h : i < l.length), w.cell? ⟨b, off + i, none⟩ = some (.bool l[i]) := by
  have hm : l.length ≤ 9223372036854775807 := row_max h
  obtain ⟨a, cap, h1, h2, h3, b, off, h4, h5⟩ := h
  simp only [List.cons.injEq, and_true] at h1
  refine ⟨a, cap, h1, hm, b, off, h4, fun i hi => ?_⟩
  obtain ⟨cs', g1, g2, g3⟩ := h5 i hi
  have g3' : cs' = [.bool l[i]] := g3
  have := g2 0 (by decide)
  rw [g3'] at this
  simpa [Sh.sz] using this
theorem bls_t {w : World} {B : Nat} {t t' : TypeId} {l : List Bool} {cs : List Value} (h : (bls t).Rd w B l cs) : (bls t').Rd w B l cs := h



set_option maxHeartbeats 1000000 in
theorem lEqBools (t t' : TypeId) (l : List Bool) (v u : Value) (w : World) (B : Nat) (hr : (bls t).Rd w B l [v]) (hr' : (bls t').Rd w B l [u]) (hB : B ≤ w.heap.size) (hT : l.length ≤ 1048576) :
    Calls Try.prog 29 #[v, u] w fun e w' => e = .returned (.bool true) ∧ Below w.heap.size w w' := by
  obtain ⟨a, cap, rfl, hm, b, off, hne, hc⟩ := rd_bls hr
  obtain ⟨a', cap', rfl, -, b', off', hne', hc'⟩ := rd_bls hr'
  clear hr hr'
  have HC : Hid (∀ i (h : i < l.length), a = some ⟨b, off, none⟩ ∧ a' = some ⟨b', off', none⟩ ∧ w.cell? ⟨b, off + i, none⟩ = some (.bool l[i]) ∧ w.cell? ⟨b', off' + i, none⟩ = some (.bool l[i])) := fun i h => by
    have q := hne (by intro e; subst e; simp at h)
    have q' := hne' (by intro e; subst e; simp at h)
    exact ⟨q.1, q'.1, hc i h, hc' i h⟩
  obtain ⟨n, hn⟩ : ∃ n, l.length = n := ⟨_, rfl⟩
  rw [hn] at hm ⊢
  have HN : Hid (l.length = n) := hn
  clear hn hc hne hc' hne' hT
  go_enter Try.func29, Try.ntmps29
  go_wp2
  go_loopw [5] (fun i wr => ∃ (k m : Nat), k ≤ n ∧ i = .int .i64 k ∧ wr = w.drewN m) (fun i _ => n - (intOf i).toNat)
  case atStart => exact ⟨0, 0, Nat.zero_le _, rfl, rfl⟩
  case round =>
    obtain ⟨k, m, hk, rfl, rfl⟩ := hrel
    by_cases hlt : k < n
    · have hkl : k < l.length := by have := HN.out; omega
      obtain ⟨ha, ha', c1, c2⟩ := HC.out k hkl
      subst ha ha'
      generalize l[k] = x at *
      go_wp2
      go_quiet (fail)
      go_wp2
      go_roundw
      case rel => exact ⟨k + 1, _, by omega, by go_num, rfl⟩
      case measure => simp [intOf]; omega
    · obtain rfl : k = n := by omega
      go_wp2
      go_ret
      exact ⟨rfl, below_drewN (Below.refl _ _) m⟩

/-- The marks from c on. -/
def markB (c : Int) (n : Nat) : List Bool := (List.range n).map fun (i : Nat) => (c + (i : Int)) % 3 == 0
theorem markB_length (c : Int) (n : Nat) : (markB c n).length = n := by simp [markB]
theorem markB_get (c : Int) (n i : Nat) (h : i < (markB c n).length) : (markB c n)[i] = ((c + i) % 3 == 0) := by simp [markB]
theorem markB_succ (c : Int) (n : Nat) : markB c (n + 1) = markB c n ++ [(c + n) % 3 == 0] := by simp [markB, List.range_succ]
theorem set_markB {l : List Bool} {c : Int} {k : Nat} (hk : k < l.length) : (markB c k ++ l.drop k).set k ((c + k) % 3 == 0) = markB c (k + 1) ++ l.drop (k + 1) := by
  have h1 := markB_length c k
  rw [List.set_append_right _ _ (by omega), h1, Nat.sub_self, List.drop_eq_getElem_cons hk, List.set_cons_zero, markB_succ, List.append_assoc]
  rfl

set_option maxHeartbeats 1000000 in
theorem lHeldBools (t : TypeId) (n : Nat) (v : Value) (c : Int) (w : World) (B : Nat) (hr : (bls t).Rd w B (markB c n) [v]) (hn : n ≤ 1073741824) (hc0 : 0 ≤ c) (hc1 : c ≤ 1099511627776) :
    Calls Try.prog 37 #[v, .int .i64 c] w fun e w' => e = .returned (.int .i64 (c + n)) ∧ w' = w := by
  obtain ⟨a, cap, rfl, hm, b, off, hne, hc⟩ := rd_bls hr
  rw [markB_length]
  have HC : Hid (∀ i, i < n → a = some ⟨b, off, none⟩ ∧ w.cell? ⟨b, off + i, none⟩ = some (.bool ((c + i) % 3 == 0))) := fun i h => by
    have hl := markB_length c n
    have q := hne (by intro e; rw [e] at hl; simp at hl; omega)
    have q2 := hc i (by omega)
    rw [markB_get] at q2
    exact ⟨q.1, q2⟩
  clear hr hm hne hc
  go_enter Try.func37, Try.ntmps37
  go_wp2
  go_loop [1, 5] (fun t i => ∃ k : Nat, k ≤ n ∧ i = .int .i64 k ∧ t = .int .i64 (c + k)) (fun _ i => n - (intOf i).toNat)
  case atStart => exact ⟨0, Nat.zero_le _, rfl, by go_num⟩
  case round =>
    obtain ⟨k, hk, rfl, rfl⟩ := hrel
    by_cases hlt : k < n
    · obtain ⟨ha, hck⟩ := HC.out k hlt
      subst ha
      have hk0 : 0 ≤ c + (k : Int) := by omega
      have ht : (c + (k : Int)).tmod 3 = (c + (k : Int)) % 3 := Int.tmod_eq_emod_of_nonneg hk0
      go_wp2
      go_round
      case rel => exact ⟨k + 1, by omega, by go_num, by go_num⟩
      case measure => simp [intOf]; omega
    · obtain rfl : k = n := by omega
      go_wp2
      go_ret
      exact ⟨rfl, rfl⟩

set_option maxHeartbeats 1000000 in
theorem lMarkBools (t : TypeId) (l : List Bool) (v : Value) (c : Int) (w : World) (bs : List Nat) (ho : (bls t).Ow w bs l [v]) (hT : l.length ≤ 1073741824) (hc0 : 0 ≤ c) (hc1 : c ≤ 1099511627776) :
    Calls Try.prog 33 #[v, .int .i64 c] w fun e w' => e = .returned (.int .i64 (c + (l.length : Nat))) ∧ (bls t).Ow w' bs (markB c l.length) [v] ∧ Touch bs w w' := by
  rcases ho with ⟨e1, e2, e3⟩ | ⟨g, cap, cur, F, e1, e2, h3, h4, h5, h6, h7, h8⟩
  · simp only [List.cons.injEq, and_true] at e2
    subst e1 e2 e3
    have HO : Hid ((bls t).Ow w [] (markB c 0) [.slice none 0 0]) := Or.inl ⟨rfl, rfl, rfl⟩
    go_enter Try.func33, Try.ntmps33
    go_wp2
    refine wp_loop_rounds 1 ?_
    rw [rounds_succ]
    go_wp2
    go_ret
    exact ⟨by simp, HO.out, Touch.refl _ _⟩
  · simp only [List.cons.injEq, and_true] at e1
    subst e1 e2
    have hF : ∀ i, i < l.length → F.getD i [] = [] := fun i hi => (h8 i hi).1
    have hFl : F.flatten = [] := by
      rw [List.flatten_eq_nil_iff]
      intro x hx
      obtain ⟨i, hi, rfl⟩ := List.getElem_of_mem hx
      have := hF i (by omega)
      rwa [List.getD_eq_getElem?_getD, List.getElem?_eq_getElem hi] at this
    have hcl : ∀ i (h : i < l.length), cur[i]? = some (.bool l[i]) := fun i h => by
      obtain ⟨-, q⟩ := h8 i h
      have hq : ((cur.toList.drop (i * 1)).take 1) = [.bool l[i]] := q
      have q2 := congrArg (·[0]?) hq
      simpa [List.getElem?_take, List.getElem?_drop] using q2
    obtain ⟨n, hn⟩ : ∃ n, l.length = n := ⟨_, rfl⟩
    have hn1 : n ≤ 1073741824 := by omega
    have hsz : n ≤ cur.size := by rw [h6, ← hn]; show l.length ≤ cap * 1; omega
    have HEND : Hid (∀ (w' : World) (cur' : Array Value), w'.heap[g]? = some (.cells cur' t (0, 0)) → cur'.size = cur.size → (∀ i, i < n → cur'[i]? = some (.bool ((c + i) % 3 == 0))) → (bls t).Ow w' (g :: F.flatten) (markB c n) [.slice (some ⟨g, 0, none⟩) n cap]) := fun w' cur' q1 q2 q3 => by
      refine Or.inr ⟨g, cap, cur', F, ?_, rfl, q1, ?_, h5, by rw [q2]; exact h6, by rw [markB_length, ← hn]; exact h7, fun i hi => ?_⟩
      · rw [markB_length]
      · rw [markB_length, ← hn]; exact h4
      · rw [markB_length] at hi
        refine ⟨hF i (by omega), ?_⟩
        rw [markB_get]
        show ((cur'.toList.drop (i * 1)).take 1) = [.bool ((c + i) % 3 == 0)]
        have := q3 i hi
        rw [Nat.mul_one]
        apply List.ext_getElem?
        intro j
        cases j with
        | zero => simpa [List.getElem?_take, List.getElem?_drop] using this
        | succ j => simp [List.getElem?_take]
    rw [hn]
    clear h8 hF hFl hcl h4 h5 h6 h7 hT hn
    go_enter Try.func33, Try.ntmps33
    go_wp2
    go_loopw [1, 5] (fun q i wr => ∃ (k : Nat) (cur' : Array Value), k ≤ n ∧ i = .int .i64 k ∧ q = .int .i64 (c + k) ∧ wr.heap[g]? = some (.cells cur' t (0, 0)) ∧ cur'.size = cur.size ∧ Hid (∀ i, i < k → cur'[i]? = some (.bool ((c + i) % 3 == 0))) ∧ Touch (g :: F.flatten) w wr) (fun _ i _ => n - (intOf i).toNat)
    case atStart => exact ⟨0, cur, Nat.zero_le _, rfl, by go_num, h3, rfl, (fun i h => by omega), Touch.refl _ _⟩
    case round =>
      obtain ⟨k, cur', hk, rfl, rfl, hg, hs, hel, htc⟩ := hrel
      by_cases hlt : k < n
      · have hold : wr.cell? ⟨g, k, none⟩ = some cur'[k] := by rw [cell_of_heap hg, Array.getElem?_eq_getElem]
        have hfz : wr.frozen? ⟨g, k, none⟩ = false := by simp [World.frozen?, hg]
        have HR : Hid ((wr.setCell ⟨g, k, none⟩ (.bool ((c + k) % 3 == 0))).heap[g]? = some (.cells (cur'.setIfInBounds k (.bool ((c + k) % 3 == 0))) t (0, 0)) ∧ (cur'.setIfInBounds k (.bool ((c + k) % 3 == 0))).size = cur.size ∧ (∀ i, i < k + 1 → (cur'.setIfInBounds k (.bool ((c + k) % 3 == 0)))[i]? = some (.bool ((c + i) % 3 == 0))) ∧ Touch (g :: F.flatten) w (wr.setCell ⟨g, k, none⟩ (.bool ((c + k) % 3 == 0)))) := by
          refine ⟨heap_set hg, by simp [hs], fun i hi => ?_, htc.trans (Touch.grown grown_set (by intro x e; simp at e; simp [e]))⟩
          by_cases e : i = k
          · subst e; simp [Array.getElem?_setIfInBounds]; omega
          · rw [Array.getElem?_setIfInBounds, if_neg (by omega)]; exact hel.out i (by omega)
        have hk0 : 0 ≤ c + (k : Int) := by omega
        have ht : (c + (k : Int)).tmod 3 = (c + (k : Int)) % 3 := Int.tmod_eq_emod_of_nonneg hk0
        generalize cur'[k] = old at *
        clear hg htc
        go_wp2
        go_roundw
        case rel => exact ⟨k + 1, _, by omega, by go_num, by go_num, HR.out.1, HR.out.2.1, HR.out.2.2.1, HR.out.2.2.2⟩
        case measure => simp [intOf]; omega
      · obtain rfl : k = n := by omega
        go_wp2
        go_ret
        exact ⟨rfl, HEND.out _ _ hg hs hel.out, htc⟩
end Go.Proofs.Ytcbgedlckcjjnaa

/- What the law's own helpers (measure, copy) make of segments and rows of them; no condition but that there are at most a million parts. Written by mknet0.py. -/
namespace Go.Proofs.Ytcbgedlckcjjnaa
open Go.RowKit
set_option linter.unusedVariables false
set_option maxRecDepth 8000


theorem rd_Segment {w : World} {B : Nat} {x : DSegm} {cs : List Value} (h : shSegm.Rd w B x cs) : ∃ v, cs = [.int .i64 x.1, .int .i64 x.2.1, .bool x.2.2.1, .bool x.2.2.2.1, .bool x.2.2.2.2.1, .int .i64 x.2.2.2.2.2.1, .int .i64 x.2.2.2.2.2.2.1, .int .i64 x.2.2.2.2.2.2.2.1, .int .i64 x.2.2.2.2.2.2.2.2.1, .int .i64 x.2.2.2.2.2.2.2.2.2.1, .int .i64 x.2.2.2.2.2.2.2.2.2.2.1, v] ∧ u8s.Rd w B x.2.2.2.2.2.2.2.2.2.2.2.1 [v] ∧ (Lit.int .i64 x.1).wf = true ∧ (Lit.int .i64 x.2.1).wf = true ∧ (Lit.int .i64 x.2.2.2.2.2.1).wf = true ∧ (Lit.int .i64 x.2.2.2.2.2.2.1).wf = true ∧ (Lit.int .i64 x.2.2.2.2.2.2.2.1).wf = true ∧ (Lit.int .i64 x.2.2.2.2.2.2.2.2.1).wf = true ∧ (Lit.int .i64 x.2.2.2.2.2.2.2.2.2.1).wf = true ∧ (Lit.int .i64 x.2.2.2.2.2.2.2.2.2.2.1).wf = true := by
  obtain ⟨p0, q0, e0, ⟨g0, w0⟩, p1, q1, e1, ⟨g1, w1⟩, p2, q2, e2, g2, p3, q3, e3, g3, p4, q4, e4, g4, p5, q5, e5, ⟨g5, w5⟩, p6, q6, e6, ⟨g6, w6⟩, p7, q7, e7, ⟨g7, w7⟩, p8, q8, e8, ⟨g8, w8⟩, p9, q9, e9, ⟨g9, w9⟩, p10, q10, e10, ⟨g10, w10⟩, p11, q11, e11, h11, hz⟩ := h
  have hz' : q11 = [] := hz
  have l := Sh.Rd.len _ _ _ h11
  replace l : p11.length = 1 := l
  match p11, l, h11 with
  | [v], _, h11 =>
    refine ⟨v, ?_, h11, w0, w1, w5, w6, w7, w8, w9, w10⟩
    rw [e0, g0, e1, g1, e2, g2, e3, g3, e4, g4, e5, g5, e6, g6, e7, g7, e8, g8, e9, g9, e10, g10, e11, hz']
    rfl



theorem setRow_cellsN (g : Nat) : ∀ (vs : List Value) (w : World) (off : Nat), setRow w g off vs = w.setCells g off vs
  | [], _, _ => rfl
  | v :: vs, w, off => setRow_cellsN g vs (w.setCell ⟨g, off, none⟩ v) (off + 1)


end Go.Proofs.Ytcbgedlckcjjnaa
