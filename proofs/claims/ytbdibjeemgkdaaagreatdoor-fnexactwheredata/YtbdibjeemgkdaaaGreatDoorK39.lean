/- What the model's sums and bytes of numbers answer; nothing that was in memory turns; no condition but on lengths. -/
import Derived.Test.YtbdibjeemgkdaaaGreatDoorRows
import Derived.Deep.DeepMust
import Derived.Deep.RegionLaw
import Derived.Test.YtbdibjeemgkdaaaGreatDoorK01
import Derived.Test.YtbdibjeemgkdaaaGreatDoorK03
import Derived.Test.YtbdibjeemgkdaaaGreatDoorK38
import Derived.Test.YtbdibjeemgkdaaaGreatDoorK42
namespace Go.Proofs.YtbdibjeemgkdaaaGreatDoor
open Go.RowKit
set_option linter.unusedVariables false

def sumStep (p : Int × Int) (x : Int) : Int × Int := ((p.1 + x) % 251, (p.2 + (p.1 + x) % 251) % 251)
def sumFold (l : List Int) : Int × Int := l.foldl sumStep (1, 0)
/-- The sum of bytes. -/
def sumB (l : List Int) : Int := (sumFold l).2 * 256 + (sumFold l).1

theorem sumFold_succ (l : List Int) (k : Nat) (h : k < l.length) : sumFold (l.take (k + 1)) = sumStep (sumFold (l.take k)) (l.getD k 0) := by
  unfold sumFold
  rw [List.take_succ_eq_append_getElem h, List.foldl_append, List.getD_eq_getElem?_getD, List.getElem?_eq_getElem h]
  rfl
theorem sumStep_bd (p : Int × Int) (x : Int) : (0 ≤ (sumStep p x).1 ∧ (sumStep p x).1 ≤ 250) ∧ (0 ≤ (sumStep p x).2 ∧ (sumStep p x).2 ≤ 250) := by
  unfold sumStep; constructor <;> constructor <;> dsimp only <;> omega
theorem sumFold_bd (l : List Int) : (0 ≤ (sumFold l).1 ∧ (sumFold l).1 ≤ 250) ∧ (0 ≤ (sumFold l).2 ∧ (sumFold l).2 ≤ 250) := by
  rcases List.eq_nil_or_concat l with rfl | ⟨m, x, rfl⟩
  · decide
  · unfold sumFold; rw [List.concat_eq_append, List.foldl_append]; exact sumStep_bd _ _
theorem sumB_bd (l : List Int) : 0 ≤ sumB l ∧ sumB l ≤ 64250 := by
  have := sumFold_bd l; unfold sumB; omega

set_option maxHeartbeats 400000 in
theorem sSumBytes (a : Option Addr) (n cap : Nat) (l : List Int) (w : World) (hl : l.length = n) (hr : RB w a l) (hn : n ≤ 281474976710656) :
    Calls Tryz.prog 131 #[.slice a n cap] w fun e w' => e = .returned (.int .i64 (sumB l)) ∧ w' = w := by
  go_enter Tryz.func131, Tryz.ntmps131
  go_wp2
  go_loop [3, 4, 5] (fun h s i => ∃ k : Nat, k ≤ n ∧ i = .int .i64 k ∧ h = .int .i64 (sumFold (l.take k)).1 ∧ s = .int .i64 (sumFold (l.take k)).2) (fun _ _ i => n - (intOf i).toNat)
  case atStart => exact ⟨0, Nat.zero_le _, rfl, rfl, rfl⟩
  case round =>
    obtain ⟨k, hk, rfl, rfl, rfl⟩ := hrel
    by_cases hlt : k < n
    · rcases hr.mem with e | ⟨b, off, rfl, hc⟩
      · subst e; simp at hl; omega
      · have ck := hc k (by omega)
        have bk := getD_bd hr.bd k (by omega)
        have fb := sumFold_bd (l.take k)
        have HS : Hid _ := sumFold_succ l k (by omega)
        clear hc hr
        generalize l.getD k 0 = x at *
        generalize sumFold (l.take k) = p at *
        obtain ⟨p1, p2⟩ := p
        simp only at fb ⊢
        go_wp2
        go_round
        case rel => exact ⟨k + 1, by omega, by go_num, by rw [HS.out]; rfl, by rw [HS.out]; rfl⟩
        case measure => simp [intOf]; omega
    · obtain rfl : k = n := by omega
      have fb := sumFold_bd (l.take k)
      clear hr
      go_wp2
      go_ret
      refine ⟨ret_int ?_, rfl⟩
      rw [List.take_of_length_le (by omega)]
      rfl

/-- The first j of the sz bytes of n, the highest first. -/
def beTo (n : Int) (sz j : Nat) : List Int := (List.range j).map fun (i : Nat) => n / 2 ^ (8 * (sz - 1 - i)) % 256
theorem beTo_bd (n : Int) (sz j : Nat) : ∀ x ∈ beTo n sz j, 0 ≤ x ∧ x ≤ 255 := by
  intro x hx
  obtain ⟨i, _, rfl⟩ := List.mem_map.1 hx
  omega
theorem beTo_length (n : Int) (sz j : Nat) : (beTo n sz j).length = j := by simp [beTo]
theorem beTo_succ (n : Int) (sz j : Nat) : beTo n sz (j + 1) = beTo n sz j ++ [n / 2 ^ (8 * (sz - 1 - j)) % 256] := by simp [beTo, List.range_succ]

set_option maxHeartbeats 400000 in
theorem sBytes (n : Int) (sz : Nat) (w : World) (h1 : 1 ≤ sz) (h8 : sz ≤ 8) :
    Calls Tryz.prog 130 #[.int .i64 n, .int .i64 sz] w fun e w' => ∃ v, e = .returned v ∧ OB w' w.heap.size v (beTo n sz sz) ∧ Below w.heap.size w w' := by
  go_enter Tryz.func130, Tryz.ntmps130
  go_wp2
  go_loopw [5, 6] (fun v i wr => ∃ j : Nat, j ≤ sz ∧ i = .int .i64 ((sz : Int) - 1 - j) ∧ OB wr w.heap.size v (beTo n sz j) ∧ Below w.heap.size w wr) (fun _ i _ => (intOf i + 1).toNat)
  case atStart => exact ⟨0, Nat.zero_le _, by go_num, ⟨World.ownsRow_made w #[] 0 (Nat.le_refl _) (by decide) rfl, by simp [beTo]⟩, (Below.refl _ _).alloc (Nat.le_refl _) _⟩
  case round =>
    obtain ⟨j, hj, rfl, ho, hb⟩ := hrel
    by_cases hlt : j < sz
    · have hsz := hb.size
      go_wp2_with (at_builtin; refine app_u8one wr rfl _ _ rfl w.heap.size u5 _ (by rfl) ho _ (by rfl) (by omega) (by rw [beTo_length]; omega) hsz ?_; intro v' w5 ho5 hb5 hg5)
      go_roundw
      case rel => exact ⟨j + 1, by omega, by go_num, by rw [beTo_succ]; exact ho5, hb.trans hb5⟩
      case measure => simp [intOf]; omega
    · obtain rfl : j = sz := by omega
      go_wp2
      go_ret
      exact ⟨_, rfl, ho, hb⟩

/-- The number that bytes make, the highest first. -/
def takeN (l : List Int) : Int := l.foldl (fun n x => n * 256 + x) 0
theorem takeN_snoc (l : List Int) (x : Int) : takeN (l ++ [x]) = takeN l * 256 + x := by unfold takeN; rw [List.foldl_append]; rfl
theorem takeN_bd' : ∀ (n : Nat) (l : List Int), l.length = n → (∀ x ∈ l, 0 ≤ x ∧ x ≤ 255) → 0 ≤ takeN l ∧ takeN l < 256 ^ l.length := by
  intro n
  induction n with
  | zero => intro l hl _; rw [List.length_eq_zero_iff] at hl; subst hl; simp [takeN]
  | succ n ih =>
    intro l hl h
    rcases List.eq_nil_or_concat l with rfl | ⟨m, x, rfl⟩
    · simp at hl
    · rw [List.concat_eq_append] at *
      have h1 := ih m (by simp at hl; omega) (fun y hy => h y (List.mem_append_left _ hy))
      have h2 := h x (by simp)
      rw [takeN_snoc, List.length_append, List.length_singleton, Int.pow_succ]
      omega
theorem takeN_bd (l : List Int) (h : ∀ x ∈ l, 0 ≤ x ∧ x ≤ 255) : 0 ≤ takeN l ∧ takeN l < 256 ^ l.length := takeN_bd' _ l rfl h

end Go.Proofs.YtbdibjeemgkdaaaGreatDoor

/- What the model's SumLoad answers; nothing that was in memory turns; no condition but that the load has at most a million bytes. -/
namespace Go.Proofs.YtbdibjeemgkdaaaGreatDoor
open Go.RowKit
set_option linter.unusedVariables false

/-- The bytes whose sum is that of a load. -/
def loadB (at_ : Int) (l : List Int) : List Int := beTo (wrp at_) 2 2 ++ beTo (wrp l.length) 2 2 ++ l

set_option maxHeartbeats 300000 in
theorem sSumLoad (at_ : Int) (a : Option Addr) (n cap : Nat) (l : List Int) (w : World) (hl : l.length = n) (hr : RB w a l) (hnil : a = none → cap = 0) (hn : n ≤ 1048576) :
    Calls Tryz.prog 85 #[.int .i64 at_, .slice a n cap] w fun e w' => e = .returned (.int .i64 (sumB (loadB at_ l))) ∧ Below w.heap.size w w' := by
  have HR : Hid _ := hr
  have HN : Hid _ := hnil
  clear hr hnil
  go_enter Tryz.func85, Tryz.ntmps85
  go_wp2_with fail
  refine (sWrap at_ _).mono ?_
  rintro e w1 ⟨rfl, hw⟩
  subst w1
  go_wp2_with fail
  refine (sBytes (wrp at_) 2 _ (by omega) (by omega)).mono ?_
  rintro e w1 ⟨v1, rfl, ho1, hb1⟩
  have HL1 : Hid (∃ L, L = beTo (wrp at_) 2 2) := ⟨_, rfl⟩
  obtain ⟨L1, hL1⟩ := HL1.out
  rw [← hL1] at ho1
  have q1 : Hid (L1.length = 2) := by rw [hL1, beTo_length]; trivial
  have E1 : Hid _ := hL1
  clear hL1 HL1
  obtain ⟨a1, c1, rfl, -, -⟩ := ho1.rbn
  have O1 : Hid _ := ho1
  have HB1 : Hid _ := hb1
  clear ho1 hb1
  go_wp2_with fail
  refine (sWrap n _).mono ?_
  rintro e w2 ⟨rfl, hw⟩
  subst w2
  go_wp2_with fail
  refine (sBytes (wrp n) 2 _ (by omega) (by omega)).mono ?_
  rintro e w2 ⟨v2, rfl, ho2, hb2⟩
  have HL2 : Hid (∃ L, L = beTo (wrp n) 2 2) := ⟨_, rfl⟩
  obtain ⟨L2, hL2⟩ := HL2.out
  rw [← hL2] at ho2
  have q2 : Hid (L2.length = 2) := by rw [hL2, beTo_length]; trivial
  have E2 : Hid _ := hL2
  clear hL2 HL2
  obtain ⟨a2, c2, rfl, hr2, hn2⟩ := ho2.rbn
  have R2 : Hid _ := hr2
  have N2 : Hid _ := hn2
  have HB2 : Hid (Below w.heap.size w w2) := HB1.out.trans (hb2.mono HB1.out.size)
  replace O1 : Hid _ := OB.below O1.out (Nat.le_refl _) hb2
  clear ho2 hb2 hr2 hn2 HB1
  go_wp2_with (at_builtin; go_must (refine app_pl w2 (by rfl) _ _ 22 22 (by rfl) Tryz.underlying22 Tryz.underlying22 w.heap.size (.slice a1 L1.length c1) L1 (by rfl) O1.out a2 L2 L2.length c2 rfl (by rfl) R2.out N2.out (by have := q1.out; have := q2.out; omega) HB2.out.size ?_))
  intro v3 w3 ho3 hb3 _ _
  obtain ⟨L3, hL3⟩ : ∃ L, L = L1 ++ L2 := ⟨_, rfl⟩
  rw [← hL3] at ho3
  have q3 : Hid (L3.length = 4) := by have := q1.out; have := q2.out; rw [hL3, List.length_append]; show _ = _; omega
  have E3 : Hid _ := hL3
  clear hL3
  obtain ⟨a3, c3, rfl, -, -⟩ := ho3.rbn
  have O3 : Hid _ := ho3
  have HB3 : Hid (Below w.heap.size w w3) := HB2.out.trans hb3
  clear ho3 hb3 HB2 O1 R2 N2
  go_wp2_with (at_builtin; go_must (refine app_pl w3 (by rfl) _ _ 22 22 (by rfl) Tryz.underlying22 Tryz.underlying22 w.heap.size (.slice a3 L3.length c3) L3 (by rfl) O3.out a l n cap hl (by rfl) (HR.out.below (Nat.le_refl _) HB3.out) HN.out (by have := q3.out; omega) HB3.out.size ?_))
  intro v4 w4 ho4 hb4 _ _
  obtain ⟨L4, hL4⟩ : ∃ L, L = L3 ++ l := ⟨_, rfl⟩
  rw [← hL4] at ho4
  have q4 : Hid (L4.length = 4 + n) := by have := q3.out; rw [hL4, List.length_append]; show _ = _; omega
  have E4 : Hid _ := hL4
  clear hL4
  obtain ⟨a4, c4, rfl, hr4, -⟩ := ho4.rbn
  have R4 : Hid _ := hr4
  have HB4 : Hid (Below w.heap.size w w4) := HB3.out.trans hb4
  clear ho4 hb4 HB3 O3 hr4
  go_wp2_with fail
  refine (sSumBytes _ _ _ _ _ rfl R4.out (by have := q4.out; omega)).mono ?_
  rintro e w5 ⟨rfl, hw⟩
  subst w5
  go_wp2_with fail
  go_ret
  exact ⟨ret_int (by rw [loadB, hl, ← E1.out, ← E2.out, ← E3.out, ← E4.out]), HB4.out⟩
end Go.Proofs.YtbdibjeemgkdaaaGreatDoor

/- What the program's own SumBytes answers; nothing that was in memory turns; no condition but on lengths. -/
namespace Go.Proofs.YtbdibjeemgkdaaaGreatDoor
open Go.RowKit
set_option linter.unusedVariables false

set_option maxHeartbeats 400000 in
theorem iSumBytes (a : Option Addr) (n cap : Nat) (l : List Int) (w : World) (hl : l.length = n) (hr : RB w a l) (hn : n ≤ 281474976710656) :
    Calls Tryz.prog 173 #[.slice a n cap] w fun e w' => e = .returned (.int .i64 (sumB l)) ∧ w' = w := by
  go_enter Tryz.func173, Tryz.ntmps173
  go_wp2
  go_loop [3, 4, 9] (fun h s i => ∃ k : Nat, k ≤ n ∧ i = .int .i64 k ∧ h = .int .i64 (sumFold (l.take k)).1 ∧ s = .int .i64 (sumFold (l.take k)).2) (fun _ _ i => n - (intOf i).toNat)
  case atStart => exact ⟨0, Nat.zero_le _, rfl, rfl, rfl⟩
  case round =>
    obtain ⟨k, hk, rfl, rfl, rfl⟩ := hrel
    by_cases hlt : k < n
    · rcases hr.mem with e | ⟨b, off, rfl, hc⟩
      · subst e; simp at hl; omega
      · have ck := hc k (by omega)
        have bk := getD_bd hr.bd k (by omega)
        have fb := sumFold_bd (l.take k)
        have HS : Hid _ := sumFold_succ l k (by omega)
        clear hc hr
        generalize l.getD k 0 = x at *
        generalize sumFold (l.take k) = p at *
        obtain ⟨p1, p2⟩ := p
        simp only at fb ⊢
        go_wp2
        go_round
        case rel => exact ⟨k + 1, by omega, by go_num, by rw [HS.out]; rfl, by rw [HS.out]; rfl⟩
        case measure => simp [intOf]; omega
    · obtain rfl : k = n := by omega
      have fb := sumFold_bd (l.take k)
      clear hr
      go_wp2
      go_ret
      refine ⟨ret_int ?_, rfl⟩
      rw [List.take_of_length_le (by omega)]
      rfl
end Go.Proofs.YtbdibjeemgkdaaaGreatDoor

/- The program's own row of bytes that is written at its end: what addNumber and addBytes make of it, and that nothing but the row turns; no condition but on lengths. -/
namespace Go.Proofs.YtbdibjeemgkdaaaGreatDoor
open Go.RowKit
set_option linter.unusedVariables false

/-- From w to w' nothing but block g and the row v's own block has turned; v' is the row then. -/
structure Wr (w w' : World) (g : Nat) (v v' : Value) : Prop where
  os : w'.os = w.os
  tape : w'.tape = w.tape
  output : w'.output = w.output
  size : w.heap.size ≤ w'.heap.size
  block : ∀ b, b < w.heap.size → b ≠ g → v.ownBlock ≠ some b → w'.heap[b]? = w.heap[b]?
  row : ∀ b, v'.ownBlock = some b → v.ownBlock = some b ∨ w.heap.size ≤ b

theorem Wr.refl (w : World) (g : Nat) (v : Value) : Wr w w g v v := ⟨rfl, rfl, rfl, Nat.le_refl _, fun _ _ _ _ => rfl, fun _ e => Or.inl e⟩
theorem Wr.trans {w w1 w2 : World} {g : Nat} {v v1 v2 : Value} (h : Wr w w1 g v v1) (k : Wr w1 w2 g v1 v2) : Wr w w2 g v v2 := by
  refine ⟨k.os.trans h.os, k.tape.trans h.tape, k.output.trans h.output, Nat.le_trans h.size k.size, fun b hb hg hv => ?_, fun b e => ?_⟩
  · rw [k.block b (Nat.lt_of_lt_of_le hb h.size) hg (fun e => ?_)]
    · exact h.block b hb hg hv
    · rcases h.row b e with e1 | e1
      · exact hv e1
      · omega
  · rcases k.row b e with e1 | e1
    · exact h.row b e1
    · exact Or.inr (Nat.le_trans h.size e1)
/-- All below B stays, where the row and g lie from B on. -/
theorem Wr.below {w w' : World} {g : Nat} {v v' : Value} (h : Wr w w' g v v') {B : Nat} (hB : B ≤ w.heap.size) (hg : B ≤ g) (hv : ∀ b, v.ownBlock = some b → B ≤ b) : Below B w w' :=
  ⟨h.os, h.tape, h.output, h.size, fun b hb => h.block b (by omega) (by omega) (fun e => by have := hv b e; omega)⟩
theorem Wr.cell {w w' : World} {g : Nat} {v v' : Value} (h : Wr w w' g v v') {b : Nat} (o : Nat) (hb : b < w.heap.size) (hg : b ≠ g) (hv : v.ownBlock ≠ some b) : w'.cell? ⟨b, o, none⟩ = w.cell? ⟨b, o, none⟩ :=
  World.cell?_of_block (w := w) (h.block b hb hg hv)

theorem cell_ad {w : World} {O : Obj} {b : Nat} (o : Nat) (h : b < w.heap.size) : (w.alloc O).drew.cell? ⟨b, o, none⟩ = w.cell? ⟨b, o, none⟩ := Below.cell (((Below.refl w.heap.size w).alloc (Nat.le_refl _) O).drew) (p := ⟨b, o, none⟩) h
theorem frozen_ad {w : World} {O : Obj} {b : Nat} (o : Nat) (h : b < w.heap.size) : (w.alloc O).drew.frozen? ⟨b, o, none⟩ = w.frozen? ⟨b, o, none⟩ := Below.frozen (((Below.refl w.heap.size w).alloc (Nat.le_refl _) O).drew) (p := ⟨b, o, none⟩) h
theorem grown_frozen {w w' : World} {g : Option Nat} (hg : w.grownBy w' g) {b : Nat} (o : Nat) (hb : b < w.heap.size) (hne : g ≠ some b) : w'.frozen? ⟨b, o, none⟩ = w.frozen? ⟨b, o, none⟩ :=
  World.frozen?_of_block (w := w) (hg.block b hb (fun e => hne e.symm))
theorem u8_bd (n : Int) : 0 ≤ IntKind.u8.wrap n ∧ IntKind.u8.wrap n ≤ 255 := by rw [u8w]; omega

/-- Behind an append to the row and the store of what it gave. -/
theorem Wr.stored {w W w5 : World} {g : Nat} {v v' : Value} (B : Below w.heap.size w W) (hg5 : W.grownBy w5 v.ownBlock) (hat : v'.ownBlock = v.ownBlock ∨ v'.ownBlock = some W.heap.size) (x : Value) : Wr w (w5.setCell ⟨g, 0, none⟩ x) g v v' := by
  have hz := Nat.le_trans B.size hg5.size
  refine ⟨hg5.os.trans B.os, hg5.tape.trans B.tape, hg5.output.trans B.output, ?_, fun b hb hne hv => ?_, fun b e => ?_⟩
  · rw [World.size_setCell]; exact hz
  · rw [Below.heap_setCell _ _ _ _ hne, hg5.block b (Nat.lt_of_lt_of_le hb B.size) (fun e => hv e.symm)]
    exact B.block b hb
  · rcases hat with e1 | e1
    · exact Or.inl (e1 ▸ e)
    · rw [e1] at e
      simp at e
      have := B.size
      exact Or.inr (by omega)

set_option maxHeartbeats 1000000 in
theorem iAddNumber (g : Nat) (n : Int) (sz : Nat) (base : Nat) (v : Value) (l : List Int) (w : World) (h1 : 1 ≤ sz) (h8 : sz ≤ 8) (hc : w.cell? ⟨g, 0, none⟩ = some v) (hf : w.frozen? ⟨g, 0, none⟩ = false)
    (ho : OB w base v l) (hgb : g < base) (hbase : base ≤ w.heap.size) (hl : l.length ≤ 10000000) :
    Calls Tryz.prog 171 #[.pointer (some ⟨g, 0, none⟩), .int .i64 n, .int .i64 sz] w fun e w' => e = .returned (.tuple #[]) ∧ ∃ v', w'.cell? ⟨g, 0, none⟩ = some v' ∧ w'.frozen? ⟨g, 0, none⟩ = false ∧ OB w' base v' (l ++ beTo n sz sz) ∧ Wr w w' g v v' := by
  go_enter Tryz.func171, Tryz.ntmps171
  go_wp2
  go_loopw [6] (fun i wr => ∃ (j : Nat) (v' : Value), j ≤ sz ∧ i = .int .i64 ((sz : Int) - 1 - j) ∧ wr.cell? ⟨g, 0, none⟩ = some v' ∧ wr.frozen? ⟨g, 0, none⟩ = false ∧ OB wr base v' (l ++ beTo n sz j) ∧ Wr w wr g v v') (fun i _ => (intOf i + 1).toNat)
  case atStart => exact ⟨0, v, Nat.zero_le _, by go_num, hc, hf, by simpa [beTo] using ho, Wr.refl _ _ _⟩
  case round =>
    obtain ⟨j, v', hj, rfl, hc', hf', ho', hw⟩ := hrel
    clear hc hf ho
    by_cases hlt : j < sz
    · obtain ⟨L, hL⟩ : ∃ L, L = l ++ beTo n sz j := ⟨_, rfl⟩
      rw [← hL] at ho'
      have q : Hid (L.length = l.length + j) := by rw [hL, List.length_append, beTo_length]; trivial
      have EL : Hid _ := hL
      clear hL
      obtain ⟨a5, c5, rfl, -, -⟩ := ho'.rbn
      have hlg := cell_lt hc'
      have ne : Hid ((Value.slice a5 L.length c5).ownBlock ≠ some g) := fun e => by have := (ho'.own.lt g e).1; omega
      have HO : Hid _ := ho'
      have HW : Hid _ := hw
      have hsz := hw.size
      clear ho' hw
      obtain ⟨k, hk⟩ : ∃ k : Nat, sz = j + 1 + k := ⟨sz - j - 1, by omega⟩
      have e : (sz : Int) - 1 - j = k := by omega
      have EK : Hid _ := hk
      rw [e]
      clear hk
      have w8 : IntKind.i64.wrap (8 * (k : Int)) = 8 * k := by have := EK.out; rw [IntKind.wrap_i64]; omega
      have p0 : (0 : Int) ≤ 8 * k := by omega
      have p1 : 8 * (k : Int) ≤ 64 := by have := EK.out; omega
      have EE : Hid _ := e
      clear e
      go_wp2_with fail
      go_region_law ((refine app_st _ (by rfl) _ _ 235 235 (by rfl) Tryz.underlying235 Tryz.underlying235 base (.slice a5 L.length c5) L (by rfl) (OB.below HO.out (Nat.le_refl _) ((Below.refl _ _).alloc (Nat.le_refl _) _).drew) (some ⟨wr.heap.size, 0, none⟩) [_] 1 1 rfl (by rfl) (RB.below (rb_one (u8_bd _)) (Nat.le_refl _) (Below.drew (Below.refl _ _))) (by intro e; cases e) (by have := q.out; omega) (by simp; omega) ?_; intro v5 w5 ho5 hb5 hg5 hat5; obtain ⟨a6, c6, rfl, -, -⟩ := ho5.rbn; have hc5 := (grown_cell hg5 0 (by simp; omega) ne.out).trans ((cell_ad 0 hlg).trans hc'); have hf5 := (grown_frozen hg5 0 (by simp; omega) ne.out).trans ((frozen_ad 0 hlg).trans hf'); have HG5 : Hid _ := hg5; have HO5 : Hid _ := ho5; have HA5 : Hid _ := hat5; clear hg5 ho5 hat5 hb5))
      all_goals
        have hy : Hid (l ++ beTo n sz (j + 1) = L ++ [IntKind.u8.wrap (n / 2 ^ (8 * (k : Int)).toNat)]) := by
          rw [beTo_succ, ← List.append_assoc, ← EL.out, u8w, show (8 * (k : Int)).toNat = 8 * (sz - 1 - j) by have := EK.out; omega]
          trivial
        have hv : Hid (OB w5 base (.slice a6 (L.length + 1) c6) (l ++ beTo n sz (j + 1))) := by
          have h := HO5.out
          rw [← hy.out] at h
          show OB w5 base (.slice a6 (L.length + 1) c6) (l ++ beTo n sz (j + 1))
          simpa [List.length_append, beTo_length, q.out, Nat.add_assoc] using h
        go_wp2
        go_roundw
        case rel =>
          refine ⟨j + 1, .slice a6 (L.length + 1) c6, by omega, ?_, World.cell?_setCell_same' w5 _ _ (by rw [hc5]; rfl), ?_, ?_, HW.out.trans (Wr.stored (v' := .slice a6 (L.length + 1) c6) (((Below.refl _ _).alloc (Nat.le_refl _) _).drew) HG5.out (by have h := HA5.out; simp only [List.length_append, List.length_singleton] at h; exact h) _)⟩
          · have := EE.out
            exact congrArg (Value.int .i64) (by omega)
          · simpa using hf5
          · exact OB.keeps hv.out (fun b hb => Below.heap_setCell _ _ _ _ (by dsimp only; omega))
        case measure => simp [intOf]
    · obtain rfl : j = sz := by omega
      go_wp2
      exact ⟨rfl, .tuple #[], by simp [results, Tryz.results171], rfl, v', hc', hf', ho', hw⟩
set_option maxHeartbeats 400000 in
theorem iAddBytes (g : Nat) (a : Option Addr) (n cap : Nat) (l2 : List Int) (base : Nat) (v : Value) (l : List Int) (w : World) (hl2 : l2.length = n) (hr : RB w a l2) (hnil : a = none → cap = 0) (hn : n ≤ 1048576) (hc : w.cell? ⟨g, 0, none⟩ = some v) (hf : w.frozen? ⟨g, 0, none⟩ = false)
    (ho : OB w base v l) (hgb : g < base) (hbase : base ≤ w.heap.size) (hl : l.length ≤ 10000000) :
    Calls Tryz.prog 172 #[.pointer (some ⟨g, 0, none⟩), .slice a n cap] w fun e w' => e = .returned (.tuple #[]) ∧ ∃ v', w'.cell? ⟨g, 0, none⟩ = some v' ∧ w'.frozen? ⟨g, 0, none⟩ = false ∧ OB w' base v' (l ++ l2) ∧ Wr w w' g v v' := by
  obtain ⟨a5, c5, rfl, -, -⟩ := ho.rbn
  have ne : Hid ((Value.slice a5 l.length c5).ownBlock ≠ some g) := fun e => by have := (ho.own.lt g e).1; omega
  have hlg := cell_lt hc
  have HO : Hid _ := ho
  have HR : Hid _ := hr
  have HN : Hid _ := hnil
  clear ho hr hnil
  go_enter Tryz.func172, Tryz.ntmps172
  go_wp2_with (at_builtin; go_must (refine app_pl w (by rfl) _ _ 235 22 (by rfl) Tryz.underlying235 Tryz.underlying22 base (.slice a5 l.length c5) l (by rfl) HO.out a l2 n cap hl2 (by rfl) HR.out HN.out (by omega) hbase ?_))
  intro v5 w5 ho5 hb5 hg5 hat5
  obtain ⟨L, hL⟩ : ∃ L, L = l ++ l2 := ⟨_, rfl⟩
  rw [← hL] at ho5
  have EL : Hid _ := hL
  clear hL
  obtain ⟨a6, c6, rfl, -, -⟩ := ho5.rbn
  have hc5 := (grown_cell hg5 0 hlg ne.out).trans hc
  have hf5 := (grown_frozen hg5 0 hlg ne.out).trans hf
  have HG5 : Hid _ := hg5
  have HO5 : Hid _ := ho5
  have HA5 : Hid _ := hat5
  clear hg5 ho5 hat5 hb5
  go_wp2
  refine ⟨rfl, .tuple #[], by simp [results, Tryz.results172], rfl, .slice a6 L.length c6, World.cell?_setCell_same' w5 _ _ (by rw [hc5]; rfl), ?_, ?_, Wr.stored (Below.refl _ _) HG5.out HA5.out _⟩
  · simpa using hf5
  · rw [← EL.out]
    exact OB.keeps HO5.out (fun b hb => Below.heap_setCell _ _ _ _ (by dsimp only; omega))
end Go.Proofs.YtbdibjeemgkdaaaGreatDoor

/- What the program's own SumLoad answers; nothing that was in memory turns; no condition but that the load has at most a million bytes. -/
namespace Go.Proofs.YtbdibjeemgkdaaaGreatDoor
open Go.RowKit
set_option linter.unusedVariables false

set_option maxHeartbeats 1000000 in
theorem iSumLoad (at_ : Int) (a : Option Addr) (n cap : Nat) (l : List Int) (w : World) (hl : l.length = n) (hr : RB w a l) (hnil : a = none → cap = 0) (hn : n ≤ 1048576) :
    Calls Tryz.prog 142 #[.int .i64 at_, .slice a n cap] w fun e w' => e = .returned (.int .i64 (sumB (loadB at_ l))) ∧ Below w.heap.size w w' := by
  have HR : Hid _ := hr
  have HN : Hid _ := hnil
  clear hr hnil
  go_enter Tryz.func142, Tryz.ntmps142
  go_wp2_with fail
  refine (iWrap at_ _).mono ?_
  rintro e w1 ⟨rfl, hw⟩
  subst w1
  go_wp2_with fail
  refine (iAddNumber w.heap.size (wrp at_) 2 (w.heap.size + 1) (.slice none 0 0) [] _ (by omega) (by omega) (by simp) (by simp) (OB.nilrow _ _) (by omega) (by simp) (by simp)).mono ?_
  rintro e w1 ⟨rfl, v1, hc1, hf1, ho1, hw1⟩
  obtain ⟨L1, hL1⟩ : ∃ L, L = [] ++ beTo (wrp at_) 2 2 := ⟨_, rfl⟩
  rw [← hL1] at ho1
  have q1 : Hid (L1.length = 2) := by rw [hL1]; rfl
  have E1 : Hid _ := hL1
  obtain ⟨a1, c1, rfl, -, -⟩ := ho1.rbn
  have O1 : Hid _ := ho1
  have W1 : Hid _ := hw1
  have z1 := hw1.size
  simp at z1
  clear hL1 ho1 hw1
  go_wp2_with fail
  refine (iWrap n _).mono ?_
  rintro e w2 ⟨rfl, hw⟩
  subst w2
  go_wp2_with fail
  refine (iAddNumber w.heap.size (wrp n) 2 (w.heap.size + 1) (.slice a1 L1.length c1) L1 _ (by omega) (by omega) hc1 hf1 O1.out (by omega) z1 (by have := q1.out; omega)).mono ?_
  rintro e w2 ⟨rfl, v2, hc2, hf2, ho2, hw2⟩
  obtain ⟨L2, hL2⟩ : ∃ L, L = L1 ++ beTo (wrp n) 2 2 := ⟨_, rfl⟩
  rw [← hL2] at ho2
  have q2 : Hid (L2.length = 4) := by have := q1.out; rw [hL2, List.length_append, beTo_length, this]; trivial
  have E2 : Hid _ := hL2
  obtain ⟨a2, c2, rfl, -, -⟩ := ho2.rbn
  have O2 : Hid _ := ho2
  have W2 : Hid _ := W1.out.trans hw2
  have z2 := hw2.size
  clear hL2 ho2 hw2 hc1 hf1
  have B2 : Hid (Below w.heap.size w w2) := Below.trans (by go_grown) (W2.out.below (by simp) (Nat.le_refl _) (by intro b e; cases e))
  go_wp2_with fail
  refine (iAddBytes w.heap.size a n cap l (w.heap.size + 1) (.slice a2 L2.length c2) L2 _ hl (HR.out.below (Nat.le_refl _) B2.out) HN.out hn hc2 hf2 O2.out (by omega) (by omega) (by have := q2.out; omega)).mono ?_
  rintro e w3 ⟨rfl, v3, hc3, hf3, ho3, hw3⟩
  obtain ⟨L3, hL3⟩ : ∃ L, L = L2 ++ l := ⟨_, rfl⟩
  rw [← hL3] at ho3
  have q3 : Hid (L3.length = 4 + n) := by have := q2.out; rw [hL3, List.length_append, this, hl]; trivial
  have E3 : Hid _ := hL3
  obtain ⟨a3, c3, rfl, hr3, -⟩ := ho3.rbn
  have R3 : Hid _ := hr3
  have W3 : Hid _ := W2.out.trans hw3
  have z3 := hw3.size
  clear hL3 ho3 hw3 hc2 hf2 hr3
  have B3 : Hid (Below w.heap.size w w3) := Below.trans (by go_grown) (W3.out.below (by simp) (Nat.le_refl _) (by intro b e; cases e))
  go_wp2_with fail
  refine (iSumBytes _ _ _ L3 _ rfl R3.out (by have := q3.out; omega)).mono ?_
  rintro e w4 ⟨rfl, hw⟩
  subst w4
  go_wp2_with fail
  go_ret
  exact ⟨ret_int (by rw [loadB, hl, E3.out, E2.out, E1.out]; rfl), B3.out⟩
end Go.Proofs.YtbdibjeemgkdaaaGreatDoor
