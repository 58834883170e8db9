/- What the program and its model make of bytes told as letters: each byte that is no small letter is a dot; nothing that was in memory turns; no condition but on lengths. -/
import Derived.Test.YtfpemobkkfobkaaRows
import Derived.Test.YtfpemobkkfobkaaBase
import Derived.Test.YtfpemobkkfobkaaBytes
import Derived.Test.YtfpemobkkfobkaaAppBytes
import Derived.Test.YtfpemobkkfobkaaApp
import Derived.Test.YtfpemobkkfobkaaBox
import Derived.Laws.BytesArg
namespace Go.Proofs.Ytfpemobkkfobkaa
open Go.RowKit
set_option linter.unusedVariables false

/-- A byte told as a letter. -/
def let1 (x : Int) : Int := if x < 97 ∨ 122 < x then 46 else x
def letL (l : List Int) : List Int := l.map let1
theorem let1_dot {x : Int} (h : x < 97 ∨ 122 < x) : let1 x = 46 := by unfold let1; rw [if_pos h]
theorem let1_id {x : Int} (h : ¬ (x < 97 ∨ 122 < x)) : let1 x = x := by unfold let1; rw [if_neg h]
theorem let1_bd {x : Int} (h : 0 ≤ x ∧ x ≤ 255) : 0 ≤ let1 x ∧ let1 x ≤ 255 := by unfold let1; split <;> omega
theorem letL_bd {l : List Int} (h : ∀ x ∈ l, 0 ≤ x ∧ x ≤ 255) : ∀ x ∈ letL l, 0 ≤ x ∧ x ≤ 255 := by
  intro x hx; obtain ⟨y, hy, rfl⟩ := List.mem_map.1 hx; exact let1_bd (h y hy)
theorem letL_take {l : List Int} {k : Nat} (h : k < l.length) : letL (l.take (k + 1)) = letL (l.take k) ++ [let1 (l.getD k 0)] := by
  unfold letL; rw [List.take_succ_eq_append_getElem h, List.map_append, List.getD_eq_getElem?_getD, List.getElem?_eq_getElem h]; rfl
theorem let_at {l : List Int} {k : Nat} (h : k < l.length) : (letL (l.take k) ++ l.drop k).getD k 0 = l.getD k 0 := by
  have h1 : (letL (l.take k)).length = k := by simp [letL]; omega
  rw [List.getD_eq_getElem?_getD, List.getD_eq_getElem?_getD, List.getElem?_append_right (by omega), h1, Nat.sub_self, List.getElem?_drop, Nat.add_zero]
theorem let_set {l : List Int} {k : Nat} (h : k < l.length) : (letL (l.take k) ++ l.drop k).set k (let1 (l.getD k 0)) = letL (l.take (k + 1)) ++ l.drop (k + 1) := by
  have h1 : (letL (l.take k)).length = k := by simp [letL]; omega
  rw [List.set_append_right _ _ (by omega), h1, Nat.sub_self, List.drop_eq_getElem_cons h, List.set_cons_zero, letL_take h, List.append_assoc]; rfl
theorem let_same {l : List Int} {k : Nat} (h : k < l.length) (e : let1 (l.getD k 0) = l.getD k 0) : letL (l.take (k + 1)) ++ l.drop (k + 1) = letL (l.take k) ++ l.drop k := by
  rw [letL_take h, e, List.append_assoc, List.drop_eq_getElem_cons h, List.getD_eq_getElem?_getD, List.getElem?_eq_getElem h]; rfl

theorem cv_strL (a : Option Addr) (n cap : Nat) (l : List Int) (w : World) (hl : l.length = n) (hr : RB w a l) :
    (convert 22 9 (.slice a n cap)).run Try.prog w = .ok (.string (strOfNums l)) w := by
  rcases hr.mem with e | ⟨b, off, rfl, hc⟩
  · subst e
    simp at hl
    subst hl
    cases a with
    | none => exact run_convert_bytes_nil w _ _ Try.underlying22 Try.underlying5 0 cap _ Try.underlying9
    | some x =>
      rw [run_convert_bytes_string w _ _ _ _ 0 cap Try.underlying22 Try.underlying5 Try.underlying9, run_bytesToString w x 0 cap [] (run_loadCells_list (P := Try.prog) w x [] (by simp))]
      rfl
  · exact run_convert_bytes_arg w _ _ Try.underlying22 Try.underlying5 b off n cap l hl (fun i hi => hc i (by omega)) _ Try.underlying9

theorem iCopyB9L (a : Option Addr) (n cap : Nat) (l : List Int) (w : World) (hl : l.length = n) (hr : RB w a l) (hnil : a = none → cap = 0) (hn : n ≤ 1048576) :
    Calls Try.prog 22 #[.slice a n cap] w fun e w' => ∃ v, e = .returned v ∧ OB w' w.heap.size v l ∧ Below w.heap.size w w' := by
  go_enter Try.func22, Try.ntmps22
  go_wp2_with (at_builtin; go_loud (refine app_pl w rfl _ _ 22 22 rfl Try.underlying22 Try.underlying22 w.heap.size (.slice none 0 0) [] (by rfl) ⟨⟨rfl, Or.inl ⟨rfl, rfl⟩⟩, by simp⟩ a l n cap hl (by rfl) hr hnil (by simp; omega) (Nat.le_refl _) ?_; intro v' w5 ho5 hb5 hg5 hat5; rw [List.nil_append] at ho5))
  go_ret
  exact ⟨_, rfl, ho5, hb5⟩

set_option maxHeartbeats 800000 in
theorem sLetters (a : Option Addr) (n cap : Nat) (l : List Int) (w : World) (hl : l.length = n) (hr : RB w a l) (hn : n ≤ 1048576) :
    Calls Try.prog 15 #[.slice a n cap] w fun e w' => e = .returned (.string (strOfNums (letL l))) ∧ Below w.heap.size w w' := by
  go_enter Try.func15, Try.ntmps15
  go_wp2
  have HR : Hid _ := hr
  have HBd := hr.bd
  go_loopw [3, 4] (fun v i wr => ∃ k : Nat, k ≤ n ∧ i = .int .i64 k ∧ OB wr w.heap.size v (letL (l.take k)) ∧ Hid (Below w.heap.size w wr)) (fun _ i _ => n - (intOf i).toNat)
  case atStart => exact ⟨0, Nat.zero_le _, rfl, ⟨World.ownsRow_made w #[] 0 (Nat.le_refl _) (by decide) rfl, by simp [letL]⟩, (Below.refl _ _).alloc (Nat.le_refl _) _⟩
  case round =>
    obtain ⟨k, hk, rfl, ho, hb⟩ := hrel
    by_cases hlt : k < n
    · have hsz := hb.out.size
      have bk := getD_bd HBd k (by omega)
      have hll : (letL (l.take k)).length = k := by simp [letL]; omega
      rcases hr.mem with e | ⟨b, off, rfl, hc⟩
      · subst e; simp at hl; omega
      · have ck := (hb.out.cell (p := ⟨b, off + k, none⟩) (cell_lt (hc k (by omega)))).trans (hc k (by omega))
        have HT : Hid _ := letL_take (l := l) (k := k) (by omega)
        have HL : Hid _ := hll
        clear hc HBd hr
        generalize l.getD k 0 = x at *
        by_cases hx : x < 97 ∨ 122 < x
        · have HT2 : Hid (letL (l.take (k + 1)) = letL (l.take k) ++ [46]) := HT.out.trans (by rw [let1_dot hx])
          clear HT
          rcases hx with hx | hx
          · have hd1 : decide (x < 97) = true := by simp; omega
            clear hll
            go_wp2_with (at_builtin; refine app_u8one wr rfl _ _ rfl w.heap.size u3 _ (by rfl) ho _ (by rfl) (by omega) (by rw [HL.out]; omega) hsz ?_; intro v' w5 ho5 hb5 hg5)
            go_roundw
            case rel => exact ⟨k + 1, by omega, by go_num, by rw [HT2.out]; exact ho5, hb.out.trans hb5⟩
            case measure => simp [intOf]; omega
          · have hd1 : decide (x < 97) = false := by simp; omega
            have hd2 : decide (122 < x) = true := by simp; omega
            clear hll
            go_wp2_with (at_builtin; refine app_u8one wr rfl _ _ rfl w.heap.size u3 _ (by rfl) ho _ (by rfl) (by omega) (by rw [HL.out]; omega) hsz ?_; intro v' w5 ho5 hb5 hg5)
            go_roundw
            case rel => exact ⟨k + 1, by omega, by go_num, by rw [HT2.out]; exact ho5, hb.out.trans hb5⟩
            case measure => simp [intOf]; omega
        · have HT2 : Hid (letL (l.take (k + 1)) = letL (l.take k) ++ [x]) := HT.out.trans (by rw [let1_id hx])
          have hd1 : decide (x < 97) = false := by simp; omega
          have hd2 : decide (122 < x) = false := by simp; omega
          clear HT hll
          go_wp2_with (at_builtin; refine app_u8one wr rfl _ _ rfl w.heap.size u3 _ (by rfl) ho _ (by rfl) (by omega) (by rw [HL.out]; omega) hsz ?_; intro v' w5 ho5 hb5 hg5)
          go_roundw
          case rel => exact ⟨k + 1, by omega, by go_num, by rw [HT2.out]; exact ho5, hb.out.trans hb5⟩
          case measure => simp [intOf]; omega
    · obtain rfl : k = n := by omega
      rw [List.take_of_length_le (by omega)] at ho
      obtain ⟨a1, c1, rfl, hr1⟩ := ho.rb
      have hcv := cv_strL a1 _ c1 _ wr rfl hr1
      clear hr HR HBd
      go_wp2
      go_ret
      exact ⟨rfl, hb.out⟩

set_option maxHeartbeats 800000 in
theorem iLetters (a : Option Addr) (n cap : Nat) (l : List Int) (w : World) (hl : l.length = n) (hr : RB w a l) (hnil : a = none → cap = 0) (hn : n ≤ 1048576) :
    Calls Try.prog 16 #[.slice a n cap] w fun e w' => e = .returned (.string (strOfNums (letL l))) ∧ Below w.heap.size w w' := by
  go_enter Try.func16, Try.ntmps16
  go_wp2_with fail
  refine (iCopyB9L a n cap l w hl hr hnil hn).mono ?_
  rintro e w1 ⟨v1, rfl, ho, hb⟩
  obtain ⟨a1, c1, rfl, -⟩ := ho.rb
  rw [hl]
  have HB : Hid (Below w.heap.size w w1) := hb
  have HBd := hr.bd
  clear hr hb
  go_wp2_with fail
  go_loopw [10] (fun i wr => ∃ k : Nat, k ≤ n ∧ i = .int .i64 k ∧ OB wr w.heap.size (.slice a1 n c1) (letL (l.take k) ++ l.drop k) ∧ Hid (Below w.heap.size w wr)) (fun i _ => n - (intOf i).toNat)
  case atStart => exact ⟨0, Nat.zero_le _, rfl, by rw [hl] at ho; exact ho, HB⟩
  case round =>
    obtain ⟨k, hk, rfl, ho, hb⟩ := hrel
    by_cases hlt : k < n
    · have bk := getD_bd HBd k (by omega)
      obtain ⟨g, rfl⟩ : ∃ g, a1 = some ⟨g, 0, none⟩ := by
        obtain ⟨_, ⟨e, hz⟩ | ⟨g, cp, cur, e, _⟩⟩ := ho.own
        · simp [letL] at hz; omega
        · simp only [Value.slice.injEq] at e; exact ⟨g, e.1⟩
      have hlen : (letL (l.take k) ++ l.drop k).length = n := by simp [letL]; omega
      have hown := ho.own
      rw [hlen] at hown
      have ck : wr.cell? ⟨g, k, none⟩ = some (.int .u8 (l.getD k 0)) := by
        rw [hown.cellAt k (by omega), List.getElem?_map]
        have h := let_at (l := l) (k := k) (by omega)
        rw [List.getD_eq_getElem?_getD] at h
        have h2 : k < (letL (l.take k) ++ l.drop k).length := by omega
        rw [List.getElem?_eq_getElem h2] at h ⊢
        simp only [Option.getD_some] at h
        rw [h]; rfl
      have hg : w.heap.size ≤ g := (hown.lt g rfl).1
      have hfz := hown.frozenAt k
      by_cases hx : l.getD k 0 < 97 ∨ 122 < l.getD k 0
      · have hst := hown.stored k (.int .u8 46)
        have R : Hid (OB (wr.setCell ⟨g, k, none⟩ (.int .u8 46)) w.heap.size (.slice (some ⟨g, 0, none⟩) n c1) (letL (l.take (k + 1)) ++ l.drop (k + 1))) := by
          have e := let_set (l := l) (k := k) (by omega)
          rw [let1_dot hx] at e
          have hl2 : (letL (l.take (k + 1)) ++ l.drop (k + 1)).length = n := by simp [letL]; omega
          refine ⟨?_, ?_⟩
          · rw [hl2, ← e, List.map_set]; exact hst.1
          · intro y hy
            rcases List.mem_append.1 hy with hy | hy
            · exact letL_bd (fun z hz => HBd z (List.mem_of_mem_take hz)) y hy
            · exact HBd y (List.mem_of_mem_drop hy)
        have R2 : Hid (Below w.heap.size w (wr.setCell ⟨g, k, none⟩ (.int .u8 46))) := Below.grown hb.out hst.2 hb.out.size (fun j hj => by cases hj; exact hg)
        clear hst hown ho hb hlen
        generalize l.getD k 0 = x at *
        rcases hx with hx | hx
        · have hd1 : decide (x < 97) = true := by simp; omega
          go_wp2
          go_roundw
          case rel => exact ⟨k + 1, by omega, by go_num, R.out, R2.out⟩
          case measure => simp [intOf]; omega
        · have hd1 : decide (x < 97) = false := by simp; omega
          have hd2 : decide (122 < x) = true := by simp; omega
          go_wp2
          go_roundw
          case rel => exact ⟨k + 1, by omega, by go_num, R.out, R2.out⟩
          case measure => simp [intOf]; omega
      · have R : Hid (letL (l.take (k + 1)) ++ l.drop (k + 1) = letL (l.take k) ++ l.drop k) := let_same (by omega) (let1_id hx)
        have HO : Hid _ := ho
        clear hown ho hlen
        generalize l.getD k 0 = x at *
        have hd1 : decide (x < 97) = false := by simp; omega
        have hd2 : decide (122 < x) = false := by simp; omega
        go_wp2
        go_roundw
        case rel => exact ⟨k + 1, by omega, by go_num, by rw [R.out]; exact HO.out, hb.out⟩
        case measure => simp [intOf]; omega
    · obtain rfl : k = n := by omega
      rw [List.take_of_length_le (by omega), List.drop_of_length_le (by omega), List.append_nil] at ho
      obtain ⟨a2, c2, e2, hr1⟩ := ho.rb
      simp only [Value.slice.injEq] at e2
      obtain ⟨rfl, e2, rfl⟩ := e2
      have hcv := cv_strL a1 k c1 _ wr e2.symm hr1
      clear HB HBd e2
      go_wp2
      go_ret
      exact ⟨rfl, hb.out⟩

end Go.Proofs.Ytfpemobkkfobkaa
