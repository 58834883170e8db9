/- Slices of whole numbers: what a slice that is read holds, and what the law's own helpers (copy, compare) make of them; no condition but that there are at most a million. -/
import Derived.Test.YtbdibjeemgkdaaaGreatDoorRows
import Derived.WalkSmall
import Derived.Maps.AppendAt
import Derived.Deep.MidRow
import Derived.Test.YtbdibjeemgkdaaaGreatDoorK01
import Derived.Test.YtbdibjeemgkdaaaGreatDoorK02
import Derived.Test.YtbdibjeemgkdaaaGreatDoorK03
import Derived.Test.YtbdibjeemgkdaaaGreatDoorK04
import Derived.Test.YtbdibjeemgkdaaaGreatDoorK09
import Derived.Test.YtbdibjeemgkdaaaGreatDoorK10
import Derived.Test.YtbdibjeemgkdaaaGreatDoorK11
namespace Go.Proofs.YtbdibjeemgkdaaaGreatDoor
open Go.RowKit
set_option linter.unusedVariables false

theorem info_i64 : (Tryz.prog.info? 2).map (fun i => (i.zero, i.size, i.bytes)) = some (some (.int .i64 0), 1, 8) := by kernel_rfl

/-- The slice that begins at a reads as the numbers l. -/
structure RI (w : World) (a : Option Addr) (l : List Int) : Prop where
  mem : l = [] ∨ ∃ b off, a = some ⟨b, off, none⟩ ∧ ∀ i, i < l.length → w.cell? ⟨b, off + i, none⟩ = some (.int .i64 (l.getD i 0))

theorem RI.below {w w' : World} {a : Option Addr} {l : List Int} (h : RI w a l) {B : Nat} (hB : w.heap.size ≤ B) (hb : Below B w w') : RI w' a l := by
  refine ⟨?_⟩
  rcases h.mem with e | ⟨b, off, rfl, hc⟩
  · exact Or.inl e
  · refine Or.inr ⟨b, off, rfl, fun i hi => ?_⟩
    have hlt := cell_lt (hc i hi)
    rw [hb.cell (p := ⟨b, off + i, none⟩) (by simp at hlt ⊢; omega)]
    exact hc i hi
theorem RI.keep {w w' : World} {b off : Nat} {l : List Int} (h : RI w (some ⟨b, off, none⟩) l) (hk : w'.heap[b]? = w.heap[b]?) : RI w' (some ⟨b, off, none⟩) l := by
  refine ⟨?_⟩
  rcases h.mem with e | ⟨b', off', e, hc⟩
  · exact Or.inl e
  · simp only [Option.some.injEq, Addr.mk.injEq, and_true] at e
    obtain ⟨rfl, rfl⟩ := e
    exact Or.inr ⟨b, off, rfl, fun i hi => (World.cell?_of_block (w := w) (a := ⟨b, off + i, none⟩) hk).trans (hc i hi)⟩

theorem RI.nil (w : World) (a : Option Addr) : RI w a [] := ⟨Or.inl rfl⟩

theorem BRow.ri {w : World} {a : Option Addr} {len cap : Nat} {zs : List Int} (h : BRow .i64 w a len cap zs) : RI w a (zs.take len) ∧ (zs.take len).length = len := by
  have hlen : (zs.take len).length = len := by
    rcases h with ⟨_, rfl, _, rfl⟩ | ⟨x, rfl, h1, h2, h3, h4, h5⟩
    · rfl
    · rw [List.length_take]; omega
  refine ⟨⟨?_⟩, hlen⟩
  · by_cases hz : len = 0
    · left; subst hz; simp
    · right
      rcases h with ⟨_, h, _⟩ | ⟨x, rfl, h1, h2, h3, h4, h5⟩
      · omega
      · obtain ⟨b, off, spot⟩ := x
        have hc := h4 0 (by omega)
        have hspot : spot = none := by simpa [Addr.add] using World.cell?_spot hc
        subst hspot
        refine ⟨b, off, rfl, fun i hi => ?_⟩
        rw [hlen] at hi
        have := h4 i (by omega)
        rw [add_none] at this
        rw [this]
        simp [hi]

theorem ri_two (w : World) (b : Nat) (x y : Int) (t : TypeId) (hb : b = w.heap.size) : RI (w.alloc (.cells #[.int .i64 x, .int .i64 y] t)) (some ⟨b, 0, none⟩) [x, y] := by
  subst hb
  refine ⟨Or.inr ⟨_, _, rfl, fun i hi => ?_⟩⟩
  rw [World.cell?_alloc_new]
  match i, hi with
  | 0, _ => rfl
  | 1, _ => rfl
theorem ri_three (w : World) (b : Nat) (x y z : Int) (t : TypeId) (hb : b = w.heap.size) : RI (w.alloc (.cells #[.int .i64 x, .int .i64 y, .int .i64 z] t)) (some ⟨b, 0, none⟩) [x, y, z] := by
  subst hb
  refine ⟨Or.inr ⟨_, _, rfl, fun i hi => ?_⟩⟩
  rw [World.cell?_alloc_new]
  match i, hi with
  | 0, _ => rfl
  | 1, _ => rfl
  | 2, _ => rfl

theorem set_nextI {l : List Int} {k n : Nat} (hl : l.length = n) (hk : k < n) :
    (l.take k ++ List.replicate (n - k) 0).set k (l.getD k 0) = l.take (k + 1) ++ List.replicate (n - (k + 1)) 0 := by
  have h1 : (l.take k).length = k := by rw [List.length_take]; omega
  rw [List.set_append_right _ _ (by omega), h1, Nat.sub_self, show n - k = (n - (k + 1)) + 1 by omega, List.replicate_succ, List.set_cons_zero,
    List.take_succ_eq_append_getElem (by omega), List.append_assoc, List.getD_eq_getElem?_getD, List.getElem?_eq_getElem (by omega)]
  rfl


end Go.Proofs.YtbdibjeemgkdaaaGreatDoor

/- Plain facts on the mixing of whole numbers: what it leaves lies below 1000003, number by number; what is told of keys and proofs; no condition. -/
namespace Go.Proofs.YtbdibjeemgkdaaaGreatDoor
open Go.RowKit
set_option linter.unusedVariables false

/-- One number mixed in. -/
def mixS (h n : Int) : Int := (h * 8191 + n % 1000003 + 1) % 1000003
/-- Many numbers mixed. -/
def mixT (l : List Int) : Int := l.foldl mixS 17
def mixV (l : List Int) : Int := mixT l % 1000000

theorem mixS_bd (h n : Int) : 0 ≤ mixS h n ∧ mixS h n ≤ 1000002 := by unfold mixS; omega
theorem mixF_bd : ∀ (l : List Int) (h : Int), 0 ≤ h → h ≤ 1000002 → 0 ≤ l.foldl mixS h ∧ l.foldl mixS h ≤ 1000002
  | [], h, h0, h1 => ⟨h0, h1⟩
  | n :: l, h, _, _ => mixF_bd l (mixS h n) (mixS_bd h n).1 (mixS_bd h n).2
theorem mixT_bd (l : List Int) : 0 ≤ mixT l ∧ mixT l ≤ 1000002 := mixF_bd l 17 (by omega) (by omega)
theorem mixV_bd (l : List Int) : 0 ≤ mixV l ∧ mixV l ≤ 999999 := by unfold mixV; omega
theorem mixT_take {l : List Int} {k : Nat} (hk : k < l.length) : mixT (l.take (k + 1)) = mixS (mixT (l.take k)) (l.getD k 0) := by
  unfold mixT
  rw [List.take_succ_eq_append_getElem hk, List.foldl_append, List.getD_eq_getElem?_getD, List.getElem?_eq_getElem hk]
  rfl

theorem tmd_def (n : Int) : n.tmod 1000003 = n % 1000003 ∨ (n.tmod 1000003 = n % 1000003 - 1000003 ∧ n % 1000003 ≠ 0) := by
  rw [Int.tmod_eq_emod]
  by_cases h : 0 ≤ n ∨ (1000003 : Int) ∣ n
  · left; rw [if_pos h]; simp
  · right; rw [if_neg h]
    have h2 : ¬ (1000003 : Int) ∣ n := fun x => h (Or.inr x)
    exact ⟨by rfl, fun e => h2 (Int.dvd_of_emod_eq_zero e)⟩
theorem tmd_bd (n : Int) : -1000003 < n.tmod 1000003 ∧ n.tmod 1000003 < 1000003 := by have := tmd_def n; omega
theorem tmd_neg {n : Int} (h : n.tmod 1000003 < 0) : n.tmod 1000003 + 1000003 = n % 1000003 := by have := tmd_def n; omega
theorem tmd_pos {n : Int} (h : ¬ n.tmod 1000003 < 0) : n.tmod 1000003 = n % 1000003 := by have := tmd_def n; omega
theorem tmd_add (n : Int) : (n.tmod 1000003 + 1000003) % 1000003 = n % 1000003 := by have := tmd_def n; omega

theorem w64 {n : Int} (h : -9223372036854775808 ≤ n) (h' : n ≤ 9223372036854775807) : IntKind.i64.wrap n = n := by
  simp only [IntKind.wrap, IntKind.bits, IntKind.signed]; simp; omega
theorem mixS_w {h x : Int} (h0 : 0 ≤ h) (h1 : h ≤ 1000002) (r0 : 0 ≤ x) (r1 : x ≤ 1000002) : (IntKind.i64.wrap (IntKind.i64.wrap (IntKind.i64.wrap (h * 8191) + x) + 1)).tmod 1000003 = (h * 8191 + x + 1) % 1000003 := by
  rw [w64 (n := h * 8191) (by omega) (by omega), w64 (n := h * 8191 + x) (by omega) (by omega), w64 (by omega) (by omega)]
  exact Int.tmod_eq_emod_of_nonneg (by omega)

/-- A key. -/
def keyB (k : Int) : Bool := decide (1 ≤ k) && decide (k ≤ 999999)
def nonB (k : Int) : Bool := decide (0 ≤ k) && decide (k ≤ 1000000)
def tokC (k : Int) : Int := if keyB k then 0 else 3
def tokV (k u : Int) : Int := if keyB k then mixV [k, u] else 0
def prfB (a b n : Int) : Bool := keyB a && keyB b && nonB n
def prfC (a b n : Int) : Int := if prfB a b n then 0 else 3
def prfV (a b n : Int) : Int := if prfB a b n then mixV [a, b, n] else 0
def staV (k : Int) : Int := if keyB k then wrp (mixV [k, 2]) else 0
theorem tok_yes {k : Int} (h : keyB k = true) : tokC k = 0 := by simp [tokC, h]
theorem tok_no {k : Int} (h : ¬ keyB k = true) : tokC k = 3 := by simp [tokC, h]
theorem tokV_yes {k u : Int} (h : keyB k = true) : tokV k u = mixV [k, u] := by simp [tokV, h]
theorem tokV_no {k u : Int} (h : ¬ keyB k = true) : tokV k u = 0 := by simp [tokV, h]
theorem staV_yes {k : Int} (h : keyB k = true) : staV k = wrp (mixV [k, 2]) := by simp [staV, h]
theorem staV_no {k : Int} (h : ¬ keyB k = true) : staV k = 0 := by simp [staV, h]
theorem prf_yes {a b n : Int} (h1 : keyB a = true) (h2 : keyB b = true) (h3 : nonB n = true) : prfC a b n = 0 ∧ prfV a b n = mixV [a, b, n] := by simp [prfC, prfV, prfB, h1, h2, h3]
theorem prf_no {a b n : Int} (h : ¬ prfB a b n = true) : prfC a b n = 3 ∧ prfV a b n = 0 := by simp [prfC, prfV, h]
theorem prf_no1 {a b n : Int} (h : ¬ keyB a = true) : prfC a b n = 3 ∧ prfV a b n = 0 := prf_no (by simp [prfB, h])
theorem prf_no2 {a b n : Int} (h : ¬ keyB b = true) : prfC a b n = 3 ∧ prfV a b n = 0 := prf_no (by simp [prfB, h])
theorem prf_no3 {a b n : Int} (h : ¬ nonB n = true) : prfC a b n = 3 ∧ prfV a b n = 0 := prf_no (by simp [prfB, h])
def goodB (a b n p : Int) : Bool := prfB a b n && decide (mixV [a, b, n] = p)
theorem goodB_eq (a b n p : Int) : goodB a b n p = (decide (prfC a b n = 0) && decide (prfV a b n = p)) := by
  unfold goodB prfC prfV
  by_cases h : prfB a b n = true <;> simp [h]
theorem beq_dec (x y : Int) : (x == y) = decide (x = y) := by by_cases h : x = y <;> simp [h]
theorem prfV_bd (a b n : Int) : 0 ≤ prfV a b n ∧ prfV a b n ≤ 999999 := by
  unfold prfV; split
  · exact mixV_bd _
  · omega
theorem ret_pair' {c v c' v' : Int} (hc : c = c') (hv : v = v') : Ending.returned (.agg #[.int .i64 c, .int .i64 v]) = .returned (.agg #[.int .i64 c', .int .i64 v']) := by rw [hc, hv]
end Go.Proofs.YtbdibjeemgkdaaaGreatDoor

/- What mixing, keys, tokens, proofs and starts answer, of the program and of its model; nothing that was in memory turns; no condition but that there are at most a million numbers. -/
namespace Go.Proofs.YtbdibjeemgkdaaaGreatDoor
open Go.RowKit
set_option linter.unusedVariables false

theorem iRemainder (n : Int) (w : World) :
    Calls Tryz.prog 146 #[.int .i64 n, .int .i64 1000003] w fun e w' => e = .returned (.int .i64 (n % 1000003)) ∧ w' = w := by
  have hb := tmd_bd n
  by_cases h : n.tmod 1000003 < 0
  · go_enter Tryz.func146, Tryz.ntmps146
    go_wp2
    go_ret
    exact ⟨ret_int (tmd_neg h), rfl⟩
  · go_enter Tryz.func146, Tryz.ntmps146
    go_wp2
    go_ret
    exact ⟨ret_int (tmd_pos (by omega)), rfl⟩
set_option maxHeartbeats 400000 in
theorem iMix1 (b : Nat) (h n : Int) (w : World) (hc : w.cell? ⟨b, 0, none⟩ = some (.int .i64 h)) (hf : w.frozen? ⟨b, 0, none⟩ = false) (h0 : 0 ≤ h) (h1 : h ≤ 1000002) :
    Calls Tryz.prog 145 #[.int .i64 n, .pointer (some ⟨b, 0, none⟩)] w fun e w' => ∃ m, e = .returned (.tuple #[]) ∧ w' = (w.drewN m).setCell ⟨b, 0, none⟩ (.int .i64 (mixS h n)) := by
  have hr : 0 ≤ n % 1000003 ∧ n % 1000003 ≤ 1000002 := by omega
  obtain ⟨r0, r1⟩ := hr
  have HE : Hid ((h * 8191 + n % 1000003 + 1) % 1000003 = mixS h n) := rfl
  generalize hx : n % 1000003 = x at *
  have HX : Hid (n % 1000003 = x) := hx
  clear hx
  have e1 : 0 ≤ h * 8191 := by omega
  have e2 : h * 8191 ≤ 8191016382 := by omega
  go_enter Tryz.func145, Tryz.ntmps145
  go_region_with (go_at_call 146; refine (iRemainder _ _).mono ?_; rintro e w' ⟨rfl, hw⟩; subst w'; rw [HX.out])
  all_goals (go_wp2; go_end0; refine ⟨1, rfl, ?_⟩; rw [← HE.out, mixS_w h0 h1 r0 r1]; rfl)
set_option maxHeartbeats 400000 in
theorem iMixOf (a : Option Addr) (n cap : Nat) (l : List Int) (w : World) (hl : l.length = n) (hr : RI w a l) (hn : n ≤ 1048576) :
    Calls Tryz.prog 103 #[.slice a n cap] w fun e w' => e = .returned (.int .i64 (mixV l)) ∧ Below w.heap.size w w' := by
  have hmf : ∀ (fn : Fn) (first cap : Array Value) (w : World), (Instr.makeFunc fn first cap).run Tryz.prog w = .ok (.func fn first cap) w := fun _ _ _ _ => rfl
  go_enter Tryz.func103, Tryz.ntmps103
  go_wp2
  go_loopw [10] (fun i wr => ∃ k : Nat, k ≤ n ∧ i = .int .i64 k ∧ wr.cell? ⟨w.heap.size, 0, none⟩ = some (.int .i64 (mixT (l.take k))) ∧ wr.frozen? ⟨w.heap.size, 0, none⟩ = false ∧ Below w.heap.size w wr) (fun i _ => n - (intOf i).toNat)
  case atStart => exact ⟨0, Nat.zero_le _, rfl, by simp [mixT], by simp, by go_grown⟩
  case round =>
    obtain ⟨k, hk, rfl, hcl, hfz, hbl⟩ := hrel
    have hbd := mixT_bd (l.take k)
    by_cases hlt : k < n
    · rcases hr.mem with e | ⟨b, off, rfl, hc⟩
      · subst e; simp at hl; omega
      · have hck := hc k (by omega)
        have hlt2 := cell_lt hck
        have hck2 : wr.cell? ⟨b, off + k, none⟩ = some (.int .i64 (l.getD k 0)) := (hbl.cell (p := ⟨b, off + k, none⟩) hlt2).trans hck
        have HT : Hid (mixT (l.take (k + 1)) = mixS (mixT (l.take k)) (l.getD k 0)) := mixT_take (by omega)
        have HB : Hid _ := hbl
        clear hc hck hbl hlt2
        generalize l.getD k 0 = x at *
        generalize mixT (l.take k) = y at *
        go_wp2_with fail
        refine (iMix1 w.heap.size y x wr hcl hfz hbd.1 hbd.2).mono ?_
        rintro e w1 ⟨m, rfl, hw⟩
        subst w1
        go_wp2_with fail
        go_roundw
        case rel => exact ⟨k + 1, by omega, by go_num, by rw [HT.out]; go_simp, by go_simp, (below_drewN HB.out m).setCell (by simp) _⟩
        case measure => simp [intOf]; omega
    · obtain rfl : k = n := by omega
      have e : l.take k = l := List.take_of_length_le (by omega)
      rw [e] at hcl hbd
      obtain ⟨b0, b1⟩ := hbd
      have HV : Hid (mixT l % 1000000 = mixV l) := rfl
      clear hr
      generalize mixT l = y at *
      go_wp2
      go_ret
      exact ⟨ret_int HV.out, hbl⟩
end Go.Proofs.YtbdibjeemgkdaaaGreatDoor

/- What keys, tokens, proofs and starts answer, of the program; nothing that was in memory turns; no condition. -/
namespace Go.Proofs.YtbdibjeemgkdaaaGreatDoor
open Go.RowKit
set_option linter.unusedVariables false

/-- A box of two numbers, and a list laid behind it, behind a call that leaves both alone. -/
theorem two_box {w w1 : World} {x y : Value} {t : TypeId} {o : Obj} (hb : Below ((w.alloc (.cells #[x, y] t)).alloc o).heap.size ((w.alloc (.cells #[x, y] t)).alloc o) w1) :
    w1.cell? ⟨w.heap.size, 0, none⟩ = some x ∧ w1.cell? ⟨w.heap.size, 1, none⟩ = some y ∧ w1.frozen? ⟨w.heap.size, 0, none⟩ = false ∧ w1.frozen? ⟨w.heap.size, 1, none⟩ = false ∧ Below w.heap.size w w1 := by
  refine ⟨?_, ?_, ?_, ?_, ?_⟩
  · rw [hb.cell (p := ⟨w.heap.size, 0, none⟩) (by simp; omega)]; simp
  · rw [hb.cell (p := ⟨w.heap.size, 1, none⟩) (by simp; omega)]; simp
  · rw [hb.frozen (p := ⟨w.heap.size, 0, none⟩) (by simp; omega)]; simp
  · rw [hb.frozen (p := ⟨w.heap.size, 1, none⟩) (by simp; omega)]; simp
  · exact (((Below.refl _ _).alloc (Nat.le_refl _) _).alloc (by simp) _).trans (hb.mono (by simp; omega))

theorem one_box {w w1 : World} {x y : Value} {t : TypeId} (hb : Below (w.alloc (.cells #[x, y] t)).heap.size (w.alloc (.cells #[x, y] t)) w1) :
    w1.cell? ⟨w.heap.size, 0, none⟩ = some x ∧ w1.cell? ⟨w.heap.size, 1, none⟩ = some y ∧ w1.frozen? ⟨w.heap.size, 0, none⟩ = false ∧ w1.frozen? ⟨w.heap.size, 1, none⟩ = false ∧ Below w.heap.size w w1 := by
  refine ⟨?_, ?_, ?_, ?_, ?_⟩
  · rw [hb.cell (p := ⟨w.heap.size, 0, none⟩) (by simp)]; simp
  · rw [hb.cell (p := ⟨w.heap.size, 1, none⟩) (by simp)]; simp
  · rw [hb.frozen (p := ⟨w.heap.size, 0, none⟩) (by simp)]; simp
  · rw [hb.frozen (p := ⟨w.heap.size, 1, none⟩) (by simp)]; simp
  · exact ((Below.refl _ _).alloc (Nat.le_refl _) _).trans (hb.mono (by simp))

theorem iInBd (v low high : Int) (w : World) :
    Calls Tryz.prog 143 #[.int .i64 v, .int .i64 low, .int .i64 high] w fun e w' => e = .returned (.bool (decide (low ≤ v) && decide (v ≤ high))) ∧ w' = w := by
  by_cases h : low ≤ v
  · go_enter Tryz.func143, Tryz.ntmps143
    go_wp2
    go_ret
    exact ⟨ret_bool (by simp [h]), rfl⟩
  · have h' : decide (low ≤ v) = false := by simp; omega
    go_enter Tryz.func143, Tryz.ntmps143
    go_wp2
    go_ret
    exact ⟨ret_bool (by simp), rfl⟩
theorem iKeyFault (k : Int) (w : World) :
    Calls Tryz.prog 161 #[.int .i64 k] w fun e w' => e = .returned (.int .i64 (tokC k)) ∧ w' = w := by
  by_cases h : keyB k = true
  · rw [tok_yes h]
    have h' : (decide (1 ≤ k) && decide (k ≤ 999999)) = true := h
    go_enter Tryz.func161, Tryz.ntmps161
    go_wp2_with (go_at_call 143; refine (iInBd _ _ _ _).mono ?_; rintro e w' ⟨rfl, hw⟩; subst w'; rw [h'])
    go_ret
    exact ⟨rfl, rfl⟩
  · rw [tok_no h]
    have h' : (decide (1 ≤ k) && decide (k ≤ 999999)) = false := by simpa [keyB] using h
    go_enter Tryz.func161, Tryz.ntmps161
    go_wp2_with (go_at_call 143; refine (iInBd _ _ _ _).mono ?_; rintro e w' ⟨rfl, hw⟩; subst w'; rw [h'])
    go_ret
    exact ⟨rfl, rfl⟩
theorem iMixKey (k u : Int) (w : World) :
    Calls Tryz.prog 147 #[.int .i64 k, .int .i64 u] w fun e w' => e = .returned (.agg #[.int .i64 (tokC k), .int .i64 (tokV k u)]) ∧ Below w.heap.size w w' := by
  by_cases h : keyB k = true
  · rw [tok_yes h, tokV_yes h]
    have hk := fun w => iKeyFault k w
    rw [tok_yes h] at hk
    generalize hy : mixV [k, u] = y
    have HY : Hid (mixV [k, u] = y) := hy
    clear hy
    go_enter Tryz.func147, Tryz.ntmps147
    go_wp2_with (go_at_call 161; refine (hk _).mono ?_; rintro e w' ⟨rfl, hw⟩; subst w')
    refine (iMixOf (some ⟨w.heap.size + 1, 0, none⟩) 2 2 [k, u] _ (by rfl) (ri_two _ _ _ _ _ (by simp)) (by omega)).mono ?_
    rintro e w1 ⟨rfl, hb⟩
    obtain ⟨c0, c1, f0, f1, hbw⟩ := two_box hb
    clear hb
    rw [HY.out]
    go_wp2_with fail
    exact bodyPost_ret (v := .agg #[.int .i64 0, .int .i64 y]) (by simp [results, Tryz.results147, go_sem, c0, c1]) rfl ⟨rfl, (hbw.setCell (by simp) _).setCell (by simp) _⟩
  · rw [tok_no h, tokV_no h]
    have hk := fun w => iKeyFault k w
    rw [tok_no h] at hk
    go_enter Tryz.func147, Tryz.ntmps147
    go_wp2_with (go_at_call 161; refine (hk _).mono ?_; rintro e w' ⟨rfl, hw⟩; subst w')
    go_returns
    exact ⟨rfl, by go_grown⟩
theorem iTokenOf (k : Int) (w : World) :
    Calls Tryz.prog 104 #[.int .i64 k] w fun e w' => e = .returned (.agg #[.int .i64 (tokC k), .int .i64 (tokV k 1)]) ∧ Below w.heap.size w w' := by
  generalize hy : tokV k 1 = y
  have HY : Hid (tokV k 1 = y) := hy
  clear hy
  generalize hz : tokC k = z
  have HZ : Hid (tokC k = z) := hz
  clear hz
  go_enter Tryz.func104, Tryz.ntmps104
  go_wp2_with fail
  refine (iMixKey k 1 _).mono ?_
  rintro e w1 ⟨rfl, hb⟩
  rw [HY.out, HZ.out]
  obtain ⟨c0, c1, f0, f1, hbw⟩ := one_box hb
  clear hb
  go_wp2_with fail
  exact bodyPost_ret (v := .agg #[.int .i64 z, .int .i64 y]) (by simp [results, Tryz.results104, go_sem, c0, c1]) rfl ⟨rfl, (hbw.setCell (by simp) _).setCell (by simp) _⟩
end Go.Proofs.YtbdibjeemgkdaaaGreatDoor

/- What mixing, keys, tokens, proofs and starts answer, of the model; nothing that was in memory turns; no condition. -/
namespace Go.Proofs.YtbdibjeemgkdaaaGreatDoor
open Go.RowKit
set_option linter.unusedVariables false

set_option maxHeartbeats 400000 in
theorem sMixOf (a : Option Addr) (n cap : Nat) (l : List Int) (w : World) (hl : l.length = n) (hr : RI w a l) (hn : n ≤ 1048576) :
    Calls Tryz.prog 94 #[.slice a n cap] w fun e w' => e = .returned (.int .i64 (mixV l)) ∧ w' = w := by
  go_enter Tryz.func94, Tryz.ntmps94
  go_wp2
  go_loop [3, 4] (fun t i => ∃ k : Nat, k ≤ n ∧ i = .int .i64 k ∧ t = .int .i64 (mixT (l.take k))) (fun _ i => n - (intOf i).toNat)
  case atStart => exact ⟨0, Nat.zero_le _, rfl, by simp [mixT]⟩
  case round =>
    obtain ⟨k, hk, rfl, rfl⟩ := hrel
    have hbd := mixT_bd (l.take k)
    by_cases hlt : k < n
    · rcases hr.mem with e | ⟨b, off, rfl, hc⟩
      · subst e; simp at hl; omega
      · have hck := hc k (by omega)
        have HT : Hid (mixT (l.take (k + 1)) = mixS (mixT (l.take k)) (l.getD k 0)) := mixT_take (by omega)
        clear hc hr
        generalize l.getD k 0 = x at *
        generalize mixT (l.take k) = y at *
        obtain ⟨b0, b1⟩ := hbd
        obtain ⟨t0, t1⟩ := tmd_bd x
        have HX : Hid ((x.tmod 1000003 + 1000003) % 1000003 = x % 1000003) := tmd_add x
        have q0 : 0 ≤ x.tmod 1000003 + 1000003 := by omega
        have z0 : 0 ≤ (x.tmod 1000003 + 1000003) % 1000003 := by omega
        have z1 : (x.tmod 1000003 + 1000003) % 1000003 ≤ 1000002 := by omega
        go_wp2
        go_round
        case rel => exact ⟨k + 1, by omega, by go_num, by rw [HT.out]; unfold mixS; rw [← HX.out]; congr 1; omega⟩
        case measure => simp [intOf]; omega
    · obtain rfl : k = n := by omega
      have e : l.take k = l := List.take_of_length_le (by omega)
      rw [e] at hbd ⊢
      obtain ⟨b0, b1⟩ := hbd
      have HV : Hid (mixT l % 1000000 = mixV l) := rfl
      clear hr
      generalize mixT l = y at *
      go_wp2
      go_ret
      exact ⟨ret_int HV.out, rfl⟩
theorem sInM (v low high : Int) (w : World) :
    Calls Tryz.prog 52 #[.int .i64 v, .int .i64 low, .int .i64 high] w fun e w' => e = .returned (.bool (decide (low ≤ v) && decide (v ≤ high))) ∧ w' = w := by
  by_cases h : low ≤ v
  · go_enter Tryz.func52, Tryz.ntmps52
    go_wp2
    go_ret
    exact ⟨ret_bool (by simp [h]), rfl⟩
  · have h' : decide (low ≤ v) = false := by simp; omega
    go_enter Tryz.func52, Tryz.ntmps52
    go_wp2
    go_ret
    exact ⟨ret_bool (by simp), rfl⟩
theorem sKey (k : Int) (w : World) :
    Calls Tryz.prog 63 #[.int .i64 k] w fun e w' => e = .returned (.bool (keyB k)) ∧ w' = w := by
  go_enter Tryz.func63, Tryz.ntmps63
  go_wp2_with (go_at_call 52; refine (sInM _ _ _ _).mono ?_; rintro e w' ⟨rfl, hw⟩; subst w')
  go_ret
  exact ⟨rfl, rfl⟩
theorem sL4Token (k : Int) (w : World) :
    Calls Tryz.prog 95 #[.int .i64 k] w fun e w' => e = .returned (.int .i64 (mixV [k, 1])) ∧ Below w.heap.size w w' := by
  go_enter Tryz.func95, Tryz.ntmps95
  go_wp2_with fail
  refine (sMixOf (some ⟨w.heap.size, 0, none⟩) 2 2 [k, 1] _ (by rfl) (ri_two _ _ _ _ _ (by simp)) (by omega)).mono ?_
  rintro e w1 ⟨rfl, hw⟩
  subst w1
  go_wp2_with fail
  go_ret
  exact ⟨rfl, by go_grown⟩
end Go.Proofs.YtbdibjeemgkdaaaGreatDoor

/- Small laws for regions whose loads are of two boxes: what is kept of them over calls, new boxes and stores elsewhere; no condition. -/
namespace Go.Proofs.YtbdibjeemgkdaaaGreatDoor
open Go.RowKit
set_option linter.unusedVariables false

/-- Two boxes are as they were, and all that was there before. -/
structure SB2 (w : World) (m b0 b1 : Nat) (A X : Array Value) (w' : World) : Prop where
  bl : Below w.heap.size w w'
  sz : w.heap.size + m ≤ w'.heap.size
  k0 : ∀ o, w'.cell? ⟨b0, o, none⟩ = A[o]?
  k1 : ∀ o, w'.cell? ⟨b1, o, none⟩ = X[o]?
theorem SB2.below {w wc wn : World} {m b0 b1 : Nat} {A X : Array Value} (h : SB2 w m b0 b1 A X wc) (hb : Below wc.heap.size wc wn) (h0 : b0 < w.heap.size + m) (h1 : b1 < w.heap.size + m) : SB2 w m b0 b1 A X wn :=
  ⟨h.bl.trans (hb.mono h.bl.size), Nat.le_trans h.sz hb.size, bx_below h.k0 (Nat.lt_of_lt_of_le h0 h.sz) hb, bx_below h.k1 (Nat.lt_of_lt_of_le h1 h.sz) hb⟩
theorem SB2.drew {w wc : World} {m b0 b1 : Nat} {A X : Array Value} (h : SB2 w m b0 b1 A X wc) : SB2 w m b0 b1 A X wc.drew := ⟨h.bl.drew, h.sz, h.k0, h.k1⟩
theorem SB2.set {w wc : World} {m b0 b1 : Nat} {A X : Array Value} (h : SB2 w m b0 b1 A X wc) {g k : Nat} {v : Value} (hg : w.heap.size ≤ g) (h0 : b0 ≠ g) (h1 : b1 ≠ g) : SB2 w m b0 b1 A X (wc.setCell ⟨g, k, none⟩ v) :=
  ⟨h.bl.setCell (p := ⟨g, k, none⟩) hg _, by simpa using h.sz, fun o => by rw [← h.k0 o]; exact World.cell?_of_block (Below.heap_setCell _ _ _ _ (by dsimp only; exact h0)), fun o => by rw [← h.k1 o]; exact World.cell?_of_block (Below.heap_setCell _ _ _ _ (by dsimp only; exact h1))⟩
theorem SB2.sets {w wc : World} {m b0 b1 : Nat} {A X : Array Value} (h : SB2 w m b0 b1 A X wc) {g k : Nat} {vs : List Value} (hg : w.heap.size ≤ g) (h0 : b0 ≠ g) (h1 : b1 ≠ g) : SB2 w m b0 b1 A X (wc.setCells g k vs) :=
  ⟨setCells_below hg _ _ _ _ h.bl, by rw [setCells_size]; exact h.sz, bx_setOff h.k0 h0, bx_setOff h.k1 h1⟩
theorem SB2.alloc {w wc : World} {m b0 b1 : Nat} {A X : Array Value} (h : SB2 w m b0 b1 A X wc) (o : Obj) (h0 : b0 < w.heap.size + m) (h1 : b1 < w.heap.size + m) : SB2 w m b0 b1 A X (wc.alloc o) :=
  h.below ((Below.refl _ _).alloc (Nat.le_refl _) _) h0 h1
theorem bx_setC {w : World} {b g k : Nat} {v : Value} {A : Array Value} (h : ∀ o, w.cell? ⟨b, o, none⟩ = A[o]?) (hne : b ≠ g) : ∀ o, (w.setCell ⟨g, k, none⟩ v).cell? ⟨b, o, none⟩ = A[o]? := fun o => by rw [← h o]; exact World.cell?_of_block (Below.heap_setCell _ _ _ _ (by dsimp only; exact hne))
theorem fx_setC {w : World} {b g k : Nat} {v : Value} (h : ∀ o, w.frozen? ⟨b, o, none⟩ = false) : ∀ o, (w.setCell ⟨g, k, none⟩ v).frozen? ⟨b, o, none⟩ = false := fun o => by rw [World.frozen?_setCell]; exact h o
/-- Two boxes, the answer's box Z, and a new one G. -/
structure KB (w : World) (A X Z G : Array Value) (g : Nat) (W : World) : Prop where
  sb : SB2 w 3 w.heap.size (w.heap.size + 1) A X W
  lo : w.heap.size + 3 ≤ g
  lt : g < W.heap.size
  kg : ∀ o, W.cell? ⟨g, o, none⟩ = G[o]?
  fg : ∀ o, W.frozen? ⟨g, o, none⟩ = false
  kr : ∀ o, W.cell? ⟨w.heap.size + 2, o, none⟩ = Z[o]?
  fr : ∀ o, W.frozen? ⟨w.heap.size + 2, o, none⟩ = false
theorem bx_sub {w : World} {b k : Nat} {X : Array Value} {cs : List Value} (h : ∀ o, w.cell? ⟨b, o, none⟩ = X[o]?) (hx : ∀ j v, cs[j]? = some v → X[k + j]? = some v) : w.rangeAt b k cs := fun j v hv => by
  rw [h (k + j)]; exact hx j v hv
theorem sub4 {X : Array Value} {k : Nat} {a b c d : Value} (h0 : X[k]? = some a) (h1 : X[k + 1]? = some b) (h2 : X[k + 2]? = some c) (h3 : X[k + 3]? = some d) : ∀ j v, [a, b, c, d][j]? = some v → X[k + j]? = some v := fun j v hv => by
  match j, hv with
  | 0, hv => simpa using h0.trans hv
  | 1, hv => simpa using h1.trans hv
  | 2, hv => simpa using h2.trans hv
  | 3, hv => simpa using h3.trans hv
  | n + 4, hv => simp at hv
theorem sub3 {X : Array Value} {k : Nat} {a b c : Value} (h0 : X[k]? = some a) (h1 : X[k + 1]? = some b) (h2 : X[k + 2]? = some c) : ∀ j v, [a, b, c][j]? = some v → X[k + j]? = some v := fun j v hv => by
  match j, hv with
  | 0, hv => simpa using h0.trans hv
  | 1, hv => simpa using h1.trans hv
  | 2, hv => simpa using h2.trans hv
  | n + 3, hv => simp at hv
/-- A field of an answer of two numbers. -/
theorem fldI (a b : Value) (w : World) : Sem.run Tryz.prog (Instr.field 53 (.agg #[a, b]) 1) w = .ok b w := by
  simp [Instr.field, asAgg, part, go_sem]
theorem fldI0 (a b : Value) (w : World) : Sem.run Tryz.prog (Instr.field 53 (.agg #[a, b]) 0) w = .ok a w := by
  simp [Instr.field, asAgg, part, go_sem]
end Go.Proofs.YtbdibjeemgkdaaaGreatDoor

/- A conn's fault is one of the codes: small numbers; no condition. -/
namespace Go.Proofs.YtbdibjeemgkdaaaGreatDoor
open Go.RowKit
set_option linter.unusedVariables false
set_option maxRecDepth 8000

def Small (n : Int) : Prop := 0 ≤ n ∧ n ≤ 10
theorem small_c {n : Int} (h0 : 0 ≤ n) (h1 : n ≤ 10) : Small n := ⟨h0, h1⟩
theorem small_ite {c : Prop} [Decidable c] {a b : Int} (ha : Small a) (hb : Small b) : Small (if c then a else b) := by split; exact ha; exact hb
theorem pcFault_bd (a : Int) (n : Nat) (e : Int) : Small (pcFault a n e) := by unfold pcFault Small; (repeat' split) <;> omega
theorem pcsFault_bd : ∀ (ps : List Pc) (e : Int), Small (pcsFault e ps)
  | [], e => small_c (by simp [pcsFault]) (by simp [pcsFault])
  | p :: ps, e => by rw [pcsFault]; exact small_ite (pcFault_bd _ _ _) (pcsFault_bd ps _)
theorem gtFault_bd (g : Gt) : Small (gtFault g) := by unfold gtFault; exact small_ite (small_c (by omega) (by omega)) (pcsFault_bd _ _)
theorem flFault_bd (x : DFlight) (e : Int) : Small (flFault x e) := by unfold flFault Small; (repeat' split) <;> omega
theorem flsFault_bd : ∀ (l : List DFlight) (next e : Int), Small (flsFault next e l)
  | [], next, e => by rw [flsFault]; exact small_ite (small_c (by omega) (by omega)) (small_c (by omega) (by omega))
  | p :: ps, next, e => by rw [flsFault]; exact small_ite (flsFault_bd ps _ _) (flFault_bd _ _)
theorem sndFault_bd (x : DSender) : Small (sndFault x) := by unfold sndFault; exact small_ite (small_c (by omega) (by omega)) (small_ite (small_c (by omega) (by omega)) (flsFault_bd _ _ _))
theorem spF_bd (x : DSpan) (e : Int) : Small (spF x e) := by unfold spF Small; (repeat' split) <;> omega
theorem spsF_bd : ∀ (l : List DSpan) (e : Int), Small (spsF e l)
  | [], e => small_c (by simp [spsF]) (by simp [spsF])
  | p :: ps, e => by rw [spsF]; exact small_ite (spsF_bd ps _) (spF_bd _ _)
theorem caF_bd (x : DCatch) : Small (caF x) := by unfold caF; exact small_ite (small_c (by omega) (by omega)) (small_ite (small_c (by omega) (by omega)) (spsF_bd _ _))
theorem ctF_bd (a b p : Int) : Small (ctF a b p) := by unfold ctF; exact small_ite (small_c (by omega) (by omega)) (small_c (by omega) (by omega))
theorem subF_bd (x : DSub) : Small (subF x) := by
  unfold subF
  exact small_ite (small_c (by omega) (by omega)) (small_ite (small_ite (small_ite (small_ite (small_c (by omega) (by omega)) (small_c (by omega) (by omega))) (ctF_bd _ _ _)) (caF_bd _)) (sndFault_bd _))
theorem subsFrom_bd : ∀ (l pre : List DSub), Small (subsFrom pre l)
  | [], pre => small_c (by simp [subsFrom]) (by simp [subsFrom])
  | x :: xs, pre => by rw [subsFrom]; exact small_ite (subF_bd _) (small_ite (small_c (by omega) (by omega)) (small_ite (small_c (by omega) (by omega)) (subsFrom_bd xs _)))
theorem connF_bd (c : DConn) : Small (connF c) := by
  have k : ∀ n : Int, 0 ≤ n → n ≤ 10 → Small n := fun _ h0 h1 => ⟨h0, h1⟩
  unfold connF
  exact small_ite (k _ (by omega) (by omega)) (small_ite (k _ (by omega) (by omega)) (small_ite (k _ (by omega) (by omega)) (small_ite (k _ (by omega) (by omega)) (small_ite (gtFault_bd _) (small_ite (k _ (by omega) (by omega)) (small_ite (k _ (by omega) (by omega)) (small_ite (subsFrom_bd _ _) (small_ite (k _ (by omega) (by omega)) (small_ite (k _ (by omega) (by omega)) (k _ (by omega) (by omega)))))))))))
end Go.Proofs.YtbdibjeemgkdaaaGreatDoor
