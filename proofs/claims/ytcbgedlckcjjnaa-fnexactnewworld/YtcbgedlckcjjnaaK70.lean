/- NewConn of the program and of its model, alone; nothing that was in memory turns; no condition. Taken out of ConnNew by mknewc.py. -/
import Derived.Test.YtcbgedlckcjjnaaRows
import Derived.Deep.RegionHeld3
import Derived.Deep.DeepCutAuto
import Derived.Deep.MidRow
import Derived.Deep.DeepMust
import Derived.Test.YtcbgedlckcjjnaaK01
import Derived.Test.YtcbgedlckcjjnaaK02
import Derived.Test.YtcbgedlckcjjnaaK03
import Derived.Test.YtcbgedlckcjjnaaK04
import Derived.Test.YtcbgedlckcjjnaaK09
import Derived.Test.YtcbgedlckcjjnaaK10
import Derived.Test.YtcbgedlckcjjnaaK11
import Derived.Test.YtcbgedlckcjjnaaK17
import Derived.Test.YtcbgedlckcjjnaaK19
import Derived.Test.YtcbgedlckcjjnaaK20
import Derived.Test.YtcbgedlckcjjnaaK55
import Derived.Test.YtcbgedlckcjjnaaK56
import Derived.Test.YtcbgedlckcjjnaaK57
import Derived.Test.YtcbgedlckcjjnaaK58
import Derived.Test.YtcbgedlckcjjnaaK59
import Derived.Test.YtcbgedlckcjjnaaK64
import Derived.Test.YtcbgedlckcjjnaaK65
import Derived.Test.YtcbgedlckcjjnaaK66
import Derived.Test.YtcbgedlckcjjnaaK67
import Derived.Test.YtcbgedlckcjjnaaK68
import Derived.Test.YtcbgedlckcjjnaaK69
namespace Go.Proofs.Ytcbgedlckcjjnaa
open Go.RowKit
set_option linter.unusedVariables false
set_option maxRecDepth 8000

def inN (v lo hi : Int) : Bool := decide (lo ≤ v) && decide (v ≤ hi)
def keyN (k : Int) : Bool := inN k 1 999999
theorem sInN (v low high : Int) (w : World) :
    Calls Try.prog 19 #[.int .i64 v, .int .i64 low, .int .i64 high] w fun e w' => e = .returned (.bool (inN v low high)) ∧ w' = w := by
  by_cases h : low ≤ v
  · go_enter Try.func19, Try.ntmps19
    go_wp2
    go_ret
    exact ⟨ret_bool (by simp [inN, h]), rfl⟩
  · have h' : decide (low ≤ v) = false := by simp; omega
    go_enter Try.func19, Try.ntmps19
    go_wp2
    go_ret
    exact ⟨ret_bool (by simp [inN]; omega), rfl⟩
theorem iInN (v low high : Int) (w : World) :
    Calls Try.prog 22 #[.int .i64 v, .int .i64 low, .int .i64 high] w fun e w' => e = .returned (.bool (inN v low high)) ∧ w' = w := by
  by_cases h : low ≤ v
  · go_enter Try.func22, Try.ntmps22
    go_wp2
    go_ret
    exact ⟨ret_bool (by simp [inN, h]), rfl⟩
  · have h' : decide (low ≤ v) = false := by simp; omega
    go_enter Try.func22, Try.ntmps22
    go_wp2
    go_ret
    exact ⟨ret_bool (by simp [inN]; omega), rfl⟩
theorem sKeyN (k : Int) (w : World) : Calls Try.prog 20 #[.int .i64 k] w fun e w' => e = .returned (.bool (keyN k)) ∧ w' = w := by
  go_enter Try.func20, Try.ntmps20
  go_wp2_with (go_at_call 19; refine (sInN _ _ _ _).mono ?_; rintro e w' ⟨rfl, hw⟩; subst w')
  go_ret
  exact ⟨rfl, rfl⟩
theorem iKeyN (k : Int) (w : World) : Calls Try.prog 23 #[.int .i64 k] w fun e w' => e = .returned (.int .i64 (if keyN k = true then 0 else 3)) ∧ w' = w := by
  have HI : Hid (∀ W, Calls Try.prog 22 #[.int .i64 k, .int .i64 1, .int .i64 999999] W fun e w' => e = .returned (.bool (keyN k)) ∧ w' = W) := fun W => iInN k 1 999999 W
  cases h : keyN k with
  | true =>
    rw [h] at HI
    clear h
    go_enter Try.func23, Try.ntmps23
    go_wp2_with (go_at_call 22; refine (HI.out _).mono ?_; rintro e w' ⟨rfl, hw⟩; subst w')
    go_ret
    exact ⟨rfl, rfl⟩
  | false =>
    rw [h] at HI
    clear h
    go_enter Try.func23, Try.ntmps23
    go_wp2_with (go_at_call 22; refine (HI.out _).mono ?_; rintro e w' ⟨rfl, hw⟩; subst w')
    go_ret
    exact ⟨rfl, rfl⟩
theorem info_C14 : (Try.prog.info? 42).map (·.size) = some 14 := by kernel_rfl
theorem info_C18 : (Try.prog.info? 44).map (·.size) = some 18 := by kernel_rfl
/-- What owns no block reads, wherever. -/
theorem nil_rd {w w' : World} {B : Nat} : ∀ (s : Sh) (d : s.El) (cs : List Value), s.Ow w [] d cs → s.Rd w' B d cs
  | .int _, _, _, h => h.2
  | .bool, _, _, h => h.2
  | .row t e, l, cs, h => by
    rcases h with ⟨_, h1, rfl⟩ | ⟨g, cap, cur, F, h1, h2, _⟩
    · exact ⟨none, 0, h1, ⟨Nat.le_refl _, Nat.zero_le _⟩, fun _ => rfl, 0, 0, fun h => absurd rfl h, fun i hi => by simp at hi⟩
    · cases h2
  | .rowO t e, l, cs, h => by
    rcases h with ⟨_, rfl, a, cap, h1, hm, hn⟩ | ⟨g, off, cap, cur, F, h1, h2, _⟩
    · exact ⟨a, cap, h1, ⟨Nat.zero_le _, hm⟩, hn, 0, 0, fun h => absurd rfl h, fun i hi => by simp at hi⟩
    · cases h2
  | .nil, _, _, h => h.2
  | .cons f r, d, cs, ⟨b1, b2, c1, c2, h0, h1, h2, h3⟩ => by
    have e1 : b1 = [] := (List.append_eq_nil_iff.1 h0.symm).1
    have e2 : b2 = [] := (List.append_eq_nil_iff.1 h0.symm).2
    subst e1 e2
    exact ⟨c1, c2, h1, nil_rd f _ _ h2, nil_rd r _ _ h3⟩
def nc14 (s k f : Int) : List Value := [.int .i64 s, .int .i64 k, .int .i64 0, .bool false, .bool false, .slice none 0 0, .bool false, .int .i64 0, .bool false, .slice none 0 0, .slice none 0 0, .int .i64 f, .int .i64 0, .slice none 0 0]
def nc18 (c s k f : Int) : Array Value := #[.int .i64 c, .int .i64 s, .int .i64 k, .int .i64 0, .bool false, .bool false, .slice none 0 0, .bool false, .int .i64 0, .bool false, .slice none 0 0, .slice none 0 0, .int .i64 f, .int .i64 0, .slice none 0 0, .slice none 0 0, .slice none 0 0, .bool false]
def nconn (s k f : Int) : DConn := (s, k, 0, false, false, [], false, 0, false, ([], [], ()), f, 0, [], ())
/-- The conn within a new answer's box. -/
theorem nc_range {w : World} {b : Nat} {c s k f : Int} (h : ∀ o, w.cell? ⟨b, o, none⟩ = (nc18 c s k f)[o]?) : w.rangeAt b 1 (nc14 s k f) := fun j v hv => by
  rw [h (1 + j), Nat.add_comm 1 j]
  have e : (nc18 c s k f)[j + 1]? = ((nc14 s k f) ++ [.slice none 0 0, .slice none 0 0, .bool false])[j]? := by unfold nc18 nc14; rw [List.getElem?_toArray, List.getElem?_cons_succ]; rfl
  rw [e, List.getElem?_append_left (List.getElem?_eq_some_iff.1 hv).1]
  exact hv
def newC (s k : Int) : Int := if (inN s 0 1 && keyN k) = true then 0 else 3
def newA (s k : Int) : Array Value := if (inN s 0 1 && keyN k) = true then nc18 0 s k (-1) else nc18 3 0 0 0
theorem nc_one (c s k f : Int) : (nc18 c s k f).all (·.oneCell') = true := by unfold nc18; simp [Value.oneCell']
theorem sL9Bad (q : Int) (w : World) : Calls Try.prog 21 #[.int .i64 q] w fun e w' => e = .returned (.agg (nc18 q 0 0 0)) ∧ Below w.heap.size w w' := by
  obtain ⟨N, hN⟩ : ∃ N, N = nc18 q 0 0 0 := ⟨_, rfl⟩
  have HN : Hid _ := hN
  have hz : N.size = 18 := by rw [hN]; rfl
  have HI : Hid ((Try.prog.info? 44).map (·.size) = some N.size) := by show _ = _; rw [hz]; exact info_C18
  have HONE : Hid (N.all (·.oneCell') = true) := by show _ = _; rw [hN]; exact nc_one _ _ _ _
  rw [← hN]
  clear hN
  have kR := bx_al w (#[.int .i64 0, .int .i64 0, .int .i64 0, .int .i64 0, .bool false, .bool false, .slice none 0 0, .bool false, .int .i64 0, .bool false, .slice none 0 0, .slice none 0 0, .int .i64 0, .int .i64 0, .slice none 0 0, .slice none 0 0, .slice none 0 0, .bool false]) 44
  have HTH : Hid ((w.alloc (.cells #[.int .i64 0, .int .i64 0, .int .i64 0, .int .i64 0, .bool false, .bool false, .slice none 0 0, .bool false, .int .i64 0, .bool false, .slice none 0 0, .slice none 0 0, .int .i64 0, .int .i64 0, .slice none 0 0, .slice none 0 0, .slice none 0 0, .bool false] 44)).there w.heap.size 0 N.size) := bx_there kR (fx_al _ _ _) (by rw [hz]; rfl)
  have HB : Hid (Below w.heap.size w (w.alloc (.cells #[.int .i64 0, .int .i64 0, .int .i64 0, .int .i64 0, .bool false, .bool false, .slice none 0 0, .bool false, .int .i64 0, .bool false, .slice none 0 0, .slice none 0 0, .int .i64 0, .int .i64 0, .slice none 0 0, .slice none 0 0, .slice none 0 0, .bool false] 44))) := (Below.refl _ _).alloc (Nat.le_refl _) _
  have HZ : Hid _ := hz
  clear hz
  have HK : Hid _ := kR
  clear kR
  go_enter Try.func21, Try.ntmps21
  go_wp2_with (refine wpList_store_mid rfl 44 _ _ rfl _ _ N (by rfl) (by rw [HN.out]; rfl) HTH.out HI.out HONE.out ?_)
  have hz := HZ.out
  have kR := HK.out
  refine bodyPost_ret (results_box Try.results21 _ _ _ N _ (by rfl) (bx_setCells (A' := N) kR (by rw [hz]; rfl)) Try.underlying44 rfl HI.out) rfl ⟨rfl, ?_⟩
  exact setCells_below (Nat.le_refl _) _ _ _ _ HB.out
set_option maxHeartbeats 1000000 in
theorem sNewConn (s k : Int) (w : World) : Calls Try.prog 9 #[.int .i64 s, .int .i64 k] w fun e w' => e = .returned (.agg (newA s k)) ∧ Below w.heap.size w w' := by
  have kR := bx_al w (#[.int .i64 0, .int .i64 0, .int .i64 0, .int .i64 0, .bool false, .bool false, .slice none 0 0, .bool false, .int .i64 0, .bool false, .slice none 0 0, .slice none 0 0, .int .i64 0, .int .i64 0, .slice none 0 0, .slice none 0 0, .slice none 0 0, .bool false]) 44
  have HB : Hid (Below w.heap.size w (w.alloc (.cells #[.int .i64 0, .int .i64 0, .int .i64 0, .int .i64 0, .bool false, .bool false, .slice none 0 0, .bool false, .int .i64 0, .bool false, .slice none 0 0, .slice none 0 0, .int .i64 0, .int .i64 0, .slice none 0 0, .slice none 0 0, .slice none 0 0, .bool false] 44))) := (Below.refl _ _).alloc (Nat.le_refl _) _
  cases h0 : inN s 0 1 with
  | false =>
    have hA : newA s k = nc18 3 0 0 0 := by unfold newA; simp [h0]
    rw [hA]
    clear hA
    obtain ⟨N, hN⟩ : ∃ N, N = nc18 3 0 0 0 := ⟨_, rfl⟩
    have HN : Hid _ := hN
    have hz : N.size = 18 := by rw [hN]; rfl
    have HI : Hid ((Try.prog.info? 44).map (·.size) = some N.size) := by show _ = _; rw [hz]; exact info_C18
    have HONE : Hid (N.all (·.oneCell') = true) := by show _ = _; rw [hN]; exact nc_one _ _ _ _
    rw [← hN]
    clear hN
    have HTX : Hid ((w.alloc (.cells #[.int .i64 0, .int .i64 0, .int .i64 0, .int .i64 0, .bool false, .bool false, .slice none 0 0, .bool false, .int .i64 0, .bool false, .slice none 0 0, .slice none 0 0, .int .i64 0, .int .i64 0, .slice none 0 0, .slice none 0 0, .slice none 0 0, .bool false] 44)).there w.heap.size 0 N.size) := bx_there kR (fx_al _ _ _) (by rw [hz]; rfl)
    have HZ : Hid _ := hz
    clear hz
    have HK : Hid _ := kR
    clear kR
    go_enter Try.func9, Try.ntmps9
    go_wp2_with (first | (go_at_call 19; refine (sInN _ _ _ _).mono ?_; rintro e w' ⟨rfl, hw⟩; subst w') | (go_at_call 20; refine (sKeyN _ _).mono ?_; rintro e w' ⟨rfl, hw⟩; subst w'))
    refine (sL9Bad 3 _).mono ?_
    rintro e w1 ⟨rfl, hb⟩
    have hz := HZ.out
    have kR := bx_new hb
    have fR : ∀ o, w1.frozen? ⟨w.heap.size, o, none⟩ = false := fun o => by rw [hb.frozen (p := ⟨w.heap.size, o, none⟩) (by simp)]; simp [go_sem]
    replace HTX : Hid (w1.there w.heap.size 0 N.size) := bx_there kR fR (by rw [hz]; rfl)
    replace HB : Hid (Below w.heap.size w w1) := (bl_new hb).1
    clear hb fR
    rw [← HN.out]
    replace HK : Hid _ := kR
    clear kR hz
    go_wp2_with (refine wpList_store_mid rfl 44 _ _ rfl _ _ N (by rfl) (by rfl) HTX.out HI.out HONE.out ?_)
    have hz := HZ.out
    have kR := HK.out
    refine bodyPost_ret (results_box Try.results9 _ _ _ N _ (by rfl) (bx_setCells (A' := N) kR (by rw [hz]; rfl)) Try.underlying44 rfl HI.out) rfl ⟨rfl, ?_⟩
    exact setCells_below (Nat.le_refl _) _ _ _ _ HB.out
  | true =>
    cases h1 : keyN k with
    | false =>
      have hA : newA s k = nc18 3 0 0 0 := by unfold newA; simp [h0, h1]
      rw [hA]
      clear hA
      obtain ⟨N, hN⟩ : ∃ N, N = nc18 3 0 0 0 := ⟨_, rfl⟩
      have HN : Hid _ := hN
      have hz : N.size = 18 := by rw [hN]; rfl
      have HI : Hid ((Try.prog.info? 44).map (·.size) = some N.size) := by show _ = _; rw [hz]; exact info_C18
      have HONE : Hid (N.all (·.oneCell') = true) := by show _ = _; rw [hN]; exact nc_one _ _ _ _
      rw [← hN]
      clear hN
      have HTX : Hid ((w.alloc (.cells #[.int .i64 0, .int .i64 0, .int .i64 0, .int .i64 0, .bool false, .bool false, .slice none 0 0, .bool false, .int .i64 0, .bool false, .slice none 0 0, .slice none 0 0, .int .i64 0, .int .i64 0, .slice none 0 0, .slice none 0 0, .slice none 0 0, .bool false] 44)).there w.heap.size 0 N.size) := bx_there kR (fx_al _ _ _) (by rw [hz]; rfl)
      have HZ : Hid _ := hz
      clear hz
      have HK : Hid _ := kR
      clear kR
      go_enter Try.func9, Try.ntmps9
      go_wp2_with (first | (go_at_call 19; refine (sInN _ _ _ _).mono ?_; rintro e w' ⟨rfl, hw⟩; subst w') | (go_at_call 20; refine (sKeyN _ _).mono ?_; rintro e w' ⟨rfl, hw⟩; subst w'))
      refine (sL9Bad 3 _).mono ?_
      rintro e w1 ⟨rfl, hb⟩
      have hz := HZ.out
      have kR := bx_new hb
      have fR : ∀ o, w1.frozen? ⟨w.heap.size, o, none⟩ = false := fun o => by rw [hb.frozen (p := ⟨w.heap.size, o, none⟩) (by simp)]; simp [go_sem]
      replace HTX : Hid (w1.there w.heap.size 0 N.size) := bx_there kR fR (by rw [hz]; rfl)
      replace HB : Hid (Below w.heap.size w w1) := (bl_new hb).1
      clear hb fR
      rw [← HN.out]
      replace HK : Hid _ := kR
      clear kR hz
      go_wp2_with (refine wpList_store_mid rfl 44 _ _ rfl _ _ N (by rfl) (by rfl) HTX.out HI.out HONE.out ?_)
      have hz := HZ.out
      have kR := HK.out
      refine bodyPost_ret (results_box Try.results9 _ _ _ N _ (by rfl) (bx_setCells (A' := N) kR (by rw [hz]; rfl)) Try.underlying44 rfl HI.out) rfl ⟨rfl, ?_⟩
      exact setCells_below (Nat.le_refl _) _ _ _ _ HB.out
    | true =>
      have hA : newA s k = nc18 0 s k (-1) := by unfold newA; simp [h0, h1]
      rw [hA]
      clear hA
      obtain ⟨N, hN⟩ : ∃ N, N = nc18 0 s k (-1) := ⟨_, rfl⟩
      have HN : Hid _ := hN
      have hz : N.size = 18 := by rw [hN]; rfl
      have HI : Hid ((Try.prog.info? 44).map (·.size) = some N.size) := by show _ = _; rw [hz]; exact info_C18
      have HONE : Hid (N.all (·.oneCell') = true) := by show _ = _; rw [hN]; exact nc_one _ _ _ _
      rw [← hN]
      clear hN
      have HTX : Hid ((w.alloc (.cells #[.int .i64 0, .int .i64 0, .int .i64 0, .int .i64 0, .bool false, .bool false, .slice none 0 0, .bool false, .int .i64 0, .bool false, .slice none 0 0, .slice none 0 0, .int .i64 0, .int .i64 0, .slice none 0 0, .slice none 0 0, .slice none 0 0, .bool false] 44)).there w.heap.size 0 N.size) := bx_there kR (fx_al _ _ _) (by rw [hz]; rfl)
      have HZ : Hid _ := hz
      clear hz
      have HK : Hid _ := kR
      clear kR
      go_enter Try.func9, Try.ntmps9
      go_wp2_with (first | (go_at_call 19; refine (sInN _ _ _ _).mono ?_; rintro e w' ⟨rfl, hw⟩; subst w') | (go_at_call 20; refine (sKeyN _ _).mono ?_; rintro e w' ⟨rfl, hw⟩; subst w') | (refine wpList_store_mid rfl 44 _ _ rfl _ _ N (by rfl) (by rw [HN.out]; rfl) HTX.out HI.out HONE.out ?_))
      have hz := HZ.out
      have kR := HK.out
      refine bodyPost_ret (results_box Try.results9 _ _ _ N _ (by rfl) (bx_setCells (A' := N) kR (by rw [hz]; rfl)) Try.underlying44 rfl HI.out) rfl ⟨rfl, ?_⟩
      exact setCells_below (Nat.le_refl _) _ _ _ _ HB.out
set_option maxHeartbeats 1000000 in
theorem iNewConn (s k : Int) (w : World) : Calls Try.prog 11 #[.int .i64 s, .int .i64 k] w fun e w' => e = .returned (.agg (newA s k)) ∧ Below w.heap.size w w' := by
  have kR := bx_al w (#[.int .i64 0, .int .i64 0, .int .i64 0, .int .i64 0, .bool false, .bool false, .slice none 0 0, .bool false, .int .i64 0, .bool false, .slice none 0 0, .slice none 0 0, .int .i64 0, .int .i64 0, .slice none 0 0, .slice none 0 0, .slice none 0 0, .bool false]) 44
  have HB : Hid (Below w.heap.size w (w.alloc (.cells #[.int .i64 0, .int .i64 0, .int .i64 0, .int .i64 0, .bool false, .bool false, .slice none 0 0, .bool false, .int .i64 0, .bool false, .slice none 0 0, .slice none 0 0, .int .i64 0, .int .i64 0, .slice none 0 0, .slice none 0 0, .slice none 0 0, .bool false] 44))) := (Below.refl _ _).alloc (Nat.le_refl _) _
  have HKF : Hid (∀ k W, Calls Try.prog 23 #[.int .i64 k] W fun e w' => e = .returned (.int .i64 (if keyN k = true then 0 else 3)) ∧ w' = W) := fun k W => iKeyN k W
  cases h0 : inN s 0 1 with
  | false =>
    have hA : newA s k = nc18 3 0 0 0 := by unfold newA; simp [h0]
    rw [hA]
    clear hA
    obtain ⟨N, hN⟩ : ∃ N, N = nc18 3 0 0 0 := ⟨_, rfl⟩
    have HN : Hid _ := hN
    have hz : N.size = 18 := by rw [hN]; rfl
    have HI : Hid ((Try.prog.info? 44).map (·.size) = some N.size) := by show _ = _; rw [hz]; exact info_C18
    have HONE : Hid (N.all (·.oneCell') = true) := by show _ = _; rw [hN]; exact nc_one _ _ _ _
    rw [← hN]
    clear hN
    have HTX : Hid ((w.alloc (.cells #[.int .i64 0, .int .i64 0, .int .i64 0, .int .i64 0, .bool false, .bool false, .slice none 0 0, .bool false, .int .i64 0, .bool false, .slice none 0 0, .slice none 0 0, .int .i64 0, .int .i64 0, .slice none 0 0, .slice none 0 0, .slice none 0 0, .bool false] 44)).there w.heap.size 0 N.size) := bx_there kR (fx_al _ _ _) (by rw [hz]; rfl)
    have HZ : Hid _ := hz
    clear hz
    have HK : Hid _ := kR
    clear kR
    go_enter Try.func11, Try.ntmps11
    go_wp2_with (first | (go_at_call 22; refine (iInN _ _ _ _).mono ?_; rintro e w' ⟨rfl, hw⟩; subst w') | (go_at_call 23; refine (HKF.out _ _).mono ?_; rintro e w' ⟨rfl, hw⟩; subst w') | (refine wpList_store_mid rfl 44 _ _ rfl _ _ N (by rfl) (by rw [HN.out]; rfl) HTX.out HI.out HONE.out ?_))
    have hz := HZ.out
    have kR := HK.out
    refine bodyPost_ret (results_box Try.results11 _ _ _ N _ (by rfl) (bx_setCells (A' := N) kR (by rw [hz]; rfl)) Try.underlying44 rfl HI.out) rfl ⟨rfl, ?_⟩
    exact setCells_below (Nat.le_refl _) _ _ _ _ HB.out
  | true =>
    cases h1 : keyN k with
    | false =>
      have hA : newA s k = nc18 3 0 0 0 := by unfold newA; simp [h0, h1]
      rw [hA]
      clear hA
      obtain ⟨N, hN⟩ : ∃ N, N = nc18 3 0 0 0 := ⟨_, rfl⟩
      have HN : Hid _ := hN
      have hz : N.size = 18 := by rw [hN]; rfl
      have HI : Hid ((Try.prog.info? 44).map (·.size) = some N.size) := by show _ = _; rw [hz]; exact info_C18
      have HONE : Hid (N.all (·.oneCell') = true) := by show _ = _; rw [hN]; exact nc_one _ _ _ _
      rw [← hN]
      clear hN
      have HTX : Hid ((w.alloc (.cells #[.int .i64 0, .int .i64 0, .int .i64 0, .int .i64 0, .bool false, .bool false, .slice none 0 0, .bool false, .int .i64 0, .bool false, .slice none 0 0, .slice none 0 0, .int .i64 0, .int .i64 0, .slice none 0 0, .slice none 0 0, .slice none 0 0, .bool false] 44)).there w.heap.size 0 N.size) := bx_there kR (fx_al _ _ _) (by rw [hz]; rfl)
      have HZ : Hid _ := hz
      clear hz
      have HK : Hid _ := kR
      clear kR
      go_enter Try.func11, Try.ntmps11
      go_wp2_with (first | (go_at_call 22; refine (iInN _ _ _ _).mono ?_; rintro e w' ⟨rfl, hw⟩; subst w') | (go_at_call 23; refine (HKF.out _ _).mono ?_; rintro e w' ⟨rfl, hw⟩; subst w') | (refine wpList_store_mid rfl 44 _ _ rfl _ _ N (by rfl) (by rw [HN.out]; rfl) HTX.out HI.out HONE.out ?_))
      have hz := HZ.out
      have kR := HK.out
      refine bodyPost_ret (results_box Try.results11 _ _ _ N _ (by rfl) (bx_setCells (A' := N) kR (by rw [hz]; rfl)) Try.underlying44 rfl HI.out) rfl ⟨rfl, ?_⟩
      exact setCells_below (Nat.le_refl _) _ _ _ _ HB.out
    | true =>
      have hA : newA s k = nc18 0 s k (-1) := by unfold newA; simp [h0, h1]
      rw [hA]
      clear hA
      obtain ⟨N, hN⟩ : ∃ N, N = nc18 0 s k (-1) := ⟨_, rfl⟩
      have HN : Hid _ := hN
      have hz : N.size = 18 := by rw [hN]; rfl
      have HI : Hid ((Try.prog.info? 44).map (·.size) = some N.size) := by show _ = _; rw [hz]; exact info_C18
      have HONE : Hid (N.all (·.oneCell') = true) := by show _ = _; rw [hN]; exact nc_one _ _ _ _
      rw [← hN]
      clear hN
      have HTX : Hid ((w.alloc (.cells #[.int .i64 0, .int .i64 0, .int .i64 0, .int .i64 0, .bool false, .bool false, .slice none 0 0, .bool false, .int .i64 0, .bool false, .slice none 0 0, .slice none 0 0, .int .i64 0, .int .i64 0, .slice none 0 0, .slice none 0 0, .slice none 0 0, .bool false] 44)).there w.heap.size 0 N.size) := bx_there kR (fx_al _ _ _) (by rw [hz]; rfl)
      have HZ : Hid _ := hz
      clear hz
      have HK : Hid _ := kR
      clear kR
      go_enter Try.func11, Try.ntmps11
      go_wp2_with (first | (go_at_call 22; refine (iInN _ _ _ _).mono ?_; rintro e w' ⟨rfl, hw⟩; subst w') | (go_at_call 23; refine (HKF.out _ _).mono ?_; rintro e w' ⟨rfl, hw⟩; subst w') | (refine wpList_store_mid rfl 44 _ _ rfl _ _ N (by rfl) (by rw [HN.out]; rfl) HTX.out HI.out HONE.out ?_))
      have hz := HZ.out
      have kR := HK.out
      refine bodyPost_ret (results_box Try.results11 _ _ _ N _ (by rfl) (bx_setCells (A' := N) kR (by rw [hz]; rfl)) Try.underlying44 rfl HI.out) rfl ⟨rfl, ?_⟩
      exact setCells_below (Nat.le_refl _) _ _ _ _ HB.out
end Go.Proofs.Ytcbgedlckcjjnaa

/- NewWorld of the model: the answer owns its memory; nothing that was in memory turns; no condition. Written by mknw.py. -/
namespace Go.Proofs.Ytcbgedlckcjjnaa
open Go.RowKit
set_option linter.unusedVariables false
set_option maxRecDepth 8000

theorem own_three {w : World} {g : Nat} {t : TypeId} (hh : w.heap[g]? = some (.cells #[.bool false, .bool false, .bool false] t (0, 0))) : Own w g (g + 1) (shNetT t) ([], [false, false, false], ()) [.slice none 0 0, .slice (some ⟨g, 0, none⟩) 3 3] := by
  refine ⟨[g], ⟨[], [g], [_], [_], rfl, rfl, Or.inl ⟨rfl, rfl, rfl⟩, [g], [], [_], [], rfl, rfl, Or.inr ⟨g, 3, _, [[], [], []], rfl, by simp, hh, by simp, by unfold maxLen; omega, rfl, rfl, fun i hi => ?_⟩, rfl, rfl⟩, by simp, by simp⟩
  match i, hi with
  | 0, _ => exact ⟨rfl, rfl⟩
  | 1, _ => exact ⟨rfl, rfl⟩
  | 2, _ => exact ⟨rfl, rfl⟩
theorem al_old (w : World) (o : Obj) {b : Nat} (h : b < w.heap.size) : (w.alloc o).heap[b]? = w.heap[b]? := ((Below.refl w.heap.size w).alloc (Nat.le_refl _) o).block b h
theorem four_at (w : World) (a b c d : Obj) : ((((w.alloc a).alloc b).alloc c).alloc d).heap[w.heap.size]? = some a ∧ ((((w.alloc a).alloc b).alloc c).alloc d).heap[w.heap.size + 1]? = some b ∧ ((((w.alloc a).alloc b).alloc c).alloc d).heap[w.heap.size + 2]? = some c ∧ ((((w.alloc a).alloc b).alloc c).alloc d).heap[w.heap.size + 3]? = some d := by
  have s1 : (w.alloc a).heap.size = w.heap.size + 1 := by simp
  have s2 : ((w.alloc a).alloc b).heap.size = w.heap.size + 2 := by simp
  have s3 : (((w.alloc a).alloc b).alloc c).heap.size = w.heap.size + 3 := by simp
  have h1 := al_at w a
  have h2 := al_at (w.alloc a) b
  have h3 := al_at ((w.alloc a).alloc b) c
  have h4 := al_at (((w.alloc a).alloc b).alloc c) d
  rw [s1] at h2
  rw [s2] at h3
  rw [s3] at h4
  refine ⟨?_, ?_, ?_, h4⟩
  · rw [al_old _ _ (by omega), al_old _ _ (by omega), al_old _ _ (by omega)]; exact h1
  · rw [al_old _ _ (by omega), al_old _ _ (by omega)]; exact h2
  · rw [al_old _ _ (by omega)]; exact h3
theorem own_two {w : World} {g : Nat} {t : TypeId} {e : Sh} {x y : e.El} {cx cy : List Value} (hh : w.heap[g]? = some (.cells (cx ++ cy).toArray t (0, 0))) (hx : e.Ow w [] x cx) (hy : e.Ow w [] y cy) : Own w g (g + 1) (.row t e) [x, y] [.slice (some ⟨g, 0, none⟩) 2 2] := by
  have lx := Sh.Ow.len _ _ _ _ hx
  have ly := Sh.Ow.len _ _ _ _ hy
  refine ⟨[g], Or.inr ⟨g, 2, _, [[], []], rfl, by simp, hh, by simp, by unfold maxLen; omega, by simp [lx, ly]; omega, rfl, fun i hi => ?_⟩, by simp, by simp⟩
  match i, hi with
  | 0, _ =>
    have h1 : (((cx ++ cy).toArray.toList.drop (0 * e.sz)).take e.sz) = cx := by rw [Nat.zero_mul, List.drop_zero, ← lx]; simp
    rw [h1]; exact hx
  | 1, _ =>
    have h1 : (((cx ++ cy).toArray.toList.drop (1 * e.sz)).take e.sz) = cy := by rw [Nat.one_mul, ← lx]; simp; exact List.take_of_length_le (by omega)
    rw [h1]; exact hy
theorem nconn_ow (w : World) {s k : Int} (hs : (Lit.int .i64 s).wf = true) (hk : (Lit.int .i64 k).wf = true) : shConnO.Ow w [] (nconn s k (-1)) [.int .i64 s, .int .i64 k, .int .i64 0, .bool false, .bool false, .slice none 0 0, .bool false, .int .i64 0, .bool false, .slice none 0 0, .slice none 0 0, .int .i64 (-1), .int .i64 0, .slice none 0 0] :=
  mk_ConnO (b0 := []) (b1 := []) (b3 := []) (d9 := ([], [], ())) (Or.inl ⟨rfl, rfl, rfl⟩) ⟨[], [], [_], [_], rfl, rfl, Or.inl ⟨rfl, rfl, rfl⟩, [], [], [_], [], rfl, rfl, Or.inl ⟨rfl, rfl, rfl⟩, rfl, rfl⟩ (Or.inl ⟨rfl, rfl, rfl⟩) hs hk (by decide) (by decide) (by decide) (by decide)
/-- Parts that lie apart, put together. -/
theorem own_W4 {t : TypeId} {w : World} {l1 h1 l2 h2 l3 h3 l4 h4 lo hi : Nat} {y0 : Int} {d1 : List DConn} {d2 : DNet} {d3 : List (List Int)} {d4 : List Bool} {u0 v1 v2 u2 u3 : Value} (hw : (Lit.int .i64 y0).wf = true) (o1 : Own w l1 h1 shConnsO d1 [u0]) (o2 : Own w l2 h2 (shNetT t) d2 [v1, v2]) (o3 : Own w l3 h3 shBss d3 [u2]) (o4 : Own w l4 h4 (bls 4) d4 [u3])
    (e12 : h1 ≤ l2 ∨ h2 ≤ l1) (e13 : h1 ≤ l3 ∨ h3 ≤ l1) (e14 : h1 ≤ l4 ∨ h4 ≤ l1) (e23 : h2 ≤ l3 ∨ h3 ≤ l2) (e24 : h2 ≤ l4 ∨ h4 ≤ l2) (e34 : h3 ≤ l4 ∨ h4 ≤ l3) (a1 : lo ≤ l1) (a2 : lo ≤ l2) (a3 : lo ≤ l3) (a4 : lo ≤ l4) (z1 : h1 ≤ hi) (z2 : h2 ≤ hi) (z3 : h3 ≤ hi) (z4 : h4 ≤ hi) : Own w lo hi (shWorldT t) (y0, d1, d2, d3, d4, ()) [.int .i64 y0, u0, v1, v2, u2, u3] := by
  obtain ⟨b1, p1, n1, r1⟩ := o1
  obtain ⟨b2, p2, n2, r2⟩ := o2
  obtain ⟨b3, p3, n3, r3⟩ := o3
  obtain ⟨b4, p4, n4, r4⟩ := o4
  refine ⟨b1 ++ (b2 ++ (b3 ++ b4)), ⟨[], b1 ++ (b2 ++ (b3 ++ b4)), [_], _, rfl, rfl, ⟨rfl, rfl, hw⟩, b1, b2 ++ (b3 ++ b4), [u0], _, rfl, rfl, p1, b2, b3 ++ b4, [v1, v2], _, rfl, rfl, p2, b3, b4, [u2], _, rfl, rfl, p3, b4, [], [u3], [], by simp, rfl, p4, rfl, rfl⟩, ?_, ?_⟩
  · rw [List.nodup_append, List.nodup_append, List.nodup_append]
    refine ⟨n1, ⟨n2, ⟨n3, n4, fun a ha b hb e => ?_⟩, fun a ha b hb e => ?_⟩, fun a ha b hb e => ?_⟩
    · subst e; have := r3 a ha; have := r4 a hb; omega
    · subst e
      have := r2 a ha
      rcases List.mem_append.1 hb with hb | hb
      · have := r3 a hb; omega
      · have := r4 a hb; omega
    · subst e
      have := r1 a ha
      rcases List.mem_append.1 hb with hb | hb
      · have := r2 a hb; omega
      · rcases List.mem_append.1 hb with hb | hb
        · have := r3 a hb; omega
        · have := r4 a hb; omega
  · intro b hb
    rcases List.mem_append.1 hb with hb | hb
    · have := r1 b hb; omega
    · rcases List.mem_append.1 hb with hb | hb
      · have := r2 b hb; omega
      · rcases List.mem_append.1 hb with hb | hb
        · have := r3 b hb; omega
        · have := r4 b hb; omega
theorem info_WRn : (Try.prog.info? 32).map (·.size) = some 8 := by kernel_rfl
theorem info_W6n : (Try.prog.info? 30).map (·.size) = some 6 := by kernel_rfl
def nwV (a b : Int) : DWR := if keyN a = false then badW 3 else if keyN b = false then badW 3 else (0, [], (0, [nconn 0 a (-1), nconn 1 b (-1)], ([], [false, false, false], ()), [[], []], [false, false], ()), ())
theorem nwV_tot (a b : Int) : totWR (nwV a b) ≤ 1048576 := by
  unfold nwV
  split
  · rw [tot_badW]; omega
  split
  · rw [tot_badW]; omega
  · exact Nat.le_of_ble_eq_true rfl
theorem key_wf {k : Int} (h : keyN k = true) : (Lit.int .i64 k).wf = true := by
  unfold keyN inN at h
  simp only [Bool.and_eq_true, decide_eq_true_eq] at h
  exact WalkArith.wf_i64 (by omega)
theorem newA_no (s : Int) {k : Int} (h : keyN k = false) : newA s k = nc18 3 0 0 0 := by unfold newA; simp [h]
theorem newA_yes {s k : Int} (h : keyN k = true) (h0 : inN s 0 1 = true) : newA s k = nc18 0 s k (-1) := by unfold newA; simp [h, h0]
theorem sBadN (c : Int) (w : World) : Calls Try.prog 10 #[.int .i64 c] w fun e w' => e = .returned (.agg #[.int .i64 c, .slice none 0 0, .int .i64 0, .slice none 0 0, .slice none 0 0, .slice none 0 0, .slice none 0 0, .slice none 0 0]) ∧ Below w.heap.size w w' := by
  obtain ⟨N, hN⟩ : ∃ N : Array Value, N = #[.int .i64 c, .slice none 0 0, .int .i64 0, .slice none 0 0, .slice none 0 0, .slice none 0 0, .slice none 0 0, .slice none 0 0] := ⟨_, rfl⟩
  have HN : Hid _ := hN
  have HNZ : Hid (N.size = 8) := by show _ = _; rw [hN]; rfl
  have HIN : Hid ((Try.prog.info? 32).map (·.size) = some N.size) := by show _ = _; rw [HNZ.out]; exact info_WRn
  have HONE : Hid (N.all (·.oneCell') = true) := by show _ = _; rw [hN]; simp [Value.oneCell']
  clear hN
  rw [← HN.out]
  have kR := bx_al w #[.int .i64 0, .slice none 0 0, .int .i64 0, .slice none 0 0, .slice none 0 0, .slice none 0 0, .slice none 0 0, .slice none 0 0] 32
  have HTH : Hid ((w.alloc (.cells #[.int .i64 0, .slice none 0 0, .int .i64 0, .slice none 0 0, .slice none 0 0, .slice none 0 0, .slice none 0 0, .slice none 0 0] 32)).there w.heap.size 0 N.size) := bx_there kR (fx_al _ _ _) (by rw [HNZ.out]; rfl)
  have HKR : Hid (∀ o, ((w.alloc (.cells #[.int .i64 0, .slice none 0 0, .int .i64 0, .slice none 0 0, .slice none 0 0, .slice none 0 0, .slice none 0 0, .slice none 0 0] 32)).setCells w.heap.size 0 N.toList).cell? ⟨w.heap.size, o, none⟩ = N[o]?) := bx_setCells kR (by rw [HNZ.out]; rfl)
  have HB : Hid (Below w.heap.size w (w.alloc (.cells #[.int .i64 0, .slice none 0 0, .int .i64 0, .slice none 0 0, .slice none 0 0, .slice none 0 0, .slice none 0 0, .slice none 0 0] 32))) := (Below.refl _ _).alloc (Nat.le_refl _) _
  clear kR
  go_enter Try.func10, Try.ntmps10
  go_wp2_with (refine wpList_store_mid rfl 32 _ _ rfl _ _ N (by rfl) (by rw [HN.out]; rfl) HTH.out HIN.out HONE.out ?_)
  refine bodyPost_ret (results_box Try.results10 _ _ _ N _ (by rfl) HKR.out Try.underlying32 rfl HIN.out) rfl ⟨rfl, setCells_below (Nat.le_refl _) _ _ _ _ HB.out⟩
set_option maxHeartbeats 8000000 in
theorem sNewWorld (a b : Int) (w : World) : Calls Try.prog 4 #[.int .i64 a, .int .i64 b] w fun e w' => ∃ N : Array Value, e = .returned (.agg N) ∧ Own w' w.heap.size w'.heap.size (shWR 4) (nwV a b) N.toList ∧ Below w.heap.size w w' := by
  by_cases hka : keyN a = true
  case neg =>
    replace hka : keyN a = false := by simpa using hka
    have hV : nwV a b = badW 3 := by unfold nwV; rw [if_pos hka]
    rw [hV]
    clear hV
    obtain ⟨NA, hNA⟩ : ∃ A : Array Value, A = nc18 3 0 0 0 := ⟨_, rfl⟩
    have HZNA : Hid (NA.size = 18) := by show _ = _; rw [hNA]; rfl
    have INA : Hid ((Try.prog.info? 44).map (·.size) = some NA.size) := by show _ = _; rw [HZNA.out]; exact info_C18
    have ONNA : Hid (NA.all (·.oneCell') = true) := by show _ = _; rw [hNA]; exact nc_one _ _ _ _
    have cNA : NA[0]? = some (.int .i64 3) := by rw [hNA]; rfl
    have HCNA : Hid (∀ W, Calls Try.prog 9 #[.int .i64 0, .int .i64 a] W fun e w' => e = .returned (.agg NA) ∧ Below W.heap.size W w') := fun W => by rw [hNA, ← newA_no 0 hka]; exact sNewConn 0 a W
    clear hNA
    clear hka
    obtain ⟨N, hN⟩ : ∃ N : Array Value, N = #[.int .i64 3, .slice none 0 0, .int .i64 0, .slice none 0 0, .slice none 0 0, .slice none 0 0, .slice none 0 0, .slice none 0 0] := ⟨_, rfl⟩
    have HN : Hid _ := hN
    have HNZ : Hid (N.size = 8) := by show _ = _; rw [hN]; rfl
    have HIN : Hid ((Try.prog.info? 32).map (·.size) = some N.size) := by show _ = _; rw [HNZ.out]; exact info_WRn
    have HONE : Hid (N.all (·.oneCell') = true) := by show _ = _; rw [hN]; simp [Value.oneCell']
    clear hN
    have HWA : Hid (Below w.heap.size w (w.alloc (.cells #[.int .i64 0, .slice none 0 0, .int .i64 0, .slice none 0 0, .slice none 0 0, .slice none 0 0, .slice none 0 0, .slice none 0 0] 32)) ∧ (w.alloc (.cells #[.int .i64 0, .slice none 0 0, .int .i64 0, .slice none 0 0, .slice none 0 0, .slice none 0 0, .slice none 0 0, .slice none 0 0] 32)).heap.size = w.heap.size + 1 ∧ (∀ o, (w.alloc (.cells #[.int .i64 0, .slice none 0 0, .int .i64 0, .slice none 0 0, .slice none 0 0, .slice none 0 0, .slice none 0 0, .slice none 0 0] 32)).cell? ⟨w.heap.size, o, none⟩ = (#[.int .i64 0, .slice none 0 0, .int .i64 0, .slice none 0 0, .slice none 0 0, .slice none 0 0, .slice none 0 0, .slice none 0 0] : Array Value)[o]?) ∧ (∀ o, (w.alloc (.cells #[.int .i64 0, .slice none 0 0, .int .i64 0, .slice none 0 0, .slice none 0 0, .slice none 0 0, .slice none 0 0, .slice none 0 0] 32)).frozen? ⟨w.heap.size, o, none⟩ = false)) := ⟨((Below.refl _ _).alloc (Nat.le_refl _) _), by simp, fun o => by simp [go_sem], fun o => by simp [go_sem]⟩
    go_enter Try.func4, Try.ntmps4
    go_upto_region 1 with fail
    generalize hWW : (w.alloc (.cells #[.int .i64 0, .slice none 0 0, .int .i64 0, .slice none 0 0, .slice none 0 0, .slice none 0 0, .slice none 0 0, .slice none 0 0] 32)) = W1 at HWA ⊢
    clear hWW
    obtain ⟨hb, hsz, kR, fR⟩ := HWA.out
    clear HWA
    have HB : Hid (Below w.heap.size w W1) := hb
    have zR : w.heap.size < W1.heap.size := by omega
    clear hb hsz
    go_wp2_with fail
    refine (HCNA.out _).mono ?_
    rintro e w2 ⟨rfl, hb⟩
    replace kR := bx_below kR zR hb
    replace fR := bxF fR hb zR
    replace zR := Nat.lt_of_lt_of_le zR hb.size
    replace HB : Hid (Below w.heap.size w w2) := HB.out.trans (hb.mono HB.out.size)
    clear hb
    clear HCNA
    have HTH : Hid ((w2.alloc (.cells #[.int .i64 0, .int .i64 0, .int .i64 0, .int .i64 0, .bool false, .bool false, .slice none 0 0, .bool false, .int .i64 0, .bool false, .slice none 0 0, .slice none 0 0, .int .i64 0, .int .i64 0, .slice none 0 0, .slice none 0 0, .slice none 0 0, .bool false] 44)).there w2.heap.size 0 NA.size) := bx_there (bx_al _ _ _) (fx_al _ _ _) (by rw [HZNA.out]; rfl)
    have HWN : Hid (Below w2.heap.size w2 ((w2.alloc (.cells #[.int .i64 0, .int .i64 0, .int .i64 0, .int .i64 0, .bool false, .bool false, .slice none 0 0, .bool false, .int .i64 0, .bool false, .slice none 0 0, .slice none 0 0, .int .i64 0, .int .i64 0, .slice none 0 0, .slice none 0 0, .slice none 0 0, .bool false] 44)).setCells w2.heap.size 0 NA.toList) ∧ w2.heap.size < ((w2.alloc (.cells #[.int .i64 0, .int .i64 0, .int .i64 0, .int .i64 0, .bool false, .bool false, .slice none 0 0, .bool false, .int .i64 0, .bool false, .slice none 0 0, .slice none 0 0, .int .i64 0, .int .i64 0, .slice none 0 0, .slice none 0 0, .slice none 0 0, .bool false] 44)).setCells w2.heap.size 0 NA.toList).heap.size ∧ (∀ o, ((w2.alloc (.cells #[.int .i64 0, .int .i64 0, .int .i64 0, .int .i64 0, .bool false, .bool false, .slice none 0 0, .bool false, .int .i64 0, .bool false, .slice none 0 0, .slice none 0 0, .int .i64 0, .int .i64 0, .slice none 0 0, .slice none 0 0, .slice none 0 0, .bool false] 44)).setCells w2.heap.size 0 NA.toList).cell? ⟨w2.heap.size, o, none⟩ = NA[o]?) ∧ (∀ o, ((w2.alloc (.cells #[.int .i64 0, .int .i64 0, .int .i64 0, .int .i64 0, .bool false, .bool false, .slice none 0 0, .bool false, .int .i64 0, .bool false, .slice none 0 0, .slice none 0 0, .int .i64 0, .int .i64 0, .slice none 0 0, .slice none 0 0, .slice none 0 0, .bool false] 44)).setCells w2.heap.size 0 NA.toList).frozen? ⟨w2.heap.size, o, none⟩ = false)) := ⟨setCells_below (Nat.le_refl _) _ _ _ _ ((Below.refl _ _).alloc (Nat.le_refl _) _), by rw [setCells_size]; simp, bx_setCells (bx_al w2 _ _) (by rw [HZNA.out]; rfl), fx_sets (fx_al _ _ _)⟩
    go_upto_region 2 with (first | (refine wpList_store_mid rfl 44 _ _ rfl _ _ NA (by rfl) (by rfl) HTH.out INA.out ONNA.out ?_))
    generalize hWW : ((w2.alloc (.cells #[.int .i64 0, .int .i64 0, .int .i64 0, .int .i64 0, .bool false, .bool false, .slice none 0 0, .bool false, .int .i64 0, .bool false, .slice none 0 0, .slice none 0 0, .int .i64 0, .int .i64 0, .slice none 0 0, .slice none 0 0, .slice none 0 0, .bool false] 44)).setCells w2.heap.size 0 NA.toList) = w3 at HWN ⊢
    clear hWW HTH
    obtain ⟨hb, zA, kA, fA⟩ := HWN.out
    clear HWN
    obtain ⟨bA, hq⟩ : ∃ q, q = w2.heap.size := ⟨_, rfl⟩
    rw [← hq] at zA kA fA ⊢
    have lRA : w.heap.size < bA := by rw [hq]; exact zR
    have lwA : w.heap.size ≤ bA := by rw [hq]; exact HB.out.size
    clear hq
    replace kR := bx_below kR zR hb
    replace fR := bxF fR hb zR
    replace zR := Nat.lt_of_lt_of_le zR hb.size
    replace HB : Hid (Below w.heap.size w w3) := HB.out.trans (hb.mono HB.out.size)
    clear hb
    go_wp2_with fail
    refine (sBadN 3 _).mono ?_
    rintro e w4 ⟨rfl, hb⟩
    replace kR := bx_below kR zR hb
    replace fR := bxF fR hb zR
    replace zR := Nat.lt_of_lt_of_le zR hb.size
    replace kA := bx_below kA zA hb
    replace fA := bxF fA hb zA
    replace zA := Nat.lt_of_lt_of_le zA hb.size
    replace HB : Hid (Below w.heap.size w w4) := HB.out.trans (hb.mono HB.out.size)
    clear hb
    rw [← HN.out]
    have HTH : Hid (w4.there (w.heap.size) 0 N.size) := bx_there kR fR (by rw [HNZ.out]; rfl)
    have HKR : Hid (∀ o, (w4.setCells (w.heap.size) 0 N.toList).cell? ⟨w.heap.size, o, none⟩ = N[o]?) := bx_setCells kR (by rw [HNZ.out]; rfl)
    go_wp2_with (first | (refine wpList_store_mid rfl 32 _ _ rfl _ _ N (by rfl) (by rfl) HTH.out HIN.out HONE.out ?_))
    refine bodyPost_ret (results_box Try.results4 _ _ _ N _ (by rfl) HKR.out Try.underlying32 rfl HIN.out) rfl ⟨N, rfl, ?_, setCells_below (by omega) _ _ _ _ HB.out⟩
    rw [setCells_size]
    exact Own.mono (Own.keep (by have h := own_badW 4 w4 (w.heap.size + 1) w4.heap.size (q := 3) (by decide) (by omega); rw [HN.out]; exact h) (fun b h1 h2 => setCells_block (by omega) _ _ _)) (show w.heap.size ≤ w.heap.size + 1 by omega) (Nat.le_refl _)
  by_cases hkb : keyN b = true
  case neg =>
    replace hkb : keyN b = false := by simpa using hkb
    have hV : nwV a b = badW 3 := by unfold nwV; rw [if_neg (by simp [hka]), if_pos hkb]
    rw [hV]
    clear hV
    obtain ⟨NA, hNA⟩ : ∃ A : Array Value, A = nc18 0 0 a (-1) := ⟨_, rfl⟩
    have HZNA : Hid (NA.size = 18) := by show _ = _; rw [hNA]; rfl
    have INA : Hid ((Try.prog.info? 44).map (·.size) = some NA.size) := by show _ = _; rw [HZNA.out]; exact info_C18
    have ONNA : Hid (NA.all (·.oneCell') = true) := by show _ = _; rw [hNA]; exact nc_one _ _ _ _
    have cNA : NA[0]? = some (.int .i64 0) := by rw [hNA]; rfl
    have HRNA : Hid (∀ (W : World) (qb : Nat), (∀ o, W.cell? ⟨qb, o, none⟩ = NA[o]?) → W.rangeAt qb 1 [.int .i64 0, .int .i64 a, .int .i64 0, .bool false, .bool false, .slice none 0 0, .bool false, .int .i64 0, .bool false, .slice none 0 0, .slice none 0 0, .int .i64 (-1), .int .i64 0, .slice none 0 0]) := fun W qb hk => by rw [hNA] at hk; exact nc_range hk
    have HCNA : Hid (∀ W, Calls Try.prog 9 #[.int .i64 0, .int .i64 a] W fun e w' => e = .returned (.agg NA) ∧ Below W.heap.size W w') := fun W => by rw [hNA, ← newA_yes (s := 0) hka (by decide)]; exact sNewConn 0 a W
    clear hNA
    obtain ⟨NB, hNB⟩ : ∃ A : Array Value, A = nc18 3 0 0 0 := ⟨_, rfl⟩
    have HZNB : Hid (NB.size = 18) := by show _ = _; rw [hNB]; rfl
    have INB : Hid ((Try.prog.info? 44).map (·.size) = some NB.size) := by show _ = _; rw [HZNB.out]; exact info_C18
    have ONNB : Hid (NB.all (·.oneCell') = true) := by show _ = _; rw [hNB]; exact nc_one _ _ _ _
    have cNB : NB[0]? = some (.int .i64 3) := by rw [hNB]; rfl
    have HCNB : Hid (∀ W, Calls Try.prog 9 #[.int .i64 1, .int .i64 b] W fun e w' => e = .returned (.agg NB) ∧ Below W.heap.size W w') := fun W => by rw [hNB, ← newA_no 1 hkb]; exact sNewConn 1 b W
    clear hNB
    clear hka hkb HRNA
    obtain ⟨N, hN⟩ : ∃ N : Array Value, N = #[.int .i64 3, .slice none 0 0, .int .i64 0, .slice none 0 0, .slice none 0 0, .slice none 0 0, .slice none 0 0, .slice none 0 0] := ⟨_, rfl⟩
    have HN : Hid _ := hN
    have HNZ : Hid (N.size = 8) := by show _ = _; rw [hN]; rfl
    have HIN : Hid ((Try.prog.info? 32).map (·.size) = some N.size) := by show _ = _; rw [HNZ.out]; exact info_WRn
    have HONE : Hid (N.all (·.oneCell') = true) := by show _ = _; rw [hN]; simp [Value.oneCell']
    clear hN
    have HWA : Hid (Below w.heap.size w (w.alloc (.cells #[.int .i64 0, .slice none 0 0, .int .i64 0, .slice none 0 0, .slice none 0 0, .slice none 0 0, .slice none 0 0, .slice none 0 0] 32)) ∧ (w.alloc (.cells #[.int .i64 0, .slice none 0 0, .int .i64 0, .slice none 0 0, .slice none 0 0, .slice none 0 0, .slice none 0 0, .slice none 0 0] 32)).heap.size = w.heap.size + 1 ∧ (∀ o, (w.alloc (.cells #[.int .i64 0, .slice none 0 0, .int .i64 0, .slice none 0 0, .slice none 0 0, .slice none 0 0, .slice none 0 0, .slice none 0 0] 32)).cell? ⟨w.heap.size, o, none⟩ = (#[.int .i64 0, .slice none 0 0, .int .i64 0, .slice none 0 0, .slice none 0 0, .slice none 0 0, .slice none 0 0, .slice none 0 0] : Array Value)[o]?) ∧ (∀ o, (w.alloc (.cells #[.int .i64 0, .slice none 0 0, .int .i64 0, .slice none 0 0, .slice none 0 0, .slice none 0 0, .slice none 0 0, .slice none 0 0] 32)).frozen? ⟨w.heap.size, o, none⟩ = false)) := ⟨((Below.refl _ _).alloc (Nat.le_refl _) _), by simp, fun o => by simp [go_sem], fun o => by simp [go_sem]⟩
    go_enter Try.func4, Try.ntmps4
    go_upto_region 1 with fail
    generalize hWW : (w.alloc (.cells #[.int .i64 0, .slice none 0 0, .int .i64 0, .slice none 0 0, .slice none 0 0, .slice none 0 0, .slice none 0 0, .slice none 0 0] 32)) = W1 at HWA ⊢
    clear hWW
    obtain ⟨hb, hsz, kR, fR⟩ := HWA.out
    clear HWA
    have HB : Hid (Below w.heap.size w W1) := hb
    have zR : w.heap.size < W1.heap.size := by omega
    clear hb hsz
    go_wp2_with fail
    refine (HCNA.out _).mono ?_
    rintro e w2 ⟨rfl, hb⟩
    replace kR := bx_below kR zR hb
    replace fR := bxF fR hb zR
    replace zR := Nat.lt_of_lt_of_le zR hb.size
    replace HB : Hid (Below w.heap.size w w2) := HB.out.trans (hb.mono HB.out.size)
    clear hb
    clear HCNA
    have HTH : Hid ((w2.alloc (.cells #[.int .i64 0, .int .i64 0, .int .i64 0, .int .i64 0, .bool false, .bool false, .slice none 0 0, .bool false, .int .i64 0, .bool false, .slice none 0 0, .slice none 0 0, .int .i64 0, .int .i64 0, .slice none 0 0, .slice none 0 0, .slice none 0 0, .bool false] 44)).there w2.heap.size 0 NA.size) := bx_there (bx_al _ _ _) (fx_al _ _ _) (by rw [HZNA.out]; rfl)
    have HWN : Hid (Below w2.heap.size w2 ((w2.alloc (.cells #[.int .i64 0, .int .i64 0, .int .i64 0, .int .i64 0, .bool false, .bool false, .slice none 0 0, .bool false, .int .i64 0, .bool false, .slice none 0 0, .slice none 0 0, .int .i64 0, .int .i64 0, .slice none 0 0, .slice none 0 0, .slice none 0 0, .bool false] 44)).setCells w2.heap.size 0 NA.toList) ∧ w2.heap.size < ((w2.alloc (.cells #[.int .i64 0, .int .i64 0, .int .i64 0, .int .i64 0, .bool false, .bool false, .slice none 0 0, .bool false, .int .i64 0, .bool false, .slice none 0 0, .slice none 0 0, .int .i64 0, .int .i64 0, .slice none 0 0, .slice none 0 0, .slice none 0 0, .bool false] 44)).setCells w2.heap.size 0 NA.toList).heap.size ∧ (∀ o, ((w2.alloc (.cells #[.int .i64 0, .int .i64 0, .int .i64 0, .int .i64 0, .bool false, .bool false, .slice none 0 0, .bool false, .int .i64 0, .bool false, .slice none 0 0, .slice none 0 0, .int .i64 0, .int .i64 0, .slice none 0 0, .slice none 0 0, .slice none 0 0, .bool false] 44)).setCells w2.heap.size 0 NA.toList).cell? ⟨w2.heap.size, o, none⟩ = NA[o]?) ∧ (∀ o, ((w2.alloc (.cells #[.int .i64 0, .int .i64 0, .int .i64 0, .int .i64 0, .bool false, .bool false, .slice none 0 0, .bool false, .int .i64 0, .bool false, .slice none 0 0, .slice none 0 0, .int .i64 0, .int .i64 0, .slice none 0 0, .slice none 0 0, .slice none 0 0, .bool false] 44)).setCells w2.heap.size 0 NA.toList).frozen? ⟨w2.heap.size, o, none⟩ = false)) := ⟨setCells_below (Nat.le_refl _) _ _ _ _ ((Below.refl _ _).alloc (Nat.le_refl _) _), by rw [setCells_size]; simp, bx_setCells (bx_al w2 _ _) (by rw [HZNA.out]; rfl), fx_sets (fx_al _ _ _)⟩
    go_upto_region 2 with (first | (refine wpList_store_mid rfl 44 _ _ rfl _ _ NA (by rfl) (by rfl) HTH.out INA.out ONNA.out ?_))
    generalize hWW : ((w2.alloc (.cells #[.int .i64 0, .int .i64 0, .int .i64 0, .int .i64 0, .bool false, .bool false, .slice none 0 0, .bool false, .int .i64 0, .bool false, .slice none 0 0, .slice none 0 0, .int .i64 0, .int .i64 0, .slice none 0 0, .slice none 0 0, .slice none 0 0, .bool false] 44)).setCells w2.heap.size 0 NA.toList) = w3 at HWN ⊢
    clear hWW HTH
    obtain ⟨hb, zA, kA, fA⟩ := HWN.out
    clear HWN
    obtain ⟨bA, hq⟩ : ∃ q, q = w2.heap.size := ⟨_, rfl⟩
    rw [← hq] at zA kA fA ⊢
    have lRA : w.heap.size < bA := by rw [hq]; exact zR
    have lwA : w.heap.size ≤ bA := by rw [hq]; exact HB.out.size
    clear hq
    replace kR := bx_below kR zR hb
    replace fR := bxF fR hb zR
    replace zR := Nat.lt_of_lt_of_le zR hb.size
    replace HB : Hid (Below w.heap.size w w3) := HB.out.trans (hb.mono HB.out.size)
    clear hb
    go_wp2_with fail
    refine (HCNB.out _).mono ?_
    rintro e w4 ⟨rfl, hb⟩
    replace kR := bx_below kR zR hb
    replace fR := bxF fR hb zR
    replace zR := Nat.lt_of_lt_of_le zR hb.size
    replace kA := bx_below kA zA hb
    replace fA := bxF fA hb zA
    replace zA := Nat.lt_of_lt_of_le zA hb.size
    replace HB : Hid (Below w.heap.size w w4) := HB.out.trans (hb.mono HB.out.size)
    clear hb
    clear HCNB
    have HTH : Hid ((w4.alloc (.cells #[.int .i64 0, .int .i64 0, .int .i64 0, .int .i64 0, .bool false, .bool false, .slice none 0 0, .bool false, .int .i64 0, .bool false, .slice none 0 0, .slice none 0 0, .int .i64 0, .int .i64 0, .slice none 0 0, .slice none 0 0, .slice none 0 0, .bool false] 44)).there w4.heap.size 0 NB.size) := bx_there (bx_al _ _ _) (fx_al _ _ _) (by rw [HZNB.out]; rfl)
    have HWN : Hid (Below w4.heap.size w4 ((w4.alloc (.cells #[.int .i64 0, .int .i64 0, .int .i64 0, .int .i64 0, .bool false, .bool false, .slice none 0 0, .bool false, .int .i64 0, .bool false, .slice none 0 0, .slice none 0 0, .int .i64 0, .int .i64 0, .slice none 0 0, .slice none 0 0, .slice none 0 0, .bool false] 44)).setCells w4.heap.size 0 NB.toList) ∧ w4.heap.size < ((w4.alloc (.cells #[.int .i64 0, .int .i64 0, .int .i64 0, .int .i64 0, .bool false, .bool false, .slice none 0 0, .bool false, .int .i64 0, .bool false, .slice none 0 0, .slice none 0 0, .int .i64 0, .int .i64 0, .slice none 0 0, .slice none 0 0, .slice none 0 0, .bool false] 44)).setCells w4.heap.size 0 NB.toList).heap.size ∧ (∀ o, ((w4.alloc (.cells #[.int .i64 0, .int .i64 0, .int .i64 0, .int .i64 0, .bool false, .bool false, .slice none 0 0, .bool false, .int .i64 0, .bool false, .slice none 0 0, .slice none 0 0, .int .i64 0, .int .i64 0, .slice none 0 0, .slice none 0 0, .slice none 0 0, .bool false] 44)).setCells w4.heap.size 0 NB.toList).cell? ⟨w4.heap.size, o, none⟩ = NB[o]?) ∧ (∀ o, ((w4.alloc (.cells #[.int .i64 0, .int .i64 0, .int .i64 0, .int .i64 0, .bool false, .bool false, .slice none 0 0, .bool false, .int .i64 0, .bool false, .slice none 0 0, .slice none 0 0, .int .i64 0, .int .i64 0, .slice none 0 0, .slice none 0 0, .slice none 0 0, .bool false] 44)).setCells w4.heap.size 0 NB.toList).frozen? ⟨w4.heap.size, o, none⟩ = false)) := ⟨setCells_below (Nat.le_refl _) _ _ _ _ ((Below.refl _ _).alloc (Nat.le_refl _) _), by rw [setCells_size]; simp, bx_setCells (bx_al w4 _ _) (by rw [HZNB.out]; rfl), fx_sets (fx_al _ _ _)⟩
    go_upto_region 5 with (first | (refine wpList_store_mid rfl 44 _ _ rfl _ _ NB (by rfl) (by rfl) HTH.out INB.out ONNB.out ?_))
    generalize hWW : ((w4.alloc (.cells #[.int .i64 0, .int .i64 0, .int .i64 0, .int .i64 0, .bool false, .bool false, .slice none 0 0, .bool false, .int .i64 0, .bool false, .slice none 0 0, .slice none 0 0, .int .i64 0, .int .i64 0, .slice none 0 0, .slice none 0 0, .slice none 0 0, .bool false] 44)).setCells w4.heap.size 0 NB.toList) = w5 at HWN ⊢
    clear hWW HTH
    obtain ⟨hb, zB, kB, fB⟩ := HWN.out
    clear HWN
    obtain ⟨bB, hq⟩ : ∃ q, q = w4.heap.size := ⟨_, rfl⟩
    rw [← hq] at zB kB fB ⊢
    have lRB : w.heap.size < bB := by rw [hq]; exact zR
    have lAB : bA < bB := by rw [hq]; exact zA
    have lwB : w.heap.size ≤ bB := by rw [hq]; exact HB.out.size
    clear hq
    replace kR := bx_below kR zR hb
    replace fR := bxF fR hb zR
    replace zR := Nat.lt_of_lt_of_le zR hb.size
    replace kA := bx_below kA zA hb
    replace fA := bxF fA hb zA
    replace zA := Nat.lt_of_lt_of_le zA hb.size
    replace HB : Hid (Below w.heap.size w w5) := HB.out.trans (hb.mono HB.out.size)
    clear hb
    go_wp2_with fail
    refine (sBadN 3 _).mono ?_
    rintro e w6 ⟨rfl, hb⟩
    replace kR := bx_below kR zR hb
    replace fR := bxF fR hb zR
    replace zR := Nat.lt_of_lt_of_le zR hb.size
    replace kA := bx_below kA zA hb
    replace fA := bxF fA hb zA
    replace zA := Nat.lt_of_lt_of_le zA hb.size
    replace kB := bx_below kB zB hb
    replace fB := bxF fB hb zB
    replace zB := Nat.lt_of_lt_of_le zB hb.size
    replace HB : Hid (Below w.heap.size w w6) := HB.out.trans (hb.mono HB.out.size)
    clear hb
    rw [← HN.out]
    have HTH : Hid (w6.there (w.heap.size) 0 N.size) := bx_there kR fR (by rw [HNZ.out]; rfl)
    have HKR : Hid (∀ o, (w6.setCells (w.heap.size) 0 N.toList).cell? ⟨w.heap.size, o, none⟩ = N[o]?) := bx_setCells kR (by rw [HNZ.out]; rfl)
    go_wp2_with (first | (refine wpList_store_mid rfl 32 _ _ rfl _ _ N (by rfl) (by rfl) HTH.out HIN.out HONE.out ?_))
    refine bodyPost_ret (results_box Try.results4 _ _ _ N _ (by rfl) HKR.out Try.underlying32 rfl HIN.out) rfl ⟨N, rfl, ?_, setCells_below (by omega) _ _ _ _ HB.out⟩
    rw [setCells_size]
    exact Own.mono (Own.keep (by have h := own_badW 4 w6 (w.heap.size + 1) w6.heap.size (q := 3) (by decide) (by omega); rw [HN.out]; exact h) (fun b h1 h2 => setCells_block (by omega) _ _ _)) (show w.heap.size ≤ w.heap.size + 1 by omega) (Nat.le_refl _)
  have hV : nwV a b = (0, [], (0, [nconn 0 a (-1), nconn 1 b (-1)], ([], [false, false, false], ()), [[], []], [false, false], ()), ()) := by unfold nwV; rw [if_neg (by simp [hka]), if_neg (by simp [hkb])]
  rw [hV]
  have HWA : Hid ((Lit.int .i64 a).wf = true) := key_wf hka
  have HWB : Hid ((Lit.int .i64 b).wf = true) := key_wf hkb
  clear hV
  obtain ⟨NA, hNA⟩ : ∃ A : Array Value, A = nc18 0 0 a (-1) := ⟨_, rfl⟩
  have HZNA : Hid (NA.size = 18) := by show _ = _; rw [hNA]; rfl
  have INA : Hid ((Try.prog.info? 44).map (·.size) = some NA.size) := by show _ = _; rw [HZNA.out]; exact info_C18
  have ONNA : Hid (NA.all (·.oneCell') = true) := by show _ = _; rw [hNA]; exact nc_one _ _ _ _
  have cNA : NA[0]? = some (.int .i64 0) := by rw [hNA]; rfl
  have HRNA : Hid (∀ (W : World) (qb : Nat), (∀ o, W.cell? ⟨qb, o, none⟩ = NA[o]?) → W.rangeAt qb 1 [.int .i64 0, .int .i64 a, .int .i64 0, .bool false, .bool false, .slice none 0 0, .bool false, .int .i64 0, .bool false, .slice none 0 0, .slice none 0 0, .int .i64 (-1), .int .i64 0, .slice none 0 0]) := fun W qb hk => by rw [hNA] at hk; exact nc_range hk
  have HCNA : Hid (∀ W, Calls Try.prog 9 #[.int .i64 0, .int .i64 a] W fun e w' => e = .returned (.agg NA) ∧ Below W.heap.size W w') := fun W => by rw [hNA, ← newA_yes (s := 0) hka (by decide)]; exact sNewConn 0 a W
  clear hNA
  obtain ⟨NB, hNB⟩ : ∃ A : Array Value, A = nc18 0 1 b (-1) := ⟨_, rfl⟩
  have HZNB : Hid (NB.size = 18) := by show _ = _; rw [hNB]; rfl
  have INB : Hid ((Try.prog.info? 44).map (·.size) = some NB.size) := by show _ = _; rw [HZNB.out]; exact info_C18
  have ONNB : Hid (NB.all (·.oneCell') = true) := by show _ = _; rw [hNB]; exact nc_one _ _ _ _
  have cNB : NB[0]? = some (.int .i64 0) := by rw [hNB]; rfl
  have HRNB : Hid (∀ (W : World) (qb : Nat), (∀ o, W.cell? ⟨qb, o, none⟩ = NB[o]?) → W.rangeAt qb 1 [.int .i64 1, .int .i64 b, .int .i64 0, .bool false, .bool false, .slice none 0 0, .bool false, .int .i64 0, .bool false, .slice none 0 0, .slice none 0 0, .int .i64 (-1), .int .i64 0, .slice none 0 0]) := fun W qb hk => by rw [hNB] at hk; exact nc_range hk
  have HCNB : Hid (∀ W, Calls Try.prog 9 #[.int .i64 1, .int .i64 b] W fun e w' => e = .returned (.agg NB) ∧ Below W.heap.size W w') := fun W => by rw [hNB, ← newA_yes (s := 1) hkb (by decide)]; exact sNewConn 1 b W
  clear hNB
  clear hka hkb
  have HWA : Hid (Below w.heap.size w (w.alloc (.cells #[.int .i64 0, .slice none 0 0, .int .i64 0, .slice none 0 0, .slice none 0 0, .slice none 0 0, .slice none 0 0, .slice none 0 0] 32)) ∧ (w.alloc (.cells #[.int .i64 0, .slice none 0 0, .int .i64 0, .slice none 0 0, .slice none 0 0, .slice none 0 0, .slice none 0 0, .slice none 0 0] 32)).heap.size = w.heap.size + 1 ∧ (∀ o, (w.alloc (.cells #[.int .i64 0, .slice none 0 0, .int .i64 0, .slice none 0 0, .slice none 0 0, .slice none 0 0, .slice none 0 0, .slice none 0 0] 32)).cell? ⟨w.heap.size, o, none⟩ = (#[.int .i64 0, .slice none 0 0, .int .i64 0, .slice none 0 0, .slice none 0 0, .slice none 0 0, .slice none 0 0, .slice none 0 0] : Array Value)[o]?) ∧ (∀ o, (w.alloc (.cells #[.int .i64 0, .slice none 0 0, .int .i64 0, .slice none 0 0, .slice none 0 0, .slice none 0 0, .slice none 0 0, .slice none 0 0] 32)).frozen? ⟨w.heap.size, o, none⟩ = false)) := ⟨((Below.refl _ _).alloc (Nat.le_refl _) _), by simp, fun o => by simp [go_sem], fun o => by simp [go_sem]⟩
  go_enter Try.func4, Try.ntmps4
  go_upto_region 1 with fail
  generalize hWW : (w.alloc (.cells #[.int .i64 0, .slice none 0 0, .int .i64 0, .slice none 0 0, .slice none 0 0, .slice none 0 0, .slice none 0 0, .slice none 0 0] 32)) = W1 at HWA ⊢
  clear hWW
  obtain ⟨hb, hsz, kR, fR⟩ := HWA.out
  clear HWA
  have HB : Hid (Below w.heap.size w W1) := hb
  have zR : w.heap.size < W1.heap.size := by omega
  clear hb hsz
  go_wp2_with fail
  refine (HCNA.out _).mono ?_
  rintro e w2 ⟨rfl, hb⟩
  replace kR := bx_below kR zR hb
  replace fR := bxF fR hb zR
  replace zR := Nat.lt_of_lt_of_le zR hb.size
  replace HB : Hid (Below w.heap.size w w2) := HB.out.trans (hb.mono HB.out.size)
  clear hb
  clear HCNA
  have HTH : Hid ((w2.alloc (.cells #[.int .i64 0, .int .i64 0, .int .i64 0, .int .i64 0, .bool false, .bool false, .slice none 0 0, .bool false, .int .i64 0, .bool false, .slice none 0 0, .slice none 0 0, .int .i64 0, .int .i64 0, .slice none 0 0, .slice none 0 0, .slice none 0 0, .bool false] 44)).there w2.heap.size 0 NA.size) := bx_there (bx_al _ _ _) (fx_al _ _ _) (by rw [HZNA.out]; rfl)
  have HWN : Hid (Below w2.heap.size w2 ((w2.alloc (.cells #[.int .i64 0, .int .i64 0, .int .i64 0, .int .i64 0, .bool false, .bool false, .slice none 0 0, .bool false, .int .i64 0, .bool false, .slice none 0 0, .slice none 0 0, .int .i64 0, .int .i64 0, .slice none 0 0, .slice none 0 0, .slice none 0 0, .bool false] 44)).setCells w2.heap.size 0 NA.toList) ∧ w2.heap.size < ((w2.alloc (.cells #[.int .i64 0, .int .i64 0, .int .i64 0, .int .i64 0, .bool false, .bool false, .slice none 0 0, .bool false, .int .i64 0, .bool false, .slice none 0 0, .slice none 0 0, .int .i64 0, .int .i64 0, .slice none 0 0, .slice none 0 0, .slice none 0 0, .bool false] 44)).setCells w2.heap.size 0 NA.toList).heap.size ∧ (∀ o, ((w2.alloc (.cells #[.int .i64 0, .int .i64 0, .int .i64 0, .int .i64 0, .bool false, .bool false, .slice none 0 0, .bool false, .int .i64 0, .bool false, .slice none 0 0, .slice none 0 0, .int .i64 0, .int .i64 0, .slice none 0 0, .slice none 0 0, .slice none 0 0, .bool false] 44)).setCells w2.heap.size 0 NA.toList).cell? ⟨w2.heap.size, o, none⟩ = NA[o]?) ∧ (∀ o, ((w2.alloc (.cells #[.int .i64 0, .int .i64 0, .int .i64 0, .int .i64 0, .bool false, .bool false, .slice none 0 0, .bool false, .int .i64 0, .bool false, .slice none 0 0, .slice none 0 0, .int .i64 0, .int .i64 0, .slice none 0 0, .slice none 0 0, .slice none 0 0, .bool false] 44)).setCells w2.heap.size 0 NA.toList).frozen? ⟨w2.heap.size, o, none⟩ = false)) := ⟨setCells_below (Nat.le_refl _) _ _ _ _ ((Below.refl _ _).alloc (Nat.le_refl _) _), by rw [setCells_size]; simp, bx_setCells (bx_al w2 _ _) (by rw [HZNA.out]; rfl), fx_sets (fx_al _ _ _)⟩
  go_upto_region 2 with (first | (refine wpList_store_mid rfl 44 _ _ rfl _ _ NA (by rfl) (by rfl) HTH.out INA.out ONNA.out ?_))
  generalize hWW : ((w2.alloc (.cells #[.int .i64 0, .int .i64 0, .int .i64 0, .int .i64 0, .bool false, .bool false, .slice none 0 0, .bool false, .int .i64 0, .bool false, .slice none 0 0, .slice none 0 0, .int .i64 0, .int .i64 0, .slice none 0 0, .slice none 0 0, .slice none 0 0, .bool false] 44)).setCells w2.heap.size 0 NA.toList) = w3 at HWN ⊢
  clear hWW HTH
  obtain ⟨hb, zA, kA, fA⟩ := HWN.out
  clear HWN
  obtain ⟨bA, hq⟩ : ∃ q, q = w2.heap.size := ⟨_, rfl⟩
  rw [← hq] at zA kA fA ⊢
  have lRA : w.heap.size < bA := by rw [hq]; exact zR
  have lwA : w.heap.size ≤ bA := by rw [hq]; exact HB.out.size
  clear hq
  replace kR := bx_below kR zR hb
  replace fR := bxF fR hb zR
  replace zR := Nat.lt_of_lt_of_le zR hb.size
  replace HB : Hid (Below w.heap.size w w3) := HB.out.trans (hb.mono HB.out.size)
  clear hb
  go_wp2_with fail
  refine (HCNB.out _).mono ?_
  rintro e w4 ⟨rfl, hb⟩
  replace kR := bx_below kR zR hb
  replace fR := bxF fR hb zR
  replace zR := Nat.lt_of_lt_of_le zR hb.size
  replace kA := bx_below kA zA hb
  replace fA := bxF fA hb zA
  replace zA := Nat.lt_of_lt_of_le zA hb.size
  replace HB : Hid (Below w.heap.size w w4) := HB.out.trans (hb.mono HB.out.size)
  clear hb
  clear HCNB
  have HTH : Hid ((w4.alloc (.cells #[.int .i64 0, .int .i64 0, .int .i64 0, .int .i64 0, .bool false, .bool false, .slice none 0 0, .bool false, .int .i64 0, .bool false, .slice none 0 0, .slice none 0 0, .int .i64 0, .int .i64 0, .slice none 0 0, .slice none 0 0, .slice none 0 0, .bool false] 44)).there w4.heap.size 0 NB.size) := bx_there (bx_al _ _ _) (fx_al _ _ _) (by rw [HZNB.out]; rfl)
  have HWN : Hid (Below w4.heap.size w4 ((w4.alloc (.cells #[.int .i64 0, .int .i64 0, .int .i64 0, .int .i64 0, .bool false, .bool false, .slice none 0 0, .bool false, .int .i64 0, .bool false, .slice none 0 0, .slice none 0 0, .int .i64 0, .int .i64 0, .slice none 0 0, .slice none 0 0, .slice none 0 0, .bool false] 44)).setCells w4.heap.size 0 NB.toList) ∧ w4.heap.size < ((w4.alloc (.cells #[.int .i64 0, .int .i64 0, .int .i64 0, .int .i64 0, .bool false, .bool false, .slice none 0 0, .bool false, .int .i64 0, .bool false, .slice none 0 0, .slice none 0 0, .int .i64 0, .int .i64 0, .slice none 0 0, .slice none 0 0, .slice none 0 0, .bool false] 44)).setCells w4.heap.size 0 NB.toList).heap.size ∧ (∀ o, ((w4.alloc (.cells #[.int .i64 0, .int .i64 0, .int .i64 0, .int .i64 0, .bool false, .bool false, .slice none 0 0, .bool false, .int .i64 0, .bool false, .slice none 0 0, .slice none 0 0, .int .i64 0, .int .i64 0, .slice none 0 0, .slice none 0 0, .slice none 0 0, .bool false] 44)).setCells w4.heap.size 0 NB.toList).cell? ⟨w4.heap.size, o, none⟩ = NB[o]?) ∧ (∀ o, ((w4.alloc (.cells #[.int .i64 0, .int .i64 0, .int .i64 0, .int .i64 0, .bool false, .bool false, .slice none 0 0, .bool false, .int .i64 0, .bool false, .slice none 0 0, .slice none 0 0, .int .i64 0, .int .i64 0, .slice none 0 0, .slice none 0 0, .slice none 0 0, .bool false] 44)).setCells w4.heap.size 0 NB.toList).frozen? ⟨w4.heap.size, o, none⟩ = false)) := ⟨setCells_below (Nat.le_refl _) _ _ _ _ ((Below.refl _ _).alloc (Nat.le_refl _) _), by rw [setCells_size]; simp, bx_setCells (bx_al w4 _ _) (by rw [HZNB.out]; rfl), fx_sets (fx_al _ _ _)⟩
  go_upto_region 5 with (first | (refine wpList_store_mid rfl 44 _ _ rfl _ _ NB (by rfl) (by rfl) HTH.out INB.out ONNB.out ?_))
  generalize hWW : ((w4.alloc (.cells #[.int .i64 0, .int .i64 0, .int .i64 0, .int .i64 0, .bool false, .bool false, .slice none 0 0, .bool false, .int .i64 0, .bool false, .slice none 0 0, .slice none 0 0, .int .i64 0, .int .i64 0, .slice none 0 0, .slice none 0 0, .slice none 0 0, .bool false] 44)).setCells w4.heap.size 0 NB.toList) = w5 at HWN ⊢
  clear hWW HTH
  obtain ⟨hb, zB, kB, fB⟩ := HWN.out
  clear HWN
  obtain ⟨bB, hq⟩ : ∃ q, q = w4.heap.size := ⟨_, rfl⟩
  rw [← hq] at zB kB fB ⊢
  have lRB : w.heap.size < bB := by rw [hq]; exact zR
  have lAB : bA < bB := by rw [hq]; exact zA
  have lwB : w.heap.size ≤ bB := by rw [hq]; exact HB.out.size
  clear hq
  replace kR := bx_below kR zR hb
  replace fR := bxF fR hb zR
  replace zR := Nat.lt_of_lt_of_le zR hb.size
  replace kA := bx_below kA zA hb
  replace fA := bxF fA hb zA
  replace zA := Nat.lt_of_lt_of_le zA hb.size
  replace HB : Hid (Below w.heap.size w w5) := HB.out.trans (hb.mono HB.out.size)
  clear hb
  go_upto_region 7 with fail
  have HGA : Hid (w5.rangeAt bA 1 [.int .i64 0, .int .i64 a, .int .i64 0, .bool false, .bool false, .slice none 0 0, .bool false, .int .i64 0, .bool false, .slice none 0 0, .slice none 0 0, .int .i64 (-1), .int .i64 0, .slice none 0 0]) := HRNA.out _ _ kA
  have HGB : Hid (w5.rangeAt bB 1 [.int .i64 1, .int .i64 b, .int .i64 0, .bool false, .bool false, .slice none 0 0, .bool false, .int .i64 0, .bool false, .slice none 0 0, .slice none 0 0, .int .i64 (-1), .int .i64 0, .slice none 0 0]) := HRNB.out _ _ kB
  have HI14a : Hid ((Try.prog.info? 42).map (·.size) = some [Value.int .i64 0, .int .i64 a, .int .i64 0, .bool false, .bool false, .slice none 0 0, .bool false, .int .i64 0, .bool false, .slice none 0 0, .slice none 0 0, .int .i64 (-1), .int .i64 0, .slice none 0 0].length) := info_C14
  have HI14b : Hid ((Try.prog.info? 42).map (·.size) = some [Value.int .i64 1, .int .i64 b, .int .i64 0, .bool false, .bool false, .slice none 0 0, .bool false, .int .i64 0, .bool false, .slice none 0 0, .slice none 0 0, .int .i64 (-1), .int .i64 0, .slice none 0 0].length) := info_C14
  obtain ⟨N, hN⟩ : ∃ N : Array Value, N = #[.int .i64 0, .slice none 0 0, .int .i64 0, .slice (some ⟨w5.heap.size, 0, none⟩) 2 2, .slice none 0 0, .slice (some ⟨w5.heap.size + 1, 0, none⟩) 3 3, .slice (some ⟨w5.heap.size + 2, 0, none⟩) 2 2, .slice (some ⟨w5.heap.size + 3, 0, none⟩) 2 2] := ⟨_, rfl⟩
  have HN : Hid _ := hN
  have HNZ : Hid (N.size = 8) := by show _ = _; rw [hN]; rfl
  have HIN : Hid ((Try.prog.info? 32).map (·.size) = some N.size) := by show _ = _; rw [HNZ.out]; exact info_WRn
  have HONE : Hid (N.all (·.oneCell') = true) := by show _ = _; rw [hN]; simp [Value.oneCell']
  clear hN
  have hbX : Below w5.heap.size w5 ((((w5.alloc (.cells #[.int .i64 0, .int .i64 a, .int .i64 0, .bool false, .bool false, .slice none 0 0, .bool false, .int .i64 0, .bool false, .slice none 0 0, .slice none 0 0, .int .i64 (-1), .int .i64 0, .slice none 0 0, .int .i64 1, .int .i64 b, .int .i64 0, .bool false, .bool false, .slice none 0 0, .bool false, .int .i64 0, .bool false, .slice none 0 0, .slice none 0 0, .int .i64 (-1), .int .i64 0, .slice none 0 0] 42)).alloc (.cells #[.bool false, .bool false, .bool false] 4)).alloc (.cells #[.slice none 0 0, .slice none 0 0] 22)).alloc (.cells #[.bool false, .bool false] 4)) := ((((Below.refl _ _).alloc (Nat.le_refl _) _).alloc (by simp) _).alloc (by simp; omega) _).alloc (by simp; omega) _
  have hzX : ((((w5.alloc (.cells #[.int .i64 0, .int .i64 a, .int .i64 0, .bool false, .bool false, .slice none 0 0, .bool false, .int .i64 0, .bool false, .slice none 0 0, .slice none 0 0, .int .i64 (-1), .int .i64 0, .slice none 0 0, .int .i64 1, .int .i64 b, .int .i64 0, .bool false, .bool false, .slice none 0 0, .bool false, .int .i64 0, .bool false, .slice none 0 0, .slice none 0 0, .int .i64 (-1), .int .i64 0, .slice none 0 0] 42)).alloc (.cells #[.bool false, .bool false, .bool false] 4)).alloc (.cells #[.slice none 0 0, .slice none 0 0] 22)).alloc (.cells #[.bool false, .bool false] 4)).heap.size = w5.heap.size + 4 := by simp
  obtain ⟨g0, g1, g2, g3⟩ := four_at w5 (.cells #[.int .i64 0, .int .i64 a, .int .i64 0, .bool false, .bool false, .slice none 0 0, .bool false, .int .i64 0, .bool false, .slice none 0 0, .slice none 0 0, .int .i64 (-1), .int .i64 0, .slice none 0 0, .int .i64 1, .int .i64 b, .int .i64 0, .bool false, .bool false, .slice none 0 0, .bool false, .int .i64 0, .bool false, .slice none 0 0, .slice none 0 0, .int .i64 (-1), .int .i64 0, .slice none 0 0] 42) (.cells #[.bool false, .bool false, .bool false] 4) (.cells #[.slice none 0 0, .slice none 0 0] 22) (.cells #[.bool false, .bool false] 4)
  replace g0 : ((((w5.alloc (.cells #[.int .i64 0, .int .i64 a, .int .i64 0, .bool false, .bool false, .slice none 0 0, .bool false, .int .i64 0, .bool false, .slice none 0 0, .slice none 0 0, .int .i64 (-1), .int .i64 0, .slice none 0 0, .int .i64 1, .int .i64 b, .int .i64 0, .bool false, .bool false, .slice none 0 0, .bool false, .int .i64 0, .bool false, .slice none 0 0, .slice none 0 0, .int .i64 (-1), .int .i64 0, .slice none 0 0] 42)).alloc (.cells #[.bool false, .bool false, .bool false] 4)).alloc (.cells #[.slice none 0 0, .slice none 0 0] 22)).alloc (.cells #[.bool false, .bool false] 4)).heap[w5.heap.size]? = some (.cells (([.int .i64 0, .int .i64 a, .int .i64 0, .bool false, .bool false, .slice none 0 0, .bool false, .int .i64 0, .bool false, .slice none 0 0, .slice none 0 0, .int .i64 (-1), .int .i64 0, .slice none 0 0] : List Value) ++ ([.int .i64 1, .int .i64 b, .int .i64 0, .bool false, .bool false, .slice none 0 0, .bool false, .int .i64 0, .bool false, .slice none 0 0, .slice none 0 0, .int .i64 (-1), .int .i64 0, .slice none 0 0] : List Value)).toArray 42 (0, 0)) := g0
  replace g2 : ((((w5.alloc (.cells #[.int .i64 0, .int .i64 a, .int .i64 0, .bool false, .bool false, .slice none 0 0, .bool false, .int .i64 0, .bool false, .slice none 0 0, .slice none 0 0, .int .i64 (-1), .int .i64 0, .slice none 0 0, .int .i64 1, .int .i64 b, .int .i64 0, .bool false, .bool false, .slice none 0 0, .bool false, .int .i64 0, .bool false, .slice none 0 0, .slice none 0 0, .int .i64 (-1), .int .i64 0, .slice none 0 0] 42)).alloc (.cells #[.bool false, .bool false, .bool false] 4)).alloc (.cells #[.slice none 0 0, .slice none 0 0] 22)).alloc (.cells #[.bool false, .bool false] 4)).heap[w5.heap.size + 2]? = some (.cells (([.slice none 0 0] : List Value) ++ ([.slice none 0 0] : List Value)).toArray 22 (0, 0)) := g2
  replace g3 : ((((w5.alloc (.cells #[.int .i64 0, .int .i64 a, .int .i64 0, .bool false, .bool false, .slice none 0 0, .bool false, .int .i64 0, .bool false, .slice none 0 0, .slice none 0 0, .int .i64 (-1), .int .i64 0, .slice none 0 0, .int .i64 1, .int .i64 b, .int .i64 0, .bool false, .bool false, .slice none 0 0, .bool false, .int .i64 0, .bool false, .slice none 0 0, .slice none 0 0, .int .i64 (-1), .int .i64 0, .slice none 0 0] 42)).alloc (.cells #[.bool false, .bool false, .bool false] 4)).alloc (.cells #[.slice none 0 0, .slice none 0 0] 22)).alloc (.cells #[.bool false, .bool false] 4)).heap[w5.heap.size + 3]? = some (.cells (([.bool false] : List Value) ++ ([.bool false] : List Value)).toArray 4 (0, 0)) := g3
  have HTHX : Hid (((((w5.alloc (.cells #[.int .i64 0, .int .i64 a, .int .i64 0, .bool false, .bool false, .slice none 0 0, .bool false, .int .i64 0, .bool false, .slice none 0 0, .slice none 0 0, .int .i64 (-1), .int .i64 0, .slice none 0 0, .int .i64 1, .int .i64 b, .int .i64 0, .bool false, .bool false, .slice none 0 0, .bool false, .int .i64 0, .bool false, .slice none 0 0, .slice none 0 0, .int .i64 (-1), .int .i64 0, .slice none 0 0] 42)).alloc (.cells #[.bool false, .bool false, .bool false] 4)).alloc (.cells #[.slice none 0 0, .slice none 0 0] 22)).alloc (.cells #[.bool false, .bool false] 4)).there w.heap.size 0 N.size) := bx_there (bx_below kR zR hbX) (bxF fR hbX zR) (by rw [HNZ.out]; rfl)
  have HX : Hid (Below w5.heap.size w5 ((((w5.alloc (.cells #[.int .i64 0, .int .i64 a, .int .i64 0, .bool false, .bool false, .slice none 0 0, .bool false, .int .i64 0, .bool false, .slice none 0 0, .slice none 0 0, .int .i64 (-1), .int .i64 0, .slice none 0 0, .int .i64 1, .int .i64 b, .int .i64 0, .bool false, .bool false, .slice none 0 0, .bool false, .int .i64 0, .bool false, .slice none 0 0, .slice none 0 0, .int .i64 (-1), .int .i64 0, .slice none 0 0] 42)).alloc (.cells #[.bool false, .bool false, .bool false] 4)).alloc (.cells #[.slice none 0 0, .slice none 0 0] 22)).alloc (.cells #[.bool false, .bool false] 4))) := hbX
  have HOWN : Hid (Own ((((w5.alloc (.cells #[.int .i64 0, .int .i64 a, .int .i64 0, .bool false, .bool false, .slice none 0 0, .bool false, .int .i64 0, .bool false, .slice none 0 0, .slice none 0 0, .int .i64 (-1), .int .i64 0, .slice none 0 0, .int .i64 1, .int .i64 b, .int .i64 0, .bool false, .bool false, .slice none 0 0, .bool false, .int .i64 0, .bool false, .slice none 0 0, .slice none 0 0, .int .i64 (-1), .int .i64 0, .slice none 0 0] 42)).alloc (.cells #[.bool false, .bool false, .bool false] 4)).alloc (.cells #[.slice none 0 0, .slice none 0 0] 22)).alloc (.cells #[.bool false, .bool false] 4)) (w.heap.size + 1) ((((w5.alloc (.cells #[.int .i64 0, .int .i64 a, .int .i64 0, .bool false, .bool false, .slice none 0 0, .bool false, .int .i64 0, .bool false, .slice none 0 0, .slice none 0 0, .int .i64 (-1), .int .i64 0, .slice none 0 0, .int .i64 1, .int .i64 b, .int .i64 0, .bool false, .bool false, .slice none 0 0, .bool false, .int .i64 0, .bool false, .slice none 0 0, .slice none 0 0, .int .i64 (-1), .int .i64 0, .slice none 0 0] 42)).alloc (.cells #[.bool false, .bool false, .bool false] 4)).alloc (.cells #[.slice none 0 0, .slice none 0 0] 22)).alloc (.cells #[.bool false, .bool false] 4)).heap.size (shWR 4) (0, [], (0, [nconn 0 a (-1), nconn 1 b (-1)], ([], [false, false, false], ()), [[], []], [false, false], ()), ()) N.toList) := by
    have q0 := own_two g0 (nconn_ow _ (by decide) HWA.out) (nconn_ow _ (by decide) HWB.out)
    have q2 := own_two (e := u8s) (x := []) (y := []) g2 (Or.inl ⟨rfl, rfl, rfl⟩) (Or.inl ⟨rfl, rfl, rfl⟩)
    have q3 := own_two (e := .bool) (x := false) (y := false) g3 ⟨rfl, rfl⟩ ⟨rfl, rfl⟩
    have q1 : Own ((((w5.alloc (.cells #[.int .i64 0, .int .i64 a, .int .i64 0, .bool false, .bool false, .slice none 0 0, .bool false, .int .i64 0, .bool false, .slice none 0 0, .slice none 0 0, .int .i64 (-1), .int .i64 0, .slice none 0 0, .int .i64 1, .int .i64 b, .int .i64 0, .bool false, .bool false, .slice none 0 0, .bool false, .int .i64 0, .bool false, .slice none 0 0, .slice none 0 0, .int .i64 (-1), .int .i64 0, .slice none 0 0] 42)).alloc (.cells #[.bool false, .bool false, .bool false] 4)).alloc (.cells #[.slice none 0 0, .slice none 0 0] 22)).alloc (.cells #[.bool false, .bool false] 4)) (w5.heap.size + 1) (w5.heap.size + 1 + 1) (shNetT 4) ([], [false, false, false], ()) [.slice none 0 0, .slice (some ⟨w5.heap.size + 1, 0, none⟩) 3 3] := own_three g1
    have h := own_WR (t := 4) (lo := w.heap.size + 1) (m := w.heap.size + 1) (hi := ((((w5.alloc (.cells #[.int .i64 0, .int .i64 a, .int .i64 0, .bool false, .bool false, .slice none 0 0, .bool false, .int .i64 0, .bool false, .slice none 0 0, .slice none 0 0, .int .i64 (-1), .int .i64 0, .slice none 0 0, .int .i64 1, .int .i64 b, .int .i64 0, .bool false, .bool false, .slice none 0 0, .bool false, .int .i64 0, .bool false, .slice none 0 0, .slice none 0 0, .int .i64 (-1), .int .i64 0, .slice none 0 0] 42)).alloc (.cells #[.bool false, .bool false, .bool false] 4)).alloc (.cells #[.slice none 0 0, .slice none 0 0] 22)).alloc (.cells #[.bool false, .bool false] 4)).heap.size) (q := 0) (s := []) (u := .slice none 0 0) (by decide) ⟨[], zero_ow _ u8s, by simp, by simp⟩ (own_W4 (lo := w.heap.size + 1) (hi := ((((w5.alloc (.cells #[.int .i64 0, .int .i64 a, .int .i64 0, .bool false, .bool false, .slice none 0 0, .bool false, .int .i64 0, .bool false, .slice none 0 0, .slice none 0 0, .int .i64 (-1), .int .i64 0, .slice none 0 0, .int .i64 1, .int .i64 b, .int .i64 0, .bool false, .bool false, .slice none 0 0, .bool false, .int .i64 0, .bool false, .slice none 0 0, .slice none 0 0, .int .i64 (-1), .int .i64 0, .slice none 0 0] 42)).alloc (.cells #[.bool false, .bool false, .bool false] 4)).alloc (.cells #[.slice none 0 0, .slice none 0 0] 22)).alloc (.cells #[.bool false, .bool false] 4)).heap.size) (y0 := 0) (by decide) q0 q1 q2 q3 (by omega) (by omega) (by omega) (by omega) (by omega) (by omega) (by omega) (by omega) (by omega) (by omega) (by omega) (by omega) (by omega) (by omega)) (Nat.le_refl _) (by omega)
    show Own _ _ _ _ _ _
    rw [HN.out]
    exact h
  have HKR : Hid (∀ o, (((((w5.alloc (.cells #[.int .i64 0, .int .i64 a, .int .i64 0, .bool false, .bool false, .slice none 0 0, .bool false, .int .i64 0, .bool false, .slice none 0 0, .slice none 0 0, .int .i64 (-1), .int .i64 0, .slice none 0 0, .int .i64 1, .int .i64 b, .int .i64 0, .bool false, .bool false, .slice none 0 0, .bool false, .int .i64 0, .bool false, .slice none 0 0, .slice none 0 0, .int .i64 (-1), .int .i64 0, .slice none 0 0] 42)).alloc (.cells #[.bool false, .bool false, .bool false] 4)).alloc (.cells #[.slice none 0 0, .slice none 0 0] 22)).alloc (.cells #[.bool false, .bool false] 4)).setCells w.heap.size 0 N.toList).cell? ⟨w.heap.size, o, none⟩ = N[o]?) := bx_setCells (bx_below kR zR hbX) (by rw [HNZ.out]; rfl)
  have HBX : Hid (Below w.heap.size w ((((w5.alloc (.cells #[.int .i64 0, .int .i64 a, .int .i64 0, .bool false, .bool false, .slice none 0 0, .bool false, .int .i64 0, .bool false, .slice none 0 0, .slice none 0 0, .int .i64 (-1), .int .i64 0, .slice none 0 0, .int .i64 1, .int .i64 b, .int .i64 0, .bool false, .bool false, .slice none 0 0, .bool false, .int .i64 0, .bool false, .slice none 0 0, .slice none 0 0, .int .i64 (-1), .int .i64 0, .slice none 0 0] 42)).alloc (.cells #[.bool false, .bool false, .bool false] 4)).alloc (.cells #[.slice none 0 0, .slice none 0 0] 22)).alloc (.cells #[.bool false, .bool false] 4))) := HB.out.trans (hbX.mono HB.out.size)
  clear hbX hzX g0 g1 g2 g3 kA kB kR fR
  go_wp2_with (first | (refine wpList_load_mid rfl 42 _ rfl _ _ (by rfl) [.int .i64 0, .int .i64 a, .int .i64 0, .bool false, .bool false, .slice none 0 0, .bool false, .int .i64 0, .bool false, .slice none 0 0, .slice none 0 0, .int .i64 (-1), .int .i64 0, .slice none 0 0] _ HGA.out Try.underlying42 rfl HI14a.out ?_) | (refine wpList_load_mid rfl 42 _ rfl _ _ (by rfl) [.int .i64 1, .int .i64 b, .int .i64 0, .bool false, .bool false, .slice none 0 0, .bool false, .int .i64 0, .bool false, .slice none 0 0, .slice none 0 0, .int .i64 (-1), .int .i64 0, .slice none 0 0] _ HGB.out Try.underlying42 rfl HI14b.out ?_) | (refine wpList_store_mid rfl 32 _ _ rfl _ _ N (by rfl) (by rw [HN.out]; rfl) HTHX.out HIN.out HONE.out ?_))
  refine bodyPost_ret (results_box Try.results4 _ _ _ N _ (by rfl) HKR.out Try.underlying32 rfl HIN.out) rfl ⟨N, rfl, ?_, setCells_below (Nat.le_refl _) _ _ _ _ HBX.out⟩
  rw [setCells_size]
  exact Own.mono (Own.keep HOWN.out (fun b h1 h2 => setCells_block (by omega) _ _ _)) (by omega) (Nat.le_refl _)
end Go.Proofs.Ytcbgedlckcjjnaa
