/- A world's fault is a small number; no condition. -/
import Derived.Test.YteaddhldleeaiaaGreatRows
import Derived.Recover
import Derived.WalkSmall
import Derived.Maps.AppendAt
import Derived.Deep.RegionHeld3
import Derived.Deep.DeepCutAuto
import Derived.Deep.MidRow
import Derived.Deep.QuietTactic
import Derived.BigQuiet
import Derived.Test.YteaddhldleeaiaaGreatK01
import Derived.Test.YteaddhldleeaiaaGreatK02
import Derived.Test.YteaddhldleeaiaaGreatK03
import Derived.Test.YteaddhldleeaiaaGreatK05
import Derived.Test.YteaddhldleeaiaaGreatK10
import Derived.Test.YteaddhldleeaiaaGreatK11
import Derived.Test.YteaddhldleeaiaaGreatK12
import Derived.Test.YteaddhldleeaiaaGreatK13
import Derived.Test.YteaddhldleeaiaaGreatK14
import Derived.Test.YteaddhldleeaiaaGreatK15
import Derived.Test.YteaddhldleeaiaaGreatK16
import Derived.Test.YteaddhldleeaiaaGreatK21
import Derived.Test.YteaddhldleeaiaaGreatK28
import Derived.Test.YteaddhldleeaiaaGreatK55
import Derived.Test.YteaddhldleeaiaaGreatK56
import Derived.Test.YteaddhldleeaiaaGreatK57
import Derived.Test.YteaddhldleeaiaaGreatK58
import Derived.Test.YteaddhldleeaiaaGreatK59
import Derived.Test.YteaddhldleeaiaaGreatK60
import Derived.Test.YteaddhldleeaiaaGreatK62
import Derived.Test.YteaddhldleeaiaaGreatK64
import Derived.Test.YteaddhldleeaiaaGreatK79
namespace Go.Proofs.YteaddhldleeaiaaGreat
open Go.RowKit
set_option linter.unusedVariables false

theorem wf_smallL {x : Int} (h0 : 0 ≤ x) (h1 : x ≤ 10) : (Lit.int .i64 x).wf = true := by
  have : x = 0 ∨ x = 1 ∨ x = 2 ∨ x = 3 ∨ x = 4 ∨ x = 5 ∨ x = 6 ∨ x = 7 ∨ x = 8 ∨ x = 9 ∨ x = 10 := by omega
  rcases this with h | h | h | h | h | h | h | h | h | h | h <;> (subst h; decide)
theorem sgF_bdL (x : DSegm) : 0 ≤ sgF x ∧ sgF x ≤ 10 := by
  unfold sgF segFault; repeat' split
  all_goals omega
theorem carF_bdL (dead : List Bool) : ∀ (l : List DSegm), 0 ≤ carF dead l ∧ carF dead l ≤ 10
  | [] => by unfold carF; omega
  | x :: r => by
    have := sgF_bdL x; have := carF_bdL dead r
    unfold carF; repeat' split
    all_goals omega
theorem netF_bdL (bag : List DSegm) (dead : List Bool) : 0 ≤ netF bag dead ∧ netF bag dead ≤ 10 := by
  have := carF_bdL dead bag
  unfold netF; repeat' split
  all_goals omega
theorem cfs_bdL : ∀ (l : List DConn), (0 : Int) ≤ cfsF l ∧ cfsF l ≤ 10
  | [] => by simp [cfsF]
  | c :: r => by
    unfold cfsF
    split
    · have h : 0 ≤ connF c ∧ connF c ≤ 10 := by have := connF_bd c; unfold Small at this; omega
      exact h
    · exact cfs_bdL r
theorem worldF_wfL (x : DWorld) : (Lit.int .i64 (worldF x)).wf = true := by
  obtain ⟨now, sides, net, got, ended, ⟨⟩⟩ := x
  show (Lit.int .i64 (if inD now 0 100000 = false then (3 : Int) else if sides.length ≠ 2 then 1 else if got.length ≠ 2 then 1 else if ended.length ≠ 2 then 1 else if cfsF sides ≠ 0 then cfsF sides else if sdF 0 sides = false then 1 else if netF net.1 net.2.1 ≠ 0 then netF net.1 net.2.1 else if gotF sides got = false then 1 else 0)).wf = true
  have h1 := cfs_bdL sides
  have h2 := netF_bdL net.1 net.2.1
  apply wf_smallL <;> (repeat' split) <;> omega
end Go.Proofs.YteaddhldleeaiaaGreat

/- The paths that live: on which both sides have a sub that is open, and that are not dead; what is read of them; is a path open at a side, of the program. Written by mkrun2.py. -/
namespace Go.Proofs.YteaddhldleeaiaaGreat
open Go.RowKit
set_option linter.unusedVariables false
set_option maxRecDepth 8000

theorem place_bdR (l : List DSub) (p : Int) : placeD l p = -1 ∨ ∃ k : Nat, placeD l p = k ∧ k < l.length := by
  by_cases h : ∃ k, ∃ hk : k < l.length, l[k].1 = p
  · obtain ⟨k, hk, e, hm⟩ : ∃ k, ∃ hk : k < l.length, l[k].1 = p ∧ ∀ j (hj : j < l.length), j < k → l[j].1 ≠ p := by
      obtain ⟨k, hk⟩ := h
      induction k using Nat.strongRecOn with
      | ind k ih =>
        by_cases hq : ∃ j, ∃ hj : j < l.length, j < k ∧ l[j].1 = p
        · obtain ⟨j, hj, hjk, e⟩ := hq
          exact ih j hjk ⟨hj, e⟩
        · obtain ⟨hk, e⟩ := hk
          exact ⟨k, hk, e, fun j hj hjk e2 => hq ⟨j, hj, hjk, e2⟩⟩
    exact Or.inr ⟨k, place_at hk hm e, hk⟩
  · exact Or.inl (place_no fun j hj e => h ⟨j, hj, e⟩)
/-- The state of the sub on a path; 0 where there is none. -/
def stOn (c : DConn) (p : Int) : Int := ((c.subs[(placeD c.subs p).toNat]?).map (fun s => s.2.1)).getD 0
/-- A side has a sub on the path that is open. -/
def opnOn (c : DConn) (p : Int) : Bool := decide (0 ≤ placeD c.subs p) && decide (stOn c p = 3)
theorem opn_no {c : DConn} {p : Int} (h : placeD c.subs p = -1) : opnOn c p = false := by unfold opnOn; rw [h]; rfl
theorem opn_at {c : DConn} {p : Int} {k : Nat} (h : placeD c.subs p = k) (hk : k < c.subs.length) : opnOn c p = decide (c.subs[k].2.1 = 3) := by
  unfold opnOn stOn
  rw [h, decide_eq_true (by omega : (0 : Int) ≤ (k : Int)), Int.toNat_natCast, List.getElem?_eq_getElem hk]
  simp
/-- The path k lives. -/
def livB (x : DWorld) (k : Nat) : Bool := !(x.2.2.1.2.1.getD k false) && (opnOn (x.cn 0) k && opnOn (x.cn 1) k)
def livL (x : DWorld) : Nat → List Int
  | 0 => []
  | k + 1 => livL x k ++ (if livB x k = true then [(k : Int)] else [])
noncomputable def livV (x : DWorld) : DIR := if worldF x = 0 then (0, livL x 3, ()) else (worldF x, [], ())
theorem liv_len (x : DWorld) : ∀ k, (livL x k).length ≤ k
  | 0 => Nat.le_refl 0
  | k + 1 => by
    have := liv_len x k
    unfold livL
    rw [List.length_append]
    split <;> simp <;> omega
theorem liv_mem (x : DWorld) : ∀ k y, y ∈ livL x k → 0 ≤ y ∧ y < (k : Int)
  | 0, y, h => by cases h
  | k + 1, y, h => by
    unfold livL at h
    rcases List.mem_append.1 h with h | h
    · have := liv_mem x k y h; omega
    · split at h
      · simp only [List.mem_singleton] at h; omega
      · cases h
theorem liv_yes {x : DWorld} {k : Nat} (h : livB x k = true) : livL x (k + 1) = livL x k ++ [(k : Int)] := by
  show livL x k ++ _ = _
  rw [if_pos h]
theorem liv_no {x : DWorld} {k : Nat} (h : livB x k = false) : livL x (k + 1) = livL x k := by
  show livL x k ++ _ = _
  rw [if_neg (by simp [h])]; simp
theorem livV_tot (x : DWorld) : totIR (livV x) ≤ 1048576 := by
  unfold livV
  split
  · have := liv_len x 3
    show (livL x 3).length ≤ _
    omega
  · exact Nat.zero_le _
theorem worldF_net {x : DWorld} (h : worldF x = 0) : netF x.2.2.1.1 x.2.2.1.2.1 = 0 := by
  obtain ⟨now, sides, net, got, ended, ⟨⟩⟩ := x
  replace h : (if inD now 0 100000 = false then (3 : Int) else if sides.length ≠ 2 then 1 else if got.length ≠ 2 then 1 else if ended.length ≠ 2 then 1 else if cfsF sides ≠ 0 then cfsF sides else if sdF 0 sides = false then 1 else if netF net.1 net.2.1 ≠ 0 then netF net.1 net.2.1 else if gotF sides got = false then 1 else 0) = 0 := h
  show netF net.1 net.2.1 = 0
  by_cases h0 : inD now 0 100000 = false
  · rw [if_pos h0] at h; cases h
  rw [if_neg h0] at h
  by_cases h1 : sides.length = 2
  case neg => rw [if_pos h1] at h; cases h
  rw [if_neg (by simp [h1])] at h
  by_cases h2 : got.length = 2
  case neg => rw [if_pos h2] at h; cases h
  rw [if_neg (by simp [h2])] at h
  by_cases h3 : ended.length = 2
  case neg => rw [if_pos h3] at h; cases h
  rw [if_neg (by simp [h3])] at h
  by_cases h4 : cfsF sides = 0
  case neg => rw [if_pos h4] at h; exact absurd h h4
  rw [if_neg (by simp [h4])] at h
  by_cases h5 : sdF 0 sides = false
  · rw [if_pos h5] at h; cases h
  rw [if_neg h5] at h
  by_cases h6 : netF net.1 net.2.1 = 0
  · exact h6
  · rw [if_pos h6] at h; exact absurd h h6
/-- The dead row of a world without a fault. -/
theorem wo_dead {w : World} {B : Nat} {x : DWorld} {A : Array Value} (h : shWorld.Rd w B x A.toList) (hF : worldF x = 0) : ∃ db dof dc, A[3]? = some (.slice (some ⟨db, dof, none⟩) 3 dc) ∧ db < B ∧ ∀ k, k < 3 → w.cell? ⟨db, dof + k, none⟩ = some (.bool (x.2.2.1.2.1.getD k false)) := by
  obtain ⟨-, hl, -⟩ := netF_ok (worldF_net hF)
  obtain ⟨now, sides, ⟨bag, dead, ⟨⟩⟩, got, ended, ⟨⟩⟩ := x
  replace hl : dead.length = 3 := hl
  obtain ⟨sa, sc, na, nc, da, dc, ga, gc, ea, ec, eA, r1, r2, r3, r4, -⟩ := rd_World h
  obtain ⟨a, c, a', c', e, -, rb⟩ := rd_NetD r2
  simp only [List.cons.injEq, and_true] at e
  obtain ⟨-, e⟩ := e
  obtain ⟨a2, c2, e2, -, db, dof, h1, h2⟩ := rd_bls rb
  rw [← e] at e2
  simp only [Value.slice.injEq, true_and] at e2
  obtain ⟨rfl, rfl⟩ := e2
  obtain ⟨rfl, hdb⟩ := h1 (by intro e; subst e; simp at hl)
  have eA' := arr_of eA
  refine ⟨db, dof, dc, by rw [eA']; show some (Value.slice _ dead.length _) = _; rw [hl], hdb, fun k hk => ?_⟩
  rw [h2 k (show k < dead.length by omega)]
  show _ = some (Value.bool (dead.getD k false))
  rw [List.getD_eq_getElem?_getD, List.getElem?_eq_getElem (show k < dead.length by omega)]
  rfl
theorem app_intR {ops : Array Oper} {rest : List Oper} {o : Oper} {a : Act} {Q : Exit → Act → World → Prop} (w : World) (hgd : o.guard = none) (s x : Operand)
    (ho : o.op = .call { callee := .builtin .append, args := #[s, x], argTypes := #[31, 31] }) (base : Nat) (v : Value) (n : Nat) (xs : List Value) (hs : a.eval s = v)
    (hown : w.ownsRow base 2 1 v n xs) (y : Int) (hx : a.eval x = .slice (some ⟨w.heap.size, 0, none⟩) 1 1) (hn : n ≤ 1000) (hb : base ≤ w.heap.size)
    (h : ∀ v' w', w'.ownsRow base 2 1 v' (n + 1) (xs ++ [.int .i64 y]) → Below base w w' → wpList Tryz.prog ops Q rest (a.put o.dst v') w') :
    wpList Tryz.prog ops Q (o :: rest) a (w.alloc (.cells #[.int .i64 y] 2)) := by
  obtain ⟨i0, hi, hz0, hz1, hz2⟩ := info_parts info_i64
  refine wpList_append_own _ hgd s x 31 ho base 2 i0 (.int .i64 0) 1 8 Tryz.underlying31 hi hz0 hz1 hz2 rfl (by decide) v n xs hs (hown.alloc _) ⟨w.heap.size, 0, none⟩ 1 1 [.int .i64 y] hx rfl ?_ ?_ ?_ ?_ ?_ ?_
  · exact cell_one_new _ _ _
  · intro u hu; simp at hu; subst hu; rfl
  · unfold maxLen; omega
  · omega
  · simp; omega
  · intro v' w' h1 h2 _
    refine h v' w' h1 ?_
    have hba : Below base w (w.alloc (.cells #[.int .i64 y] 2)) := (Below.refl _ _).alloc hb _
    exact hba.grown h2 (by simp; omega) (fun k hk => (hown.lt k hk).1)
theorem own_formR {w : World} {base : Nat} {t : TypeId} {sz : Nat} {v : Value} {n : Nat} {xs : List Value} (h : w.ownsRow base t sz v n xs) : ∃ a cap, v = .slice a n cap := by
  obtain ⟨_, ⟨e, hz⟩ | ⟨g, cap, cur, e, _⟩⟩ := h
  · exact ⟨none, 0, by rw [e, hz]⟩
  · exact ⟨_, cap, e⟩
theorem own_belR {W W' : World} {base n : Nat} {v : Value} {xs : List Value} (h : W.ownsRow base 2 1 v n xs) (hb : Below W.heap.size W W') : W'.ownsRow base 2 1 v n xs := by
  obtain ⟨h0, h1 | ⟨g', cap', cur, e, q1, hh, q2⟩⟩ := h
  · exact ⟨h0, Or.inl h1⟩
  · have hlt : g' < W.heap.size := by
      apply Classical.byContradiction; intro hn
      rw [Array.getElem?_eq_none (by omega)] at hh; cases hh
    exact ⟨h0, Or.inr ⟨g', cap', cur, e, q1, (hb.block g' hlt).trans hh, q2⟩⟩
theorem own_setR {W : World} {base n b i : Nat} {v u : Value} {xs : List Value} (h : W.ownsRow base 2 1 v n xs) (hb : b < base) : (W.setCell ⟨b, i, none⟩ u).ownsRow base 2 1 v n xs := by
  obtain ⟨h0, h1 | ⟨g', cap', cur, e, q1, hh, q2⟩⟩ := h
  · exact ⟨h0, Or.inl h1⟩
  · exact ⟨h0, Or.inr ⟨g', cap', cur, e, q1, (Below.heap_setCell _ _ _ _ (by dsimp only; omega)).trans hh, q2⟩⟩
theorem bxCR {C : Nat} {w w' : World} {b : Nat} {A : Array Value} (h : ∀ o, w.cell? ⟨b, o, none⟩ = A[o]?) (hb : Below C w w') (hlt : b < C) : ∀ o, w'.cell? ⟨b, o, none⟩ = A[o]? := fun o => (hb.cell (p := ⟨b, o, none⟩) hlt).trans (h o)
theorem info_IsL : (Tryz.prog.info? 33).map (·.size) = some 2 := by kernel_rfl
theorem iIsOpenR (X : Array Value) (st : Int) (w : World) (x1 : X[1]? = some (.int .i64 st)) :
    Calls Tryz.prog 55 #[.agg X] w fun e w' => e = .returned (.bool (decide (st = 3))) ∧ Below w.heap.size w w' := by
  by_cases h3 : st = 3
  · have e3 : (st == 3) = true := by simp [h3]
    have hR : decide (st = 3) = true := by simp [h3]
    rw [hR]
    clear h3 hR
    go_enter Tryz.func55, Tryz.ntmps55
    go_wp2_with fail
    go_ret
    exact ⟨rfl, by go_grown⟩
  · have e3 : (st == 3) = false := by simp [h3]
    have hR : decide (st = 3) = false := by simp [h3]
    rw [hR]
    clear h3 hR
    go_enter Tryz.func55, Tryz.ntmps55
    go_wp2_with fail
    go_ret
    exact ⟨rfl, by go_grown⟩
set_option maxHeartbeats 1000000 in
theorem iIsOpenOn (c : DConn) (A : Array Value) (p : Int) (w : World) (B : Nat) (hr : shConn.Rd w B c A.toList) (hB : B ≤ w.heap.size) (hT : totConn c ≤ 1048576) :
    Calls Tryz.prog 28 #[.agg A, .int .i64 p] w fun e w' => e = .returned (.bool (opnOn c p)) ∧ Below w.heap.size w w' := by
  obtain ⟨a5, q5, a9, q9, a10, q10, a13, q13, hC⟩ := cn_all hr
  have x13 : A[13]? = some (.slice a13 c.subs.length q13) := by rw [hC.eA]; rfl
  have hm : c.subs.length ≤ 1048576 := by have h' : c.wrote.length + gtTot c.inn + (c.subs.length + fsum totSub c.subs) ≤ 1048576 := hT; omega
  obtain ⟨n, hn⟩ : ∃ n, n = c.subs.length := ⟨_, rfl⟩
  rw [← hn] at x13 hm
  have hsb := hC.subs
  rw [← hn] at hsb
  have HPO : Hid (∀ W, Below w.heap.size w W → Calls Tryz.prog 54 #[.slice a13 n q13, .int .i64 p] W fun e w' => e = .returned (.int .i64 (placeD c.subs p)) ∧ Below W.heap.size W w') := fun W hW => iPlaceOn c.subs a13 n q13 p W B (Sh.Rd.below (s := shSubs) hsb hB hW) (Nat.le_trans hB hW.size) hn.symm hm
  rcases place_bdR c.subs p with h | ⟨k, h, hk⟩
  · rw [opn_no h]
    rw [h] at HPO
    clear hr hB hT hC hsb h hn
    have HWA : Hid (Below w.heap.size w (w.alloc (.cells A 65)) ∧ (w.alloc (.cells A 65)).heap.size = w.heap.size + 1 ∧ (∀ o, (w.alloc (.cells A 65)).cell? ⟨w.heap.size, o, none⟩ = A[o]?)) := ⟨(Below.refl _ _).alloc (Nat.le_refl _) _, by simp, fun o => by simp [go_sem]⟩
    go_enter Tryz.func28, Tryz.ntmps28
    go_upto_region 1 with fail
    generalize hWW : w.alloc (.cells A 65) = W1 at HWA ⊢
    clear hWW
    obtain ⟨hb, hsz, kA⟩ := HWA.out
    clear HWA
    have HB : Hid (Below w.heap.size w W1) := hb
    have zA : w.heap.size < W1.heap.size := by omega
    clear hb hsz
    go_wp2_with fail
    refine (HPO.out _ HB.out).mono ?_
    rintro e W2 ⟨rfl, hb⟩
    replace kA := bx_below kA zA hb
    replace zA := Nat.lt_of_lt_of_le zA hb.size
    replace HB : Hid (Below w.heap.size w W2) := HB.out.trans (hb.mono HB.out.size)
    clear hb
    clear HPO kA zA
    go_wp2_with fail
    go_ret
    exact ⟨rfl, HB.out⟩
  · rw [opn_at h hk]
    rw [h] at HPO
    obtain ⟨sb, off, cs, rfl, hsB, hcl, hrg, -, -, q1, -⟩ := sub_at hsb k hk
    have HRG : Hid (∀ W, Below w.heap.size w W → W.rangeAt sb (off + k * 16) cs) := fun W hW => range_below hrg hW (Nat.lt_of_lt_of_le hsB hB)
    have x1 : cs.toArray[1]? = some (.int .i64 c.subs[k].2.1) := by
      have e := hrg 1 (cs[1]'(by omega)) (List.getElem?_eq_getElem (by omega))
      rw [q1] at e
      rw [List.getElem?_toArray, List.getElem?_eq_getElem (by omega)]
      exact e.symm
    have HX1 : Hid _ := x1
    have HIS : Hid ((Tryz.prog.info? 75).map (·.size) = some cs.length) := by show _ = _; rw [hcl]; exact (by kernel_rfl : (Tryz.prog.info? 75).map (·.size) = some 16)
    have hk0 : (0 : Int) ≤ (k : Int) := by omega
    have hkn : (k : Int) < (n : Int) := by omega
    clear x1 q1 hrg hcl hr hB hT hC hsb h hsB
    generalize c.subs[k].2.1 = st at *
    clear hk hn
    have HWA : Hid (Below w.heap.size w (w.alloc (.cells A 65)) ∧ (w.alloc (.cells A 65)).heap.size = w.heap.size + 1 ∧ (∀ o, (w.alloc (.cells A 65)).cell? ⟨w.heap.size, o, none⟩ = A[o]?)) := ⟨(Below.refl _ _).alloc (Nat.le_refl _) _, by simp, fun o => by simp [go_sem]⟩
    go_enter Tryz.func28, Tryz.ntmps28
    go_upto_region 1 with fail
    generalize hWW : w.alloc (.cells A 65) = W1 at HWA ⊢
    clear hWW
    obtain ⟨hb, hsz, kA⟩ := HWA.out
    clear HWA
    have HB : Hid (Below w.heap.size w W1) := hb
    have zA : w.heap.size < W1.heap.size := by omega
    clear hb hsz
    go_wp2_with fail
    refine (HPO.out _ HB.out).mono ?_
    rintro e W2 ⟨rfl, hb⟩
    replace kA := bx_below kA zA hb
    replace zA := Nat.lt_of_lt_of_le zA hb.size
    replace HB : Hid (Below w.heap.size w W2) := HB.out.trans (hb.mono HB.out.size)
    clear hb
    clear HPO
    go_wp2_with (first | (refine wpList_load_mid rfl 75 _ rfl _ _ (by rfl) cs _ (HRG.out _ HB.out) Tryz.underlying75 rfl HIS.out ?_) | (refine Go.BigFrame.wpList_want (by rfl) fun KK hKK => wp_load_mid 75 _ rfl _ _ (by rfl) cs _ (HRG.out _ HB.out) Tryz.underlying75 rfl HIS.out (hKK _ _ ?_); clear hKK KK))
    refine (iIsOpenR cs.toArray st _ HX1.out).mono ?_
    rintro e W3 ⟨rfl, hb⟩
    replace kA := bx_below kA zA hb
    replace zA := Nat.lt_of_lt_of_le zA hb.size
    replace HB : Hid (Below w.heap.size w W3) := HB.out.trans (hb.mono HB.out.size)
    clear hb
    clear HX1 HRG HIS kA zA
    go_wp2_with fail
    go_ret
    exact ⟨rfl, HB.out⟩
end Go.Proofs.YteaddhldleeaiaaGreat
