/- How many rounds are enough: RoundsFor, of the program and of its model; nothing that was in memory turns; no condition but that there are at most a million parts. Written by mkrun1.py. -/
import Derived.Test.YteaddhldleeaiaaGreatRows
import Derived.Recover
import Derived.Deep.RegionHeld3
import Derived.Deep.DeepCutAuto
import Derived.Deep.MidRow
import Derived.Deep.QuietTactic
import Derived.BigQuiet
import Derived.Test.YteaddhldleeaiaaGreatK01
import Derived.Test.YteaddhldleeaiaaGreatK02
import Derived.Test.YteaddhldleeaiaaGreatK03
import Derived.Test.YteaddhldleeaiaaGreatK05
import Derived.Test.YteaddhldleeaiaaGreatK10
import Derived.Test.YteaddhldleeaiaaGreatK11
import Derived.Test.YteaddhldleeaiaaGreatK12
import Derived.Test.YteaddhldleeaiaaGreatK14
import Derived.Test.YteaddhldleeaiaaGreatK58
import Derived.Test.YteaddhldleeaiaaGreatK59
import Derived.Test.YteaddhldleeaiaaGreatK60
import Derived.Test.YteaddhldleeaiaaGreatK61
import Derived.Test.YteaddhldleeaiaaGreatK62
import Derived.Test.YteaddhldleeaiaaGreatK64
import Derived.Test.YteaddhldleeaiaaGreatK79
namespace Go.Proofs.YteaddhldleeaiaaGreat
open Go.RowKit
set_option linter.unusedVariables false
set_option maxRecDepth 8000

/-- What is not known to be there, four rounds a byte. -/
def rfN : List DConn → Int
  | [] => 0
  | c :: r => 4 * ((c.wrote.length : Int) - c.acked) + rfN r
def rfV (x : DWorld) : Int := if worldF x = 0 then min 200 (40 + rfN x.sides) else 0
theorem rf_drop {l : List DConn} {k : Nat} (hk : k < l.length) : rfN (l.drop k) = 4 * ((l[k].wrote.length : Int) - l[k].acked) + rfN (l.drop (k + 1)) := by
  rw [List.drop_eq_getElem_cons hk]; rfl
theorem rf_end {l : List DConn} {k : Nat} (hk : l.length ≤ k) : rfN (l.drop k) = 0 := by rw [List.drop_of_length_le hk]; rfl
theorem w64 {z : Int} (h0 : -9223372036854775808 ≤ z) (h1 : z ≤ 9223372036854775807) : IntKind.i64.wrap z = z := by simp only [IntKind.wrap, IntKind.bits, IntKind.signed]; simp; omega
theorem sMinR (a b : Int) (w : World) : Calls Tryz.prog 40 #[.int .i64 a, .int .i64 b] w fun e w' => e = .returned (.int .i64 (min a b)) ∧ w' = w := by
  by_cases h : a < b
  · rw [show min a b = a by omega]
    go_enter Tryz.func40, Tryz.ntmps40
    go_wp2
    go_ret
    exact ⟨rfl, rfl⟩
  · rw [show min a b = b by omega]
    go_enter Tryz.func40, Tryz.ntmps40
    go_wp2
    go_ret
    exact ⟨rfl, rfl⟩
set_option maxHeartbeats 4000000 in
theorem iRoundsFor (x : DWorld) (A : Array Value) (w : World) (B : Nat) (hr : shWorld.Rd w B x A.toList) (hB : B ≤ w.heap.size) (hT : totWorld x ≤ 1048576) :
    Calls Tryz.prog 15 #[.agg A] w fun e w' => e = .returned (.agg #[.int .i64 (worldF x), .int .i64 (rfV x)]) ∧ Below w.heap.size w w' := by
  obtain ⟨pv, hpv⟩ : ∃ p, p = rfV x := ⟨_, rfl⟩
  rw [← hpv]
  have HPV : Hid _ := hpv
  have hI2 : (Tryz.prog.info? 48).map (·.size) = some 2 := by kernel_rfl
  have HI : Hid ((Tryz.prog.info? 40).map (·.size) = some A.toList.length) := by show _ = _; rw [Array.length_toList, rd_size hr]; exact (by kernel_rfl : (Tryz.prog.info? 40).map (·.size) = some 6)
  have HWF : Hid (∀ W, Below w.heap.size w W → Calls Tryz.prog 27 #[.agg A] W fun e w' => e = .returned (.int .i64 (worldF x)) ∧ Below W.heap.size W w') := fun W hW => iWorldFault x A W B (Sh.Rd.below hr hB hW) (Nat.le_trans hB hW.size) hT
  by_cases h0 : worldF x = 0
  case neg =>
    have hp0 : pv = 0 := by rw [hpv]; unfold rfV; rw [if_neg h0]
    subst hp0
    have h0' : (worldF x != 0) = true := by simp [h0]
    clear hr hB hT h0 hpv HPV
    generalize worldF x = F at *
    have HWA : Hid (Below w.heap.size w ((w.alloc (.cells A 40)).alloc (.cells #[.int .i64 0, .int .i64 0] 48)) ∧ ((w.alloc (.cells A 40)).alloc (.cells #[.int .i64 0, .int .i64 0] 48)).heap.size = w.heap.size + 2 ∧ (∀ o, ((w.alloc (.cells A 40)).alloc (.cells #[.int .i64 0, .int .i64 0] 48)).cell? ⟨w.heap.size, o, none⟩ = A[o]?) ∧ (∀ o, ((w.alloc (.cells A 40)).alloc (.cells #[.int .i64 0, .int .i64 0] 48)).cell? ⟨w.heap.size + 1, o, none⟩ = (#[.int .i64 0, .int .i64 0] : Array Value)[o]?) ∧ (∀ o, ((w.alloc (.cells A 40)).alloc (.cells #[.int .i64 0, .int .i64 0] 48)).frozen? ⟨w.heap.size + 1, o, none⟩ = false)) := ⟨((Below.refl _ _).alloc (Nat.le_refl _) _).alloc (by simp) _, by simp, fun o => by simp [go_sem], fun o => by simp [go_sem], fun o => by simp [go_sem]⟩
    go_enter Tryz.func15, Tryz.ntmps15
    go_upto_region 1 with fail
    generalize hWW : ((w.alloc (.cells A 40)).alloc (.cells #[.int .i64 0, .int .i64 0] 48)) = W1 at HWA ⊢
    clear hWW
    obtain ⟨hb, hsz, kA, kR, fR⟩ := HWA.out
    clear HWA
    have HB : Hid (Below w.heap.size w W1) := hb
    have zA : w.heap.size < W1.heap.size := by omega
    have zR : w.heap.size + 1 < W1.heap.size := by omega
    clear hb hsz
    go_wp2_with (first | (refine wpList_load_mid rfl 40 _ rfl _ _ (by rfl) A.toList _ (bx_range kA) Tryz.underlying40 rfl HI.out ?_))
    refine (HWF.out _ HB.out).mono ?_
    rintro e W2 ⟨rfl, hb⟩
    replace kA := bx_below kA zA hb
    replace zA := Nat.lt_of_lt_of_le zA hb.size
    replace kR := bx_below kR zR hb
    replace fR := bxF fR hb zR
    replace zR := Nat.lt_of_lt_of_le zR hb.size
    replace HB : Hid (Below w.heap.size w W2) := HB.out.trans (hb.mono HB.out.size)
    clear hb
    clear HWF
    have kE : ∀ o, ((W2.setCell ⟨w.heap.size + 1, 0, none⟩ (.int .i64 F)).setCell ⟨w.heap.size + 1, 1, none⟩ (.int .i64 0)).cell? ⟨w.heap.size + 1, o, none⟩ = (#[.int .i64 F, .int .i64 0] : Array Value)[o]? := bx_put (bx_put kR (k := 0) (v := .int .i64 F) (by simp)) (k := 1) (v := .int .i64 0) (by simp)
    have HBE : Hid (Below w.heap.size w ((W2.setCell ⟨w.heap.size + 1, 0, none⟩ (.int .i64 F)).setCell ⟨w.heap.size + 1, 1, none⟩ (.int .i64 0))) := Below.setCell (Below.setCell HB.out (by dsimp only; omega) _) (by dsimp only; omega) _
    go_wp2_with fail
    refine bodyPost_ret (results_box Tryz.results15 _ _ _ #[.int .i64 F, .int .i64 0] _ (by rfl) kE Tryz.underlying48 rfl hI2) rfl ⟨rfl, ?_⟩
    exact HBE.out
  have HPN : Hid (pv = min 200 (40 + rfN x.sides)) := by show _ = _; rw [hpv]; unfold rfV; rw [if_pos h0]
  have h0' : (worldF x != 0) = false := by simp [h0]
  rw [h0]
  obtain ⟨sb, so, sc, na, nc, da, dc, gb, go, gc, eb, eo, ec, h⟩ := wo_all hr h0 hT
  have hl2 : x.sides.length = 2 := (worldF_okA h0).1
  have HL2 : Hid (x.sides.length = 2) := hl2
  have a1 : A[1]? = some (.slice (some ⟨sb, so, none⟩) 2 sc) := by rw [h.eA]; rfl
  have HBD : Hid (∀ k (hk : k < x.sides.length), (x.sides[k].wrote.length : Int) ≤ 300 ∧ 0 ≤ x.sides[k].acked ∧ x.sides[k].acked ≤ (x.sides[k].wrote.length : Int)) := fun k hk => by
    obtain ⟨-, q1, q2, -⟩ := conn_ok ((worldF_okA h0).2.2.2 k hk)
    obtain ⟨q3, q4⟩ := inD_yes q2
    exact ⟨by omega, q3, q4⟩
  have HSC : Hid (∀ W, Below w.heap.size w W → ∀ k (hk : k < x.sides.length), ∃ (C : Array Value) (u : Option Addr) (uc : Nat), W.rangeAt sb (so + k * 14) C.toList ∧ C.size = 14 ∧ C.all (·.oneCell') = true ∧ C[5]? = some (.slice u x.sides[k].wrote.length uc) ∧ C[7]? = some (.int .i64 x.sides[k].acked)) := fun W hW k hk => by
    obtain ⟨C, c0, rc⟩ := h.cs k (by omega)
    obtain ⟨a5, q5, a9, q9, a10, q10, a13, q13, hC⟩ := cn_all rc
    have ek : x.cn k = x.sides[k] := by unfold DWorld.cn DWorld.sides; rw [List.getD_eq_getElem?_getD, List.getElem?_eq_getElem (l := x.2.1) (i := k) hk]; rfl
    rw [ek] at hC
    exact ⟨C, a5, q5, range_below c0 hW (Nat.lt_of_lt_of_le h.sl hB), rd_size rc, rd_all rc, by rw [hC.eA]; rfl, by rw [hC.eA]; rfl⟩
  clear hr hB hT h hpv HPV
  have HWA : Hid (Below w.heap.size w ((w.alloc (.cells A 40)).alloc (.cells #[.int .i64 0, .int .i64 0] 48)) ∧ ((w.alloc (.cells A 40)).alloc (.cells #[.int .i64 0, .int .i64 0] 48)).heap.size = w.heap.size + 2 ∧ (∀ o, ((w.alloc (.cells A 40)).alloc (.cells #[.int .i64 0, .int .i64 0] 48)).cell? ⟨w.heap.size, o, none⟩ = A[o]?) ∧ (∀ o, ((w.alloc (.cells A 40)).alloc (.cells #[.int .i64 0, .int .i64 0] 48)).cell? ⟨w.heap.size + 1, o, none⟩ = (#[.int .i64 0, .int .i64 0] : Array Value)[o]?) ∧ (∀ o, ((w.alloc (.cells A 40)).alloc (.cells #[.int .i64 0, .int .i64 0] 48)).frozen? ⟨w.heap.size + 1, o, none⟩ = false)) := ⟨((Below.refl _ _).alloc (Nat.le_refl _) _).alloc (by simp) _, by simp, fun o => by simp [go_sem], fun o => by simp [go_sem], fun o => by simp [go_sem]⟩
  go_enter Tryz.func15, Tryz.ntmps15
  go_upto_region 1 with fail
  generalize hWW : ((w.alloc (.cells A 40)).alloc (.cells #[.int .i64 0, .int .i64 0] 48)) = W1 at HWA ⊢
  clear hWW
  obtain ⟨hb, hsz, kA, kR, fR⟩ := HWA.out
  clear HWA
  have HB : Hid (Below w.heap.size w W1) := hb
  have zA : w.heap.size < W1.heap.size := by omega
  have zR : w.heap.size + 1 < W1.heap.size := by omega
  clear hb hsz
  go_wp2_with (first | (refine wpList_load_mid rfl 40 _ rfl _ _ (by rfl) A.toList _ (bx_range kA) Tryz.underlying40 rfl HI.out ?_))
  refine (HWF.out _ HB.out).mono ?_
  rintro e W2 ⟨rfl, hb⟩
  replace kA := bx_below kA zA hb
  replace zA := Nat.lt_of_lt_of_le zA hb.size
  replace kR := bx_below kR zR hb
  replace fR := bxF fR hb zR
  replace zR := Nat.lt_of_lt_of_le zR hb.size
  replace HB : Hid (Below w.heap.size w W2) := HB.out.trans (hb.mono HB.out.size)
  clear hb
  clear HWF HI
  rw [h0]
  clear h0 h0'
  have HK : Hid ((∀ o, W2.cell? ⟨w.heap.size, o, none⟩ = A[o]?) ∧ w.heap.size + 1 < W2.heap.size ∧ (∀ o, W2.cell? ⟨w.heap.size + 1, o, none⟩ = (#[.int .i64 0, .int .i64 0] : Array Value)[o]?) ∧ (∀ o, W2.frozen? ⟨w.heap.size + 1, o, none⟩ = false)) := ⟨kA, zR, kR, fR⟩
  go_wp2_with fail
  clear kA zA kR fR zR
  have HZ : Hid (40 + rfN x.sides = 40 + rfN (x.sides.drop 0)) := by show _ = _; simp
  go_loopw [16, 4] (fun i a wr => ∃ (k : Nat) (n : Int), k ≤ 2 ∧ i = .int .i64 k ∧ a = .int .i64 n ∧ 40 ≤ n ∧ n ≤ 40 + 1200 * k ∧ Hid (40 + rfN x.sides = n + rfN (x.sides.drop k)) ∧ Hid (Below w.heap.size w wr) ∧ Hid ((∀ o, wr.cell? ⟨w.heap.size, o, none⟩ = A[o]?) ∧ w.heap.size + 1 < wr.heap.size ∧ (∀ o, wr.cell? ⟨w.heap.size + 1, o, none⟩ = (#[.int .i64 0, .int .i64 0] : Array Value)[o]?) ∧ (∀ o, wr.frozen? ⟨w.heap.size + 1, o, none⟩ = false))) (fun i _ _ => 2 - (intOf i).toNat)
  case atStart => exact ⟨0, 40, by omega, rfl, rfl, by omega, by omega, HZ, HB, HK⟩
  case round =>
    clear HB HK HZ
    obtain ⟨k, n, hk, rfl, rfl, hn0, hn1, HN, HB, HK⟩ := hrel
    obtain ⟨kA, zR, kR, fR⟩ := HK.out
    have zA : w.heap.size < wr.heap.size := by omega
    clear HK
    by_cases hlt : k < 2
    · have hk0 : (0 : Int) ≤ (k : Int) := by omega
      have hk1 : (k : Int) < 2 := by omega
      have hkl : k < x.sides.length := by have := HL2.out; omega
      obtain ⟨C, u, uc, hrg, hCz, hCo, c5, c7⟩ := HSC.out wr HB.out k hkl
      obtain ⟨q1, q2, q3⟩ := HBD.out k hkl
      have HST : Hid _ := HN.out.trans (congrArg (fun z : Int => n + z) (rf_drop hkl))
      generalize hwl : x.sides[k].wrote.length = wl at *
      generalize x.sides[k].acked = ac at *
      clear hwl
      have h64a : IntKind.i64.wrap ((wl : Int) - ac) = (wl : Int) - ac := w64 (by omega) (by omega)
      have h64b : IntKind.i64.wrap (4 * ((wl : Int) - ac)) = 4 * ((wl : Int) - ac) := w64 (by omega) (by omega)
      have h64c : IntKind.i64.wrap (n + 4 * ((wl : Int) - ac)) = n + 4 * ((wl : Int) - ac) := w64 (by omega) (by omega)
      have HCZ : Hid (C.size = 14) := hCz
      have HCI : Hid ((Tryz.prog.info? 65).map (·.size) = some C.size) := by show _ = _; rw [hCz]; exact (by kernel_rfl : (Tryz.prog.info? 65).map (·.size) = some 14)
      have HCJ : Hid ((Tryz.prog.info? 65).map (·.size) = some C.toList.length) := by show _ = _; rw [Array.length_toList]; exact HCI.out
      have HCO : Hid (C.all (·.oneCell') = true) := hCo
      have HRG : Hid (wr.rangeAt sb (so + k * 14) C.toList) := hrg
      clear hrg hCz hCo hlt hkl HN
      have HTH : Hid ((wr.alloc (.cells #[.int .i64 0, .int .i64 0, .int .i64 0, .bool false, .bool false, .slice none 0 0, .bool false, .int .i64 0, .bool false, .slice none 0 0, .slice none 0 0, .int .i64 0, .int .i64 0, .slice none 0 0] 65)).there wr.heap.size 0 C.size) := bx_there (bx_al _ _ _) (fx_al _ _ _) (by rw [HCZ.out]; rfl)
      have HWN : Hid (Below wr.heap.size wr ((wr.alloc (.cells #[.int .i64 0, .int .i64 0, .int .i64 0, .bool false, .bool false, .slice none 0 0, .bool false, .int .i64 0, .bool false, .slice none 0 0, .slice none 0 0, .int .i64 0, .int .i64 0, .slice none 0 0] 65)).setCells wr.heap.size 0 C.toList) ∧ wr.heap.size < ((wr.alloc (.cells #[.int .i64 0, .int .i64 0, .int .i64 0, .bool false, .bool false, .slice none 0 0, .bool false, .int .i64 0, .bool false, .slice none 0 0, .slice none 0 0, .int .i64 0, .int .i64 0, .slice none 0 0] 65)).setCells wr.heap.size 0 C.toList).heap.size ∧ (∀ o, ((wr.alloc (.cells #[.int .i64 0, .int .i64 0, .int .i64 0, .bool false, .bool false, .slice none 0 0, .bool false, .int .i64 0, .bool false, .slice none 0 0, .slice none 0 0, .int .i64 0, .int .i64 0, .slice none 0 0] 65)).setCells wr.heap.size 0 C.toList).cell? ⟨wr.heap.size, o, none⟩ = C[o]?) ∧ (∀ o, ((wr.alloc (.cells #[.int .i64 0, .int .i64 0, .int .i64 0, .bool false, .bool false, .slice none 0 0, .bool false, .int .i64 0, .bool false, .slice none 0 0, .slice none 0 0, .int .i64 0, .int .i64 0, .slice none 0 0] 65)).setCells wr.heap.size 0 C.toList).frozen? ⟨wr.heap.size, o, none⟩ = false)) := ⟨setCells_below (Nat.le_refl _) _ _ _ _ ((Below.refl _ _).alloc (Nat.le_refl _) _), by rw [setCells_size]; simp, bx_setCells (bx_al wr _ _) (by rw [HCZ.out]; rfl), fx_sets (fx_al _ _ _)⟩
      go_upto_region 8 with (first | (refine wpList_load_mid rfl 65 _ rfl _ _ (by rfl) C.toList _ HRG.out Tryz.underlying65 rfl HCJ.out ?_) | (refine wpList_store_mid rfl 65 _ _ rfl _ _ C (by rfl) (by rfl) HTH.out HCI.out HCO.out ?_))
      generalize hWW : ((wr.alloc (.cells #[.int .i64 0, .int .i64 0, .int .i64 0, .bool false, .bool false, .slice none 0 0, .bool false, .int .i64 0, .bool false, .slice none 0 0, .slice none 0 0, .int .i64 0, .int .i64 0, .slice none 0 0] 65)).setCells wr.heap.size 0 C.toList) = W3 at HWN ⊢
      clear hWW HTH
      obtain ⟨hb, zC, kC, fC⟩ := HWN.out
      clear HWN
      obtain ⟨bC, hq⟩ : ∃ q, q = wr.heap.size := ⟨_, rfl⟩
      rw [← hq] at zC kC fC ⊢
      have lAC : w.heap.size < bC := by rw [hq]; exact zA
      have lRC : w.heap.size + 1 < bC := by rw [hq]; exact zR
      have lwC : w.heap.size ≤ bC := by rw [hq]; exact HB.out.size
      clear hq
      replace kA := bx_below kA zA hb
      replace zA := Nat.lt_of_lt_of_le zA hb.size
      replace kR := bx_below kR zR hb
      replace fR := bxF fR hb zR
      replace zR := Nat.lt_of_lt_of_le zR hb.size
      replace HB : Hid (Below w.heap.size w W3) := HB.out.trans (hb.mono HB.out.size)
      clear hb
      clear fC HCZ HCI HCJ HCO HRG lwC lAC lRC
      have HK : Hid ((∀ o, W3.cell? ⟨w.heap.size, o, none⟩ = A[o]?) ∧ w.heap.size + 1 < W3.heap.size ∧ (∀ o, W3.cell? ⟨w.heap.size + 1, o, none⟩ = (#[.int .i64 0, .int .i64 0] : Array Value)[o]?) ∧ (∀ o, W3.frozen? ⟨w.heap.size + 1, o, none⟩ = false)) := ⟨kA, zR, kR, fR⟩
      have HN2 : Hid (40 + rfN x.sides = (n + 4 * ((wl : Int) - ac)) + rfN (x.sides.drop (k + 1))) := by show _ = _; rw [HST.out]; omega
      clear HST
      go_wp2_with fail
      go_roundw
      case rel => exact ⟨k + 1, n + 4 * ((wl : Int) - ac), by omega, by go_num, by go_num, by omega, by omega, HN2, HB, HK⟩
      case measure => simp [intOf]; omega
    · obtain rfl : k = 2 := by omega
      have hpn : pv = min 200 n := by rw [HPN.out, HN.out, rf_end (by have := HL2.out; omega)]; simp
      by_cases hm : n ≤ 200
      · have hpm : pv = n := by rw [hpn]; omega
        clear hpn HPN
        subst pv
        have hmi : min n 200 = n := by omega
        have hmj : min 200 n = n := by omega
        clear HN HSC HL2 HBD
        have kE : ∀ o, ((wr.setCell ⟨w.heap.size + 1, 0, none⟩ (.int .i64 0)).setCell ⟨w.heap.size + 1, 1, none⟩ (.int .i64 n)).cell? ⟨w.heap.size + 1, o, none⟩ = (#[.int .i64 0, .int .i64 n] : Array Value)[o]? := bx_put (bx_put kR (k := 0) (v := .int .i64 0) (by simp)) (k := 1) (v := .int .i64 n) (by simp)
        have HBE : Hid (Below w.heap.size w ((wr.setCell ⟨w.heap.size + 1, 0, none⟩ (.int .i64 0)).setCell ⟨w.heap.size + 1, 1, none⟩ (.int .i64 n))) := Below.setCell (Below.setCell HB.out (by dsimp only; omega) _) (by dsimp only; omega) _
        go_wp2_with fail
        refine bodyPost_ret (results_box Tryz.results15 _ _ _ #[.int .i64 0, .int .i64 n] _ (by rfl) kE Tryz.underlying48 rfl hI2) rfl ⟨rfl, ?_⟩
        exact HBE.out
      · have hpm : pv = 200 := by rw [hpn]; omega
        clear hpn HPN
        subst pv
        have hmi : min n 200 = 200 := by omega
        have hmj : min 200 n = 200 := by omega
        clear HN HSC HL2 HBD
        have kE : ∀ o, ((wr.setCell ⟨w.heap.size + 1, 0, none⟩ (.int .i64 0)).setCell ⟨w.heap.size + 1, 1, none⟩ (.int .i64 200)).cell? ⟨w.heap.size + 1, o, none⟩ = (#[.int .i64 0, .int .i64 200] : Array Value)[o]? := bx_put (bx_put kR (k := 0) (v := .int .i64 0) (by simp)) (k := 1) (v := .int .i64 200) (by simp)
        have HBE : Hid (Below w.heap.size w ((wr.setCell ⟨w.heap.size + 1, 0, none⟩ (.int .i64 0)).setCell ⟨w.heap.size + 1, 1, none⟩ (.int .i64 200))) := Below.setCell (Below.setCell HB.out (by dsimp only; omega) _) (by dsimp only; omega) _
        go_wp2_with fail
        refine bodyPost_ret (results_box Tryz.results15 _ _ _ #[.int .i64 0, .int .i64 200] _ (by rfl) kE Tryz.underlying48 rfl hI2) rfl ⟨rfl, ?_⟩
        exact HBE.out
set_option maxHeartbeats 4000000 in
theorem sRoundsFor (x : DWorld) (A : Array Value) (w : World) (B : Nat) (hr : shWorld.Rd w B x A.toList) (hB : B ≤ w.heap.size) (hT : totWorld x ≤ 1048576) :
    Calls Tryz.prog 14 #[.agg A] w fun e w' => e = .returned (.agg #[.int .i64 (worldF x), .int .i64 (rfV x)]) ∧ Below w.heap.size w w' := by
  obtain ⟨pv, hpv⟩ : ∃ p, p = rfV x := ⟨_, rfl⟩
  rw [← hpv]
  have HPV : Hid _ := hpv
  have hI2 : (Tryz.prog.info? 48).map (·.size) = some 2 := by kernel_rfl
  have HWF : Hid (∀ W, Below w.heap.size w W → (∀ o, W.cell? ⟨w.heap.size, o, none⟩ = A[o]?) → w.heap.size < W.heap.size → Calls Tryz.prog 21 #[.pointer (some ⟨w.heap.size, 0, none⟩)] W fun e w' => e = .returned (.int .i64 (worldF x)) ∧ Below W.heap.size W w') := fun W hW hk hl => sL13Fault x A w.heap.size W B (Sh.Rd.below hr hB hW) hk hl (Nat.le_trans hB hW.size) hT
  by_cases h0 : worldF x = 0
  case neg =>
    have hp0 : pv = 0 := by rw [hpv]; unfold rfV; rw [if_neg h0]
    subst hp0
    have h0' : (worldF x != 0) = true := by simp [h0]
    clear hr hB hT h0 hpv HPV
    generalize worldF x = F at *
    have HWA : Hid (Below w.heap.size w ((w.alloc (.cells A 40)).alloc (.cells #[.int .i64 0, .int .i64 0] 48)) ∧ ((w.alloc (.cells A 40)).alloc (.cells #[.int .i64 0, .int .i64 0] 48)).heap.size = w.heap.size + 2 ∧ (∀ o, ((w.alloc (.cells A 40)).alloc (.cells #[.int .i64 0, .int .i64 0] 48)).cell? ⟨w.heap.size, o, none⟩ = A[o]?) ∧ (∀ o, ((w.alloc (.cells A 40)).alloc (.cells #[.int .i64 0, .int .i64 0] 48)).cell? ⟨w.heap.size + 1, o, none⟩ = (#[.int .i64 0, .int .i64 0] : Array Value)[o]?) ∧ (∀ o, ((w.alloc (.cells A 40)).alloc (.cells #[.int .i64 0, .int .i64 0] 48)).frozen? ⟨w.heap.size + 1, o, none⟩ = false)) := ⟨((Below.refl _ _).alloc (Nat.le_refl _) _).alloc (by simp) _, by simp, fun o => by simp [go_sem], fun o => by simp [go_sem], fun o => by simp [go_sem]⟩
    go_enter Tryz.func14, Tryz.ntmps14
    go_upto_region 1 with fail
    generalize hWW : ((w.alloc (.cells A 40)).alloc (.cells #[.int .i64 0, .int .i64 0] 48)) = W1 at HWA ⊢
    clear hWW
    obtain ⟨hb, hsz, kA, kR, fR⟩ := HWA.out
    clear HWA
    have HB : Hid (Below w.heap.size w W1) := hb
    have zA : w.heap.size < W1.heap.size := by omega
    have zR : w.heap.size + 1 < W1.heap.size := by omega
    clear hb hsz
    go_wp2_with fail
    refine (HWF.out _ HB.out kA zA).mono ?_
    rintro e W2 ⟨rfl, hb⟩
    replace kA := bx_below kA zA hb
    replace zA := Nat.lt_of_lt_of_le zA hb.size
    replace kR := bx_below kR zR hb
    replace fR := bxF fR hb zR
    replace zR := Nat.lt_of_lt_of_le zR hb.size
    replace HB : Hid (Below w.heap.size w W2) := HB.out.trans (hb.mono HB.out.size)
    clear hb
    clear HWF
    have kE : ∀ o, ((W2.setCell ⟨w.heap.size + 1, 0, none⟩ (.int .i64 F)).setCell ⟨w.heap.size + 1, 1, none⟩ (.int .i64 0)).cell? ⟨w.heap.size + 1, o, none⟩ = (#[.int .i64 F, .int .i64 0] : Array Value)[o]? := bx_put (bx_put kR (k := 0) (v := .int .i64 F) (by simp)) (k := 1) (v := .int .i64 0) (by simp)
    have HBE : Hid (Below w.heap.size w ((W2.setCell ⟨w.heap.size + 1, 0, none⟩ (.int .i64 F)).setCell ⟨w.heap.size + 1, 1, none⟩ (.int .i64 0))) := Below.setCell (Below.setCell HB.out (by dsimp only; omega) _) (by dsimp only; omega) _
    go_wp2_with fail
    refine bodyPost_ret (results_box Tryz.results14 _ _ _ #[.int .i64 F, .int .i64 0] _ (by rfl) kE Tryz.underlying48 rfl hI2) rfl ⟨rfl, ?_⟩
    exact HBE.out
  have HPN : Hid (pv = min 200 (40 + rfN x.sides)) := by show _ = _; rw [hpv]; unfold rfV; rw [if_pos h0]
  have h0' : (worldF x != 0) = false := by simp [h0]
  rw [h0]
  obtain ⟨sb, so, sc, na, nc, da, dc, gb, go, gc, eb, eo, ec, h⟩ := wo_all hr h0 hT
  have hl2 : x.sides.length = 2 := (worldF_okA h0).1
  have HL2 : Hid (x.sides.length = 2) := hl2
  have a1 : A[1]? = some (.slice (some ⟨sb, so, none⟩) 2 sc) := by rw [h.eA]; rfl
  have HBD : Hid (∀ k (hk : k < x.sides.length), (x.sides[k].wrote.length : Int) ≤ 300 ∧ 0 ≤ x.sides[k].acked ∧ x.sides[k].acked ≤ (x.sides[k].wrote.length : Int)) := fun k hk => by
    obtain ⟨-, q1, q2, -⟩ := conn_ok ((worldF_okA h0).2.2.2 k hk)
    obtain ⟨q3, q4⟩ := inD_yes q2
    exact ⟨by omega, q3, q4⟩
  have HSC : Hid (∀ W, Below w.heap.size w W → ∀ k (hk : k < x.sides.length), ∃ (C : Array Value) (u : Option Addr) (uc : Nat), W.rangeAt sb (so + k * 14) C.toList ∧ C.size = 14 ∧ C.all (·.oneCell') = true ∧ C[5]? = some (.slice u x.sides[k].wrote.length uc) ∧ C[7]? = some (.int .i64 x.sides[k].acked)) := fun W hW k hk => by
    obtain ⟨C, c0, rc⟩ := h.cs k (by omega)
    obtain ⟨a5, q5, a9, q9, a10, q10, a13, q13, hC⟩ := cn_all rc
    have ek : x.cn k = x.sides[k] := by unfold DWorld.cn DWorld.sides; rw [List.getD_eq_getElem?_getD, List.getElem?_eq_getElem (l := x.2.1) (i := k) hk]; rfl
    rw [ek] at hC
    exact ⟨C, a5, q5, range_below c0 hW (Nat.lt_of_lt_of_le h.sl hB), rd_size rc, rd_all rc, by rw [hC.eA]; rfl, by rw [hC.eA]; rfl⟩
  clear hr hB hT h hpv HPV
  have HWA : Hid (Below w.heap.size w ((w.alloc (.cells A 40)).alloc (.cells #[.int .i64 0, .int .i64 0] 48)) ∧ ((w.alloc (.cells A 40)).alloc (.cells #[.int .i64 0, .int .i64 0] 48)).heap.size = w.heap.size + 2 ∧ (∀ o, ((w.alloc (.cells A 40)).alloc (.cells #[.int .i64 0, .int .i64 0] 48)).cell? ⟨w.heap.size, o, none⟩ = A[o]?) ∧ (∀ o, ((w.alloc (.cells A 40)).alloc (.cells #[.int .i64 0, .int .i64 0] 48)).cell? ⟨w.heap.size + 1, o, none⟩ = (#[.int .i64 0, .int .i64 0] : Array Value)[o]?) ∧ (∀ o, ((w.alloc (.cells A 40)).alloc (.cells #[.int .i64 0, .int .i64 0] 48)).frozen? ⟨w.heap.size + 1, o, none⟩ = false)) := ⟨((Below.refl _ _).alloc (Nat.le_refl _) _).alloc (by simp) _, by simp, fun o => by simp [go_sem], fun o => by simp [go_sem], fun o => by simp [go_sem]⟩
  go_enter Tryz.func14, Tryz.ntmps14
  go_upto_region 1 with fail
  generalize hWW : ((w.alloc (.cells A 40)).alloc (.cells #[.int .i64 0, .int .i64 0] 48)) = W1 at HWA ⊢
  clear hWW
  obtain ⟨hb, hsz, kA, kR, fR⟩ := HWA.out
  clear HWA
  have HB : Hid (Below w.heap.size w W1) := hb
  have zA : w.heap.size < W1.heap.size := by omega
  have zR : w.heap.size + 1 < W1.heap.size := by omega
  clear hb hsz
  go_wp2_with fail
  refine (HWF.out _ HB.out kA zA).mono ?_
  rintro e W2 ⟨rfl, hb⟩
  replace kA := bx_below kA zA hb
  replace zA := Nat.lt_of_lt_of_le zA hb.size
  replace kR := bx_below kR zR hb
  replace fR := bxF fR hb zR
  replace zR := Nat.lt_of_lt_of_le zR hb.size
  replace HB : Hid (Below w.heap.size w W2) := HB.out.trans (hb.mono HB.out.size)
  clear hb
  clear HWF
  rw [h0]
  clear h0 h0'
  have HK : Hid ((∀ o, W2.cell? ⟨w.heap.size, o, none⟩ = A[o]?) ∧ w.heap.size + 1 < W2.heap.size ∧ (∀ o, W2.cell? ⟨w.heap.size + 1, o, none⟩ = (#[.int .i64 0, .int .i64 0] : Array Value)[o]?) ∧ (∀ o, W2.frozen? ⟨w.heap.size + 1, o, none⟩ = false)) := ⟨kA, zR, kR, fR⟩
  go_wp2_with fail
  clear kA zA kR fR zR
  have HZ : Hid (40 + rfN x.sides = 40 + rfN (x.sides.drop 0)) := by show _ = _; simp
  go_loopw [5, 4] (fun i a wr => ∃ (k : Nat) (n : Int), k ≤ 2 ∧ i = .int .i64 k ∧ a = .int .i64 n ∧ 40 ≤ n ∧ n ≤ 40 + 1200 * k ∧ Hid (40 + rfN x.sides = n + rfN (x.sides.drop k)) ∧ Hid (Below w.heap.size w wr) ∧ Hid ((∀ o, wr.cell? ⟨w.heap.size, o, none⟩ = A[o]?) ∧ w.heap.size + 1 < wr.heap.size ∧ (∀ o, wr.cell? ⟨w.heap.size + 1, o, none⟩ = (#[.int .i64 0, .int .i64 0] : Array Value)[o]?) ∧ (∀ o, wr.frozen? ⟨w.heap.size + 1, o, none⟩ = false))) (fun i _ _ => 2 - (intOf i).toNat)
  case atStart => exact ⟨0, 40, by omega, rfl, rfl, by omega, by omega, HZ, HB, HK⟩
  case round =>
    clear HB HK HZ
    obtain ⟨k, n, hk, rfl, rfl, hn0, hn1, HN, HB, HK⟩ := hrel
    obtain ⟨kA, zR, kR, fR⟩ := HK.out
    have zA : w.heap.size < wr.heap.size := by omega
    clear HK
    by_cases hlt : k < 2
    · have hk0 : (0 : Int) ≤ (k : Int) := by omega
      have hk1 : (k : Int) < 2 := by omega
      have hkl : k < x.sides.length := by have := HL2.out; omega
      obtain ⟨C, u, uc, hrg, hCz, hCo, c5, c7⟩ := HSC.out wr HB.out k hkl
      obtain ⟨q1, q2, q3⟩ := HBD.out k hkl
      have HST : Hid _ := HN.out.trans (congrArg (fun z : Int => n + z) (rf_drop hkl))
      generalize hwl : x.sides[k].wrote.length = wl at *
      generalize x.sides[k].acked = ac at *
      clear hwl
      have h64a : IntKind.i64.wrap ((wl : Int) - ac) = (wl : Int) - ac := w64 (by omega) (by omega)
      have h64b : IntKind.i64.wrap (4 * ((wl : Int) - ac)) = 4 * ((wl : Int) - ac) := w64 (by omega) (by omega)
      have h64c : IntKind.i64.wrap (n + 4 * ((wl : Int) - ac)) = n + 4 * ((wl : Int) - ac) := w64 (by omega) (by omega)
      have q5 : wr.cell? ⟨sb, so + k * 14 + 5, none⟩ = some (.slice u wl uc) := hrg 5 _ (by rw [Array.getElem?_toList]; exact c5)
      have q7 : wr.cell? ⟨sb, so + k * 14 + 7, none⟩ = some (.int .i64 ac) := hrg 7 _ (by rw [Array.getElem?_toList]; exact c7)
      clear hrg hCz hCo c5 c7 hlt hkl HN
      have HN2 : Hid (40 + rfN x.sides = (n + 4 * ((wl : Int) - ac)) + rfN (x.sides.drop (k + 1))) := by show _ = _; rw [HST.out]; omega
      clear HST
      go_upto_region 8 with fail
      go_quiet (fail)
      go_wp2_with fail
      go_roundw
      case rel => exact ⟨k + 1, n + 4 * ((wl : Int) - ac), by omega, by go_num, by go_num, by omega, by omega, HN2, below_drewN HB.out _, ⟨kA, zR, kR, fR⟩⟩
      case measure => simp [intOf]; omega
    · obtain rfl : k = 2 := by omega
      have hpn : pv = min 200 n := by rw [HPN.out, HN.out, rf_end (by have := HL2.out; omega)]; simp
      subst hpn
      clear HN HSC HL2 HBD
      have kE : ∀ o, ((wr.setCell ⟨w.heap.size + 1, 0, none⟩ (.int .i64 0)).setCell ⟨w.heap.size + 1, 1, none⟩ (.int .i64 (min 200 n))).cell? ⟨w.heap.size + 1, o, none⟩ = (#[.int .i64 0, .int .i64 (min 200 n)] : Array Value)[o]? := bx_put (bx_put kR (k := 0) (v := .int .i64 0) (by simp)) (k := 1) (v := .int .i64 (min 200 n)) (by simp)
      have HBE : Hid (Below w.heap.size w ((wr.setCell ⟨w.heap.size + 1, 0, none⟩ (.int .i64 0)).setCell ⟨w.heap.size + 1, 1, none⟩ (.int .i64 (min 200 n)))) := Below.setCell (Below.setCell HB.out (by dsimp only; omega) _) (by dsimp only; omega) _
      go_wp2_with (go_at_call 40; refine (sMinR _ _ _).mono ?_; rintro e w' ⟨rfl, hw⟩; subst w')
      refine bodyPost_ret (results_box Tryz.results14 _ _ _ #[.int .i64 0, .int .i64 (min 200 n)] _ (by rfl) kE Tryz.underlying48 rfl hI2) rfl ⟨rfl, ?_⟩
      exact HBE.out
end Go.Proofs.YteaddhldleeaiaaGreat
