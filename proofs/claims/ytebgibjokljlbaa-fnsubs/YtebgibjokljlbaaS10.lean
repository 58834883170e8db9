/- What the draw of a sender gives: some sender that owns its memory; nothing that was in memory turns but the source; no condition. Written by mkdraws.py. -/
import Derived.Test.YtebgibjokljlbaaRows
import Derived.Deep.RegionHeld3
import Derived.Deep.CutRange
import Derived.Deep.RegionLaw
import Derived.Deep.DeepCutAuto
import Derived.Deep.DeepMust
import Derived.Test.YtebgibjokljlbaaS01
import Derived.Test.YtebgibjokljlbaaS02
import Derived.Test.YtebgibjokljlbaaS03
import Derived.Test.YtebgibjokljlbaaS04
import Derived.Test.YtebgibjokljlbaaS05
import Derived.Test.YtebgibjokljlbaaS06
import Derived.Test.YtebgibjokljlbaaS07
import Derived.Test.YtebgibjokljlbaaS08
import Derived.Test.YtebgibjokljlbaaS09
namespace Go.Proofs.Ytebgibjokljlbaa
open Go.RowKit
set_option linter.unusedVariables false
set_option linter.unusedSimpArgs false
set_option maxRecDepth 4000 in
set_option maxHeartbeats 100000000 in
theorem sSender5 (sb : Nat) (a : Option Addr) (len cap : Nat) (zs : List Int) (K : Int) (w : World)
    (hs : Src w sb (.slice a len cap) K) (hr : BRow .u8 w a len cap zs) (hl : RowLt sb a zs) (hK0' : 0 ≤ K) (hK : K ≤ 100000) :
    Calls Try.prog 110 #[.pointer (some ⟨sb, 0, none⟩)] w fun e w' => ∃ (x : DSender) (u : Value), e = .returned (.agg #[.int .i64 x.1, .int .i64 x.2.1, .int .i64 x.2.2.1, u]) ∧ Own w' w.heap.size w'.heap.size shSender x [.int .i64 x.1, .int .i64 x.2.1, .int .i64 x.2.2.1, u] ∧ totSender x ≤ 1000000 ∧ Dr sb w w' ∧ Src w' sb (.slice a len cap) (K + 1000) := by
  have hlt := hs.lt
  have HR : Hid (∀ W, Dr sb w W → BRow .u8 W a len cap zs) := fun W h => hr.below hl (h.below (Nat.le_of_lt hlt))
  have HS : Hid _ := hs
  clear hr hs
  go_enter Try.func110, Try.ntmps110
  go_wp2_with fail
  have d0 : Hid (Dr sb w (w.alloc (.cells #[.int .i64 0, .int .i64 0, .int .i64 0, .slice none 0 0] 57))) := (Dr.refl _ _).then ((Below.refl _ _).alloc (Nat.le_refl _) _) (Nat.le_refl _)
  refine (sNext sb a len cap zs K 90 _ (HS.out.alloc _) (HR.out _ d0.out) hl (by omega) (by omega)).mono ?_
  rintro e w1 ⟨r1, rfl, p1, q1, st1, s1⟩
  have k0 : ∀ o, w1.cell? ⟨w.heap.size, o, none⟩ = (#[.int .i64 0, .int .i64 0, .int .i64 0, .slice none 0 0] : Array Value)[o]? := fun o => (st1.cell (p := ⟨w.heap.size, o, none⟩) (by dsimp only; omega)).trans (by simp [go_sem])
  have f0 : ∀ o, w1.frozen? ⟨w.heap.size, o, none⟩ = false := fun o => (st1.frozen (p := ⟨w.heap.size, o, none⟩) (by dsimp only; omega)).trans (by simp [go_sem])
  have d1 : Hid _ := d0.out.trans st1.dr
  have s1 : Hid _ := s1
  have z1 : w.heap.size < w1.heap.size := by rw [st1.size]; simp
  clear st1 d0 HS
  go_wp2_with fail
  have hp := sPickD sb a len cap zs _ [r1, 65530, 40000] 2 w1 s1.out (HR.out _ d1.out) hl (by omega) (by simp) (by simp)
  simp only [List.length_cons, List.length_nil, List.map_cons, List.map_nil, Nat.zero_add, Nat.reduceAdd] at hp
  refine hp.mono ?_
  clear hp
  rintro e w2 ⟨r2, rfl, hm, d2', s2⟩
  simp only [List.mem_cons, List.not_mem_nil, or_false] at hm
  have m0 : 0 ≤ r2 := by omega
  have m1 : r2 ≤ 65535 := by omega
  replace k0 := bx_dr k0 d2' (by omega) (by omega)
  replace f0 := fx_dr f0 d2' (by omega) (by omega)
  have z2 : w.heap.size < w2.heap.size := by have := d2'.size; omega
  have d2 : Hid _ := d1.out.trans d2'
  have s2 : Hid _ := s2
  clear hm d2' d1 s1 z1
  go_wp2_with fail
  have hst := sStartSender r2 w2
  rw [if_pos (inD_mk m0 m1), if_pos (inD_mk m0 m1)] at hst
  refine hst.mono ?_
  clear hst
  rintro e w3 ⟨rfl, hb3⟩
  replace k0 := boxB k0 hb3 z2
  replace f0 := boxF f0 hb3 z2
  have d3 : Hid (Dr sb w w3) := d2.out.then hb3 d2.out.size
  have s3 : Hid (Src w3 sb (.slice a len cap) (K + 1 + 1)) := s2.out.below hb3 s2.out.lt
  have z3 : w.heap.size < w3.heap.size := Nat.lt_of_lt_of_le z2 hb3.size
  clear hb3 d2 s2 z2
  have hfl := fldS
  go_wp2_with fail
  clear hfl
  obtain ⟨W4, hW4⟩ : ∃ W4, W4 = w3.alloc (.cells #[.int .i64 r2, .int .i64 0, .int .i64 0, .slice none 0 0] 57) := ⟨_, rfl⟩
  rw [← hW4]
  have hb4 : Below w3.heap.size w3 W4 := by rw [hW4]; exact (Below.refl _ _).alloc (Nat.le_refl _) _
  have kX : ∀ o, W4.cell? ⟨w3.heap.size, o, none⟩ = (#[.int .i64 r2, .int .i64 0, .int .i64 0, .slice none 0 0] : Array Value)[o]? := fun o => by rw [hW4]; simp [go_sem]
  have fX : ∀ o, W4.frozen? ⟨w3.heap.size, o, none⟩ = false := fun o => by rw [hW4]; simp [go_sem]
  have hX4 : w3.heap.size < W4.heap.size := by rw [hW4]; simp
  replace k0 := boxB k0 hb4 z3
  replace f0 := boxF f0 hb4 z3
  have d4 : Hid (Dr sb w W4) := d3.out.then hb4 d3.out.size
  have s4 : Hid (Src W4 sb (.slice a len cap) (K + 1 + 1)) := s3.out.below hb4 s3.out.lt
  have hsX : sb < w3.heap.size := s3.out.lt
  clear hb4 hW4 d3 s3
  generalize w3.heap.size = XB at *
  refine (sNext sb a len cap zs _ 30 W4 s4.out (HR.out _ d4.out) hl (by omega) (by omega)).mono ?_
  rintro e w5 ⟨dt0, rfl, p5, q5, st5, s5⟩
  replace k0 := bx_dr k0 st5.dr (by omega) (by omega)
  replace f0 := fx_dr f0 st5.dr (by omega) (by omega)
  replace kX := bx_dr kX st5.dr hX4 (by omega)
  replace fX := fx_dr fX st5.dr hX4 (by omega)
  have hX5 : XB < w5.heap.size := by rw [st5.size]; exact hX4
  have d5 : Hid _ := d4.out.trans st5.dr
  have s5 : Hid _ := s5
  clear st5 d4 s4 hX4
  go_wp2_with fail
  refine (sNext sb a len cap zs _ 9 w5 s5.out (HR.out _ d5.out) hl (by omega) (by omega)).mono ?_
  rintro e w6 ⟨kq, rfl, p6, q6, st6, s6⟩
  replace k0 := bx_dr k0 st6.dr (by omega) (by omega)
  replace f0 := fx_dr f0 st6.dr (by omega) (by omega)
  replace kX := bx_dr kX st6.dr hX5 (by omega)
  replace fX := fx_dr fX st6.dr hX5 (by omega)
  have hX6 : XB < w6.heap.size := by rw [st6.size]; exact hX5
  have d6 : Hid _ := d5.out.trans st6.dr
  have s6 : Hid _ := s6
  clear st6 d5 s5 hX5
  obtain ⟨kn, rfl⟩ : ∃ kn : Nat, kq = (kn : Int) := ⟨kq.toNat, by omega⟩
  have hkn : kn ≤ 8 := by omega
  have HD0 : Hid (DSnd w6 XB (XB + 1) (r2, 0, 0, [], ()) none 0 0 ∧ sndFault (r2, 0, 0, [], ()) = 0) := ⟨⟨own_fls0 _ _ _, by omega, by omega, WalkArith.wf_i64 (by omega), (by show (Lit.int .i64 (0 : Int)).wf = true; decide), (by show (Lit.int .i64 (0 : Int)).wf = true; decide)⟩, (snd_iff _).2 ⟨inD_mk m0 m1, by show inD 0 0 1000000 = true; decide, by show inD 0 0 0 = true; decide, by simp, trivial, rfl⟩⟩
  go_wp2_with fail
  rename_i Q0 K0 hK0 s6x
  have HT : Hid (∀ (wr : World) (lo : Nat) (X : DSender) (va : Option Addr) (vn vc : Nat), SndAt sb a len cap K w wr XB lo X va vn vc → ∀ (u1 u4 u5 u6 u7 u8 u9 u10 u11 u12 u13 u14 u15 u16 u17 u18 u19 u20 u21 u22 u23 u24 u25 u26 u27 u28 u29 u30 u31 u32 u33 u34 u35 u36 u37 u38 u39 u40 u41 u42 u43 u44 u45 u46 u47 u48 u49 u50 u51 u52 u53 u54 u55 u56 u57 u58 u59 u60 u61 u62 u63 u64 u65 u66 : Value), K0 ⟨#[.pointer (some ⟨sb, 0, none⟩), u1, .pointer (some ⟨w.heap.size, 0, none⟩), .pointer (some ⟨XB, 0, none⟩), u4, u5, u6, u7, u8, u9, u10, u11, u12, u13, u14, u15, u16, u17, u18, u19, u20, u21, u22, u23, u24, u25, u26, u27, u28, u29, u30, u31, u32, u33, u34, u35, u36, u37, u38, u39, u40, u41, u42, u43, u44, u45, u46, u47, u48, u49, u50, u51, u52, u53, u54, u55, u56, u57, u58, u59, u60, u61, u62, u63, u64, u65, u66, undef, undef, undef, undef, undef, undef, undef, undef, undef, undef, undef, undef, undef, undef, undef, undef, undef, undef, undef, undef, undef, undef, undef, undef, undef, undef, undef, undef, undef, undef, undef, undef, undef, undef, undef, undef, undef, undef, undef, undef, undef, undef, undef, undef, undef], []⟩ wr) := fun wr lo X va vn vc hA u1 u4 u5 u6 u7 u8 u9 u10 u11 u12 u13 u14 u15 u16 u17 u18 u19 u20 u21 u22 u23 u24 u25 u26 u27 u28 u29 u30 u31 u32 u33 u34 u35 u36 u37 u38 u39 u40 u41 u42 u43 u44 u45 u46 u47 u48 u49 u50 u51 u52 u53 u54 u55 u56 u57 u58 u59 u60 u61 u62 u63 u64 u65 u66 => hK0 _ _ (sSndTail sb a len cap zs K w hl hK0' hK hlt HR XB z3 hsX wr lo X va vn vc hA u1 u4 u5 u6 u7 u8 u9 u10 u11 u12 u13 u14 u15 u16 u17 u18 u19 u20 u21 u22 u23 u24 u25 u26 u27 u28 u29 u30 u31 u32 u33 u34 u35 u36 u37 u38 u39 u40 u41 u42 u43 u44 u45 u46 u47 u48 u49 u50 u51 u52 u53 u54 u55 u56 u57 u58 u59 u60 u61 u62 u63 u64 u65 u66)
  clear hK0
  go_loopw [4, 5] (fun t i wr => ∃ (kk : Nat) (dt : Int) (X : DSender) (va : Option Addr) (vn vc lo : Nat), kk ≤ 8 ∧ i = .int .i64 kk ∧ t = .int .i64 dt ∧ 0 ≤ dt ∧ dt ≤ 30 + 9 * (8 - (kk : Int)) ∧ (∀ o, wr.cell? ⟨XB, o, none⟩ = (#[.int .i64 X.1, .int .i64 X.2.1, .int .i64 X.2.2.1, .slice va vn vc] : Array Value)[o]?) ∧ (∀ o, wr.frozen? ⟨XB, o, none⟩ = false) ∧ (∀ o, wr.cell? ⟨w.heap.size, o, none⟩ = (#[.int .i64 0, .int .i64 0, .int .i64 0, .slice none 0 0] : Array Value)[o]?) ∧ (∀ o, wr.frozen? ⟨w.heap.size, o, none⟩ = false) ∧ XB < wr.heap.size ∧ Hid (DSnd wr XB lo X va vn vc) ∧ Hid (sndFault X = 0) ∧ Hid (Dr sb w wr) ∧ Hid (Src wr sb (.slice a len cap) (K + 4 + 40 * (8 - (kk : Int))))) (fun _ i _ => (intOf i).toNat)
  case atStart => exact ⟨kn, dt0, (r2, 0, 0, [], ()), none, 0, 0, XB + 1, hkn, rfl, rfl, p5, by omega, kX, fX, k0, f0, hX6, HD0.out.1, HD0.out.2, d6, s6.out.mono (by omega)⟩
  case round =>
    obtain ⟨kk, dt, X, va, vn, vc, lo, hk8, rfl, rfl, hd0, hd1, kX, fX, k0, f0, hXr, HDS, HF, HDr, HSr⟩ := hrel
    by_cases hpos : 0 < kk
    · have hpos' : (0 : Int) < (kk : Int) := by omega
      go_wp2_with fail
      refine (sNext sb a len cap zs _ 8 wr HSr.out (HR.out _ HDr.out) hl (by omega) (by omega)).mono ?_
      rintro e w1 ⟨q1, rfl, g1, g2, st1, s1⟩
      replace kX := bx_dr kX st1.dr hXr (by omega)
      replace fX := fx_dr fX st1.dr hXr (by omega)
      replace k0 := bx_dr k0 st1.dr (by omega) (by omega)
      replace f0 := fx_dr f0 st1.dr (by omega) (by omega)
      have HDS1 : Hid _ := HDS.out.dr st1.dr (by have := HDS.out.xb; omega)
      have hX1 : XB < w1.heap.size := by rw [st1.size]; exact hXr
      have D1 : Hid _ := HDr.out.trans st1.dr
      have S1 : Hid _ := s1
      clear st1 s1 HDS HDr HSr hXr
      go_wp2_with fail
      refine (sSome sb a len cap zs _ (1 + q1) w1 S1.out (HR.out _ D1.out) hl (by omega) (by omega) (by omega)).mono ?_
      rintro e w2 ⟨vl, rfl, ld, ob, hl9, d2', s2⟩
      obtain ⟨la, lc, hvl, -, -⟩ := ob.rbn
      subst hvl
      replace kX := bx_dr kX d2' hX1 (by omega)
      replace fX := fx_dr fX d2' hX1 (by omega)
      replace k0 := bx_dr k0 d2' (by omega) (by omega)
      replace f0 := fx_dr f0 d2' (by omega) (by omega)
      have HDS2 : Hid (DSnd w2 XB lo X va vn vc) := HDS1.out.dr d2' (by have := HDS1.out.xb; omega)
      have hX2 : XB < w2.heap.size := Nat.lt_of_lt_of_le hX1 d2'.size
      have D2 : Hid (Dr sb w w2) := D1.out.trans d2'
      have S2 : Hid _ := s2
      have HRL : Hid (∀ W, Dr sb w2 W → u8s.Rd W W.heap.size ld [.slice la ld.length lc]) := fun W hW => (Own.mono (Own.keep (own_bytes ob (Nat.le_refl _)) (fun b h1 h2 => hW.block b h2 (by have := D1.out.size; omega))) (Nat.le_refl _) hW.size).rd (Nat.le_refl _)
      have HPF : Hid (∀ W, Dr sb w2 W → ∀ now : Int, 0 ≤ now → now < 20 → Calls Try.prog 133 #[.agg #[.int .i64 X.1, .int .i64 X.2.1, .int .i64 X.2.2.1, .slice va vn vc], .int .i64 dt, .slice la ld.length lc, .int .i64 now] W fun e w' => ∃ u, e = .returned (.agg #[.int .i64 (pshC X dt ld now), .int .i64 (pshV X dt ld now).1, .int .i64 (pshV X dt ld now).2.1, .int .i64 (pshV X dt ld now).2.2.1, u]) ∧ Own w' W.heap.size w'.heap.size shSender (pshV X dt ld now) [.int .i64 (pshV X dt ld now).1, .int .i64 (pshV X dt ld now).2.1, .int .i64 (pshV X dt ld now).2.2.1, u] ∧ Below W.heap.size W w') := fun W hW now n0 n1 => by
        have hds := HDS2.out.dr hW (by have := HDS2.out.xb; omega)
        exact sPushFlight X _ dt ld _ now W W.heap.size (hds.snd.rd (Nat.le_refl _)) (HRL.out W hW) (Nat.le_refl _) (Nat.le_trans (snd_tot HF.out) (by omega)) (by omega) (WalkArith.wf_i64 (by omega)) (WalkArith.wf_i64 (by omega))
      clear d2' s2 ob HDS1 D1 S1 hX1
      generalize hlm : ld.length = lm at *
      have HLM : Hid (ld.length = lm) := hlm
      clear hlm
      have x0 := kX 0
      have x1 := kX 1
      have x2 := kX 2
      have x3 := kX 3
      simp only [List.getElem?_toArray, List.getElem?_cons_succ, List.getElem?_cons_zero] at x0 x1 x2 x3
      have hneX : XB ≠ w2.heap.size := by omega
      have hneX' : w2.heap.size ≠ XB := by omega
      go_upto_region 7 with fail
      go_cut [7] (fun u wx => ∃ (rb : Nat) (now : Int) (ua : Option Addr) (un uc lo2 : Nat), u = .pointer (some ⟨rb, 0, none⟩) ∧ (∀ o, wx.cell? ⟨rb, o, none⟩ = (#[.int .i64 (pshC X dt ld now), .int .i64 (pshV X dt ld now).1, .int .i64 (pshV X dt ld now).2.1, .int .i64 (pshV X dt ld now).2.2.1, .slice ua un uc] : Array Value)[o]?) ∧ w2.heap.size ≤ rb ∧ rb < wx.heap.size ∧ Hid (Dr sb w2 wx) ∧ Hid (Src wx sb (.slice a len cap) (K + 4 + 40 * (8 - (kk : Int)) + 1 + 27 + 1)) ∧ Hid (DSnd wx XB lo2 (pshV X dt ld now) ua un uc))
      case first =>
        go_region_held3 (fun w' => w'.cell? ⟨XB, 0, none⟩ = some (.int .i64 X.1) ∧ w'.cell? ⟨XB, 1, none⟩ = some (.int .i64 X.2.1) ∧ w'.cell? ⟨XB, 2, none⟩ = some (.int .i64 X.2.2.1) ∧ w'.cell? ⟨XB, 3, none⟩ = some (.slice va vn vc)) (first | go_keep) ((first | (go_at_call 133; (first | (refine (HPF.out w3 D3.out now n0 n1).mono ?_; rintro e w4 ⟨u, rfl, ho4, hb4⟩; have D4 : Hid (Dr sb w2 w4) := D3.out.then hb4 D3.out.size; have S4 : Hid _ := S3.out.below hb4 S3.out.lt; have hz4 : w3.heap.size ≤ w4.heap.size := hb4.size; (try (have hk3 : w2.heap.size < w3.heap.size := cell_lt (kr 0); have kr4 := boxB kr hb4 hk3; have fr4 := boxF fr hb4 hk3))) | (refine (HPF.out (w3.alloc _) (D3.out.then ((Below.refl _ _).alloc (Nat.le_refl _) _) D3.out.size) now n0 n1).mono ?_; rintro e w4 ⟨u, rfl, ho4, hb4⟩; have D4 : Hid (Dr sb w2 w4) := (D3.out.then ((Below.refl _ _).alloc (Nat.le_refl _) _) D3.out.size).then hb4 (by have := D3.out.size; simp; omega); have S4 : Hid _ := (S3.out.below ((Below.refl _ _).alloc (Nat.le_refl _) _) S3.out.lt).below hb4 (by have := S3.out.lt; simp; omega); have hz4 : w3.heap.size < w4.heap.size := (by have := hb4.size; simp at this; omega); have krB : ∀ o, w4.cell? ⟨w3.heap.size, o, none⟩ = (#[.int .i64 0, .int .i64 0, .int .i64 0, .int .i64 0, .slice none 0 0] : Array Value)[o]? := (fun o => (hb4.cell (p := ⟨w3.heap.size, o, none⟩) (by simp)).trans (by simp [go_sem])); have frB : ∀ o, w4.frozen? ⟨w3.heap.size, o, none⟩ = false := (fun o => (hb4.frozen (p := ⟨w3.heap.size, o, none⟩) (by simp)).trans (by simp [go_sem])))); obtain ⟨vv, ev, ru, -⟩ := rd_Sender (ho4.rd (Nat.le_refl _)); simp only [List.cons.injEq, and_true, true_and] at ev; subst ev; obtain ⟨ua, uc, eu⟩ := row_form ru; simp only [List.cons.injEq, and_true] at eu; subst eu; have HO4 : Hid _ := ho4; have t0 := (hb4.cell (p := ⟨XB, 0, none⟩) (by first | exact hX3 | (simp; omega))).trans (by first | exact y0 | exact (((Below.refl w3.heap.size w3).alloc (Nat.le_refl _) _).cell (p := ⟨XB, 0, none⟩) hX3).trans y0); have t1 := (hb4.cell (p := ⟨XB, 1, none⟩) (by first | exact hX3 | (simp; omega))).trans (by first | exact y1 | exact (((Below.refl w3.heap.size w3).alloc (Nat.le_refl _) _).cell (p := ⟨XB, 1, none⟩) hX3).trans y1); have t2 := (hb4.cell (p := ⟨XB, 2, none⟩) (by first | exact hX3 | (simp; omega))).trans (by first | exact y2 | exact (((Below.refl w3.heap.size w3).alloc (Nat.le_refl _) _).cell (p := ⟨XB, 2, none⟩) hX3).trans y2); have t3 := (hb4.cell (p := ⟨XB, 3, none⟩) (by first | exact hX3 | (simp; omega))).trans (by first | exact y3 | exact (((Below.refl w3.heap.size w3).alloc (Nat.le_refl _) _).cell (p := ⟨XB, 3, none⟩) hX3).trans y3); clear ho4 hb4 ru) | (go_at_call 39; (first | (refine (sNext sb a len cap zs _ 20 _ (S2.out.below (Below.drew (Below.refl _ _)) S2.out.lt) (HR.out _ (D2.out.then (Below.drew (Below.refl _ _)) D2.out.size)) hl (by omega) (by omega)).mono ?_; rintro e w3 ⟨now, rfl, n0, n1, st3, s3⟩; have D3 : Hid (Dr sb w2 w3) := (((Dr.refl sb w2).then (Below.drew (Below.refl _ _)) (Nat.le_refl _)).trans st3.dr)) | (refine (sNext sb a len cap zs _ 20 _ (S2.out.below (((Below.refl _ _).alloc (Nat.le_refl _) _).drew) S2.out.lt) (HR.out _ (D2.out.then (((Below.refl _ _).alloc (Nat.le_refl _) _).drew) D2.out.size)) hl (by omega) (by omega)).mono ?_; rintro e w3 ⟨now, rfl, n0, n1, st3, s3⟩; have D3 : Hid (Dr sb w2 w3) := (((Dr.refl sb w2).then (((Below.refl _ _).alloc (Nat.le_refl _) _).drew) (Nat.le_refl _)).trans st3.dr); have kr : ∀ o, w3.cell? ⟨w2.heap.size, o, none⟩ = (#[.int .i64 0, .int .i64 0, .int .i64 0, .int .i64 0, .slice none 0 0] : Array Value)[o]? := (fun o => (st3.cell (p := ⟨w2.heap.size, o, none⟩) (by dsimp only; omega)).trans (by simp [go_sem])); have fr : ∀ o, w3.frozen? ⟨w2.heap.size, o, none⟩ = false := (fun o => (st3.frozen (p := ⟨w2.heap.size, o, none⟩) (by dsimp only; omega)).trans (by simp [go_sem])))); have S3 : Hid _ := s3; have y0 := (D3.out.cell (p := ⟨XB, 0, none⟩) hX2 (by dsimp only; omega)).trans x0; have y1 := (D3.out.cell (p := ⟨XB, 1, none⟩) hX2 (by dsimp only; omega)).trans x1; have y2 := (D3.out.cell (p := ⟨XB, 2, none⟩) hX2 (by dsimp only; omega)).trans x2; have y3 := (D3.out.cell (p := ⟨XB, 3, none⟩) hX2 (by dsimp only; omega)).trans x3; have hX3 : XB < w3.heap.size := Nat.lt_of_lt_of_le hX2 D3.out.size; have hneX3 : XB ≠ w3.heap.size := (by omega); have hneX3' : w3.heap.size ≠ XB := (by omega); clear st3 s3)))
        all_goals (go_wp2_with fail; go_meet)
        · exact ⟨w4.heap.size, now, ua, _, uc, w3.heap.size, rfl, fun o => by simp [go_sem], D4.out.size, by simp, D4.out.then ((Below.refl _ _).alloc (Nat.le_refl _) _) D4.out.size, S4.out.below ((Below.refl _ _).alloc (Nat.le_refl _) _) S4.out.lt, DSnd.of (Own.mono (HO4.out.below (Nat.le_refl _) ((Below.refl _ _).alloc (Nat.le_refl _) _)) (Nat.le_refl _) (by simp)) hX3 (by simp; omega)⟩
        · exact ⟨w3.heap.size, now, ua, _, uc, w3.heap.size + 1, rfl, bx_five krB, D3.out.size, by simpa using hz4, D4.out.then (bel_five _ _ _ _ _ _ _) D3.out.size, S4.out.below (bel_five _ _ _ _ _ _ _) S3.out.lt, DSnd.of (Own.mono (Own.keep HO4.out (fun b h1 h2 => by simp at h1; repeat rw [Below.heap_setCell _ _ _ _ (by dsimp only; omega)])) (by simp) (by simp)) (by omega) (by simp; omega)⟩
        · exact ⟨w2.heap.size, now, ua, _, uc, w3.heap.size, rfl, bx_five kr4, Nat.le_refl _, by have h : w2.heap.size < w4.heap.size := cell_lt (kr4 0); simpa using h, D4.out.then (bel_five _ _ _ _ _ _ _) (Nat.le_refl _), S4.out.below (bel_five _ _ _ _ _ _ _) S2.out.lt, DSnd.of (Own.mono (Own.keep HO4.out (fun b h1 h2 => by repeat rw [Below.heap_setCell _ _ _ _ (by dsimp only; omega)])) (Nat.le_refl _) (by simp)) hX3 (by simp; omega)⟩
      case rest =>
        obtain ⟨rb, now, ua, un, uc, lo2, rfl, kr, hrb, hrb2, Dx, Sx, DSx⟩ := hcut
        replace kX := bx_dr kX Dx.out hX2 (by omega)
        replace fX := fx_dr fX Dx.out hX2 (by omega)
        replace k0 := bx_dr k0 Dx.out (by omega) (by omega)
        replace f0 := fx_dr f0 Dx.out (by omega) (by omega)
        have HDSo : Hid (DSnd wc XB lo X va vn vc) := HDS2.out.dr Dx.out (by have := HDS2.out.xb; omega)
        have D5 : Hid (Dr sb w wc) := D2.out.trans Dx.out
        have hXc : XB < wc.heap.size := Nat.lt_of_lt_of_le hX2 Dx.out.size
        have HPN : Hid (pshC X dt ld now = 0 → sndFault (pshV X dt ld now) = 0) := psh_none
        clear x0 x1 x2 x3 HPF HRL HDS2 D2 S2
        generalize pshC X dt ld now = C at *
        generalize pshV X dt ld now = V at *
        go_upto_if 36 with fail
        go_cut [4] from 19 to 66 (fun t wx => ∃ (dt' : Int) (X' : DSender) (va' : Option Addr) (vn' vc' lo' : Nat), t = .int .i64 dt' ∧ 0 ≤ dt' ∧ dt' ≤ dt + 9 ∧ (∀ o, wx.cell? ⟨XB, o, none⟩ = (#[.int .i64 X'.1, .int .i64 X'.2.1, .int .i64 X'.2.2.1, .slice va' vn' vc'] : Array Value)[o]?) ∧ (∀ o, wx.frozen? ⟨XB, o, none⟩ = false) ∧ (∀ o, wx.cell? ⟨w.heap.size, o, none⟩ = (#[.int .i64 0, .int .i64 0, .int .i64 0, .slice none 0 0] : Array Value)[o]?) ∧ (∀ o, wx.frozen? ⟨w.heap.size, o, none⟩ = false) ∧ XB < wx.heap.size ∧ Hid (DSnd wx XB lo' X' va' vn' vc') ∧ Hid (sndFault X' = 0) ∧ Hid (Dr sb w wx) ∧ Hid (Src wx sb (.slice a len cap) (K + 4 + 40 * (8 - (kk : Int)) + 1 + 27 + 1)))
        case first =>
          by_cases hC : C = 0
          · subst hC
            have HN0 : Hid _ := HPN.out rfl
            go_wp2_with fail
            go_meet
            exact ⟨dt + lm, V, ua, un, uc, lo2, rfl, by omega, by omega, bx_fourD kX, fun o => by simpa using fX o, fun o => by rw [(bel_four _ _ _ _ _ _).cell (p := ⟨w.heap.size, o, none⟩) z3]; exact k0 o, fun o => by rw [(bel_four _ _ _ _ _ _).frozen (p := ⟨w.heap.size, o, none⟩) z3]; exact f0 o, by simpa using hXc, ⟨Own.mono (Own.keep DSx.out.own (fun b h1 h2 => by have := DSx.out.xb; repeat rw [Below.heap_setCell _ _ _ _ (by dsimp only; omega)])) (Nat.le_refl _) (by simp), DSx.out.xb, by simpa using DSx.out.lo, DSx.out.w0, DSx.out.w1, DSx.out.w2⟩, HN0, D5.out.then (bel_four _ _ _ _ _ _) (by omega), Sx.out.below (bel_four _ _ _ _ _ _) hsX⟩
          · have hC' : (C == 0) = false := by simp [hC]
            go_wp2_with fail
            go_meet
            exact ⟨dt, X, va, vn, vc, lo, rfl, hd0, by omega, kX, fX, k0, f0, hXc, HDSo, HF, D5, Sx⟩
        case rest =>
          obtain ⟨dt', X', va', vn', vc', lo', rfl, e0, e1, kX', fX', k0', f0', hXx, DS', F', Dr', Sr'⟩ := hcut
          clear kr kX fX k0 f0 HDSo D5 HPN DSx Sx Dx HF hrb hrb2 hXc hX2 hneX hneX'
          have HVN : Hid (X'.2.2.2.1.length = vn') := DS'.out.len
          have hv12 : vn' ≤ 12 := by rw [← HVN.out]; exact (snd_ok F'.out).2.2.2
          by_cases hv0 : vn' = 0
          · subst hv0
            go_wp2_with fail
            go_roundw
            case rel => exact ⟨kk - 1, dt', X', va', 0, vc', lo', by omega, by go_num, rfl, e0, by omega, kX', fX', k0', f0', hXx, DS', F', Dr', Sr'.out.mono (by omega)⟩
            case measure => simp [intOf]; omega
          · have hv0' : (0 : Int) < (vn' : Int) := by omega
            go_wp2_with fail
            refine (sChance sb a len cap zs _ 4 wc Sr'.out (HR.out _ Dr'.out) hl (by omega) (by omega)).mono ?_
            rintro e w3 ⟨b3, rfl, st3, s3⟩
            replace kX' := bx_dr kX' st3.dr hXx (by omega)
            replace fX' := fx_dr fX' st3.dr hXx (by omega)
            replace k0' := bx_dr k0' st3.dr (by omega) (by omega)
            replace f0' := fx_dr f0' st3.dr (by omega) (by omega)
            have DS3 : Hid (DSnd w3 XB lo' X' va' vn' vc') := DS'.out.dr st3.dr (by have := DS'.out.xb; omega)
            have Dr3 : Hid (Dr sb w w3) := Dr'.out.trans st3.dr
            have hX3 : XB < w3.heap.size := by rw [st3.size]; exact hXx
            have Sr3 : Hid _ := s3
            clear st3 s3 DS' Dr' Sr' hXx
            cases b3 with
            | false =>
              go_wp2_with fail
              go_roundw
              case rel => exact ⟨kk - 1, dt', X', va', vn', vc', lo', by omega, by go_num, rfl, e0, by omega, kX', fX', k0', f0', hX3, DS3, F', Dr3, Sr3.out.mono (by omega)⟩
              case measure => simp [intOf]; omega
            | true =>
              have hfl0 : 0 < X'.2.2.2.1.length := by rw [HVN.out]; omega
              obtain ⟨fb, fo, fv, fa, hfb, c0, -, c2, -, -, fr⟩ := at_Flights (DS3.out.own.rd (Nat.le_refl _)) 0 hfl0
              obtain ⟨vv, ev, rkf, -⟩ := rd_Flight fr
              simp only [List.cons.injEq, and_true, true_and] at ev
              subst ev
              obtain ⟨xa, xc, ev2⟩ := row_form rkf
              simp only [List.cons.injEq, and_true] at ev2
              subst ev2 fa
              have hbd0 := snd_bd F'.out X'.2.2.2.1[0] (List.getElem_mem _)
              have hok := snd_ok F'.out
              obtain ⟨u20, u21⟩ := inD_yes hok.2.1
              obtain ⟨u30, u31⟩ := inD_yes hok.2.2.1
              simp only [Nat.zero_mul, Nat.add_zero] at c0 c2
              have HAk : Hid (∀ W, Dr sb w3 W → ∀ ack, Calls Try.prog 124 #[.pointer (some ⟨XB, 0, none⟩), .int .i64 ack] W fun e w' => e = .returned (.int .i64 (ackC0 X' ack)) ∧ ∃ va vn vc, (∀ o, w'.cell? ⟨XB, o, none⟩ = (#[.int .i64 X'.1, .int .i64 X'.2.1, .int .i64 (ackD X' ack).2.2.1, .slice va vn vc] : Array Value)[o]?) ∧ (∀ o, w'.frozen? ⟨XB, o, none⟩ = false) ∧ Own w' lo' w'.heap.size shFlights (ackD X' ack).2.2.2.1 [.slice va vn vc] ∧ (∀ b, b < W.heap.size → b ≠ XB → w'.heap[b]? = W.heap[b]?) ∧ Below (min W.heap.size XB) W w') := fun W hW ack => by
                have hds := DS3.out.dr hW (by have := DS3.out.xb; omega)
                exact sL5Ack X' _ vn' vc' XB ack W lo' W.heap.size F'.out HVN.out (bx_dr kX' hW hX3 (by omega)) (fx_dr fX' hW hX3 (by omega)) hds.own hds.lo (Nat.le_refl _) (by have := hds.xb; omega)
              clear rkf fr hok
              generalize X'.2.2.2.1[0].1 = f0v at *
              generalize X'.2.2.2.1[0].2.2.1.length = f0n at *
              have HEND : Hid (∀ (w4 : World) (ack : Int) (va2 : Option Addr) (vn2 vc2 : Nat), (∀ o, w4.cell? ⟨XB, o, none⟩ = (#[.int .i64 X'.1, .int .i64 X'.2.1, .int .i64 (ackD X' ack).2.2.1, .slice va2 vn2 vc2] : Array Value)[o]?) → (∀ o, w4.frozen? ⟨XB, o, none⟩ = false) → Own w4 lo' w4.heap.size shFlights (ackD X' ack).2.2.2.1 [.slice va2 vn2 vc2] → (∀ b, b < w3.heap.size → b ≠ XB → w4.heap[b]? = w3.heap[b]?) → Below (min w3.heap.size XB) w3 w4 → ∃ (X2 : DSender) (va2 : Option Addr) (vn2 vc2 : Nat), (∀ o, w4.cell? ⟨XB, o, none⟩ = (#[.int .i64 X2.1, .int .i64 X2.2.1, .int .i64 X2.2.2.1, .slice va2 vn2 vc2] : Array Value)[o]?) ∧ (∀ o, w4.frozen? ⟨XB, o, none⟩ = false) ∧ (∀ o, w4.cell? ⟨w.heap.size, o, none⟩ = (#[.int .i64 0, .int .i64 0, .int .i64 0, .slice none 0 0] : Array Value)[o]?) ∧ (∀ o, w4.frozen? ⟨w.heap.size, o, none⟩ = false) ∧ XB < w4.heap.size ∧ Hid (DSnd w4 XB lo' X2 va2 vn2 vc2) ∧ Hid (sndFault X2 = 0) ∧ Hid (Dr sb w w4) ∧ Hid (Src w4 sb (.slice a len cap) (K + 4 + 40 * (8 - (kk : Int)) + 1 + 27 + 1 + 1))) := by
                intro w4 ack va2 vn2 vc2 j1 j2 j3 j4 j5
                obtain ⟨n1, n2, n3⟩ := ackD_none F'.out ack
                have hsz4 := j5.size
                have hx4 : XB < w4.heap.size := cell_lt (j1 0)
                have hlt3 := Sr3.out.lt
                obtain ⟨v10, v11⟩ := inD_yes (snd_ok n1).2.1
                obtain ⟨v20, v21⟩ := inD_yes (snd_ok n1).2.2.1
                have hbx : Below XB w3 w4 := j5.mono (by omega)
                refine ⟨ackD X' ack, va2, vn2, vc2, fun o => by rw [j1 o, n2, n3], j2, fun o => (hbx.cell (p := ⟨w.heap.size, o, none⟩) z3).trans (k0' o), fun o => (hbx.frozen (p := ⟨w.heap.size, o, none⟩) z3).trans (f0' o), hx4, ⟨j3, DS3.out.xb, Nat.le_trans DS3.out.lo hsz4, by rw [n2]; exact DS3.out.w0, by rw [n3]; exact DS3.out.w1, WalkArith.wf_i64 (by omega)⟩, n1, Dr3.out.then hbx (by omega), Sr3.out.below hbx hsX⟩
              go_upto_region 12 with fail
              go_region_law ((first
                | (go_simp; go_at_call 76; refine (sAdd _ _ _).mono ?_; rintro e w' ⟨rfl, hw⟩; subst w')
                | (go_simp; go_at_call 124; refine (HAk.out _ ((Dr.refl sb w3).then (Below.drew (Below.refl _ _)) (Nat.le_refl _)) _).mono ?_; rintro e w4 ⟨rfl, va2, vn2, vc2, j1, j2, j3, j4, j5⟩; obtain ⟨X5, va5, vn5, vc5, kX5, fX5, k05, f05, hX5, DS5, F5, Dr5, Sr5⟩ := HEND.out w4 _ va2 vn2 vc2 j1 j2 j3 j4 (Below.trans (Below.drew (Below.refl _ _)) j5); clear j1 j2 j3 j4 j5)))
              all_goals (clear kX' fX' k0' f0' DS3 Dr3 Sr3 F' c0 c2 HAk HEND; go_wp2_with fail; go_roundw)
              all_goals first
                | exact ⟨kk - 1, dt', X5, va5, vn5, vc5, lo', by omega, by go_num, rfl, e0, by omega, kX5, fX5, k05, f05, hX5, DS5, F5, Dr5, Sr5.out.mono (by omega)⟩
                | (simp [intOf]; omega)
    · obtain rfl : kk = 0 := by omega
      go_wp2_with fail
      exact HT.out wr lo X va vn vc ⟨kX, fX, k0, f0, hXr, HDS.out, HF.out, HDr.out, HSr.out.mono (by omega)⟩ _ _ _ _ _ _ _ _ _ _ _ _ _ _ _ _ _ _ _ _ _ _ _ _ _ _ _ _ _ _ _ _ _ _ _ _ _ _ _ _ _ _ _ _ _ _ _ _ _ _ _ _ _ _ _ _ _ _ _ _ _ _ _ _
end Go.Proofs.Ytebgibjokljlbaa
