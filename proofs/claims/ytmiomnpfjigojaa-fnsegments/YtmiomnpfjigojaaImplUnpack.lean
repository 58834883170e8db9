/- What the program's UnpackSegment answers; nothing that was in memory turns; no condition but that there are at most a million bytes. -/
import Derived.Test.YtmiomnpfjigojaaRows
import Derived.Test.YtmiomnpfjigojaaBase
import Derived.Test.YtmiomnpfjigojaaBytes
import Derived.Test.YtmiomnpfjigojaaSeg
import Derived.Test.YtmiomnpfjigojaaLaw
import Derived.Test.YtmiomnpfjigojaaSpecSeg
import Derived.Test.YtmiomnpfjigojaaImplSeg
import Derived.Test.YtmiomnpfjigojaaSpecPack
import Derived.Test.YtmiomnpfjigojaaImplSum
import Derived.Test.YtmiomnpfjigojaaPackDef
import Derived.Test.YtmiomnpfjigojaaSpecL2
import Derived.Test.YtmiomnpfjigojaaWriter
import Derived.Test.YtmiomnpfjigojaaImplPack
import Derived.Test.YtmiomnpfjigojaaPackWalks
import Derived.Test.YtmiomnpfjigojaaStrip
import Derived.Test.YtmiomnpfjigojaaTake
import Derived.Test.YtmiomnpfjigojaaRead
import Derived.Test.YtmiomnpfjigojaaStr
import Derived.Deep.RegionHeld3
namespace Go.Proofs.Ytmiomnpfjigojaa
open Go.RowKit
set_option linter.unusedVariables false
set_option linter.unusedSimpArgs false

/-- All bytes but the last two. -/
def upB (l : List Int) : List Int := l.take (l.length - 2)
def upSum (l : List Int) : Bool := decide (takeN (l.drop (l.length - 2)) = sumB (upB l))
def upFit (l : List Int) : Bool := decide (segFault (rdSeg (upB l)) (rdSeg (upB l)).load.length = 0) && eqS (packR (rdSeg (upB l))) l
def upC (l : List Int) : Int := if l.length < 18 then 5 else if upSum l = false then 6 else if upFit l = false then 5 else 0
def zSg : Seg := ⟨0, 0, false, false, false, 0, 0, 0, 0, 0, 0, []⟩
def upS (l : List Int) : Seg := if upC l = 0 then rdSeg (upB l) else zSg
theorem up_short {l : List Int} (h : l.length < 18) : upC l = 5 ∧ upS l = zSg := by simp [upS, upC, h]
theorem up_sum {l : List Int} (h : ¬ l.length < 18) (h2 : upSum l = false) : upC l = 6 ∧ upS l = zSg := by simp [upS, upC, h, h2]
theorem up_fit {l : List Int} (h : ¬ l.length < 18) (h2 : upSum l = true) (h3 : upFit l = false) : upC l = 5 ∧ upS l = zSg := by simp [upS, upC, h, h2, h3]
theorem up_ok {l : List Int} (h : ¬ l.length < 18) (h2 : upSum l = true) (h3 : upFit l = true) : upC l = 0 ∧ upS l = rdSeg (upB l) := by simp [upS, upC, h, h2, h3]
theorem upB_length {l : List Int} : (upB l).length = l.length - 2 := by simp [upB]

set_option maxRecDepth 8000 in
set_option maxHeartbeats 1000000 in
theorem iTakeAll (g b off : Nat) (sz : Nat) (l : List Int) (w : World) (hl : l.length = sz) (h1 : 1 ≤ sz) (h3 : sz ≤ 3) (hr : ∀ i, i < sz → w.cell? ⟨b, off + i, none⟩ = some (.int .u8 (l.getD i 0))) (hbd : ∀ x ∈ l, 0 ≤ x ∧ x ≤ 255)
    (hcl : w.cell? ⟨g, 0, none⟩ = some (.slice (some ⟨b, off, none⟩) sz sz)) (hf : w.frozen? ⟨g, 0, none⟩ = false) (hne : g ≠ b) :
    Calls Try.prog 62 #[.pointer (some ⟨g, 0, none⟩), .int .i64 sz] w fun e w' => e = .returned (.int .i64 (takeN l)) ∧ ∃ v, w' = w.setCell ⟨g, 0, none⟩ v := by
  have i1 : (sz : Int) ≤ sz := by omega
  have i2 : (0 : Int) ≤ sz := by omega
  go_enter Try.func62, Try.ntmps62
  go_wp2
  go_loop [5, 14] (fun t i => ∃ k : Nat, k ≤ sz ∧ i = .int .i64 k ∧ t = .int .i64 (takeN (l.take k))) (fun _ i => sz - (intOf i).toNat)
  case atStart => exact ⟨0, Nat.zero_le _, rfl, rfl⟩
  case round =>
    obtain ⟨k, hk, rfl, rfl⟩ := hrel
    by_cases hlt : k < sz
    · have ck := hr k (by omega)
      have bk := getD_bd hbd k (by omega)
      have tb := takeN_bd (l.take k) (fun x hx => hbd x (List.mem_of_mem_take hx))
      have hle : (256 : Int) ^ (l.take k).length ≤ 65536 := by
        have : (l.take k).length = k := by simp; omega
        rw [this]
        have : k = 0 ∨ k = 1 ∨ k = 2 := by omega
        rcases this with rfl | rfl | rfl <;> decide
      have hs : takeN (l.take (k + 1)) = takeN (l.take k) * 256 + l.getD k 0 := by
        rw [List.take_succ_eq_append_getElem (by omega), takeN_snoc]
        simp [List.getD_eq_getElem?_getD, List.getElem?_eq_getElem (show k < l.length by omega)]
      have HS : Hid _ := hs
      clear hr hs
      generalize l.getD k 0 = x at *
      generalize takeN (l.take k) = y at *
      have hy : y < 65536 := by omega
      clear hle
      have tb0 := tb.1
      clear tb
      have ho := or256 y x ⟨tb0, by omega⟩ bk
      go_wp2
      go_round
      case rel => exact ⟨k + 1, by omega, by go_num, by rw [HS.out]⟩
      case measure => simp [intOf]; omega
    · obtain rfl : k = sz := by omega
      have e : l.take k = l := List.take_of_length_le (by omega)
      rw [e]
      go_wp2
      go_ret
      exact ⟨rfl, _, rfl⟩
theorem iTakeTwo (g b off cap : Nat) (l : List Int) (w : World) (hl : l.length = 2) (hc : 2 ≤ cap) (hm : cap ≤ 9223372036854775807) (hr : ∀ i, i < 2 → w.cell? ⟨b, off + i, none⟩ = some (.int .u8 (l.getD i 0))) (hbd : ∀ x ∈ l, 0 ≤ x ∧ x ≤ 255)
    (hcl : w.cell? ⟨g, 0, none⟩ = some (.slice (some ⟨b, off, none⟩) 2 cap)) (hf : w.frozen? ⟨g, 0, none⟩ = false) (hne : g ≠ b) :
    Calls Try.prog 62 #[.pointer (some ⟨g, 0, none⟩), .int .i64 2] w fun e w' => e = .returned (.int .i64 (takeN l)) ∧ ∃ v, w' = w.setCell ⟨g, 0, none⟩ v := by
  by_cases h : cap = 2
  · subst h
    exact iTakeAll g b off 2 l w hl (by omega) (by omega) hr hbd hcl hf hne
  · refine (iTakeNumber g b off 2 cap 2 l w hl hc hm (by omega) (by omega) (by omega) hr hbd hcl hf hne (by omega)).mono ?_
    rintro e w' ⟨rfl, rfl⟩
    have e : l.take 2 = l := List.take_of_length_le (by omega)
    rw [e]
    exact ⟨rfl, _, rfl⟩
set_option maxRecDepth 8000 in
set_option maxHeartbeats 1000000 in
theorem iUnpack (l : List Int) (a : Option Addr) (n cap : Nat) (w : World) (hl : l.length = n) (hr : RB w a l) (hcap : n ≤ cap) (hm : cap ≤ 9223372036854775807) (hn : n ≤ 1048576) :
    Calls Try.prog 25 #[.slice a n cap] w fun e w' => ∃ v, e = .returned (.agg #[.int .i64 (upC l), .int .i64 (upS l).path, .int .i64 (upS l).frm, .bool (upS l).syn, .bool (upS l).ackd, .bool (upS l).rst, .int .i64 (upS l).seq, .int .i64 (upS l).ack, .int .i64 (upS l).fin, .int .i64 (upS l).opt, .int .i64 (upS l).a, .int .i64 (upS l).b, v]) ∧ OB w' w.heap.size v (upS l).load ∧ Below w.heap.size w w' := by
  by_cases h18 : n < 18
  · obtain ⟨e1, e2⟩ := up_short (l := l) (by omega)
    rw [e1, e2]
    unfold zSg
    simp only
    clear e1 e2 hr
    go_enter Try.func25, Try.ntmps25
    go_wp2_with fail
    go_returns
    exact ⟨_, rfl, OB.empty _ _, by go_grown⟩
  · have hnl : ¬ l.length < 18 := by omega
    rcases hr.mem with e | ⟨b, off, rfl, hc⟩
    · subst e; simp at hl; omega
    · have hlt := cell_lt (hc 0 (by omega))
      simp at hlt
      have HC : Hid (∀ W, Below w.heap.size w W → ∀ i, i < n → W.cell? ⟨b, off + i, none⟩ = some (.int .u8 (l.getD i 0))) := fun W h i hi => (h.cell (p := ⟨b, off + i, none⟩) hlt).trans (hc i (by omega))
      have HBD : Hid (∀ x ∈ l, 0 ≤ x ∧ x ≤ 255) := hr.bd
      have HRL : Hid (∀ W, Below w.heap.size w W → RB W (some ⟨b, off, none⟩) l) := fun W h => hr.below (Nat.le_refl _) h
      have HL : Hid (l.length = n) := hl
      clear hr hc hl
      obtain ⟨m, hm2⟩ : ∃ m, n = m + 2 := ⟨n - 2, by omega⟩
      subst hm2
      obtain ⟨C, hCC⟩ : ∃ C, upC l = C := ⟨_, rfl⟩
      obtain ⟨G, hGG⟩ : ∃ G, upS l = G := ⟨_, rfl⟩
      have HCG : Hid (upC l = C ∧ upS l = G) := ⟨hCC, hGG⟩
      rw [hCC, hGG]
      clear hCC hGG
      have i1 : (0 : Int) ≤ (m : Int) := by omega
      have i2 : (m : Int) ≤ (cap : Int) := by omega
      have i3 : (m : Int) ≤ ((m + 2 : Nat) : Int) := by omega
      have i4 : ((m + 2 : Nat) : Int) - 2 = (m : Int) := by omega
      go_enter Try.func25, Try.ntmps25
      go_upto_region 3 with fail
      go_region
      obtain ⟨W3, hW3⟩ : ∃ W3, ((w.alloc (.cells #[.int .i64 0, .int .i64 0, .int .i64 0, .bool false, .bool false, .bool false, .int .i64 0, .int .i64 0, .int .i64 0, .int .i64 0, .int .i64 0, .int .i64 0, .slice none 0 0] 42)).alloc (.cells #[.slice (some ⟨b, off + m, none⟩) 2 (cap - m)] 78)).drew = W3 := ⟨_, rfl⟩
      have BW : Below w.heap.size w W3 := by rw [← hW3]; go_grown
      have kR : ∀ o, W3.cell? ⟨w.heap.size, o, none⟩ = (#[.int .i64 0, .int .i64 0, .int .i64 0, .bool false, .bool false, .bool false, .int .i64 0, .int .i64 0, .int .i64 0, .int .i64 0, .int .i64 0, .int .i64 0, .slice none 0 0] : Array Value)[o]? := by rw [← hW3]; intro o; simp [go_sem]
      have fR : ∀ o, W3.frozen? ⟨w.heap.size, o, none⟩ = false := by rw [← hW3]; intro o; simp [go_sem]
      have k4 : W3.cell? ⟨w.heap.size + 1, 0, none⟩ = some (.slice (some ⟨b, off + m, none⟩) 2 (cap - m)) := by rw [← hW3]; simp [go_sem]
      have f4 : W3.frozen? ⟨w.heap.size + 1, 0, none⟩ = false := by rw [← hW3]; simp [go_sem]
      have z3 : w.heap.size + 1 < W3.heap.size := by rw [← hW3]; simp
      simp only [hW3]
      clear hW3
      have HLM : Hid (upB l = l.take m) := by show _ = _; unfold upB; rw [HL.out]; rfl
      have HLD : Hid (l.length - 2 = m) := by show _ = _; rw [HL.out]; rfl
      go_wp2_with fail
      refine (iTakeTwo (w.heap.size + 1) b (off + m) (cap - m) (l.drop m) W3 (by have := HL.out; simp; omega) (by omega) (by omega) (fun i hi => ?_) (fun x hx => HBD.out x (List.mem_of_mem_drop hx)) k4 f4 (by omega)).mono ?_
      · rw [show off + m + i = off + (m + i) by omega]
        refine (HC.out _ BW (m + i) (by omega)).trans ?_
        rw [List.getD_eq_getElem?_getD, List.getD_eq_getElem?_getD, List.getElem?_drop]
      rintro e W4 ⟨rfl, v4, hW4⟩
      have B4 : Below (w.heap.size + 1) W3 W4 := by rw [hW4]; exact (Below.refl _ _).setCell (p := ⟨w.heap.size + 1, 0, none⟩) (Nat.le_refl _) _
      replace kR := fun o => (B4.cell (p := ⟨w.heap.size, o, none⟩) (by dsimp only; omega)).trans (kR o)
      replace fR := fun o => (B4.frozen (p := ⟨w.heap.size, o, none⟩) (by dsimp only; omega)).trans (fR o)
      have BW4 : Hid (Below w.heap.size w W4) := BW.trans (B4.mono (by omega))
      have z4 : w.heap.size < W4.heap.size := by have := B4.size; omega
      clear hW4 B4 BW k4 f4 z3
      have HRB : Hid (∀ W, Below w.heap.size w W → RB W (some ⟨b, off, none⟩) (l.take m)) := fun W h => ⟨fun x hx => HBD.out x (List.mem_of_mem_take hx), Or.inr ⟨b, off, rfl, fun i hi => by
        have hi' : i < m := by rw [List.length_take] at hi; omega
        refine (HC.out W h i (by omega)).trans ?_
        rw [List.getD_eq_getElem?_getD, List.getD_eq_getElem?_getD, List.getElem?_take_of_lt hi']⟩⟩
      have HSU : Hid (upSum l = decide (takeN (l.drop m) = sumB (l.take m))) := by show _ = _; unfold upSum; rw [HLM.out, HLD.out]
      have HFI : Hid (upFit l = (decide (segFault (rdSeg (l.take m)) (rdSeg (l.take m)).load.length = 0) && eqS (packR (rdSeg (l.take m))) l)) := by show _ = _; unfold upFit; rw [HLM.out]
      have HOK : Hid (upSum l = true → upFit l = true → upC l = 0 ∧ upS l = rdSeg (l.take m)) := fun h1 h2 => by have := up_ok hnl h1 h2; rw [HLM.out] at this; exact this
      have HNF : Hid (upSum l = true → upFit l = false → upC l = 5 ∧ upS l = zSg) := fun h1 h2 => up_fit hnl h1 h2
      have HNS : Hid (upSum l = false → upC l = 6 ∧ upS l = zSg) := fun h => up_sum hnl h
      go_wp2_with fail
      refine (iSumBytes (some ⟨b, off, none⟩) m cap (l.take m) W4 (by have := HL.out; simp; omega) (HRB.out _ BW4.out) (by omega)).mono ?_
      rintro e W4' ⟨rfl, hw⟩
      subst W4'
      rw [HCG.out.1, HCG.out.2] at HOK HNF HNS
      by_cases hS : takeN (l.drop m) = sumB (l.take m)
      · have hS' : (takeN (l.drop m) != sumB (l.take m)) = false := by simp [hS]
        have hU : upSum l = true := by rw [HSU.out]; simp [hS]
        replace HOK := HOK.out hU
        replace HNF := HNF.out hU
        generalize sumB (l.take m) = s2 at *
        generalize takeN (l.drop m) = s1 at *
        clear hS HSU HNS hU
        go_wp2_with fail
        refine (iReadSegment b off m cap (l.take m) W4 (by have := HL.out; simp; omega) (by omega) (by omega) (by omega) (by omega) (fun i hi => ?_) (fun x hx => HBD.out x (List.mem_of_mem_take hx))).mono ?_
        · refine (HC.out W4 BW4.out i (by omega)).trans ?_
          rw [List.getD_eq_getElem?_getD, List.getD_eq_getElem?_getD, List.getElem?_take_of_lt hi]
        rintro e w5 ⟨v5, rfl, ho5, hb5⟩
        replace ho5 : OB w5 W4.heap.size v5 (rdSeg (l.take m)).load := ho5
        obtain ⟨a5, c5, rfl, hr5, hn5⟩ := ho5.rbn
        replace kR := fun o => (hb5.cell (p := ⟨w.heap.size, o, none⟩) z4).trans (kR o)
        replace fR := fun o => (hb5.frozen (p := ⟨w.heap.size, o, none⟩) z4).trans (fR o)
        have HO5 : Hid _ := ho5
        have HR5 : Hid (∀ W, Below w5.heap.size w5 W → RB W a5 (rdSeg (l.take m)).load) := fun W h => hr5.below (Nat.le_refl _) h
        have B5 : Hid (Below w.heap.size w w5) := BW4.out.trans (hb5.mono BW4.out.size)
        have z5 : w.heap.size < w5.heap.size := Nat.lt_of_lt_of_le z4 hb5.size
        have z45 : W4.heap.size ≤ w5.heap.size := hb5.size
        have HN5 : Hid (a5 = none → c5 = 0) := hn5
        clear ho5 hr5 hb5 hn5 HRB HLM HLD HC HBD BW4
        generalize rdSeg (l.take m) = g at *
        obtain ⟨N5, hN5⟩ : ∃ N5, g.load.length = N5 := ⟨_, rfl⟩
        have HL5 : Hid (g.load.length = N5) := hN5
        rw [hN5] at HO5 HFI ⊢
        clear hN5
        have HPK : Hid (∀ W, Below w5.heap.size w5 W → Calls Try.prog 26 #[.agg #[.int .i64 g.path, .int .i64 g.frm, .bool g.syn, .bool g.ackd, .bool g.rst, .int .i64 g.seq, .int .i64 g.ack, .int .i64 g.fin, .int .i64 g.opt, .int .i64 g.a, .int .i64 g.b, .slice a5 N5 c5]] W fun e w' => ∃ v, e = .returned (.agg #[.int .i64 (segFault g N5), v]) ∧ OB w' W.heap.size v (packR g) ∧ Below W.heap.size W w') := fun W h => iPackSegment g a5 N5 c5 W HL5.out (HR5.out W h) HN5.out
        have HFT : Hid (segFault g N5 = 0 → eqS (packR g) l = true → C = 0 ∧ G = g) := fun h1 h2 => HOK (by rw [HFI.out, h2]; simp [h1])
        have HFN : Hid (segFault g N5 ≠ 0 ∨ eqS (packR g) l = false → C = 5 ∧ G = zSg) := fun h => HNF (by rw [HFI.out]; rcases h with h | h <;> simp [h])
        clear HOK HNF HFI
        go_wp2_with fail
        refine (HPK.out _ ((Below.refl _ _).alloc (Nat.le_refl _) _)).mono ?_
        rintro e w6 ⟨v6, rfl, ho6, hb6⟩
        obtain ⟨a6, c6, rfl, hr6, -⟩ := ho6.rbn
        have k5 : ∀ o, w6.cell? ⟨w5.heap.size, o, none⟩ = (#[.int .i64 g.path, .int .i64 g.frm, .bool g.syn, .bool g.ackd, .bool g.rst, .int .i64 g.seq, .int .i64 g.ack, .int .i64 g.fin, .int .i64 g.opt, .int .i64 g.a, .int .i64 g.b, .slice a5 N5 c5] : Array Value)[o]? := fun o => by rw [(bcell hb6).1 w5.heap.size o (by simp)]; simp [go_sem]
        have hb56 : Below w5.heap.size w5 w6 := ((Below.refl _ _).alloc (Nat.le_refl _) _).trans (hb6.mono (by simp))
        have z6 : w5.heap.size < w6.heap.size := by have := hb6.size; simp at this; omega
        replace kR := fun o => (hb56.cell (p := ⟨w.heap.size, o, none⟩) z5).trans (kR o)
        replace fR := fun o => (hb56.frozen (p := ⟨w.heap.size, o, none⟩) z5).trans (fR o)
        have HO6 : Hid (OB w6 W4.heap.size (.slice a5 N5 c5) g.load) := HO5.out.below (Nat.le_refl _) hb56
        have HR6 : Hid (∀ W, Below w6.heap.size w6 W → RB W a6 (packR g)) := fun W h => hr6.below (Nat.le_refl _) h
        have B6 : Hid (Below w.heap.size w w6) := B5.out.trans (hb56.mono B5.out.size)
        have z06 : w.heap.size < w6.heap.size := by omega
        have zn5 : w.heap.size ≠ w5.heap.size := by omega
        clear hb6 hb56 ho6 hr6 HO5 HR5 HPK B5
        obtain ⟨N6, hN6⟩ : ∃ N6, (packR g).length = N6 := ⟨_, rfl⟩
        have HL6 : Hid ((packR g).length = N6) := hN6
        rw [hN6]
        clear hN6
        generalize segFault g N5 = F at *
        go_upto_region 8 with fail
        obtain ⟨W7, hW7⟩ : ∃ W7, w6.alloc (.cells #[.int .i64 F, .slice a6 N6 c6] 45) = W7 := ⟨_, rfl⟩
        have b7 : Below w6.heap.size w6 W7 := by rw [← hW7]; exact (Below.refl _ _).alloc (Nat.le_refl _) _
        have k67 : ∀ o, W7.cell? ⟨w6.heap.size, o, none⟩ = (#[.int .i64 F, .slice a6 N6 c6] : Array Value)[o]? := by rw [← hW7]; intro o; simp [go_sem]
        simp only [hW7]
        clear hW7
        have k57 : ∀ o, W7.cell? ⟨w5.heap.size, o, none⟩ = (#[.int .i64 g.path, .int .i64 g.frm, .bool g.syn, .bool g.ackd, .bool g.rst, .int .i64 g.seq, .int .i64 g.ack, .int .i64 g.fin, .int .i64 g.opt, .int .i64 g.a, .int .i64 g.b, .slice a5 N5 c5] : Array Value)[o]? := fun o => (b7.cell (p := ⟨w5.heap.size, o, none⟩) z6).trans (k5 o)
        have kR7 : ∀ o, W7.cell? ⟨w.heap.size, o, none⟩ = (#[.int .i64 0, .int .i64 0, .int .i64 0, .bool false, .bool false, .bool false, .int .i64 0, .int .i64 0, .int .i64 0, .int .i64 0, .int .i64 0, .int .i64 0, .slice none 0 0] : Array Value)[o]? := fun o => (b7.cell (p := ⟨w.heap.size, o, none⟩) z06).trans (kR o)
        have fR7 : ∀ o, W7.frozen? ⟨w.heap.size, o, none⟩ = false := fun o => (b7.frozen (p := ⟨w.heap.size, o, none⟩) z06).trans (fR o)
        have B7 : Hid (Below w.heap.size w W7) := B6.out.trans (b7.mono B6.out.size)
        have HO7 : Hid (OB W7 W4.heap.size (.slice a5 N5 c5) g.load) := HO6.out.below (Nat.le_refl _) b7
        have HR7 : Hid (RB W7 a6 (packR g)) := HR6.out _ b7
        have HRL7 : Hid (RB W7 (some ⟨b, off, none⟩) l) := HRL.out _ B7.out
        clear b7 kR fR k5 HO6 B6 HR6 HRL
        by_cases hF : F = 0
        · subst hF
          have HEQ : Hid (Calls Try.prog 65 #[.slice a6 N6 c6, .slice (some ⟨b, off, none⟩) (m + 2) cap] W7 fun e w' => e = .returned (.bool (eqS (packR g) l)) ∧ w' = W7) := bEqual a6 (some ⟨b, off, none⟩) N6 (m + 2) c6 cap (packR g) l W7 HL6.out HL.out HR7.out HRL7.out
          replace HFT := HFT.out rfl
          generalize hE : eqS (packR g) l = E at *
          cases E with
          | true =>
            obtain ⟨e1, e2⟩ := HFT rfl
            clear HCG
            subst C
            subst G
            clear hE HFN HFT
            go_wp2_with fail
            refine HEQ.out.mono ?_
            rintro e w7 ⟨rfl, hw⟩
            subst w7
            clear HEQ
            go_wp2_with fail
            refine bodyPost_ret (v := .agg #[.int .i64 0, .int .i64 g.path, .int .i64 g.frm, .bool g.syn, .bool g.ackd, .bool g.rst, .int .i64 g.seq, .int .i64 g.ack, .int .i64 g.fin, .int .i64 g.opt, .int .i64 g.a, .int .i64 g.b, .slice a5 N5 c5]) (by simp [results, Try.results25, go_sem, kR7]) rfl ⟨.slice a5 N5 c5, rfl, ?_, ?_⟩
            · refine OB.mono (OB.keeps HO7.out fun h hg => ?_) (by omega)
              repeat rw [Below.heap_setCell _ _ _ _ (by dsimp only; omega)]
            · have hB1 := B7.out
              clear kR7 fR7 k57 k67
              go_grown
          | false =>
            obtain ⟨e1, e2⟩ := HFN.out (Or.inr rfl)
            clear HCG
            subst C
            subst G
            clear hE HFN HFT
            go_wp2_with fail
            refine HEQ.out.mono ?_
            rintro e w7 ⟨rfl, hw⟩
            subst w7
            clear HEQ
            go_wp2_with fail
            refine bodyPost_ret (v := .agg #[.int .i64 5, .int .i64 0, .int .i64 0, .bool false, .bool false, .bool false, .int .i64 0, .int .i64 0, .int .i64 0, .int .i64 0, .int .i64 0, .int .i64 0, .slice none 0 0]) (by simp [results, Try.results25, go_sem, kR7]) rfl ⟨.slice none 0 0, rfl, OB.empty _ _, ?_⟩
            have hB1 := B7.out
            clear kR7 fR7 k57 k67
            go_grown
        · obtain ⟨e1, e2⟩ := HFN.out (Or.inl hF)
          have hF' : (F != 0) = true := by simp [hF]
          clear HCG
          subst C
          subst G
          clear hF HFN HFT
          go_wp2_with fail
          refine bodyPost_ret (v := .agg #[.int .i64 5, .int .i64 0, .int .i64 0, .bool false, .bool false, .bool false, .int .i64 0, .int .i64 0, .int .i64 0, .int .i64 0, .int .i64 0, .int .i64 0, .slice none 0 0]) (by simp [results, Try.results25, go_sem, kR7]) rfl ⟨.slice none 0 0, rfl, OB.empty _ _, ?_⟩
          have hB1 := B7.out
          clear kR7 fR7 k57 k67
          go_grown
      · have hS' : (takeN (l.drop m) != sumB (l.take m)) = true := by simp [hS]
        have hU : upSum l = false := by rw [HSU.out]; simp [hS]
        obtain ⟨e1, e2⟩ := HNS.out hU
        clear HCG
        subst C
        subst G
        generalize sumB (l.take m) = s2 at *
        generalize takeN (l.drop m) = s1 at *
        clear hS HSU HNS hU HOK HNF
        go_wp2_with fail
        refine bodyPost_ret (v := .agg #[.int .i64 6, .int .i64 0, .int .i64 0, .bool false, .bool false, .bool false, .int .i64 0, .int .i64 0, .int .i64 0, .int .i64 0, .int .i64 0, .int .i64 0, .slice none 0 0]) (by simp [results, Try.results25, go_sem, kR]) rfl ⟨.slice none 0 0, rfl, OB.empty _ _, ?_⟩
        have hB1 := BW4.out
        clear kR fR 
        go_grown
end Go.Proofs.Ytmiomnpfjigojaa
