/- What the program's own writer makes of a segment, and what PackSegment answers: its bytes, new ones; nothing that was in memory turns; no condition but that the load has at most a million bytes. -/
import Derived.Test.YtmiomnpfjigojaaRows
import Derived.Test.YtmiomnpfjigojaaBase
import Derived.Test.YtmiomnpfjigojaaBytes
import Derived.Test.YtmiomnpfjigojaaAppBytes
import Derived.Test.YtmiomnpfjigojaaApp
import Derived.Test.YtmiomnpfjigojaaSeg
import Derived.Test.YtmiomnpfjigojaaSpecSeg
import Derived.Test.YtmiomnpfjigojaaSpecPack
import Derived.Test.YtmiomnpfjigojaaLaw
import Derived.Test.YtmiomnpfjigojaaPackDef
import Derived.Test.YtmiomnpfjigojaaImplSeg
import Derived.Test.YtmiomnpfjigojaaImplSum
import Derived.Test.YtmiomnpfjigojaaWriter
import Derived.Deep.DeepMust
import Derived.Deep.DrawnRows
namespace Go.Proofs.Ytmiomnpfjigojaa
open Go.RowKit
set_option linter.unusedVariables false
attribute [local go_sem ↓] Go.wp_at_zero Go.wp_at_succ

theorem be1 {n : Int} (h : 0 ≤ n ∧ n ≤ 255) : beTo n 1 1 = [n] := by simp [beTo]; omega
theorem RB.wr {w w' : World} {g : Nat} {v v' : Value} {a : Option Addr} {l : List Int} (h : RB w a l) (k : Wr w w' g v v') (hne : ∀ b off, a = some ⟨b, off, none⟩ → l ≠ [] → b ≠ g ∧ v.ownBlock ≠ some b) : RB w' a l := by
  refine ⟨h.bd, ?_⟩
  rcases h.mem with e | ⟨b, off, rfl, hc⟩
  · exact Or.inl e
  · by_cases hl : l = []
    · exact Or.inl hl
    · exact Or.inr ⟨b, off, rfl, fun i hi => (k.cell (off + i) (cell_lt (hc i hi)) (hne b off rfl hl).1 (hne b off rfl hl).2).trans (hc i hi)⟩
theorem Wr.alloc {w : World} {O : Obj} {g : Nat} {v : Value} : Wr w (w.alloc O) g v v :=
  ⟨rfl, rfl, rfl, by simp, fun b hb _ _ => Below.heap_alloc w O b hb, fun b e => Or.inl e⟩
theorem Wr.ne {w w' : World} {g h : Nat} {v v' : Value} (k : Wr w w' g v v') (hh : h < w.heap.size) (hv : v.ownBlock ≠ some h) : v'.ownBlock ≠ some h := fun e => by
  rcases k.row h e with e1 | e1
  · exact hv e1
  · omega
theorem Wr.box {w w' : World} {g h : Nat} {v v' : Value} {cs : Array Value} (k : Wr w w' g v v') (B : ∀ o, w.cell? ⟨h, o, none⟩ = cs[o]?) (hh : h < w.heap.size) (hg : h ≠ g) (hv : v.ownBlock ≠ some h) : ∀ o, w'.cell? ⟨h, o, none⟩ = cs[o]? :=
  fun o => (k.cell o hh hg hv).trans (B o)
theorem Wr.mono {w W w' : World} {g : Nat} {v v' : Value} (B : Below w.heap.size w W) (k : Wr W w' g v v') : Wr w w' g v v' :=
  ⟨k.os.trans B.os, k.tape.trans B.tape, k.output.trans B.output, Nat.le_trans B.size k.size, fun b hb hg hv => (k.block b (Nat.lt_of_lt_of_le hb B.size) hg hv).trans (B.block b hb), fun b e => (k.row b e).imp id (Nat.le_trans B.size)⟩

set_option maxRecDepth 8000 in
set_option maxHeartbeats 1000000 in
theorem iFlags (s : Seg) (a : Option Addr) (n cap : Nat) (w : World) :
    Calls Try.prog 100 #[.agg #[.int .i64 s.path, .int .i64 s.frm, .bool s.syn, .bool s.ackd, .bool s.rst, .int .i64 s.seq, .int .i64 s.ack, .int .i64 s.fin, .int .i64 s.opt, .int .i64 s.a, .int .i64 s.b, .slice a n cap]] w fun e w' => e = .returned (.int .i64 (flagB s)) ∧ Below w.heap.size w w' := by
  go_enter Try.func100, Try.ntmps100
  go_wp2
  all_goals (go_ret; exact ⟨ret_int (by unfold flagB; simp [*] <;> rfl), by go_grown⟩)

theorem ne_base {w : World} {base : Nat} {v : Value} {l : List Int} (h : OB w base v l) {m : Nat} (hm : m < base) : v.ownBlock ≠ some m := fun e => by have := (OB.at h _ e).1; omega

set_option maxRecDepth 8000 in
set_option maxHeartbeats 4000000 in
theorem iAddSegment (g : Nat) (s : Seg) (a : Option Addr) (n cap : Nat) (base : Nat) (v0 : Value) (w : World) (hl : s.load.length = n) (hr : RB w a s.load) (hra : ∀ b off, a = some ⟨b, off, none⟩ → s.load ≠ [] → b ≠ g ∧ b < base) (hnil : a = none → cap = 0) (hk : s.Ok)
    (hc : w.cell? ⟨g, 0, none⟩ = some v0) (hf : w.frozen? ⟨g, 0, none⟩ = false) (ho : OB w base v0 []) (hgb : g < base) (hbase : base ≤ w.heap.size) :
    Calls Try.prog 66 #[.pointer (some ⟨g, 0, none⟩), .agg #[.int .i64 s.path, .int .i64 s.frm, .bool s.syn, .bool s.ackd, .bool s.rst, .int .i64 s.seq, .int .i64 s.ack, .int .i64 s.fin, .int .i64 s.opt, .int .i64 s.a, .int .i64 s.b, .slice a n cap]] w fun e w' => e = .returned (.tuple #[]) ∧ ∃ v', w'.cell? ⟨g, 0, none⟩ = some v' ∧ w'.frozen? ⟨g, 0, none⟩ = false ∧ OB w' base v' (bodyB s) ∧ Wr w w' g v0 v' := by
  have HN : Hid _ := hnil
  have HL : Hid _ := hra
  have HK : Hid _ := hk
  obtain ⟨⟨k1, k2⟩, ⟨k3, k4⟩, -, -, -, -, -, -, k5⟩ := hk
  have hn : n ≤ 1048576 := by omega
  obtain ⟨A, hA⟩ : ∃ A : Array Value, A = #[.int .i64 s.path, .int .i64 s.frm, .bool s.syn, .bool s.ackd, .bool s.rst, .int .i64 s.seq, .int .i64 s.ack, .int .i64 s.fin, .int .i64 s.opt, .int .i64 s.a, .int .i64 s.b, .slice a n cap] := ⟨_, rfl⟩
  rw [← hA]
  have c0 : A[0]? = some (.int .i64 s.path) := by rw [hA]; rfl
  have c1 : A[1]? = some (.int .i64 s.frm) := by rw [hA]; rfl
  have c2 : A[2]? = some (.bool s.syn) := by rw [hA]; rfl
  have c3 : A[3]? = some (.bool s.ackd) := by rw [hA]; rfl
  have c4 : A[4]? = some (.bool s.rst) := by rw [hA]; rfl
  have c5 : A[5]? = some (.int .i64 s.seq) := by rw [hA]; rfl
  have c6 : A[6]? = some (.int .i64 s.ack) := by rw [hA]; rfl
  have c7 : A[7]? = some (.int .i64 s.fin) := by rw [hA]; rfl
  have c8 : A[8]? = some (.int .i64 s.opt) := by rw [hA]; rfl
  have c9 : A[9]? = some (.int .i64 s.a) := by rw [hA]; rfl
  have c10 : A[10]? = some (.int .i64 s.b) := by rw [hA]; rfl
  have c11 : A[11]? = some (.slice a n cap) := by rw [hA]; rfl
  clear hA
  have wx : IntKind.i64.wrap (s.path * 2) = s.path * 2 := by rw [IntKind.wrap_i64]; omega
  have wy : IntKind.i64.wrap (s.path * 2 + s.frm) = s.path * 2 + s.frm := by rw [IntKind.wrap_i64]; omega
  have hlg := cell_lt hc
  obtain ⟨W0, hW⟩ : ∃ W, W = w.alloc (.cells A 40) := ⟨_, rfl⟩
  have b0 : Below w.heap.size w W0 := by rw [hW]; exact (Below.refl _ _).alloc (Nat.le_refl _) _
  have B0 : ∀ o, W0.cell? ⟨w.heap.size, o, none⟩ = A[o]? := fun o => by rw [hW]; simp
  have SH0 : w.heap.size < W0.heap.size := by rw [hW]; simp
  have SG0 : g < W0.heap.size := by omega
  have hc0 : W0.cell? ⟨g, 0, none⟩ = some v0 := (b0.cell (p := ⟨g, 0, none⟩) hlg).trans hc
  have hf0 : W0.frozen? ⟨g, 0, none⟩ = false := (b0.frozen (p := ⟨g, 0, none⟩) hlg).trans hf
  have O0 : Hid _ := OB.below ho (Nat.le_refl _) b0
  have RL0 : Hid _ := RB.below hr (Nat.le_refl _) b0
  have NE0 : Hid (v0.ownBlock ≠ some w.heap.size) := ne_lt ho (Nat.le_refl _)
  have hbase0 := Nat.le_trans hbase b0.size
  have WW0 : Hid (Wr w W0 g v0 v0) := by rw [hW]; exact Wr.alloc
  have HG : w.heap.size ≠ g := by omega
  have EW : Hid _ := hW
  clear hc hf ho hr hra hnil hbase b0 hW
  obtain ⟨L0, hL0⟩ : ∃ L : List Int, L = [] := ⟨_, rfl⟩
  rw [← hL0] at O0
  have E0 : Hid _ := hL0
  have l0 : Hid (L0.length ≤ 1000) := by rw [hL0]; show _ ≤ _; simp
  clear hL0
  go_enter Try.func66, Try.ntmps66
  go_wp2_with fail
  rw [← EW.out]
  obtain ⟨L1, hM⟩ : ∃ L, L = L0 ++ beTo (s.path * 2 + s.frm) 1 1 := ⟨_, rfl⟩
  have E1 : Hid _ := hM
  have l1 : Hid (L1.length ≤ 1003) := by have := l0.out; rw [hM, List.length_append, beTo_length]; show _ ≤ _; omega
  clear hM
  go_wp2_with fail
  go_cut [] (fun wx => ∃ v', wx.cell? ⟨g, 0, none⟩ = some v' ∧ wx.frozen? ⟨g, 0, none⟩ = false ∧ OB wx base v' L1 ∧ Wr W0 wx g v0 v')
  case first =>
    go_region_with (first
        | (go_at_call 99; refine (iAddNumber g (s.path * 2 + s.frm) 1 base v0 L0 W0.drew (by omega) (by omega) hc0 hf0 (OB.below O0.out (Nat.le_refl _) (Below.drew (Below.refl _ _))) hgb hbase0 (by have := l0.out; omega)).mono ?_; rintro e w' ⟨rfl, v', hc', hf', ho', hw'⟩; rw [← E1.out] at ho'; have FIN : Hid (∃ v', w'.cell? ⟨g, 0, none⟩ = some v' ∧ w'.frozen? ⟨g, 0, none⟩ = false ∧ OB w' base v' L1 ∧ Wr W0 w' g v0 v') := ⟨v', hc', hf', ho', Wr.mono (Below.drew (Below.refl _ _)) hw'⟩; clear hc' hf' ho' hw'))
    all_goals (go_wp2_with fail; go_meet; exact FIN.out)
  case rest =>
  rename World => W1
  obtain ⟨v1, hc1, hf1, ho, hw⟩ := hcut
  have B1 := hw.box B0 SH0 HG NE0.out
  have RL1 : Hid _ := RB.wr RL0.out hw (fun b off e hl => ⟨(HL.out b off e hl).1, ne_base O0.out (HL.out b off e hl).2⟩)
  have NE1 : Hid _ := hw.ne SH0 NE0.out
  have SH1 := Nat.lt_of_lt_of_le SH0 hw.size
  have SG1 := Nat.lt_of_lt_of_le SG0 hw.size
  have WW1 : Hid _ := WW0.out.trans hw
  have O1 : Hid _ := ho
  have hbase1 := Nat.le_trans hbase0 hw.size
  clear ho hw B0 RL0 NE0 SH0 SG0 WW0 O0 hbase0 hc0 hf0
  obtain ⟨L2, hM⟩ : ∃ L, L = L1 ++ beTo (flagB s) 1 1 := ⟨_, rfl⟩
  have E2 : Hid _ := hM
  have l2 : Hid (L2.length ≤ 1006) := by have := l1.out; rw [hM, List.length_append, beTo_length]; show _ ≤ _; omega
  clear hM
  go_wp2_with fail
  go_cut [] (fun wx => ∃ v', wx.cell? ⟨g, 0, none⟩ = some v' ∧ wx.frozen? ⟨g, 0, none⟩ = false ∧ OB wx base v' L2 ∧ Wr W1 wx g v1 v')
  case first =>
    go_region_with (first
        | (go_at_call 100; refine (iFlags s a n cap _).mono ?_; rintro e wf ⟨rfl, hb⟩; have HF : Hid (Below W1.heap.size W1 wf) := below_drew hb; clear hb)
        | (go_at_call 99; refine (iAddNumber g (flagB s) 1 base v1 L1 _ (by omega) (by omega) ((HF.out.cell (p := ⟨g, 0, none⟩) SG1).trans hc1) ((HF.out.frozen (p := ⟨g, 0, none⟩) SG1).trans hf1) (OB.below O1.out (Nat.le_refl _) HF.out) hgb (Nat.le_trans hbase1 HF.out.size) (by have := l1.out; omega)).mono ?_; rintro e w' ⟨rfl, v', hc', hf', ho', hw'⟩; rw [← E2.out] at ho'; have FIN : Hid (∃ v', w'.cell? ⟨g, 0, none⟩ = some v' ∧ w'.frozen? ⟨g, 0, none⟩ = false ∧ OB w' base v' L2 ∧ Wr W1 w' g v1 v') := ⟨v', hc', hf', ho', Wr.mono HF.out hw'⟩; clear hc' hf' ho' hw'))
    all_goals (go_wp2_with fail; go_meet; exact FIN.out)
  case rest =>
  rename World => W2
  obtain ⟨v2, hc2, hf2, ho, hw⟩ := hcut
  have B2 := hw.box B1 SH1 HG NE1.out
  have RL2 : Hid _ := RB.wr RL1.out hw (fun b off e hl => ⟨(HL.out b off e hl).1, ne_base O1.out (HL.out b off e hl).2⟩)
  have NE2 : Hid _ := hw.ne SH1 NE1.out
  have SH2 := Nat.lt_of_lt_of_le SH1 hw.size
  have SG2 := Nat.lt_of_lt_of_le SG1 hw.size
  have WW2 : Hid _ := WW1.out.trans hw
  have O2 : Hid _ := ho
  have hbase2 := Nat.le_trans hbase1 hw.size
  clear ho hw B1 RL1 NE1 SH1 SG1 WW1 O1 hbase1 hc1 hf1
  obtain ⟨L3, hM⟩ : ∃ L, L = L2 ++ beTo s.seq 2 2 := ⟨_, rfl⟩
  have E3 : Hid _ := hM
  have l3 : Hid (L3.length ≤ 1009) := by have := l2.out; rw [hM, List.length_append, beTo_length]; show _ ≤ _; omega
  clear hM
  go_wp2_with fail
  go_cut [] (fun wx => ∃ v', wx.cell? ⟨g, 0, none⟩ = some v' ∧ wx.frozen? ⟨g, 0, none⟩ = false ∧ OB wx base v' L3 ∧ Wr W2 wx g v2 v')
  case first =>
    go_region_with (first
        | (go_at_call 99; refine (iAddNumber g s.seq 2 base v2 L2 W2.drew (by omega) (by omega) hc2 hf2 (OB.below O2.out (Nat.le_refl _) (Below.drew (Below.refl _ _))) hgb hbase2 (by have := l2.out; omega)).mono ?_; rintro e w' ⟨rfl, v', hc', hf', ho', hw'⟩; rw [← E3.out] at ho'; have FIN : Hid (∃ v', w'.cell? ⟨g, 0, none⟩ = some v' ∧ w'.frozen? ⟨g, 0, none⟩ = false ∧ OB w' base v' L3 ∧ Wr W2 w' g v2 v') := ⟨v', hc', hf', ho', Wr.mono (Below.drew (Below.refl _ _)) hw'⟩; clear hc' hf' ho' hw'))
    all_goals (go_wp2_with fail; go_meet; exact FIN.out)
  case rest =>
  rename World => W3
  obtain ⟨v3, hc3, hf3, ho, hw⟩ := hcut
  have B3 := hw.box B2 SH2 HG NE2.out
  have RL3 : Hid _ := RB.wr RL2.out hw (fun b off e hl => ⟨(HL.out b off e hl).1, ne_base O2.out (HL.out b off e hl).2⟩)
  have NE3 : Hid _ := hw.ne SH2 NE2.out
  have SH3 := Nat.lt_of_lt_of_le SH2 hw.size
  have SG3 := Nat.lt_of_lt_of_le SG2 hw.size
  have WW3 : Hid _ := WW2.out.trans hw
  have O3 : Hid _ := ho
  have hbase3 := Nat.le_trans hbase2 hw.size
  clear ho hw B2 RL2 NE2 SH2 SG2 WW2 O2 hbase2 hc2 hf2
  obtain ⟨L4, hM⟩ : ∃ L, L = L3 ++ beTo s.ack 2 2 := ⟨_, rfl⟩
  have E4 : Hid _ := hM
  have l4 : Hid (L4.length ≤ 1012) := by have := l3.out; rw [hM, List.length_append, beTo_length]; show _ ≤ _; omega
  clear hM
  go_wp2_with fail
  go_cut [] (fun wx => ∃ v', wx.cell? ⟨g, 0, none⟩ = some v' ∧ wx.frozen? ⟨g, 0, none⟩ = false ∧ OB wx base v' L4 ∧ Wr W3 wx g v3 v')
  case first =>
    go_region_with (first
        | (go_at_call 99; refine (iAddNumber g s.ack 2 base v3 L3 W3.drew (by omega) (by omega) hc3 hf3 (OB.below O3.out (Nat.le_refl _) (Below.drew (Below.refl _ _))) hgb hbase3 (by have := l3.out; omega)).mono ?_; rintro e w' ⟨rfl, v', hc', hf', ho', hw'⟩; rw [← E4.out] at ho'; have FIN : Hid (∃ v', w'.cell? ⟨g, 0, none⟩ = some v' ∧ w'.frozen? ⟨g, 0, none⟩ = false ∧ OB w' base v' L4 ∧ Wr W3 w' g v3 v') := ⟨v', hc', hf', ho', Wr.mono (Below.drew (Below.refl _ _)) hw'⟩; clear hc' hf' ho' hw'))
    all_goals (go_wp2_with fail; go_meet; exact FIN.out)
  case rest =>
  rename World => W4
  obtain ⟨v4, hc4, hf4, ho, hw⟩ := hcut
  have B4 := hw.box B3 SH3 HG NE3.out
  have RL4 : Hid _ := RB.wr RL3.out hw (fun b off e hl => ⟨(HL.out b off e hl).1, ne_base O3.out (HL.out b off e hl).2⟩)
  have NE4 : Hid _ := hw.ne SH3 NE3.out
  have SH4 := Nat.lt_of_lt_of_le SH3 hw.size
  have SG4 := Nat.lt_of_lt_of_le SG3 hw.size
  have WW4 : Hid _ := WW3.out.trans hw
  have O4 : Hid _ := ho
  have hbase4 := Nat.le_trans hbase3 hw.size
  clear ho hw B3 RL3 NE3 SH3 SG3 WW3 O3 hbase3 hc3 hf3
  obtain ⟨L5, hM⟩ : ∃ L, L = L4 ++ beTo s.fin 2 2 := ⟨_, rfl⟩
  have E5 : Hid _ := hM
  have l5 : Hid (L5.length ≤ 1015) := by have := l4.out; rw [hM, List.length_append, beTo_length]; show _ ≤ _; omega
  clear hM
  go_wp2_with fail
  go_cut [] (fun wx => ∃ v', wx.cell? ⟨g, 0, none⟩ = some v' ∧ wx.frozen? ⟨g, 0, none⟩ = false ∧ OB wx base v' L5 ∧ Wr W4 wx g v4 v')
  case first =>
    go_region_with (first
        | (go_at_call 99; refine (iAddNumber g s.fin 2 base v4 L4 W4.drew (by omega) (by omega) hc4 hf4 (OB.below O4.out (Nat.le_refl _) (Below.drew (Below.refl _ _))) hgb hbase4 (by have := l4.out; omega)).mono ?_; rintro e w' ⟨rfl, v', hc', hf', ho', hw'⟩; rw [← E5.out] at ho'; have FIN : Hid (∃ v', w'.cell? ⟨g, 0, none⟩ = some v' ∧ w'.frozen? ⟨g, 0, none⟩ = false ∧ OB w' base v' L5 ∧ Wr W4 w' g v4 v') := ⟨v', hc', hf', ho', Wr.mono (Below.drew (Below.refl _ _)) hw'⟩; clear hc' hf' ho' hw'))
    all_goals (go_wp2_with fail; go_meet; exact FIN.out)
  case rest =>
  rename World => W5
  obtain ⟨v5, hc5, hf5, ho, hw⟩ := hcut
  have B5 := hw.box B4 SH4 HG NE4.out
  have RL5 : Hid _ := RB.wr RL4.out hw (fun b off e hl => ⟨(HL.out b off e hl).1, ne_base O4.out (HL.out b off e hl).2⟩)
  have NE5 : Hid _ := hw.ne SH4 NE4.out
  have SH5 := Nat.lt_of_lt_of_le SH4 hw.size
  have SG5 := Nat.lt_of_lt_of_le SG4 hw.size
  have WW5 : Hid _ := WW4.out.trans hw
  have O5 : Hid _ := ho
  have hbase5 := Nat.le_trans hbase4 hw.size
  clear ho hw B4 RL4 NE4 SH4 SG4 WW4 O4 hbase4 hc4 hf4
  obtain ⟨L6, hM⟩ : ∃ L, L = L5 ++ beTo s.opt 1 1 := ⟨_, rfl⟩
  have E6 : Hid _ := hM
  have l6 : Hid (L6.length ≤ 1018) := by have := l5.out; rw [hM, List.length_append, beTo_length]; show _ ≤ _; omega
  clear hM
  go_wp2_with fail
  go_cut [] (fun wx => ∃ v', wx.cell? ⟨g, 0, none⟩ = some v' ∧ wx.frozen? ⟨g, 0, none⟩ = false ∧ OB wx base v' L6 ∧ Wr W5 wx g v5 v')
  case first =>
    go_region_with (first
        | (go_at_call 99; refine (iAddNumber g s.opt 1 base v5 L5 W5.drew (by omega) (by omega) hc5 hf5 (OB.below O5.out (Nat.le_refl _) (Below.drew (Below.refl _ _))) hgb hbase5 (by have := l5.out; omega)).mono ?_; rintro e w' ⟨rfl, v', hc', hf', ho', hw'⟩; rw [← E6.out] at ho'; have FIN : Hid (∃ v', w'.cell? ⟨g, 0, none⟩ = some v' ∧ w'.frozen? ⟨g, 0, none⟩ = false ∧ OB w' base v' L6 ∧ Wr W5 w' g v5 v') := ⟨v', hc', hf', ho', Wr.mono (Below.drew (Below.refl _ _)) hw'⟩; clear hc' hf' ho' hw'))
    all_goals (go_wp2_with fail; go_meet; exact FIN.out)
  case rest =>
  rename World => W6
  obtain ⟨v6, hc6, hf6, ho, hw⟩ := hcut
  have B6 := hw.box B5 SH5 HG NE5.out
  have RL6 : Hid _ := RB.wr RL5.out hw (fun b off e hl => ⟨(HL.out b off e hl).1, ne_base O5.out (HL.out b off e hl).2⟩)
  have NE6 : Hid _ := hw.ne SH5 NE5.out
  have SH6 := Nat.lt_of_lt_of_le SH5 hw.size
  have SG6 := Nat.lt_of_lt_of_le SG5 hw.size
  have WW6 : Hid _ := WW5.out.trans hw
  have O6 : Hid _ := ho
  have hbase6 := Nat.le_trans hbase5 hw.size
  clear ho hw B5 RL5 NE5 SH5 SG5 WW5 O5 hbase5 hc5 hf5
  obtain ⟨L7, hM⟩ : ∃ L, L = L6 ++ beTo s.a 3 3 := ⟨_, rfl⟩
  have E7 : Hid _ := hM
  have l7 : Hid (L7.length ≤ 1021) := by have := l6.out; rw [hM, List.length_append, beTo_length]; show _ ≤ _; omega
  clear hM
  go_wp2_with fail
  go_cut [] (fun wx => ∃ v', wx.cell? ⟨g, 0, none⟩ = some v' ∧ wx.frozen? ⟨g, 0, none⟩ = false ∧ OB wx base v' L7 ∧ Wr W6 wx g v6 v')
  case first =>
    go_region_with (first
        | (go_at_call 99; refine (iAddNumber g s.a 3 base v6 L6 W6.drew (by omega) (by omega) hc6 hf6 (OB.below O6.out (Nat.le_refl _) (Below.drew (Below.refl _ _))) hgb hbase6 (by have := l6.out; omega)).mono ?_; rintro e w' ⟨rfl, v', hc', hf', ho', hw'⟩; rw [← E7.out] at ho'; have FIN : Hid (∃ v', w'.cell? ⟨g, 0, none⟩ = some v' ∧ w'.frozen? ⟨g, 0, none⟩ = false ∧ OB w' base v' L7 ∧ Wr W6 w' g v6 v') := ⟨v', hc', hf', ho', Wr.mono (Below.drew (Below.refl _ _)) hw'⟩; clear hc' hf' ho' hw'))
    all_goals (go_wp2_with fail; go_meet; exact FIN.out)
  case rest =>
  rename World => W7
  obtain ⟨v7, hc7, hf7, ho, hw⟩ := hcut
  have B7 := hw.box B6 SH6 HG NE6.out
  have RL7 : Hid _ := RB.wr RL6.out hw (fun b off e hl => ⟨(HL.out b off e hl).1, ne_base O6.out (HL.out b off e hl).2⟩)
  have NE7 : Hid _ := hw.ne SH6 NE6.out
  have SH7 := Nat.lt_of_lt_of_le SH6 hw.size
  have SG7 := Nat.lt_of_lt_of_le SG6 hw.size
  have WW7 : Hid _ := WW6.out.trans hw
  have O7 : Hid _ := ho
  have hbase7 := Nat.le_trans hbase6 hw.size
  clear ho hw B6 RL6 NE6 SH6 SG6 WW6 O6 hbase6 hc6 hf6
  obtain ⟨L8, hM⟩ : ∃ L, L = L7 ++ beTo s.b 3 3 := ⟨_, rfl⟩
  have E8 : Hid _ := hM
  have l8 : Hid (L8.length ≤ 1024) := by have := l7.out; rw [hM, List.length_append, beTo_length]; show _ ≤ _; omega
  clear hM
  go_wp2_with fail
  go_cut [] (fun wx => ∃ v', wx.cell? ⟨g, 0, none⟩ = some v' ∧ wx.frozen? ⟨g, 0, none⟩ = false ∧ OB wx base v' L8 ∧ Wr W7 wx g v7 v')
  case first =>
    go_region_with (first
        | (go_at_call 99; refine (iAddNumber g s.b 3 base v7 L7 W7.drew (by omega) (by omega) hc7 hf7 (OB.below O7.out (Nat.le_refl _) (Below.drew (Below.refl _ _))) hgb hbase7 (by have := l7.out; omega)).mono ?_; rintro e w' ⟨rfl, v', hc', hf', ho', hw'⟩; rw [← E8.out] at ho'; have FIN : Hid (∃ v', w'.cell? ⟨g, 0, none⟩ = some v' ∧ w'.frozen? ⟨g, 0, none⟩ = false ∧ OB w' base v' L8 ∧ Wr W7 w' g v7 v') := ⟨v', hc', hf', ho', Wr.mono (Below.drew (Below.refl _ _)) hw'⟩; clear hc' hf' ho' hw'))
    all_goals (go_wp2_with fail; go_meet; exact FIN.out)
  case rest =>
  rename World => W8
  obtain ⟨v8, hc8, hf8, ho, hw⟩ := hcut
  have B8 := hw.box B7 SH7 HG NE7.out
  have RL8 : Hid _ := RB.wr RL7.out hw (fun b off e hl => ⟨(HL.out b off e hl).1, ne_base O7.out (HL.out b off e hl).2⟩)
  have NE8 : Hid _ := hw.ne SH7 NE7.out
  have SH8 := Nat.lt_of_lt_of_le SH7 hw.size
  have SG8 := Nat.lt_of_lt_of_le SG7 hw.size
  have WW8 : Hid _ := WW7.out.trans hw
  have O8 : Hid _ := ho
  have hbase8 := Nat.le_trans hbase7 hw.size
  clear ho hw B7 RL7 NE7 SH7 SG7 WW7 O7 hbase7 hc7 hf7
  obtain ⟨L9, hM⟩ : ∃ L, L = L8 ++ beTo (n : Int) 1 1 := ⟨_, rfl⟩
  have E9 : Hid _ := hM
  have l9 : Hid (L9.length ≤ 1027) := by have := l8.out; rw [hM, List.length_append, beTo_length]; show _ ≤ _; omega
  clear hM
  go_wp2_with fail
  go_cut [] (fun wx => ∃ v', wx.cell? ⟨g, 0, none⟩ = some v' ∧ wx.frozen? ⟨g, 0, none⟩ = false ∧ OB wx base v' L9 ∧ Wr W8 wx g v8 v')
  case first =>
    go_region_with (first
        | (go_at_call 99; refine (iAddNumber g (n : Int) 1 base v8 L8 W8.drew (by omega) (by omega) hc8 hf8 (OB.below O8.out (Nat.le_refl _) (Below.drew (Below.refl _ _))) hgb hbase8 (by have := l8.out; omega)).mono ?_; rintro e w' ⟨rfl, v', hc', hf', ho', hw'⟩; rw [← E9.out] at ho'; have FIN : Hid (∃ v', w'.cell? ⟨g, 0, none⟩ = some v' ∧ w'.frozen? ⟨g, 0, none⟩ = false ∧ OB w' base v' L9 ∧ Wr W8 w' g v8 v') := ⟨v', hc', hf', ho', Wr.mono (Below.drew (Below.refl _ _)) hw'⟩; clear hc' hf' ho' hw'))
    all_goals (go_wp2_with fail; go_meet; exact FIN.out)
  case rest =>
  rename World => W9
  obtain ⟨v9, hc9, hf9, ho, hw⟩ := hcut
  have B9 := hw.box B8 SH8 HG NE8.out
  have RL9 : Hid _ := RB.wr RL8.out hw (fun b off e hl => ⟨(HL.out b off e hl).1, ne_base O8.out (HL.out b off e hl).2⟩)
  have NE9 : Hid _ := hw.ne SH8 NE8.out
  have SH9 := Nat.lt_of_lt_of_le SH8 hw.size
  have SG9 := Nat.lt_of_lt_of_le SG8 hw.size
  have WW9 : Hid _ := WW8.out.trans hw
  have O9 : Hid _ := ho
  have hbase9 := Nat.le_trans hbase8 hw.size
  clear ho hw B8 RL8 NE8 SH8 SG8 WW8 O8 hbase8 hc8 hf8
  obtain ⟨L10, hM⟩ : ∃ L, L = L9 ++ s.load := ⟨_, rfl⟩
  have E10 : Hid _ := hM
  have l10 : Hid (L10.length ≤ 2000000) := by have := l9.out; rw [hM, List.length_append]; show _ ≤ _; omega
  clear hM
  have e : Hid (L10 = bodyB s) := by
    have K := HK.out
    have kf := flagB_bd s
    rw [E10.out, E9.out, E8.out, E7.out, E6.out, E5.out, E4.out, E3.out, E2.out, E1.out, E0.out, be1 (n := s.path * 2 + s.frm) (by omega), be1 (n := flagB s) (by omega), be1 (n := s.opt) (by have := K.opt; omega), be1 (n := (n : Int)) (by omega), bodyB, hl]
    show _ = _
    simp [List.append_assoc]
  go_wp2_with fail
  go_region_with (first
        | (go_at_call 101; refine (iAddBytes g a n cap s.load base v9 L9 W9.drew hl (RB.below RL9.out (Nat.le_refl _) (Below.drew (Below.refl _ _))) HN.out hn hc9 hf9 (OB.below O9.out (Nat.le_refl _) (Below.drew (Below.refl _ _))) hgb hbase9 (by have := l9.out; omega)).mono ?_; rintro e w' ⟨rfl, v', hc', hf', ho', hw'⟩; rw [← E10.out] at ho'; have FIN : Hid (∃ v', w'.cell? ⟨g, 0, none⟩ = some v' ∧ w'.frozen? ⟨g, 0, none⟩ = false ∧ OB w' base v' L10 ∧ Wr W9 w' g v9 v') := ⟨v', hc', hf', ho', Wr.mono (Below.drew (Below.refl _ _)) hw'⟩; clear hc' hf' ho' hw'))
  all_goals (obtain ⟨v10, hc10, hf10, ho10, hw10⟩ := FIN.out; rw [e.out] at ho10; have O10 : Hid _ := ho10; have WW10 : Hid _ := WW9.out.trans hw10; clear ho10 hw10 FIN; go_wp2_with fail; exact ⟨rfl, .tuple #[], by simp [results, Try.results66], rfl, v10, hc10, hf10, O10.out, WW10.out⟩)

set_option maxRecDepth 8000 in
set_option maxHeartbeats 1000000 in
theorem iAddSum (g : Nat) (base : Nat) (v : Value) (l : List Int) (w : World) (hc : w.cell? ⟨g, 0, none⟩ = some v) (hf : w.frozen? ⟨g, 0, none⟩ = false) (ho : OB w base v l) (hgb : g < base) (hbase : base ≤ w.heap.size) (hl : l.length ≤ 10000000) :
    Calls Try.prog 67 #[.pointer (some ⟨g, 0, none⟩)] w fun e w' => e = .returned (.tuple #[]) ∧ ∃ v', w'.cell? ⟨g, 0, none⟩ = some v' ∧ w'.frozen? ⟨g, 0, none⟩ = false ∧ OB w' base v' (l ++ beTo (sumB l) 2 2) ∧ Wr w w' g v v' := by
  obtain ⟨a5, c5, rfl, hr, -⟩ := ho.rbn
  have O : Hid _ := ho
  have R : Hid _ := hr
  clear ho hr
  go_enter Try.func67, Try.ntmps67
  go_wp2_with fail
  go_region_with (first
      | (go_at_call 63; refine (iSumBytes a5 l.length c5 l w.drew rfl (RB.below R.out (Nat.le_refl _) (Below.drew (Below.refl _ _))) (by omega)).mono ?_; rintro e w1 ⟨rfl, hw⟩; subst w1)
      | (go_at_call 99; refine (iAddNumber g (sumB l) 2 base (.slice a5 l.length c5) l w.drew (by omega) (by omega) hc hf (OB.below O.out (Nat.le_refl _) (Below.drew (Below.refl _ _))) hgb hbase hl).mono ?_; rintro e w' ⟨rfl, v', hc', hf', ho', hw'⟩; have FIN : Hid (∃ v', w'.cell? ⟨g, 0, none⟩ = some v' ∧ w'.frozen? ⟨g, 0, none⟩ = false ∧ OB w' base v' (l ++ beTo (sumB l) 2 2) ∧ Wr w w' g (.slice a5 l.length c5) v') := ⟨v', hc', hf', ho', Wr.mono (Below.drew (Below.refl _ _)) hw'⟩; clear hc' hf' ho' hw'))
  all_goals (go_wp2_with fail; exact ⟨rfl, .tuple #[], by simp [results, Try.results67], rfl, FIN.out⟩)
end Go.Proofs.Ytmiomnpfjigojaa
