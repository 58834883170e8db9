/- l8Ack and AckSub of the model where an ack tells a code: that code; nothing that was in memory turns; no condition but that a sub has at most a million parts. Written by mksubs2.py. -/
import Derived.Test.YtebgibjokljlbaaRows
import Derived.Deep.RegionHeld3
import Derived.Deep.MidRow
import Derived.Test.YtebgibjokljlbaaS01
import Derived.Test.YtebgibjokljlbaaS03
import Derived.Test.YtebgibjokljlbaaS04
import Derived.Test.YtebgibjokljlbaaS05
import Derived.Test.YtebgibjokljlbaaS08
import Derived.Test.YtebgibjokljlbaaS11
import Derived.Test.YtebgibjokljlbaaS14
import Derived.Test.YtebgibjokljlbaaS18
import Derived.Test.YtebgibjokljlbaaS21
import Derived.Test.YtebgibjokljlbaaS23
import Derived.Test.YtebgibjokljlbaaS25
import Derived.Test.YtebgibjokljlbaaS35
import Derived.Test.YtebgibjokljlbaaS36
import Derived.Test.YtebgibjokljlbaaS39
namespace Go.Proofs.Ytebgibjokljlbaa
open Go.RowKit
set_option linter.unusedVariables false
set_option linter.unusedSimpArgs false
set_option maxRecDepth 8000
theorem own_flsM {w : World} {lo hi : Nat} {y0 y1 y2 : Int} {l : List DFlight} {c0 c1 c2 v : Value} {u : Unit} (h : Own w lo hi shSender (y0, y1, y2, l, u) [c0, c1, c2, v]) : Own w lo hi shFlights l [v] := by
  obtain ⟨bs, h1, h2, h3⟩ := h
  obtain ⟨vv, ev, hk, -⟩ := ow_Sender h1
  simp only [List.cons.injEq, and_true] at ev
  rw [ev.2.2.2]
  exact ⟨bs, hk, h2, h3⟩
set_option maxHeartbeats 8000000 in
theorem sL8AckNo (y0 y1 : Int) (y2 : Bool) (y3 y4 y5 s0 s1 s2 c0 c1 k0 k1 k2 : Int) (fl : List DFlight) (sp : List DSpan) (ua : Option Addr) (fn uc : Nat) (va : Option Addr) (sn vc : Nat) (ack : Int) (l : List Int) (la : Option Addr) (lc sb lo hi : Nat) (w : World)
    (hc : ∀ o, w.cell? ⟨sb, o, none⟩ = (#[.int .i64 y0, .int .i64 y1, .bool y2, .int .i64 y3, .int .i64 y4, .int .i64 y5, .int .i64 s0, .int .i64 s1, .int .i64 s2, .slice ua fn uc, .int .i64 c0, .int .i64 c1, .slice va sn vc, .int .i64 k0, .int .i64 k1, .int .i64 k2] : Array Value)[o]?) (hf : ∀ o, w.frozen? ⟨sb, o, none⟩ = false) (ho : Own w lo hi shFlights fl [.slice ua fn uc]) (hfn : fl.length = fn) (hlo : lo ≤ hi) (hhi : hi ≤ sb) (hz : sb < w.heap.size) (hF : subF (y0, y1, y2, y3, y4, y5, (s0, s1, s2, fl, ()), (c0, c1, sp, ()), (k0, k1, k2, ()), ()) = 0) (hl : ∀ W, Below sb w W → RI W la l) (hn : l.length ≤ 1048576) (hne : ¬ akC (y0, y1, y2, y3, y4, y5, (s0, s1, s2, fl, ()), (c0, c1, sp, ()), (k0, k1, k2, ()), ()) ack l = 0) :
    Calls Try.prog 84 #[.pointer (some ⟨sb, 0, none⟩), .int .i64 ack, .slice la l.length lc] w fun e w' => e = .returned (.int .i64 (akC (y0, y1, y2, y3, y4, y5, (s0, s1, s2, fl, ()), (c0, c1, sp, ()), (k0, k1, k2, ()), ()) ack l)) ∧ Below sb w w' := by
  obtain ⟨h1, h2, h3, h4, h5⟩ := sub_ok hF
  have hsn0 : sndFault (s0, s1, s2, fl, ()) = 0 := h2
  obtain ⟨q1, q2⟩ := inD_yes (snd_ok hsn0).2.1
  obtain ⟨q3, q4⟩ := inD_yes (snd_ok hsn0).2.2.1
  replace q2 : s1 ≤ 1000000 := q2
  replace q3 : 0 ≤ s2 := q3
  have q5 : s1 ≤ s2 + 96 := snd_few hsn0
  clear q1 q4 h1 h2 h3 h4 h5
  have hA5 := sL5Ack6 (.int .i64 y0) (.int .i64 y1) (.bool y2) (.int .i64 y3) (.int .i64 y4) (.int .i64 y5) (.int .i64 c0) (.int .i64 c1) (.slice va sn vc) (.int .i64 k0) (.int .i64 k1) (.int .i64 k2) (s0, s1, s2, fl, ()) ua fn uc sb ack w lo hi hsn0 hfn hc hf ho hlo (by omega) (by omega)
  have hC0 : ackC (s0, s1, s2, fl, ()) ack = ackC0 (s0, s1, s2, fl, ()) ack := by unfold ackC; rw [if_pos hsn0]
  obtain ⟨A, hA⟩ : ∃ A, ackC0 (s0, s1, s2, fl, ()) ack = A := ⟨_, rfl⟩
  obtain ⟨T, hT⟩ : ∃ T, ackD (s0, s1, s2, fl, ()) ack = T := ⟨_, rfl⟩
  rw [hA] at hC0
  have hV : A = 0 → ackV (s0, s1, s2, fl, ()) ack = T := fun h => by rw [← hT]; unfold ackV ackD; rw [if_pos (hC0.trans h), if_pos (hA.trans h)]
  have hup : A = 0 → s2 ≤ T.2.2.1 ∧ T.2.2.1 ≤ s1 := fun h => by have q := ack_up (hC0.trans h); rw [hV h] at q; exact ⟨q.2.2.1, q.2.2.2.1⟩
  have hAK : akC (y0, y1, y2, y3, y4, y5, (s0, s1, s2, fl, ()), (c0, c1, sp, ()), (k0, k1, k2, ()), ()) ack l = if A = 0 then (if 0 < T.2.2.1 - s2 then grC k0 k1 k2 (min (T.2.2.1 - s2) 1000) l else 0) else A := by
    unfold akC; rw [if_pos hF]
    show (if ackC (s0, s1, s2, fl, ()) ack = 0 then (if 0 < (ackV (s0, s1, s2, fl, ()) ack).2.2.1 - s2 then grC k0 k1 k2 (min ((ackV (s0, s1, s2, fl, ()) ack).2.2.1 - s2) 1000) l else 0) else ackC (s0, s1, s2, fl, ()) ack) = _
    rw [hC0]
    by_cases h : A = 0
    · rw [if_pos h, if_pos h, hV h]
    · rw [if_neg h, if_neg h]
  rw [hA, hT] at hA5
  generalize akC (y0, y1, y2, y3, y4, y5, (s0, s1, s2, fl, ()), (c0, c1, sp, ()), (k0, k1, k2, ()), ()) ack l = CC at hAK hne ⊢
  obtain ⟨t0, t1, t2, tl, ⟨⟩⟩ := T
  simp only at hA5 hAK hup
  obtain ⟨n, hn0⟩ : ∃ n : Int, n = t2 - s2 := ⟨_, rfl⟩
  rw [← hn0] at hAK
  have HG : Hid (0 ≤ n → n ≤ 96 → grC k0 k1 k2 n l ≠ 0 → ∀ W, Below sb w W → Calls Try.prog 125 #[.agg #[.int .i64 k0, .int .i64 k1, .int .i64 k2], .int .i64 n, .slice la l.length lc] W fun e w' => e = .returned (.agg #[.int .i64 (grC k0 k1 k2 n l), .int .i64 0, .int .i64 0, .int .i64 0]) ∧ Below W.heap.size W w') := fun _ _ h W hW => sGrowCode k0 k1 k2 n l la l.length lc W rfl (hl W hW) (by omega) h
  have HA5 : Hid (∀ _ : Unit, Calls Try.prog 124 #[.pointer (some ⟨sb, 6, none⟩), .int .i64 ack] w fun e w' => e = .returned (.int .i64 A) ∧ ∃ va' vn' vc', (∀ o, w'.cell? ⟨sb, o, none⟩ = (#[.int .i64 y0, .int .i64 y1, .bool y2, .int .i64 y3, .int .i64 y4, .int .i64 y5, .int .i64 s0, .int .i64 s1, .int .i64 t2, .slice va' vn' vc', .int .i64 c0, .int .i64 c1, .slice va sn vc, .int .i64 k0, .int .i64 k1, .int .i64 k2] : Array Value)[o]?) ∧ Below sb w w') := fun _ => hA5.mono (by rintro e w' ⟨he, va', vn', vc', h1, -, -, -, hb⟩; exact ⟨he, va', vn', vc', h1, by rw [Nat.min_eq_right (Nat.le_of_lt hz)] at hb; exact hb⟩)
  have HAK : Hid _ := hAK
  have HUP : Hid _ := hup
  have hp8 : w.cell? ⟨sb, 8, none⟩ = some (.int .i64 s2) := hc 8
  clear hA5 hAK hup hV hC0 hA hT hF hsn0 hl hc hf ho hfn
  generalize l.length = ln at *
  go_enter Try.func84, Try.ntmps84
  go_wp2_with fail
  refine (HA5.out ()).mono ?_
  rintro e w1 ⟨rfl, va', vn', vc', kP, hb⟩
  clear HA5 hp8
  have HB : Hid (Below sb w w1) := hb
  have zP : sb < w1.heap.size := Nat.lt_of_lt_of_le hz hb.size
  clear hb
  by_cases hA0 : A = 0
  case neg =>
    have hA' : (A != 0) = true := by simp [hA0]
    have hC := HAK.out
    rw [if_neg hA0] at hC
    subst hC
    go_wp2_with fail
    go_ret
    exact ⟨rfl, HB.out⟩
  have hC := HAK.out
  rw [if_pos hA0] at hC
  obtain ⟨u3, u4⟩ := HUP.out hA0
  subst hA0
  have hpos : 0 < n := by
    apply Classical.byContradiction
    intro h
    rw [if_neg h] at hC
    exact hne hC
  have hw : IntKind.i64.wrap (t2 - s2) = n := by rw [hn0, IntKind.wrap_i64]; omega
  have hn96 : n ≤ 96 := by omega
  have hmn : min n 1000 = n := by omega
  have hmj : min 1000 n = n := by omega
  rw [if_pos hpos, hmn] at hC
  have HGW := HG.out (by omega) hn96 (by rw [← hC]; exact hne)
  rw [← hC] at HGW
  have HGX : Hid _ := HGW
  have HMJ : Hid (min 1000 n = n) := hmj
  have hne' : (CC != 0) = true := by simp [hne]
  clear hC HG HGW hmn hmj hn96 hn0 u3 u4 q2 q3 q5 HAK HUP hne
  go_upto_region 7 with fail
  have p13 : w1.cell? ⟨sb, 13, none⟩ = some (.int .i64 k0) := kP 13
  have p14 : w1.cell? ⟨sb, 14, none⟩ = some (.int .i64 k1) := kP 14
  have p15 : w1.cell? ⟨sb, 15, none⟩ = some (.int .i64 k2) := kP 15
  clear kP
  have zle : sb ≤ w1.heap.size := Nat.le_of_lt zP
  have hnz1 : w1.heap.size ≠ sb := by omega
  have hnz2 : sb ≠ w1.heap.size := by omega
  go_region_held3 (fun w' => w'.cell? ⟨sb, 13, none⟩ = some (.int .i64 k0) ∧ w'.cell? ⟨sb, 14, none⟩ = some (.int .i64 k1) ∧ w'.cell? ⟨sb, 15, none⟩ = some (.int .i64 k2)) (first | go_keep) ((first | (go_at_call 40; refine (sMinC _ _ _).mono ?_; rintro e w' ⟨rfl, hw'⟩; subst w'; rw [HMJ.out]) | (go_at_call 125; (first | (refine (HGX.out _ (HB.out.trans (Below.drew (Below.refl _ _)))).mono ?_; rintro e w2 ⟨rfl, hb2⟩; have HBx : Hid (Below sb w w2) := HB.out.trans ((Below.drew (Below.refl _ _)).trans (hb2.mono zle)); have zx : w1.heap.size ≤ w2.heap.size := hb2.size; have pp13 := (hb2.cell (p := ⟨sb, 13, none⟩) zP).trans p13; have pp14 := (hb2.cell (p := ⟨sb, 14, none⟩) zP).trans p14; have pp15 := (hb2.cell (p := ⟨sb, 15, none⟩) zP).trans p15; clear hb2) | (refine (HGX.out _ (HB.out.trans ((Below.refl _ _).alloc zle _).drew)).mono ?_; rintro e w2 ⟨rfl, hb2⟩; have HBx : Hid (Below sb w w2) := HB.out.trans ((((Below.refl sb w1).alloc zle _).drew).trans (hb2.mono (by simp <;> omega))); have kr : ∀ o, w2.cell? ⟨w1.heap.size, o, none⟩ = (#[.int .i64 0, .int .i64 0, .int .i64 0, .int .i64 0] : Array Value)[o]? := (fun o => (hb2.cell (p := ⟨w1.heap.size, o, none⟩) (by simp)).trans (by simp [go_sem])); have fr : ∀ o, w2.frozen? ⟨w1.heap.size, o, none⟩ = false := (fun o => (hb2.frozen (p := ⟨w1.heap.size, o, none⟩) (by simp)).trans (by simp [go_sem])); have zx : w1.heap.size < w2.heap.size := (by have h := hb2.size; simp at h; omega); have pp13 := ((hb2.cell (p := ⟨sb, 13, none⟩) (by simp <;> omega)).trans (((Below.refl w1.heap.size w1).alloc (Nat.le_refl _) _).cell (p := ⟨sb, 13, none⟩) zP)).trans p13; have pp14 := ((hb2.cell (p := ⟨sb, 14, none⟩) (by simp <;> omega)).trans (((Below.refl w1.heap.size w1).alloc (Nat.le_refl _) _).cell (p := ⟨sb, 14, none⟩) zP)).trans p14; have pp15 := ((hb2.cell (p := ⟨sb, 15, none⟩) (by simp <;> omega)).trans (((Below.refl w1.heap.size w1).alloc (Nat.le_refl _) _).cell (p := ⟨sb, 15, none⟩) zP)).trans p15; clear hb2)))))
  all_goals (go_wp2_with fail; go_ret; refine ⟨rfl, ?_⟩; have hB1 := HBx.out; clear HB; go_grown)
set_option maxHeartbeats 8000000 in
theorem sAckNo (x : DSub) (A : Array Value) (ack : Int) (l : List Int) (la : Option Addr) (lc : Nat) (w : World) (B : Nat) (hr : shSub.Rd w B x A.toList) (hB : B ≤ w.heap.size) (hT : totSub x ≤ 1048576) (hl : RI w la l) (hn : l.length ≤ 1048576) (hne : ¬ akC x ack l = 0) :
    Calls Try.prog 32 #[.agg A, .int .i64 ack, .slice la l.length lc] w fun e w' => ∃ T : List Value, T.length = 16 ∧ e = .returned (.agg (.int .i64 (akC x ack l) :: T).toArray) ∧ Below w.heap.size w w' := by
  obtain ⟨y0, y1, y2, y3, y4, y5, s0, s1, s2, fl, c0, c1, sp, k0, k1, k2, ua, uc, va, vc, rfl, e, rs0, rc0, hwf⟩ := sub_lit hr
  have eA := arr_of e
  subst eA
  clear e hr
  obtain ⟨q1, e1, rs, -⟩ := rd_Sender rs0
  obtain ⟨q2, e2, rc, -⟩ := rd_Catch rc0
  simp only [List.cons.injEq, and_true, true_and] at e1 e2
  subst e1 e2
  replace rs : shFlights.Rd w B fl [.slice ua fl.length uc] := rs
  replace rc : shSpans.Rd w B sp [.slice va sp.length vc] := rc
  obtain ⟨fn, hfn⟩ : ∃ n, fl.length = n := ⟨_, rfl⟩
  obtain ⟨sn, hsn⟩ : ∃ n, sp.length = n := ⟨_, rfl⟩
  rw [hfn] at rs rs0 ⊢
  rw [hsn] at rc rc0 ⊢
  have HC : Hid (∀ W sb, Below w.heap.size w W → (∀ o, W.cell? ⟨sb, o, none⟩ = (#[.int .i64 y0, .int .i64 y1, .bool y2, .int .i64 y3, .int .i64 y4, .int .i64 y5, .int .i64 s0, .int .i64 s1, .int .i64 s2, .slice ua fn uc, .int .i64 c0, .int .i64 c1, .slice va sn vc, .int .i64 k0, .int .i64 k1, .int .i64 k2] : Array Value)[o]?) → Calls Try.prog 81 #[.pointer (some ⟨sb, 0, none⟩)] W fun e w' => e = .returned (.int .i64 (subF (y0, y1, y2, y3, y4, y5, (s0, s1, s2, fl, ()), (c0, c1, sp, ()), (k0, k1, k2, ()), ()))) ∧ Below W.heap.size W w') :=
    fun W sb hW hc => sL8Fault y0 y1 y2 y3 y4 y5 s0 s1 s2 fl c0 c1 sp k0 k1 k2 ua fn uc va sn vc sb 0 W B hfn hsn (fun j _ => by rw [Nat.zero_add]; exact hc j) (rs.below hB hW) (rc.below hB hW) (Nat.le_trans hB hW.size) hT
  have HCC : Hid (¬ subF (y0, y1, y2, y3, y4, y5, (s0, s1, s2, fl, ()), (c0, c1, sp, ()), (k0, k1, k2, ()), ()) = 0 → akC (y0, y1, y2, y3, y4, y5, (s0, s1, s2, fl, ()), (c0, c1, sp, ()), (k0, k1, k2, ()), ()) ack l = subF (y0, y1, y2, y3, y4, y5, (s0, s1, s2, fl, ()), (c0, c1, sp, ()), (k0, k1, k2, ()), ())) := fun h => by unfold akC; rw [if_neg h]
  by_cases hF : subF (y0, y1, y2, y3, y4, y5, (s0, s1, s2, fl, ()), (c0, c1, sp, ()), (k0, k1, k2, ()), ()) = 0
  case neg =>
    rw [HCC.out hF]
    clear HCC rs0 rc0 rs rc hwf hl hne hT
    generalize subF (y0, y1, y2, y3, y4, y5, (s0, s1, s2, fl, ()), (c0, c1, sp, ()), (k0, k1, k2, ()), ()) = CC at *
    have hF' : (CC != 0) = true := by simp [hF]
    go_enter Try.func32, Try.ntmps32
    go_wp2_with fail
    refine (HC.out _ w.heap.size (by go_grown) (fun o => by simp [go_sem])).mono ?_
    rintro e w1 ⟨rfl, hb⟩
    obtain ⟨bR, hbR⟩ : ∃ q, q = w.heap.size + 1 := ⟨_, rfl⟩
    have kR : ∀ o, w1.cell? ⟨bR, o, none⟩ = (#[.int .i64 0, .int .i64 0, .int .i64 0, .bool false, .int .i64 0, .int .i64 0, .int .i64 0, .int .i64 0, .int .i64 0, .int .i64 0, .slice none 0 0, .int .i64 0, .int .i64 0, .slice none 0 0, .int .i64 0, .int .i64 0, .int .i64 0] : Array Value)[o]? := fun o => by rw [hbR, hb.cell (p := ⟨w.heap.size + 1, o, none⟩) (by simp)]; simp [go_sem]
    have fR : ∀ o, w1.frozen? ⟨bR, o, none⟩ = false := fun o => by rw [hbR, hb.frozen (p := ⟨w.heap.size + 1, o, none⟩) (by simp)]; simp [go_sem]
    have zR : bR < w1.heap.size := by have := hb.size; simp at this; omega
    have lwR : w.heap.size ≤ bR := by omega
    have HB : Hid (Below w.heap.size w w1) := Below.trans (by go_grown) (hb.mono (by simp; omega))
    clear hb HC
    rw [← hbR]
    clear hbR
    obtain ⟨N, hN⟩ : ∃ N : Array Value, N = #[.int .i64 CC, .int .i64 0, .int .i64 0, .bool false, .int .i64 0, .int .i64 0, .int .i64 0, .int .i64 0, .int .i64 0, .int .i64 0, .slice none 0 0, .int .i64 0, .int .i64 0, .slice none 0 0, .int .i64 0, .int .i64 0, .int .i64 0] := ⟨_, rfl⟩
    have HN : Hid _ := hN
    have hNz : N.size = 17 := by rw [hN]; rfl
    have HTH : Hid (w1.there bR 0 N.size) := bx_there kR fR (by rw [hNz]; rfl)
    have HI17 : Hid ((Try.prog.info? 69).map (·.size) = some N.size) := by show _ = _; rw [hNz]; exact (by kernel_rfl : (Try.prog.info? 69).map (·.size) = some 17)
    have HONE : Hid (N.all (·.oneCell') = true) := by show _ = _; rw [hN]; simp [Value.oneCell']
    have HJ : Hid (∀ o, (w1.setCells bR 0 N.toList).cell? ⟨bR, o, none⟩ = N[o]?) := bx_setCells kR (by rw [hNz]; rfl)
    have HX : Hid (Below w.heap.size w (w1.setCells bR 0 N.toList)) := setCells_below lwR _ _ _ _ HB.out
    clear hN hNz
    clear HB kR fR
    go_wp2_with (refine wpList_store_mid rfl 69 _ _ rfl _ _ N (by rfl) (by rw [HN.out]; rfl) HTH.out HI17.out HONE.out ?_)
    refine bodyPost_ret (results_box Try.results32 _ _ _ N _ (by rfl) HJ.out Try.underlying69 rfl HI17.out) rfl ⟨[.int .i64 0, .int .i64 0, .bool false, .int .i64 0, .int .i64 0, .int .i64 0, .int .i64 0, .int .i64 0, .int .i64 0, .slice none 0 0, .int .i64 0, .int .i64 0, .slice none 0 0, .int .i64 0, .int .i64 0, .int .i64 0], rfl, by rw [HN.out], HX.out⟩
  have HCS : Hid (∀ W, Below w.heap.size w W → Calls Try.prog 82 #[.agg #[.int .i64 y0, .int .i64 y1, .bool y2, .int .i64 y3, .int .i64 y4, .int .i64 y5, .int .i64 s0, .int .i64 s1, .int .i64 s2, .slice ua fn uc, .int .i64 c0, .int .i64 c1, .slice va sn vc, .int .i64 k0, .int .i64 k1, .int .i64 k2]] W fun e w' => ∃ qa qc ra rc m, e = .returned (.agg #[.int .i64 y0, .int .i64 y1, .bool y2, .int .i64 y3, .int .i64 y4, .int .i64 y5, .int .i64 s0, .int .i64 s1, .int .i64 s2, .slice qa fn qc, .int .i64 c0, .int .i64 c1, .slice ra sn rc, .int .i64 k0, .int .i64 k1, .int .i64 k2]) ∧ SubOw w' W.heap.size w'.heap.size fl sp s0 s1 s2 c0 c1 qa fn qc ra sn rc m ∧ Below W.heap.size W w') := fun W hW => sL8Copy y0 y1 y2 y3 y4 y5 s0 s1 s2 c0 c1 k0 k1 k2 fl sp ua fn uc va sn vc W B ((SubIn.of rs0 rc0 hfn hsn hB (sub_ok hF).2.1 (sub_ok hF).2.2.1).below hW)
  have HAP : Hid (∀ (W : World) (qa : Option Addr) (qc : Nat) (ra : Option Addr) (rc sb lo hi : Nat), Below w.heap.size w W → w.heap.size ≤ sb → (∀ o, W.cell? ⟨sb, o, none⟩ = (#[.int .i64 y0, .int .i64 y1, .bool y2, .int .i64 y3, .int .i64 y4, .int .i64 y5, .int .i64 s0, .int .i64 s1, .int .i64 s2, .slice qa fn qc, .int .i64 c0, .int .i64 c1, .slice ra sn rc, .int .i64 k0, .int .i64 k1, .int .i64 k2] : Array Value)[o]?) → (∀ o, W.frozen? ⟨sb, o, none⟩ = false) → Own W lo hi shFlights fl [.slice qa fn qc] → lo ≤ hi → hi ≤ sb → sb < W.heap.size → Calls Try.prog 84 #[.pointer (some ⟨sb, 0, none⟩), .int .i64 ack, .slice la l.length lc] W fun e w' => e = .returned (.int .i64 (akC (y0, y1, y2, y3, y4, y5, (s0, s1, s2, fl, ()), (c0, c1, sp, ()), (k0, k1, k2, ()), ()) ack l)) ∧ Below sb W w') := fun W qa qc ra rc sb lo hi hW hsb h1 h2 h3 h4 h5 h6 => sL8AckNo y0 y1 y2 y3 y4 y5 s0 s1 s2 c0 c1 k0 k1 k2 fl sp qa fn qc ra sn rc ack l la lc sb lo hi W h1 h2 h3 hfn h4 h5 h6 hF (fun V hV => hl.below (Nat.le_refl _) (hW.trans (hV.mono hsb))) hn hne
  rw [hF] at HC
  clear HCC hF rs0 rc0 rs rc hwf hl hT
  generalize akC (y0, y1, y2, y3, y4, y5, (s0, s1, s2, fl, ()), (c0, c1, sp, ()), (k0, k1, k2, ()), ()) ack l = CC at *
  generalize l.length = ln at *
  have hne' : (CC != 0) = true := by simp [hne]
  go_enter Try.func32, Try.ntmps32
  go_wp2_with fail
  refine (HC.out _ w.heap.size (by go_grown) (fun o => by simp [go_sem])).mono ?_
  rintro e w1 ⟨rfl, hb⟩
  have kX : ∀ o, w1.cell? ⟨w.heap.size, o, none⟩ = (#[.int .i64 y0, .int .i64 y1, .bool y2, .int .i64 y3, .int .i64 y4, .int .i64 y5, .int .i64 s0, .int .i64 s1, .int .i64 s2, .slice ua fn uc, .int .i64 c0, .int .i64 c1, .slice va sn vc, .int .i64 k0, .int .i64 k1, .int .i64 k2] : Array Value)[o]? := fun o => by rw [hb.cell (p := ⟨w.heap.size, o, none⟩) (by simp; omega)]; simp [go_sem]
  obtain ⟨bR, hbR⟩ : ∃ q, q = w.heap.size + 1 := ⟨_, rfl⟩
  have kR : ∀ o, w1.cell? ⟨bR, o, none⟩ = (#[.int .i64 0, .int .i64 0, .int .i64 0, .bool false, .int .i64 0, .int .i64 0, .int .i64 0, .int .i64 0, .int .i64 0, .int .i64 0, .slice none 0 0, .int .i64 0, .int .i64 0, .slice none 0 0, .int .i64 0, .int .i64 0, .int .i64 0] : Array Value)[o]? := fun o => by rw [hbR, hb.cell (p := ⟨w.heap.size + 1, o, none⟩) (by simp)]; simp [go_sem]
  have fR : ∀ o, w1.frozen? ⟨bR, o, none⟩ = false := fun o => by rw [hbR, hb.frozen (p := ⟨w.heap.size + 1, o, none⟩) (by simp)]; simp [go_sem]
  have zR : bR < w1.heap.size := by have := hb.size; simp at this; omega
  have lwR : w.heap.size ≤ bR := by omega
  have HB : Hid (Below w.heap.size w w1) := Below.trans (by go_grown) (hb.mono (by simp; omega))
  clear hb HC
  rw [← hbR]
  clear hbR
  go_wp2_with fail
  refine (HCS.out _ HB.out).mono ?_
  rintro e w2 ⟨qa, qc, ra, rc, m, rfl, hsw, hb⟩
  clear HCS kX
  obtain ⟨h1, eh1⟩ : ∃ q, q = w1.heap.size := ⟨_, rfl⟩
  have S : Hid (Own w2 h1 m shFlights fl [.slice qa fn qc]) := by rw [eh1]; exact own_flsM hsw.s
  have lS : m ≤ w2.heap.size := hsw.mh
  have mS : h1 ≤ m := by rw [eh1]; exact hsw.lm
  clear hsw eh1
  replace kR := bx_below kR zR hb
  replace fR := bxF fR hb zR
  replace zR := Nat.lt_of_lt_of_le zR hb.size
  replace HB : Hid (Below w.heap.size w w2) := HB.out.trans (hb.mono HB.out.size)
  clear hb
  obtain ⟨M, hM⟩ : ∃ M : Array Value, M = #[.int .i64 y0, .int .i64 y1, .bool y2, .int .i64 y3, .int .i64 y4, .int .i64 y5, .int .i64 s0, .int .i64 s1, .int .i64 s2, .slice qa fn qc, .int .i64 c0, .int .i64 c1, .slice ra sn rc, .int .i64 k0, .int .i64 k1, .int .i64 k2] := ⟨_, rfl⟩
  have HM : Hid _ := hM
  have HMZ : Hid (M.size = 16) := by show _ = _; rw [hM]; rfl
  have HMI : Hid ((Try.prog.info? 64).map (·.size) = some M.size) := by show _ = _; rw [HMZ.out]; exact (by kernel_rfl : (Try.prog.info? 64).map (·.size) = some 16)
  have HMO : Hid (M.all (·.oneCell') = true) := by show _ = _; rw [hM]; simp [Value.oneCell']
  clear hM
  have HTH : Hid ((w2.alloc (.cells #[.int .i64 0, .int .i64 0, .bool false, .int .i64 0, .int .i64 0, .int .i64 0, .int .i64 0, .int .i64 0, .int .i64 0, .slice none 0 0, .int .i64 0, .int .i64 0, .slice none 0 0, .int .i64 0, .int .i64 0, .int .i64 0] 64)).there w2.heap.size 0 M.size) := bx_there (bx_al _ _ _) (fx_al _ _ _) (by rw [HMZ.out]; rfl)
  have HWN : Hid (Below w2.heap.size w2 ((w2.alloc (.cells #[.int .i64 0, .int .i64 0, .bool false, .int .i64 0, .int .i64 0, .int .i64 0, .int .i64 0, .int .i64 0, .int .i64 0, .slice none 0 0, .int .i64 0, .int .i64 0, .slice none 0 0, .int .i64 0, .int .i64 0, .int .i64 0] 64)).setCells w2.heap.size 0 M.toList) ∧ w2.heap.size < ((w2.alloc (.cells #[.int .i64 0, .int .i64 0, .bool false, .int .i64 0, .int .i64 0, .int .i64 0, .int .i64 0, .int .i64 0, .int .i64 0, .slice none 0 0, .int .i64 0, .int .i64 0, .slice none 0 0, .int .i64 0, .int .i64 0, .int .i64 0] 64)).setCells w2.heap.size 0 M.toList).heap.size ∧ (∀ o, ((w2.alloc (.cells #[.int .i64 0, .int .i64 0, .bool false, .int .i64 0, .int .i64 0, .int .i64 0, .int .i64 0, .int .i64 0, .int .i64 0, .slice none 0 0, .int .i64 0, .int .i64 0, .slice none 0 0, .int .i64 0, .int .i64 0, .int .i64 0] 64)).setCells w2.heap.size 0 M.toList).cell? ⟨w2.heap.size, o, none⟩ = M[o]?) ∧ (∀ o, ((w2.alloc (.cells #[.int .i64 0, .int .i64 0, .bool false, .int .i64 0, .int .i64 0, .int .i64 0, .int .i64 0, .int .i64 0, .int .i64 0, .slice none 0 0, .int .i64 0, .int .i64 0, .slice none 0 0, .int .i64 0, .int .i64 0, .int .i64 0] 64)).setCells w2.heap.size 0 M.toList).frozen? ⟨w2.heap.size, o, none⟩ = false)) := ⟨setCells_below (Nat.le_refl _) _ _ _ _ ((Below.refl _ _).alloc (Nat.le_refl _) _), by rw [setCells_size]; simp, bx_setCells (bx_al w2 _ _) (by rw [HMZ.out]; rfl), fx_sets (fx_al _ _ _)⟩
  go_upto_region 5 with (first | (refine wpList_store_mid rfl 64 _ _ rfl _ _ M (by rfl) (by rw [HM.out]; rfl) HTH.out HMI.out HMO.out ?_))
  generalize hWW : ((w2.alloc (.cells #[.int .i64 0, .int .i64 0, .bool false, .int .i64 0, .int .i64 0, .int .i64 0, .int .i64 0, .int .i64 0, .int .i64 0, .slice none 0 0, .int .i64 0, .int .i64 0, .slice none 0 0, .int .i64 0, .int .i64 0, .int .i64 0] 64)).setCells w2.heap.size 0 M.toList) = w3 at HWN ⊢
  clear hWW HTH
  obtain ⟨hb, zO, kO, fO⟩ := HWN.out
  clear HWN
  obtain ⟨bO, hq⟩ : ∃ q, q = w2.heap.size := ⟨_, rfl⟩
  rw [← hq] at zO kO fO ⊢
  have lRO : bR < bO := by rw [hq]; exact zR
  have lSO : m ≤ bO := by omega
  have lwO : w.heap.size ≤ bO := by rw [hq]; exact HB.out.size
  clear hq
  replace kR := bx_below kR zR hb
  replace fR := bxF fR hb zR
  replace zR := Nat.lt_of_lt_of_le zR hb.size
  replace S : Hid (Own w3 h1 m shFlights fl [.slice qa fn qc]) := Own.below S.out (by omega) hb
  replace lS : m ≤ w3.heap.size := Nat.le_trans lS hb.size
  replace HB : Hid (Below w.heap.size w w3) := HB.out.trans (hb.mono HB.out.size)
  clear hb
  have kM := HM.out
  rw [kM] at kO
  clear kM
  go_wp2_with fail
  refine (HAP.out _ qa qc ra rc bO h1 m HB.out lwO kO fO S.out mS lSO zO).mono ?_
  rintro e w4 ⟨rfl, hb⟩
  clear HAP kO fO
  replace kR : ∀ o, w4.cell? ⟨bR, o, none⟩ = (#[.int .i64 0, .int .i64 0, .int .i64 0, .bool false, .int .i64 0, .int .i64 0, .int .i64 0, .int .i64 0, .int .i64 0, .int .i64 0, .slice none 0 0, .int .i64 0, .int .i64 0, .slice none 0 0, .int .i64 0, .int .i64 0, .int .i64 0] : Array Value)[o]? := fun o => (hb.cell (p := ⟨bR, o, none⟩) lRO).trans (kR o)
  replace fR : ∀ o, w4.frozen? ⟨bR, o, none⟩ = false := fun o => (hb.frozen (p := ⟨bR, o, none⟩) lRO).trans (fR o)
  replace HB : Hid (Below w.heap.size w w4) := HB.out.trans (hb.mono lwO)
  clear hb zR zO S HM HMZ HMI HMO
  obtain ⟨N, hN⟩ : ∃ N : Array Value, N = #[.int .i64 CC, .int .i64 0, .int .i64 0, .bool false, .int .i64 0, .int .i64 0, .int .i64 0, .int .i64 0, .int .i64 0, .int .i64 0, .slice none 0 0, .int .i64 0, .int .i64 0, .slice none 0 0, .int .i64 0, .int .i64 0, .int .i64 0] := ⟨_, rfl⟩
  have HN : Hid _ := hN
  have hNz : N.size = 17 := by rw [hN]; rfl
  have HTH : Hid (w4.there bR 0 N.size) := bx_there kR fR (by rw [hNz]; rfl)
  have HI17 : Hid ((Try.prog.info? 69).map (·.size) = some N.size) := by show _ = _; rw [hNz]; exact (by kernel_rfl : (Try.prog.info? 69).map (·.size) = some 17)
  have HONE : Hid (N.all (·.oneCell') = true) := by show _ = _; rw [hN]; simp [Value.oneCell']
  have HJ : Hid (∀ o, (w4.setCells bR 0 N.toList).cell? ⟨bR, o, none⟩ = N[o]?) := bx_setCells kR (by rw [hNz]; rfl)
  have HX : Hid (Below w.heap.size w (w4.setCells bR 0 N.toList)) := setCells_below lwR _ _ _ _ HB.out
  clear hN hNz
  clear HB kR fR
  go_wp2_with (refine wpList_store_mid rfl 69 _ _ rfl _ _ N (by rfl) (by rw [HN.out]; rfl) HTH.out HI17.out HONE.out ?_)
  refine bodyPost_ret (results_box Try.results32 _ _ _ N _ (by rfl) HJ.out Try.underlying69 rfl HI17.out) rfl ⟨[.int .i64 0, .int .i64 0, .bool false, .int .i64 0, .int .i64 0, .int .i64 0, .int .i64 0, .int .i64 0, .int .i64 0, .slice none 0 0, .int .i64 0, .int .i64 0, .slice none 0 0, .int .i64 0, .int .i64 0, .int .i64 0], rfl, by rw [HN.out], HX.out⟩
end Go.Proofs.Ytebgibjokljlbaa
