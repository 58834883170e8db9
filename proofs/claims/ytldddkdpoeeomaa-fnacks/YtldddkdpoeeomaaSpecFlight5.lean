/- What the model tells of what is due; nothing that was in memory turns; no condition but that loads are of at most a million bytes. -/
import Derived.Test.YtldddkdpoeeomaaRows
import Derived.Test.YtldddkdpoeeomaaBase
import Derived.Test.YtldddkdpoeeomaaNum
import Derived.Test.YtldddkdpoeeomaaNumWalks
import Derived.Test.YtldddkdpoeeomaaMem
import Derived.Test.YtldddkdpoeeomaaHBase
import Derived.Test.YtldddkdpoeeomaaHFlight
import Derived.Test.YtldddkdpoeeomaaHSender
import Derived.Test.YtldddkdpoeeomaaFlightDef
import Derived.Test.YtldddkdpoeeomaaSpecFlight
import Derived.Test.YtldddkdpoeeomaaSpecFlight2
import Derived.Test.YtldddkdpoeeomaaHMark
import Derived.Test.YtldddkdpoeeomaaInts
import Derived.Test.YtldddkdpoeeomaaIntsOwn
import Derived.WalkSmall
import Derived.Maps.AppendAt
import Derived.Test.YtldddkdpoeeomaaBox
namespace Go.Proofs.Ytldddkdpoeeomaa
open Go.RowKit
set_option linter.unusedVariables false

theorem app_int {ops : Array Oper} {rest : List Oper} {o : Oper} {a : Act} {Q : Exit → Act → World → Prop} (w : World) (hgd : o.guard = none) (s x : Operand)
    (ho : o.op = .call { callee := .builtin .append, args := #[s, x], argTypes := #[29, 29] }) (base : Nat) (v : Value) (n : Nat) (xs : List Value) (hs : a.eval s = v)
    (hown : w.ownsRow base 2 1 v n xs) (y : Int) (hx : a.eval x = .slice (some ⟨w.heap.size, 0, none⟩) 1 1) (hn : n ≤ 1000000) (hb : base ≤ w.heap.size)
    (h : ∀ v' w', w'.ownsRow base 2 1 v' (n + 1) (xs ++ [.int .i64 y]) → Below base w w' → wpList Try.prog ops Q rest (a.put o.dst v') w') :
    wpList Try.prog ops Q (o :: rest) a (w.alloc (.cells #[.int .i64 y] 2)) := by
  obtain ⟨i0, hi, hz0, hz1, hz2⟩ := info_parts info_i64
  refine wpList_append_own _ hgd s x 29 ho base 2 i0 (.int .i64 0) 1 8 Try.underlying29 hi hz0 hz1 hz2 rfl (by decide) v n xs hs (hown.alloc _) ⟨w.heap.size, 0, none⟩ 1 1 [.int .i64 y] hx rfl ?_ ?_ ?_ ?_ ?_ ?_
  · exact cell_one_new _ _ _
  · intro u hu; simp at hu; subst hu; rfl
  · unfold maxLen; omega
  · omega
  · simp; omega
  · intro v' w' h1 h2 _
    refine h v' w' h1 ?_
    have hba : Below base w (w.alloc (.cells #[.int .i64 y] 2)) := (Below.refl _ _).alloc hb _
    exact hba.grown h2 (by simp; omega) (fun k hk => (hown.lt k hk).1)

theorem own_form {w : World} {base : Nat} {t : TypeId} {sz : Nat} {v : Value} {n : Nat} {xs : List Value} (h : w.ownsRow base t sz v n xs) : ∃ a cap, v = .slice a n cap := by
  obtain ⟨_, ⟨e, hz⟩ | ⟨g, cap, cur, e, _⟩⟩ := h
  · exact ⟨none, 0, by rw [e, hz]⟩
  · exact ⟨_, cap, e⟩
set_option maxHeartbeats 2000000 in
theorem sL5Due (l : List DFlight) (a : Option Addr) (n cap sb : Nat) (now wait : Int) (w : World) (B : Nat) (hn : l.length = n) (c3 : w.cell? ⟨sb, 3, none⟩ = some (.slice a n cap)) (hr : shFlights.Rd w B l [.slice a n cap]) (hB : B ≤ w.heap.size) (hL : n ≤ 1000) (hb0 : 0 ≤ now) (hb1 : now ≤ 1000000)
    (hS : ∀ k (hk : k < l.length), 0 ≤ l[k].2.2.2.1 ∧ l[k].2.2.2.1 ≤ 1000000) :
    Calls Try.prog 50 #[.pointer (some ⟨sb, 0, none⟩), .int .i64 now, .int .i64 wait] w fun e w' => ∃ u, e = .returned u ∧ Own w' w.heap.size w'.heap.size i64s (dueL now wait 0 l) [u] ∧ Below w.heap.size w w' := by
  have hsb := cell_lt c3
  replace hsb : sb < w.heap.size := hsb
  have HRd : Hid (∀ W, Below w.heap.size w W → shFlights.Rd W B l [.slice a n cap]) := fun W hW => hr.below hB hW
  have HN : Hid (l.length = n) := hn
  have HS : Hid _ := hS
  have CB : Hid (∀ W, Below w.heap.size w W → W.cell? ⟨sb, 3, none⟩ = some (.slice a n cap)) := fun W hW => (hW.cell (p := ⟨sb, 3, none⟩) hsb).trans c3
  have HD : Hid (∀ k, (dueL now wait 0 (l.take k)).length ≤ 1000000) := fun k => by have := dueL_len now wait (l.take k) 0; simp at this; omega
  clear hr hn hS
  go_enter Try.func50, Try.ntmps50
  go_wp2_with fail
  go_loopw [7, 8] (fun t i wr => ∃ (k : Nat) (va : Option Addr) (vn vc : Nat), k ≤ n ∧ i = .int .i64 k ∧ t = .slice va vn vc ∧ Hid (wr.ownsRow w.heap.size 2 1 (.slice va vn vc) (dueL now wait 0 (l.take k)).length ((dueL now wait 0 (l.take k)).map (Value.int .i64))) ∧ Hid (Below w.heap.size w wr)) (fun _ i _ => n - (intOf i).toNat)
  case atStart => exact ⟨0, _, _, _, Nat.zero_le _, rfl, rfl, World.ownsRow_made w #[] 0 (Nat.le_refl _) (by decide) rfl, (by show Below _ _ _; go_grown)⟩
  case round =>
    obtain ⟨k, va, vn, vc, hk, rfl, rfl, HO, HB⟩ := hrel
    have d3 := CB.out _ HB.out
    clear c3
    by_cases hlt : k < n
    · have hkl : k < l.length := by have := HN.out; omega
      obtain ⟨b, off, v, ha, hb, q0, q1, q2, q3, q4, r3⟩ := at_Flights (HRd.out wr HB.out) k hkl
      subst ha
      have hst := dueL_step now wait hkl
      have hs := HS.out k hkl
      have HST : Hid _ := hst
      clear r3 hst q0 q1 q2 q4
      generalize l[k].2.2.2.1 = z at *
      obtain ⟨hs0, hs1⟩ := hs
      by_cases hq : wait ≤ now - z
      · have hsz := HB.out.size
        have hdl := HD.out k
        go_wp2_with (at_builtin; refine app_int wr rfl _ _ rfl w.heap.size (.slice va vn vc) _ _ (by rfl) HO.out _ (by rfl) hdl hsz ?_; intro v5 w5 ho5 hb5; obtain ⟨va5, vc5, hv5⟩ := own_form ho5; subst hv5; have HO5 : Hid _ := ho5; have HB5 : Hid (Below w.heap.size w w5) := HB.out.trans hb5; clear ho5 hb5)
        go_roundw
        case rel => exact ⟨k + 1, va5, _, vc5, by omega, by go_num, rfl, (by show World.ownsRow _ _ _ _ _ _ _; rw [HST.out, if_pos hq, List.length_append, List.map_append]; exact HO5.out), HB5⟩
        case measure => simp [intOf]; omega
      · have hq' : ¬ (wait ≤ now - z) := hq
        go_wp2_with fail
        go_roundw
        case rel => exact ⟨k + 1, va, vn, vc, by omega, by go_num, rfl, (by show World.ownsRow _ _ _ _ _ _ _; rw [HST.out, if_neg hq']; exact HO.out), HB⟩
        case measure => simp [intOf]; omega
    · obtain rfl : k = n := by omega
      go_wp2_with fail
      go_ret
      refine ⟨_, rfl, ?_, HB.out⟩
      have h := HO.out
      rw [← HN.out, List.take_length] at h
      exact own_ints ⟨h, fun y hy => by have := dueL_mem now wait l 0 y hy; have := HN.out; exact WalkArith.wf_i64 (by omega)⟩ (Nat.le_refl _)
theorem own_ints0 (w : World) (lo hi : Nat) : Own w lo hi i64s [] [.slice none 0 0] := ⟨[], Or.inl ⟨rfl, rfl, rfl⟩, by simp, by simp⟩
theorem boxB5 {B : Nat} {w w' : World} {b : Nat} {cs : Array Value} (h : ∀ o, w.cell? ⟨b, o, none⟩ = cs[o]?) (k : Below B w w') (hb : b < B) : ∀ o, w'.cell? ⟨b, o, none⟩ = cs[o]? :=
  fun o => (k.cell (p := ⟨b, o, none⟩) hb).trans (h o)
theorem boxF5 {B : Nat} {w w' : World} {b : Nat} (h : ∀ o, w.frozen? ⟨b, o, none⟩ = false) (k : Below B w w') (hb : b < B) : ∀ o, w'.frozen? ⟨b, o, none⟩ = false :=
  fun o => (k.frozen (p := ⟨b, o, none⟩) hb).trans (h o)
set_option maxHeartbeats 4000000 in
theorem sDueFlights (x : DSender) (v : Value) (now wait : Int) (w : World) (B : Nat) (hr : shSender.Rd w B x [.int .i64 x.1, .int .i64 x.2.1, .int .i64 x.2.2.1, v]) (hB : B ≤ w.heap.size) (hT : totSender x ≤ 1048576) :
    Calls Try.prog 12 #[.agg #[.int .i64 x.1, .int .i64 x.2.1, .int .i64 x.2.2.1, v], .int .i64 now, .int .i64 wait] w fun e w' => ∃ u, e = .returned (.agg #[.int .i64 (dueC x now wait), u]) ∧ Own w' w.heap.size w'.heap.size i64s (dueV x now wait) [u] ∧ Below w.heap.size w w' := by
  obtain ⟨vv, ev, rk, -⟩ := rd_Sender hr
  simp only [List.cons.injEq, and_true, true_and] at ev
  subst ev
  obtain ⟨a, cap, ev2⟩ := row_form rk
  simp only [List.cons.injEq, and_true] at ev2
  subst ev2
  obtain ⟨F, hFx⟩ : ∃ F, F = sndFault x := ⟨_, rfl⟩
  have HC : Hid (∀ W, Below w.heap.size w W → ∀ sb, (∀ o, W.cell? ⟨sb, o, none⟩ = (#[.int .i64 x.1, .int .i64 x.2.1, .int .i64 x.2.2.1, .slice a x.2.2.2.1.length cap] : Array Value)[o]?) → Calls Try.prog 48 #[.pointer (some ⟨sb, 0, none⟩)] W fun e w' => e = .returned (.int .i64 F) ∧ Below W.heap.size W w') :=
    fun W hW sb hc => by rw [hFx]; exact sL5Box x a _ cap W w 0 B rfl (Sh.Rd.below rk hB hW) (Nat.le_trans hB hW.size) hT sb hc
  by_cases hF : sndFault x = 0
  · obtain ⟨o1, o2, o3, o4⟩ := snd_ok hF
    have hF' : F = 0 := by rw [hFx]; exact hF
    subst hF'
    by_cases t1 : inD now 0 1000000 = true
    · by_cases t2 : inD wait 0 1000000 = true
      · have e1 : dueC x now wait = 0 := by unfold dueC; rw [if_pos hF, if_pos (by simp [t1, t2])]
        have e2 : dueV x now wait = dueL now wait 0 x.2.2.2.1 := by unfold dueV; rw [e1, if_pos rfl]
        rw [e1, e2]
        have tb := inD_yes t1
        have HD : Hid (∀ W, Below w.heap.size w W → ∀ sb, W.cell? ⟨sb, 3, none⟩ = some (.slice a x.2.2.2.1.length cap) → Calls Try.prog 50 #[.pointer (some ⟨sb, 0, none⟩), .int .i64 now, .int .i64 wait] W fun e w' => ∃ u, e = .returned u ∧ Own w' W.heap.size w'.heap.size i64s (dueL now wait 0 x.2.2.2.1) [u] ∧ Below W.heap.size W w') :=
          fun W hW sb hc => sL5Due x.2.2.2.1 a _ cap sb now wait W B rfl hc (rk.below hB hW) (Nat.le_trans hB hW.size) (by omega) tb.1 tb.2 (fls_sent hF)
        clear hr rk hT hFx hF e1 e2 o1 o2 o3
        generalize dueL now wait 0 x.2.2.2.1 = D at *
        generalize x.1 = y0 at *
        generalize x.2.1 = y1 at *
        generalize x.2.2.1 = y2 at *
        generalize x.2.2.2.1.length = n at *
        go_enter Try.func12, Try.ntmps12
        go_wp2_with fail
        refine (HC.out _ (by go_grown) w.heap.size (fun o => by simp [go_sem])).mono ?_
        rintro e w1 ⟨rfl, hb⟩
        have k1 := boxB5 (w := _) (fun o => (by simp [go_sem] : _ = (#[.int .i64 0, .slice none 0 0] : Array Value)[o]?)) hb (b := w.heap.size + 1) (by simp)
        have f1 : ∀ o, w1.frozen? ⟨w.heap.size + 1, o, none⟩ = false := boxF5 (w := _) (fun o => by simp [go_sem]) hb (by simp)
        have k0 := boxB5 (w := _) (fun o => (by simp [go_sem] : _ = (#[.int .i64 y0, .int .i64 y1, .int .i64 y2, .slice a n cap] : Array Value)[o]?)) hb (b := w.heap.size) (by simp; omega)
        have z1 : w.heap.size + 1 < w1.heap.size := by have := hb.size; simp at this; omega
        have HB : Hid (Below w.heap.size w w1) := Below.trans (by go_grown) (hb.mono (by simp; omega))
        clear hb HC
        go_wp2_with (go_at_call 49; refine (sTickD _ _).mono ?_; rintro e w' ⟨rfl, hw⟩; subst w')
        refine (HD.out w1 HB.out w.heap.size (k0 3)).mono ?_
        rintro e w2 ⟨u, rfl, ho, hb⟩
        obtain ⟨ua, uc, eu, -⟩ := rd_ints (ho.rd (Nat.le_refl _))
        simp only [List.cons.injEq, and_true] at eu
        subst eu
        have k1' := boxB5 k1 hb (by omega)
        have f1' := boxF5 f1 hb (by omega)
        have HB2 : Hid (Below w.heap.size w w2) := HB.out.trans (hb.mono HB.out.size)
        have HO : Hid _ := ho
        have z2 : w.heap.size + 1 < w2.heap.size := Nat.lt_of_lt_of_le z1 hb.size
        have z3 := hb.size
        clear hb k1 f1 k0 HB ho
        generalize D.length = dn at *
        go_wp2_with fail
        refine bodyPost_ret (v := .agg #[.int .i64 0, .slice ua dn uc]) (by simp [results, Try.results12, go_sem, k1']) rfl ⟨_, rfl, ?_, ?_⟩
        · refine Own.mono (Own.keep HO.out fun b h1 h2 => ?_) (by omega) (by simp)
          repeat rw [Below.heap_setCell _ _ _ _ (by dsimp only; omega)]
        · have hB1 := HB2.out
          clear k1' f1' HB2 HO
          go_grown
      · replace t2 : inD wait 0 1000000 = false := by simpa using t2
        have e1 : dueC x now wait = 3 := by unfold dueC; rw [if_pos hF, if_neg (by simp [t2])]
        have e2 : dueV x now wait = [] := by unfold dueV; rw [e1, if_neg (by decide)]
        rw [e1, e2]
        clear hr rk hT hFx hF e1 e2 o1 o2 o3
        generalize x.1 = y0 at *
        generalize x.2.1 = y1 at *
        generalize x.2.2.1 = y2 at *
        generalize x.2.2.2.1.length = n at *
        go_enter Try.func12, Try.ntmps12
        go_wp2_with fail
        refine (HC.out _ (by go_grown) w.heap.size (fun o => by simp [go_sem])).mono ?_
        rintro e w1 ⟨rfl, hb⟩
        have k1 := boxB5 (w := _) (fun o => (by simp [go_sem] : _ = (#[.int .i64 0, .slice none 0 0] : Array Value)[o]?)) hb (b := w.heap.size + 1) (by simp)
        have f1 : ∀ o, w1.frozen? ⟨w.heap.size + 1, o, none⟩ = false := boxF5 (w := _) (fun o => by simp [go_sem]) hb (by simp)
        have k0 := boxB5 (w := _) (fun o => (by simp [go_sem] : _ = (#[.int .i64 y0, .int .i64 y1, .int .i64 y2, .slice a n cap] : Array Value)[o]?)) hb (b := w.heap.size) (by simp; omega)
        have z1 : w.heap.size + 1 < w1.heap.size := by have := hb.size; simp at this; omega
        have HB : Hid (Below w.heap.size w w1) := Below.trans (by go_grown) (hb.mono (by simp; omega))
        clear hb HC
        go_wp2_with (go_at_call 49; refine (sTickD _ _).mono ?_; rintro e w' ⟨rfl, hw⟩; subst w')
        refine bodyPost_ret (v := .agg #[.int .i64 3, .slice none 0 0]) (by simp [results, Try.results12, go_sem, k1]) rfl ⟨_, rfl, own_ints0 _ _ _, ?_⟩
        have hB1 := HB.out
        clear k1 f1 k0 HB
        go_grown
    · replace t1 : inD now 0 1000000 = false := by simpa using t1
      have e1 : dueC x now wait = 3 := by unfold dueC; rw [if_pos hF, if_neg (by simp [t1])]
      have e2 : dueV x now wait = [] := by unfold dueV; rw [e1, if_neg (by decide)]
      rw [e1, e2]
      clear hr rk hT hFx hF e1 e2 o1 o2 o3
      generalize x.1 = y0 at *
      generalize x.2.1 = y1 at *
      generalize x.2.2.1 = y2 at *
      generalize x.2.2.2.1.length = n at *
      go_enter Try.func12, Try.ntmps12
      go_wp2_with fail
      refine (HC.out _ (by go_grown) w.heap.size (fun o => by simp [go_sem])).mono ?_
      rintro e w1 ⟨rfl, hb⟩
      have k1 := boxB5 (w := _) (fun o => (by simp [go_sem] : _ = (#[.int .i64 0, .slice none 0 0] : Array Value)[o]?)) hb (b := w.heap.size + 1) (by simp)
      have f1 : ∀ o, w1.frozen? ⟨w.heap.size + 1, o, none⟩ = false := boxF5 (w := _) (fun o => by simp [go_sem]) hb (by simp)
      have k0 := boxB5 (w := _) (fun o => (by simp [go_sem] : _ = (#[.int .i64 y0, .int .i64 y1, .int .i64 y2, .slice a n cap] : Array Value)[o]?)) hb (b := w.heap.size) (by simp; omega)
      have z1 : w.heap.size + 1 < w1.heap.size := by have := hb.size; simp at this; omega
      have HB : Hid (Below w.heap.size w w1) := Below.trans (by go_grown) (hb.mono (by simp; omega))
      clear hb HC
      go_wp2_with (go_at_call 49; refine (sTickD _ _).mono ?_; rintro e w' ⟨rfl, hw⟩; subst w')
      refine bodyPost_ret (v := .agg #[.int .i64 3, .slice none 0 0]) (by simp [results, Try.results12, go_sem, k1]) rfl ⟨_, rfl, own_ints0 _ _ _, ?_⟩
      have hB1 := HB.out
      clear k1 f1 k0 HB
      go_grown
  · have e1 : dueC x now wait = F := by unfold dueC; rw [if_neg hF, hFx]
    have e2 : dueV x now wait = [] := by unfold dueV; rw [e1, if_neg (by rw [hFx]; exact hF)]
    have hF' : (F != 0) = true := by rw [hFx]; simp [hF]
    rw [e1, e2]
    clear hr rk hT hFx hF e1 e2
    generalize x.1 = y0 at *
    generalize x.2.1 = y1 at *
    generalize x.2.2.1 = y2 at *
    generalize x.2.2.2.1.length = n at *
    go_enter Try.func12, Try.ntmps12
    go_wp2_with fail
    refine (HC.out _ (by go_grown) w.heap.size (fun o => by simp [go_sem])).mono ?_
    rintro e w1 ⟨rfl, hb⟩
    have k1 := boxB5 (w := _) (fun o => (by simp [go_sem] : _ = (#[.int .i64 0, .slice none 0 0] : Array Value)[o]?)) hb (b := w.heap.size + 1) (by simp)
    have f1 : ∀ o, w1.frozen? ⟨w.heap.size + 1, o, none⟩ = false := boxF5 (w := _) (fun o => by simp [go_sem]) hb (by simp)
    have k0 := boxB5 (w := _) (fun o => (by simp [go_sem] : _ = (#[.int .i64 y0, .int .i64 y1, .int .i64 y2, .slice a n cap] : Array Value)[o]?)) hb (b := w.heap.size) (by simp; omega)
    have z1 : w.heap.size + 1 < w1.heap.size := by have := hb.size; simp at this; omega
    have HB : Hid (Below w.heap.size w w1) := Below.trans (by go_grown) (hb.mono (by simp; omega))
    clear hb HC
    go_wp2_with (go_at_call 49; refine (sTickD _ _).mono ?_; rintro e w' ⟨rfl, hw⟩; subst w')
    refine bodyPost_ret (v := .agg #[.int .i64 F, .slice none 0 0]) (by simp [results, Try.results12, go_sem, k1]) rfl ⟨_, rfl, own_ints0 _ _ _, ?_⟩
    have hB1 := HB.out
    clear k1 f1 k0 HB
    go_grown
end Go.Proofs.Ytldddkdpoeeomaa
