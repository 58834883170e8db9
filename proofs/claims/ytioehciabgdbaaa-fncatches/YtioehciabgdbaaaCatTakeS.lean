/- What the model makes of spans that are taken: copied, asked whether seen; nothing that was in memory turns; no condition but that there are at most a hundred thousand. -/
import Derived.Test.YtioehciabgdbaaaRows
import Derived.Test.YtioehciabgdbaaaBase
import Derived.Test.YtioehciabgdbaaaMem
import Derived.Test.YtioehciabgdbaaaHBase
import Derived.Test.YtioehciabgdbaaaHSpan
import Derived.Test.YtioehciabgdbaaaHCatch
import Derived.Test.YtioehciabgdbaaaMSpan
import Derived.Test.YtioehciabgdbaaaMCatch
import Derived.Test.YtioehciabgdbaaaSpanRow
import Derived.Test.YtioehciabgdbaaaCatDef
import Derived.Test.YtioehciabgdbaaaCatSpec
import Derived.Test.YtioehciabgdbaaaCatCount
import Derived.Test.YtioehciabgdbaaaCatTake
import Derived.Test.YtioehciabgdbaaaCatCopy
import Derived.Test.YtioehciabgdbaaaBox
import Derived.Deep.RegionHeld3
namespace Go.Proofs.Ytioehciabgdbaaa
open Go.RowKit
set_option linter.unusedVariables false
set_option maxRecDepth 8000

def seenB (next : Int) (l : List DSpan) (k : Int) : Bool := decide (k < next) || l.any fun s => inC k s.1 (s.2.1 - 1)
set_option maxHeartbeats 2000000 in
theorem sL7Seen (y0 y1 k : Int) (l : List DSpan) (a : Option Addr) (n cap sb : Nat) (w : World) (hn : l.length = n) (hc : ∀ o, w.cell? ⟨sb, o, none⟩ = (#[.int .i64 y0, .int .i64 y1, .slice a n cap] : Array Value)[o]?) (h : RS w a l) (hm : n ≤ 100000) (hbd : ∀ t ∈ l, 0 ≤ t.1 ∧ t.1 ≤ t.2.1 ∧ t.2.1 ≤ 1000100) :
    Calls Try.prog 132 #[.pointer (some ⟨sb, 0, none⟩), .int .i64 k] w fun e w' => e = .returned (.bool (seenB y1 l k)) ∧ ∃ m, w' = w.drewN m := by
  have c1 : w.cell? ⟨sb, 1, none⟩ = some (.int .i64 y1) := hc 1
  have c2 : w.cell? ⟨sb, 2, none⟩ = some (.slice a n cap) := hc 2
  have HN : Hid (l.length = n) := hn
  have HRS : Hid _ := h
  have HBD : Hid _ := hbd
  clear h hn hc hbd
  by_cases hk : k < y1
  · have hR : seenB y1 l k = true := by unfold seenB; simp [hk]
    rw [hR]
    go_enter Try.func132, Try.ntmps132
    go_wp2_with fail
    go_ret
    exact ⟨rfl, 0, rfl⟩
  · have hR : seenB y1 l k = (l.drop 0).any fun s => inC k s.1 (s.2.1 - 1) := by unfold seenB; simp [hk]
    rw [hR]
    obtain ⟨R, hRR⟩ : ∃ R, R = (l.drop 0).any fun s => inC k s.1 (s.2.1 - 1) := ⟨_, rfl⟩
    have HRR : Hid ((l.drop 0).any (fun s => inC k s.1 (s.2.1 - 1)) = R) := hRR.symm
    rw [← hRR]
    clear hRR hR
    go_enter Try.func132, Try.ntmps132
    go_wp2_with fail
    go_loopw [5] (fun i wr => ∃ (j m : Nat), j ≤ n ∧ i = .int .i64 j ∧ Hid ((l.drop j).any (fun s => inC k s.1 (s.2.1 - 1)) = R) ∧ wr = w.drewN m) (fun i _ => n - (intOf i).toNat)
    case atStart => exact ⟨0, 0, Nat.zero_le _, rfl, HRR, rfl⟩
    case round =>
      obtain ⟨j, m, hj, rfl, hs, hwr⟩ := hrel
      have HWR : Hid (wr = w.drewN m) := hwr
      have d1 : wr.cell? ⟨sb, 1, none⟩ = some (.int .i64 y1) := by rw [hwr, World.cell?_drewN]; exact c1
      have d2 : wr.cell? ⟨sb, 2, none⟩ = some (.slice a n cap) := by rw [hwr, World.cell?_drewN]; exact c2
      by_cases hlt : j < n
      · have hjl : j < l.length := by have := HN.out; omega
        rcases HRS.out.mem with e0 | ⟨b, off, ha, hcc⟩
        · exfalso; rw [e0] at hjl; simp at hjl
        · subst ha
          obtain ⟨q0, q1⟩ := hcc j hjl
          replace q0 : wr.cell? ⟨b, off + j * 2, none⟩ = some (.int .i64 l[j].1) := by rw [hwr, World.cell?_drewN]; exact q0
          replace q1 : wr.cell? ⟨b, off + j * 2 + 1, none⟩ = some (.int .i64 l[j].2.1) := by rw [hwr, World.cell?_drewN]; exact q1
          have hp := HBD.out l[j] (List.getElem_mem hjl)
          have hst := hs.out
          rw [List.drop_eq_getElem_cons hjl, List.any_cons] at hst
          have HST : Hid _ := hst
          have hjn : (j : Int) < (n : Int) := by omega
          generalize l[j].1 = z0 at *
          generalize l[j].2.1 = z1 at *
          obtain ⟨hp0, hp1, hp2⟩ := hp
          have hw64 : IntKind.i64.wrap (z1 - 1) = z1 - 1 := by simp only [IntKind.wrap, IntKind.bits, IntKind.signed]; simp; omega
          clear hs hcc hst HRR c1 c2 hwr
          by_cases hin : inC k z0 (z1 - 1) = true
          · have hR : R = true := by have := HST.out; rw [hin] at this; simpa using this.symm
            subst hR
            have HIC : Hid (∀ W, Calls Try.prog 90 #[.int .i64 k, .int .i64 z0, .int .i64 (z1 - 1)] W fun e w' => e = .returned (.bool true) ∧ w' = W) := fun W => by rw [← hin]; exact sInC _ _ _ _
            go_wp2_with fail
            go_quiet ((first | (go_at_call 90; exact Calls.quiet_of_same (HIC.out _))))
            go_wp2_with fail
            go_ret
            exact ⟨rfl, _, by rw [HWR.out, World.drewN_drewN]⟩
          · replace hin : inC k z0 (z1 - 1) = false := by simpa using hin
            have HS2 : Hid ((l.drop (j + 1)).any (fun s => inC k s.1 (s.2.1 - 1)) = R) := by have := HST.out; rw [hin, Bool.false_or] at this; exact this
            clear HST
            have HIC : Hid (∀ W, Calls Try.prog 90 #[.int .i64 k, .int .i64 z0, .int .i64 (z1 - 1)] W fun e w' => e = .returned (.bool false) ∧ w' = W) := fun W => by rw [← hin]; exact sInC _ _ _ _
            go_wp2_with fail
            go_quiet ((first | (go_at_call 90; exact Calls.quiet_of_same (HIC.out _))))
            go_wp2_with fail
            go_roundw
            case rel => exact ⟨j + 1, _, by omega, by go_num, HS2, by rw [HWR.out, World.drewN_drewN]⟩
            case measure => simp [intOf]; omega
      · obtain rfl : j = n := by omega
        have he := hs.out
        rw [← HN.out, List.drop_length] at he
        replace he : R = false := he.symm
        subst he
        clear c1 c2 hwr
        go_wp2_with fail
        go_ret
        exact ⟨rfl, _, HWR.out⟩
end Go.Proofs.Ytioehciabgdbaaa
