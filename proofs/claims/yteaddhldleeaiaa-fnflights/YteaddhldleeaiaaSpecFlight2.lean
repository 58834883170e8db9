/- What the model answers of a sender: its fault, what is on its way, the number of a place, a new one; nothing that was in memory turns; no condition but that loads are of at most a million bytes. -/
import Derived.Test.YteaddhldleeaiaaRows
import Derived.Test.YteaddhldleeaiaaBase
import Derived.Test.YteaddhldleeaiaaNum
import Derived.Test.YteaddhldleeaiaaNumWalks
import Derived.Test.YteaddhldleeaiaaMem
import Derived.Test.YteaddhldleeaiaaHBase
import Derived.Test.YteaddhldleeaiaaHFlight
import Derived.Test.YteaddhldleeaiaaHSender
import Derived.Test.YteaddhldleeaiaaFlightDef
import Derived.Test.YteaddhldleeaiaaSpecFlight
import Derived.Test.YteaddhldleeaiaaBox
namespace Go.Proofs.Yteaddhldleeaiaa
open Go.RowKit
set_option linter.unusedVariables false

/-- Of a sender in a box that was just made. -/
theorem sL5Box (x : DSender) (a : Option Addr) (n cap : Nat) (w w0 : World) (t : TypeId) (B : Nat) (hn : x.2.2.2.1.length = n) (hr : shFlights.Rd w B x.2.2.2.1 [.slice a n cap]) (hB : B ≤ w.heap.size) (hT : totSender x ≤ 1048576) (sb : Nat)
    (hc : ∀ o, w.cell? ⟨sb, o, none⟩ = (#[.int .i64 x.1, .int .i64 x.2.1, .int .i64 x.2.2.1, .slice a n cap] : Array Value)[o]?) :
    Calls Try.prog 22 #[.pointer (some ⟨sb, 0, none⟩)] w fun e w' => e = .returned (.int .i64 (sndFault x)) ∧ Below w.heap.size w w' :=
  sL5Fault x a n cap sb w B hn (hc 0) (hc 1) (hc 2) (hc 3) hr hB (fun k hk => by have h : x.2.2.2.1[k].2.2.1.length ≤ fsum totFlight x.2.2.2.1 := fsum_at totFlight hk; unfold totSender totFlights at hT; omega)
theorem sStartSender (n : Int) (w : World) :
    Calls Try.prog 38 #[.int .i64 n] w fun e w' => e = .returned (.agg #[.int .i64 (if inD n 0 65535 = true then 0 else 3), .int .i64 (if inD n 0 65535 = true then n else 0), .int .i64 0, .int .i64 0, .slice none 0 0]) ∧ Below w.heap.size w w' := by
  by_cases h : inD n 0 65535 = true
  · rw [if_pos h, if_pos h]
    go_enter Try.func38, Try.ntmps38
    go_wp2_with (go_at_call 45; refine (sNumD _ _).mono ?_; rintro e w' ⟨rfl, hw⟩; subst w')
    go_returns
    exact ⟨rfl, by go_grown⟩
  · rw [if_neg h, if_neg h]
    replace h : inD n 0 65535 = false := by simpa using h
    go_enter Try.func38, Try.ntmps38
    go_wp2_with (first | (go_at_call 45; refine (sNumD _ _).mono ?_; rintro e w' ⟨rfl, hw⟩; subst w') | (go_at_call 23; go_in))
    go_returns
    exact ⟨rfl, by go_grown⟩
end Go.Proofs.Yteaddhldleeaiaa
