/- What the draw for DueFlights gives: some sender that can be read, and two numbers; nothing that was in memory turns; no condition. -/
import Derived.Test.YteaddhldleeaiaaRows
import Derived.Test.YteaddhldleeaiaaBase
import Derived.Test.YteaddhldleeaiaaDraws
import Derived.Test.YteaddhldleeaiaaBytes
import Derived.Test.YteaddhldleeaiaaAppBytes
import Derived.Test.YteaddhldleeaiaaDrawsD
import Derived.Test.YteaddhldleeaiaaMem
import Derived.Test.YteaddhldleeaiaaHBase
import Derived.Test.YteaddhldleeaiaaHFlight
import Derived.Test.YteaddhldleeaiaaHSender
import Derived.Test.YteaddhldleeaiaaFlightDef
import Derived.Test.YteaddhldleeaiaaDrawSnd
import Derived.Deep.RegionHeld3
namespace Go.Proofs.Yteaddhldleeaiaa
open Go.RowKit
set_option linter.unusedVariables false
set_option linter.unusedSimpArgs false

theorem Src.drewS {w : World} {sb : Nat} {v : Value} {K : Int} (h : Src w sb v K) : Src w.drew sb v K := h.bel (Below.drew (Below.refl _ _))
theorem Dr.drewS (sb : Nat) (w : World) : Dr sb w w.drew := (Dr.refl sb w).then (Below.drew (Below.refl _ _)) (Nat.le_refl _)
end Go.Proofs.Yteaddhldleeaiaa
