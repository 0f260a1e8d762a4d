/-
  DERIVED. GIVEN WITH THE SEED: THE CARDS: each row of YtpakkpahcpgnnaaGreatDoorRows.lean that lists a variable, with what it lists TIED to the program's text (the seventh form; the later family's looks); each row that meets fmt, with fmt's text TOLD by the authors' own Lean function (tested against real Go, not proved from fmt's source: count such statements apart). THE CARD IS WHAT COUNTS. Prove the row's statement (the work); the ties are given (YtpakkpahcpgnnaaGreatDoorTie.lean); close each card by the builder's one call (the guide's Derived/Test/ToyasCard.lean, 'card_holds'). Laid BY PROGRAM, IN A SANDBOX (cutbox-door.mjs). By AI agents, Wed Nov 11 2026. No macro, syntax, notation, axiom, sorry.
-/
import Derived.Test.YtpakkpahcpgnnaaGreatDoorRows
import GoSem.ClaimSeven
namespace Go.Proofs.YtpakkpahcpgnnaaGreatDoor
namespace Rows

/-- THE TIED CARD OF 'halyardlaw15.FreightOwn'. -/
def freightOwnCard : Claim7 := { stood := { row := freightOwnRow, standIns := [], harness := (true, "26a70d2f48df3bd463c93aab0df6f8e8aaded5595623614877ecdfad73287f92"), looks := false }, kinds := [], alts := [], laidByText := true, laidKinds := [.data], laidTests := true, laidLooks := .later }
def FreightOwnCardSaid : Prop := Claim7.holds Tryz.pinned (.plain (OpenSpec.ofChange freightOwnSpec)) freightOwnCard

/-- THE TIED CARD OF 'halyardlaw15.FreightComes'. -/
def freightComesCard : Claim7 := { stood := { row := freightComesRow, standIns := [], harness := (true, "26a70d2f48df3bd463c93aab0df6f8e8aaded5595623614877ecdfad73287f92"), looks := false }, kinds := [], alts := [], laidByText := true, laidKinds := [.data], laidTests := true, laidLooks := .later }
def FreightComesCardSaid : Prop := Claim7.holds Tryz.pinned (.plain (OpenSpec.ofChange freightComesSpec)) freightComesCard

/-- THE TIED CARD OF 'halyardlaw15.FreightCalls'. -/
def freightCallsCard : Claim7 := { stood := { row := freightCallsRow, standIns := [], harness := (true, "26a70d2f48df3bd463c93aab0df6f8e8aaded5595623614877ecdfad73287f92"), looks := false }, kinds := [], alts := [], laidByText := true, laidKinds := [.data], laidTests := true, laidLooks := .later }
def FreightCallsCardSaid : Prop := Claim7.holds Tryz.pinned (.plain (OpenSpec.ofChange freightCallsSpec)) freightCallsCard

/-- THE TIED CARD OF 'halyardlaw15.FreightBook'. -/
def freightBookCard : Claim7 := { stood := { row := freightBookRow, standIns := [], harness := (true, "26a70d2f48df3bd463c93aab0df6f8e8aaded5595623614877ecdfad73287f92"), looks := false }, kinds := [], alts := [], laidByText := true, laidKinds := [.data], laidTests := true, laidLooks := .later }
def FreightBookCardSaid : Prop := Claim7.holds Tryz.pinned (.plain (OpenSpec.ofChange freightBookSpec)) freightBookCard

/-- THE SECOND FORM's CARD OF 'halyardlaw15.FreightOwn'. -/
def freightOwnUptoCard : Claim7 := { stood := { row := freightOwnUptoRow, standIns := [], harness := (true, "26a70d2f48df3bd463c93aab0df6f8e8aaded5595623614877ecdfad73287f92"), looks := false }, kinds := [], alts := [], laidByText := true, laidKinds := [.data], laidTests := true, laidLooks := .later }
def FreightOwnUptoCardSaid : Prop := Claim7.holds Tryz.pinned (.plain (OpenSpec.upto freightOwnSpec)) freightOwnUptoCard

/-- THE SECOND FORM's CARD OF 'halyardlaw15.FreightComes'. -/
def freightComesUptoCard : Claim7 := { stood := { row := freightComesUptoRow, standIns := [], harness := (true, "26a70d2f48df3bd463c93aab0df6f8e8aaded5595623614877ecdfad73287f92"), looks := false }, kinds := [], alts := [], laidByText := true, laidKinds := [.data], laidTests := true, laidLooks := .later }
def FreightComesUptoCardSaid : Prop := Claim7.holds Tryz.pinned (.plain (OpenSpec.upto freightComesSpec)) freightComesUptoCard

/-- THE SECOND FORM's CARD OF 'halyardlaw15.FreightCalls'. -/
def freightCallsUptoCard : Claim7 := { stood := { row := freightCallsUptoRow, standIns := [], harness := (true, "26a70d2f48df3bd463c93aab0df6f8e8aaded5595623614877ecdfad73287f92"), looks := false }, kinds := [], alts := [], laidByText := true, laidKinds := [.data], laidTests := true, laidLooks := .later }
def FreightCallsUptoCardSaid : Prop := Claim7.holds Tryz.pinned (.plain (OpenSpec.upto freightCallsSpec)) freightCallsUptoCard

/-- THE SECOND FORM's CARD OF 'halyardlaw15.FreightBook'. -/
def freightBookUptoCard : Claim7 := { stood := { row := freightBookUptoRow, standIns := [], harness := (true, "26a70d2f48df3bd463c93aab0df6f8e8aaded5595623614877ecdfad73287f92"), looks := false }, kinds := [], alts := [], laidByText := true, laidKinds := [.data], laidTests := true, laidLooks := .later }
def FreightBookUptoCardSaid : Prop := Claim7.holds Tryz.pinned (.plain (OpenSpec.upto freightBookSpec)) freightBookUptoCard
end Rows
end Go.Proofs.YtpakkpahcpgnnaaGreatDoor
