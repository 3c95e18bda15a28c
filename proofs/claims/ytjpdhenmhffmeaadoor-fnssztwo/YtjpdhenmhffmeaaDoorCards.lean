/-
  DERIVED. GIVEN WITH THE SEED: THE CARDS: each row of YtjpdhenmhffmeaaDoorRows.lean that lists a variable, with what it lists TIED to the program's text (the seventh form; the later family's looks); each row that meets fmt, with fmt's text TOLD by the authors' own Lean function (tested against real Go, not proved from fmt's source: count such statements apart). THE CARD IS WHAT COUNTS. Prove the row's statement (the work); the ties are given (YtjpdhenmhffmeaaDoorTie.lean); close each card by the builder's one call (the guide's Derived/Test/ToyasCard.lean, 'card_holds'). Laid BY PROGRAM, IN A SANDBOX (cutbox-door.mjs). By AI agents, Wed Nov 11 2026. No macro, syntax, notation, axiom, sorry.
-/
import Derived.Test.YtjpdhenmhffmeaaDoorRows
import GoSem.ClaimSeven
namespace Go.Proofs.YtjpdhenmhffmeaaDoor
namespace Rows

/-- THE TIED CARD OF 'laws.FnRlpTwo'. -/
def fnRlpTwoCard : Claim7 := { stood := { row := fnRlpTwoRow, standIns := [], harness := (true, "96f887f6ef68588ebb92382318ceb8e60fd89393df827f1fbc0d63f79d8f11d1"), looks := true }, kinds := [], alts := [], laidByText := true, laidKinds := [.data, .sentinel], laidTests := true, laidLooks := .later }
def FnRlpTwoCardSaid : Prop := Claim7.holds Tryd.pinned (.plain (OpenSpec.ofChange fnRlpTwoSpec)) fnRlpTwoCard

/-- THE TIED CARD OF 'laws.FnSszTwo'. -/
def fnSszTwoCard : Claim7 := { stood := { row := fnSszTwoRow, standIns := [], harness := (true, "96f887f6ef68588ebb92382318ceb8e60fd89393df827f1fbc0d63f79d8f11d1"), looks := true }, kinds := [], alts := [], laidByText := true, laidKinds := [.data, .sentinel], laidTests := true, laidLooks := .later }
def FnSszTwoCardSaid : Prop := Claim7.holds Tryd.pinned (.plain (OpenSpec.ofChange fnSszTwoSpec)) fnSszTwoCard

/-- THE TIED CARD OF 'laws.FnSszSome'. -/
def fnSszSomeCard : Claim7 := { stood := { row := fnSszSomeRow, standIns := [], harness := (true, "96f887f6ef68588ebb92382318ceb8e60fd89393df827f1fbc0d63f79d8f11d1"), looks := true }, kinds := [], alts := [], laidByText := true, laidKinds := [.data, .sentinel], laidTests := true, laidLooks := .later }
def FnSszSomeCardSaid : Prop := Claim7.holds Tryd.pinned (.plain (OpenSpec.ofChange fnSszSomeSpec)) fnSszSomeCard

/-- THE SECOND FORM's CARD OF 'laws.FnRlpTwo'. -/
def fnRlpTwoUptoCard : Claim7 := { stood := { row := fnRlpTwoUptoRow, standIns := [], harness := (true, "96f887f6ef68588ebb92382318ceb8e60fd89393df827f1fbc0d63f79d8f11d1"), looks := true }, kinds := [], alts := [], laidByText := true, laidKinds := [.data, .sentinel], laidTests := true, laidLooks := .later }
def FnRlpTwoUptoCardSaid : Prop := Claim7.holds Tryd.pinned (.plain (OpenSpec.upto fnRlpTwoSpec)) fnRlpTwoUptoCard

/-- THE SECOND FORM's CARD OF 'laws.FnSszTwo'. -/
def fnSszTwoUptoCard : Claim7 := { stood := { row := fnSszTwoUptoRow, standIns := [], harness := (true, "96f887f6ef68588ebb92382318ceb8e60fd89393df827f1fbc0d63f79d8f11d1"), looks := true }, kinds := [], alts := [], laidByText := true, laidKinds := [.data, .sentinel], laidTests := true, laidLooks := .later }
def FnSszTwoUptoCardSaid : Prop := Claim7.holds Tryd.pinned (.plain (OpenSpec.upto fnSszTwoSpec)) fnSszTwoUptoCard

/-- THE SECOND FORM's CARD OF 'laws.FnSszSome'. -/
def fnSszSomeUptoCard : Claim7 := { stood := { row := fnSszSomeUptoRow, standIns := [], harness := (true, "96f887f6ef68588ebb92382318ceb8e60fd89393df827f1fbc0d63f79d8f11d1"), looks := true }, kinds := [], alts := [], laidByText := true, laidKinds := [.data, .sentinel], laidTests := true, laidLooks := .later }
def FnSszSomeUptoCardSaid : Prop := Claim7.holds Tryd.pinned (.plain (OpenSpec.upto fnSszSomeSpec)) fnSszSomeUptoCard
end Rows
end Go.Proofs.YtjpdhenmhffmeaaDoor
