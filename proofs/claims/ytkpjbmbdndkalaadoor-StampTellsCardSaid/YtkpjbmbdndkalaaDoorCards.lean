/-
  DERIVED. GIVEN WITH THE SEED: THE CARDS: each row of YtkpjbmbdndkalaaDoorRows.lean that lists a variable, with what it lists TIED to the program's text (the seventh form; the later family's looks); each row that meets fmt, with fmt's text TOLD by the authors' own Lean function (tested against real Go, not proved from fmt's source: count such statements apart). THE CARD IS WHAT COUNTS. Prove the row's statement (the work); the ties are given (YtkpjbmbdndkalaaDoorTie.lean); close each card by the builder's one call (the guide's Derived/Test/ToyasCard.lean, 'card_holds'). Laid BY PROGRAM, IN A SANDBOX (cutbox-door.mjs). By AI agents, Wed Nov 11 2026. No macro, syntax, notation, axiom, sorry.
-/
import Derived.Test.YtkpjbmbdndkalaaDoorRows
import GoSem.ClaimSeven
namespace Go.Proofs.YtkpjbmbdndkalaaDoor
namespace Rows

/-- THE TIED CARD OF 'penstocklaw04.StampTells'. -/
def stampTellsCard : Claim7 := { stood := { row := stampTellsRow, standIns := [], harness := (true, "a138f6286cb442731c6da3753b2fb5c9220de39ca956c0b1ac939f11746c1514"), looks := false }, kinds := [], alts := [], laidByText := true, laidKinds := [.data, .data, .data], laidTests := true, laidLooks := .later }
def StampTellsCardSaid : Prop := Claim7.holds Tryd.pinned (.plain (OpenSpec.ofChange stampTellsSpec)) stampTellsCard

/-- THE TIED CARD OF 'penstocklaw04.StampOrder'. -/
def stampOrderCard : Claim7 := { stood := { row := stampOrderRow, standIns := [], harness := (true, "a138f6286cb442731c6da3753b2fb5c9220de39ca956c0b1ac939f11746c1514"), looks := false }, kinds := [], alts := [], laidByText := true, laidKinds := [.data, .data, .data], laidTests := true, laidLooks := .later }
def StampOrderCardSaid : Prop := Claim7.holds Tryd.pinned (.plain (OpenSpec.ofChange stampOrderSpec)) stampOrderCard

/-- THE TIED CARD OF 'penstocklaw04.StampGoes'. -/
def stampGoesCard : Claim7 := { stood := { row := stampGoesRow, standIns := [], harness := (true, "a138f6286cb442731c6da3753b2fb5c9220de39ca956c0b1ac939f11746c1514"), looks := false }, kinds := [], alts := [], laidByText := true, laidKinds := [.data, .data, .data], laidTests := true, laidLooks := .later }
def StampGoesCardSaid : Prop := Claim7.holds Tryd.pinned (.plain (OpenSpec.ofChange stampGoesSpec)) stampGoesCard

/-- THE TIED CARD OF 'penstocklaw04.StampPart'. -/
def stampPartCard : Claim7 := { stood := { row := stampPartRow, standIns := [], harness := (true, "a138f6286cb442731c6da3753b2fb5c9220de39ca956c0b1ac939f11746c1514"), looks := false }, kinds := [], alts := [], laidByText := true, laidKinds := [.data, .data, .data], laidTests := true, laidLooks := .later }
def StampPartCardSaid : Prop := Claim7.holds Tryd.pinned (.plain (OpenSpec.ofChange stampPartSpec)) stampPartCard

/-- THE SECOND FORM's CARD OF 'penstocklaw04.StampTells'. -/
def stampTellsUptoCard : Claim7 := { stood := { row := stampTellsUptoRow, standIns := [], harness := (true, "a138f6286cb442731c6da3753b2fb5c9220de39ca956c0b1ac939f11746c1514"), looks := false }, kinds := [], alts := [], laidByText := true, laidKinds := [.data, .data, .data], laidTests := true, laidLooks := .later }
def StampTellsUptoCardSaid : Prop := Claim7.holds Tryd.pinned (.plain (OpenSpec.upto stampTellsSpec)) stampTellsUptoCard

/-- THE SECOND FORM's CARD OF 'penstocklaw04.StampOrder'. -/
def stampOrderUptoCard : Claim7 := { stood := { row := stampOrderUptoRow, standIns := [], harness := (true, "a138f6286cb442731c6da3753b2fb5c9220de39ca956c0b1ac939f11746c1514"), looks := false }, kinds := [], alts := [], laidByText := true, laidKinds := [.data, .data, .data], laidTests := true, laidLooks := .later }
def StampOrderUptoCardSaid : Prop := Claim7.holds Tryd.pinned (.plain (OpenSpec.upto stampOrderSpec)) stampOrderUptoCard

/-- THE SECOND FORM's CARD OF 'penstocklaw04.StampGoes'. -/
def stampGoesUptoCard : Claim7 := { stood := { row := stampGoesUptoRow, standIns := [], harness := (true, "a138f6286cb442731c6da3753b2fb5c9220de39ca956c0b1ac939f11746c1514"), looks := false }, kinds := [], alts := [], laidByText := true, laidKinds := [.data, .data, .data], laidTests := true, laidLooks := .later }
def StampGoesUptoCardSaid : Prop := Claim7.holds Tryd.pinned (.plain (OpenSpec.upto stampGoesSpec)) stampGoesUptoCard

/-- THE SECOND FORM's CARD OF 'penstocklaw04.StampPart'. -/
def stampPartUptoCard : Claim7 := { stood := { row := stampPartUptoRow, standIns := [], harness := (true, "a138f6286cb442731c6da3753b2fb5c9220de39ca956c0b1ac939f11746c1514"), looks := false }, kinds := [], alts := [], laidByText := true, laidKinds := [.data, .data, .data], laidTests := true, laidLooks := .later }
def StampPartUptoCardSaid : Prop := Claim7.holds Tryd.pinned (.plain (OpenSpec.upto stampPartSpec)) stampPartUptoCard
end Rows
end Go.Proofs.YtkpjbmbdndkalaaDoor
