/-
  DERIVED. GIVEN WITH THE SEED: THE CARDS: each row of YtfkimemagbkcoaaDoorRows.lean that lists a variable, with what it lists TIED to the program's text (the seventh form; the later family's looks); each row that meets fmt, with fmt's text TOLD by the authors' own Lean function (tested against real Go, not proved from fmt's source: count such statements apart). THE CARD IS WHAT COUNTS. Prove the row's statement (the work); the ties are given (YtfkimemagbkcoaaDoorTie.lean); close each card by the builder's one call (the guide's Derived/Test/ToyasCard.lean, 'card_holds'). Laid BY PROGRAM, IN A SANDBOX (cutbox-door.mjs). By AI agents, Wed Nov 11 2026. No macro, syntax, notation, axiom, sorry.
-/
import Derived.Test.YtfkimemagbkcoaaDoorRows
import GoSem.ClaimSeven
namespace Go.Proofs.YtfkimemagbkcoaaDoor
namespace Rows

/-- THE TIED CARD OF 'penstocklaw02.RowDecodes'. -/
def rowDecodesCard : Claim7 := { stood := { row := rowDecodesRow, standIns := [], harness := (true, "057269c26086c82d0caa0394b5f07d13b518eebaf4e39171e605361e92538d2f"), looks := true }, kinds := [], alts := [], laidByText := true, laidKinds := [.data, .pinned], laidTests := true, laidLooks := .later }
def RowDecodesCardSaid : Prop := Claim7.holds Tryd.pinned (.plain (OpenSpec.ofChange rowDecodesSpec)) rowDecodesCard

/-- THE TIED CARD OF 'penstocklaw02.RowOrder'. -/
def rowOrderCard : Claim7 := { stood := { row := rowOrderRow, standIns := [], harness := (true, "057269c26086c82d0caa0394b5f07d13b518eebaf4e39171e605361e92538d2f"), looks := true }, kinds := [], alts := [], laidByText := true, laidKinds := [.data, .pinned], laidTests := true, laidLooks := .later }
def RowOrderCardSaid : Prop := Claim7.holds Tryd.pinned (.plain (OpenSpec.ofChange rowOrderSpec)) rowOrderCard

/-- THE TIED CARD OF 'penstocklaw02.RowOnce'. -/
def rowOnceCard : Claim7 := { stood := { row := rowOnceRow, standIns := [], harness := (true, "057269c26086c82d0caa0394b5f07d13b518eebaf4e39171e605361e92538d2f"), looks := true }, kinds := [], alts := [], laidByText := true, laidKinds := [.data, .pinned], laidTests := true, laidLooks := .later }
def RowOnceCardSaid : Prop := Claim7.holds Tryd.pinned (.plain (OpenSpec.ofChange rowOnceSpec)) rowOnceCard

/-- THE TIED CARD OF 'penstocklaw02.RowKeeps'. -/
def rowKeepsCard : Claim7 := { stood := { row := rowKeepsRow, standIns := [], harness := (true, "057269c26086c82d0caa0394b5f07d13b518eebaf4e39171e605361e92538d2f"), looks := true }, kinds := [], alts := [], laidByText := true, laidKinds := [.data, .pinned], laidTests := true, laidLooks := .later }
def RowKeepsCardSaid : Prop := Claim7.holds Tryd.pinned (.plain (OpenSpec.ofChange rowKeepsSpec)) rowKeepsCard

/-- THE TIED CARD OF 'penstocklaw02.RowBeginnings'. -/
def rowBeginningsCard : Claim7 := { stood := { row := rowBeginningsRow, standIns := [], harness := (true, "057269c26086c82d0caa0394b5f07d13b518eebaf4e39171e605361e92538d2f"), looks := true }, kinds := [], alts := [], laidByText := true, laidKinds := [.data, .pinned], laidTests := true, laidLooks := .later }
def RowBeginningsCardSaid : Prop := Claim7.holds Tryd.pinned (.plain (OpenSpec.ofChange rowBeginningsSpec)) rowBeginningsCard

/-- THE SECOND FORM's CARD OF 'penstocklaw02.RowDecodes'. -/
def rowDecodesUptoCard : Claim7 := { stood := { row := rowDecodesUptoRow, standIns := [], harness := (true, "057269c26086c82d0caa0394b5f07d13b518eebaf4e39171e605361e92538d2f"), looks := true }, kinds := [], alts := [], laidByText := true, laidKinds := [.data, .pinned], laidTests := true, laidLooks := .later }
def RowDecodesUptoCardSaid : Prop := Claim7.holds Tryd.pinned (.plain (OpenSpec.upto rowDecodesSpec)) rowDecodesUptoCard

/-- THE SECOND FORM's CARD OF 'penstocklaw02.RowOrder'. -/
def rowOrderUptoCard : Claim7 := { stood := { row := rowOrderUptoRow, standIns := [], harness := (true, "057269c26086c82d0caa0394b5f07d13b518eebaf4e39171e605361e92538d2f"), looks := true }, kinds := [], alts := [], laidByText := true, laidKinds := [.data, .pinned], laidTests := true, laidLooks := .later }
def RowOrderUptoCardSaid : Prop := Claim7.holds Tryd.pinned (.plain (OpenSpec.upto rowOrderSpec)) rowOrderUptoCard

/-- THE SECOND FORM's CARD OF 'penstocklaw02.RowOnce'. -/
def rowOnceUptoCard : Claim7 := { stood := { row := rowOnceUptoRow, standIns := [], harness := (true, "057269c26086c82d0caa0394b5f07d13b518eebaf4e39171e605361e92538d2f"), looks := true }, kinds := [], alts := [], laidByText := true, laidKinds := [.data, .pinned], laidTests := true, laidLooks := .later }
def RowOnceUptoCardSaid : Prop := Claim7.holds Tryd.pinned (.plain (OpenSpec.upto rowOnceSpec)) rowOnceUptoCard

/-- THE SECOND FORM's CARD OF 'penstocklaw02.RowKeeps'. -/
def rowKeepsUptoCard : Claim7 := { stood := { row := rowKeepsUptoRow, standIns := [], harness := (true, "057269c26086c82d0caa0394b5f07d13b518eebaf4e39171e605361e92538d2f"), looks := true }, kinds := [], alts := [], laidByText := true, laidKinds := [.data, .pinned], laidTests := true, laidLooks := .later }
def RowKeepsUptoCardSaid : Prop := Claim7.holds Tryd.pinned (.plain (OpenSpec.upto rowKeepsSpec)) rowKeepsUptoCard

/-- THE SECOND FORM's CARD OF 'penstocklaw02.RowBeginnings'. -/
def rowBeginningsUptoCard : Claim7 := { stood := { row := rowBeginningsUptoRow, standIns := [], harness := (true, "057269c26086c82d0caa0394b5f07d13b518eebaf4e39171e605361e92538d2f"), looks := true }, kinds := [], alts := [], laidByText := true, laidKinds := [.data, .pinned], laidTests := true, laidLooks := .later }
def RowBeginningsUptoCardSaid : Prop := Claim7.holds Tryd.pinned (.plain (OpenSpec.upto rowBeginningsSpec)) rowBeginningsUptoCard
end Rows
end Go.Proofs.YtfkimemagbkcoaaDoor
