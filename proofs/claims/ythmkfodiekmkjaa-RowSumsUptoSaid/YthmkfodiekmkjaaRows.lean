/-
  No cell of these rows narrows 'for every input' (looked for: loops, veiled, ifaces, maps, wideKeys, modest, calm, conditions, laid).
  DERIVED. THE GIVEN ROWS OF THIS SEAT. 3 by the template 'for every input the law returns true; each argument reads behind the call as it read before'; 0 by the template 'total and deterministic' (their statements: YthmkfodiekmkjaaTotals.lean).
  GIVEN WITH THE SEED: the statements are not yours to turn. If you find one false, say at which input.
  Laid BY PROGRAM, IN A SANDBOX (cutbox-rows.mjs): the forced cells as the released guide's own fill.sh prints them over the translation 9f76ff5129da4a64… (all of the seat's roots in one cut). By AI agents, Wed Nov 11 2026. No macro, syntax, notation, axiom, sorry.
-/
import Derived.Test.YthmkfodiekmkjaaChecked
import GoSem.Claim
import GoSem.ClaimJoined
import GoSem.ClaimMapViews
import Derived.JoinedTies
import Derived.KernelRfl
namespace Go.Proofs.Ythmkfodiekmkjaa
/- THE CELL 'sum', in the pinned program and in every row, IS THE sha256 OF THE DUMP (.gsa) THAT YthmkfodiekmkjaaProg.lean LOADS. Nothing in Lean hashes anything: it is a label: what it is worth is what the hold of that sum in a sandbox is worth. -/
noncomputable def Try.pinned : Pinned := { name := "ythmkfodiekmkjaa", sum := "9f76ff5129da4a644ddefafc09bb1c134b566f2eecedff92663b0f089ac29574", checked := Try.checked }
namespace Rows
def none {H : Type} : Left H := { results := [], args := [] }

/-- 'penstocklaw02.RowCmps': WHATEVER THE INPUT: true; the input reads as it did. -/
def rowCmpsSpec : ChangeSpec := { name := "rowCmps", fn := fun _ => fun
  | [d1, d2] => { results := [.lit (.bool true)], args := [d1, d2] }
  | _ => none }
def rowCmpsRow : OpenClaim := { program := "ythmkfodiekmkjaa", sum := "9f76ff5129da4a644ddefafc09bb1c134b566f2eecedff92663b0f089ac29574", func := "penstock/penstocklaw02.RowCmps", spec := "rowCmps", inPlace := ["internal/bytealg.abigen_runtime_cmpstring"], unfollowed := true, recurses := true, apart := false }
def RowCmpsSaid : Prop := rowCmpsRow.holds Try.pinned (OpenSpec.ofChange rowCmpsSpec)

/-- ITS FALSE NEIGHBOUR: 'it returns false'. Refute it at one input. -/
def rowCmpsWrong : ChangeSpec := { name := "rowCmps", fn := fun _ => fun
  | [d1, d2] => { results := [.lit (.bool false)], args := [d1, d2] }
  | _ => none }
def RowCmpsWrongFalsely : Prop := rowCmpsRow.holds Try.pinned (OpenSpec.ofChange rowCmpsWrong)

/-- 'penstocklaw02.RowSums': WHATEVER THE INPUT: true; the input reads as it did. -/
def rowSumsSpec : ChangeSpec := { name := "rowSums", fn := fun _ => fun
  | [d] => { results := [.lit (.bool true)], args := [d] }
  | _ => none }
def rowSumsRow : OpenClaim := { program := "ythmkfodiekmkjaa", sum := "9f76ff5129da4a644ddefafc09bb1c134b566f2eecedff92663b0f089ac29574", func := "penstock/penstocklaw02.RowSums", spec := "rowSums", inPlace := ["internal/bytealg.abigen_runtime_cmpstring"], unfollowed := true, recurses := true, apart := false }
def RowSumsSaid : Prop := rowSumsRow.holds Try.pinned (OpenSpec.ofChange rowSumsSpec)

/-- ITS FALSE NEIGHBOUR: 'it returns false'. Refute it at one input. -/
def rowSumsWrong : ChangeSpec := { name := "rowSums", fn := fun _ => fun
  | [d] => { results := [.lit (.bool false)], args := [d] }
  | _ => none }
def RowSumsWrongFalsely : Prop := rowSumsRow.holds Try.pinned (OpenSpec.ofChange rowSumsWrong)

/-- 'penstocklaw02.RowHashes': WHATEVER THE INPUT: true; the input reads as it did. -/
def rowHashesSpec : ChangeSpec := { name := "rowHashes", fn := fun _ => fun
  | [d1, d2, d3] => { results := [.lit (.bool true)], args := [d1, d2, d3] }
  | _ => none }
def rowHashesRow : OpenClaim := { program := "ythmkfodiekmkjaa", sum := "9f76ff5129da4a644ddefafc09bb1c134b566f2eecedff92663b0f089ac29574", func := "penstock/penstocklaw02.RowHashes", spec := "rowHashes", inPlace := ["internal/bytealg.abigen_runtime_cmpstring"], unfollowed := true, recurses := true, apart := false }
def RowHashesSaid : Prop := rowHashesRow.holds Try.pinned (OpenSpec.ofChange rowHashesSpec)

/-- ITS FALSE NEIGHBOUR: 'it returns false'. Refute it at one input. -/
def rowHashesWrong : ChangeSpec := { name := "rowHashes", fn := fun _ => fun
  | [d1, d2, d3] => { results := [.lit (.bool false)], args := [d1, d2, d3] }
  | _ => none }
def RowHashesWrongFalsely : Prop := rowHashesRow.holds Try.pinned (OpenSpec.ofChange rowHashesWrong)

/- THE SECOND FORM. 'bulk': how many values and letters a reading holds, each counted each time it is reached (what is shared counts as often as it is met; a slice's spare places count too). A statement '..UptoSaid' is the law's where the arguments, and the package variables that the reading takes, are together of bulk at most 1048576: NARROWER than '..Said'. Prove '..Said' where nothing that the law and all that it calls make is longer than what came in: it says more and counts as full. Else prove '..UptoSaid'. A law counts once. -/
mutual
def uptoBulk {H : Type} : DataW H → Nat
  | .lit (.string bytes) => bytes.length + 1
  | .lit _ => 1
  | .nil => 1
  | .ptr d => uptoBulk d + 1
  | .slice elems spare => uptoBulkAll elems + uptoBulkAll spare + 1
  | .agg parts => uptoBulkAll parts + 1
  | .iface _ d => uptoBulk d + 1
  | .map entries => uptoBulkEntries entries + 1
  | .held _ => 1
def uptoBulkAll {H : Type} : List (DataW H) → Nat
  | [] => 0
  | d :: r => uptoBulk d + uptoBulkAll r
def uptoBulkEntries {H : Type} : List (Lit × DataW H) → Nat
  | [] => 0
  | x :: r => uptoBulkEntry x + uptoBulkEntries r
def uptoBulkEntry {H : Type} : Lit × DataW H → Nat
  | (.string bytes, d) => bytes.length + uptoBulk d + 1
  | (_, d) => uptoBulk d + 1
 end
def uptoSmall : (H : Type) → List (DataW H) → Bool := fun _ ds => decide (uptoBulkAll ds ≤ 1048576)
def OpenSpec.upto (s : _root_.Go.ChangeSpec) : _root_.Go.OpenSpec := { _root_.Go.OpenSpec.ofChange s with cond := some uptoSmall }

/-- 'penstocklaw02.RowCmps', WHERE WHAT IT READS IS OF BULK AT MOST 1048576: true; the input reads as it did. -/
def rowCmpsUptoRow : OpenClaim := { program := "ythmkfodiekmkjaa", sum := "9f76ff5129da4a644ddefafc09bb1c134b566f2eecedff92663b0f089ac29574", func := "penstock/penstocklaw02.RowCmps", spec := "rowCmps", inPlace := ["internal/bytealg.abigen_runtime_cmpstring"], unfollowed := true, recurses := true, apart := false, narrowed := true }
def RowCmpsUptoSaid : Prop := rowCmpsUptoRow.holds Try.pinned (OpenSpec.upto rowCmpsSpec)

/-- 'penstocklaw02.RowSums', WHERE WHAT IT READS IS OF BULK AT MOST 1048576: true; the input reads as it did. -/
def rowSumsUptoRow : OpenClaim := { program := "ythmkfodiekmkjaa", sum := "9f76ff5129da4a644ddefafc09bb1c134b566f2eecedff92663b0f089ac29574", func := "penstock/penstocklaw02.RowSums", spec := "rowSums", inPlace := ["internal/bytealg.abigen_runtime_cmpstring"], unfollowed := true, recurses := true, apart := false, narrowed := true }
def RowSumsUptoSaid : Prop := rowSumsUptoRow.holds Try.pinned (OpenSpec.upto rowSumsSpec)

/-- 'penstocklaw02.RowHashes', WHERE WHAT IT READS IS OF BULK AT MOST 1048576: true; the input reads as it did. -/
def rowHashesUptoRow : OpenClaim := { program := "ythmkfodiekmkjaa", sum := "9f76ff5129da4a644ddefafc09bb1c134b566f2eecedff92663b0f089ac29574", func := "penstock/penstocklaw02.RowHashes", spec := "rowHashes", inPlace := ["internal/bytealg.abigen_runtime_cmpstring"], unfollowed := true, recurses := true, apart := false, narrowed := true }
def RowHashesUptoSaid : Prop := rowHashesUptoRow.holds Try.pinned (OpenSpec.upto rowHashesSpec)

end Rows
end Go.Proofs.Ythmkfodiekmkjaa
