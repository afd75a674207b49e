/-
  No cell of these rows narrows 'for every input' (looked for: loops, veiled, ifaces, maps, wideKeys, modest, calm, conditions, laid).
  DERIVED. THE GIVEN ROWS OF THIS SEAT. 5 by the template 'for every input the law returns true; each argument reads behind the call as it read before'; 0 by the template 'total and deterministic' (their statements: YtnmbbkagjpmhdaaTotals.lean).
  GIVEN WITH THE SEED: the statements are not yours to turn. If you find one false, say at which input.
  Laid BY PROGRAM, IN A SANDBOX (cutbox-rows.mjs): the forced cells as the released guide's own fill.sh prints them over the translation f3aff53b338433ee… (all of the seat's roots in one cut). By AI agents, Wed Nov 11 2026. No macro, syntax, notation, axiom, sorry.
-/
import Derived.Test.YtnmbbkagjpmhdaaChecked
import GoSem.Claim
import GoSem.ClaimJoined
import GoSem.ClaimMapViews
import Derived.JoinedTies
import Derived.KernelRfl
namespace Go.Proofs.Ytnmbbkagjpmhdaa
/- THE CELL 'sum', in the pinned program and in every row, IS THE sha256 OF THE DUMP (.gsa) THAT YtnmbbkagjpmhdaaProg.lean LOADS. Nothing in Lean hashes anything: it is a label: what it is worth is what the hold of that sum in a sandbox is worth. -/
noncomputable def Try.pinned : Pinned := { name := "ytnmbbkagjpmhdaa", sum := "f3aff53b338433ee114bd7dea122e4180058fdd3c57056925f6f387ce1ee09a4", checked := Try.checked }
namespace Rows
def none {H : Type} : Left H := { results := [], args := [] }

/-- 'laws.FnRows': WHATEVER THE INPUT: true; the input reads as it did. -/
def fnRowsSpec : ChangeSpec := { name := "fnRows", fn := fun _ => fun
  | [d] => { results := [.lit (.bool true)], args := [d] }
  | _ => none }
def fnRowsRow : OpenClaim := { program := "ytnmbbkagjpmhdaa", sum := "f3aff53b338433ee114bd7dea122e4180058fdd3c57056925f6f387ce1ee09a4", func := "loop.example/g00393/laws.FnRows", spec := "fnRows", unfollowed := true, recurses := true, apart := false }
def FnRowsSaid : Prop := fnRowsRow.holds Try.pinned (OpenSpec.ofChange fnRowsSpec)

/-- ITS FALSE NEIGHBOUR: 'it returns false'. Refute it at one input. -/
def fnRowsWrong : ChangeSpec := { name := "fnRows", fn := fun _ => fun
  | [d] => { results := [.lit (.bool false)], args := [d] }
  | _ => none }
def FnRowsWrongFalsely : Prop := fnRowsRow.holds Try.pinned (OpenSpec.ofChange fnRowsWrong)

/-- 'laws.FnTrimmed': WHATEVER THE INPUT: true; the input reads as it did. -/
def fnTrimmedSpec : ChangeSpec := { name := "fnTrimmed", fn := fun _ => fun
  | [d] => { results := [.lit (.bool true)], args := [d] }
  | _ => none }
def fnTrimmedRow : OpenClaim := { program := "ytnmbbkagjpmhdaa", sum := "f3aff53b338433ee114bd7dea122e4180058fdd3c57056925f6f387ce1ee09a4", func := "loop.example/g00393/laws.FnTrimmed", spec := "fnTrimmed", unfollowed := true, recurses := true, apart := false }
def FnTrimmedSaid : Prop := fnTrimmedRow.holds Try.pinned (OpenSpec.ofChange fnTrimmedSpec)

/-- ITS FALSE NEIGHBOUR: 'it returns false'. Refute it at one input. -/
def fnTrimmedWrong : ChangeSpec := { name := "fnTrimmed", fn := fun _ => fun
  | [d] => { results := [.lit (.bool false)], args := [d] }
  | _ => none }
def FnTrimmedWrongFalsely : Prop := fnTrimmedRow.holds Try.pinned (OpenSpec.ofChange fnTrimmedWrong)

/-- 'laws.FnPacked': WHATEVER THE INPUT: true; the input reads as it did. -/
def fnPackedSpec : ChangeSpec := { name := "fnPacked", fn := fun _ => fun
  | [d] => { results := [.lit (.bool true)], args := [d] }
  | _ => none }
def fnPackedRow : OpenClaim := { program := "ytnmbbkagjpmhdaa", sum := "f3aff53b338433ee114bd7dea122e4180058fdd3c57056925f6f387ce1ee09a4", func := "loop.example/g00393/laws.FnPacked", spec := "fnPacked", unfollowed := true, recurses := true, apart := false }
def FnPackedSaid : Prop := fnPackedRow.holds Try.pinned (OpenSpec.ofChange fnPackedSpec)

/-- ITS FALSE NEIGHBOUR: 'it returns false'. Refute it at one input. -/
def fnPackedWrong : ChangeSpec := { name := "fnPacked", fn := fun _ => fun
  | [d] => { results := [.lit (.bool false)], args := [d] }
  | _ => none }
def FnPackedWrongFalsely : Prop := fnPackedRow.holds Try.pinned (OpenSpec.ofChange fnPackedWrong)

/-- 'laws.FnExactRowTrim': WHATEVER THE INPUT: true; the input reads as it did. -/
def fnExactRowTrimSpec : ChangeSpec := { name := "fnExactRowTrim", fn := fun _ => fun
  | [d1, d2, d3] => { results := [.lit (.bool true)], args := [d1, d2, d3] }
  | _ => none }
def fnExactRowTrimRow : OpenClaim := { program := "ytnmbbkagjpmhdaa", sum := "f3aff53b338433ee114bd7dea122e4180058fdd3c57056925f6f387ce1ee09a4", func := "loop.example/g00393/laws.FnExactRowTrim", spec := "fnExactRowTrim", unfollowed := true, recurses := true, apart := false }
def FnExactRowTrimSaid : Prop := fnExactRowTrimRow.holds Try.pinned (OpenSpec.ofChange fnExactRowTrimSpec)

/-- ITS FALSE NEIGHBOUR: 'it returns false'. Refute it at one input. -/
def fnExactRowTrimWrong : ChangeSpec := { name := "fnExactRowTrim", fn := fun _ => fun
  | [d1, d2, d3] => { results := [.lit (.bool false)], args := [d1, d2, d3] }
  | _ => none }
def FnExactRowTrimWrongFalsely : Prop := fnExactRowTrimRow.holds Try.pinned (OpenSpec.ofChange fnExactRowTrimWrong)

/-- 'laws.FnExactRowPack': WHATEVER THE INPUT: true; the input reads as it did. -/
def fnExactRowPackSpec : ChangeSpec := { name := "fnExactRowPack", fn := fun _ => fun
  | [d1, d2] => { results := [.lit (.bool true)], args := [d1, d2] }
  | _ => none }
def fnExactRowPackRow : OpenClaim := { program := "ytnmbbkagjpmhdaa", sum := "f3aff53b338433ee114bd7dea122e4180058fdd3c57056925f6f387ce1ee09a4", func := "loop.example/g00393/laws.FnExactRowPack", spec := "fnExactRowPack", unfollowed := true, recurses := true, apart := false }
def FnExactRowPackSaid : Prop := fnExactRowPackRow.holds Try.pinned (OpenSpec.ofChange fnExactRowPackSpec)

/-- ITS FALSE NEIGHBOUR: 'it returns false'. Refute it at one input. -/
def fnExactRowPackWrong : ChangeSpec := { name := "fnExactRowPack", fn := fun _ => fun
  | [d1, d2] => { results := [.lit (.bool false)], args := [d1, d2] }
  | _ => none }
def FnExactRowPackWrongFalsely : Prop := fnExactRowPackRow.holds Try.pinned (OpenSpec.ofChange fnExactRowPackWrong)

/- THE SECOND FORM. 'bulk': how many values and letters a reading holds, each counted each time it is reached (what is shared counts as often as it is met; a slice's spare places count too). A statement '..UptoSaid' is the law's where the arguments, and the package variables that the reading takes, are together of bulk at most 1048576: NARROWER than '..Said'. Prove '..Said' where nothing that the law and all that it calls make is longer than what came in: it says more and counts as full. Else prove '..UptoSaid'. A law counts once. -/
mutual
def uptoBulk {H : Type} : DataW H → Nat
  | .lit (.string bytes) => bytes.length + 1
  | .lit _ => 1
  | .nil => 1
  | .ptr d => uptoBulk d + 1
  | .slice elems spare => uptoBulkAll elems + uptoBulkAll spare + 1
  | .agg parts => uptoBulkAll parts + 1
  | .iface _ d => uptoBulk d + 1
  | .map entries => uptoBulkEntries entries + 1
  | .held _ => 1
def uptoBulkAll {H : Type} : List (DataW H) → Nat
  | [] => 0
  | d :: r => uptoBulk d + uptoBulkAll r
def uptoBulkEntries {H : Type} : List (Lit × DataW H) → Nat
  | [] => 0
  | x :: r => uptoBulkEntry x + uptoBulkEntries r
def uptoBulkEntry {H : Type} : Lit × DataW H → Nat
  | (.string bytes, d) => bytes.length + uptoBulk d + 1
  | (_, d) => uptoBulk d + 1
 end
def uptoSmall : (H : Type) → List (DataW H) → Bool := fun _ ds => decide (uptoBulkAll ds ≤ 1048576)
def OpenSpec.upto (s : _root_.Go.ChangeSpec) : _root_.Go.OpenSpec := { _root_.Go.OpenSpec.ofChange s with cond := some uptoSmall }

/-- 'laws.FnRows', WHERE WHAT IT READS IS OF BULK AT MOST 1048576: true; the input reads as it did. -/
def fnRowsUptoRow : OpenClaim := { program := "ytnmbbkagjpmhdaa", sum := "f3aff53b338433ee114bd7dea122e4180058fdd3c57056925f6f387ce1ee09a4", func := "loop.example/g00393/laws.FnRows", spec := "fnRows", unfollowed := true, recurses := true, apart := false, narrowed := true }
def FnRowsUptoSaid : Prop := fnRowsUptoRow.holds Try.pinned (OpenSpec.upto fnRowsSpec)

/-- 'laws.FnTrimmed', WHERE WHAT IT READS IS OF BULK AT MOST 1048576: true; the input reads as it did. -/
def fnTrimmedUptoRow : OpenClaim := { program := "ytnmbbkagjpmhdaa", sum := "f3aff53b338433ee114bd7dea122e4180058fdd3c57056925f6f387ce1ee09a4", func := "loop.example/g00393/laws.FnTrimmed", spec := "fnTrimmed", unfollowed := true, recurses := true, apart := false, narrowed := true }
def FnTrimmedUptoSaid : Prop := fnTrimmedUptoRow.holds Try.pinned (OpenSpec.upto fnTrimmedSpec)

/-- 'laws.FnPacked', WHERE WHAT IT READS IS OF BULK AT MOST 1048576: true; the input reads as it did. -/
def fnPackedUptoRow : OpenClaim := { program := "ytnmbbkagjpmhdaa", sum := "f3aff53b338433ee114bd7dea122e4180058fdd3c57056925f6f387ce1ee09a4", func := "loop.example/g00393/laws.FnPacked", spec := "fnPacked", unfollowed := true, recurses := true, apart := false, narrowed := true }
def FnPackedUptoSaid : Prop := fnPackedUptoRow.holds Try.pinned (OpenSpec.upto fnPackedSpec)

/-- 'laws.FnExactRowTrim', WHERE WHAT IT READS IS OF BULK AT MOST 1048576: true; the input reads as it did. -/
def fnExactRowTrimUptoRow : OpenClaim := { program := "ytnmbbkagjpmhdaa", sum := "f3aff53b338433ee114bd7dea122e4180058fdd3c57056925f6f387ce1ee09a4", func := "loop.example/g00393/laws.FnExactRowTrim", spec := "fnExactRowTrim", unfollowed := true, recurses := true, apart := false, narrowed := true }
def FnExactRowTrimUptoSaid : Prop := fnExactRowTrimUptoRow.holds Try.pinned (OpenSpec.upto fnExactRowTrimSpec)

/-- 'laws.FnExactRowPack', WHERE WHAT IT READS IS OF BULK AT MOST 1048576: true; the input reads as it did. -/
def fnExactRowPackUptoRow : OpenClaim := { program := "ytnmbbkagjpmhdaa", sum := "f3aff53b338433ee114bd7dea122e4180058fdd3c57056925f6f387ce1ee09a4", func := "loop.example/g00393/laws.FnExactRowPack", spec := "fnExactRowPack", unfollowed := true, recurses := true, apart := false, narrowed := true }
def FnExactRowPackUptoSaid : Prop := fnExactRowPackUptoRow.holds Try.pinned (OpenSpec.upto fnExactRowPackSpec)

end Rows
end Go.Proofs.Ytnmbbkagjpmhdaa
