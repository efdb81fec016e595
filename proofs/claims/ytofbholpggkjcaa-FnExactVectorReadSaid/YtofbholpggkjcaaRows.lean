/-
  No cell of these rows narrows 'for every input' (looked for: loops, veiled, ifaces, maps, wideKeys, modest, calm, conditions, laid).
  DERIVED. THE GIVEN ROWS OF THIS SEAT. 6 by the template 'for every input the law returns true; each argument reads behind the call as it read before'; 0 by the template 'total and deterministic' (their statements: YtofbholpggkjcaaTotals.lean).
  GIVEN WITH THE SEED: the statements are not yours to turn. If you find one false, say at which input.
  Laid BY PROGRAM, IN A SANDBOX (cutbox-rows.mjs): the forced cells as the released guide's own fill.sh prints them over the translation 10d61213ef597f44… (all of the seat's roots in one cut). By AI agents, Wed Nov 11 2026. No macro, syntax, notation, axiom, sorry.
-/
import Derived.Test.YtofbholpggkjcaaChecked
import GoSem.Claim
import GoSem.ClaimJoined
import GoSem.ClaimMapViews
import Derived.JoinedTies
import Derived.KernelRfl
namespace Go.Proofs.Ytofbholpggkjcaa
/- THE CELL 'sum', in the pinned program and in every row, IS THE sha256 OF THE DUMP (.gsa) THAT YtofbholpggkjcaaProg.lean LOADS. Nothing in Lean hashes anything: it is a label: what it is worth is what the hold of that sum in a sandbox is worth. -/
noncomputable def Try.pinned : Pinned := { name := "ytofbholpggkjcaa", sum := "10d61213ef597f449720874184b1a73ace6ea586fd01cc59111f42c7b8559833", checked := Try.checked }
namespace Rows
def none {H : Type} : Left H := { results := [], args := [] }

/-- 'laws.FnExactVectorOk': WHATEVER THE INPUT: true; the input reads as it did. -/
def fnExactVectorOkSpec : ChangeSpec := { name := "fnExactVectorOk", fn := fun _ => fun
  | [d] => { results := [.lit (.bool true)], args := [d] }
  | _ => none }
def fnExactVectorOkRow : OpenClaim := { program := "ytofbholpggkjcaa", sum := "10d61213ef597f449720874184b1a73ace6ea586fd01cc59111f42c7b8559833", func := "loop.example/g00603/laws.FnExactVectorOk", spec := "fnExactVectorOk", apart := false }
def FnExactVectorOkSaid : Prop := fnExactVectorOkRow.holds Try.pinned (OpenSpec.ofChange fnExactVectorOkSpec)

/-- ITS FALSE NEIGHBOUR: 'it returns false'. Refute it at one input. -/
def fnExactVectorOkWrong : ChangeSpec := { name := "fnExactVectorOk", fn := fun _ => fun
  | [d] => { results := [.lit (.bool false)], args := [d] }
  | _ => none }
def FnExactVectorOkWrongFalsely : Prop := fnExactVectorOkRow.holds Try.pinned (OpenSpec.ofChange fnExactVectorOkWrong)

/-- 'laws.FnExactVectorText': WHATEVER THE INPUT: true; the input reads as it did. -/
def fnExactVectorTextSpec : ChangeSpec := { name := "fnExactVectorText", fn := fun _ => fun
  | [d] => { results := [.lit (.bool true)], args := [d] }
  | _ => none }
def fnExactVectorTextRow : OpenClaim := { program := "ytofbholpggkjcaa", sum := "10d61213ef597f449720874184b1a73ace6ea586fd01cc59111f42c7b8559833", func := "loop.example/g00603/laws.FnExactVectorText", spec := "fnExactVectorText", apart := false }
def FnExactVectorTextSaid : Prop := fnExactVectorTextRow.holds Try.pinned (OpenSpec.ofChange fnExactVectorTextSpec)

/-- ITS FALSE NEIGHBOUR: 'it returns false'. Refute it at one input. -/
def fnExactVectorTextWrong : ChangeSpec := { name := "fnExactVectorText", fn := fun _ => fun
  | [d] => { results := [.lit (.bool false)], args := [d] }
  | _ => none }
def FnExactVectorTextWrongFalsely : Prop := fnExactVectorTextRow.holds Try.pinned (OpenSpec.ofChange fnExactVectorTextWrong)

/-- 'laws.FnExactVectorRead': WHATEVER THE INPUT: true; the input reads as it did. -/
def fnExactVectorReadSpec : ChangeSpec := { name := "fnExactVectorRead", fn := fun _ => fun
  | [d] => { results := [.lit (.bool true)], args := [d] }
  | _ => none }
def fnExactVectorReadRow : OpenClaim := { program := "ytofbholpggkjcaa", sum := "10d61213ef597f449720874184b1a73ace6ea586fd01cc59111f42c7b8559833", func := "loop.example/g00603/laws.FnExactVectorRead", spec := "fnExactVectorRead", apart := false }
def FnExactVectorReadSaid : Prop := fnExactVectorReadRow.holds Try.pinned (OpenSpec.ofChange fnExactVectorReadSpec)

/-- ITS FALSE NEIGHBOUR: 'it returns false'. Refute it at one input. -/
def fnExactVectorReadWrong : ChangeSpec := { name := "fnExactVectorRead", fn := fun _ => fun
  | [d] => { results := [.lit (.bool false)], args := [d] }
  | _ => none }
def FnExactVectorReadWrongFalsely : Prop := fnExactVectorReadRow.holds Try.pinned (OpenSpec.ofChange fnExactVectorReadWrong)

/-- 'laws.FnExactVectorCmp': WHATEVER THE INPUT: true; the input reads as it did. -/
def fnExactVectorCmpSpec : ChangeSpec := { name := "fnExactVectorCmp", fn := fun _ => fun
  | [d1, d2] => { results := [.lit (.bool true)], args := [d1, d2] }
  | _ => none }
def fnExactVectorCmpRow : OpenClaim := { program := "ytofbholpggkjcaa", sum := "10d61213ef597f449720874184b1a73ace6ea586fd01cc59111f42c7b8559833", func := "loop.example/g00603/laws.FnExactVectorCmp", spec := "fnExactVectorCmp", apart := false }
def FnExactVectorCmpSaid : Prop := fnExactVectorCmpRow.holds Try.pinned (OpenSpec.ofChange fnExactVectorCmpSpec)

/-- ITS FALSE NEIGHBOUR: 'it returns false'. Refute it at one input. -/
def fnExactVectorCmpWrong : ChangeSpec := { name := "fnExactVectorCmp", fn := fun _ => fun
  | [d1, d2] => { results := [.lit (.bool false)], args := [d1, d2] }
  | _ => none }
def FnExactVectorCmpWrongFalsely : Prop := fnExactVectorCmpRow.holds Try.pinned (OpenSpec.ofChange fnExactVectorCmpWrong)

/-- 'laws.FnExactMeets': WHATEVER THE INPUT: true; the input reads as it did. -/
def fnExactMeetsSpec : ChangeSpec := { name := "fnExactMeets", fn := fun _ => fun
  | [d1, d2] => { results := [.lit (.bool true)], args := [d1, d2] }
  | _ => none }
def fnExactMeetsRow : OpenClaim := { program := "ytofbholpggkjcaa", sum := "10d61213ef597f449720874184b1a73ace6ea586fd01cc59111f42c7b8559833", func := "loop.example/g00603/laws.FnExactMeets", spec := "fnExactMeets", apart := false }
def FnExactMeetsSaid : Prop := fnExactMeetsRow.holds Try.pinned (OpenSpec.ofChange fnExactMeetsSpec)

/-- ITS FALSE NEIGHBOUR: 'it returns false'. Refute it at one input. -/
def fnExactMeetsWrong : ChangeSpec := { name := "fnExactMeets", fn := fun _ => fun
  | [d1, d2] => { results := [.lit (.bool false)], args := [d1, d2] }
  | _ => none }
def FnExactMeetsWrongFalsely : Prop := fnExactMeetsRow.holds Try.pinned (OpenSpec.ofChange fnExactMeetsWrong)

/-- 'laws.FnExactRefines': WHATEVER THE INPUT: true; the input reads as it did. -/
def fnExactRefinesSpec : ChangeSpec := { name := "fnExactRefines", fn := fun _ => fun
  | [d1, d2] => { results := [.lit (.bool true)], args := [d1, d2] }
  | _ => none }
def fnExactRefinesRow : OpenClaim := { program := "ytofbholpggkjcaa", sum := "10d61213ef597f449720874184b1a73ace6ea586fd01cc59111f42c7b8559833", func := "loop.example/g00603/laws.FnExactRefines", spec := "fnExactRefines", apart := false }
def FnExactRefinesSaid : Prop := fnExactRefinesRow.holds Try.pinned (OpenSpec.ofChange fnExactRefinesSpec)

/-- ITS FALSE NEIGHBOUR: 'it returns false'. Refute it at one input. -/
def fnExactRefinesWrong : ChangeSpec := { name := "fnExactRefines", fn := fun _ => fun
  | [d1, d2] => { results := [.lit (.bool false)], args := [d1, d2] }
  | _ => none }
def FnExactRefinesWrongFalsely : Prop := fnExactRefinesRow.holds Try.pinned (OpenSpec.ofChange fnExactRefinesWrong)

/- THE SECOND FORM. 'bulk': how many values and letters a reading holds, each counted each time it is reached (what is shared counts as often as it is met; a slice's spare places count too). A statement '..UptoSaid' is the law's where the arguments, and the package variables that the reading takes, are together of bulk at most 1048576: NARROWER than '..Said'. Prove '..Said' where nothing that the law and all that it calls make is longer than what came in: it says more and counts as full. Else prove '..UptoSaid'. A law counts once. -/
mutual
def uptoBulk {H : Type} : DataW H → Nat
  | .lit (.string bytes) => bytes.length + 1
  | .lit _ => 1
  | .nil => 1
  | .ptr d => uptoBulk d + 1
  | .slice elems spare => uptoBulkAll elems + uptoBulkAll spare + 1
  | .agg parts => uptoBulkAll parts + 1
  | .iface _ d => uptoBulk d + 1
  | .map entries => uptoBulkEntries entries + 1
  | .held _ => 1
def uptoBulkAll {H : Type} : List (DataW H) → Nat
  | [] => 0
  | d :: r => uptoBulk d + uptoBulkAll r
def uptoBulkEntries {H : Type} : List (Lit × DataW H) → Nat
  | [] => 0
  | x :: r => uptoBulkEntry x + uptoBulkEntries r
def uptoBulkEntry {H : Type} : Lit × DataW H → Nat
  | (.string bytes, d) => bytes.length + uptoBulk d + 1
  | (_, d) => uptoBulk d + 1
 end
def uptoSmall : (H : Type) → List (DataW H) → Bool := fun _ ds => decide (uptoBulkAll ds ≤ 1048576)
def OpenSpec.upto (s : _root_.Go.ChangeSpec) : _root_.Go.OpenSpec := { _root_.Go.OpenSpec.ofChange s with cond := some uptoSmall }

/-- 'laws.FnExactVectorOk', WHERE WHAT IT READS IS OF BULK AT MOST 1048576: true; the input reads as it did. -/
def fnExactVectorOkUptoRow : OpenClaim := { program := "ytofbholpggkjcaa", sum := "10d61213ef597f449720874184b1a73ace6ea586fd01cc59111f42c7b8559833", func := "loop.example/g00603/laws.FnExactVectorOk", spec := "fnExactVectorOk", apart := false, narrowed := true }
def FnExactVectorOkUptoSaid : Prop := fnExactVectorOkUptoRow.holds Try.pinned (OpenSpec.upto fnExactVectorOkSpec)

/-- 'laws.FnExactVectorText', WHERE WHAT IT READS IS OF BULK AT MOST 1048576: true; the input reads as it did. -/
def fnExactVectorTextUptoRow : OpenClaim := { program := "ytofbholpggkjcaa", sum := "10d61213ef597f449720874184b1a73ace6ea586fd01cc59111f42c7b8559833", func := "loop.example/g00603/laws.FnExactVectorText", spec := "fnExactVectorText", apart := false, narrowed := true }
def FnExactVectorTextUptoSaid : Prop := fnExactVectorTextUptoRow.holds Try.pinned (OpenSpec.upto fnExactVectorTextSpec)

/-- 'laws.FnExactVectorRead', WHERE WHAT IT READS IS OF BULK AT MOST 1048576: true; the input reads as it did. -/
def fnExactVectorReadUptoRow : OpenClaim := { program := "ytofbholpggkjcaa", sum := "10d61213ef597f449720874184b1a73ace6ea586fd01cc59111f42c7b8559833", func := "loop.example/g00603/laws.FnExactVectorRead", spec := "fnExactVectorRead", apart := false, narrowed := true }
def FnExactVectorReadUptoSaid : Prop := fnExactVectorReadUptoRow.holds Try.pinned (OpenSpec.upto fnExactVectorReadSpec)

/-- 'laws.FnExactVectorCmp', WHERE WHAT IT READS IS OF BULK AT MOST 1048576: true; the input reads as it did. -/
def fnExactVectorCmpUptoRow : OpenClaim := { program := "ytofbholpggkjcaa", sum := "10d61213ef597f449720874184b1a73ace6ea586fd01cc59111f42c7b8559833", func := "loop.example/g00603/laws.FnExactVectorCmp", spec := "fnExactVectorCmp", apart := false, narrowed := true }
def FnExactVectorCmpUptoSaid : Prop := fnExactVectorCmpUptoRow.holds Try.pinned (OpenSpec.upto fnExactVectorCmpSpec)

/-- 'laws.FnExactMeets', WHERE WHAT IT READS IS OF BULK AT MOST 1048576: true; the input reads as it did. -/
def fnExactMeetsUptoRow : OpenClaim := { program := "ytofbholpggkjcaa", sum := "10d61213ef597f449720874184b1a73ace6ea586fd01cc59111f42c7b8559833", func := "loop.example/g00603/laws.FnExactMeets", spec := "fnExactMeets", apart := false, narrowed := true }
def FnExactMeetsUptoSaid : Prop := fnExactMeetsUptoRow.holds Try.pinned (OpenSpec.upto fnExactMeetsSpec)

/-- 'laws.FnExactRefines', WHERE WHAT IT READS IS OF BULK AT MOST 1048576: true; the input reads as it did. -/
def fnExactRefinesUptoRow : OpenClaim := { program := "ytofbholpggkjcaa", sum := "10d61213ef597f449720874184b1a73ace6ea586fd01cc59111f42c7b8559833", func := "loop.example/g00603/laws.FnExactRefines", spec := "fnExactRefines", apart := false, narrowed := true }
def FnExactRefinesUptoSaid : Prop := fnExactRefinesUptoRow.holds Try.pinned (OpenSpec.upto fnExactRefinesSpec)

end Rows
end Go.Proofs.Ytofbholpggkjcaa
