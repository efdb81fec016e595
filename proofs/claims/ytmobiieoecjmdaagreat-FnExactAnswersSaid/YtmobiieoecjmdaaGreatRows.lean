/-
  No cell of these rows narrows 'for every input' (looked for: loops, veiled, ifaces, maps, wideKeys, modest, calm, conditions, laid).
  DERIVED. THE GIVEN ROWS OF THIS SEAT. 6 by the template 'for every input the law returns true; each argument reads behind the call as it read before'; 0 by the template 'total and deterministic' (their statements: YtmobiieoecjmdaaGreatTotals.lean).
  GIVEN WITH THE SEED: the statements are not yours to turn. If you find one false, say at which input.
  Laid BY PROGRAM, IN A SANDBOX (cutbox-rows.mjs): the forced cells as the released guide's own fill.sh prints them over the translation 22c94f3b7005c2fc… (all of the seat's roots in one cut). By AI agents, Wed Nov 11 2026. No macro, syntax, notation, axiom, sorry.
-/
import Derived.Test.YtmobiieoecjmdaaGreatChecked
import GoSem.Claim
import GoSem.ClaimJoined
import GoSem.ClaimMapViews
import Derived.JoinedTies
import Derived.KernelRfl
namespace Go.Proofs.YtmobiieoecjmdaaGreat
/- THE CELL 'sum', in the pinned program and in every row, IS THE sha256 OF THE DUMP (.gsa) THAT YtmobiieoecjmdaaGreatProg.lean LOADS. Nothing in Lean hashes anything: it is a label: what it is worth is what the hold of that sum in a sandbox is worth. -/
noncomputable def Tryz.pinned : Pinned := { name := "ytmobiieoecjmdaagreat", sum := "22c94f3b7005c2fcad642d55c398c256458ab7ed5ce474b905237b9d012b6de2", checked := Tryz.checked }
namespace Rows
def none {H : Type} : Left H := { results := [], args := [] }

/-- 'laws.FnExactVectors': WHATEVER THE INPUT: true; the input reads as it did. -/
def fnExactVectorsSpec : ChangeSpec := { name := "fnExactVectors", fn := fun _ => fun
  | [d] => { results := [.lit (.bool true)], args := [d] }
  | _ => none }
def fnExactVectorsRow : OpenClaim := { program := "ytmobiieoecjmdaagreat", sum := "22c94f3b7005c2fcad642d55c398c256458ab7ed5ce474b905237b9d012b6de2", func := "loop.example/g00603/laws.FnExactVectors", spec := "fnExactVectors", unfollowed := true, recurses := true, plainKeys := false, apart := false }
def FnExactVectorsSaid : Prop := fnExactVectorsRow.holds Tryz.pinned (OpenSpec.ofChange fnExactVectorsSpec)

/-- ITS FALSE NEIGHBOUR: 'it returns false'. Refute it at one input. -/
def fnExactVectorsWrong : ChangeSpec := { name := "fnExactVectors", fn := fun _ => fun
  | [d] => { results := [.lit (.bool false)], args := [d] }
  | _ => none }
def FnExactVectorsWrongFalsely : Prop := fnExactVectorsRow.holds Tryz.pinned (OpenSpec.ofChange fnExactVectorsWrong)

/-- 'laws.FnExactUndone': WHATEVER THE INPUT: true; the input reads as it did. -/
def fnExactUndoneSpec : ChangeSpec := { name := "fnExactUndone", fn := fun _ => fun
  | [d] => { results := [.lit (.bool true)], args := [d] }
  | _ => none }
def fnExactUndoneRow : OpenClaim := { program := "ytmobiieoecjmdaagreat", sum := "22c94f3b7005c2fcad642d55c398c256458ab7ed5ce474b905237b9d012b6de2", func := "loop.example/g00603/laws.FnExactUndone", spec := "fnExactUndone", unfollowed := true, recurses := true, plainKeys := false, apart := false }
def FnExactUndoneSaid : Prop := fnExactUndoneRow.holds Tryz.pinned (OpenSpec.ofChange fnExactUndoneSpec)

/-- ITS FALSE NEIGHBOUR: 'it returns false'. Refute it at one input. -/
def fnExactUndoneWrong : ChangeSpec := { name := "fnExactUndone", fn := fun _ => fun
  | [d] => { results := [.lit (.bool false)], args := [d] }
  | _ => none }
def FnExactUndoneWrongFalsely : Prop := fnExactUndoneRow.holds Tryz.pinned (OpenSpec.ofChange fnExactUndoneWrong)

/-- 'laws.FnExactCommitted': WHATEVER THE INPUT: true; the input reads as it did. -/
def fnExactCommittedSpec : ChangeSpec := { name := "fnExactCommitted", fn := fun _ => fun
  | [d] => { results := [.lit (.bool true)], args := [d] }
  | _ => none }
def fnExactCommittedRow : OpenClaim := { program := "ytmobiieoecjmdaagreat", sum := "22c94f3b7005c2fcad642d55c398c256458ab7ed5ce474b905237b9d012b6de2", func := "loop.example/g00603/laws.FnExactCommitted", spec := "fnExactCommitted", unfollowed := true, recurses := true, plainKeys := false, apart := false }
def FnExactCommittedSaid : Prop := fnExactCommittedRow.holds Tryz.pinned (OpenSpec.ofChange fnExactCommittedSpec)

/-- ITS FALSE NEIGHBOUR: 'it returns false'. Refute it at one input. -/
def fnExactCommittedWrong : ChangeSpec := { name := "fnExactCommitted", fn := fun _ => fun
  | [d] => { results := [.lit (.bool false)], args := [d] }
  | _ => none }
def FnExactCommittedWrongFalsely : Prop := fnExactCommittedRow.holds Tryz.pinned (OpenSpec.ofChange fnExactCommittedWrong)

/-- 'laws.FnExactAnswers': WHATEVER THE INPUT: true; the input reads as it did. -/
def fnExactAnswersSpec : ChangeSpec := { name := "fnExactAnswers", fn := fun _ => fun
  | [d1, d2] => { results := [.lit (.bool true)], args := [d1, d2] }
  | _ => none }
def fnExactAnswersRow : OpenClaim := { program := "ytmobiieoecjmdaagreat", sum := "22c94f3b7005c2fcad642d55c398c256458ab7ed5ce474b905237b9d012b6de2", func := "loop.example/g00603/laws.FnExactAnswers", spec := "fnExactAnswers", unfollowed := true, recurses := true, plainKeys := false, apart := false }
def FnExactAnswersSaid : Prop := fnExactAnswersRow.holds Tryz.pinned (OpenSpec.ofChange fnExactAnswersSpec)

/-- ITS FALSE NEIGHBOUR: 'it returns false'. Refute it at one input. -/
def fnExactAnswersWrong : ChangeSpec := { name := "fnExactAnswers", fn := fun _ => fun
  | [d1, d2] => { results := [.lit (.bool false)], args := [d1, d2] }
  | _ => none }
def FnExactAnswersWrongFalsely : Prop := fnExactAnswersRow.holds Tryz.pinned (OpenSpec.ofChange fnExactAnswersWrong)

/-- 'laws.FnExactTable': WHATEVER THE INPUT: true; the input reads as it did. -/
def fnExactTableSpec : ChangeSpec := { name := "fnExactTable", fn := fun _ => fun
  | [d1, d2] => { results := [.lit (.bool true)], args := [d1, d2] }
  | _ => none }
def fnExactTableRow : OpenClaim := { program := "ytmobiieoecjmdaagreat", sum := "22c94f3b7005c2fcad642d55c398c256458ab7ed5ce474b905237b9d012b6de2", func := "loop.example/g00603/laws.FnExactTable", spec := "fnExactTable", unfollowed := true, recurses := true, plainKeys := false, apart := false }
def FnExactTableSaid : Prop := fnExactTableRow.holds Tryz.pinned (OpenSpec.ofChange fnExactTableSpec)

/-- ITS FALSE NEIGHBOUR: 'it returns false'. Refute it at one input. -/
def fnExactTableWrong : ChangeSpec := { name := "fnExactTable", fn := fun _ => fun
  | [d1, d2] => { results := [.lit (.bool false)], args := [d1, d2] }
  | _ => none }
def FnExactTableWrongFalsely : Prop := fnExactTableRow.holds Tryz.pinned (OpenSpec.ofChange fnExactTableWrong)

/-- 'laws.FnExactDiffer': WHATEVER THE INPUT: true; the input reads as it did. -/
def fnExactDifferSpec : ChangeSpec := { name := "fnExactDiffer", fn := fun _ => fun
  | [d1, d2, d3] => { results := [.lit (.bool true)], args := [d1, d2, d3] }
  | _ => none }
def fnExactDifferRow : OpenClaim := { program := "ytmobiieoecjmdaagreat", sum := "22c94f3b7005c2fcad642d55c398c256458ab7ed5ce474b905237b9d012b6de2", func := "loop.example/g00603/laws.FnExactDiffer", spec := "fnExactDiffer", unfollowed := true, recurses := true, plainKeys := false, apart := false }
def FnExactDifferSaid : Prop := fnExactDifferRow.holds Tryz.pinned (OpenSpec.ofChange fnExactDifferSpec)

/-- ITS FALSE NEIGHBOUR: 'it returns false'. Refute it at one input. -/
def fnExactDifferWrong : ChangeSpec := { name := "fnExactDiffer", fn := fun _ => fun
  | [d1, d2, d3] => { results := [.lit (.bool false)], args := [d1, d2, d3] }
  | _ => none }
def FnExactDifferWrongFalsely : Prop := fnExactDifferRow.holds Tryz.pinned (OpenSpec.ofChange fnExactDifferWrong)

/- THE SECOND FORM. 'bulk': how many values and letters a reading holds, each counted each time it is reached (what is shared counts as often as it is met; a slice's spare places count too). A statement '..UptoSaid' is the law's where the arguments, and the package variables that the reading takes, are together of bulk at most 1048576: NARROWER than '..Said'. Prove '..Said' where nothing that the law and all that it calls make is longer than what came in: it says more and counts as full. Else prove '..UptoSaid'. A law counts once. -/
mutual
def uptoBulk {H : Type} : DataW H → Nat
  | .lit (.string bytes) => bytes.length + 1
  | .lit _ => 1
  | .nil => 1
  | .ptr d => uptoBulk d + 1
  | .slice elems spare => uptoBulkAll elems + uptoBulkAll spare + 1
  | .agg parts => uptoBulkAll parts + 1
  | .iface _ d => uptoBulk d + 1
  | .map entries => uptoBulkEntries entries + 1
  | .held _ => 1
def uptoBulkAll {H : Type} : List (DataW H) → Nat
  | [] => 0
  | d :: r => uptoBulk d + uptoBulkAll r
def uptoBulkEntries {H : Type} : List (Lit × DataW H) → Nat
  | [] => 0
  | x :: r => uptoBulkEntry x + uptoBulkEntries r
def uptoBulkEntry {H : Type} : Lit × DataW H → Nat
  | (.string bytes, d) => bytes.length + uptoBulk d + 1
  | (_, d) => uptoBulk d + 1
 end
def uptoSmall : (H : Type) → List (DataW H) → Bool := fun _ ds => decide (uptoBulkAll ds ≤ 1048576)
def OpenSpec.upto (s : _root_.Go.ChangeSpec) : _root_.Go.OpenSpec := { _root_.Go.OpenSpec.ofChange s with cond := some uptoSmall }

/-- 'laws.FnExactVectors', WHERE WHAT IT READS IS OF BULK AT MOST 1048576: true; the input reads as it did. -/
def fnExactVectorsUptoRow : OpenClaim := { program := "ytmobiieoecjmdaagreat", sum := "22c94f3b7005c2fcad642d55c398c256458ab7ed5ce474b905237b9d012b6de2", func := "loop.example/g00603/laws.FnExactVectors", spec := "fnExactVectors", unfollowed := true, recurses := true, plainKeys := false, apart := false, narrowed := true }
def FnExactVectorsUptoSaid : Prop := fnExactVectorsUptoRow.holds Tryz.pinned (OpenSpec.upto fnExactVectorsSpec)

/-- 'laws.FnExactUndone', WHERE WHAT IT READS IS OF BULK AT MOST 1048576: true; the input reads as it did. -/
def fnExactUndoneUptoRow : OpenClaim := { program := "ytmobiieoecjmdaagreat", sum := "22c94f3b7005c2fcad642d55c398c256458ab7ed5ce474b905237b9d012b6de2", func := "loop.example/g00603/laws.FnExactUndone", spec := "fnExactUndone", unfollowed := true, recurses := true, plainKeys := false, apart := false, narrowed := true }
def FnExactUndoneUptoSaid : Prop := fnExactUndoneUptoRow.holds Tryz.pinned (OpenSpec.upto fnExactUndoneSpec)

/-- 'laws.FnExactCommitted', WHERE WHAT IT READS IS OF BULK AT MOST 1048576: true; the input reads as it did. -/
def fnExactCommittedUptoRow : OpenClaim := { program := "ytmobiieoecjmdaagreat", sum := "22c94f3b7005c2fcad642d55c398c256458ab7ed5ce474b905237b9d012b6de2", func := "loop.example/g00603/laws.FnExactCommitted", spec := "fnExactCommitted", unfollowed := true, recurses := true, plainKeys := false, apart := false, narrowed := true }
def FnExactCommittedUptoSaid : Prop := fnExactCommittedUptoRow.holds Tryz.pinned (OpenSpec.upto fnExactCommittedSpec)

/-- 'laws.FnExactAnswers', WHERE WHAT IT READS IS OF BULK AT MOST 1048576: true; the input reads as it did. -/
def fnExactAnswersUptoRow : OpenClaim := { program := "ytmobiieoecjmdaagreat", sum := "22c94f3b7005c2fcad642d55c398c256458ab7ed5ce474b905237b9d012b6de2", func := "loop.example/g00603/laws.FnExactAnswers", spec := "fnExactAnswers", unfollowed := true, recurses := true, plainKeys := false, apart := false, narrowed := true }
def FnExactAnswersUptoSaid : Prop := fnExactAnswersUptoRow.holds Tryz.pinned (OpenSpec.upto fnExactAnswersSpec)

/-- 'laws.FnExactTable', WHERE WHAT IT READS IS OF BULK AT MOST 1048576: true; the input reads as it did. -/
def fnExactTableUptoRow : OpenClaim := { program := "ytmobiieoecjmdaagreat", sum := "22c94f3b7005c2fcad642d55c398c256458ab7ed5ce474b905237b9d012b6de2", func := "loop.example/g00603/laws.FnExactTable", spec := "fnExactTable", unfollowed := true, recurses := true, plainKeys := false, apart := false, narrowed := true }
def FnExactTableUptoSaid : Prop := fnExactTableUptoRow.holds Tryz.pinned (OpenSpec.upto fnExactTableSpec)

/-- 'laws.FnExactDiffer', WHERE WHAT IT READS IS OF BULK AT MOST 1048576: true; the input reads as it did. -/
def fnExactDifferUptoRow : OpenClaim := { program := "ytmobiieoecjmdaagreat", sum := "22c94f3b7005c2fcad642d55c398c256458ab7ed5ce474b905237b9d012b6de2", func := "loop.example/g00603/laws.FnExactDiffer", spec := "fnExactDiffer", unfollowed := true, recurses := true, plainKeys := false, apart := false, narrowed := true }
def FnExactDifferUptoSaid : Prop := fnExactDifferUptoRow.holds Tryz.pinned (OpenSpec.upto fnExactDifferSpec)

end Rows
end Go.Proofs.YtmobiieoecjmdaaGreat
