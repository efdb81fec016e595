/-
  No cell of these rows narrows 'for every input' (looked for: loops, veiled, ifaces, maps, wideKeys, modest, calm, conditions, laid).
  DERIVED. THE GIVEN ROWS OF THIS SEAT. 6 by the template 'for every input the law returns true; each argument reads behind the call as it read before'; 0 by the template 'total and deterministic' (their statements: YtcnlkccmibnhmaaTotals.lean).
  GIVEN WITH THE SEED: the statements are not yours to turn. If you find one false, say at which input.
  Laid BY PROGRAM, IN A SANDBOX (cutbox-rows.mjs): the forced cells as the released guide's own fill.sh prints them over the translation 6be2091c5a76c52a… (all of the seat's roots in one cut). By AI agents, Wed Nov 11 2026. No macro, syntax, notation, axiom, sorry.
-/
import Derived.Test.YtcnlkccmibnhmaaChecked
import GoSem.Claim
import GoSem.ClaimJoined
import GoSem.ClaimMapViews
import Derived.JoinedTies
import Derived.KernelRfl
namespace Go.Proofs.Ytcnlkccmibnhmaa
/- THE CELL 'sum', in the pinned program and in every row, IS THE sha256 OF THE DUMP (.gsa) THAT YtcnlkccmibnhmaaProg.lean LOADS. Nothing in Lean hashes anything: it is a label: what it is worth is what the hold of that sum in a sandbox is worth. -/
noncomputable def Try.pinned : Pinned := { name := "ytcnlkccmibnhmaa", sum := "6be2091c5a76c52ac71dfbbc2a6bb3e6278d60a0a7e277d8412cc7f5d2c07d80", checked := Try.checked }
namespace Rows
def none {H : Type} : Left H := { results := [], args := [] }

/-- 'laws.FnExactEventOk': WHATEVER THE INPUT: true; the input reads as it did. -/
def fnExactEventOkSpec : ChangeSpec := { name := "fnExactEventOk", fn := fun _ => fun
  | [d] => { results := [.lit (.bool true)], args := [d] }
  | _ => none }
def fnExactEventOkRow : OpenClaim := { program := "ytcnlkccmibnhmaa", sum := "6be2091c5a76c52ac71dfbbc2a6bb3e6278d60a0a7e277d8412cc7f5d2c07d80", func := "loop.example/g00603/laws.FnExactEventOk", spec := "fnExactEventOk", plainKeys := false, apart := false }
def FnExactEventOkSaid : Prop := fnExactEventOkRow.holds Try.pinned (OpenSpec.ofChange fnExactEventOkSpec)

/-- ITS FALSE NEIGHBOUR: 'it returns false'. Refute it at one input. -/
def fnExactEventOkWrong : ChangeSpec := { name := "fnExactEventOk", fn := fun _ => fun
  | [d] => { results := [.lit (.bool false)], args := [d] }
  | _ => none }
def FnExactEventOkWrongFalsely : Prop := fnExactEventOkRow.holds Try.pinned (OpenSpec.ofChange fnExactEventOkWrong)

/-- 'laws.FnExactEventCmp': WHATEVER THE INPUT: true; the input reads as it did. -/
def fnExactEventCmpSpec : ChangeSpec := { name := "fnExactEventCmp", fn := fun _ => fun
  | [d1, d2] => { results := [.lit (.bool true)], args := [d1, d2] }
  | _ => none }
def fnExactEventCmpRow : OpenClaim := { program := "ytcnlkccmibnhmaa", sum := "6be2091c5a76c52ac71dfbbc2a6bb3e6278d60a0a7e277d8412cc7f5d2c07d80", func := "loop.example/g00603/laws.FnExactEventCmp", spec := "fnExactEventCmp", plainKeys := false, apart := false }
def FnExactEventCmpSaid : Prop := fnExactEventCmpRow.holds Try.pinned (OpenSpec.ofChange fnExactEventCmpSpec)

/-- ITS FALSE NEIGHBOUR: 'it returns false'. Refute it at one input. -/
def fnExactEventCmpWrong : ChangeSpec := { name := "fnExactEventCmp", fn := fun _ => fun
  | [d1, d2] => { results := [.lit (.bool false)], args := [d1, d2] }
  | _ => none }
def FnExactEventCmpWrongFalsely : Prop := fnExactEventCmpRow.holds Try.pinned (OpenSpec.ofChange fnExactEventCmpWrong)

/-- 'laws.FnExactQueueOk': WHATEVER THE INPUT: true; the input reads as it did. -/
def fnExactQueueOkSpec : ChangeSpec := { name := "fnExactQueueOk", fn := fun _ => fun
  | [d] => { results := [.lit (.bool true)], args := [d] }
  | _ => none }
def fnExactQueueOkRow : OpenClaim := { program := "ytcnlkccmibnhmaa", sum := "6be2091c5a76c52ac71dfbbc2a6bb3e6278d60a0a7e277d8412cc7f5d2c07d80", func := "loop.example/g00603/laws.FnExactQueueOk", spec := "fnExactQueueOk", unfollowed := true, recurses := true, plainKeys := false, apart := false }
def FnExactQueueOkSaid : Prop := fnExactQueueOkRow.holds Try.pinned (OpenSpec.ofChange fnExactQueueOkSpec)

/-- ITS FALSE NEIGHBOUR: 'it returns false'. Refute it at one input. -/
def fnExactQueueOkWrong : ChangeSpec := { name := "fnExactQueueOk", fn := fun _ => fun
  | [d] => { results := [.lit (.bool false)], args := [d] }
  | _ => none }
def FnExactQueueOkWrongFalsely : Prop := fnExactQueueOkRow.holds Try.pinned (OpenSpec.ofChange fnExactQueueOkWrong)

/-- 'laws.FnExactInsert': WHATEVER THE INPUT: true; the input reads as it did. -/
def fnExactInsertSpec : ChangeSpec := { name := "fnExactInsert", fn := fun _ => fun
  | [d1, d2] => { results := [.lit (.bool true)], args := [d1, d2] }
  | _ => none }
def fnExactInsertRow : OpenClaim := { program := "ytcnlkccmibnhmaa", sum := "6be2091c5a76c52ac71dfbbc2a6bb3e6278d60a0a7e277d8412cc7f5d2c07d80", func := "loop.example/g00603/laws.FnExactInsert", spec := "fnExactInsert", unfollowed := true, recurses := true, plainKeys := false, apart := false }
def FnExactInsertSaid : Prop := fnExactInsertRow.holds Try.pinned (OpenSpec.ofChange fnExactInsertSpec)

/-- ITS FALSE NEIGHBOUR: 'it returns false'. Refute it at one input. -/
def fnExactInsertWrong : ChangeSpec := { name := "fnExactInsert", fn := fun _ => fun
  | [d1, d2] => { results := [.lit (.bool false)], args := [d1, d2] }
  | _ => none }
def FnExactInsertWrongFalsely : Prop := fnExactInsertRow.holds Try.pinned (OpenSpec.ofChange fnExactInsertWrong)

/-- 'laws.FnExactRemove': WHATEVER THE INPUT: true; the input reads as it did. -/
def fnExactRemoveSpec : ChangeSpec := { name := "fnExactRemove", fn := fun _ => fun
  | [d1, d2] => { results := [.lit (.bool true)], args := [d1, d2] }
  | _ => none }
def fnExactRemoveRow : OpenClaim := { program := "ytcnlkccmibnhmaa", sum := "6be2091c5a76c52ac71dfbbc2a6bb3e6278d60a0a7e277d8412cc7f5d2c07d80", func := "loop.example/g00603/laws.FnExactRemove", spec := "fnExactRemove", unfollowed := true, recurses := true, plainKeys := false, apart := false }
def FnExactRemoveSaid : Prop := fnExactRemoveRow.holds Try.pinned (OpenSpec.ofChange fnExactRemoveSpec)

/-- ITS FALSE NEIGHBOUR: 'it returns false'. Refute it at one input. -/
def fnExactRemoveWrong : ChangeSpec := { name := "fnExactRemove", fn := fun _ => fun
  | [d1, d2] => { results := [.lit (.bool false)], args := [d1, d2] }
  | _ => none }
def FnExactRemoveWrongFalsely : Prop := fnExactRemoveRow.holds Try.pinned (OpenSpec.ofChange fnExactRemoveWrong)

/-- 'laws.FnExactFirst': WHATEVER THE INPUT: true; the input reads as it did. -/
def fnExactFirstSpec : ChangeSpec := { name := "fnExactFirst", fn := fun _ => fun
  | [d] => { results := [.lit (.bool true)], args := [d] }
  | _ => none }
def fnExactFirstRow : OpenClaim := { program := "ytcnlkccmibnhmaa", sum := "6be2091c5a76c52ac71dfbbc2a6bb3e6278d60a0a7e277d8412cc7f5d2c07d80", func := "loop.example/g00603/laws.FnExactFirst", spec := "fnExactFirst", unfollowed := true, recurses := true, plainKeys := false, apart := false }
def FnExactFirstSaid : Prop := fnExactFirstRow.holds Try.pinned (OpenSpec.ofChange fnExactFirstSpec)

/-- ITS FALSE NEIGHBOUR: 'it returns false'. Refute it at one input. -/
def fnExactFirstWrong : ChangeSpec := { name := "fnExactFirst", fn := fun _ => fun
  | [d] => { results := [.lit (.bool false)], args := [d] }
  | _ => none }
def FnExactFirstWrongFalsely : Prop := fnExactFirstRow.holds Try.pinned (OpenSpec.ofChange fnExactFirstWrong)

/- THE SECOND FORM. 'bulk': how many values and letters a reading holds, each counted each time it is reached (what is shared counts as often as it is met; a slice's spare places count too). A statement '..UptoSaid' is the law's where the arguments, and the package variables that the reading takes, are together of bulk at most 1048576: NARROWER than '..Said'. Prove '..Said' where nothing that the law and all that it calls make is longer than what came in: it says more and counts as full. Else prove '..UptoSaid'. A law counts once. -/
mutual
def uptoBulk {H : Type} : DataW H → Nat
  | .lit (.string bytes) => bytes.length + 1
  | .lit _ => 1
  | .nil => 1
  | .ptr d => uptoBulk d + 1
  | .slice elems spare => uptoBulkAll elems + uptoBulkAll spare + 1
  | .agg parts => uptoBulkAll parts + 1
  | .iface _ d => uptoBulk d + 1
  | .map entries => uptoBulkEntries entries + 1
  | .held _ => 1
def uptoBulkAll {H : Type} : List (DataW H) → Nat
  | [] => 0
  | d :: r => uptoBulk d + uptoBulkAll r
def uptoBulkEntries {H : Type} : List (Lit × DataW H) → Nat
  | [] => 0
  | x :: r => uptoBulkEntry x + uptoBulkEntries r
def uptoBulkEntry {H : Type} : Lit × DataW H → Nat
  | (.string bytes, d) => bytes.length + uptoBulk d + 1
  | (_, d) => uptoBulk d + 1
 end
def uptoSmall : (H : Type) → List (DataW H) → Bool := fun _ ds => decide (uptoBulkAll ds ≤ 1048576)
def OpenSpec.upto (s : _root_.Go.ChangeSpec) : _root_.Go.OpenSpec := { _root_.Go.OpenSpec.ofChange s with cond := some uptoSmall }

/-- 'laws.FnExactEventOk', WHERE WHAT IT READS IS OF BULK AT MOST 1048576: true; the input reads as it did. -/
def fnExactEventOkUptoRow : OpenClaim := { program := "ytcnlkccmibnhmaa", sum := "6be2091c5a76c52ac71dfbbc2a6bb3e6278d60a0a7e277d8412cc7f5d2c07d80", func := "loop.example/g00603/laws.FnExactEventOk", spec := "fnExactEventOk", plainKeys := false, apart := false, narrowed := true }
def FnExactEventOkUptoSaid : Prop := fnExactEventOkUptoRow.holds Try.pinned (OpenSpec.upto fnExactEventOkSpec)

/-- 'laws.FnExactEventCmp', WHERE WHAT IT READS IS OF BULK AT MOST 1048576: true; the input reads as it did. -/
def fnExactEventCmpUptoRow : OpenClaim := { program := "ytcnlkccmibnhmaa", sum := "6be2091c5a76c52ac71dfbbc2a6bb3e6278d60a0a7e277d8412cc7f5d2c07d80", func := "loop.example/g00603/laws.FnExactEventCmp", spec := "fnExactEventCmp", plainKeys := false, apart := false, narrowed := true }
def FnExactEventCmpUptoSaid : Prop := fnExactEventCmpUptoRow.holds Try.pinned (OpenSpec.upto fnExactEventCmpSpec)

/-- 'laws.FnExactQueueOk', WHERE WHAT IT READS IS OF BULK AT MOST 1048576: true; the input reads as it did. -/
def fnExactQueueOkUptoRow : OpenClaim := { program := "ytcnlkccmibnhmaa", sum := "6be2091c5a76c52ac71dfbbc2a6bb3e6278d60a0a7e277d8412cc7f5d2c07d80", func := "loop.example/g00603/laws.FnExactQueueOk", spec := "fnExactQueueOk", unfollowed := true, recurses := true, plainKeys := false, apart := false, narrowed := true }
def FnExactQueueOkUptoSaid : Prop := fnExactQueueOkUptoRow.holds Try.pinned (OpenSpec.upto fnExactQueueOkSpec)

/-- 'laws.FnExactInsert', WHERE WHAT IT READS IS OF BULK AT MOST 1048576: true; the input reads as it did. -/
def fnExactInsertUptoRow : OpenClaim := { program := "ytcnlkccmibnhmaa", sum := "6be2091c5a76c52ac71dfbbc2a6bb3e6278d60a0a7e277d8412cc7f5d2c07d80", func := "loop.example/g00603/laws.FnExactInsert", spec := "fnExactInsert", unfollowed := true, recurses := true, plainKeys := false, apart := false, narrowed := true }
def FnExactInsertUptoSaid : Prop := fnExactInsertUptoRow.holds Try.pinned (OpenSpec.upto fnExactInsertSpec)

/-- 'laws.FnExactRemove', WHERE WHAT IT READS IS OF BULK AT MOST 1048576: true; the input reads as it did. -/
def fnExactRemoveUptoRow : OpenClaim := { program := "ytcnlkccmibnhmaa", sum := "6be2091c5a76c52ac71dfbbc2a6bb3e6278d60a0a7e277d8412cc7f5d2c07d80", func := "loop.example/g00603/laws.FnExactRemove", spec := "fnExactRemove", unfollowed := true, recurses := true, plainKeys := false, apart := false, narrowed := true }
def FnExactRemoveUptoSaid : Prop := fnExactRemoveUptoRow.holds Try.pinned (OpenSpec.upto fnExactRemoveSpec)

/-- 'laws.FnExactFirst', WHERE WHAT IT READS IS OF BULK AT MOST 1048576: true; the input reads as it did. -/
def fnExactFirstUptoRow : OpenClaim := { program := "ytcnlkccmibnhmaa", sum := "6be2091c5a76c52ac71dfbbc2a6bb3e6278d60a0a7e277d8412cc7f5d2c07d80", func := "loop.example/g00603/laws.FnExactFirst", spec := "fnExactFirst", unfollowed := true, recurses := true, plainKeys := false, apart := false, narrowed := true }
def FnExactFirstUptoSaid : Prop := fnExactFirstUptoRow.holds Try.pinned (OpenSpec.upto fnExactFirstSpec)

end Rows
end Go.Proofs.Ytcnlkccmibnhmaa
