/-
  No cell of these rows narrows 'for every input' (looked for: loops, veiled, ifaces, maps, wideKeys, modest, calm, conditions, laid).
  DERIVED. THE GIVEN ROWS OF THIS SEAT. 5 by the template 'for every input the law returns true; each argument reads behind the call as it read before'; 0 by the template 'total and deterministic' (their statements: YthjabkfnmcodbaaTotals.lean).
  GIVEN WITH THE SEED: the statements are not yours to turn. If you find one false, say at which input.
  Laid BY PROGRAM, IN A SANDBOX (cutbox-rows.mjs): the forced cells as the released guide's own fill.sh prints them over the translation 5f1f3b5771d66949… (all of the seat's roots in one cut). By AI agents, Wed Nov 11 2026. No macro, syntax, notation, axiom, sorry.
-/
import Derived.Test.YthjabkfnmcodbaaChecked
import GoSem.Claim
import GoSem.ClaimJoined
import GoSem.ClaimMapViews
import Derived.JoinedTies
import Derived.KernelRfl
namespace Go.Proofs.Ythjabkfnmcodbaa
/- THE CELL 'sum', in the pinned program and in every row, IS THE sha256 OF THE DUMP (.gsa) THAT YthjabkfnmcodbaaProg.lean LOADS. Nothing in Lean hashes anything: it is a label: what it is worth is what the hold of that sum in a sandbox is worth. -/
noncomputable def Try.pinned : Pinned := { name := "ythjabkfnmcodbaa", sum := "5f1f3b5771d6694961f385455c44a12a2d37bced2fec8608fd5863571a80680e", checked := Try.checked }
namespace Rows
def none {H : Type} : Left H := { results := [], args := [] }

/-- 'laws.FnExactOpOk': WHATEVER THE INPUT: true; the input reads as it did. -/
def fnExactOpOkSpec : ChangeSpec := { name := "fnExactOpOk", fn := fun _ => fun
  | [d1, d2] => { results := [.lit (.bool true)], args := [d1, d2] }
  | _ => none }
def fnExactOpOkRow : OpenClaim := { program := "ythjabkfnmcodbaa", sum := "5f1f3b5771d6694961f385455c44a12a2d37bced2fec8608fd5863571a80680e", func := "loop.example/g00603/laws.FnExactOpOk", spec := "fnExactOpOk", unfollowed := true, recurses := true, apart := false }
def FnExactOpOkSaid : Prop := fnExactOpOkRow.holds Try.pinned (OpenSpec.ofChange fnExactOpOkSpec)

/-- ITS FALSE NEIGHBOUR: 'it returns false'. Refute it at one input. -/
def fnExactOpOkWrong : ChangeSpec := { name := "fnExactOpOk", fn := fun _ => fun
  | [d1, d2] => { results := [.lit (.bool false)], args := [d1, d2] }
  | _ => none }
def FnExactOpOkWrongFalsely : Prop := fnExactOpOkRow.holds Try.pinned (OpenSpec.ofChange fnExactOpOkWrong)

/-- 'laws.FnExactModelOk': WHATEVER THE INPUT: true; the input reads as it did. -/
def fnExactModelOkSpec : ChangeSpec := { name := "fnExactModelOk", fn := fun _ => fun
  | [d] => { results := [.lit (.bool true)], args := [d] }
  | _ => none }
def fnExactModelOkRow : OpenClaim := { program := "ythjabkfnmcodbaa", sum := "5f1f3b5771d6694961f385455c44a12a2d37bced2fec8608fd5863571a80680e", func := "loop.example/g00603/laws.FnExactModelOk", spec := "fnExactModelOk", unfollowed := true, recurses := true, apart := false }
def FnExactModelOkSaid : Prop := fnExactModelOkRow.holds Try.pinned (OpenSpec.ofChange fnExactModelOkSpec)

/-- ITS FALSE NEIGHBOUR: 'it returns false'. Refute it at one input. -/
def fnExactModelOkWrong : ChangeSpec := { name := "fnExactModelOk", fn := fun _ => fun
  | [d] => { results := [.lit (.bool false)], args := [d] }
  | _ => none }
def FnExactModelOkWrongFalsely : Prop := fnExactModelOkRow.holds Try.pinned (OpenSpec.ofChange fnExactModelOkWrong)

/-- 'laws.FnExactModelBytes': WHATEVER THE INPUT: true; the input reads as it did. -/
def fnExactModelBytesSpec : ChangeSpec := { name := "fnExactModelBytes", fn := fun _ => fun
  | [d] => { results := [.lit (.bool true)], args := [d] }
  | _ => none }
def fnExactModelBytesRow : OpenClaim := { program := "ythjabkfnmcodbaa", sum := "5f1f3b5771d6694961f385455c44a12a2d37bced2fec8608fd5863571a80680e", func := "loop.example/g00603/laws.FnExactModelBytes", spec := "fnExactModelBytes", unfollowed := true, recurses := true, apart := false }
def FnExactModelBytesSaid : Prop := fnExactModelBytesRow.holds Try.pinned (OpenSpec.ofChange fnExactModelBytesSpec)

/-- ITS FALSE NEIGHBOUR: 'it returns false'. Refute it at one input. -/
def fnExactModelBytesWrong : ChangeSpec := { name := "fnExactModelBytes", fn := fun _ => fun
  | [d] => { results := [.lit (.bool false)], args := [d] }
  | _ => none }
def FnExactModelBytesWrongFalsely : Prop := fnExactModelBytesRow.holds Try.pinned (OpenSpec.ofChange fnExactModelBytesWrong)

/-- 'laws.FnExactModelRead': WHATEVER THE INPUT: true; the input reads as it did. -/
def fnExactModelReadSpec : ChangeSpec := { name := "fnExactModelRead", fn := fun _ => fun
  | [d] => { results := [.lit (.bool true)], args := [d] }
  | _ => none }
def fnExactModelReadRow : OpenClaim := { program := "ythjabkfnmcodbaa", sum := "5f1f3b5771d6694961f385455c44a12a2d37bced2fec8608fd5863571a80680e", func := "loop.example/g00603/laws.FnExactModelRead", spec := "fnExactModelRead", unfollowed := true, recurses := true, apart := false }
def FnExactModelReadSaid : Prop := fnExactModelReadRow.holds Try.pinned (OpenSpec.ofChange fnExactModelReadSpec)

/-- ITS FALSE NEIGHBOUR: 'it returns false'. Refute it at one input. -/
def fnExactModelReadWrong : ChangeSpec := { name := "fnExactModelRead", fn := fun _ => fun
  | [d] => { results := [.lit (.bool false)], args := [d] }
  | _ => none }
def FnExactModelReadWrongFalsely : Prop := fnExactModelReadRow.holds Try.pinned (OpenSpec.ofChange fnExactModelReadWrong)

/-- 'laws.FnExactAsksOf': WHATEVER THE INPUT: true; the input reads as it did. -/
def fnExactAsksOfSpec : ChangeSpec := { name := "fnExactAsksOf", fn := fun _ => fun
  | [d] => { results := [.lit (.bool true)], args := [d] }
  | _ => none }
def fnExactAsksOfRow : OpenClaim := { program := "ythjabkfnmcodbaa", sum := "5f1f3b5771d6694961f385455c44a12a2d37bced2fec8608fd5863571a80680e", func := "loop.example/g00603/laws.FnExactAsksOf", spec := "fnExactAsksOf", unfollowed := true, recurses := true, apart := false }
def FnExactAsksOfSaid : Prop := fnExactAsksOfRow.holds Try.pinned (OpenSpec.ofChange fnExactAsksOfSpec)

/-- ITS FALSE NEIGHBOUR: 'it returns false'. Refute it at one input. -/
def fnExactAsksOfWrong : ChangeSpec := { name := "fnExactAsksOf", fn := fun _ => fun
  | [d] => { results := [.lit (.bool false)], args := [d] }
  | _ => none }
def FnExactAsksOfWrongFalsely : Prop := fnExactAsksOfRow.holds Try.pinned (OpenSpec.ofChange fnExactAsksOfWrong)

/- THE SECOND FORM. 'bulk': how many values and letters a reading holds, each counted each time it is reached (what is shared counts as often as it is met; a slice's spare places count too). A statement '..UptoSaid' is the law's where the arguments, and the package variables that the reading takes, are together of bulk at most 1048576: NARROWER than '..Said'. Prove '..Said' where nothing that the law and all that it calls make is longer than what came in: it says more and counts as full. Else prove '..UptoSaid'. A law counts once. -/
mutual
def uptoBulk {H : Type} : DataW H → Nat
  | .lit (.string bytes) => bytes.length + 1
  | .lit _ => 1
  | .nil => 1
  | .ptr d => uptoBulk d + 1
  | .slice elems spare => uptoBulkAll elems + uptoBulkAll spare + 1
  | .agg parts => uptoBulkAll parts + 1
  | .iface _ d => uptoBulk d + 1
  | .map entries => uptoBulkEntries entries + 1
  | .held _ => 1
def uptoBulkAll {H : Type} : List (DataW H) → Nat
  | [] => 0
  | d :: r => uptoBulk d + uptoBulkAll r
def uptoBulkEntries {H : Type} : List (Lit × DataW H) → Nat
  | [] => 0
  | x :: r => uptoBulkEntry x + uptoBulkEntries r
def uptoBulkEntry {H : Type} : Lit × DataW H → Nat
  | (.string bytes, d) => bytes.length + uptoBulk d + 1
  | (_, d) => uptoBulk d + 1
 end
def uptoSmall : (H : Type) → List (DataW H) → Bool := fun _ ds => decide (uptoBulkAll ds ≤ 1048576)
def OpenSpec.upto (s : _root_.Go.ChangeSpec) : _root_.Go.OpenSpec := { _root_.Go.OpenSpec.ofChange s with cond := some uptoSmall }

/-- 'laws.FnExactOpOk', WHERE WHAT IT READS IS OF BULK AT MOST 1048576: true; the input reads as it did. -/
def fnExactOpOkUptoRow : OpenClaim := { program := "ythjabkfnmcodbaa", sum := "5f1f3b5771d6694961f385455c44a12a2d37bced2fec8608fd5863571a80680e", func := "loop.example/g00603/laws.FnExactOpOk", spec := "fnExactOpOk", unfollowed := true, recurses := true, apart := false, narrowed := true }
def FnExactOpOkUptoSaid : Prop := fnExactOpOkUptoRow.holds Try.pinned (OpenSpec.upto fnExactOpOkSpec)

/-- 'laws.FnExactModelOk', WHERE WHAT IT READS IS OF BULK AT MOST 1048576: true; the input reads as it did. -/
def fnExactModelOkUptoRow : OpenClaim := { program := "ythjabkfnmcodbaa", sum := "5f1f3b5771d6694961f385455c44a12a2d37bced2fec8608fd5863571a80680e", func := "loop.example/g00603/laws.FnExactModelOk", spec := "fnExactModelOk", unfollowed := true, recurses := true, apart := false, narrowed := true }
def FnExactModelOkUptoSaid : Prop := fnExactModelOkUptoRow.holds Try.pinned (OpenSpec.upto fnExactModelOkSpec)

/-- 'laws.FnExactModelBytes', WHERE WHAT IT READS IS OF BULK AT MOST 1048576: true; the input reads as it did. -/
def fnExactModelBytesUptoRow : OpenClaim := { program := "ythjabkfnmcodbaa", sum := "5f1f3b5771d6694961f385455c44a12a2d37bced2fec8608fd5863571a80680e", func := "loop.example/g00603/laws.FnExactModelBytes", spec := "fnExactModelBytes", unfollowed := true, recurses := true, apart := false, narrowed := true }
def FnExactModelBytesUptoSaid : Prop := fnExactModelBytesUptoRow.holds Try.pinned (OpenSpec.upto fnExactModelBytesSpec)

/-- 'laws.FnExactModelRead', WHERE WHAT IT READS IS OF BULK AT MOST 1048576: true; the input reads as it did. -/
def fnExactModelReadUptoRow : OpenClaim := { program := "ythjabkfnmcodbaa", sum := "5f1f3b5771d6694961f385455c44a12a2d37bced2fec8608fd5863571a80680e", func := "loop.example/g00603/laws.FnExactModelRead", spec := "fnExactModelRead", unfollowed := true, recurses := true, apart := false, narrowed := true }
def FnExactModelReadUptoSaid : Prop := fnExactModelReadUptoRow.holds Try.pinned (OpenSpec.upto fnExactModelReadSpec)

/-- 'laws.FnExactAsksOf', WHERE WHAT IT READS IS OF BULK AT MOST 1048576: true; the input reads as it did. -/
def fnExactAsksOfUptoRow : OpenClaim := { program := "ythjabkfnmcodbaa", sum := "5f1f3b5771d6694961f385455c44a12a2d37bced2fec8608fd5863571a80680e", func := "loop.example/g00603/laws.FnExactAsksOf", spec := "fnExactAsksOf", unfollowed := true, recurses := true, apart := false, narrowed := true }
def FnExactAsksOfUptoSaid : Prop := fnExactAsksOfUptoRow.holds Try.pinned (OpenSpec.upto fnExactAsksOfSpec)

end Rows
end Go.Proofs.Ythjabkfnmcodbaa
