/-
  No cell of these rows narrows 'for every input' (looked for: loops, veiled, ifaces, maps, wideKeys, modest, calm, conditions, laid).
  DERIVED. THE GIVEN ROWS OF THIS SEAT. 10 by the template 'for every input the law returns true; each argument reads behind the call as it read before'; 0 by the template 'total and deterministic' (their statements: YtnlhcdchmgfipaaGreatTotals.lean).
  GIVEN WITH THE SEED: the statements are not yours to turn. If you find one false, say at which input.
  Laid BY PROGRAM, IN A SANDBOX (cutbox-rows.mjs): the forced cells as the released guide's own fill.sh prints them over the translation 6e6064afa17fcbf7… (all of the seat's roots in one cut). By AI agents, Wed Nov 11 2026. No macro, syntax, notation, axiom, sorry.
-/
import Derived.Test.YtnlhcdchmgfipaaGreatChecked
import GoSem.Claim
import GoSem.ClaimJoined
import GoSem.ClaimMapViews
import Derived.JoinedTies
import Derived.KernelRfl
namespace Go.Proofs.YtnlhcdchmgfipaaGreat
/- THE CELL 'sum', in the pinned program and in every row, IS THE sha256 OF THE DUMP (.gsa) THAT YtnlhcdchmgfipaaGreatProg.lean LOADS. Nothing in Lean hashes anything: it is a label: what it is worth is what the hold of that sum in a sandbox is worth. -/
noncomputable def Tryz.pinned : Pinned := { name := "ytnlhcdchmgfipaagreat", sum := "6e6064afa17fcbf7555393392f7d42df96aa02d562049df19e9ab52360f24301", checked := Tryz.checked }
namespace Rows
def none {H : Type} : Left H := { results := [], args := [] }

/-- 'laws.FnExactKernelOk': WHATEVER THE INPUT: true; the input reads as it did. -/
def fnExactKernelOkSpec : ChangeSpec := { name := "fnExactKernelOk", fn := fun _ => fun
  | [d] => { results := [.lit (.bool true)], args := [d] }
  | _ => none }
def fnExactKernelOkRow : OpenClaim := { program := "ytnlhcdchmgfipaagreat", sum := "6e6064afa17fcbf7555393392f7d42df96aa02d562049df19e9ab52360f24301", func := "loop.example/g00603/laws.FnExactKernelOk", spec := "fnExactKernelOk", unfollowed := true, recurses := true, plainKeys := false, apart := false }
def FnExactKernelOkSaid : Prop := fnExactKernelOkRow.holds Tryz.pinned (OpenSpec.ofChange fnExactKernelOkSpec)

/-- ITS FALSE NEIGHBOUR: 'it returns false'. Refute it at one input. -/
def fnExactKernelOkWrong : ChangeSpec := { name := "fnExactKernelOk", fn := fun _ => fun
  | [d] => { results := [.lit (.bool false)], args := [d] }
  | _ => none }
def FnExactKernelOkWrongFalsely : Prop := fnExactKernelOkRow.holds Tryz.pinned (OpenSpec.ofChange fnExactKernelOkWrong)

/-- 'laws.FnExactGvt': WHATEVER THE INPUT: true; the input reads as it did. -/
def fnExactGvtSpec : ChangeSpec := { name := "fnExactGvt", fn := fun _ => fun
  | [d] => { results := [.lit (.bool true)], args := [d] }
  | _ => none }
def fnExactGvtRow : OpenClaim := { program := "ytnlhcdchmgfipaagreat", sum := "6e6064afa17fcbf7555393392f7d42df96aa02d562049df19e9ab52360f24301", func := "loop.example/g00603/laws.FnExactGvt", spec := "fnExactGvt", unfollowed := true, recurses := true, plainKeys := false, apart := false }
def FnExactGvtSaid : Prop := fnExactGvtRow.holds Tryz.pinned (OpenSpec.ofChange fnExactGvtSpec)

/-- ITS FALSE NEIGHBOUR: 'it returns false'. Refute it at one input. -/
def fnExactGvtWrong : ChangeSpec := { name := "fnExactGvt", fn := fun _ => fun
  | [d] => { results := [.lit (.bool false)], args := [d] }
  | _ => none }
def FnExactGvtWrongFalsely : Prop := fnExactGvtRow.holds Tryz.pinned (OpenSpec.ofChange fnExactGvtWrong)

/-- 'laws.FnExactIdle': WHATEVER THE INPUT: true; the input reads as it did. -/
def fnExactIdleSpec : ChangeSpec := { name := "fnExactIdle", fn := fun _ => fun
  | [d] => { results := [.lit (.bool true)], args := [d] }
  | _ => none }
def fnExactIdleRow : OpenClaim := { program := "ytnlhcdchmgfipaagreat", sum := "6e6064afa17fcbf7555393392f7d42df96aa02d562049df19e9ab52360f24301", func := "loop.example/g00603/laws.FnExactIdle", spec := "fnExactIdle", unfollowed := true, recurses := true, plainKeys := false, apart := false }
def FnExactIdleSaid : Prop := fnExactIdleRow.holds Tryz.pinned (OpenSpec.ofChange fnExactIdleSpec)

/-- ITS FALSE NEIGHBOUR: 'it returns false'. Refute it at one input. -/
def fnExactIdleWrong : ChangeSpec := { name := "fnExactIdle", fn := fun _ => fun
  | [d] => { results := [.lit (.bool false)], args := [d] }
  | _ => none }
def FnExactIdleWrongFalsely : Prop := fnExactIdleRow.holds Tryz.pinned (OpenSpec.ofChange fnExactIdleWrong)

/-- 'laws.FnExactHeld': WHATEVER THE INPUT: true; the input reads as it did. -/
def fnExactHeldSpec : ChangeSpec := { name := "fnExactHeld", fn := fun _ => fun
  | [d] => { results := [.lit (.bool true)], args := [d] }
  | _ => none }
def fnExactHeldRow : OpenClaim := { program := "ytnlhcdchmgfipaagreat", sum := "6e6064afa17fcbf7555393392f7d42df96aa02d562049df19e9ab52360f24301", func := "loop.example/g00603/laws.FnExactHeld", spec := "fnExactHeld", unfollowed := true, recurses := true, plainKeys := false, apart := false }
def FnExactHeldSaid : Prop := fnExactHeldRow.holds Tryz.pinned (OpenSpec.ofChange fnExactHeldSpec)

/-- ITS FALSE NEIGHBOUR: 'it returns false'. Refute it at one input. -/
def fnExactHeldWrong : ChangeSpec := { name := "fnExactHeld", fn := fun _ => fun
  | [d] => { results := [.lit (.bool false)], args := [d] }
  | _ => none }
def FnExactHeldWrongFalsely : Prop := fnExactHeldRow.holds Tryz.pinned (OpenSpec.ofChange fnExactHeldWrong)

/-- 'laws.FnExactWorldOk': WHATEVER THE INPUT: true; the input reads as it did. -/
def fnExactWorldOkSpec : ChangeSpec := { name := "fnExactWorldOk", fn := fun _ => fun
  | [d] => { results := [.lit (.bool true)], args := [d] }
  | _ => none }
def fnExactWorldOkRow : OpenClaim := { program := "ytnlhcdchmgfipaagreat", sum := "6e6064afa17fcbf7555393392f7d42df96aa02d562049df19e9ab52360f24301", func := "loop.example/g00603/laws.FnExactWorldOk", spec := "fnExactWorldOk", unfollowed := true, recurses := true, plainKeys := false, apart := false }
def FnExactWorldOkSaid : Prop := fnExactWorldOkRow.holds Tryz.pinned (OpenSpec.ofChange fnExactWorldOkSpec)

/-- ITS FALSE NEIGHBOUR: 'it returns false'. Refute it at one input. -/
def fnExactWorldOkWrong : ChangeSpec := { name := "fnExactWorldOk", fn := fun _ => fun
  | [d] => { results := [.lit (.bool false)], args := [d] }
  | _ => none }
def FnExactWorldOkWrongFalsely : Prop := fnExactWorldOkRow.holds Tryz.pinned (OpenSpec.ofChange fnExactWorldOkWrong)

/-- 'laws.FnExactVectors': WHATEVER THE INPUT: true; the input reads as it did. -/
def fnExactVectorsSpec : ChangeSpec := { name := "fnExactVectors", fn := fun _ => fun
  | [d] => { results := [.lit (.bool true)], args := [d] }
  | _ => none }
def fnExactVectorsRow : OpenClaim := { program := "ytnlhcdchmgfipaagreat", sum := "6e6064afa17fcbf7555393392f7d42df96aa02d562049df19e9ab52360f24301", func := "loop.example/g00603/laws.FnExactVectors", spec := "fnExactVectors", unfollowed := true, recurses := true, plainKeys := false, apart := false }
def FnExactVectorsSaid : Prop := fnExactVectorsRow.holds Tryz.pinned (OpenSpec.ofChange fnExactVectorsSpec)

/-- ITS FALSE NEIGHBOUR: 'it returns false'. Refute it at one input. -/
def fnExactVectorsWrong : ChangeSpec := { name := "fnExactVectors", fn := fun _ => fun
  | [d] => { results := [.lit (.bool false)], args := [d] }
  | _ => none }
def FnExactVectorsWrongFalsely : Prop := fnExactVectorsRow.holds Tryz.pinned (OpenSpec.ofChange fnExactVectorsWrong)

/-- 'laws.FnExactCovers': WHATEVER THE INPUT: true; the input reads as it did. -/
def fnExactCoversSpec : ChangeSpec := { name := "fnExactCovers", fn := fun _ => fun
  | [d1, d2] => { results := [.lit (.bool true)], args := [d1, d2] }
  | _ => none }
def fnExactCoversRow : OpenClaim := { program := "ytnlhcdchmgfipaagreat", sum := "6e6064afa17fcbf7555393392f7d42df96aa02d562049df19e9ab52360f24301", func := "loop.example/g00603/laws.FnExactCovers", spec := "fnExactCovers", unfollowed := true, recurses := true, plainKeys := false, apart := false }
def FnExactCoversSaid : Prop := fnExactCoversRow.holds Tryz.pinned (OpenSpec.ofChange fnExactCoversSpec)

/-- ITS FALSE NEIGHBOUR: 'it returns false'. Refute it at one input. -/
def fnExactCoversWrong : ChangeSpec := { name := "fnExactCovers", fn := fun _ => fun
  | [d1, d2] => { results := [.lit (.bool false)], args := [d1, d2] }
  | _ => none }
def FnExactCoversWrongFalsely : Prop := fnExactCoversRow.holds Tryz.pinned (OpenSpec.ofChange fnExactCoversWrong)

/-- 'laws.FnExactLive': WHATEVER THE INPUT: true; the input reads as it did. -/
def fnExactLiveSpec : ChangeSpec := { name := "fnExactLive", fn := fun _ => fun
  | [d] => { results := [.lit (.bool true)], args := [d] }
  | _ => none }
def fnExactLiveRow : OpenClaim := { program := "ytnlhcdchmgfipaagreat", sum := "6e6064afa17fcbf7555393392f7d42df96aa02d562049df19e9ab52360f24301", func := "loop.example/g00603/laws.FnExactLive", spec := "fnExactLive", unfollowed := true, recurses := true, plainKeys := false, apart := false }
def FnExactLiveSaid : Prop := fnExactLiveRow.holds Tryz.pinned (OpenSpec.ofChange fnExactLiveSpec)

/-- ITS FALSE NEIGHBOUR: 'it returns false'. Refute it at one input. -/
def fnExactLiveWrong : ChangeSpec := { name := "fnExactLive", fn := fun _ => fun
  | [d] => { results := [.lit (.bool false)], args := [d] }
  | _ => none }
def FnExactLiveWrongFalsely : Prop := fnExactLiveRow.holds Tryz.pinned (OpenSpec.ofChange fnExactLiveWrong)

/-- 'laws.FnExactGone': WHATEVER THE INPUT: true; the input reads as it did. -/
def fnExactGoneSpec : ChangeSpec := { name := "fnExactGone", fn := fun _ => fun
  | [d] => { results := [.lit (.bool true)], args := [d] }
  | _ => none }
def fnExactGoneRow : OpenClaim := { program := "ytnlhcdchmgfipaagreat", sum := "6e6064afa17fcbf7555393392f7d42df96aa02d562049df19e9ab52360f24301", func := "loop.example/g00603/laws.FnExactGone", spec := "fnExactGone", unfollowed := true, recurses := true, plainKeys := false, apart := false }
def FnExactGoneSaid : Prop := fnExactGoneRow.holds Tryz.pinned (OpenSpec.ofChange fnExactGoneSpec)

/-- ITS FALSE NEIGHBOUR: 'it returns false'. Refute it at one input. -/
def fnExactGoneWrong : ChangeSpec := { name := "fnExactGone", fn := fun _ => fun
  | [d] => { results := [.lit (.bool false)], args := [d] }
  | _ => none }
def FnExactGoneWrongFalsely : Prop := fnExactGoneRow.holds Tryz.pinned (OpenSpec.ofChange fnExactGoneWrong)

/-- 'laws.FnExactSiblings': WHATEVER THE INPUT: true; the input reads as it did. -/
def fnExactSiblingsSpec : ChangeSpec := { name := "fnExactSiblings", fn := fun _ => fun
  | [d1, d2, d3] => { results := [.lit (.bool true)], args := [d1, d2, d3] }
  | _ => none }
def fnExactSiblingsRow : OpenClaim := { program := "ytnlhcdchmgfipaagreat", sum := "6e6064afa17fcbf7555393392f7d42df96aa02d562049df19e9ab52360f24301", func := "loop.example/g00603/laws.FnExactSiblings", spec := "fnExactSiblings", unfollowed := true, recurses := true, plainKeys := false, apart := false }
def FnExactSiblingsSaid : Prop := fnExactSiblingsRow.holds Tryz.pinned (OpenSpec.ofChange fnExactSiblingsSpec)

/-- ITS FALSE NEIGHBOUR: 'it returns false'. Refute it at one input. -/
def fnExactSiblingsWrong : ChangeSpec := { name := "fnExactSiblings", fn := fun _ => fun
  | [d1, d2, d3] => { results := [.lit (.bool false)], args := [d1, d2, d3] }
  | _ => none }
def FnExactSiblingsWrongFalsely : Prop := fnExactSiblingsRow.holds Tryz.pinned (OpenSpec.ofChange fnExactSiblingsWrong)

/- THE SECOND FORM. 'bulk': how many values and letters a reading holds, each counted each time it is reached (what is shared counts as often as it is met; a slice's spare places count too). A statement '..UptoSaid' is the law's where the arguments, and the package variables that the reading takes, are together of bulk at most 1048576: NARROWER than '..Said'. Prove '..Said' where nothing that the law and all that it calls make is longer than what came in: it says more and counts as full. Else prove '..UptoSaid'. A law counts once. -/
mutual
def uptoBulk {H : Type} : DataW H → Nat
  | .lit (.string bytes) => bytes.length + 1
  | .lit _ => 1
  | .nil => 1
  | .ptr d => uptoBulk d + 1
  | .slice elems spare => uptoBulkAll elems + uptoBulkAll spare + 1
  | .agg parts => uptoBulkAll parts + 1
  | .iface _ d => uptoBulk d + 1
  | .map entries => uptoBulkEntries entries + 1
  | .held _ => 1
def uptoBulkAll {H : Type} : List (DataW H) → Nat
  | [] => 0
  | d :: r => uptoBulk d + uptoBulkAll r
def uptoBulkEntries {H : Type} : List (Lit × DataW H) → Nat
  | [] => 0
  | x :: r => uptoBulkEntry x + uptoBulkEntries r
def uptoBulkEntry {H : Type} : Lit × DataW H → Nat
  | (.string bytes, d) => bytes.length + uptoBulk d + 1
  | (_, d) => uptoBulk d + 1
 end
def uptoSmall : (H : Type) → List (DataW H) → Bool := fun _ ds => decide (uptoBulkAll ds ≤ 1048576)
def OpenSpec.upto (s : _root_.Go.ChangeSpec) : _root_.Go.OpenSpec := { _root_.Go.OpenSpec.ofChange s with cond := some uptoSmall }

/-- 'laws.FnExactKernelOk', WHERE WHAT IT READS IS OF BULK AT MOST 1048576: true; the input reads as it did. -/
def fnExactKernelOkUptoRow : OpenClaim := { program := "ytnlhcdchmgfipaagreat", sum := "6e6064afa17fcbf7555393392f7d42df96aa02d562049df19e9ab52360f24301", func := "loop.example/g00603/laws.FnExactKernelOk", spec := "fnExactKernelOk", unfollowed := true, recurses := true, plainKeys := false, apart := false, narrowed := true }
def FnExactKernelOkUptoSaid : Prop := fnExactKernelOkUptoRow.holds Tryz.pinned (OpenSpec.upto fnExactKernelOkSpec)

/-- 'laws.FnExactGvt', WHERE WHAT IT READS IS OF BULK AT MOST 1048576: true; the input reads as it did. -/
def fnExactGvtUptoRow : OpenClaim := { program := "ytnlhcdchmgfipaagreat", sum := "6e6064afa17fcbf7555393392f7d42df96aa02d562049df19e9ab52360f24301", func := "loop.example/g00603/laws.FnExactGvt", spec := "fnExactGvt", unfollowed := true, recurses := true, plainKeys := false, apart := false, narrowed := true }
def FnExactGvtUptoSaid : Prop := fnExactGvtUptoRow.holds Tryz.pinned (OpenSpec.upto fnExactGvtSpec)

/-- 'laws.FnExactIdle', WHERE WHAT IT READS IS OF BULK AT MOST 1048576: true; the input reads as it did. -/
def fnExactIdleUptoRow : OpenClaim := { program := "ytnlhcdchmgfipaagreat", sum := "6e6064afa17fcbf7555393392f7d42df96aa02d562049df19e9ab52360f24301", func := "loop.example/g00603/laws.FnExactIdle", spec := "fnExactIdle", unfollowed := true, recurses := true, plainKeys := false, apart := false, narrowed := true }
def FnExactIdleUptoSaid : Prop := fnExactIdleUptoRow.holds Tryz.pinned (OpenSpec.upto fnExactIdleSpec)

/-- 'laws.FnExactHeld', WHERE WHAT IT READS IS OF BULK AT MOST 1048576: true; the input reads as it did. -/
def fnExactHeldUptoRow : OpenClaim := { program := "ytnlhcdchmgfipaagreat", sum := "6e6064afa17fcbf7555393392f7d42df96aa02d562049df19e9ab52360f24301", func := "loop.example/g00603/laws.FnExactHeld", spec := "fnExactHeld", unfollowed := true, recurses := true, plainKeys := false, apart := false, narrowed := true }
def FnExactHeldUptoSaid : Prop := fnExactHeldUptoRow.holds Tryz.pinned (OpenSpec.upto fnExactHeldSpec)

/-- 'laws.FnExactWorldOk', WHERE WHAT IT READS IS OF BULK AT MOST 1048576: true; the input reads as it did. -/
def fnExactWorldOkUptoRow : OpenClaim := { program := "ytnlhcdchmgfipaagreat", sum := "6e6064afa17fcbf7555393392f7d42df96aa02d562049df19e9ab52360f24301", func := "loop.example/g00603/laws.FnExactWorldOk", spec := "fnExactWorldOk", unfollowed := true, recurses := true, plainKeys := false, apart := false, narrowed := true }
def FnExactWorldOkUptoSaid : Prop := fnExactWorldOkUptoRow.holds Tryz.pinned (OpenSpec.upto fnExactWorldOkSpec)

/-- 'laws.FnExactVectors', WHERE WHAT IT READS IS OF BULK AT MOST 1048576: true; the input reads as it did. -/
def fnExactVectorsUptoRow : OpenClaim := { program := "ytnlhcdchmgfipaagreat", sum := "6e6064afa17fcbf7555393392f7d42df96aa02d562049df19e9ab52360f24301", func := "loop.example/g00603/laws.FnExactVectors", spec := "fnExactVectors", unfollowed := true, recurses := true, plainKeys := false, apart := false, narrowed := true }
def FnExactVectorsUptoSaid : Prop := fnExactVectorsUptoRow.holds Tryz.pinned (OpenSpec.upto fnExactVectorsSpec)

/-- 'laws.FnExactCovers', WHERE WHAT IT READS IS OF BULK AT MOST 1048576: true; the input reads as it did. -/
def fnExactCoversUptoRow : OpenClaim := { program := "ytnlhcdchmgfipaagreat", sum := "6e6064afa17fcbf7555393392f7d42df96aa02d562049df19e9ab52360f24301", func := "loop.example/g00603/laws.FnExactCovers", spec := "fnExactCovers", unfollowed := true, recurses := true, plainKeys := false, apart := false, narrowed := true }
def FnExactCoversUptoSaid : Prop := fnExactCoversUptoRow.holds Tryz.pinned (OpenSpec.upto fnExactCoversSpec)

/-- 'laws.FnExactLive', WHERE WHAT IT READS IS OF BULK AT MOST 1048576: true; the input reads as it did. -/
def fnExactLiveUptoRow : OpenClaim := { program := "ytnlhcdchmgfipaagreat", sum := "6e6064afa17fcbf7555393392f7d42df96aa02d562049df19e9ab52360f24301", func := "loop.example/g00603/laws.FnExactLive", spec := "fnExactLive", unfollowed := true, recurses := true, plainKeys := false, apart := false, narrowed := true }
def FnExactLiveUptoSaid : Prop := fnExactLiveUptoRow.holds Tryz.pinned (OpenSpec.upto fnExactLiveSpec)

/-- 'laws.FnExactGone', WHERE WHAT IT READS IS OF BULK AT MOST 1048576: true; the input reads as it did. -/
def fnExactGoneUptoRow : OpenClaim := { program := "ytnlhcdchmgfipaagreat", sum := "6e6064afa17fcbf7555393392f7d42df96aa02d562049df19e9ab52360f24301", func := "loop.example/g00603/laws.FnExactGone", spec := "fnExactGone", unfollowed := true, recurses := true, plainKeys := false, apart := false, narrowed := true }
def FnExactGoneUptoSaid : Prop := fnExactGoneUptoRow.holds Tryz.pinned (OpenSpec.upto fnExactGoneSpec)

/-- 'laws.FnExactSiblings', WHERE WHAT IT READS IS OF BULK AT MOST 1048576: true; the input reads as it did. -/
def fnExactSiblingsUptoRow : OpenClaim := { program := "ytnlhcdchmgfipaagreat", sum := "6e6064afa17fcbf7555393392f7d42df96aa02d562049df19e9ab52360f24301", func := "loop.example/g00603/laws.FnExactSiblings", spec := "fnExactSiblings", unfollowed := true, recurses := true, plainKeys := false, apart := false, narrowed := true }
def FnExactSiblingsUptoSaid : Prop := fnExactSiblingsUptoRow.holds Tryz.pinned (OpenSpec.upto fnExactSiblingsSpec)

end Rows
end Go.Proofs.YtnlhcdchmgfipaaGreat
