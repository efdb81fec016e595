/-
  No cell of these rows narrows 'for every input' (looked for: loops, veiled, ifaces, maps, wideKeys, modest, calm, conditions, laid).
  DERIVED. THE GIVEN ROWS OF THIS SEAT. 6 by the template 'for every input the law returns true; each argument reads behind the call as it read before'; 0 by the template 'total and deterministic' (their statements: YtghndljgadpijaaGreatTotals.lean).
  GIVEN WITH THE SEED: the statements are not yours to turn. If you find one false, say at which input.
  Laid BY PROGRAM, IN A SANDBOX (cutbox-rows.mjs): the forced cells as the released guide's own fill.sh prints them over the translation 8da8e4df917affd9… (all of the seat's roots in one cut). By AI agents, Wed Nov 11 2026. No macro, syntax, notation, axiom, sorry.
-/
import Derived.Test.YtghndljgadpijaaGreatChecked
import GoSem.Claim
import GoSem.ClaimJoined
import GoSem.ClaimMapViews
import Derived.JoinedTies
import Derived.KernelRfl
namespace Go.Proofs.YtghndljgadpijaaGreat
/- THE CELL 'sum', in the pinned program and in every row, IS THE sha256 OF THE DUMP (.gsa) THAT YtghndljgadpijaaGreatProg.lean LOADS. Nothing in Lean hashes anything: it is a label: what it is worth is what the hold of that sum in a sandbox is worth. -/
noncomputable def Tryz.pinned : Pinned := { name := "ytghndljgadpijaagreat", sum := "8da8e4df917affd9c45c2d6325a983f55e9709998fb6722d9a2875ab339c6399", checked := Tryz.checked }
namespace Rows
def none {H : Type} : Left H := { results := [], args := [] }

/-- 'laws.FnExactCollect': WHATEVER THE INPUT: true; the input reads as it did. -/
def fnExactCollectSpec : ChangeSpec := { name := "fnExactCollect", fn := fun _ => fun
  | [d] => { results := [.lit (.bool true)], args := [d] }
  | _ => none }
def fnExactCollectRow : OpenClaim := { program := "ytghndljgadpijaagreat", sum := "8da8e4df917affd9c45c2d6325a983f55e9709998fb6722d9a2875ab339c6399", func := "loop.example/g00603/laws.FnExactCollect", spec := "fnExactCollect", unfollowed := true, recurses := true, plainKeys := false, apart := false }
def FnExactCollectSaid : Prop := fnExactCollectRow.holds Tryz.pinned (OpenSpec.ofChange fnExactCollectSpec)

/-- ITS FALSE NEIGHBOUR: 'it returns false'. Refute it at one input. -/
def fnExactCollectWrong : ChangeSpec := { name := "fnExactCollect", fn := fun _ => fun
  | [d] => { results := [.lit (.bool false)], args := [d] }
  | _ => none }
def FnExactCollectWrongFalsely : Prop := fnExactCollectRow.holds Tryz.pinned (OpenSpec.ofChange fnExactCollectWrong)

/-- 'laws.FnExactPrune': WHATEVER THE INPUT: true; the input reads as it did. -/
def fnExactPruneSpec : ChangeSpec := { name := "fnExactPrune", fn := fun _ => fun
  | [d1, d2] => { results := [.lit (.bool true)], args := [d1, d2] }
  | _ => none }
def fnExactPruneRow : OpenClaim := { program := "ytghndljgadpijaagreat", sum := "8da8e4df917affd9c45c2d6325a983f55e9709998fb6722d9a2875ab339c6399", func := "loop.example/g00603/laws.FnExactPrune", spec := "fnExactPrune", unfollowed := true, recurses := true, plainKeys := false, apart := false }
def FnExactPruneSaid : Prop := fnExactPruneRow.holds Tryz.pinned (OpenSpec.ofChange fnExactPruneSpec)

/-- ITS FALSE NEIGHBOUR: 'it returns false'. Refute it at one input. -/
def fnExactPruneWrong : ChangeSpec := { name := "fnExactPrune", fn := fun _ => fun
  | [d1, d2] => { results := [.lit (.bool false)], args := [d1, d2] }
  | _ => none }
def FnExactPruneWrongFalsely : Prop := fnExactPruneRow.holds Tryz.pinned (OpenSpec.ofChange fnExactPruneWrong)

/-- 'laws.FnExactBranch': WHATEVER THE INPUT: true; the input reads as it did. -/
def fnExactBranchSpec : ChangeSpec := { name := "fnExactBranch", fn := fun _ => fun
  | [d1, d2] => { results := [.lit (.bool true)], args := [d1, d2] }
  | _ => none }
def fnExactBranchRow : OpenClaim := { program := "ytghndljgadpijaagreat", sum := "8da8e4df917affd9c45c2d6325a983f55e9709998fb6722d9a2875ab339c6399", func := "loop.example/g00603/laws.FnExactBranch", spec := "fnExactBranch", unfollowed := true, recurses := true, plainKeys := false, apart := false }
def FnExactBranchSaid : Prop := fnExactBranchRow.holds Tryz.pinned (OpenSpec.ofChange fnExactBranchSpec)

/-- ITS FALSE NEIGHBOUR: 'it returns false'. Refute it at one input. -/
def fnExactBranchWrong : ChangeSpec := { name := "fnExactBranch", fn := fun _ => fun
  | [d1, d2] => { results := [.lit (.bool false)], args := [d1, d2] }
  | _ => none }
def FnExactBranchWrongFalsely : Prop := fnExactBranchRow.holds Tryz.pinned (OpenSpec.ofChange fnExactBranchWrong)

/-- 'laws.FnExactForce': WHATEVER THE INPUT: true; the input reads as it did. -/
def fnExactForceSpec : ChangeSpec := { name := "fnExactForce", fn := fun _ => fun
  | [d1, d2, d3, d4] => { results := [.lit (.bool true)], args := [d1, d2, d3, d4] }
  | _ => none }
def fnExactForceRow : OpenClaim := { program := "ytghndljgadpijaagreat", sum := "8da8e4df917affd9c45c2d6325a983f55e9709998fb6722d9a2875ab339c6399", func := "loop.example/g00603/laws.FnExactForce", spec := "fnExactForce", unfollowed := true, recurses := true, plainKeys := false, apart := false }
def FnExactForceSaid : Prop := fnExactForceRow.holds Tryz.pinned (OpenSpec.ofChange fnExactForceSpec)

/-- ITS FALSE NEIGHBOUR: 'it returns false'. Refute it at one input. -/
def fnExactForceWrong : ChangeSpec := { name := "fnExactForce", fn := fun _ => fun
  | [d1, d2, d3, d4] => { results := [.lit (.bool false)], args := [d1, d2, d3, d4] }
  | _ => none }
def FnExactForceWrongFalsely : Prop := fnExactForceRow.holds Tryz.pinned (OpenSpec.ofChange fnExactForceWrong)

/-- 'laws.FnExactDeliver': WHATEVER THE INPUT: true; the input reads as it did. -/
def fnExactDeliverSpec : ChangeSpec := { name := "fnExactDeliver", fn := fun _ => fun
  | [d1, d2] => { results := [.lit (.bool true)], args := [d1, d2] }
  | _ => none }
def fnExactDeliverRow : OpenClaim := { program := "ytghndljgadpijaagreat", sum := "8da8e4df917affd9c45c2d6325a983f55e9709998fb6722d9a2875ab339c6399", func := "loop.example/g00603/laws.FnExactDeliver", spec := "fnExactDeliver", inPlace := ["sync/atomic.StoreInt64", "slices.overlaps[int]", "slices.overlaps[loop.example/g00603/impl.Event]", "sync/atomic.LoadInt64"], unfollowed := true, recurses := true, plainKeys := false, apart := false }
def FnExactDeliverSaid : Prop := fnExactDeliverRow.holds Tryz.pinned (OpenSpec.ofChange fnExactDeliverSpec)

/-- ITS FALSE NEIGHBOUR: 'it returns false'. Refute it at one input. -/
def fnExactDeliverWrong : ChangeSpec := { name := "fnExactDeliver", fn := fun _ => fun
  | [d1, d2] => { results := [.lit (.bool false)], args := [d1, d2] }
  | _ => none }
def FnExactDeliverWrongFalsely : Prop := fnExactDeliverRow.holds Tryz.pinned (OpenSpec.ofChange fnExactDeliverWrong)

/-- 'laws.FnExactWorldDeliver': WHATEVER THE INPUT: true; the input reads as it did. -/
def fnExactWorldDeliverSpec : ChangeSpec := { name := "fnExactWorldDeliver", fn := fun _ => fun
  | [d1, d2, d3] => { results := [.lit (.bool true)], args := [d1, d2, d3] }
  | _ => none }
def fnExactWorldDeliverRow : OpenClaim := { program := "ytghndljgadpijaagreat", sum := "8da8e4df917affd9c45c2d6325a983f55e9709998fb6722d9a2875ab339c6399", func := "loop.example/g00603/laws.FnExactWorldDeliver", spec := "fnExactWorldDeliver", inPlace := ["sync/atomic.StoreInt64", "slices.overlaps[int]", "slices.overlaps[loop.example/g00603/impl.Event]", "sync/atomic.LoadInt64"], unfollowed := true, recurses := true, plainKeys := false, apart := false }
def FnExactWorldDeliverSaid : Prop := fnExactWorldDeliverRow.holds Tryz.pinned (OpenSpec.ofChange fnExactWorldDeliverSpec)

/-- ITS FALSE NEIGHBOUR: 'it returns false'. Refute it at one input. -/
def fnExactWorldDeliverWrong : ChangeSpec := { name := "fnExactWorldDeliver", fn := fun _ => fun
  | [d1, d2, d3] => { results := [.lit (.bool false)], args := [d1, d2, d3] }
  | _ => none }
def FnExactWorldDeliverWrongFalsely : Prop := fnExactWorldDeliverRow.holds Tryz.pinned (OpenSpec.ofChange fnExactWorldDeliverWrong)

/- THE SECOND FORM. 'bulk': how many values and letters a reading holds, each counted each time it is reached (what is shared counts as often as it is met; a slice's spare places count too). A statement '..UptoSaid' is the law's where the arguments, and the package variables that the reading takes, are together of bulk at most 1048576: NARROWER than '..Said'. Prove '..Said' where nothing that the law and all that it calls make is longer than what came in: it says more and counts as full. Else prove '..UptoSaid'. A law counts once. -/
mutual
def uptoBulk {H : Type} : DataW H → Nat
  | .lit (.string bytes) => bytes.length + 1
  | .lit _ => 1
  | .nil => 1
  | .ptr d => uptoBulk d + 1
  | .slice elems spare => uptoBulkAll elems + uptoBulkAll spare + 1
  | .agg parts => uptoBulkAll parts + 1
  | .iface _ d => uptoBulk d + 1
  | .map entries => uptoBulkEntries entries + 1
  | .held _ => 1
def uptoBulkAll {H : Type} : List (DataW H) → Nat
  | [] => 0
  | d :: r => uptoBulk d + uptoBulkAll r
def uptoBulkEntries {H : Type} : List (Lit × DataW H) → Nat
  | [] => 0
  | x :: r => uptoBulkEntry x + uptoBulkEntries r
def uptoBulkEntry {H : Type} : Lit × DataW H → Nat
  | (.string bytes, d) => bytes.length + uptoBulk d + 1
  | (_, d) => uptoBulk d + 1
 end
def uptoSmall : (H : Type) → List (DataW H) → Bool := fun _ ds => decide (uptoBulkAll ds ≤ 1048576)
def OpenSpec.upto (s : _root_.Go.ChangeSpec) : _root_.Go.OpenSpec := { _root_.Go.OpenSpec.ofChange s with cond := some uptoSmall }

/-- 'laws.FnExactCollect', WHERE WHAT IT READS IS OF BULK AT MOST 1048576: true; the input reads as it did. -/
def fnExactCollectUptoRow : OpenClaim := { program := "ytghndljgadpijaagreat", sum := "8da8e4df917affd9c45c2d6325a983f55e9709998fb6722d9a2875ab339c6399", func := "loop.example/g00603/laws.FnExactCollect", spec := "fnExactCollect", unfollowed := true, recurses := true, plainKeys := false, apart := false, narrowed := true }
def FnExactCollectUptoSaid : Prop := fnExactCollectUptoRow.holds Tryz.pinned (OpenSpec.upto fnExactCollectSpec)

/-- 'laws.FnExactPrune', WHERE WHAT IT READS IS OF BULK AT MOST 1048576: true; the input reads as it did. -/
def fnExactPruneUptoRow : OpenClaim := { program := "ytghndljgadpijaagreat", sum := "8da8e4df917affd9c45c2d6325a983f55e9709998fb6722d9a2875ab339c6399", func := "loop.example/g00603/laws.FnExactPrune", spec := "fnExactPrune", unfollowed := true, recurses := true, plainKeys := false, apart := false, narrowed := true }
def FnExactPruneUptoSaid : Prop := fnExactPruneUptoRow.holds Tryz.pinned (OpenSpec.upto fnExactPruneSpec)

/-- 'laws.FnExactBranch', WHERE WHAT IT READS IS OF BULK AT MOST 1048576: true; the input reads as it did. -/
def fnExactBranchUptoRow : OpenClaim := { program := "ytghndljgadpijaagreat", sum := "8da8e4df917affd9c45c2d6325a983f55e9709998fb6722d9a2875ab339c6399", func := "loop.example/g00603/laws.FnExactBranch", spec := "fnExactBranch", unfollowed := true, recurses := true, plainKeys := false, apart := false, narrowed := true }
def FnExactBranchUptoSaid : Prop := fnExactBranchUptoRow.holds Tryz.pinned (OpenSpec.upto fnExactBranchSpec)

/-- 'laws.FnExactForce', WHERE WHAT IT READS IS OF BULK AT MOST 1048576: true; the input reads as it did. -/
def fnExactForceUptoRow : OpenClaim := { program := "ytghndljgadpijaagreat", sum := "8da8e4df917affd9c45c2d6325a983f55e9709998fb6722d9a2875ab339c6399", func := "loop.example/g00603/laws.FnExactForce", spec := "fnExactForce", unfollowed := true, recurses := true, plainKeys := false, apart := false, narrowed := true }
def FnExactForceUptoSaid : Prop := fnExactForceUptoRow.holds Tryz.pinned (OpenSpec.upto fnExactForceSpec)

/-- 'laws.FnExactDeliver', WHERE WHAT IT READS IS OF BULK AT MOST 1048576: true; the input reads as it did. -/
def fnExactDeliverUptoRow : OpenClaim := { program := "ytghndljgadpijaagreat", sum := "8da8e4df917affd9c45c2d6325a983f55e9709998fb6722d9a2875ab339c6399", func := "loop.example/g00603/laws.FnExactDeliver", spec := "fnExactDeliver", inPlace := ["sync/atomic.StoreInt64", "slices.overlaps[int]", "slices.overlaps[loop.example/g00603/impl.Event]", "sync/atomic.LoadInt64"], unfollowed := true, recurses := true, plainKeys := false, apart := false, narrowed := true }
def FnExactDeliverUptoSaid : Prop := fnExactDeliverUptoRow.holds Tryz.pinned (OpenSpec.upto fnExactDeliverSpec)

/-- 'laws.FnExactWorldDeliver', WHERE WHAT IT READS IS OF BULK AT MOST 1048576: true; the input reads as it did. -/
def fnExactWorldDeliverUptoRow : OpenClaim := { program := "ytghndljgadpijaagreat", sum := "8da8e4df917affd9c45c2d6325a983f55e9709998fb6722d9a2875ab339c6399", func := "loop.example/g00603/laws.FnExactWorldDeliver", spec := "fnExactWorldDeliver", inPlace := ["sync/atomic.StoreInt64", "slices.overlaps[int]", "slices.overlaps[loop.example/g00603/impl.Event]", "sync/atomic.LoadInt64"], unfollowed := true, recurses := true, plainKeys := false, apart := false, narrowed := true }
def FnExactWorldDeliverUptoSaid : Prop := fnExactWorldDeliverUptoRow.holds Tryz.pinned (OpenSpec.upto fnExactWorldDeliverSpec)

end Rows
end Go.Proofs.YtghndljgadpijaaGreat
