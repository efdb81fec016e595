/-
  No cell of these rows narrows 'for every input' (looked for: loops, veiled, ifaces, maps, wideKeys, modest, calm, conditions, laid).
  DERIVED. THE GIVEN ROWS OF THIS SEAT. 4 by the template 'for every input the law returns true; each argument reads behind the call as it read before'; 0 by the template 'total and deterministic' (their statements: YtnccenbkpocjgaaGreatTotals.lean).
  GIVEN WITH THE SEED: the statements are not yours to turn. If you find one false, say at which input.
  Laid BY PROGRAM, IN A SANDBOX (cutbox-rows.mjs): the forced cells as the released guide's own fill.sh prints them over the translation ac449b0cf6990536… (all of the seat's roots in one cut). By AI agents, Wed Nov 11 2026. No macro, syntax, notation, axiom, sorry.
-/
import Derived.Test.YtnccenbkpocjgaaGreatChecked
import GoSem.Claim
import GoSem.ClaimJoined
import GoSem.ClaimMapViews
import Derived.JoinedTies
import Derived.KernelRfl
namespace Go.Proofs.YtnccenbkpocjgaaGreat
/- THE CELL 'sum', in the pinned program and in every row, IS THE sha256 OF THE DUMP (.gsa) THAT YtnccenbkpocjgaaGreatProg.lean LOADS. Nothing in Lean hashes anything: it is a label: what it is worth is what the hold of that sum in a sandbox is worth. -/
noncomputable def Tryz.pinned : Pinned := { name := "ytnccenbkpocjgaagreat", sum := "ac449b0cf69905363a55942a6e263cd8bdf473d09a43c06a6c9c2c5a8308a388", checked := Tryz.checked }
namespace Rows
def none {H : Type} : Left H := { results := [], args := [] }

/-- 'laws.FnExactPartNew': WHATEVER THE INPUT: true; the input reads as it did. -/
def fnExactPartNewSpec : ChangeSpec := { name := "fnExactPartNew", fn := fun _ => fun
  | [d1, d2] => { results := [.lit (.bool true)], args := [d1, d2] }
  | _ => none }
def fnExactPartNewRow : OpenClaim := { program := "ytnccenbkpocjgaagreat", sum := "ac449b0cf69905363a55942a6e263cd8bdf473d09a43c06a6c9c2c5a8308a388", func := "loop.example/g00603/laws.FnExactPartNew", spec := "fnExactPartNew", unfollowed := true, recurses := true, plainKeys := false, apart := false }
def FnExactPartNewSaid : Prop := fnExactPartNewRow.holds Tryz.pinned (OpenSpec.ofChange fnExactPartNewSpec)

/-- ITS FALSE NEIGHBOUR: 'it returns false'. Refute it at one input. -/
def fnExactPartNewWrong : ChangeSpec := { name := "fnExactPartNew", fn := fun _ => fun
  | [d1, d2] => { results := [.lit (.bool false)], args := [d1, d2] }
  | _ => none }
def FnExactPartNewWrongFalsely : Prop := fnExactPartNewRow.holds Tryz.pinned (OpenSpec.ofChange fnExactPartNewWrong)

/-- 'laws.FnExactHear': WHATEVER THE INPUT: true; the input reads as it did. -/
def fnExactHearSpec : ChangeSpec := { name := "fnExactHear", fn := fun _ => fun
  | [d1, d2] => { results := [.lit (.bool true)], args := [d1, d2] }
  | _ => none }
def fnExactHearRow : OpenClaim := { program := "ytnccenbkpocjgaagreat", sum := "ac449b0cf69905363a55942a6e263cd8bdf473d09a43c06a6c9c2c5a8308a388", func := "loop.example/g00603/laws.FnExactHear", spec := "fnExactHear", inPlace := ["slices.overlaps[loop.example/g00603/impl.Event]"], unfollowed := true, recurses := true, plainKeys := false, apart := false }
def FnExactHearSaid : Prop := fnExactHearRow.holds Tryz.pinned (OpenSpec.ofChange fnExactHearSpec)

/-- ITS FALSE NEIGHBOUR: 'it returns false'. Refute it at one input. -/
def fnExactHearWrong : ChangeSpec := { name := "fnExactHear", fn := fun _ => fun
  | [d1, d2] => { results := [.lit (.bool false)], args := [d1, d2] }
  | _ => none }
def FnExactHearWrongFalsely : Prop := fnExactHearRow.holds Tryz.pinned (OpenSpec.ofChange fnExactHearWrong)

/-- 'laws.FnExactUnhear': WHATEVER THE INPUT: true; the input reads as it did. -/
def fnExactUnhearSpec : ChangeSpec := { name := "fnExactUnhear", fn := fun _ => fun
  | [d1, d2] => { results := [.lit (.bool true)], args := [d1, d2] }
  | _ => none }
def fnExactUnhearRow : OpenClaim := { program := "ytnccenbkpocjgaagreat", sum := "ac449b0cf69905363a55942a6e263cd8bdf473d09a43c06a6c9c2c5a8308a388", func := "loop.example/g00603/laws.FnExactUnhear", spec := "fnExactUnhear", inPlace := ["slices.overlaps[int]"], unfollowed := true, recurses := true, plainKeys := false, apart := false }
def FnExactUnhearSaid : Prop := fnExactUnhearRow.holds Tryz.pinned (OpenSpec.ofChange fnExactUnhearSpec)

/-- ITS FALSE NEIGHBOUR: 'it returns false'. Refute it at one input. -/
def fnExactUnhearWrong : ChangeSpec := { name := "fnExactUnhear", fn := fun _ => fun
  | [d1, d2] => { results := [.lit (.bool false)], args := [d1, d2] }
  | _ => none }
def FnExactUnhearWrongFalsely : Prop := fnExactUnhearRow.holds Tryz.pinned (OpenSpec.ofChange fnExactUnhearWrong)

/-- 'laws.FnExactWork': WHATEVER THE INPUT: true; the input reads as it did. -/
def fnExactWorkSpec : ChangeSpec := { name := "fnExactWork", fn := fun _ => fun
  | [d1, d2, d3, d4] => { results := [.lit (.bool true)], args := [d1, d2, d3, d4] }
  | _ => none }
def fnExactWorkRow : OpenClaim := { program := "ytnccenbkpocjgaagreat", sum := "ac449b0cf69905363a55942a6e263cd8bdf473d09a43c06a6c9c2c5a8308a388", func := "loop.example/g00603/laws.FnExactWork", spec := "fnExactWork", inPlace := ["sync/atomic.LoadUint32", "(*internal/sync.Mutex).Lock", "internal/race.Disable", "sync/atomic.CompareAndSwapInt32", "internal/race.Enable", "internal/race.Acquire", "(*internal/sync.Mutex).lockSlow", "internal/sync.runtime_canSpin", "internal/sync.runtime_doSpin", "internal/sync.throw", "internal/sync.runtime_nanotime", "internal/sync.runtime_SemacquireMutex", "sync/atomic.AddInt32", "(*internal/sync.Mutex).Unlock", "internal/race.ReleaseMerge", "(*internal/sync.Mutex).unlockSlow", "internal/sync.fatal", "internal/sync.runtime_Semrelease", "sync/atomic.StoreUint32"], unfollowed := true, recurses := true, plainKeys := false, apart := false }
def FnExactWorkSaid : Prop := fnExactWorkRow.holds Tryz.pinned (OpenSpec.ofChange fnExactWorkSpec)

/-- ITS FALSE NEIGHBOUR: 'it returns false'. Refute it at one input. -/
def fnExactWorkWrong : ChangeSpec := { name := "fnExactWork", fn := fun _ => fun
  | [d1, d2, d3, d4] => { results := [.lit (.bool false)], args := [d1, d2, d3, d4] }
  | _ => none }
def FnExactWorkWrongFalsely : Prop := fnExactWorkRow.holds Tryz.pinned (OpenSpec.ofChange fnExactWorkWrong)

/- THE SECOND FORM. 'bulk': how many values and letters a reading holds, each counted each time it is reached (what is shared counts as often as it is met; a slice's spare places count too). A statement '..UptoSaid' is the law's where the arguments, and the package variables that the reading takes, are together of bulk at most 1048576: NARROWER than '..Said'. Prove '..Said' where nothing that the law and all that it calls make is longer than what came in: it says more and counts as full. Else prove '..UptoSaid'. A law counts once. -/
mutual
def uptoBulk {H : Type} : DataW H → Nat
  | .lit (.string bytes) => bytes.length + 1
  | .lit _ => 1
  | .nil => 1
  | .ptr d => uptoBulk d + 1
  | .slice elems spare => uptoBulkAll elems + uptoBulkAll spare + 1
  | .agg parts => uptoBulkAll parts + 1
  | .iface _ d => uptoBulk d + 1
  | .map entries => uptoBulkEntries entries + 1
  | .held _ => 1
def uptoBulkAll {H : Type} : List (DataW H) → Nat
  | [] => 0
  | d :: r => uptoBulk d + uptoBulkAll r
def uptoBulkEntries {H : Type} : List (Lit × DataW H) → Nat
  | [] => 0
  | x :: r => uptoBulkEntry x + uptoBulkEntries r
def uptoBulkEntry {H : Type} : Lit × DataW H → Nat
  | (.string bytes, d) => bytes.length + uptoBulk d + 1
  | (_, d) => uptoBulk d + 1
 end
def uptoSmall : (H : Type) → List (DataW H) → Bool := fun _ ds => decide (uptoBulkAll ds ≤ 1048576)
def OpenSpec.upto (s : _root_.Go.ChangeSpec) : _root_.Go.OpenSpec := { _root_.Go.OpenSpec.ofChange s with cond := some uptoSmall }

/-- 'laws.FnExactPartNew', WHERE WHAT IT READS IS OF BULK AT MOST 1048576: true; the input reads as it did. -/
def fnExactPartNewUptoRow : OpenClaim := { program := "ytnccenbkpocjgaagreat", sum := "ac449b0cf69905363a55942a6e263cd8bdf473d09a43c06a6c9c2c5a8308a388", func := "loop.example/g00603/laws.FnExactPartNew", spec := "fnExactPartNew", unfollowed := true, recurses := true, plainKeys := false, apart := false, narrowed := true }
def FnExactPartNewUptoSaid : Prop := fnExactPartNewUptoRow.holds Tryz.pinned (OpenSpec.upto fnExactPartNewSpec)

/-- 'laws.FnExactHear', WHERE WHAT IT READS IS OF BULK AT MOST 1048576: true; the input reads as it did. -/
def fnExactHearUptoRow : OpenClaim := { program := "ytnccenbkpocjgaagreat", sum := "ac449b0cf69905363a55942a6e263cd8bdf473d09a43c06a6c9c2c5a8308a388", func := "loop.example/g00603/laws.FnExactHear", spec := "fnExactHear", inPlace := ["slices.overlaps[loop.example/g00603/impl.Event]"], unfollowed := true, recurses := true, plainKeys := false, apart := false, narrowed := true }
def FnExactHearUptoSaid : Prop := fnExactHearUptoRow.holds Tryz.pinned (OpenSpec.upto fnExactHearSpec)

/-- 'laws.FnExactUnhear', WHERE WHAT IT READS IS OF BULK AT MOST 1048576: true; the input reads as it did. -/
def fnExactUnhearUptoRow : OpenClaim := { program := "ytnccenbkpocjgaagreat", sum := "ac449b0cf69905363a55942a6e263cd8bdf473d09a43c06a6c9c2c5a8308a388", func := "loop.example/g00603/laws.FnExactUnhear", spec := "fnExactUnhear", inPlace := ["slices.overlaps[int]"], unfollowed := true, recurses := true, plainKeys := false, apart := false, narrowed := true }
def FnExactUnhearUptoSaid : Prop := fnExactUnhearUptoRow.holds Tryz.pinned (OpenSpec.upto fnExactUnhearSpec)

/-- 'laws.FnExactWork', WHERE WHAT IT READS IS OF BULK AT MOST 1048576: true; the input reads as it did. -/
def fnExactWorkUptoRow : OpenClaim := { program := "ytnccenbkpocjgaagreat", sum := "ac449b0cf69905363a55942a6e263cd8bdf473d09a43c06a6c9c2c5a8308a388", func := "loop.example/g00603/laws.FnExactWork", spec := "fnExactWork", inPlace := ["sync/atomic.LoadUint32", "(*internal/sync.Mutex).Lock", "internal/race.Disable", "sync/atomic.CompareAndSwapInt32", "internal/race.Enable", "internal/race.Acquire", "(*internal/sync.Mutex).lockSlow", "internal/sync.runtime_canSpin", "internal/sync.runtime_doSpin", "internal/sync.throw", "internal/sync.runtime_nanotime", "internal/sync.runtime_SemacquireMutex", "sync/atomic.AddInt32", "(*internal/sync.Mutex).Unlock", "internal/race.ReleaseMerge", "(*internal/sync.Mutex).unlockSlow", "internal/sync.fatal", "internal/sync.runtime_Semrelease", "sync/atomic.StoreUint32"], unfollowed := true, recurses := true, plainKeys := false, apart := false, narrowed := true }
def FnExactWorkUptoSaid : Prop := fnExactWorkUptoRow.holds Tryz.pinned (OpenSpec.upto fnExactWorkSpec)

end Rows
end Go.Proofs.YtnccenbkpocjgaaGreat
