/- What the text of a model is; the word of an op. -/
import Derived.Test.YtbcdfacbhemijaaDoorExactHistoryTextCardLMDeed
import Derived.Test.YtbcdfacbhemijaaDoorExactHistoryTextCardG11
import Derived.Test.YtbcdfacbhemijaaDoorExactHistoryTextCardLDTextS
namespace Go.Proofs.YtbcdfacbhemijaaDoor
open Go.RowKit
def opWord (c : Int) : List UInt8 :=
  if c = 0 then [97, 100, 100]
  else if c = 1 then [116, 97, 107, 101]
  else if c = 2 then [115, 101, 110, 100]
  else if c = 3 then [115, 107, 105, 112]
  else if c = 4 then [97, 115, 107]
  else if c = 5 then [101, 109, 105, 116]
  else if c = 6 then [100, 114, 97, 119]
  else []
def opText (x : O) : List UInt8 := [32] ++ opWord x.c ++ ([32] ++ dec x.a) ++ ([32] ++ dec x.b) ++ ([32] ++ dec x.k)
def opsText : List O → List UInt8
  | [] => []
  | x :: l => opText x ++ opsText l
theorem opsText_append : ∀ l r : List O, opsText (l ++ r) = opsText l ++ opsText r
  | [], r => rfl
  | x :: l, r => by simp [opsText, opsText_append l r]
def kindText (i : Nat) (r : List O) : List UInt8 := [107, 105, 110, 100, 32] ++ dec (i : Int) ++ opsText r ++ [10]
def kindsText (hs : List (List O)) : Nat → List UInt8
  | 0 => []
  | i + 1 => kindsText hs i ++ kindText i (hAt hs i)
def lineText (e : Ev) : List UInt8 := evText e.t e.s e.q e.d e.k e.v ++ [10]
def linesText (es : List Ev) : Nat → List UInt8
  | 0 => []
  | i + 1 => linesText es i ++ lineText (evAt es i)
def headText (m : Md) : List UInt8 := [112, 97, 114, 116, 115, 32] ++ dec m.n ++ ([32, 101, 110, 100, 32] ++ dec m.z) ++ ([32, 115, 101, 101, 100, 32] ++ dec m.s) ++ [10]
def modText (m : Md) : List UInt8 := headText m ++ kindsText m.h m.h.length ++ linesText m.e m.e.length
set_option maxRecDepth 100000 in
set_option maxHeartbeats 1000000 in
theorem word_adding (x y : Int) (w : World) : Calls Tryd.prog 57 #[vAdd x y] w fun e w' => e = .returned (.string ⟨#[97, 100, 100]⟩) ∧ Below w.heap.size w w' := by
  have q0 : ∀ W : World, (Instr.typeAssert (vAdd x y) 95 121 true).run Tryd.prog W = .ok (.tuple #[.agg #[.int .i64 x, .int .i64 y], .bool true]) W := fun W => by kernel_rfl
  go_enter Tryd.func57, Tryd.ntmps57
  go_wp2
  go_ret
  exact ⟨rfl, Below.refl _ _⟩
set_option maxRecDepth 100000 in
set_option maxHeartbeats 1000000 in
theorem word_taking (x : Int) (w : World) : Calls Tryd.prog 57 #[vTake x] w fun e w' => e = .returned (.string ⟨#[116, 97, 107, 101]⟩) ∧ Below w.heap.size w w' := by
  have q0 : ∀ W : World, (Instr.typeAssert (vTake x) 95 121 true).run Tryd.prog W = .ok (.tuple #[.agg #[.int .i64 0, .int .i64 0], .bool false]) W := fun W => by kernel_rfl
  have q1 : ∀ W : World, (Instr.typeAssert (vTake x) 95 123 true).run Tryd.prog W = .ok (.tuple #[.agg #[.int .i64 x], .bool true]) W := fun W => by kernel_rfl
  go_enter Tryd.func57, Tryd.ntmps57
  go_wp2
  go_ret
  exact ⟨rfl, Below.refl _ _⟩
set_option maxRecDepth 100000 in
set_option maxHeartbeats 1000000 in
theorem word_sending (x y t : Int) (w : World) : Calls Tryd.prog 57 #[vSend x y t] w fun e w' => e = .returned (.string ⟨#[115, 101, 110, 100]⟩) ∧ Below w.heap.size w w' := by
  have q0 : ∀ W : World, (Instr.typeAssert (vSend x y t) 95 121 true).run Tryd.prog W = .ok (.tuple #[.agg #[.int .i64 0, .int .i64 0], .bool false]) W := fun W => by kernel_rfl
  have q1 : ∀ W : World, (Instr.typeAssert (vSend x y t) 95 123 true).run Tryd.prog W = .ok (.tuple #[.agg #[.int .i64 0], .bool false]) W := fun W => by kernel_rfl
  have q2 : ∀ W : World, (Instr.typeAssert (vSend x y t) 95 125 true).run Tryd.prog W = .ok (.tuple #[.agg #[.int .i64 x, .int .i64 y, .int .i64 t], .bool true]) W := fun W => by kernel_rfl
  go_enter Tryd.func57, Tryd.ntmps57
  go_wp2
  go_ret
  exact ⟨rfl, Below.refl _ _⟩
set_option maxRecDepth 100000 in
set_option maxHeartbeats 1000000 in
theorem word_skipping (x y t : Int) (w : World) : Calls Tryd.prog 57 #[vSkip x y t] w fun e w' => e = .returned (.string ⟨#[115, 107, 105, 112]⟩) ∧ Below w.heap.size w w' := by
  have q0 : ∀ W : World, (Instr.typeAssert (vSkip x y t) 95 121 true).run Tryd.prog W = .ok (.tuple #[.agg #[.int .i64 0, .int .i64 0], .bool false]) W := fun W => by kernel_rfl
  have q1 : ∀ W : World, (Instr.typeAssert (vSkip x y t) 95 123 true).run Tryd.prog W = .ok (.tuple #[.agg #[.int .i64 0], .bool false]) W := fun W => by kernel_rfl
  have q2 : ∀ W : World, (Instr.typeAssert (vSkip x y t) 95 125 true).run Tryd.prog W = .ok (.tuple #[.agg #[.int .i64 0, .int .i64 0, .int .i64 0], .bool false]) W := fun W => by kernel_rfl
  have q3 : ∀ W : World, (Instr.typeAssert (vSkip x y t) 95 127 true).run Tryd.prog W = .ok (.tuple #[.agg #[.int .i64 x, .int .i64 y, .int .i64 t], .bool true]) W := fun W => by kernel_rfl
  go_enter Tryd.func57, Tryd.ntmps57
  go_wp2
  go_ret
  exact ⟨rfl, Below.refl _ _⟩
set_option maxRecDepth 100000 in
set_option maxHeartbeats 1000000 in
theorem word_asking (x y : Int) (w : World) : Calls Tryd.prog 57 #[vAsk x y] w fun e w' => e = .returned (.string ⟨#[97, 115, 107]⟩) ∧ Below w.heap.size w w' := by
  have q0 : ∀ W : World, (Instr.typeAssert (vAsk x y) 95 121 true).run Tryd.prog W = .ok (.tuple #[.agg #[.int .i64 0, .int .i64 0], .bool false]) W := fun W => by kernel_rfl
  have q1 : ∀ W : World, (Instr.typeAssert (vAsk x y) 95 123 true).run Tryd.prog W = .ok (.tuple #[.agg #[.int .i64 0], .bool false]) W := fun W => by kernel_rfl
  have q2 : ∀ W : World, (Instr.typeAssert (vAsk x y) 95 125 true).run Tryd.prog W = .ok (.tuple #[.agg #[.int .i64 0, .int .i64 0, .int .i64 0], .bool false]) W := fun W => by kernel_rfl
  have q3 : ∀ W : World, (Instr.typeAssert (vAsk x y) 95 127 true).run Tryd.prog W = .ok (.tuple #[.agg #[.int .i64 0, .int .i64 0, .int .i64 0], .bool false]) W := fun W => by kernel_rfl
  have q4 : ∀ W : World, (Instr.typeAssert (vAsk x y) 95 129 true).run Tryd.prog W = .ok (.tuple #[.agg #[.int .i64 x, .int .i64 y], .bool true]) W := fun W => by kernel_rfl
  go_enter Tryd.func57, Tryd.ntmps57
  go_wp2
  go_ret
  exact ⟨rfl, Below.refl _ _⟩
set_option maxRecDepth 100000 in
set_option maxHeartbeats 1000000 in
theorem word_emitting (x : Int) (w : World) : Calls Tryd.prog 57 #[vEmit x] w fun e w' => e = .returned (.string ⟨#[101, 109, 105, 116]⟩) ∧ Below w.heap.size w w' := by
  have q0 : ∀ W : World, (Instr.typeAssert (vEmit x) 95 121 true).run Tryd.prog W = .ok (.tuple #[.agg #[.int .i64 0, .int .i64 0], .bool false]) W := fun W => by kernel_rfl
  have q1 : ∀ W : World, (Instr.typeAssert (vEmit x) 95 123 true).run Tryd.prog W = .ok (.tuple #[.agg #[.int .i64 0], .bool false]) W := fun W => by kernel_rfl
  have q2 : ∀ W : World, (Instr.typeAssert (vEmit x) 95 125 true).run Tryd.prog W = .ok (.tuple #[.agg #[.int .i64 0, .int .i64 0, .int .i64 0], .bool false]) W := fun W => by kernel_rfl
  have q3 : ∀ W : World, (Instr.typeAssert (vEmit x) 95 127 true).run Tryd.prog W = .ok (.tuple #[.agg #[.int .i64 0, .int .i64 0, .int .i64 0], .bool false]) W := fun W => by kernel_rfl
  have q4 : ∀ W : World, (Instr.typeAssert (vEmit x) 95 129 true).run Tryd.prog W = .ok (.tuple #[.agg #[.int .i64 0, .int .i64 0], .bool false]) W := fun W => by kernel_rfl
  have q5 : ∀ W : World, (Instr.typeAssert (vEmit x) 95 130 true).run Tryd.prog W = .ok (.tuple #[.agg #[.int .i64 x], .bool true]) W := fun W => by kernel_rfl
  go_enter Tryd.func57, Tryd.ntmps57
  go_wp2
  go_ret
  exact ⟨rfl, Below.refl _ _⟩
set_option maxRecDepth 100000 in
set_option maxHeartbeats 1000000 in
theorem word_drawing (x y : Int) (w : World) : Calls Tryd.prog 57 #[vDraw x y] w fun e w' => e = .returned (.string ⟨#[100, 114, 97, 119]⟩) ∧ Below w.heap.size w w' := by
  have q0 : ∀ W : World, (Instr.typeAssert (vDraw x y) 95 121 true).run Tryd.prog W = .ok (.tuple #[.agg #[.int .i64 0, .int .i64 0], .bool false]) W := fun W => by kernel_rfl
  have q1 : ∀ W : World, (Instr.typeAssert (vDraw x y) 95 123 true).run Tryd.prog W = .ok (.tuple #[.agg #[.int .i64 0], .bool false]) W := fun W => by kernel_rfl
  have q2 : ∀ W : World, (Instr.typeAssert (vDraw x y) 95 125 true).run Tryd.prog W = .ok (.tuple #[.agg #[.int .i64 0, .int .i64 0, .int .i64 0], .bool false]) W := fun W => by kernel_rfl
  have q3 : ∀ W : World, (Instr.typeAssert (vDraw x y) 95 127 true).run Tryd.prog W = .ok (.tuple #[.agg #[.int .i64 0, .int .i64 0, .int .i64 0], .bool false]) W := fun W => by kernel_rfl
  have q4 : ∀ W : World, (Instr.typeAssert (vDraw x y) 95 129 true).run Tryd.prog W = .ok (.tuple #[.agg #[.int .i64 0, .int .i64 0], .bool false]) W := fun W => by kernel_rfl
  have q5 : ∀ W : World, (Instr.typeAssert (vDraw x y) 95 130 true).run Tryd.prog W = .ok (.tuple #[.agg #[.int .i64 0], .bool false]) W := fun W => by kernel_rfl
  have q6 : ∀ W : World, (Instr.typeAssert (vDraw x y) 95 132 true).run Tryd.prog W = .ok (.tuple #[.agg #[.int .i64 x, .int .i64 y], .bool true]) W := fun W => by kernel_rfl
  go_enter Tryd.func57, Tryd.ntmps57
  go_wp2
  go_ret
  exact ⟨rfl, Below.refl _ _⟩
theorem deedWord_any (c a b k : Int) (w : World) (h0 : 0 ≤ c) (h1 : c ≤ 6) : Calls Tryd.prog 57 #[deedV c a b k] w fun e w' => e = .returned (.string ⟨(opWord c).toArray⟩) ∧ Below w.heap.size w w' := by
  have hc : c = 0 ∨ c = 1 ∨ c = 2 ∨ c = 3 ∨ c = 4 ∨ c = 5 ∨ c = 6 := by omega
  rcases hc with rfl | rfl | rfl | rfl | rfl | rfl | rfl
  · exact word_adding _ _ _
  · exact word_taking _ _
  · exact word_sending _ _ _ _
  · exact word_skipping _ _ _ _
  · exact word_asking _ _ _
  · exact word_emitting _ _
  · exact word_drawing _ _ _
end Go.Proofs.YtbcdfacbhemijaaDoor
