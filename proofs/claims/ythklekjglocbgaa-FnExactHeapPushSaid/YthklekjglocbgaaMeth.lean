/- Which methods a pile has. -/
import Derived.Test.YthklekjglocbgaaSwapJ
import Derived.Test.YthklekjglocbgaaLessI
import Derived.Test.YthklekjglocbgaaSteps
namespace Go.Proofs.Ythklekjglocbgaa
open Go.RowKit
abbrev pv (P : Nat) : Value := .iface 66 (.pointer (some ⟨P, 0, none⟩))
theorem m_len (P : Nat) (w : World) : (method 201 66 (.pointer (some ⟨P, 0, none⟩)) "Len").run Try.prog w = .ok (76, .pointer (some ⟨P, 0, none⟩)) w := by kernel_rfl
theorem m_less (P : Nat) (w : World) : (method 201 66 (.pointer (some ⟨P, 0, none⟩)) "Less").run Try.prog w = .ok (77, .pointer (some ⟨P, 0, none⟩)) w := by kernel_rfl
theorem m_swap (P : Nat) (w : World) : (method 201 66 (.pointer (some ⟨P, 0, none⟩)) "Swap").run Try.prog w = .ok (80, .pointer (some ⟨P, 0, none⟩)) w := by kernel_rfl
theorem m_push (P : Nat) (w : World) : (method 201 66 (.pointer (some ⟨P, 0, none⟩)) "Push").run Try.prog w = .ok (79, .pointer (some ⟨P, 0, none⟩)) w := by kernel_rfl
theorem m_pop (P : Nat) (w : World) : (method 201 66 (.pointer (some ⟨P, 0, none⟩)) "Pop").run Try.prog w = .ok (78, .pointer (some ⟨P, 0, none⟩)) w := by kernel_rfl
theorem m_events (P : Nat) (w : World) : (method 201 66 (.pointer (some ⟨P, 0, none⟩)) "loop.example/g00603/impl.events").run Try.prog w = .ok (81, .pointer (some ⟨P, 0, none⟩)) w := by kernel_rfl
end Go.Proofs.Ythklekjglocbgaa
