/- Which methods a pile has. -/
import Derived.Test.YthklekjglocbgabSwapJ
import Derived.Test.YthklekjglocbgabLessI
import Derived.Test.YthklekjglocbgabSteps
namespace Go.Proofs.Ythklekjglocbgab
open Go.RowKit
abbrev pv (P : Nat) : Value := .iface 82 (.pointer (some ⟨P, 0, none⟩))
theorem m_len (P : Nat) (w : World) : (method 227 82 (.pointer (some ⟨P, 0, none⟩)) "Len").run Try.prog w = .ok (96, .pointer (some ⟨P, 0, none⟩)) w := by kernel_rfl
theorem m_less (P : Nat) (w : World) : (method 227 82 (.pointer (some ⟨P, 0, none⟩)) "Less").run Try.prog w = .ok (97, .pointer (some ⟨P, 0, none⟩)) w := by kernel_rfl
theorem m_swap (P : Nat) (w : World) : (method 227 82 (.pointer (some ⟨P, 0, none⟩)) "Swap").run Try.prog w = .ok (100, .pointer (some ⟨P, 0, none⟩)) w := by kernel_rfl
theorem m_push (P : Nat) (w : World) : (method 227 82 (.pointer (some ⟨P, 0, none⟩)) "Push").run Try.prog w = .ok (99, .pointer (some ⟨P, 0, none⟩)) w := by kernel_rfl
theorem m_pop (P : Nat) (w : World) : (method 227 82 (.pointer (some ⟨P, 0, none⟩)) "Pop").run Try.prog w = .ok (98, .pointer (some ⟨P, 0, none⟩)) w := by kernel_rfl
theorem m_events (P : Nat) (w : World) : (method 227 82 (.pointer (some ⟨P, 0, none⟩)) "loop.example/g00603/impl.events").run Try.prog w = .ok (101, .pointer (some ⟨P, 0, none⟩)) w := by kernel_rfl
end Go.Proofs.Ythklekjglocbgab
