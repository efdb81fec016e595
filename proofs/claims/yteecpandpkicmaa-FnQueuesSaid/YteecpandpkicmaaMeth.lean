/- Which methods a pile has. -/
import Derived.Test.YteecpandpkicmaaSwapJ
import Derived.Test.YteecpandpkicmaaLessI
import Derived.Test.YteecpandpkicmaaSteps
namespace Go.Proofs.Yteecpandpkicmaa
open Go.RowKit
abbrev pv (P : Nat) : Value := .iface 87 (.pointer (some ⟨P, 0, none⟩))
theorem m_len (P : Nat) (w : World) : (method 221 87 (.pointer (some ⟨P, 0, none⟩)) "Len").run Try.prog w = .ok (86, .pointer (some ⟨P, 0, none⟩)) w := by kernel_rfl
theorem m_less (P : Nat) (w : World) : (method 221 87 (.pointer (some ⟨P, 0, none⟩)) "Less").run Try.prog w = .ok (87, .pointer (some ⟨P, 0, none⟩)) w := by kernel_rfl
theorem m_swap (P : Nat) (w : World) : (method 221 87 (.pointer (some ⟨P, 0, none⟩)) "Swap").run Try.prog w = .ok (90, .pointer (some ⟨P, 0, none⟩)) w := by kernel_rfl
theorem m_push (P : Nat) (w : World) : (method 221 87 (.pointer (some ⟨P, 0, none⟩)) "Push").run Try.prog w = .ok (89, .pointer (some ⟨P, 0, none⟩)) w := by kernel_rfl
theorem m_pop (P : Nat) (w : World) : (method 221 87 (.pointer (some ⟨P, 0, none⟩)) "Pop").run Try.prog w = .ok (88, .pointer (some ⟨P, 0, none⟩)) w := by kernel_rfl
theorem m_events (P : Nat) (w : World) : (method 221 87 (.pointer (some ⟨P, 0, none⟩)) "loop.example/g00603/impl.events").run Try.prog w = .ok (91, .pointer (some ⟨P, 0, none⟩)) w := by kernel_rfl
end Go.Proofs.Yteecpandpkicmaa
