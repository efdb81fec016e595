/- MOpM, OkI, MOk -/
import Derived.Test.YthfhibnnkpbeiaaGreatExactWorldNewLMOpS
import Derived.Test.YthfhibnnkpbeiaaGreatExactWorldNewLMOpJ
import Derived.Test.YthfhibnnkpbeiaaGreatExactWorldNewG02
import Derived.Test.YthfhibnnkpbeiaaGreatExactWorldNewG01
import Derived.Test.YthfhibnnkpbeiaaGreatExactWorldNewG07
import Derived.Test.YthfhibnnkpbeiaaGreatExactWorldNewG05
import Derived.Test.YthfhibnnkpbeiaaGreatExactWorldNewLOkS
/- Both OpOk, of a model that is read. -/
namespace Go.Proofs.YthfhibnnkpbeiaaGreat
open Go.RowKit
theorem sOpM (x : Value) (m : Md) (c a b k : Int) (w : World) (h : IsM w x m) :
  Calls Tryz.prog 63 #[x, .agg #[.int .i64 c, .int .i64 a, .int .i64 b, .int .i64 k]] w fun e w' => e = .returned (.bool (okO m.n m.h.length c a b k)) ∧ Below w.heap.size w w' := by
 obtain ⟨vi, vh, vs, rfl, _, ⟨ah, cap, rfl, _⟩, _⟩ := h
 exact sOp_any _ _ _ _ _ _ _ _ _ _ _ _ _
theorem iOpM (x : Value) (m : Md) (c a b k : Int) (w : World) (h : IsM w x m) :
  Calls Tryz.prog 113 #[x, .agg #[.int .i64 c, .int .i64 a, .int .i64 b, .int .i64 k]] w fun e w' => e = .returned (.bool (okO m.n m.h.length c a b k)) ∧ Below w.heap.size w w' := by
 obtain ⟨vi, vh, vs, rfl, _, ⟨ah, cap, rfl, _⟩, _⟩ := h
 exact iOp_any _ _ _ _ _ _ _ _ _ _ _ _ _
end Go.Proofs.YthfhibnnkpbeiaaGreat

/- The program's EventOk. -/
namespace Go.Proofs.YthfhibnnkpbeiaaGreat
open Go.RowKit
set_option maxHeartbeats 2000000 in
theorem iOk_any (t s q d k v g : Int) (w : World) :
  Calls Tryz.prog 98 #[.agg #[.int .i64 t, .int .i64 s, .int .i64 q, .int .i64 d, .int .i64 k, .int .i64 v, .int .i64 g]] w fun e w' =>
   e = .returned (.bool (okB t s q d k v g)) ∧ Below w.heap.size w w' := by
 go_enter Tryz.func98, Tryz.ntmps98
 go_wp2
 all_goals
  go_ret
  refine ⟨?_, (Below.refl _ _).alloc (Nat.le_refl _) _⟩
  first | exact ret_dec (by simp [okB]; omega) | exact ret_bool (by simp [okB]; omega)
end Go.Proofs.YthfhibnnkpbeiaaGreat

/- ModelOk, as plain words. -/
namespace Go.Proofs.YthfhibnnkpbeiaaGreat
open Go.RowKit
def Md.hd (m : Md) : Prop := 1 ≤ m.n ∧ m.n ≤ 4 ∧ 0 ≤ m.s ∧ m.s ≤ 65535 ∧ (m.i.length : Int) = m.n ∧ 1 ≤ m.h.length ∧ m.h.length ≤ 4 ∧ m.e.length ≤ 6 ∧ 0 ≤ m.z ∧ m.z ≤ 950
instance (m : Md) : Decidable m.hd := by unfold Md.hd; infer_instance
def Md.okI (m : Md) : Bool := (List.range m.i.length).all fun j => inB (intAt m.i j)
def rowB (m : Md) (r : List O) : Bool := decide (r.length ≤ 8) && (List.range r.length).all fun q => (oAt r q).ok m.n m.h.length
def Md.okH (m : Md) : Bool := (List.range m.h.length).all fun j => rowB m (hAt m.h j)
def stB (m : Md) (j : Nat) (e : Ev) : Bool := e.ok && decide (e.s = -1 ∧ e.q = (j : Int) ∧ e.g = (j : Int) ∧ e.d < m.n ∧ e.k < (m.h.length : Int) ∧ e.t ≤ m.z)
def Md.okE (m : Md) : Bool := (List.range m.e.length).all fun j => stB m j (evAt m.e j)
def Md.ok (m : Md) : Bool := decide m.hd && m.okI && m.okH && m.okE
theorem range_no {n : Nat} {f : Nat → Bool} {k : Nat} (hk : k < n) (h : f k = false) : (List.range n).all f = false := by
 rw [List.all_eq_false]; exact ⟨k, by simpa using hk, by simp [h]⟩
theorem range_yes {n : Nat} {f : Nat → Bool} (h : ∀ k, k < n → f k = true) : (List.range n).all f = true := by
 rw [List.all_eq_true]; intro k hk; exact h k (by simpa using hk)
theorem ok_hd {m : Md} (h : ¬ m.hd) : m.ok = false := by simp [Md.ok, h]
theorem ok_i {m : Md} (h : m.okI = false) : m.ok = false := by simp [Md.ok, h]
theorem ok_h {m : Md} (h : m.okH = false) : m.ok = false := by simp [Md.ok, h]
theorem ok_e {m : Md} (h : m.okE = false) : m.ok = false := by simp [Md.ok, h]
theorem ok_yes {m : Md} (h : m.hd) (hi : m.okI = true) (hh : m.okH = true) (he : m.okE = true) : m.ok = true := by simp [Md.ok, h, hi, hh, he]
end Go.Proofs.YthfhibnnkpbeiaaGreat

