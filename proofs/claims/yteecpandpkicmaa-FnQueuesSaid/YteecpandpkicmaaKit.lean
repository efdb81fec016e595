/- Small facts on worlds, and the order of two events. -/
import Derived.Test.YteecpandpkicmaaBase
namespace Go.Proofs.Yteecpandpkicmaa
open Go.RowKit
def ecmp (t s q d k v g t' s' q' d' k' v' g' : Int) : Int := if okB t s q d k v g = true ∧ okB t' s' q' d' k' v' g' = true then cmpI t s q g t' s' q' g' else 0
theorem bcell {W w1 : World} (hb : Below W.heap.size W w1) : (∀ b o, b < W.heap.size → w1.cell? ⟨b, o, none⟩ = W.cell? ⟨b, o, none⟩) ∧ (∀ b o, b < W.heap.size → w1.frozen? ⟨b, o, none⟩ = W.frozen? ⟨b, o, none⟩) :=
  ⟨fun b o h => hb.cell (p := ⟨b, o, none⟩) h, fun b o h => hb.frozen (p := ⟨b, o, none⟩) h⟩
/- An event that lies at the head of a block, field by field. -/
structure EvAt (w : World) (b o : Nat) (t s q d k v g : Int) : Prop where
  f0 : w.cell? ⟨b, o, none⟩ = some (.int .i64 t)
  f1 : w.cell? ⟨b, o + 1, none⟩ = some (.int .i64 s)
  f2 : w.cell? ⟨b, o + 2, none⟩ = some (.int .i64 q)
  f3 : w.cell? ⟨b, o + 3, none⟩ = some (.int .i64 d)
  f4 : w.cell? ⟨b, o + 4, none⟩ = some (.int .i64 k)
  f5 : w.cell? ⟨b, o + 5, none⟩ = some (.int .i64 v)
  f6 : w.cell? ⟨b, o + 6, none⟩ = some (.int .i64 g)
theorem EvAt.below {w w' : World} {B b o : Nat} {t s q d k v g : Int} (h : EvAt w b o t s q d k v g) (hb : Below B w w') (hlt : b < B) : EvAt w' b o t s q d k v g :=
  ⟨(hb.cell hlt).trans h.f0, (hb.cell hlt).trans h.f1, (hb.cell hlt).trans h.f2, (hb.cell hlt).trans h.f3, (hb.cell hlt).trans h.f4, (hb.cell hlt).trans h.f5, (hb.cell hlt).trans h.f6⟩
theorem EvAt.new (w : World) (T : TypeId) (t s q d k v g : Int) : EvAt (w.alloc (.cells #[.int .i64 t, .int .i64 s, .int .i64 q, .int .i64 d, .int .i64 k, .int .i64 v, .int .i64 g] T)) w.heap.size 0 t s q d k v g := by
  constructor <;> simp
theorem EvAt.alloc {w : World} {b o : Nat} {t s q d k v g : Int} (h : EvAt w b o t s q d k v g) (hlt : b < w.heap.size) (x : Obj) : EvAt (w.alloc x) b o t s q d k v g :=
  h.below ((Below.refl _ w).alloc (Nat.le_refl _) x) hlt
theorem EvAt.lits {w : World} {b : Nat} {t s q d k v g : Int} (h : EvAt w b 0 t s q d k v g) : w.cell? ⟨b, 0, none⟩ = some (.int .i64 t) ∧ w.cell? ⟨b, 1, none⟩ = some (.int .i64 s) ∧ w.cell? ⟨b, 2, none⟩ = some (.int .i64 q) ∧ w.cell? ⟨b, 3, none⟩ = some (.int .i64 d) ∧ w.cell? ⟨b, 4, none⟩ = some (.int .i64 k) ∧ w.cell? ⟨b, 5, none⟩ = some (.int .i64 v) ∧ w.cell? ⟨b, 6, none⟩ = some (.int .i64 g) :=
  ⟨h.f0, h.f1, h.f2, h.f3, h.f4, h.f5, h.f6⟩
end Go.Proofs.Yteecpandpkicmaa
