/- A region that draws its order, whose operations only read and whose callees lay blocks of their own, is walked once, in the order of the text. -/
import Derived.Test.YtbljfphdghfkfaaGreatDoorSequencesCardG00
import Derived.Deep.QuietTactic
import Derived.BigQuiet
namespace Go.Proofs.YtbljfphdghfkfaaGreatDoor
open Go.RowKit
structure Beyond (W : World) where
 w : World
 h : Below W.heap.size W w
theorem Beyond.cell {W : World} (p : Beyond W) {b o : Nat} {v : Value} (hb : b < W.heap.size) (h : W.cell? ⟨b, o, none⟩ = some v) : p.w.cell? ⟨b, o, none⟩ = some v := (p.h.cell (p := ⟨b, o, none⟩) hb).trans h
theorem Beyond.of {P : Program} {f : FuncId} {args : Array Value} {W : World} {p : Beyond W} {v : Value} (h : Calls P f args p.w fun e w' => e = .returned v ∧ Below p.w.heap.size p.w w') :
  Calls P f args p.w fun e w'' => e = .returned v ∧ ∃ p' : Beyond W, w'' = p'.w :=
 h.mono fun _ w'' ⟨he, hb⟩ => ⟨he, ⟨w'', p.h.trans (hb.mono p.h.size)⟩, rfl⟩
theorem wp_region_beyond {P : Program} {id : Nat} {Q : Exit → Act → World → Prop} {a : Act} {W : World} {l : List Oper} (hm : P.follows .mixedOrders = true) (hB : Region.lexB .any l.toArray = true)
  (h : wpQuiet P l.toArray (fun w' => ∃ p : Beyond W, w' = p.w) (fun a' => ∀ w', (∃ p : Beyond W, w' = p.w) → Q .normal a' w') l a) : (Code.region id l.toArray true).wp P Q a W :=
 wp_region_quiet (C := fun w' => ∃ p : Beyond W, w' = p.w) hm hB ⟨⟨_, (Below.refl _ W).drew⟩, rfl⟩ (by simpa using h)
theorem EvAt.beyond {W : World} {b o : Nat} {t s q d k v g : Int} (h : EvAt W b o t s q d k v g) (hb : b < W.heap.size) :
  (∀ p : Beyond W, p.w.cell? ⟨b, o, none⟩ = some (.int .i64 t)) ∧ (∀ p : Beyond W, p.w.cell? ⟨b, o + 1, none⟩ = some (.int .i64 s)) ∧ (∀ p : Beyond W, p.w.cell? ⟨b, o + 2, none⟩ = some (.int .i64 q)) ∧ (∀ p : Beyond W, p.w.cell? ⟨b, o + 3, none⟩ = some (.int .i64 d)) ∧
  (∀ p : Beyond W, p.w.cell? ⟨b, o + 4, none⟩ = some (.int .i64 k)) ∧ (∀ p : Beyond W, p.w.cell? ⟨b, o + 5, none⟩ = some (.int .i64 v)) ∧ (∀ p : Beyond W, p.w.cell? ⟨b, o + 6, none⟩ = some (.int .i64 g)) :=
 ⟨fun p => p.cell hb h.f0, fun p => p.cell hb h.f1, fun p => p.cell hb h.f2, fun p => p.cell hb h.f3, fun p => p.cell hb h.f4, fun p => p.cell hb h.f5, fun p => p.cell hb h.f6⟩
end Go.Proofs.YtbljfphdghfkfaaGreatDoor
