/- A kernel, as plain values and in memory; how much there is of it. -/
import Derived.Test.YthfhibnnkpbeiaaGreatExactKernelNewG08
import Derived.Test.YthfhibnnkpbeiaaGreatExactKernelNewG28
namespace Go.Proofs.YthfhibnnkpbeiaaGreat
open Go.RowKit
structure Kn where
 m : Md
 d : List Int
 p : List Pa
 b : List Ml
 t : Int
 q : Int
 f : Bool
 s : List Ev
 x : List Em
def Kn.wt (k : Kn) : Nat := (intsD k.d).wt + (partsD k.p).wt + (mailsD k.b).wt + (evsD k.s).wt + (emsD k.x).wt
def SmallK (k : Kn) : Prop := SmallM k.m ∧ k.wt ≤ 1048576
def IsKern (w : World) (x : Value) (k : Kn) : Prop := ∃ vi vh vs u6 u7 u8 u12 u13, x = .agg #[.int .i64 k.m.n, .int .i64 k.m.s, vi, vh, vs, .int .i64 k.m.z, u6, u7, u8, .int .i64 k.t, .int .i64 k.q, .bool k.f, u12, u13] ∧ IsM w (.agg #[.int .i64 k.m.n, .int .i64 k.m.s, vi, vh, vs, .int .i64 k.m.z]) k.m ∧ IsD w u6 (intsD k.d) ∧ IsD w u7 (partsD k.p) ∧ IsD w u8 (mailsD k.b) ∧ IsD w u12 (evsD k.s) ∧ IsD w u13 (emsD k.x)
end Go.Proofs.YthfhibnnkpbeiaaGreat
