/- SrL, PGrow, PPst, RegZ, POwS -/
import Derived.Test.YtnccenbkpocjgaaGreatExactPartNewG01
import Derived.Test.YtnccenbkpocjgaaGreatExactPartNewG08
import Derived.Test.YtnccenbkpocjgaaGreatExactPartNewG19
import Derived.Test.YtnccenbkpocjgaaGreatExactPartNewLInsD
import Derived.Shelf.SlSortCmp.SmallK
import Derived.Shelf.Small.Bits
import Derived.Test.YtnccenbkpocjgaaGreatRows
import Derived.OrdersHeld
import Derived.Deep.RegionHeld
import Derived.Deep.RegionHeld3
/- slices.SortFunc over events that are fit (the shelf's contract, laid here). -/
namespace Go.Proofs.YtnccenbkpocjgaaGreat
open Go.RowKit Go.Shelf Go.Lib Go.Sort
instance : Inhabited EvF := ⟨⟨⟨0, 0, 0, 0, 0, 0, 0⟩, by decide⟩⟩
def encE (x : EvF) : List Value := x.1.cs
abbrev cmpF (x y : EvF) : Int := x.1.cmp y.1
theorem cmpLaysE (blk off size : Nat) (w : World) : CmpLays Tryz.prog 42 #[] encE 7 cmpF blk off size w :=
 fun _ _ _ _ x y => (iCmpD x.1.t x.1.s x.1.q x.1.d x.1.k x.1.v x.1.g y.1.t y.1.s y.1.q y.1.d y.1.k y.1.v y.1.g x.2 y.2 _).mono fun _ _ ⟨h1, h2, h3⟩ => ⟨h1, lay_of h2 h3⟩
theorem aggE (w : World) : (isAgg 55).run Tryz.prog w = .ok true w := by simp [isAgg, go_sem]
theorem sizE (w : World) : (Go.sizeOf 55).run Tryz.prog w = .ok 7 w := by
 obtain ⟨i0, hi, hz0, hz1, hz2⟩ := info_parts infoSle
 simp [Go.sizeOf, typeInfo, hi, hz1]
theorem bitsE (n : Nat) (W : World) (h : n ≤ 12) : Calls Tryz.prog (Tryz.sortEv_ren.f 15) #[.int .u64 n] W fun e w' => (∃ l : Int, e = .returned (.int .i64 l)) ∧ w' = W :=
 (Any.bits_Len Tryz.bitsLen2 n W (by omega) (by omega)).mono fun _ _ ⟨he, hw⟩ => ⟨⟨_, he⟩, hw⟩
theorem sortF_any (blk off cap : Nat) (d : Array EvF) (w : World) (hH : HoldsK encE 7 w blk off d) (hblk : blk < w.heap.size) (h12 : d.size ≤ 12) :
  Calls Tryz.prog 41 #[.slice (some ⟨blk, off, none⟩) d.size cap, .func (.func 42) #[] #[]] w fun e w' => e = .returned (.tuple #[]) ∧ ∃ d' n os, PermIn 0 d.size d d' ∧ SortedIn (ltOf cmpF) 0 d.size d' ∧ w' = sortWorldK encE 7 w blk off n d' os := by
 have eg : ∀ args w, (callFunc 42 args).run Tryz.prog w = .ok (.enter 42 args) w := enters_of Tryz.func42 (by kernel_rfl) rfl
 have hcon := AnyQ.slices_SortFunc_small_sorted Tryz.sortEv 7 aggE sizE encE (fun _ => rfl) (fun x v hv => Ev.cs_one x.1 v hv) cmpF 42 #[] swoE blk off cap d w eg (cmpLaysE blk off d.size w) hH hblk h12 bitsE
 exact hcon
end Go.Proofs.YtnccenbkpocjgaaGreat

/- A row that grows, whose cells own what they hold. -/
namespace Go.Proofs.YtnccenbkpocjgaaGreat
open Go.RowKit
def nthV (cs : List Value) (j : Nat) : Value := cs.getD j (.int .i64 0)
structure GrowD (B : Nat) (T : TypeId) (w : World) (v : Value) (c n : Nat) (cs : List Value) (f : Nat → Dat) (G : Nat → Nat → Prop) : Prop where
 row : w.ownsRow B T c v n cs
 own : ∀ j, j < n * c → OwnD w (G j) (nthV cs j) (f j)
 lim : ∀ j, j < n * c → ∀ k, G j k → B ≤ k ∧ k < w.heap.size ∧ v.ownBlock ≠ some k
 dis : ∀ i j, i < n * c → j < n * c → i ≠ j → ∀ k, G i k → ¬ G j k
theorem GrowD.nil (B : Nat) (T : TypeId) (w : World) (c : Nat) (f : Nat → Dat) (G : Nat → Nat → Prop) : GrowD B T w (.slice none 0 0) c 0 [] f G :=
 ⟨World.ownsRow_nil w B T c, fun j hj => by omega, fun j hj => by omega, fun i j hi => by omega⟩
theorem GrowD.turns {S : Nat → Prop} {B : Nat} {T : TypeId} {w w' : World} {v : Value} {c n : Nat} {cs : List Value} {f : Nat → Dat} {G : Nat → Nat → Prop} (h : GrowD B T w v c n cs f G) (ht : Turns S w w') (h1 : ∀ k, v.ownBlock = some k → ¬ S k) (h2 : ∀ j, j < n * c → ∀ k, G j k → ¬ S k) : GrowD B T w' v c n cs f G :=
 ⟨owns_turns h.row ht h1, fun j hj => (h.own j hj).turns ht (h2 j hj), fun j hj k hk => ⟨(h.lim j hj k hk).1, Nat.lt_of_lt_of_le (h.lim j hj k hk).2.1 ht.size, (h.lim j hj k hk).2.2⟩, h.dis⟩
theorem GrowD.below {B : Nat} {T : TypeId} {w w' : World} {v : Value} {c n : Nat} {cs : List Value} {f : Nat → Dat} {G : Nat → Nat → Prop} (h : GrowD B T w v c n cs f G) (hb : Below w.heap.size w w') : GrowD B T w' v c n cs f G :=
 h.turns (S := fun _ => False) (Turns.of_below hb) (fun _ _ => id) (fun _ _ _ _ => id)
theorem GrowD.low {S : Nat → Prop} {B : Nat} {T : TypeId} {w w' : World} {v : Value} {c n : Nat} {cs : List Value} {f : Nat → Dat} {G : Nat → Nat → Prop} (h : GrowD B T w v c n cs f G) (ht : Turns S w w') (hS : ∀ k, B ≤ k → ¬ S k) : GrowD B T w' v c n cs f G :=
 h.turns ht (fun k hk => hS k (row_ge h.row hk)) (fun j hj k hk => hS k (h.lim j hj k hk).1)
def joinF {α : Type} (m : Nat) (f g : Nat → α) : Nat → α := fun j => if j < m then f j else g (j - m)
theorem GrowD.snoc {B : Nat} {T : TypeId} {w w3 : World} {v v3 : Value} {c n : Nat} {cs ns : List Value} {f d : Nat → Dat} {G K : Nat → Nat → Prop} (h : GrowD B T w v c n cs f G) (ho : w3.ownsRow B T c v3 (n + 1) (cs ++ ns)) (hg : w.grownBy w3 v.ownBlock) (hw : NewRow w v v3)
  (hd : ∀ r, r < c → OwnD w (K r) (nthV ns r) (d r)) (hK : ∀ r, r < c → ∀ k, K r k → B ≤ k ∧ k < w.heap.size ∧ v.ownBlock ≠ some k ∧ ∀ j, j < n * c → ¬ G j k) (hKK : ∀ i j, i < c → j < c → i ≠ j → ∀ k, K i k → ¬ K j k) :
  GrowD B T w3 v3 c (n + 1) (cs ++ ns) (joinF (n * c) f d) (joinF (n * c) G K) := by
 have hl : cs.length = n * c := h.row.1
 have ht := grown_turns hg
 have hsz : w.heap.size ≤ w3.heap.size := hg.size
 have hv3 : ∀ k, k < w.heap.size → v.ownBlock ≠ some k → v3.ownBlock ≠ some k := fun k hk hv e => by
  rcases hw with h1 | h1
  ·exact hv (h1 ▸ e)
  ·have := h1 k e; omega
 have hnc : (n + 1) * c = n * c + c := by rw [Nat.add_mul, Nat.one_mul]
 refine ⟨ho, fun j hj => ?_, fun j hj k hk => ?_, fun i j hi hj hij k hk hk' => ?_⟩
 ·unfold joinF
  by_cases hlt : j < n * c
  ·rw [if_pos hlt, if_pos hlt, show nthV (cs ++ ns) j = nthV cs j by unfold nthV; simp [List.getElem?_append_left (by omega : j < cs.length)]]
   exact (h.own j hlt).turns ht (fun k hk e => (h.lim j hlt k hk).2.2 e)
  ·rw [if_neg hlt, if_neg hlt, show nthV (cs ++ ns) j = nthV ns (j - n * c) by unfold nthV; rw [List.getD_eq_getElem?_getD, List.getElem?_append_right (by omega), hl, ← List.getD_eq_getElem?_getD]]
   exact (hd (j - n * c) (by omega)).turns ht (fun k hk e => (hK (j - n * c) (by omega) k hk).2.2.1 e)
 ·unfold joinF at hk
  by_cases hlt : j < n * c
  ·rw [if_pos hlt] at hk
   have := h.lim j hlt k hk
   exact ⟨this.1, by omega, hv3 k this.2.1 this.2.2⟩
  ·rw [if_neg hlt] at hk
   have := hK (j - n * c) (by omega) k hk
   exact ⟨this.1, by omega, hv3 k this.2.1 this.2.2.1⟩
 ·unfold joinF at hk hk'
  by_cases hi1 : i < n * c <;> by_cases hj1 : j < n * c
  ·rw [if_pos hi1] at hk; rw [if_pos hj1] at hk'
   exact h.dis i j hi1 hj1 hij k hk hk'
  ·rw [if_pos hi1] at hk; rw [if_neg hj1] at hk'
   exact (hK (j - n * c) (by omega) k hk').2.2.2 i hi1 hk
  ·rw [if_neg hi1] at hk; rw [if_pos hj1] at hk'
   exact (hK (i - n * c) (by omega) k hk).2.2.2 j hj1 hk'
  ·rw [if_neg hi1] at hk; rw [if_neg hj1] at hk'
   exact hKK (i - n * c) (j - n * c) (by omega) (by omega) (by omega) k hk hk'
def GrowD.blocks (v : Value) (c n : Nat) (G : Nat → Nat → Prop) : Nat → Prop := fun k => v.ownBlock = some k ∨ ∃ j, j < n * c ∧ G j k
theorem GrowD.ownD {B : Nat} {T : TypeId} {w : World} {v : Value} {c n : Nat} {cs : List Value} {f : Nat → Dat} {G : Nat → Nat → Prop} (h : GrowD B T w v c n cs f G) : OwnD w (GrowD.blocks v c n G) v (.row c n f) := by
 obtain ⟨hl, ⟨rfl, rfl⟩ | ⟨g, cap, cur, rfl, hg, hc, h1, h2, h3, h4⟩⟩ := h.row
 ·exact .nil _ _ _ _ _ (Nat.zero_le _)
 ·have hlt : g < w.heap.size := (Array.getElem?_eq_some_iff.1 hc).1
  refine .row _ g n cap c f (nthV cs) G h1 h2 hlt (.inl rfl) (fun j hj => ⟨?_, by simp [World.frozen?, hc]⟩) h.own (fun j hj k hk => ⟨.inr ⟨j, hj, hk⟩, fun e => (h.lim j hj k hk).2.2 (by rw [e]; rfl)⟩) h.dis
  have hjc : j < cs.length := by omega
  have h5 : w.cell? ⟨g, j, none⟩ = cs[j]? := by
   rw [← h4, List.getElem?_take_of_lt hj]
   simp [World.cell?, hc]
  rw [h5, List.getElem?_eq_getElem hjc]
  simp [nthV, hjc]
theorem GrowD.blocks_ge {B : Nat} {T : TypeId} {w : World} {v : Value} {c n : Nat} {cs : List Value} {f : Nat → Dat} {G : Nat → Nat → Prop} (h : GrowD B T w v c n cs f G) {k : Nat} (hk : GrowD.blocks v c n G k) : B ≤ k ∧ k < w.heap.size := by
 rcases hk with hk | ⟨j, hj, hk⟩
 ·exact ⟨row_ge h.row hk, owns_lt h.row hk⟩
 ·exact ⟨(h.lim j hj k hk).1, (h.lim j hj k hk).2.1⟩
end Go.Proofs.YtnccenbkpocjgaaGreat

/- One thing done, put behind a row of such things: what it owns. -/
namespace Go.Proofs.YtnccenbkpocjgaaGreat
open Go.RowKit
theorem infoPX : (Tryz.prog.info? 191).map (fun i => (i.zero, i.size, i.bytes)) = some (some (.agg #[.int .i64 0, .int .i64 0, .int .i64 0]), 3, 24) := by kernel_rfl
theorem infoPQ : (Tryz.prog.info? 126).map (fun i => (i.zero, i.size, i.bytes)) = some (some (.agg #[.int .i64 0, .int .i64 0, .int .i64 0, .int .i64 0, .int .i64 0, .int .i64 0, .int .i64 0, .slice none 0 0, .int .i64 0, .int .i64 0, .slice none 0 0, .slice none 0 0]), 12, 144) := by kernel_rfl
theorem row_empty_any (w : World) (T : TypeId) (c : Nat) : (w.alloc (.cells #[] T)).ownsRow w.heap.size T c (.slice (some ⟨w.heap.size, 0, none⟩) 0 0) 0 [] :=
 ⟨by simp, .inr ⟨w.heap.size, 0, #[], rfl, Nat.le_refl _, (MapKept.heap_alloc w _).1, Nat.le_refl _, Nat.zero_le _, by simp, by simp⟩⟩
theorem Bk.src {w : World} {P : Nat} {T : TypeId} {l : List Value} (h : Bk w P T l.toArray) : ∀ j u, l[j]? = some u → w.cell? ((⟨P, 0, none⟩ : Addr).add j) = some u := fun j u hu => by
 rw [Addr.add_lit]
 simpa using h.cell (i := j) (by simpa using hu)
def pastL (q : Ps) (v7 v10 v11 : Value) : List Value := [.int .i64 q.e.t, .int .i64 q.e.s, .int .i64 q.e.q, .int .i64 q.e.d, .int .i64 q.e.k, .int .i64 q.e.v, .int .i64 q.e.g, v7, .int .i64 q.b.q, .int .i64 q.b.d, v10, v11]
def pastK (K7 K10 K11 : Nat → Prop) (r : Nat) : Nat → Prop := if r = 7 then K7 else if r = 10 then K10 else if r = 11 then K11 else fun _ => False
theorem past_own {w : World} {q : Ps} {v7 v10 v11 : Value} {K7 K10 K11 : Nat → Prop} (h7 : OwnD w K7 v7 (intsD q.b.r)) (h10 : OwnD w K10 v10 (evsD q.s)) (h11 : OwnD w K11 v11 (emsD q.x)) : ∀ r, r < 12 → OwnD w (pastK K7 K10 K11 r) (nthV (pastL q v7 v10 v11) r) (q.cell r)
 | 0, _ => .val _ _
 | 1, _ => .val _ _
 | 2, _ => .val _ _
 | 3, _ => .val _ _
 | 4, _ => .val _ _
 | 5, _ => .val _ _
 | 6, _ => .val _ _
 | 7, _ => h7
 | 8, _ => .val _ _
 | 9, _ => .val _ _
 | 10, _ => h10
 | 11, _ => h11
theorem GrowD.snocPs {B : Nat} {T : TypeId} {V0 w w3 : World} {v v3 v7 v10 v11 : Value} {n : Nat} {cs : List Value} {l : List Ps} {G : Nat → Nat → Prop} {K7 K10 K11 : Nat → Prop} (h0 : GrowD B T V0 v 12 n cs (pastsD_f l) G) (hb : Below V0.heap.size V0 w) (hB : B ≤ V0.heap.size)
  (h7 : OwnD w K7 v7 (intsD (psAt l n).b.r)) (h10 : OwnD w K10 v10 (evsD (psAt l n).s)) (h11 : OwnD w K11 v11 (emsD (psAt l n).x))
  (l7 : ∀ k, K7 k → V0.heap.size ≤ k ∧ k < w.heap.size) (l10 : ∀ k, K10 k → V0.heap.size ≤ k ∧ k < w.heap.size) (l11 : ∀ k, K11 k → V0.heap.size ≤ k ∧ k < w.heap.size)
  (d1 : ∀ k, K7 k → ¬ K10 k) (d2 : ∀ k, K7 k → ¬ K11 k) (d3 : ∀ k, K10 k → ¬ K11 k)
  (ho : w3.ownsRow B T 12 v3 (n + 1) (cs ++ pastL (psAt l n) v7 v10 v11)) (hg : w.grownBy w3 v.ownBlock) (hw : NewRow w v v3) :
  GrowD B T w3 v3 12 (n + 1) (cs ++ pastL (psAt l n) v7 v10 v11) (pastsD_f l) (joinF (n * 12) G (pastK K7 K10 K11)) := by
 have hK : ∀ r k, pastK K7 K10 K11 r k → V0.heap.size ≤ k ∧ k < w.heap.size := fun r k hk => by
  unfold pastK at hk
  split at hk
  ·exact l7 k hk
  ·split at hk
   ·exact l10 k hk
   ·split at hk
    ·exact l11 k hk
    ·exact hk.elim
 have hKK : ∀ i j, i ≠ j → ∀ k, pastK K7 K10 K11 i k → ¬ pastK K7 K10 K11 j k := fun i j hij k h1 h2 => by
  unfold pastK at h1 h2
  have e1 := d1 k
  have e2 := d2 k
  have e3 := d3 k
  split at h1 <;> split at h2
  ·omega
  ·split at h2
   ·exact e1 h1 h2
   ·split at h2
    ·exact e2 h1 h2
    ·exact h2
  ·split at h1
   ·exact e1 h2 h1
   ·split at h1
    ·exact e2 h2 h1
    ·exact h1
  ·split at h1 <;> split at h2
   ·omega
   ·split at h2
    ·exact e3 h1 h2
    ·exact h2
   ·split at h1
    ·exact e3 h2 h1
    ·exact h1
   ·split at h1 <;> split at h2
    ·omega
    ·exact h2
    ·exact h1
    ·exact h2
 have hbl : ∀ k, GrowD.blocks v 12 n G k → k < V0.heap.size := fun k hk => (h0.blocks_ge hk).2
 have h := (h0.below hb).snoc ho hg hw (past_own h7 h10 h11) (fun r hr k hk => ⟨by have := hK r k hk; omega, (hK r k hk).2, fun e => by have := hbl k (.inl e); have := hK r k hk; omega, fun j hj e => by have := hbl k (.inr ⟨j, hj, e⟩); have := hK r k hk; omega⟩) (fun i j hi hj hij => hKK i j hij)
 refine ⟨h.row, fun j hj => ?_, h.lim, h.dis⟩
 have := h.own j hj
 have e : joinF (n * 12) (pastsD_f l) (psAt l n).cell j = pastsD_f l j := by
  unfold joinF
  split
  ·rfl
  ·rename_i hlt
   have := pastsD_at l n (r := j - n * 12) (by omega)
   rw [show n * 12 + (j - n * 12) = j by omega] at this
   exact this.symm
 rw [e] at this
 exact this
end Go.Proofs.YtnccenbkpocjgaaGreat

/- A drawn region whose last store need not keep what the others keep: an operation that the store waits for (by a chain) may be taken first in every world that meets S, where S is shown behind every operation but that store. -/
namespace Go.Proofs.YtnccenbkpocjgaaGreat
open Go
section
variable {P : Program} {ops : Array Oper} {Q : Exit → Act → World → Prop} {md : Region.Mode} {S : World → Prop} {z : Nat}
def wpAnyZ (P : Program) (md : Region.Mode) (ops : Array Oper) (Q : Exit → Act → World → Prop) (S : World → Prop) (z : Nat) : Nat → Array Bool → Act → World → Prop
 | 0, listed, a, w => Region.ready md ops listed = [] ∧ Q .normal a w
 | fuel + 1, listed, a, w =>
  (Region.ready md ops listed = [] → Q .normal a w) ∧
  ∀ i ∈ Region.ready md ops listed, wpOp P ops Q i (fun a' w' => (i ≠ z → S w') ∧ wpAnyZ P md ops Q S z fuel (listed.setIfInBounds i true) a' w') a w
theorem wpAny_of_z : ∀ (fuel : Nat) (listed : Array Bool) (a : Act) (w : World), wpAnyZ P md ops Q S z fuel listed a w → wpAny P md ops Q fuel listed a w
 | 0, _, _, _, h => h
 | fuel + 1, _, _, _, h => ⟨h.1, fun i hi => wpOp_mono (fun a' w' h' => wpAny_of_z fuel _ a' w' h'.2) (h.2 i hi)⟩
def chainB (md : Region.Mode) (ops : Array Oper) (i : Nat) : Nat → List Nat → Bool
 | z, [] => z == i
 | z, p :: ps => ((ops[z]?).map fun o => o.after.any fun e => Region.binds md e && e.on == p).getD false && chainB md ops i p ps
theorem chain_wait {i p : Nat} {ps : List Nat} {listed : Array Bool} (h : chainB md ops i z (p :: ps) = true) (hp : listed.getD p true = false) : z ∉ Region.ready md ops listed := by
 intro hz
 obtain ⟨_, o, ho, hall⟩ := mem_ready.1 hz
 simp only [chainB, ho, Option.map_some, Option.getD_some, Bool.and_eq_true] at h
 obtain ⟨e, he, h1⟩ : ∃ e, e ∈ o.after ∧ (Region.binds md e = true ∧ e.on = p) := by
  have h0 := h.1
  simp only [Array.any_eq_true, Bool.and_eq_true, beq_iff_eq] at h0
  obtain ⟨k, hk, h1⟩ := h0
  exact ⟨o.after[k], Array.getElem_mem hk, h1⟩
 have h2 := hall e he h1.1
 rw [h1.2] at h2
 rcases Nat.lt_or_ge p listed.size with h' | h'
 ·simp [h'] at hp h2
  rw [hp] at h2
  cases h2
 ·simp [Array.getElem?_eq_none h'] at h2
theorem chain_mid {i : Nat} {listed : Array Bool} : ∀ (ps : List Nat) (z : Nat), chainB md ops i z ps = true → (∀ p ∈ ps, listed.getD p true = false) → ∀ p ∈ ps, p ≠ i → p ∉ Region.ready md ops listed
 | [], _, _, _, p, hp, _ => by cases hp
 | q :: ps, z, hc, hu, p, hp, hpi => by
  have hc' : chainB md ops i q ps = true := by
   simp only [chainB, Bool.and_eq_true] at hc
   exact hc.2
  rcases List.mem_cons.1 hp with rfl | hp
  ·cases ps with
   | nil => simp only [chainB, beq_iff_eq] at hc'; exact absurd hc' hpi
   | cons r rs => exact chain_wait hc' (hu r (List.mem_cons_of_mem _ List.mem_cons_self))
  ·exact chain_mid ps q hc' (fun p hp => hu p (List.mem_cons_of_mem _ hp)) p hp hpi
theorem wpAnyZ_first {i : Nat} {oi : Oper} {v : Value} {q : Nat} {ps : List Nat} (hi : ops[i]? = some oi) (hsel : ∀ (j : Nat) (o : Oper) cs b, ops[j]? = some o → o.op ≠ .select cs b)
  (hQ : ∀ c a w, Q (.panic c) (a.put oi.dst v) w → Q (.panic c) a w) (hc : chainB md ops i z (q :: ps) = true) :
  ∀ (fuel : Nat) (listed : Array Bool) (a : Act) (w : World),
   (∀ p ∈ q :: ps, listed.getD p true = false) →
   (∀ j oj, ops[j]? = some oj → j ≠ i → listed.getD j true = false → (∀ e ∈ oj.after, Region.binds md e = true → e.on ≠ i) → oi.apart ops oj = true) →
   i ∈ Region.ready md ops listed → YieldsIf P ops S oi v a → S w →
   wpAnyZ P md ops Q S z fuel (listed.setIfInBounds i true) (a.put oi.dst v) w → wpAnyZ P md ops Q S z (fuel + 1) listed a w := by
 intro fuel
 induction fuel with
 | zero =>
  intro listed a w hu _ hr hy hS H
  refine ⟨fun h => (by rw [h] at hr; cases hr), fun j hj => ?_⟩
  by_cases hji : j = i
  ·subst hji; exact hy.wpOp hi hS ⟨fun _ => hS, H⟩
  ·have := ready_mono hj hji
   rw [H.1] at this
   cases this
 | succ fuel ih =>
  intro listed a w hu hfree hr hy hS H
  refine ⟨fun h => (by rw [h] at hr; cases hr), fun j hj => ?_⟩
  by_cases hji : j = i
  ·subst hji; exact hy.wpOp hi hS ⟨fun _ => hS, H⟩
  ·have hjz : j ≠ z := fun e => chain_wait hc (hu q List.mem_cons_self) (e ▸ hj)
   have h1 := H.2 j (ready_mono hj hji)
   obtain ⟨hjun, oj, hoj, hall⟩ := mem_ready.1 hj
   have hnot : ∀ e ∈ oj.after, Region.binds md e = true → e.on ≠ i := fun e he hb heq => by
    have h1 := hall e he hb
    have h0 := (mem_ready.1 hr).1
    rw [heq] at h1
    rcases Nat.lt_or_ge i listed.size with h' | h'
    ·simp [h'] at h0 h1; rw [h0] at h1; cases h1
    ·simp [Array.getElem?_eq_none h'] at h1
   have h2 := wpOp_putIf hoj (hfree j oj hoj hji hjun hnot) (fun cs b => hsel i oi cs b hi) (fun cs b => hsel j oj cs b hoj) hQ hy h1
   have hfree' : ∀ k ok, ops[k]? = some ok → k ≠ i → (listed.setIfInBounds j true).getD k true = false →
     (∀ e ∈ ok.after, Region.binds md e = true → e.on ≠ i) → oi.apart ops ok = true := fun k ok hk hki hun hno => by
    refine hfree k ok hk hki ?_ hno
    by_cases hjk : j = k
    ·subst hjk; exact hjun
    ·rw [getD_set_ne true hjk] at hun; exact hun
   have hu' : ∀ p ∈ q :: ps, (listed.setIfInBounds j true).getD p true = false := fun p hp => by
    have hjp : j ≠ p := fun e => chain_mid (q :: ps) z hc hu p hp (fun e' => hji (e.trans e')) (e ▸ hj)
    rw [getD_set_ne true hjp]
    exact hu p hp
   refine wpOp_mono (fun a' w' h3 => ⟨fun _ => h3.2.1 hjz, ih (listed.setIfInBounds j true) a' w' hu' hfree' (ready_mono hr (Ne.symm hji)) h3.1 (h3.2.1 hjz) ?_⟩) h2
   rw [Array.setIfInBounds_comm _ _ hji]
   exact h3.2.2
theorem wpAnyZ_take {i : Nat} {oi : Oper} {v : Value} {fuel : Nat} {listed : Array Bool} {a : Act} {w : World} (q : Nat) (ps : List Nat) (hi : ops[i]? = some oi)
  (hs : Region.noSelect ops = true) (hf : Region.free md ops listed i = true) (hr : (Region.ready md ops listed).contains i = true)
  (hc : chainB md ops i z (q :: ps) = true) (hu : (q :: ps).all (fun p => !listed.getD p true) = true)
  (hQ : ∀ c a w, Q (.panic c) (a.put oi.dst v) w → Q (.panic c) a w) (hy : YieldsIf P ops S oi v a) (hS : S w)
  (h : wpAnyZ P md ops Q S z fuel (listed.setIfInBounds i true) (a.put oi.dst v) w) : wpAnyZ P md ops Q S z (fuel + 1) listed a w :=
 wpAnyZ_first hi (Region.noSelect_spec hs) hQ hc fuel listed a w (fun p hp => by have := List.all_eq_true.1 hu p hp; simpa using this) (Region.free_spec hi hf) (by simpa using hr) hy hS h
def AllReadyZ (P : Program) (md : Region.Mode) (ops : Array Oper) (Q : Exit → Act → World → Prop) (S : World → Prop) (z fuel : Nat) (listed : Array Bool) (a : Act) (w : World) (rs : List Nat) : Prop :=
 ∀ i ∈ rs, wpOp P ops Q i (fun a' w' => (i ≠ z → S w') ∧ wpAnyZ P md ops Q S z fuel (listed.setIfInBounds i true) a' w') a w
theorem AllReadyZ.nil {fuel : Nat} {listed : Array Bool} {a : Act} {w : World} : AllReadyZ P md ops Q S z fuel listed a w [] := fun _ h => by cases h
theorem AllReadyZ.cons {fuel : Nat} {listed : Array Bool} {a : Act} {w : World} {i : Nat} {o : Oper} {rs : List Nat} (ho : ops[i]? = some o)
  (h : ∀ K' : Act → World → Prop, Shut (∀ a w, S w → (S w → wpAnyZ P md ops Q S z fuel (listed.setIfInBounds i true) a w) → K' a w) → if Region.wanted o (yielded ops a.tmps) = true then Oper.wp P o a w K' Q else K' (a.put o.dst undef) w)
  (hs : AllReadyZ P md ops Q S z fuel listed a w rs) : AllReadyZ P md ops Q S z fuel listed a w (i :: rs) := fun j hj => by
 rcases List.mem_cons.1 hj with rfl | hj
 ·exact wpOp_step ho (fun K' hK => h K' (fun a w hS hW => hK a w ⟨fun _ => hS, hW hS⟩))
 ·exact hs j hj
theorem AllReadyZ.last {fuel : Nat} {listed : Array Bool} {a : Act} {w : World} {o : Oper} (ho : ops[z]? = some o)
  (h : ∀ K' : Act → World → Prop, Shut (∀ a w, wpAnyZ P md ops Q S z fuel (listed.setIfInBounds z true) a w → K' a w) → if Region.wanted o (yielded ops a.tmps) = true then Oper.wp P o a w K' Q else K' (a.put o.dst undef) w) :
  AllReadyZ P md ops Q S z fuel listed a w [z] := fun j hj => by
 rcases List.mem_cons.1 hj with rfl | hj
 ·exact wpOp_step ho (fun K' hK => h K' (fun a w hW => hK a w ⟨fun e => absurd rfl e, hW⟩))
 ·cases hj
theorem wpAnyZ_ready {rs : List Nat} {fuel : Nat} {listed : Array Bool} {a : Act} {w : World} (hr : Region.ready md ops listed = rs) (hne : rs ≠ [])
  (h : AllReadyZ P md ops Q S z fuel listed a w rs) : wpAnyZ P md ops Q S z (fuel + 1) listed a w := ⟨fun h0 => absurd (hr ▸ h0) hne, hr ▸ h⟩
theorem wpAnyZ_done {listed : Array Bool} {a : Act} {w : World} (hr : Region.ready md ops listed = []) (h : Q .normal a w) :
  ∀ fuel, wpAnyZ P md ops Q S z fuel listed a w
 | 0 => ⟨hr, h⟩
 | _ + 1 => ⟨fun _ => h, by rw [hr]; simp⟩
theorem wp_region_z {id : Nat} {a : Act} {w : World} (z : Nat) (S : World → Prop) (hm : P.follows .mixedOrders = true) (hS : S w.drew)
  (h : S w.drew → wpAnyZ P .any ops Q S z ops.size (Array.replicate ops.size false) a w.drew) : (Code.region id ops true).wp P Q a w :=
 wp_region_any hm (wpAny_of_z _ _ _ _ (h hS))
end
end Go.Proofs.YtnccenbkpocjgaaGreat

/- The specification's copy of a state, registers of any number. -/
namespace Go.Proofs.YtnccenbkpocjgaaGreat
open Go.RowKit
theorem row_lim {w : World} {B : Nat} {e : TypeId} {size n : Nat} {v : Value} {xs : List Value} (h : w.ownsRow B e size v n xs) : ∀ k, v.ownBlock = some k → B ≤ k ∧ k < w.heap.size := fun _ hk => ⟨row_ge h hk, owns_lt h hk⟩
theorem newRow_lim {w w' : World} {B g : Nat} {e : TypeId} {size n : Nat} {v v' : Value} {xs : List Value} (hw : NewRow w v v') (hv : v.ownBlock = some g) (h : w'.ownsRow B e size v' n xs) : ∀ k, v'.ownBlock = some k → k = g ∨ (w.heap.size ≤ k ∧ k < w'.heap.size) := fun k hk => by
 rcases hw with h9 | h9
 ·rw [h9, hv] at hk
  exact .inl (by simpa using hk.symm)
 ·exact .inr ⟨h9 k hk, owns_lt h hk⟩
set_option maxRecDepth 100000 in
set_option maxHeartbeats 8000000 in
theorem l3own_src (x vr : Value) (s : St) (w : World) (hl : s.r.length ≤ 1048577) (hx : x = .agg #[vr, .int .i64 s.q, .int .i64 s.d]) (h : IsD w vr (intsD s.r)) :
  Calls Tryz.prog 87 #[x] w fun r w' => ∃ v, r = .returned (.agg #[v, .int .i64 s.q, .int .i64 s.d]) ∧ w'.ownsRow w.heap.size 3 1 v s.r.length (intCells s.r) ∧ Below w.heap.size w w' := by
 obtain ⟨ar, cr, rfl, _⟩ := IsD.len h
 subst hx
 obtain ⟨i3, hi3, hiz0, hiz1, hiz2⟩ := info_parts info3
 obtain ⟨W0, hW0⟩ : ∃ W0, (w.alloc (.cells #[.slice ar s.r.length cr, .int .i64 s.q, .int .i64 s.d] 29)).alloc (.cells #[.slice none 0 0, .int .i64 0, .int .i64 0] 29) = W0 := ⟨_, rfl⟩
 have hz0 : W0.heap.size = w.heap.size + 1 + 1 := by rw [← hW0]; simp
 have hb0 : Below w.heap.size w W0 := hW0 ▸ ((Below.refl _ w).alloc (Nat.le_refl _) _).alloc (by simp) _
 have HBw : Hid (Below w.heap.size w W0) := hb0
 have HW0 : Hid ((w.alloc (.cells #[.slice ar s.r.length cr, .int .i64 s.q, .int .i64 s.d] 29)).alloc (.cells #[.slice none 0 0, .int .i64 0, .int .i64 0] 29) = W0) := hW0
 have BX : Hid (Bk W0 w.heap.size 29 #[.slice ar s.r.length cr, .int .i64 s.q, .int .i64 s.d]) := hW0 ▸ (Bk.new w _ _).alloc _
 have BZ : Hid (Bk W0 (w.heap.size + 1) 29 #[.slice none 0 0, .int .i64 0, .int .i64 0]) := hW0 ▸ Bk.newAt (by simp) _ _
 have D1 : Hid (IsD W0 (.slice ar s.r.length cr) (intsD s.r)) := h.under hb0
 have hz0' : W0.heap.size ≤ w.heap.size + 1 + 1 ∧ w.heap.size + 1 + 1 ≤ W0.heap.size := by omega
 clear hW0 hb0 h hz0
 go_enter Tryz.func87, Tryz.ntmps87
 go_wp2_with fail
 rw [HW0.out]
 clear HW0
 have hzd : W0.drew.heap.size ≤ W0.heap.size ∧ W0.heap.size ≤ W0.drew.heap.size := ⟨Nat.le_refl _, Nat.le_refl _⟩
 have B_0 : Hid (Below W0.heap.size W0 W0.drew) := (Below.refl _ W0).drew
 have X_0 : Hid (Bk W0.drew w.heap.size 29 #[.slice ar s.r.length cr, .int .i64 s.q, .int .i64 s.d]) := BX.out.drew
 have Z_0 : Hid (Bk W0.drew (w.heap.size + 1) 29 #[.slice none 0 0, .int .i64 0, .int .i64 0]) := BZ.out.drew
 have D1_0 : Hid (IsD W0.drew (.slice ar s.r.length cr) (intsD s.r)) := D1.out.under (Below.refl _ W0).drew
 have Q_0 : Hid (W0.drew.cell? ⟨w.heap.size, 0, none⟩ = some (.slice ar s.r.length cr) ∧ W0.drew.cell? ⟨w.heap.size, 1, none⟩ = some (.int .i64 s.q) ∧ W0.drew.cell? ⟨w.heap.size, 2, none⟩ = some (.int .i64 s.d)) := ⟨X_0.out.cell rfl, X_0.out.cell rfl, X_0.out.cell rfl⟩
 refine wp_region_z 9 (fun W => W.cell? ⟨w.heap.size, 0, none⟩ = some (.slice ar s.r.length cr) ∧ W.cell? ⟨w.heap.size, 1, none⟩ = some (.int .i64 s.q) ∧ W.cell? ⟨w.heap.size, 2, none⟩ = some (.int .i64 s.d)) (by kernel_rfl) Q_0.out (fun hHeld => ?_)
 refine wpAnyZ_take (i := 1) (oi := { dst := some 4, op := Op.fieldAddr 29 (Operand.tmp 1) 0, type := 0, pos := _, after := _, guard := none }) (v := .pointer (some ⟨w.heap.size, 0, none⟩)) 1 [] rfl (by kernel_rfl) (by kernel_rfl) (by kernel_rfl) (by kernel_rfl) (by kernel_rfl) (fun _ _ _ h => h) (Or.inl ⟨by rfl, ?_⟩) (by assumption) ?_
 ·intro wX hSw
  try dsimp only at hSw
  go_simp
  try exact IntWalk.i64_in _ (by omega)
 try simp only [Act.put, List.setIfInBounds_toArray, List.set_cons_zero, List.set_cons_succ]
 refine wpAnyZ_take (i := 2) (oi := { dst := some 5, op := Op.load 22 (Operand.tmp 4), type := 22, pos := _, after := _, guard := none }) (v := .slice ar s.r.length cr) 2 [] rfl (by kernel_rfl) (by kernel_rfl) (by kernel_rfl) (by kernel_rfl) (by kernel_rfl) (fun _ _ _ h => h) (Or.inl ⟨by rfl, ?_⟩) (by assumption) ?_
 ·intro wX hSw
  try dsimp only at hSw
  go_simp
  try exact IntWalk.i64_in _ (by omega)
 try simp only [Act.put, List.setIfInBounds_toArray, List.set_cons_zero, List.set_cons_succ]
 refine wpAnyZ_take (i := 4) (oi := { dst := some 7, op := Op.fieldAddr 29 (Operand.tmp 1) 1, type := 0, pos := _, after := _, guard := none }) (v := .pointer (some ⟨w.heap.size, 1, none⟩)) 4 [] rfl (by kernel_rfl) (by kernel_rfl) (by kernel_rfl) (by kernel_rfl) (by kernel_rfl) (fun _ _ _ h => h) (Or.inl ⟨by rfl, ?_⟩) (by assumption) ?_
 ·intro wX hSw
  try dsimp only at hSw
  go_simp
  try exact IntWalk.i64_in _ (by omega)
 try simp only [Act.put, List.setIfInBounds_toArray, List.set_cons_zero, List.set_cons_succ]
 refine wpAnyZ_take (i := 5) (oi := { dst := some 8, op := Op.load 3 (Operand.tmp 7), type := 3, pos := _, after := _, guard := none }) (v := .int .i64 s.q) 5 [] rfl (by kernel_rfl) (by kernel_rfl) (by kernel_rfl) (by kernel_rfl) (by kernel_rfl) (fun _ _ _ h => h) (Or.inl ⟨by rfl, ?_⟩) (by assumption) ?_
 ·intro wX hSw
  try dsimp only at hSw
  go_simp
  try exact IntWalk.i64_in _ (by omega)
 try simp only [Act.put, List.setIfInBounds_toArray, List.set_cons_zero, List.set_cons_succ]
 refine wpAnyZ_take (i := 6) (oi := { dst := some 9, op := Op.fieldAddr 29 (Operand.tmp 1) 2, type := 0, pos := _, after := _, guard := none }) (v := .pointer (some ⟨w.heap.size, 2, none⟩)) 6 [] rfl (by kernel_rfl) (by kernel_rfl) (by kernel_rfl) (by kernel_rfl) (by kernel_rfl) (fun _ _ _ h => h) (Or.inl ⟨by rfl, ?_⟩) (by assumption) ?_
 ·intro wX hSw
  try dsimp only at hSw
  go_simp
  try exact IntWalk.i64_in _ (by omega)
 try simp only [Act.put, List.setIfInBounds_toArray, List.set_cons_zero, List.set_cons_succ]
 refine wpAnyZ_take (i := 7) (oi := { dst := some 10, op := Op.load 3 (Operand.tmp 9), type := 3, pos := _, after := _, guard := none }) (v := .int .i64 s.d) 7 [] rfl (by kernel_rfl) (by kernel_rfl) (by kernel_rfl) (by kernel_rfl) (by kernel_rfl) (fun _ _ _ h => h) (Or.inl ⟨by rfl, ?_⟩) (by assumption) ?_
 ·intro wX hSw
  try dsimp only at hSw
  go_simp
  try exact IntWalk.i64_in _ (by omega)
 try simp only [Act.put, List.setIfInBounds_toArray, List.set_cons_zero, List.set_cons_succ]
 refine wpAnyZ_ready (rs := [0]) (by kernel_rfl) (by simp) ?_
 refine AllReadyZ.cons (o := { dst := some 3, op := Op.buildSlice 22 0 #[], type := 22, pos := _, after := _, guard := none }) rfl (fun K hK => ?_) AllReadyZ.nil
 obtain ⟨g8, hg8⟩ : ∃ g, g = W0.heap.size := ⟨_, rfl⟩
 obtain ⟨w1, hw1⟩ : ∃ V, (W0.alloc (.cells #[] 3)).drew = V := ⟨_, rfl⟩
 have HW1 : Hid ((W0.alloc (.cells #[] 3)).drew = w1) := hw1
 have HG8 : Hid (g8 = W0.heap.size) := hg8
 have B_2 : Hid (Below W0.heap.size W0 w1) := by (rw [← hw1]; exact B_0.out.alloc B_0.out.size _)
 have X_2 : Hid (Bk w1 w.heap.size 29 #[.slice ar s.r.length cr, .int .i64 s.q, .int .i64 s.d]) := by (rw [← hw1]; exact X_0.out.alloc _)
 have Z_2 : Hid (Bk w1 (w.heap.size + 1) 29 #[.slice none 0 0, .int .i64 0, .int .i64 0]) := by (rw [← hw1]; exact Z_0.out.alloc _)
 have D1_2 : Hid (IsD w1 (.slice ar s.r.length cr) (intsD s.r)) := by (rw [← hw1]; exact D1_0.out.under ((Below.refl _ _).alloc (Nat.le_refl _) _))
 clear B_0 X_0 Z_0 D1_0
 have E_2 : Hid (w1.ownsRow W0.heap.size 3 1 (.slice (some ⟨g8, 0, none⟩) 0 0) 0 []) := by (rw [← hw1, hg8]; exact row_empty_any W0 3 1)
 have hz1 : g8 < w1.heap.size := by (rw [← hw1, hg8]; exact (Bk.new W0 3 #[]).lt)
 have hzy1 : W0.heap.size ≤ g8 ∧ g8 ≤ W0.heap.size := by omega
 clear hw1 hg8
 go_simp
 rw [HW1.out, ← HG8.out]
 have Q_2 : Hid (w1.cell? ⟨w.heap.size, 0, none⟩ = some (.slice ar s.r.length cr) ∧ w1.cell? ⟨w.heap.size, 1, none⟩ = some (.int .i64 s.q) ∧ w1.cell? ⟨w.heap.size, 2, none⟩ = some (.int .i64 s.d)) := ⟨X_2.out.cell rfl, X_2.out.cell rfl, X_2.out.cell rfl⟩
 refine hK.out _ _ Q_2.out (fun hHeld => ?_)
 clear hK K
 try simp only [Act.put, List.setIfInBounds_toArray, List.set_cons_zero, List.set_cons_succ]
 refine wpAnyZ_ready (rs := [3]) (by kernel_rfl) (by simp) ?_
 refine AllReadyZ.cons (o := { dst := some 6, op := Op.call { callee := Callee.builtin Builtin.append, args := #[Operand.tmp 3, Operand.tmp 5], argTypes := #[22, 22] }, type := 22, pos := _, after := _, guard := none }) rfl (fun K hK => ?_) AllReadyZ.nil
 refine step_append_src (w := w1) rfl (.tmp 3) (.tmp 5) 22 rfl W0.heap.size 3 i3 (.int .i64 0) 1 8 Tryz.underlying22 hi3 hiz0 hiz1 hiz2 rfl (by decide) (.slice (some ⟨g8, 0, none⟩) 0 0) 0 [] rfl E_2.out (.slice ar s.r.length cr) s.r.length (intCells s.r) rfl D1_2.out.srcI (intCells_ones _) (by unfold maxLen; omega) (by omega) B_2.out.size ?_
 intro va w3 hown hgrow hnew
 rw [Nat.zero_add, List.nil_append] at hown
 obtain ⟨av, cv, hva⟩ := owns_slice hown
 subst hva
 have hgt := grown_turns hgrow
 have hS8 : ∀ k, (Value.slice (some ⟨g8, 0, none⟩) 0 0).ownBlock = some k → k = g8 := fun k e => by simpa [Value.ownBlock] using e.symm
 have hz3 : w1.heap.size ≤ w3.heap.size := hgrow.size
 have B_4 : Hid (Below W0.heap.size W0 w3) := B_2.out.grown hgrow B_2.out.size (fun k e => by have := hS8 k e; omega)
 have X_4 : Hid (Bk w3 w.heap.size 29 #[.slice ar s.r.length cr, .int .i64 s.q, .int .i64 s.d]) := X_2.out.turns hgt (fun e => by have := hS8 _ e; omega)
 have Z_4 : Hid (Bk w3 (w.heap.size + 1) 29 #[.slice none 0 0, .int .i64 0, .int .i64 0]) := Z_2.out.turns hgt (fun e => by have := hS8 _ e; omega)
 clear B_2 X_2 Z_2 D1_2 E_2
 have A_4 : Hid (w3.ownsRow W0.heap.size 3 1 (.slice av s.r.length cv) s.r.length (intCells s.r)) := hown
 clear hown hgrow hnew hgt hS8
 have Q_4 : Hid (w3.cell? ⟨w.heap.size, 0, none⟩ = some (.slice ar s.r.length cr) ∧ w3.cell? ⟨w.heap.size, 1, none⟩ = some (.int .i64 s.q) ∧ w3.cell? ⟨w.heap.size, 2, none⟩ = some (.int .i64 s.d)) := ⟨X_4.out.cell rfl, X_4.out.cell rfl, X_4.out.cell rfl⟩
 refine hK.out _ _ Q_4.out (fun hHeld => ?_)
 clear hK K
 try simp only [Act.put, List.setIfInBounds_toArray, List.set_cons_zero, List.set_cons_succ]
 refine wpAnyZ_take (i := 8) (oi := { dst := some 11, op := Op.build 29 #[(0, Operand.tmp 6), (1, Operand.tmp 8), (2, Operand.tmp 10)], type := 29, pos := _, after := _, guard := none }) (v := .agg #[.slice av s.r.length cv, .int .i64 s.q, .int .i64 s.d]) 8 [] rfl (by kernel_rfl) (by kernel_rfl) (by kernel_rfl) (by kernel_rfl) (by kernel_rfl) (fun _ _ _ h => h) (Or.inl ⟨by rfl, ?_⟩) (by assumption) ?_
 ·intro wX hSw
  try dsimp only at hSw
  go_simp
  try exact IntWalk.i64_in _ (by omega)
 try simp only [Act.put, List.setIfInBounds_toArray, List.set_cons_zero, List.set_cons_succ]
 refine wpAnyZ_ready (rs := [9]) (by kernel_rfl) (by simp) ?_
 refine AllReadyZ.last (o := { dst := none, op := Op.store 29 (Operand.tmp 2) (Operand.tmp 11), type := 0, pos := _, after := _, guard := none }) rfl (fun K hK => ?_)
 have q0 := Z_4.out.cell (i := 0) rfl
 have q1 := Z_4.out.cell (i := 1) rfl
 have q2 := Z_4.out.cell (i := 2) rfl
 have qf := Z_4.out.free
 go_simp
 clear qf q0 q1 q2
 refine hK.out _ _ ?_
 clear hK K
 try simp only [Act.put, List.setIfInBounds_toArray, List.set_cons_zero, List.set_cons_succ]
 refine wpAnyZ_done (by kernel_rfl) ?_ _
 obtain ⟨X5, hX5⟩ : ∃ X5, put3s w3 (w.heap.size + 1) (.slice av s.r.length cv) (.int .i64 s.q) (.int .i64 s.d) = X5 := ⟨_, rfl⟩
 have hP := Z_4.out.put3s (.slice av s.r.length cv) (.int .i64 s.q) (.int .i64 s.d)
 have ht := put3s_turns w3 (w.heap.size + 1) (.slice av s.r.length cv) (.int .i64 s.q) (.int .i64 s.d)
 rw [hX5] at hP ht
 unfold put3s at hX5
 rw [hX5]
 clear hX5
 go_wp2
 have t0 := hP.cell (i := 0) rfl
 have t1 := hP.cell (i := 1) rfl
 have t2 := hP.cell (i := 2) rfl
 refine bodyPost_ret (v := .agg #[.slice av s.r.length cv, .int .i64 s.q, .int .i64 s.d]) (by simp [results, Tryz.results87, go_sem, t0, t1, t2]) rfl ⟨_, rfl, owns_mono (owns_turns A_4.out ht (fun k hk e => by have := row_ge A_4.out hk; omega)) (by omega), (HBw.out.trans (B_4.out.mono (by omega))).trans (ht.to_below (fun k e => by omega) (by have := B_4.out.size; omega))⟩
end Go.Proofs.YtnccenbkpocjgaaGreat

