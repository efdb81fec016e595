/- PGrow, PPst, KMb -/
import Derived.Test.YthfhibnnkpbeiaaGreatExactWorldNewG09
import Derived.Test.YthfhibnnkpbeiaaGreatExactWorldNewG02
import Derived.Test.YthfhibnnkpbeiaaGreatExactWorldNewG04
import Derived.Test.YthfhibnnkpbeiaaGreatExactWorldNewG07
/- A row that grows, whose cells own what they hold. -/
namespace Go.Proofs.YthfhibnnkpbeiaaGreat
open Go.RowKit
def nthV (cs : List Value) (j : Nat) : Value := cs.getD j (.int .i64 0)
structure GrowD (B : Nat) (T : TypeId) (w : World) (v : Value) (c n : Nat) (cs : List Value) (f : Nat → Dat) (G : Nat → Nat → Prop) : Prop where
 row : w.ownsRow B T c v n cs
 own : ∀ j, j < n * c → OwnD w (G j) (nthV cs j) (f j)
 lim : ∀ j, j < n * c → ∀ k, G j k → B ≤ k ∧ k < w.heap.size ∧ v.ownBlock ≠ some k
 dis : ∀ i j, i < n * c → j < n * c → i ≠ j → ∀ k, G i k → ¬ G j k
theorem GrowD.nil (B : Nat) (T : TypeId) (w : World) (c : Nat) (f : Nat → Dat) (G : Nat → Nat → Prop) : GrowD B T w (.slice none 0 0) c 0 [] f G :=
 ⟨World.ownsRow_nil w B T c, fun j hj => by omega, fun j hj => by omega, fun i j hi => by omega⟩
theorem GrowD.turns {S : Nat → Prop} {B : Nat} {T : TypeId} {w w' : World} {v : Value} {c n : Nat} {cs : List Value} {f : Nat → Dat} {G : Nat → Nat → Prop} (h : GrowD B T w v c n cs f G) (ht : Turns S w w') (h1 : ∀ k, v.ownBlock = some k → ¬ S k) (h2 : ∀ j, j < n * c → ∀ k, G j k → ¬ S k) : GrowD B T w' v c n cs f G :=
 ⟨owns_turns h.row ht h1, fun j hj => (h.own j hj).turns ht (h2 j hj), fun j hj k hk => ⟨(h.lim j hj k hk).1, Nat.lt_of_lt_of_le (h.lim j hj k hk).2.1 ht.size, (h.lim j hj k hk).2.2⟩, h.dis⟩
theorem GrowD.below {B : Nat} {T : TypeId} {w w' : World} {v : Value} {c n : Nat} {cs : List Value} {f : Nat → Dat} {G : Nat → Nat → Prop} (h : GrowD B T w v c n cs f G) (hb : Below w.heap.size w w') : GrowD B T w' v c n cs f G :=
 h.turns (S := fun _ => False) (Turns.of_below hb) (fun _ _ => id) (fun _ _ _ _ => id)
theorem GrowD.low {S : Nat → Prop} {B : Nat} {T : TypeId} {w w' : World} {v : Value} {c n : Nat} {cs : List Value} {f : Nat → Dat} {G : Nat → Nat → Prop} (h : GrowD B T w v c n cs f G) (ht : Turns S w w') (hS : ∀ k, B ≤ k → ¬ S k) : GrowD B T w' v c n cs f G :=
 h.turns ht (fun k hk => hS k (row_ge h.row hk)) (fun j hj k hk => hS k (h.lim j hj k hk).1)
def joinF {α : Type} (m : Nat) (f g : Nat → α) : Nat → α := fun j => if j < m then f j else g (j - m)
theorem GrowD.snoc {B : Nat} {T : TypeId} {w w3 : World} {v v3 : Value} {c n : Nat} {cs ns : List Value} {f d : Nat → Dat} {G K : Nat → Nat → Prop} (h : GrowD B T w v c n cs f G) (ho : w3.ownsRow B T c v3 (n + 1) (cs ++ ns)) (hg : w.grownBy w3 v.ownBlock) (hw : NewRow w v v3)
  (hd : ∀ r, r < c → OwnD w (K r) (nthV ns r) (d r)) (hK : ∀ r, r < c → ∀ k, K r k → B ≤ k ∧ k < w.heap.size ∧ v.ownBlock ≠ some k ∧ ∀ j, j < n * c → ¬ G j k) (hKK : ∀ i j, i < c → j < c → i ≠ j → ∀ k, K i k → ¬ K j k) :
  GrowD B T w3 v3 c (n + 1) (cs ++ ns) (joinF (n * c) f d) (joinF (n * c) G K) := by
 have hl : cs.length = n * c := h.row.1
 have ht := grown_turns hg
 have hsz : w.heap.size ≤ w3.heap.size := hg.size
 have hv3 : ∀ k, k < w.heap.size → v.ownBlock ≠ some k → v3.ownBlock ≠ some k := fun k hk hv e => by
  rcases hw with h1 | h1
  ·exact hv (h1 ▸ e)
  ·have := h1 k e; omega
 have hnc : (n + 1) * c = n * c + c := by rw [Nat.add_mul, Nat.one_mul]
 refine ⟨ho, fun j hj => ?_, fun j hj k hk => ?_, fun i j hi hj hij k hk hk' => ?_⟩
 ·unfold joinF
  by_cases hlt : j < n * c
  ·rw [if_pos hlt, if_pos hlt, show nthV (cs ++ ns) j = nthV cs j by unfold nthV; simp [List.getElem?_append_left (by omega : j < cs.length)]]
   exact (h.own j hlt).turns ht (fun k hk e => (h.lim j hlt k hk).2.2 e)
  ·rw [if_neg hlt, if_neg hlt, show nthV (cs ++ ns) j = nthV ns (j - n * c) by unfold nthV; rw [List.getD_eq_getElem?_getD, List.getElem?_append_right (by omega), hl, ← List.getD_eq_getElem?_getD]]
   exact (hd (j - n * c) (by omega)).turns ht (fun k hk e => (hK (j - n * c) (by omega) k hk).2.2.1 e)
 ·unfold joinF at hk
  by_cases hlt : j < n * c
  ·rw [if_pos hlt] at hk
   have := h.lim j hlt k hk
   exact ⟨this.1, by omega, hv3 k this.2.1 this.2.2⟩
  ·rw [if_neg hlt] at hk
   have := hK (j - n * c) (by omega) k hk
   exact ⟨this.1, by omega, hv3 k this.2.1 this.2.2.1⟩
 ·unfold joinF at hk hk'
  by_cases hi1 : i < n * c <;> by_cases hj1 : j < n * c
  ·rw [if_pos hi1] at hk; rw [if_pos hj1] at hk'
   exact h.dis i j hi1 hj1 hij k hk hk'
  ·rw [if_pos hi1] at hk; rw [if_neg hj1] at hk'
   exact (hK (j - n * c) (by omega) k hk').2.2.2 i hi1 hk
  ·rw [if_neg hi1] at hk; rw [if_pos hj1] at hk'
   exact (hK (i - n * c) (by omega) k hk).2.2.2 j hj1 hk'
  ·rw [if_neg hi1] at hk; rw [if_neg hj1] at hk'
   exact hKK (i - n * c) (j - n * c) (by omega) (by omega) (by omega) k hk hk'
def GrowD.blocks (v : Value) (c n : Nat) (G : Nat → Nat → Prop) : Nat → Prop := fun k => v.ownBlock = some k ∨ ∃ j, j < n * c ∧ G j k
theorem GrowD.ownD {B : Nat} {T : TypeId} {w : World} {v : Value} {c n : Nat} {cs : List Value} {f : Nat → Dat} {G : Nat → Nat → Prop} (h : GrowD B T w v c n cs f G) : OwnD w (GrowD.blocks v c n G) v (.row c n f) := by
 obtain ⟨hl, ⟨rfl, rfl⟩ | ⟨g, cap, cur, rfl, hg, hc, h1, h2, h3, h4⟩⟩ := h.row
 ·exact .nil _ _ _ _ _ (Nat.zero_le _)
 ·have hlt : g < w.heap.size := (Array.getElem?_eq_some_iff.1 hc).1
  refine .row _ g n cap c f (nthV cs) G h1 h2 hlt (.inl rfl) (fun j hj => ⟨?_, by simp [World.frozen?, hc]⟩) h.own (fun j hj k hk => ⟨.inr ⟨j, hj, hk⟩, fun e => (h.lim j hj k hk).2.2 (by rw [e]; rfl)⟩) h.dis
  have hjc : j < cs.length := by omega
  have h5 : w.cell? ⟨g, j, none⟩ = cs[j]? := by
   rw [← h4, List.getElem?_take_of_lt hj]
   simp [World.cell?, hc]
  rw [h5, List.getElem?_eq_getElem hjc]
  simp [nthV, hjc]
theorem GrowD.blocks_ge {B : Nat} {T : TypeId} {w : World} {v : Value} {c n : Nat} {cs : List Value} {f : Nat → Dat} {G : Nat → Nat → Prop} (h : GrowD B T w v c n cs f G) {k : Nat} (hk : GrowD.blocks v c n G k) : B ≤ k ∧ k < w.heap.size := by
 rcases hk with hk | ⟨j, hj, hk⟩
 ·exact ⟨row_ge h.row hk, owns_lt h.row hk⟩
 ·exact ⟨(h.lim j hj k hk).1, (h.lim j hj k hk).2.1⟩
end Go.Proofs.YthfhibnnkpbeiaaGreat

/- One thing done, put behind a row of such things: what it owns. -/
namespace Go.Proofs.YthfhibnnkpbeiaaGreat
open Go.RowKit
theorem infoPX : (Tryz.prog.info? 126).map (fun i => (i.zero, i.size, i.bytes)) = some (some (.agg #[.int .i64 0, .int .i64 0, .int .i64 0]), 3, 24) := by kernel_rfl
theorem infoPQ : (Tryz.prog.info? 133).map (fun i => (i.zero, i.size, i.bytes)) = some (some (.agg #[.int .i64 0, .int .i64 0, .int .i64 0, .int .i64 0, .int .i64 0, .int .i64 0, .int .i64 0, .slice none 0 0, .int .i64 0, .int .i64 0, .slice none 0 0, .slice none 0 0]), 12, 144) := by kernel_rfl
theorem row_empty_any (w : World) (T : TypeId) (c : Nat) : (w.alloc (.cells #[] T)).ownsRow w.heap.size T c (.slice (some ⟨w.heap.size, 0, none⟩) 0 0) 0 [] :=
 ⟨by simp, .inr ⟨w.heap.size, 0, #[], rfl, Nat.le_refl _, (MapKept.heap_alloc w _).1, Nat.le_refl _, Nat.zero_le _, by simp, by simp⟩⟩
theorem Bk.src {w : World} {P : Nat} {T : TypeId} {l : List Value} (h : Bk w P T l.toArray) : ∀ j u, l[j]? = some u → w.cell? ((⟨P, 0, none⟩ : Addr).add j) = some u := fun j u hu => by
 rw [Addr.add_lit]
 simpa using h.cell (i := j) (by simpa using hu)
def pastL (q : Ps) (v7 v10 v11 : Value) : List Value := [.int .i64 q.e.t, .int .i64 q.e.s, .int .i64 q.e.q, .int .i64 q.e.d, .int .i64 q.e.k, .int .i64 q.e.v, .int .i64 q.e.g, v7, .int .i64 q.b.q, .int .i64 q.b.d, v10, v11]
def pastK (K7 K10 K11 : Nat → Prop) (r : Nat) : Nat → Prop := if r = 7 then K7 else if r = 10 then K10 else if r = 11 then K11 else fun _ => False
theorem past_own {w : World} {q : Ps} {v7 v10 v11 : Value} {K7 K10 K11 : Nat → Prop} (h7 : OwnD w K7 v7 (intsD q.b.r)) (h10 : OwnD w K10 v10 (evsD q.s)) (h11 : OwnD w K11 v11 (emsD q.x)) : ∀ r, r < 12 → OwnD w (pastK K7 K10 K11 r) (nthV (pastL q v7 v10 v11) r) (q.cell r)
 | 0, _ => .val _ _
 | 1, _ => .val _ _
 | 2, _ => .val _ _
 | 3, _ => .val _ _
 | 4, _ => .val _ _
 | 5, _ => .val _ _
 | 6, _ => .val _ _
 | 7, _ => h7
 | 8, _ => .val _ _
 | 9, _ => .val _ _
 | 10, _ => h10
 | 11, _ => h11
theorem GrowD.snocPs {B : Nat} {T : TypeId} {V0 w w3 : World} {v v3 v7 v10 v11 : Value} {n : Nat} {cs : List Value} {l : List Ps} {G : Nat → Nat → Prop} {K7 K10 K11 : Nat → Prop} (h0 : GrowD B T V0 v 12 n cs (pastsD_f l) G) (hb : Below V0.heap.size V0 w) (hB : B ≤ V0.heap.size)
  (h7 : OwnD w K7 v7 (intsD (psAt l n).b.r)) (h10 : OwnD w K10 v10 (evsD (psAt l n).s)) (h11 : OwnD w K11 v11 (emsD (psAt l n).x))
  (l7 : ∀ k, K7 k → V0.heap.size ≤ k ∧ k < w.heap.size) (l10 : ∀ k, K10 k → V0.heap.size ≤ k ∧ k < w.heap.size) (l11 : ∀ k, K11 k → V0.heap.size ≤ k ∧ k < w.heap.size)
  (d1 : ∀ k, K7 k → ¬ K10 k) (d2 : ∀ k, K7 k → ¬ K11 k) (d3 : ∀ k, K10 k → ¬ K11 k)
  (ho : w3.ownsRow B T 12 v3 (n + 1) (cs ++ pastL (psAt l n) v7 v10 v11)) (hg : w.grownBy w3 v.ownBlock) (hw : NewRow w v v3) :
  GrowD B T w3 v3 12 (n + 1) (cs ++ pastL (psAt l n) v7 v10 v11) (pastsD_f l) (joinF (n * 12) G (pastK K7 K10 K11)) := by
 have hK : ∀ r k, pastK K7 K10 K11 r k → V0.heap.size ≤ k ∧ k < w.heap.size := fun r k hk => by
  unfold pastK at hk
  split at hk
  ·exact l7 k hk
  ·split at hk
   ·exact l10 k hk
   ·split at hk
    ·exact l11 k hk
    ·exact hk.elim
 have hKK : ∀ i j, i ≠ j → ∀ k, pastK K7 K10 K11 i k → ¬ pastK K7 K10 K11 j k := fun i j hij k h1 h2 => by
  unfold pastK at h1 h2
  have e1 := d1 k
  have e2 := d2 k
  have e3 := d3 k
  split at h1 <;> split at h2
  ·omega
  ·split at h2
   ·exact e1 h1 h2
   ·split at h2
    ·exact e2 h1 h2
    ·exact h2
  ·split at h1
   ·exact e1 h2 h1
   ·split at h1
    ·exact e2 h2 h1
    ·exact h1
  ·split at h1 <;> split at h2
   ·omega
   ·split at h2
    ·exact e3 h1 h2
    ·exact h2
   ·split at h1
    ·exact e3 h2 h1
    ·exact h1
   ·split at h1 <;> split at h2
    ·omega
    ·exact h2
    ·exact h1
    ·exact h2
 have hbl : ∀ k, GrowD.blocks v 12 n G k → k < V0.heap.size := fun k hk => (h0.blocks_ge hk).2
 have h := (h0.below hb).snoc ho hg hw (past_own h7 h10 h11) (fun r hr k hk => ⟨by have := hK r k hk; omega, (hK r k hk).2, fun e => by have := hbl k (.inl e); have := hK r k hk; omega, fun j hj e => by have := hbl k (.inr ⟨j, hj, e⟩); have := hK r k hk; omega⟩) (fun i j hi hj hij => hKK i j hij)
 refine ⟨h.row, fun j hj => ?_, h.lim, h.dis⟩
 have := h.own j hj
 have e : joinF (n * 12) (pastsD_f l) (psAt l n).cell j = pastsD_f l j := by
  unfold joinF
  split
  ·rfl
  ·rename_i hlt
   have := pastsD_at l n (r := j - n * 12) (by omega)
   rw [show n * 12 + (j - n * 12) = j by omega] at this
   exact this.symm
 rw [e] at this
 exact this
end Go.Proofs.YthfhibnnkpbeiaaGreat

/- A model that is being made: its struct in a block, its lists in rows of their own. -/
namespace Go.Proofs.YthfhibnnkpbeiaaGreat
open Go.RowKit
def uAt (us : List Value) (i : Nat) : Value := us.getD i (.slice none 0 0)
def HsO (B : Nat) (w : World) (us : List Value) (hs : List (List O)) : Prop :=
 us.length = hs.length ∧ (∀ i, i < hs.length → w.ownsRow B 97 4 (uAt us i) (hAt hs i).length (cellsO (hAt hs i))) ∧ ∀ i j k, i < j → j < hs.length → (uAt us i).ownBlock = some k → ¬ (uAt us j).ownBlock = some k
theorem HsO.nil (B : Nat) (w : World) : HsO B w [] [] := ⟨rfl, fun i hi => by simp at hi, fun i j k _ hj => by simp at hj⟩
theorem HsO.turns {S : Nat → Prop} {B : Nat} {w w' : World} {us : List Value} {hs : List (List O)} (h : HsO B w us hs) (ht : Turns S w w') (hS : ∀ i k, i < hs.length → (uAt us i).ownBlock = some k → ¬ S k) : HsO B w' us hs :=
 ⟨h.1, fun i hi => owns_turns (h.2.1 i hi) ht (fun k hk => hS i k hi hk), h.2.2⟩
theorem uAt_left {us : List Value} {u : Value} {i : Nat} (h : i < us.length) : uAt (us ++ [u]) i = uAt us i := by
 unfold uAt; simp [List.getElem?_append_left h]
theorem uAt_last (us : List Value) (u : Value) : uAt (us ++ [u]) us.length = u := by unfold uAt; simp
theorem hAt_left {hs : List (List O)} {r : List O} {i : Nat} (h : i < hs.length) : hAt (hs ++ [r]) i = hAt hs i := by
 unfold hAt; simp [List.getElem?_append_left h]
theorem hAt_last (hs : List (List O)) (r : List O) : hAt (hs ++ [r]) hs.length = r := by unfold hAt; simp
theorem HsO.snoc {B B' : Nat} {w : World} {us : List Value} {hs : List (List O)} {u : Value} {r : List O} (h : HsO B w us hs) (hr : w.ownsRow B' 97 4 u r.length (cellsO r)) (hB : B ≤ B') (hold : ∀ i k, i < hs.length → (uAt us i).ownBlock = some k → k < B') : HsO B w (us ++ [u]) (hs ++ [r]) := by
 obtain ⟨h0, h1, h2⟩ := h
 refine ⟨by simp [h0], fun i hi => ?_, fun i j k hij hj hk => ?_⟩
 ·by_cases e : i < hs.length
  ·rw [uAt_left (by omega), hAt_left e]; exact h1 i e
  ·have : i = hs.length := by simp at hi; omega
   subst this
   rw [hAt_last, ← h0, uAt_last]
   exact owns_mono hr hB
 ·by_cases e : j < hs.length
  ·rw [uAt_left (by omega)] at hk ⊢
   exact h2 i j k hij e hk
  ·have : j = hs.length := by simp at hj; omega
   subst this
   rw [uAt_left (by omega)] at hk
   rw [← h0, uAt_last]
   intro e2
   have := hold i k hij hk
   have := row_ge hr e2
   omega
theorem HsO.old {B : Nat} {w : World} {us : List Value} {hs : List (List O)} (h : HsO B w us hs) : ∀ i k, i < hs.length → (uAt us i).ownBlock = some k → k < w.heap.size := fun i _ hi hk => owns_lt (h.2.1 i hi) hk
theorem HsO.isH {B B' : Nat} {w : World} {us : List Value} {hs : List (List O)} {v : Value} (h : HsO B w us hs) (hv : w.ownsRow B' 94 1 v hs.length us) : IsH w v hs := by
 have hF := RowF.of_owns (by rw [h.1]; omega) hv
 obtain ⟨hl, a, cap, rfl, h1, h2, h3⟩ := hF
 refine ⟨a, cap, rfl, h1, h2, h3.imp List.eq_nil_of_length_eq_zero ?_⟩
 rintro ⟨g, rfl, _, hg, hc⟩
 refine ⟨g, 0, rfl, hg, fun i hi => ⟨uAt us i, ?_, (RowF.of_owns (cellsO_length _) (h.2.1 i hi)).isO⟩⟩
 rw [Nat.zero_add, (hc i (by omega)).1]
 unfold uAt
 rw [List.getD_eq_getElem?_getD, List.getElem?_eq_getElem (by rw [h.1]; exact hi)]
 rfl
theorem infoSS : (Tryz.prog.info? 94).map (fun i => (i.zero, i.size, i.bytes)) = some (some (.slice none 0 0), 1, 24) := by kernel_rfl
theorem slice_ones (a : Option Addr) (n c : Nat) : ∀ u ∈ [Value.slice a n c], u.oneCell' = true := by
 intro u hu
 simp at hu
 subst hu
 rfl
abbrev Z6 : Array Value := #[.int .i64 0, .int .i64 0, .slice none 0 0, .slice none 0 0, .slice none 0 0, .int .i64 0]
structure MB (w : World) (B Rb Mb : Nat) (m : Md) (vi vh vs : Value) (us : List Value) : Prop where
 ne : Rb ≠ Mb
 r : Bk w Rb 31 Z6
 b : Bk w Mb 31 #[.int .i64 m.n, .int .i64 m.s, vi, vh, vs, .int .i64 m.z]
 i : w.ownsRow B 3 1 vi m.i.length (intCells m.i)
 h : w.ownsRow B 94 1 vh m.h.length us
 u : HsO B w us m.h
 e : w.ownsRow B 99 7 vs m.e.length (cellsL m.e)
theorem MB.turns {S : Nat → Prop} {w w' : World} {B Rb Mb : Nat} {m : Md} {vi vh vs : Value} {us : List Value} (g : MB w B Rb Mb m vi vh vs us) (ht : Turns S w w') (h1 : ¬ S Rb) (h2 : ¬ S Mb) (h3 : ∀ k, vi.ownBlock = some k → ¬ S k) (h4 : ∀ k, vh.ownBlock = some k → ¬ S k) (h5 : ∀ i k, i < m.h.length → (uAt us i).ownBlock = some k → ¬ S k) (h6 : ∀ k, vs.ownBlock = some k → ¬ S k) : MB w' B Rb Mb m vi vh vs us :=
 ⟨g.ne, g.r.turns ht h1, g.b.turns ht h2, owns_turns g.i ht h3, owns_turns g.h ht h4, g.u.turns ht h5, owns_turns g.e ht h6⟩
theorem MB.below {w w' : World} {B Rb Mb : Nat} {m : Md} {vi vh vs : Value} {us : List Value} (g : MB w B Rb Mb m vi vh vs us) (hb : Below w.heap.size w w') : MB w' B Rb Mb m vi vh vs us :=
 g.turns (S := fun _ => False) (Turns.of_below hb) id id (fun _ _ => id) (fun _ _ => id) (fun _ _ _ _ => id) (fun _ _ => id)
theorem MB.alloc {w : World} {B Rb Mb : Nat} {m : Md} {vi vh vs : Value} {us : List Value} (g : MB w B Rb Mb m vi vh vs us) (o : Obj) : MB (w.alloc o) B Rb Mb m vi vh vs us := g.below ((Below.refl _ w).alloc (Nat.le_refl _) o)
theorem MB.drew {w : World} {B Rb Mb : Nat} {m : Md} {vi vh vs : Value} {us : List Value} (g : MB w B Rb Mb m vi vh vs us) : MB w.drew B Rb Mb m vi vh vs us := g.below (Below.refl _ w).drew
theorem MB.putH {w w3 : World} {B B' Rb Mb : Nat} {m : Md} {vi vh vs v3 u : Value} {us : List Value} {r : List O} (g : MB w B Rb Mb m vi vh vs us) (hu : w.ownsRow B' 97 4 u r.length (cellsO r)) (hB : B ≤ B') (hold : ∀ i k, i < m.h.length → (uAt us i).ownBlock = some k → k < B') (ho : w3.ownsRow B 94 1 v3 (m.h.length + 1) (us ++ [u])) (hg : w.grownBy w3 vh.ownBlock) : MB (w3.setCell ⟨Mb, 3, none⟩ v3) B Rb Mb ⟨m.n, m.s, m.i, m.h ++ [r], m.e, m.z⟩ vi v3 vs (us ++ [u]) := by
 have ht := grown_turns hg
 have r3 := g.r.turns ht (owns_ne g.h g.r (by decide))
 have b3 := g.b.turns ht (owns_ne g.h g.b (by decide))
 have i3 := owns_turns g.i ht (fun k hk e => owns_apart g.h g.i (by decide) e hk)
 have u3 := (g.u.snoc hu hB hold).turns ht (fun i k hi hk e => owns_apart g.h ((g.u.snoc hu hB hold).2.1 i hi) (by decide) e hk)
 have e3 := owns_turns g.e ht (fun k hk e => owns_apart g.h g.e (by decide) e hk)
 have hp := put1_turns w3 Mb 3 v3
 refine ⟨g.ne, r3.turns hp g.ne, b3.put 3 _, owns_turns i3 hp (fun k hk e => owns_ne i3 b3 (by decide) (e ▸ hk)), ?_, u3.turns hp (fun i k hi hk e => owns_ne (u3.2.1 i hi) b3 (by decide) (e ▸ hk)), owns_turns e3 hp (fun k hk e => owns_ne e3 b3 (by decide) (e ▸ hk))⟩
 have := owns_turns ho hp (fun k hk e => owns_ne ho b3 (by decide) (e ▸ hk))
 simpa using this
theorem MB.isM {w : World} {B Rb Mb : Nat} {m : Md} {vi vh vs : Value} {us : List Value} (g : MB w B Rb Mb m vi vh vs us) : IsM w (.agg #[.int .i64 m.n, .int .i64 m.s, vi, vh, vs, .int .i64 m.z]) m :=
 ⟨vi, vh, vs, rfl, (RowF.of_owns (by rw [intCells_length]; omega) g.i).isI, g.u.isH g.h, (RowF.of_owns (cellsL_length _) g.e).isEvs⟩
def Aw (N Rb Mb : Nat) (vi vh vs : Value) (us : List Value) (n : Nat) : Prop := Rb < N ∧ Mb < N ∧ (∀ k, vi.ownBlock = some k → k < N) ∧ (∀ k, vh.ownBlock = some k → k < N) ∧ (∀ i k, i < n → (uAt us i).ownBlock = some k → k < N) ∧ ∀ k, vs.ownBlock = some k → k < N
theorem MB.aw {w : World} {B Rb Mb : Nat} {m : Md} {vi vh vs : Value} {us : List Value} (g : MB w B Rb Mb m vi vh vs us) : Aw w.heap.size Rb Mb vi vh vs us m.h.length :=
 ⟨g.r.lt, g.b.lt, fun _ hk => owns_lt g.i hk, fun _ hk => owns_lt g.h hk, g.u.old, fun _ hk => owns_lt g.e hk⟩
structure MO (w : World) (B : Nat) (m : Md) (vi vh vs : Value) (us : List Value) : Prop where
 i : w.ownsRow B 3 1 vi m.i.length (intCells m.i)
 h : w.ownsRow B 94 1 vh m.h.length us
 u : HsO B w us m.h
 e : w.ownsRow B 99 7 vs m.e.length (cellsL m.e)
theorem MB.mo {w w' : World} {B Rb Mb : Nat} {m : Md} {vi vh vs : Value} {us : List Value} (g : MB w B Rb Mb m vi vh vs us) (ht : Turns (fun k => k = Rb) w w') : MO w' B m vi vh vs us :=
 ⟨owns_turns g.i ht (fun _ hk e => owns_ne g.i g.r (by decide) (e ▸ hk)), owns_turns g.h ht (fun _ hk e => owns_ne g.h g.r (by decide) (e ▸ hk)), g.u.turns ht (fun i _ hi hk e => owns_ne (g.u.2.1 i hi) g.r (by decide) (e ▸ hk)), owns_turns g.e ht (fun _ hk e => owns_ne g.e g.r (by decide) (e ▸ hk))⟩
theorem MB.grownA {w w' : World} {N B Rb Mb : Nat} {m : Md} {vi vh vs : Value} {us : List Value} {row : Option Nat} (g : MB w B Rb Mb m vi vh vs us) (a : Aw N Rb Mb vi vh vs us m.h.length) (hg : w.grownBy w' row) (hr : ∀ k, row = some k → N ≤ k) : MB w' B Rb Mb m vi vh vs us := by
 obtain ⟨a1, a2, a3, a4, a5, a6⟩ := a
 exact g.turns (grown_turns hg) (fun e => by have := hr _ e; omega) (fun e => by have := hr _ e; omega) (fun k hk e => by have := a3 k hk; have := hr _ e; omega) (fun k hk e => by have := a4 k hk; have := hr _ e; omega) (fun i k hi hk e => by have := a5 i k hi hk; have := hr _ e; omega) (fun k hk e => by have := a6 k hk; have := hr _ e; omega)
theorem RowF.ownB {B : Nat} {T : TypeId} {w : World} {x : Value} {n c : Nat} {cs : List Value} (hcs : cs.length = n * c) (h : w.ownsRow B T c x n cs) : RowF (fun k => x.ownBlock = some k) w x n c cs := by
 obtain ⟨hl, a, cap, rfl, h1, h2, h3⟩ := RowF.of_owns hcs h
 refine ⟨hl, a, cap, rfl, h1, h2, h3.imp id ?_⟩
 rintro ⟨g, rfl, _, h4⟩
 exact ⟨g, rfl, by simp [Value.ownBlock], h4⟩
theorem us_range {us : List Value} {n : Nat} (h : us.length = n) : (List.range n).map (uAt us) = us := by
 subst h
 apply List.ext_getElem?
 intro i
 by_cases hi : i < us.length
 ·simp [hi, uAt]
 ·simp [hi]
theorem HsO.hsF {B B' : Nat} {w : World} {us : List Value} {hs : List (List O)} {v : Value} (h : HsO B w us hs) (hv : w.ownsRow B' 94 1 v hs.length us) : HsF (fun k => v.ownBlock = some k ∨ ∃ i, i < hs.length ∧ (uAt us i).ownBlock = some k) w v hs := by
 refine ⟨uAt us, (fun k => v.ownBlock = some k), (fun i k => (uAt us i).ownBlock = some k), ?_, fun k e => .inl e, fun i hi => ⟨RowF.ownB (cellsO_length _) (h.2.1 i hi), fun k e => ⟨.inr ⟨i, hi, e⟩, fun e' => owns_apart hv (h.2.1 i hi) (by decide) e' e⟩⟩, fun i j hi hj hij k e => ?_⟩
 ·rw [us_range h.1]
  exact RowF.ownB (by rw [h.1]; omega) hv
 ·by_cases hlt : i < j
  ·exact h.2.2 i j k hlt hj e
  ·intro e'
   exact h.2.2 j i k (by omega) hi e' e
theorem MO.mdf {w : World} {B : Nat} {m : Md} {vi vh vs : Value} {us : List Value} (g : MO w B m vi vh vs us) : MdF (fun k => B ≤ k ∧ k < w.heap.size) w (.agg #[.int .i64 m.n, .int .i64 m.s, vi, vh, vs, .int .i64 m.z]) m := by
 refine ⟨(fun k => vi.ownBlock = some k), (fun k => vh.ownBlock = some k ∨ ∃ i, i < m.h.length ∧ (uAt us i).ownBlock = some k), (fun k => vs.ownBlock = some k), vi, vh, vs, rfl, RowF.ownB (by rw [intCells_length]; omega) g.i, g.u.hsF g.h, RowF.ownB (cellsL_length _) g.e, fun k e => ⟨⟨row_ge g.i e, owns_lt g.i e⟩, ?_, owns_apart g.i g.e (by decide) e⟩, ?_, fun k e => ⟨row_ge g.e e, owns_lt g.e e⟩⟩
 ·rintro (e' | ⟨i, hi, e'⟩)
  ·exact owns_apart g.i g.h (by decide) e e'
  ·exact owns_apart g.i (g.u.2.1 i hi) (by decide) e e'
 ·rintro k (e | ⟨i, hi, e⟩)
  ·exact ⟨⟨row_ge g.h e, owns_lt g.h e⟩, owns_apart g.h g.e (by decide) e⟩
  ·exact ⟨⟨row_ge (g.u.2.1 i hi) e, owns_lt (g.u.2.1 i hi) e⟩, owns_apart (g.u.2.1 i hi) g.e (by decide) e⟩
end Go.Proofs.YthfhibnnkpbeiaaGreat

