/- VToB, VLowB, VText, VReadS, VReadI, VTextI, VDrawR -/
import Derived.Test.YtmpoffepoafblaaGreatVectorsG04
import Derived.Test.YtmpoffepoafblaaGreatVectorsG03
import Derived.WalkSmall
/- toByteS: a row of one's own. -/
namespace Go.Proofs.YtmpoffepoafblaaGreat.By
open Go.RowKit Go.Proofs.YtmpoffepoafblaaGreat
/- The block g holds the numbers of l, from its first cell on, and they may be written. -/
def RowI (w : World) (g : Nat) (l : List UInt8) : Prop := g < w.heap.size ∧ ∀ j, j < l.length → w.cell? ⟨g, j, none⟩ = some (.int .u8 ((intAt l j).toNat : Int)) ∧ w.frozen? ⟨g, j, none⟩ = false
theorem RowI.below {w w' : World} {B g : Nat} {l : List UInt8} (h : RowI w g l) (hb : Below B w w') (hB : g < B) : RowI w' g l :=
  ⟨Nat.lt_of_lt_of_le h.1 hb.size, fun j hj => by rw [hb.cell (p := ⟨g, j, none⟩) hB, hb.frozen (p := ⟨g, j, none⟩) hB]; exact h.2 j hj⟩
theorem RowI.own {w : World} {g : Nat} {l : List UInt8} (h : RowI w g l) (hl : l.length ≤ maxLen) {B : Nat} (hB : B ≤ g) : OwnI B w (sl g l.length) l :=
  ⟨_, _, rfl, Nat.le_refl _, hl, .inr ⟨g, rfl, hB, fun j hj => (h.2 j hj).2, h.1, fun i hi => by rw [Nat.zero_add]; exact (h.2 i hi).1⟩⟩
theorem RowI.isI {w : World} {g : Nat} {l : List UInt8} (h : RowI w g l) (hl : l.length ≤ maxLen) : IsI w (sl g l.length) l := (h.own hl (Nat.zero_le _)).isI
theorem RowI.mark {w : World} {g : Nat} {l : List UInt8} (h : RowI w g l) : MarkTo w g l.length 0 :=
  ⟨h.1, fun j hj => by rw [(h.2 j hj).1]; exact ⟨rfl, (h.2 j hj).2⟩, fun i hi => by omega⟩
/- As far as k it holds them; all n cells may be written. -/
def FillI (w : World) (g n : Nat) (l : List UInt8) (k : Nat) : Prop := g < w.heap.size ∧ (∀ j, j < n → (w.cell? ⟨g, j, none⟩).isSome = true ∧ w.frozen? ⟨g, j, none⟩ = false) ∧ ∀ i, i < k → w.cell? ⟨g, i, none⟩ = some (.int .u8 ((intAt l i).toNat : Int))
theorem FillI.row {w : World} {g : Nat} {l : List UInt8} (h : FillI w g l.length l l.length) : RowI w g l := ⟨h.1, fun j hj => ⟨h.2.2 j hj, (h.2.1 j hj).2⟩⟩
theorem FillI.put {w : World} {g n k : Nat} {l : List UInt8} (h : FillI w g n l k) (hk : k < n) : FillI (w.setCell ⟨g, k, none⟩ (.int .u8 ((intAt l k).toNat : Int))) g n l (k + 1) := by
  have e1 : w.setCell ⟨g, k, none⟩ (.int .u8 ((intAt l k).toNat : Int)) = w.setCells g k [.int .u8 ((intAt l k).toNat : Int)] := rfl
  have hsame : ∀ j, j ≠ k → (w.setCell ⟨g, k, none⟩ (.int .u8 ((intAt l k).toNat : Int))).cell? ⟨g, j, none⟩ = w.cell? ⟨g, j, none⟩ := fun j hj => by
    rw [e1]
    exact World.cell?_setCells_out g _ k w ⟨g, j, none⟩ (fun _ _ => by simp; omega)
  have hat : (w.setCell ⟨g, k, none⟩ (.int .u8 ((intAt l k).toNat : Int))).cell? ⟨g, k, none⟩ = some (.int .u8 ((intAt l k).toNat : Int)) := by
    rw [e1]
    have h0 := World.cell?_setCells_in g [.int .u8 ((intAt l k).toNat : Int)] k w (fun j hj => by
      obtain rfl : j = 0 := by simpa using hj
      exact (h.2.1 k hk).1) 0 (by simp)
    simpa using h0
  refine ⟨by simpa using h.1, fun j hj => ?_, fun i hi => ?_⟩
  · refine ⟨?_, ?_⟩
    · by_cases e : j = k
      · subst e; rw [hat]; rfl
      · rw [hsame j e]; exact (h.2.1 j hj).1
    · rw [e1, World.frozen?_setCells]; exact (h.2.1 j hj).2
  · by_cases e : i = k
    · subst e; exact hat
    · rw [hsame i e]; exact h.2.2 i (by omega)
theorem FillI.made {w1 : World} {B : Nat} {z : List Value} {n : Nat} {l : List UInt8} (h : w1.ownsRow B 5 1 (.slice (some ⟨B, 0, none⟩) n n) n z) : FillI w1 B n l 0 := by
  obtain ⟨hl, h | ⟨g, cap, cur, e, hg, hc, h1, h2, h3, h4⟩⟩ := h
  · simp at h
  · simp at e
    obtain ⟨rfl, rfl⟩ := e
    have hlt : B < w1.heap.size := (Array.getElem?_eq_some_iff.1 hc).1
    refine ⟨hlt, fun j hj => ?_, fun i hi => by omega⟩
    have hj2 : j < cur.size := by omega
    simp [World.cell?, World.frozen?, hc, hj2]
theorem info5 : (Tryz.prog.info? 5).map (fun i => (i.zero, i.size, i.bytes)) = some (some (.int .u8 0), 1, 1) := by kernel_rfl
end Go.Proofs.YtmpoffepoafblaaGreat.By

/- Rows of numbers: what stays where another row turns. -/
namespace Go.Proofs.YtmpoffepoafblaaGreat.By
open Go.RowKit Go.Proofs.YtmpoffepoafblaaGreat
/- As IsI, in a block below B. -/
def LowI (B : Nat) (w : World) (x : Value) (l : List UInt8) : Prop := ∃ a cap, x = .slice a l.length cap ∧ l.length ≤ cap ∧ cap ≤ maxLen ∧ (l = [] ∨ ∃ b off, a = some ⟨b, off, none⟩ ∧ b < B ∧ IntsAt w b off l)
theorem LowI.isI {B : Nat} {w : World} {x : Value} {l : List UInt8} (h : LowI B w x l) : IsI w x l := by
  obtain ⟨a, cap, rfl, h1, h2, h⟩ := h
  exact ⟨a, cap, rfl, h1, h2, h.imp id (fun ⟨b, off, e, _, h⟩ => ⟨b, off, e, h⟩)⟩
theorem IsI.low {w : World} {x : Value} {l : List UInt8} (h : IsI w x l) : LowI w.heap.size w x l := by
  obtain ⟨a, cap, rfl, h1, h2, h⟩ := h
  exact ⟨a, cap, rfl, h1, h2, h.imp id (fun ⟨b, off, e, h⟩ => ⟨b, off, e, h.1, h⟩)⟩
theorem LowI.below {B : Nat} {w w' : World} {x : Value} {l : List UInt8} (h : LowI B w x l) (hb : Below B w w') : LowI B w' x l := by
  obtain ⟨a, cap, rfl, h1, h2, h⟩ := h
  exact ⟨a, cap, rfl, h1, h2, h.imp id (fun ⟨b, off, e, hB, h⟩ => ⟨b, off, e, hB, h.below hb hB⟩)⟩
theorem OwnI.other {B g : Nat} {w w' : World} {x : Value} {l : List UInt8} (h : OwnI B w x l) (hg : g < B) (hgr : w.grownBy w' (some g)) : OwnI B w' x l := by
  obtain ⟨a, cap, rfl, h1, h2, h⟩ := h
  refine ⟨a, cap, rfl, h1, h2, h.imp id ?_⟩
  rintro ⟨b, rfl, hB, hf, hr⟩
  have hk : w'.heap[b]? = w.heap[b]? := hgr.block b hr.1 (by intro e; have := Option.some.inj e; omega)
  have hc : ∀ o, w'.cell? ⟨b, o, none⟩ = w.cell? ⟨b, o, none⟩ := fun o => World.cell?_of_block (w := w) hk
  have hz : ∀ o, w'.frozen? ⟨b, o, none⟩ = w.frozen? ⟨b, o, none⟩ := fun o => World.frozen?_of_block (w := w) hk
  exact ⟨b, rfl, hB, fun j hj => (hz j).trans (hf j hj), Nat.lt_of_lt_of_le hr.1 hgr.size, fun i hi => (hc _).trans (hr.2 i hi)⟩
/- An answer: a list of one's own and a flag. -/
def AnsI (B : Nat) (r : List UInt8) (b : Bool) (e : Ending) (w' : World) : Prop := ∃ v, e = .returned (.tuple #[v, .bool b]) ∧ OwnI B w' v r
end Go.Proofs.YtmpoffepoafblaaGreat.By

/- Vectors: both VectorText. -/
namespace Go.Proofs.YtmpoffepoafblaaGreat
open Go.RowKit
def letB (z : Int) : UInt8 := if z = -1 then 63 else if z = 0 then 110 else 121
def textB (l : List Int) : List UInt8 := l.map letB
theorem byteCells_append (l l' : List UInt8) : By.intCells (l ++ l') = By.intCells l ++ By.intCells l' := by simp [By.intCells]
theorem take_next {l : List Int} {k : Nat} (h : k < l.length) {z : Int} (hz : z = intAt l k) : l.take (k + 1) = l.take k ++ [z] := by
  rw [List.take_add_one, hz]; simp [intAt, h]
theorem row_geB {B : Nat} {w : World} {e : TypeId} {v : Value} {n size : Nat} {xs : List Value} (h : w.ownsRow B e size v n xs) {r : Nat} (hr : v.ownBlock = some r) : B ≤ r := by
  obtain ⟨_, ⟨rfl, _⟩ | ⟨g, cap, cur, rfl, hg, _⟩⟩ := h
  · cases hr
  · cases hr; exact hg
end Go.Proofs.YtmpoffepoafblaaGreat

/- Vectors: the specification's VectorRead. -/
namespace Go.Proofs.YtmpoffepoafblaaGreat
open Go.RowKit
def numL (c : UInt8) : Int := if c = 63 then -1 else if c = 110 then 0 else 1
def isL (c : UInt8) : Bool := decide (c = 63) || decide (c = 110) || decide (c = 121)
def readOk (l : List UInt8) : Bool := l.all isL && decide (l.length = 4)
def readV (l : List UInt8) : List Int := if readOk l = true then l.map numL else []
theorem intCells_append (l l' : List Int) : intCells (l ++ l') = intCells l ++ intCells l' := by simp [intCells]
theorem byteAt_mem {l : List UInt8} {k : Nat} (h : k < l.length) : By.intAt l k ∈ l := by
  unfold By.intAt; rw [List.getD_eq_getElem?_getD, List.getElem?_eq_getElem h]; exact List.getElem_mem h
theorem read_no {l : List UInt8} {k : Nat} (hk : k < l.length) (h : isL (By.intAt l k) = false) : readOk l = false := by
  have : l.all isL = false := by
    rw [List.all_eq_false]
    exact ⟨_, byteAt_mem hk, by simp [h]⟩
  simp [readOk, this]
theorem read_all {l : List UInt8} (h : ∀ j, j < l.length → isL (By.intAt l j) = true) : readOk l = decide (l.length = 4) := by
  have : l.all isL = true := by
    rw [List.all_eq_true]
    intro x hx
    obtain ⟨i, hi, rfl⟩ := List.getElem_of_mem hx
    have := h i hi
    unfold By.intAt at this
    rwa [List.getD_eq_getElem?_getD, List.getElem?_eq_getElem hi] at this
  simp [readOk, this]
theorem numL_ok (c : UInt8) : numOk (numL c) = true := by
  unfold numL numOk; split
  · rfl
  · split <;> rfl
theorem vok_numL (l : List UInt8) : vok (l.map numL) = decide (l.length = 4) := by
  have : (l.map numL).all numOk = true := by simp [List.all_map, numL_ok]
  simp [vok, this]
theorem takeB_next {l : List UInt8} {k : Nat} (h : k < l.length) {c : UInt8} (hc : c = By.intAt l k) : (l.take (k + 1)).map numL = (l.take k).map numL ++ [numL c] := by
  have e : l.take (k + 1) = l.take k ++ [c] := by rw [List.take_add_one, hc]; simp [By.intAt, h]
  rw [e]; simp
theorem u8_of {c : UInt8} {n : Nat} (hn : n < 256) (h : (c.toNat : Int) = (n : Int)) : c = UInt8.ofNat n := by
  apply UInt8.toNat_inj.1
  rw [UInt8.toNat_ofNat']
  omega
/- Which letter a byte is. -/
theorem letter_cases (c : UInt8) : ((c.toNat : Int) = 63 ∧ isL c = true ∧ numL c = -1) ∨ ((c.toNat : Int) = 110 ∧ isL c = true ∧ numL c = 0) ∨ ((c.toNat : Int) = 121 ∧ isL c = true ∧ numL c = 1) ∨ (¬ (c.toNat : Int) = 63 ∧ ¬ (c.toNat : Int) = 110 ∧ ¬ (c.toNat : Int) = 121 ∧ isL c = false) := by
  by_cases h1 : (c.toNat : Int) = 63
  · have := u8_of (n := 63) (by omega) h1
    exact .inl ⟨h1, by simp [isL, this], by simp [numL, this]⟩
  by_cases h2 : (c.toNat : Int) = 110
  · have := u8_of (n := 110) (by omega) h2
    exact .inr (.inl ⟨h2, by simp [isL, this], by simp [numL, this]⟩)
  by_cases h3 : (c.toNat : Int) = 121
  · have := u8_of (n := 121) (by omega) h3
    exact .inr (.inr (.inl ⟨h3, by simp [isL, this], by simp [numL, this]⟩))
  refine .inr (.inr (.inr ⟨h1, h2, h3, ?_⟩))
  have n1 : ¬ c = 63 := fun e => h1 (by rw [e]; rfl)
  have n2 : ¬ c = 110 := fun e => h2 (by rw [e]; rfl)
  have n3 : ¬ c = 121 := fun e => h3 (by rw [e]; rfl)
  simp [isL, n1, n2, n3]
end Go.Proofs.YtmpoffepoafblaaGreat

/- Vectors: the program's VectorRead. -/
namespace Go.Proofs.YtmpoffepoafblaaGreat
open Go.RowKit
theorem FillI.block {w w' : World} {g n k : Nat} {l : List Int} (h : FillI w g n l k) (hb : w'.heap[g]? = w.heap[g]?) (hs : w.heap.size ≤ w'.heap.size) : FillI w' g n l k :=
  ⟨Nat.lt_of_lt_of_le h.1 hs, fun j hj => by rw [World.cell?_of_block (w := w) hb, World.frozen?_of_block (w := w) hb]; exact h.2.1 j hj, fun i hi => by rw [World.cell?_of_block (w := w) hb]; exact h.2.2 i hi⟩
theorem fill_new (w : World) (l : List Int) : FillI (w.alloc (cell4 0 0 0 0)) w.heap.size 4 l 0 := by
  obtain ⟨h0, h1, h2, h3, hf⟩ := (V4.new w 0 0 0 0).cells
  refine ⟨(V4.new w 0 0 0 0).lt, fun j hj => ⟨?_, hf j⟩, fun i hi => by omega⟩
  have hj4 : j = 0 ∨ j = 1 ∨ j = 2 ∨ j = 3 := by omega
  rcases hj4 with rfl | rfl | rfl | rfl
  · rw [h0]; rfl
  · rw [h1]; rfl
  · rw [h2]; rfl
  · rw [h3]; rfl
abbrev strB (l : List UInt8) : ByteArray := ⟨l.toArray⟩
theorem strB_size (l : List UInt8) : (strB l).size = l.length := by simp [ByteArray.size]
theorem strB_at {l : List UInt8} {k : Nat} (h : k < l.length) : (strB l)[k]'(by rw [strB_size]; exact h) = By.intAt l k := by
  show (l.toArray)[k]'(by simpa using h) = _
  simp [By.intAt, h]
theorem bad_rune {l : List UInt8} {k : Nat} (h : k < l.length) (hc : isL (By.intAt l k) = false) : ¬ ((Utf8.decode (strB l) k).1 : Int) = 63 ∧ ¬ ((Utf8.decode (strB l) k).1 : Int) = 110 ∧ ¬ ((Utf8.decode (strB l) k).1 : Int) = 121 := by
  have hk : k < (strB l).size := by rw [strB_size]; exact h
  by_cases ha : ((strB l)[k]'hk).toNat < 128
  · rw [decode_ascii (strB l) k hk ha, strB_at h]
    rcases letter_cases (By.intAt l k) with ⟨_, h1, _⟩ | ⟨_, h1, _⟩ | ⟨_, h1, _⟩ | ⟨n1, n2, n3, _⟩
    · rw [hc] at h1; cases h1
    · rw [hc] at h1; cases h1
    · rw [hc] at h1; cases h1
    · exact ⟨n1, n2, n3⟩
  · have := (decode_high (strB l) k hk (by omega)).1
    omega
theorem numOfR_no {z : Int} (h : ¬ z = 63 ∧ ¬ z = 110 ∧ ¬ z = 121) : numOfR z = .tuple #[.int .i64 0, .bool false] := by simp [numOfR, h.1, h.2.1, h.2.2]
theorem next_letter (w : World) (g : Nat) (l : List UInt8) (k : Nat) (hk : k < l.length) (hg : w.heap[g]? = some (.stringIter (strB l) k)) {z : Int} (hz : ((By.intAt l k).toNat : Int) = z) (hz2 : z < 128) (ty : TypeId) :
    (Instr.next (.pointer (some ⟨g, 0, none⟩)) true ty).run Tryz.prog w = .ok (.tuple #[.bool true, .int .i64 k, .int .i32 z]) (w.iterAt g (strB l) (k + 1)) := by
  have h1 : k < (strB l).size := by rw [strB_size]; exact hk
  have h2 := strB_at hk
  have := Lib.run_next_ascii_at (P := Tryz.prog) w g (strB l) k ty hg h1 (by rw [h2]; omega)
  rw [this, h2, hz]

set_option maxRecDepth 100000 in
set_option maxHeartbeats 4000000 in
theorem iRead_four (b off cap : Nat) (l : List UInt8) (w : World) (hl : l.length = 4) (hI : By.IntsAt w b off l) :
    Calls Tryz.prog 32 #[.slice (some ⟨b, off, none⟩) 4 cap] w fun e w' => ∃ u, e = .returned (.tuple #[u, .bool (readOk l)]) ∧ OwnI w.heap.size w' u (readV l) ∧ Below w.heap.size w w' := by
  have HL : Hid (l.length = 4) := hl
  have hcv : (convert 46 9 (.slice (some ⟨b, off, none⟩) 4 cap)).run Tryz.prog (w.alloc (cell4 0 0 0 0)) = .ok (.string (strB l)) (w.alloc (cell4 0 0 0 0)) := by
    have := run_convert_bytes_back (P := Tryz.prog) (w.alloc (cell4 0 0 0 0)) 46 9 5 ⟨b, off, none⟩ cap l Tryz.underlying46 Tryz.underlying5 Tryz.underlying9 (fun j hj => by
      rw [add_none, ((Below.refl w.heap.size w).alloc (Nat.le_refl _) _).cell (p := ⟨b, off + j, none⟩) hI.1, hI.2 j hj]
      simp [By.intAt, hj])
    rwa [hl] at this
  have hsz : (strB l).size = 4 := by rw [strB_size, hl]
  have HSZ : Hid ((strB l).size = 4) := hsz
  have HML : Hid ((l.map numL).length = 4) := by show _ = _; simp [hl]
  clear hl hI hsz
  go_enter Tryz.func32, Tryz.ntmps32
  go_wp2
  go_loopw [] (fun wr => ∃ k : Nat, k ≤ 4 ∧ Below w.heap.size w wr ∧ wr.heap[w.heap.size + 1]? = some (.stringIter (strB l) k) ∧ FillI wr w.heap.size 4 (l.map numL) k ∧ ∀ j, j < k → isL (By.intAt l j) = true) (fun wr => 4 - wr.iterPos (w.heap.size + 1))
  case atStart =>
    refine ⟨0, by omega, ((Below.refl _ w).alloc (Nat.le_refl _) _).alloc (by simp) _, ?_, (fill_new w _).block ?_ ?_, fun j hj => by omega⟩
    · have := World.iter_heap (w.alloc (cell4 0 0 0 0)) (strB l) 0
      rwa [show (w.alloc (cell4 0 0 0 0)).heap.size = w.heap.size + 1 by simp] at this
    · exact ((Below.refl (w.heap.size + 1) (w.alloc (cell4 0 0 0 0))).alloc (by simp) _).block _ (by omega)
    · exact ((Below.refl (w.heap.size + 1) (w.alloc (cell4 0 0 0 0))).alloc (by simp) _).size
  case round =>
    clear hcv
    obtain ⟨k, hk, hb, hit, hf, hall⟩ := hrel
    have HB : Hid (Below w.heap.size w wr) := hb
    have HT : Hid (wr.heap[w.heap.size + 1]? = some (.stringIter (strB l) k)) := hit
    have HF : Hid (FillI wr w.heap.size 4 (l.map numL) k) := hf
    have HA : Hid (∀ j, j < k → isL (By.intAt l j) = true) := hall
    have hsw : w.heap.size + 1 < wr.heap.size := (Array.getElem?_eq_some_iff.1 hit).1
    clear hb hit hf hall
    by_cases hlt : k < 4
    · have hki : (k : Int) < 4 := by omega
      have hkl : k < l.length := by rw [HL.out]; exact hlt
      have HKL : Hid (k < l.length) := hkl
      have HN : Hid (intAt (l.map numL) k = numL (By.intAt l k)) := by show _ = _; simp [intAt, By.intAt, hkl]
      have hL := letter_cases (By.intAt l k)
      clear hkl
      rcases hL with ⟨hz, hc1, hc2⟩ | ⟨hz, hc1, hc2⟩ | ⟨hz, hc1, hc2⟩ | ⟨_, _, _, hc⟩
      · have hnx : ∀ ty, (Instr.next (.pointer (some ⟨w.heap.size + 1, 0, none⟩)) true ty).run Tryz.prog wr = .ok (.tuple #[.bool true, .int .i64 k, .int .i32 63]) (wr.iterAt (w.heap.size + 1) (strB l) (k + 1)) := fun ty => next_letter wr _ l k HKL.out HT.out hz (by omega) ty
        have HB2 : Hid (Below w.heap.size w (wr.iterAt (w.heap.size + 1) (strB l) (k + 1))) := Lib.below_iterAt HB.out (by omega) _ _
        have HT2 : Hid ((wr.iterAt (w.heap.size + 1) (strB l) (k + 1)).heap[w.heap.size + 1]? = some (.stringIter (strB l) (k + 1))) := Lib.iterAt_heap _ _ _ _ _ HT.out
        have HF2 : Hid (FillI (wr.iterAt (w.heap.size + 1) (strB l) (k + 1)) w.heap.size 4 (l.map numL) k) := HF.out.block (Lib.iterAt_other _ _ _ _ _ (by omega)) (by rw [Lib.iterAt_size]; exact Nat.le_refl _)
        rw [hc2] at HN
        have HC1 : Hid (isL (By.intAt l k) = true) := hc1
        clear hz hc1 hc2
        have hQ : numOfR 63 = .tuple #[.int .i64 (-1), .bool true] := by simp [numOfR]
        go_wp2_with fail
        refine (numberOf_any _ _).mono ?_
        rintro e w2 ⟨rfl, hb2⟩
        rw [hQ]
        have HB3 : Hid (Below w.heap.size w w2) := HB2.out.trans (hb2.mono HB2.out.size)
        have hs2 : w.heap.size + 1 < (wr.iterAt (w.heap.size + 1) (strB l) (k + 1)).heap.size := by rw [Lib.iterAt_size]; exact hsw
        have HT3 : Hid (w2.heap[w.heap.size + 1]? = some (.stringIter (strB l) (k + 1))) := (hb2.block _ hs2).trans HT2.out
        have HF3 : Hid (FillI w2 w.heap.size 4 (l.map numL) k) := HF2.out.block (hb2.block _ (by omega)) hb2.size
        obtain ⟨v, hv⟩ := Option.isSome_iff_exists.1 (HF3.out.2.1 k hlt).1
        have hfz := (HF3.out.2.1 k hlt).2
        have HP : Hid (FillI (w2.setCell ⟨w.heap.size, k, none⟩ (.int .i64 (-1))) w.heap.size 4 (l.map numL) (k + 1)) := by have := HF3.out.put hlt; rw [HN.out] at this; exact this
        clear hb2 hs2 hQ hnx HB2 HT2 HF2
        go_wp2
        go_roundw
        case rel => exact ⟨k + 1, by omega, HB3.out.setCell (p := ⟨w.heap.size, k, none⟩) (Nat.le_refl _) _, (Below.heap_setCell _ _ _ _ (by simp)).trans HT3.out, HP.out, fun j hj => by
          by_cases e : j < k
          · exact HA.out j e
          · rw [show j = k by omega]; exact HC1.out⟩
        case measure =>
          rw [iterPos_of HT.out, iterPos_of ((Below.heap_setCell w2 ⟨w.heap.size, k, none⟩ _ (w.heap.size + 1) (by simp)).trans HT3.out)]
          omega
      · have hnx : ∀ ty, (Instr.next (.pointer (some ⟨w.heap.size + 1, 0, none⟩)) true ty).run Tryz.prog wr = .ok (.tuple #[.bool true, .int .i64 k, .int .i32 110]) (wr.iterAt (w.heap.size + 1) (strB l) (k + 1)) := fun ty => next_letter wr _ l k HKL.out HT.out hz (by omega) ty
        have HB2 : Hid (Below w.heap.size w (wr.iterAt (w.heap.size + 1) (strB l) (k + 1))) := Lib.below_iterAt HB.out (by omega) _ _
        have HT2 : Hid ((wr.iterAt (w.heap.size + 1) (strB l) (k + 1)).heap[w.heap.size + 1]? = some (.stringIter (strB l) (k + 1))) := Lib.iterAt_heap _ _ _ _ _ HT.out
        have HF2 : Hid (FillI (wr.iterAt (w.heap.size + 1) (strB l) (k + 1)) w.heap.size 4 (l.map numL) k) := HF.out.block (Lib.iterAt_other _ _ _ _ _ (by omega)) (by rw [Lib.iterAt_size]; exact Nat.le_refl _)
        rw [hc2] at HN
        have HC1 : Hid (isL (By.intAt l k) = true) := hc1
        clear hz hc1 hc2
        have hQ : numOfR 110 = .tuple #[.int .i64 (0), .bool true] := by simp [numOfR]
        go_wp2_with fail
        refine (numberOf_any _ _).mono ?_
        rintro e w2 ⟨rfl, hb2⟩
        rw [hQ]
        have HB3 : Hid (Below w.heap.size w w2) := HB2.out.trans (hb2.mono HB2.out.size)
        have hs2 : w.heap.size + 1 < (wr.iterAt (w.heap.size + 1) (strB l) (k + 1)).heap.size := by rw [Lib.iterAt_size]; exact hsw
        have HT3 : Hid (w2.heap[w.heap.size + 1]? = some (.stringIter (strB l) (k + 1))) := (hb2.block _ hs2).trans HT2.out
        have HF3 : Hid (FillI w2 w.heap.size 4 (l.map numL) k) := HF2.out.block (hb2.block _ (by omega)) hb2.size
        obtain ⟨v, hv⟩ := Option.isSome_iff_exists.1 (HF3.out.2.1 k hlt).1
        have hfz := (HF3.out.2.1 k hlt).2
        have HP : Hid (FillI (w2.setCell ⟨w.heap.size, k, none⟩ (.int .i64 (0))) w.heap.size 4 (l.map numL) (k + 1)) := by have := HF3.out.put hlt; rw [HN.out] at this; exact this
        clear hb2 hs2 hQ hnx HB2 HT2 HF2
        go_wp2
        go_roundw
        case rel => exact ⟨k + 1, by omega, HB3.out.setCell (p := ⟨w.heap.size, k, none⟩) (Nat.le_refl _) _, (Below.heap_setCell _ _ _ _ (by simp)).trans HT3.out, HP.out, fun j hj => by
          by_cases e : j < k
          · exact HA.out j e
          · rw [show j = k by omega]; exact HC1.out⟩
        case measure =>
          rw [iterPos_of HT.out, iterPos_of ((Below.heap_setCell w2 ⟨w.heap.size, k, none⟩ _ (w.heap.size + 1) (by simp)).trans HT3.out)]
          omega
      · have hnx : ∀ ty, (Instr.next (.pointer (some ⟨w.heap.size + 1, 0, none⟩)) true ty).run Tryz.prog wr = .ok (.tuple #[.bool true, .int .i64 k, .int .i32 121]) (wr.iterAt (w.heap.size + 1) (strB l) (k + 1)) := fun ty => next_letter wr _ l k HKL.out HT.out hz (by omega) ty
        have HB2 : Hid (Below w.heap.size w (wr.iterAt (w.heap.size + 1) (strB l) (k + 1))) := Lib.below_iterAt HB.out (by omega) _ _
        have HT2 : Hid ((wr.iterAt (w.heap.size + 1) (strB l) (k + 1)).heap[w.heap.size + 1]? = some (.stringIter (strB l) (k + 1))) := Lib.iterAt_heap _ _ _ _ _ HT.out
        have HF2 : Hid (FillI (wr.iterAt (w.heap.size + 1) (strB l) (k + 1)) w.heap.size 4 (l.map numL) k) := HF.out.block (Lib.iterAt_other _ _ _ _ _ (by omega)) (by rw [Lib.iterAt_size]; exact Nat.le_refl _)
        rw [hc2] at HN
        have HC1 : Hid (isL (By.intAt l k) = true) := hc1
        clear hz hc1 hc2
        have hQ : numOfR 121 = .tuple #[.int .i64 (1), .bool true] := by simp [numOfR]
        go_wp2_with fail
        refine (numberOf_any _ _).mono ?_
        rintro e w2 ⟨rfl, hb2⟩
        rw [hQ]
        have HB3 : Hid (Below w.heap.size w w2) := HB2.out.trans (hb2.mono HB2.out.size)
        have hs2 : w.heap.size + 1 < (wr.iterAt (w.heap.size + 1) (strB l) (k + 1)).heap.size := by rw [Lib.iterAt_size]; exact hsw
        have HT3 : Hid (w2.heap[w.heap.size + 1]? = some (.stringIter (strB l) (k + 1))) := (hb2.block _ hs2).trans HT2.out
        have HF3 : Hid (FillI w2 w.heap.size 4 (l.map numL) k) := HF2.out.block (hb2.block _ (by omega)) hb2.size
        obtain ⟨v, hv⟩ := Option.isSome_iff_exists.1 (HF3.out.2.1 k hlt).1
        have hfz := (HF3.out.2.1 k hlt).2
        have HP : Hid (FillI (w2.setCell ⟨w.heap.size, k, none⟩ (.int .i64 (1))) w.heap.size 4 (l.map numL) (k + 1)) := by have := HF3.out.put hlt; rw [HN.out] at this; exact this
        clear hb2 hs2 hQ hnx HB2 HT2 HF2
        go_wp2
        go_roundw
        case rel => exact ⟨k + 1, by omega, HB3.out.setCell (p := ⟨w.heap.size, k, none⟩) (Nat.le_refl _) _, (Below.heap_setCell _ _ _ _ (by simp)).trans HT3.out, HP.out, fun j hj => by
          by_cases e : j < k
          · exact HA.out j e
          · rw [show j = k by omega]; exact HC1.out⟩
        case measure =>
          rw [iterPos_of HT.out, iterPos_of ((Below.heap_setCell w2 ⟨w.heap.size, k, none⟩ _ (w.heap.size + 1) (by simp)).trans HT3.out)]
          omega
      · have hnx : ∀ ty, (Instr.next (.pointer (some ⟨w.heap.size + 1, 0, none⟩)) true ty).run Tryz.prog wr = .ok (.tuple #[.bool true, .int .i64 k, .int .i32 (Utf8.decode (strB l) k).1]) (wr.iterAt (w.heap.size + 1) (strB l) (k + (Utf8.decode (strB l) k).2)) := fun ty => Lib.run_next_any_at (P := Tryz.prog) wr _ (strB l) k ty HT.out (by rw [HSZ.out]; exact hlt)
        have HQ : Hid (numOfR ((Utf8.decode (strB l) k).1 : Int) = .tuple #[.int .i64 0, .bool false]) := numOfR_no (bad_rune HKL.out hc)
        have HR : Hid (readOk l = false) := read_no HKL.out hc
        have HB2 : Hid (Below w.heap.size w (wr.iterAt (w.heap.size + 1) (strB l) (k + (Utf8.decode (strB l) k).2))) := Lib.below_iterAt HB.out (by omega) _ _
        clear hc
        generalize ((Utf8.decode (strB l) k).1 : Int) = z at hnx HQ
        generalize (Utf8.decode (strB l) k).2 = n at hnx HB2
        go_wp2_with fail
        refine (numberOf_any _ _).mono ?_
        rintro e w2 ⟨rfl, hb2⟩
        rw [HQ.out]
        have HB3 : Hid (Below w.heap.size w w2) := HB2.out.trans (hb2.mono HB2.out.size)
        clear hb2 hnx
        go_wp2
        go_ret2
        refine ⟨.slice none 0 0, by rw [HR.out]; rfl, ?_, HB3.out⟩
        rw [readV, HR.out]; exact OwnI.nil _ _
    · have hk4 : k = 4 := by omega
      subst hk4
      have hnx : ∀ ty, (Instr.next (.pointer (some ⟨w.heap.size + 1, 0, none⟩)) true ty).run Tryz.prog wr = .ok (.tuple #[.bool false]) wr := fun ty => Lib.run_next_end_at (P := Tryz.prog) wr _ (strB l) 4 ty HT.out (by rw [HSZ.out]; omega)
      have HQ : Hid (readOk l = true) := by
        show readOk l = true
        have := read_all (l := l) (fun j hj => HA.out j (by rw [HL.out] at hj; exact hj))
        rw [this]; simp [HL.out]
      have c0 := HF.out.2.2 0 (by omega)
      have c1 := HF.out.2.2 1 (by omega)
      have c2 := HF.out.2.2 2 (by omega)
      have c3 := HF.out.2.2 3 (by omega)
      have HM : Hid (l.map numL = [intAt (l.map numL) 0, intAt (l.map numL) 1, intAt (l.map numL) 2, intAt (l.map numL) 3]) := by
        have h4 := HML.out
        generalize l.map numL = m at h4
        match m, h4 with
        | [a, b, c, d], _ => rfl
      generalize intAt (l.map numL) 0 = x0 at c0 HM
      generalize intAt (l.map numL) 1 = x1 at c1 HM
      generalize intAt (l.map numL) 2 = x2 at c2 HM
      generalize intAt (l.map numL) 3 = x3 at c3 HM
      have HN : Hid (∀ W, Calls Tryz.prog 92 #[vec x0 x1 x2 x3] W fun e w' => ∃ x, e = .returned x ∧ OwnI W.heap.size w' x [x0, x1, x2, x3] ∧ Below W.heap.size W w') := fun W => numbers_any x0 x1 x2 x3 W
      go_wp2_with fail
      refine (HN.out _).mono ?_
      rintro e w2 ⟨x, rfl, ho, hb2⟩
      have HB2 : Hid (Below w.heap.size w w2) := HB.out.trans (hb2.mono HB.out.size)
      have HO : Hid (OwnI w.heap.size w2 x [x0, x1, x2, x3]) := ho.mono HB.out.size
      clear ho hb2 hnx c0 c1 c2 c3
      go_wp2
      go_ret2
      refine ⟨x, by rw [HQ.out]; rfl, ?_, HB2.out⟩
      rw [readV, HQ.out, if_pos rfl, HM.out]; exact HO.out

theorem read_len {l : List UInt8} (h : ¬ l.length = 4) : readOk l = false := by simp [readOk, h]
set_option maxHeartbeats 1000000 in
theorem iRead_any (x : Value) (l : List UInt8) (w : World) (hl : l.length ≤ 1048576) (h : By.IsI w x l) :
    Calls Tryz.prog 32 #[x] w fun e w' => ∃ u, e = .returned (.tuple #[u, .bool (readOk l)]) ∧ OwnI w.heap.size w' u (readV l) ∧ Below w.heap.size w w' := by
  obtain ⟨a, cap, rfl, h1, h2, h⟩ := h
  by_cases h4 : l.length = 4
  · obtain ⟨b, off, rfl, hI⟩ := h.resolve_left (by rintro rfl; simp at h4)
    have := iRead_four b off cap l w h4 hI
    rwa [← h4] at this
  · have h5 : ¬ (l.length : Int) = 4 := by omega
    have h6 : ((l.length : Int) != 4) = true := by simp [h5]
    have HR : Hid (readOk l = false) := read_len h4
    clear h h1 h2 h4
    go_enter Tryz.func32, Tryz.ntmps32
    go_wp2
    go_ret2
    refine ⟨.slice none 0 0, by rw [HR.out]; rfl, ?_, Below.refl _ _⟩
    rw [readV, HR.out]; exact OwnI.nil _ _
end Go.Proofs.YtmpoffepoafblaaGreat

/- Vectors: the program's VectorText. -/
namespace Go.Proofs.YtmpoffepoafblaaGreat
open Go.RowKit
theorem letB_u8 (z : Int) : ((letB z).toNat : Int) = if z = -1 then 63 else if z = 0 then 110 else 121 := by
  unfold letB; split
  · rfl
  · split <;> rfl
set_option maxRecDepth 100000 in
set_option maxHeartbeats 4000000 in
theorem text_any (a0 a1 a2 a3 : Int) (h0 : -1 ≤ a0 ∧ a0 ≤ 1) (h1 : -1 ≤ a1 ∧ a1 ≤ 1) (h2 : -1 ≤ a2 ∧ a2 ≤ 1) (h3 : -1 ≤ a3 ∧ a3 ≤ 1) (w : World) :
    Calls Tryz.prog 90 #[vec a0 a1 a2 a3] w fun e w' => ∃ v, e = .returned v ∧ By.OwnI w.heap.size w' v (textB [a0, a1, a2, a3]) ∧ Below w.heap.size w w' := by
  have c0 : a0 = -1 ∨ a0 = 0 ∨ a0 = 1 := by omega
  have c1 : a1 = -1 ∨ a1 = 0 ∨ a1 = 1 := by omega
  have c2 : a2 = -1 ∨ a2 = 0 ∨ a2 = 1 := by omega
  have c3 : a3 = -1 ∨ a3 = 0 ∨ a3 = 1 := by omega
  have C0 : Hid (a0 = -1 ∨ a0 = 0 ∨ a0 = 1) := c0
  have C1 : Hid (a1 = -1 ∨ a1 = 0 ∨ a1 = 1) := c1
  have C2 : Hid (a2 = -1 ∨ a2 = 0 ∨ a2 = 1) := c2
  have C3 : Hid (a3 = -1 ∨ a3 = 0 ∨ a3 = 1) := c3
  clear c0 c1 c2 c3 h0 h1 h2 h3
  obtain ⟨i0, hi, hz0, hz1, hz2⟩ := info_parts By.info5
  have j0 : ∀ w : World, (Instr.index 107 (.agg #[.int .i64 a0, .int .i64 a1, .int .i64 a2, .int .i64 a3]) (.int .i64 0)).run Tryz.prog w = .ok (.int .i64 a0) w := fun _ => by kernel_rfl
  have j1 : ∀ w : World, (Instr.index 107 (.agg #[.int .i64 a0, .int .i64 a1, .int .i64 a2, .int .i64 a3]) (.int .i64 1)).run Tryz.prog w = .ok (.int .i64 a1) w := fun _ => by kernel_rfl
  have j2 : ∀ w : World, (Instr.index 107 (.agg #[.int .i64 a0, .int .i64 a1, .int .i64 a2, .int .i64 a3]) (.int .i64 2)).run Tryz.prog w = .ok (.int .i64 a2) w := fun _ => by kernel_rfl
  have j3 : ∀ w : World, (Instr.index 107 (.agg #[.int .i64 a0, .int .i64 a1, .int .i64 a2, .int .i64 a3]) (.int .i64 3)).run Tryz.prog w = .ok (.int .i64 a3) w := fun _ => by kernel_rfl
  have s0 : ∀ w : World, (Instr.index 9 (.string ⟨#[63, 110, 121]⟩) (.int .i64 0)).run Tryz.prog w = .ok (.int .u8 63) w := fun _ => by kernel_rfl
  have s1 : ∀ w : World, (Instr.index 9 (.string ⟨#[63, 110, 121]⟩) (.int .i64 1)).run Tryz.prog w = .ok (.int .u8 110) w := fun _ => by kernel_rfl
  have s2 : ∀ w : World, (Instr.index 9 (.string ⟨#[63, 110, 121]⟩) (.int .i64 2)).run Tryz.prog w = .ok (.int .u8 121) w := fun _ => by kernel_rfl
  have HB0 : Hid (Below w.heap.size w (w.alloc (cell4 a0 a1 a2 a3))) := (Below.refl _ w).alloc (Nat.le_refl _) _
  have HV0 : Hid (V4 (w.alloc (cell4 a0 a1 a2 a3)) w.heap.size a0 a1 a2 a3) := V4.new _ _ _ _ _
  have hsz : (w.alloc (cell4 a0 a1 a2 a3)).heap.size = w.heap.size + 1 := by simp
  go_enter Tryz.func90, Tryz.ntmps90
  go_wp2_with (at_make; refine wpList_make_full _ rfl _ _ 46 rfl (w.heap.size + 1) 5 i0 _ 1 Tryz.underlying46 hi hz0 hz1 .i64 .i64 4 4 4 rfl rfl rfl rfl (by rw [hz2]; omega) (by unfold maxLen; omega) (by simp) ?_; intro w1 hown hgrow; have hbx := (Below.refl (w.heap.size + 1) _).grown hgrow (by simp) (fun k e => by cases e); have HB1 : Hid (Below w.heap.size w w1) := HB0.out.trans (hbx.mono (by omega)); have HF1 : Hid (By.FillI w1 (w.heap.size + 1) 4 (textB [a0, a1, a2, a3]) 0) := By.FillI.made (z := (madeCells (Value.int IntKind.u8 0).cells (4 * 1)).toList) (by simpa using hown); obtain ⟨v0, v1, v2, v3, _⟩ := (HV0.out.keep hbx (by omega)).cells; clear hown hgrow hbx)
  clear v0 v1 v2 v3
  go_loopw [8] (fun i wr => ∃ k : Nat, k ≤ 4 ∧ i = .int .i64 k ∧ Below w.heap.size w wr ∧ By.FillI wr (w.heap.size + 1) 4 (textB [a0, a1, a2, a3]) k) (fun i _ => 4 - (intOf i).toNat)
  case atStart => exact ⟨0, by omega, rfl, HB1.out, HF1.out⟩
  case round =>
    clear HB1 HF1 HB0 HV0 hsz hi hz0 hz1 hz2
    obtain ⟨k, hk, rfl, hB, hR⟩ := hrel
    have HB : Hid (Below w.heap.size w wr) := hB
    have HR : Hid (By.FillI wr (w.heap.size + 1) 4 (textB [a0, a1, a2, a3]) k) := hR
    have hk4 : k = 0 ∨ k = 1 ∨ k = 2 ∨ k = 3 ∨ k = 4 := by omega
    clear hB hR hk
    rcases hk4 with rfl | rfl | rfl | rfl | rfl
    · obtain ⟨v, hv⟩ := Option.isSome_iff_exists.1 (HR.out.2.1 0 (by omega)).1
      have hf := (HR.out.2.1 0 (by omega)).2
      have HP : Hid (By.FillI (wr.setCell ⟨w.heap.size + 1, 0, none⟩ (.int .u8 ((letB a0).toNat : Int))) (w.heap.size + 1) 4 (textB [a0, a1, a2, a3]) 1) := HR.out.put (k := 0) (by omega)
      rw [letB_u8] at HP
      rcases C0.out with rfl | rfl | rfl
      · clear C0 C1 C2 C3
        go_wp2
        go_roundw
        case rel => exact ⟨1, by omega, rfl, HB.out.setCell (p := ⟨w.heap.size + 1, 0, none⟩) (by simp) _, HP.out⟩
        case measure => simp [intOf]
      · clear C0 C1 C2 C3
        go_wp2
        go_roundw
        case rel => exact ⟨1, by omega, rfl, HB.out.setCell (p := ⟨w.heap.size + 1, 0, none⟩) (by simp) _, HP.out⟩
        case measure => simp [intOf]
      · clear C0 C1 C2 C3
        go_wp2
        go_roundw
        case rel => exact ⟨1, by omega, rfl, HB.out.setCell (p := ⟨w.heap.size + 1, 0, none⟩) (by simp) _, HP.out⟩
        case measure => simp [intOf]
    · obtain ⟨v, hv⟩ := Option.isSome_iff_exists.1 (HR.out.2.1 1 (by omega)).1
      have hf := (HR.out.2.1 1 (by omega)).2
      have HP : Hid (By.FillI (wr.setCell ⟨w.heap.size + 1, 1, none⟩ (.int .u8 ((letB a1).toNat : Int))) (w.heap.size + 1) 4 (textB [a0, a1, a2, a3]) 2) := HR.out.put (k := 1) (by omega)
      rw [letB_u8] at HP
      rcases C1.out with rfl | rfl | rfl
      · clear C0 C1 C2 C3
        go_wp2
        go_roundw
        case rel => exact ⟨2, by omega, rfl, HB.out.setCell (p := ⟨w.heap.size + 1, 1, none⟩) (by simp) _, HP.out⟩
        case measure => simp [intOf]
      · clear C0 C1 C2 C3
        go_wp2
        go_roundw
        case rel => exact ⟨2, by omega, rfl, HB.out.setCell (p := ⟨w.heap.size + 1, 1, none⟩) (by simp) _, HP.out⟩
        case measure => simp [intOf]
      · clear C0 C1 C2 C3
        go_wp2
        go_roundw
        case rel => exact ⟨2, by omega, rfl, HB.out.setCell (p := ⟨w.heap.size + 1, 1, none⟩) (by simp) _, HP.out⟩
        case measure => simp [intOf]
    · obtain ⟨v, hv⟩ := Option.isSome_iff_exists.1 (HR.out.2.1 2 (by omega)).1
      have hf := (HR.out.2.1 2 (by omega)).2
      have HP : Hid (By.FillI (wr.setCell ⟨w.heap.size + 1, 2, none⟩ (.int .u8 ((letB a2).toNat : Int))) (w.heap.size + 1) 4 (textB [a0, a1, a2, a3]) 3) := HR.out.put (k := 2) (by omega)
      rw [letB_u8] at HP
      rcases C2.out with rfl | rfl | rfl
      · clear C0 C1 C2 C3
        go_wp2
        go_roundw
        case rel => exact ⟨3, by omega, rfl, HB.out.setCell (p := ⟨w.heap.size + 1, 2, none⟩) (by simp) _, HP.out⟩
        case measure => simp [intOf]
      · clear C0 C1 C2 C3
        go_wp2
        go_roundw
        case rel => exact ⟨3, by omega, rfl, HB.out.setCell (p := ⟨w.heap.size + 1, 2, none⟩) (by simp) _, HP.out⟩
        case measure => simp [intOf]
      · clear C0 C1 C2 C3
        go_wp2
        go_roundw
        case rel => exact ⟨3, by omega, rfl, HB.out.setCell (p := ⟨w.heap.size + 1, 2, none⟩) (by simp) _, HP.out⟩
        case measure => simp [intOf]
    · obtain ⟨v, hv⟩ := Option.isSome_iff_exists.1 (HR.out.2.1 3 (by omega)).1
      have hf := (HR.out.2.1 3 (by omega)).2
      have HP : Hid (By.FillI (wr.setCell ⟨w.heap.size + 1, 3, none⟩ (.int .u8 ((letB a3).toNat : Int))) (w.heap.size + 1) 4 (textB [a0, a1, a2, a3]) 4) := HR.out.put (k := 3) (by omega)
      rw [letB_u8] at HP
      rcases C3.out with rfl | rfl | rfl
      · clear C0 C1 C2 C3
        go_wp2
        go_roundw
        case rel => exact ⟨4, by omega, rfl, HB.out.setCell (p := ⟨w.heap.size + 1, 3, none⟩) (by simp) _, HP.out⟩
        case measure => simp [intOf]
      · clear C0 C1 C2 C3
        go_wp2
        go_roundw
        case rel => exact ⟨4, by omega, rfl, HB.out.setCell (p := ⟨w.heap.size + 1, 3, none⟩) (by simp) _, HP.out⟩
        case measure => simp [intOf]
      · clear C0 C1 C2 C3
        go_wp2
        go_roundw
        case rel => exact ⟨4, by omega, rfl, HB.out.setCell (p := ⟨w.heap.size + 1, 3, none⟩) (by simp) _, HP.out⟩
        case measure => simp [intOf]
    · go_wp2
      go_ret
      exact ⟨_, rfl, (By.FillI.row (l := textB [a0, a1, a2, a3]) HR.out).own (by simp [textB, maxLen]) (by omega), HB.out⟩

set_option maxHeartbeats 1000000 in
theorem iText_any (x : Value) (l : List Int) (w : World) (hl : l.length ≤ 4611686018427387904) (h : IsI w x l) :
    Calls Tryz.prog 29 #[x] w fun e w' => ∃ v, e = .returned v ∧ By.OwnI w.heap.size w' v (if vok l = true then textB l else []) ∧ Below w.heap.size w w' := by
  have H := of_any x l w hl h
  cases hv : vok l with
  | false =>
    rw [hv, vec_no hv] at H
    go_enter Tryz.func29, Tryz.ntmps29
    go_wp2_with fail
    refine H.mono ?_
    rintro e w1 ⟨rfl, hb1⟩
    go_wp2
    go_ret
    exact ⟨_, rfl, By.OwnI.nil _ _, hb1.alloc hb1.size _⟩
  | true =>
    rw [hv] at H
    obtain ⟨a0, a1, a2, a3, rfl, g0, g1, g2, g3⟩ := vok_four hv
    rw [show vecOf [a0, a1, a2, a3] = vec a0 a1 a2 a3 by simp [vecOf, hv, intAt]] at H
    have M : Hid (∀ W, Calls Tryz.prog 90 #[vec a0 a1 a2 a3] W fun e w' => ∃ v, e = .returned v ∧ By.OwnI W.heap.size w' v (textB [a0, a1, a2, a3]) ∧ Below W.heap.size W w') := fun W => text_any a0 a1 a2 a3 g0 g1 g2 g3 W
    clear g0 g1 g2 g3 h
    go_enter Tryz.func29, Tryz.ntmps29
    go_wp2_with fail
    refine H.mono ?_
    rintro e w1 ⟨rfl, hb1⟩
    go_wp2_with fail
    refine (M.out _).mono ?_
    rintro e w2 ⟨v, rfl, ho, hb2⟩
    have hz := hb1.size
    go_wp2
    go_ret
    exact ⟨_, rfl, ho.mono (by simp; omega), (hb1.alloc hb1.size _).trans (hb2.mono (by simp; omega))⟩
end Go.Proofs.YtmpoffepoafblaaGreat

/- Drawn texts of vectors; laws.same of two alike. -/
namespace Go.Proofs.YtmpoffepoafblaaGreat
open Go.RowKit
set_option maxRecDepth 100000 in
set_option maxHeartbeats 2000000 in
theorem sameB_same (x y : Value) (l : List UInt8) (w : World) (hne : l ≠ []) (hx : By.IsI w x l) (hy : By.IsI w y l) :
    Calls Tryz.prog 35 #[x, y] w fun e w' => e = .returned (.bool true) ∧ Below w.heap.size w w' := by
  obtain ⟨a, cap, rfl, _, _, h⟩ := hx
  obtain ⟨a', cap', rfl, _, _, h'⟩ := hy
  obtain ⟨b, off, rfl, hI⟩ := h.resolve_left hne
  obtain ⟨b', off', rfl, hJ⟩ := h'.resolve_left hne
  have hcv : (convert 46 9 (.slice (some ⟨b, off, none⟩) l.length cap)).run Tryz.prog w = .ok (.string (strB l)) w :=
    run_convert_bytes_back (P := Tryz.prog) w 46 9 5 ⟨b, off, none⟩ cap l Tryz.underlying46 Tryz.underlying5 Tryz.underlying9 (fun j hj => by
      rw [add_none, hI.2 j hj]
      simp [By.intAt, hj])
  have hcw : (convert 46 9 (.slice (some ⟨b', off', none⟩) l.length cap')).run Tryz.prog w = .ok (.string (strB l)) w :=
    run_convert_bytes_back (P := Tryz.prog) w 46 9 5 ⟨b', off', none⟩ cap' l Tryz.underlying46 Tryz.underlying5 Tryz.underlying9 (fun j hj => by
      rw [add_none, hJ.2 j hj]
      simp [By.intAt, hj])
  generalize strB l = s at hcv hcw
  clear h h' hI hJ hne
  go_enter Tryz.func35, Tryz.ntmps35
  go_wp2
  go_ret
  exact ⟨by simp, Below.refl _ _⟩
theorem idx3 (x : Int) (h0 : 0 ≤ x) (h1 : x < 3) : ∃ z : UInt8, ∀ w : World, (Instr.index 9 (.string ⟨#[63, 110, 121]⟩) (.int .i64 x)).run Tryz.prog w = .ok (.int .u8 (z.toNat : Int)) w := by
  have h : x = 0 ∨ x = 1 ∨ x = 2 := by omega
  rcases h with rfl | rfl | rfl
  · exact ⟨63, fun _ => by kernel_rfl⟩
  · exact ⟨110, fun _ => by kernel_rfl⟩
  · exact ⟨121, fun _ => by kernel_rfl⟩
theorem idx4 (x : Int) (h0 : 0 ≤ x) (h1 : x < 4) : ∃ z : UInt8, ∀ w : World, (Instr.index 9 (.string ⟨#[63, 110, 121, 120]⟩) (.int .i64 x)).run Tryz.prog w = .ok (.int .u8 (z.toNat : Int)) w := by
  have h : x = 0 ∨ x = 1 ∨ x = 2 ∨ x = 3 := by omega
  rcases h with rfl | rfl | rfl | rfl
  · exact ⟨63, fun _ => by kernel_rfl⟩
  · exact ⟨110, fun _ => by kernel_rfl⟩
  · exact ⟨121, fun _ => by kernel_rfl⟩
  · exact ⟨120, fun _ => by kernel_rfl⟩
theorem bytes4 (w : World) (a b c d : UInt8) : By.IntsAt (w.alloc (.cells #[.int .u8 (a.toNat : Int), .int .u8 (b.toNat : Int), .int .u8 (c.toNat : Int), .int .u8 (d.toNat : Int)] 5)) w.heap.size 0 [a, b, c, d] := by
  refine ⟨by simp, fun i hi => ?_⟩
  have h4 : i = 0 ∨ i = 1 ∨ i = 2 ∨ i = 3 := by simp at hi; omega
  rcases h4 with rfl | rfl | rfl | rfl <;> simp [By.intAt]
set_option maxRecDepth 100000 in
set_option maxHeartbeats 4000000 in
theorem drawRead_any (a : Option Addr) (n cap : Nat) (w : World) (hn : n ≤ 281474976710656) (hC : CodeIn w w.heap.size a n) :
    Calls Tryz.prog 34 #[.slice a n cap] w fun e w' => ∃ (v : Value) (l : List UInt8), e = .returned v ∧ l.length ≤ 4 ∧ By.IsI w' v l ∧ Below w.heap.size w w' := by
  have HC : Hid (CodeIn w w.heap.size a n) := hC
  clear hC
  go_enter Tryz.func34, Tryz.ntmps34
  go_wp2_with fail
  refine (new_any a n cap _ hn HC.out).mono ?_
  rintro e w1 ⟨c, rfl, hcw, hC1, hB1⟩
  have HB1 : Hid (Below w.heap.size w w1) := hB1
  have hc1 : c < w1.heap.size := hC1.lt
  have HC1d : Hid (Cur w1.drew c ∧ Turns (fun k => k = c) w1 w1.drew) := ⟨hC1.below ((Below.refl _ w1).drew) hC1.lt, (Turns.refl _ w1).drew⟩
  clear hC1 hB1 HC
  go_wp2_with fail
  refine wp_region_held_drew (S := fun _ => True) (by kernel_rfl) trivial (fun hHeld => ?_)
  refine wpAnyH_take (i := 0) (oi := { dst := some 7, op := Op.move (Operand.tmp 3), type := 124, pos := _, after := _, guard := none }) (v := .pointer (some ⟨c, 0, none⟩)) rfl (by kernel_rfl) (by kernel_rfl) (by kernel_rfl) (fun _ _ _ h => h) (Or.inl ⟨by rfl, ?_⟩) (by assumption) ?_
  · intro wX hSw
    try dsimp only at hSw
    go_simp
  try simp only [Act.put, List.setIfInBounds_toArray, List.set_cons_zero, List.set_cons_succ]
  refine wpAnyH_take (i := 3) (oi := { dst := some 10, op := Op.move (Operand.tmp 3), type := 124, pos := _, after := _, guard := none }) (v := .pointer (some ⟨c, 0, none⟩)) rfl (by kernel_rfl) (by kernel_rfl) (by kernel_rfl) (fun _ _ _ h => h) (Or.inl ⟨by rfl, ?_⟩) (by assumption) ?_
  · intro wX hSw
    try dsimp only at hSw
    go_simp
  try simp only [Act.put, List.setIfInBounds_toArray, List.set_cons_zero, List.set_cons_succ]
  refine wpAnyH_take (i := 6) (oi := { dst := some 13, op := Op.move (Operand.tmp 3), type := 124, pos := _, after := _, guard := none }) (v := .pointer (some ⟨c, 0, none⟩)) rfl (by kernel_rfl) (by kernel_rfl) (by kernel_rfl) (fun _ _ _ h => h) (Or.inl ⟨by rfl, ?_⟩) (by assumption) ?_
  · intro wX hSw
    try dsimp only at hSw
    go_simp
  try simp only [Act.put, List.setIfInBounds_toArray, List.set_cons_zero, List.set_cons_succ]
  refine wpAnyH_take (i := 9) (oi := { dst := some 16, op := Op.move (Operand.tmp 3), type := 124, pos := _, after := _, guard := none }) (v := .pointer (some ⟨c, 0, none⟩)) rfl (by kernel_rfl) (by kernel_rfl) (by kernel_rfl) (fun _ _ _ h => h) (Or.inl ⟨by rfl, ?_⟩) (by assumption) ?_
  · intro wX hSw
    try dsimp only at hSw
    go_simp
  try simp only [Act.put, List.setIfInBounds_toArray, List.set_cons_zero, List.set_cons_succ]
  refine wpAnyH_ready (rs := [1]) (by kernel_rfl) (by simp) ?_
  refine AllReadyH.cons (o := { dst := some 8, op := Op.call { callee := Callee.value (Operand.func 82), args := #[Operand.tmp 7, Operand.const (Value.int IntKind.i64 3)], argTypes := #[124, 3] }, type := 3, pos := _, after := _, guard := none }) rfl (fun K hK => ?_) AllReadyH.nil
  go_simp
  refine (below_any c _ _ HC1d.out.1).mono ?_
  rintro e v1 ⟨x1, rfl, hx1, hy1, hC1, hT1⟩
  obtain ⟨z1, j1⟩ := idx3 x1 hx1 (hy1 (by omega))
  have HD1 : Hid (Cur v1 c ∧ Turns (fun k => k = c) w1 v1) := ⟨hC1, HC1d.out.2.trans hT1⟩
  clear hC1 hT1 hy1 HC1d
  refine hK.out _ _ trivial (fun hHeld => ?_)
  clear hK K
  try simp only [Act.put, List.setIfInBounds_toArray, List.set_cons_zero, List.set_cons_succ]
  refine wpAnyH_take (i := 2) (oi := { dst := some 9, op := Op.index 9 (Operand.const (Value.string { data := #[63, 110, 121] })) (Operand.tmp 8), type := 5, pos := _, after := _, guard := none }) (v := .int .u8 (z1.toNat : Int)) rfl (by kernel_rfl) (by kernel_rfl) (by kernel_rfl) (fun _ _ _ h => h) (Or.inl ⟨by rfl, ?_⟩) (by assumption) ?_
  · intro wX hSw
    try dsimp only at hSw
    go_simp
  try simp only [Act.put, List.setIfInBounds_toArray, List.set_cons_zero, List.set_cons_succ]
  clear j1
  refine wpAnyH_ready (rs := [4]) (by kernel_rfl) (by simp) ?_
  refine AllReadyH.cons (o := { dst := some 11, op := Op.call { callee := Callee.value (Operand.func 82), args := #[Operand.tmp 10, Operand.const (Value.int IntKind.i64 3)], argTypes := #[124, 3] }, type := 3, pos := _, after := _, guard := none }) rfl (fun K hK => ?_) AllReadyH.nil
  go_simp
  refine (below_any c _ _ HD1.out.1).mono ?_
  rintro e v2 ⟨x2, rfl, hx2, hy2, hC2, hT2⟩
  obtain ⟨z2, j2⟩ := idx3 x2 hx2 (hy2 (by omega))
  have HD2 : Hid (Cur v2 c ∧ Turns (fun k => k = c) w1 v2) := ⟨hC2, HD1.out.2.trans hT2⟩
  clear hC2 hT2 hy2 HD1
  refine hK.out _ _ trivial (fun hHeld => ?_)
  clear hK K
  try simp only [Act.put, List.setIfInBounds_toArray, List.set_cons_zero, List.set_cons_succ]
  refine wpAnyH_take (i := 5) (oi := { dst := some 12, op := Op.index 9 (Operand.const (Value.string { data := #[63, 110, 121] })) (Operand.tmp 11), type := 5, pos := _, after := _, guard := none }) (v := .int .u8 (z2.toNat : Int)) rfl (by kernel_rfl) (by kernel_rfl) (by kernel_rfl) (fun _ _ _ h => h) (Or.inl ⟨by rfl, ?_⟩) (by assumption) ?_
  · intro wX hSw
    try dsimp only at hSw
    go_simp
  try simp only [Act.put, List.setIfInBounds_toArray, List.set_cons_zero, List.set_cons_succ]
  clear j2
  refine wpAnyH_ready (rs := [7]) (by kernel_rfl) (by simp) ?_
  refine AllReadyH.cons (o := { dst := some 14, op := Op.call { callee := Callee.value (Operand.func 82), args := #[Operand.tmp 13, Operand.const (Value.int IntKind.i64 3)], argTypes := #[124, 3] }, type := 3, pos := _, after := _, guard := none }) rfl (fun K hK => ?_) AllReadyH.nil
  go_simp
  refine (below_any c _ _ HD2.out.1).mono ?_
  rintro e v3 ⟨x3, rfl, hx3, hy3, hC3, hT3⟩
  obtain ⟨z3, j3⟩ := idx3 x3 hx3 (hy3 (by omega))
  have HD3 : Hid (Cur v3 c ∧ Turns (fun k => k = c) w1 v3) := ⟨hC3, HD2.out.2.trans hT3⟩
  clear hC3 hT3 hy3 HD2
  refine hK.out _ _ trivial (fun hHeld => ?_)
  clear hK K
  try simp only [Act.put, List.setIfInBounds_toArray, List.set_cons_zero, List.set_cons_succ]
  refine wpAnyH_take (i := 8) (oi := { dst := some 15, op := Op.index 9 (Operand.const (Value.string { data := #[63, 110, 121] })) (Operand.tmp 14), type := 5, pos := _, after := _, guard := none }) (v := .int .u8 (z3.toNat : Int)) rfl (by kernel_rfl) (by kernel_rfl) (by kernel_rfl) (fun _ _ _ h => h) (Or.inl ⟨by rfl, ?_⟩) (by assumption) ?_
  · intro wX hSw
    try dsimp only at hSw
    go_simp
  try simp only [Act.put, List.setIfInBounds_toArray, List.set_cons_zero, List.set_cons_succ]
  clear j3
  refine wpAnyH_ready (rs := [10]) (by kernel_rfl) (by simp) ?_
  refine AllReadyH.cons (o := { dst := some 17, op := Op.call { callee := Callee.value (Operand.func 82), args := #[Operand.tmp 16, Operand.const (Value.int IntKind.i64 4)], argTypes := #[124, 3] }, type := 3, pos := _, after := _, guard := none }) rfl (fun K hK => ?_) AllReadyH.nil
  go_simp
  refine (below_any c _ _ HD3.out.1).mono ?_
  rintro e v4 ⟨x4, rfl, hx4, hy4, hC4, hT4⟩
  obtain ⟨z4, j4⟩ := idx4 x4 hx4 (hy4 (by omega))
  have HD4 : Hid (Cur v4 c ∧ Turns (fun k => k = c) w1 v4) := ⟨hC4, HD3.out.2.trans hT4⟩
  clear hC4 hT4 hy4 HD3
  refine hK.out _ _ trivial (fun hHeld => ?_)
  clear hK K
  try simp only [Act.put, List.setIfInBounds_toArray, List.set_cons_zero, List.set_cons_succ]
  refine wpAnyH_take (i := 11) (oi := { dst := some 18, op := Op.index 9 (Operand.const (Value.string { data := #[63, 110, 121, 120] })) (Operand.tmp 17), type := 5, pos := _, after := _, guard := none }) (v := .int .u8 (z4.toNat : Int)) rfl (by kernel_rfl) (by kernel_rfl) (by kernel_rfl) (fun _ _ _ h => h) (Or.inl ⟨by rfl, ?_⟩) (by assumption) ?_
  · intro wX hSw
    try dsimp only at hSw
    go_simp
  try simp only [Act.put, List.setIfInBounds_toArray, List.set_cons_zero, List.set_cons_succ]
  clear j4
  refine wpAnyH_ready (rs := [12]) (by kernel_rfl) (by simp) ?_
  refine AllReadyH.cons (o := { dst := some 19, op := Op.buildSlice 46 4 #[(0, Operand.tmp 9), (1, Operand.tmp 12), (2, Operand.tmp 15), (3, Operand.tmp 18)], type := 46, pos := _, after := _, guard := none }) rfl (fun K hK => ?_) AllReadyH.nil
  go_simp
  refine hK.out _ _ trivial (fun hHeld => ?_)
  clear hK K
  try simp only [Act.put, List.setIfInBounds_toArray, List.set_cons_zero, List.set_cons_succ]
  refine wpAnyH_take (i := 13) (oi := { dst := some 4, op := Op.assign (Operand.tmp 19), type := 46, pos := _, after := _, guard := none }) (v := .slice (some ⟨v4.heap.size, 0, none⟩) 4 4) rfl (by kernel_rfl) (by kernel_rfl) (by kernel_rfl) (fun _ _ _ h => h) (Or.inl ⟨by rfl, ?_⟩) (by assumption) ?_
  · intro wX hSw
    try dsimp only at hSw
    go_simp
  try simp only [Act.put, List.setIfInBounds_toArray, List.set_cons_zero, List.set_cons_succ]
  refine wpAnyH_done (by kernel_rfl) ?_ _
  have HC4 : Hid (Cur (v4.alloc (.cells #[.int .u8 (z1.toNat : Int), .int .u8 (z2.toNat : Int), .int .u8 (z3.toNat : Int), .int .u8 (z4.toNat : Int)] 5)) c) := HD4.out.1.alloc _
  have hs4 : w1.heap.size ≤ v4.heap.size := HD4.out.2.size
  have hzw : w.heap.size ≤ w1.heap.size := HB1.out.size
  have HI4 : Hid (By.IntsAt (v4.alloc (.cells #[.int .u8 (z1.toNat : Int), .int .u8 (z2.toNat : Int), .int .u8 (z3.toNat : Int), .int .u8 (z4.toNat : Int)] 5)) v4.heap.size 0 [z1, z2, z3, z4]) := bytes4 v4 z1 z2 z3 z4
  have HB4 : Hid (Below w.heap.size w (v4.alloc (.cells #[.int .u8 (z1.toNat : Int), .int .u8 (z2.toNat : Int), .int .u8 (z3.toNat : Int), .int .u8 (z4.toNat : Int)] 5))) := (HB1.out.trans (HD4.out.2.to_below (fun k hk => by omega) hzw)).alloc (by omega) _
  obtain ⟨W4, hW4⟩ : ∃ W4, v4.alloc (.cells #[.int .u8 (z1.toNat : Int), .int .u8 (z2.toNat : Int), .int .u8 (z3.toNat : Int), .int .u8 (z4.toNat : Int)] 5) = W4 := ⟨_, rfl⟩
  rw [hW4] at HC4 HI4 HB4 ⊢
  have hgc : ¬ v4.heap.size = c := by omega
  clear HD4 HB1 hW4
  generalize v4.heap.size = g at *
  go_wp2_with fail
  refine (once_any c _ _ HC4.out).mono ?_
  rintro e w5 ⟨q, rfl, hC5, hT5⟩
  have HI5 : Hid (By.IntsAt w5 g 0 [z1, z2, z3, z4]) := ⟨Nat.lt_of_lt_of_le HI4.out.1 hT5.size, fun i hi => (hT5.cell HI4.out.1 (by omega)).trans (HI4.out.2 i hi)⟩
  have HB5 : Hid (Below w.heap.size w w5) := HB4.out.trans (hT5.to_below (fun k hk => by omega) HB4.out.size)
  clear hC5 hT5 HC4 HI4 HB4
  cases q with
  | false =>
    go_wp2
    go_ret
    exact ⟨_, [z1, z2, z3, z4], rfl, Nat.le_refl _, ⟨_, 4, rfl, Nat.le_refl _, by unfold maxLen; omega, .inr ⟨g, 0, rfl, HI5.out⟩⟩, HB5.out⟩
  | true =>
    go_wp2
    go_ret
    refine ⟨_, [z2, z3, z4], rfl, by simp, ⟨_, 3, rfl, Nat.le_refl _, by unfold maxLen; omega, .inr ⟨g, 1, rfl, HI5.out.1, fun i hi => ?_⟩⟩, HB5.out⟩
    have h := HI5.out.2 (i + 1) (by simp at hi ⊢; omega)
    rw [show 0 + (i + 1) = 1 + i by omega] at h
    rw [h]
    simp [By.intAt]
end Go.Proofs.YtmpoffepoafblaaGreat

