/- VToB, VLowB, MTurn, LawHistoryTextW -/
import Derived.Test.YtbcdfacbhemijaaDoorExactHistoryTextCardG25
import Derived.Test.YtbcdfacbhemijaaDoorExactHistoryTextCardG06
import Derived.Test.YtbcdfacbhemijaaDoorExactHistoryTextCardLHSh
import Derived.Test.YtbcdfacbhemijaaDoorExactHistoryTextCardLHIh
/- toByteS: a row of one's own. -/
namespace Go.Proofs.YtbcdfacbhemijaaDoor.By
open Go.RowKit Go.Proofs.YtbcdfacbhemijaaDoor
/- The block g holds the numbers of l, from its first cell on, and they may be written. -/
def RowI (w : World) (g : Nat) (l : List UInt8) : Prop := g < w.heap.size ∧ ∀ j, j < l.length → w.cell? ⟨g, j, none⟩ = some (.int .u8 ((intAt l j).toNat : Int)) ∧ w.frozen? ⟨g, j, none⟩ = false
theorem RowI.below {w w' : World} {B g : Nat} {l : List UInt8} (h : RowI w g l) (hb : Below B w w') (hB : g < B) : RowI w' g l :=
  ⟨Nat.lt_of_lt_of_le h.1 hb.size, fun j hj => by rw [hb.cell (p := ⟨g, j, none⟩) hB, hb.frozen (p := ⟨g, j, none⟩) hB]; exact h.2 j hj⟩
theorem RowI.own {w : World} {g : Nat} {l : List UInt8} (h : RowI w g l) (hl : l.length ≤ maxLen) {B : Nat} (hB : B ≤ g) : OwnI B w (sl g l.length) l :=
  ⟨_, _, rfl, Nat.le_refl _, hl, .inr ⟨g, rfl, hB, fun j hj => (h.2 j hj).2, h.1, fun i hi => by rw [Nat.zero_add]; exact (h.2 i hi).1⟩⟩
theorem RowI.isI {w : World} {g : Nat} {l : List UInt8} (h : RowI w g l) (hl : l.length ≤ maxLen) : IsI w (sl g l.length) l := (h.own hl (Nat.zero_le _)).isI
theorem RowI.mark {w : World} {g : Nat} {l : List UInt8} (h : RowI w g l) : MarkTo w g l.length 0 :=
  ⟨h.1, fun j hj => by rw [(h.2 j hj).1]; exact ⟨rfl, (h.2 j hj).2⟩, fun i hi => by omega⟩
/- As far as k it holds them; all n cells may be written. -/
def FillI (w : World) (g n : Nat) (l : List UInt8) (k : Nat) : Prop := g < w.heap.size ∧ (∀ j, j < n → (w.cell? ⟨g, j, none⟩).isSome = true ∧ w.frozen? ⟨g, j, none⟩ = false) ∧ ∀ i, i < k → w.cell? ⟨g, i, none⟩ = some (.int .u8 ((intAt l i).toNat : Int))
theorem FillI.row {w : World} {g : Nat} {l : List UInt8} (h : FillI w g l.length l l.length) : RowI w g l := ⟨h.1, fun j hj => ⟨h.2.2 j hj, (h.2.1 j hj).2⟩⟩
theorem FillI.put {w : World} {g n k : Nat} {l : List UInt8} (h : FillI w g n l k) (hk : k < n) : FillI (w.setCell ⟨g, k, none⟩ (.int .u8 ((intAt l k).toNat : Int))) g n l (k + 1) := by
  have e1 : w.setCell ⟨g, k, none⟩ (.int .u8 ((intAt l k).toNat : Int)) = w.setCells g k [.int .u8 ((intAt l k).toNat : Int)] := rfl
  have hsame : ∀ j, j ≠ k → (w.setCell ⟨g, k, none⟩ (.int .u8 ((intAt l k).toNat : Int))).cell? ⟨g, j, none⟩ = w.cell? ⟨g, j, none⟩ := fun j hj => by
    rw [e1]
    exact World.cell?_setCells_out g _ k w ⟨g, j, none⟩ (fun _ _ => by simp; omega)
  have hat : (w.setCell ⟨g, k, none⟩ (.int .u8 ((intAt l k).toNat : Int))).cell? ⟨g, k, none⟩ = some (.int .u8 ((intAt l k).toNat : Int)) := by
    rw [e1]
    have h0 := World.cell?_setCells_in g [.int .u8 ((intAt l k).toNat : Int)] k w (fun j hj => by
      obtain rfl : j = 0 := by simpa using hj
      exact (h.2.1 k hk).1) 0 (by simp)
    simpa using h0
  refine ⟨by simpa using h.1, fun j hj => ?_, fun i hi => ?_⟩
  · refine ⟨?_, ?_⟩
    · by_cases e : j = k
      · subst e; rw [hat]; rfl
      · rw [hsame j e]; exact (h.2.1 j hj).1
    · rw [e1, World.frozen?_setCells]; exact (h.2.1 j hj).2
  · by_cases e : i = k
    · subst e; exact hat
    · rw [hsame i e]; exact h.2.2 i (by omega)
theorem FillI.made {w1 : World} {B : Nat} {z : List Value} {n : Nat} {l : List UInt8} (h : w1.ownsRow B 5 1 (.slice (some ⟨B, 0, none⟩) n n) n z) : FillI w1 B n l 0 := by
  obtain ⟨hl, h | ⟨g, cap, cur, e, hg, hc, h1, h2, h3, h4⟩⟩ := h
  · simp at h
  · simp at e
    obtain ⟨rfl, rfl⟩ := e
    have hlt : B < w1.heap.size := (Array.getElem?_eq_some_iff.1 hc).1
    refine ⟨hlt, fun j hj => ?_, fun i hi => by omega⟩
    have hj2 : j < cur.size := by omega
    simp [World.cell?, World.frozen?, hc, hj2]
theorem info5 : (Tryd.prog.info? 5).map (fun i => (i.zero, i.size, i.bytes)) = some (some (.int .u8 0), 1, 1) := by kernel_rfl
end Go.Proofs.YtbcdfacbhemijaaDoor.By

/- Rows of numbers: what stays where another row turns. -/
namespace Go.Proofs.YtbcdfacbhemijaaDoor.By
open Go.RowKit Go.Proofs.YtbcdfacbhemijaaDoor
/- As IsI, in a block below B. -/
def LowI (B : Nat) (w : World) (x : Value) (l : List UInt8) : Prop := ∃ a cap, x = .slice a l.length cap ∧ l.length ≤ cap ∧ cap ≤ maxLen ∧ (l = [] ∨ ∃ b off, a = some ⟨b, off, none⟩ ∧ b < B ∧ IntsAt w b off l)
theorem LowI.isI {B : Nat} {w : World} {x : Value} {l : List UInt8} (h : LowI B w x l) : IsI w x l := by
  obtain ⟨a, cap, rfl, h1, h2, h⟩ := h
  exact ⟨a, cap, rfl, h1, h2, h.imp id (fun ⟨b, off, e, _, h⟩ => ⟨b, off, e, h⟩)⟩
theorem IsI.low {w : World} {x : Value} {l : List UInt8} (h : IsI w x l) : LowI w.heap.size w x l := by
  obtain ⟨a, cap, rfl, h1, h2, h⟩ := h
  exact ⟨a, cap, rfl, h1, h2, h.imp id (fun ⟨b, off, e, h⟩ => ⟨b, off, e, h.1, h⟩)⟩
theorem LowI.below {B : Nat} {w w' : World} {x : Value} {l : List UInt8} (h : LowI B w x l) (hb : Below B w w') : LowI B w' x l := by
  obtain ⟨a, cap, rfl, h1, h2, h⟩ := h
  exact ⟨a, cap, rfl, h1, h2, h.imp id (fun ⟨b, off, e, hB, h⟩ => ⟨b, off, e, hB, h.below hb hB⟩)⟩
theorem OwnI.other {B g : Nat} {w w' : World} {x : Value} {l : List UInt8} (h : OwnI B w x l) (hg : g < B) (hgr : w.grownBy w' (some g)) : OwnI B w' x l := by
  obtain ⟨a, cap, rfl, h1, h2, h⟩ := h
  refine ⟨a, cap, rfl, h1, h2, h.imp id ?_⟩
  rintro ⟨b, rfl, hB, hf, hr⟩
  have hk : w'.heap[b]? = w.heap[b]? := hgr.block b hr.1 (by intro e; have := Option.some.inj e; omega)
  have hc : ∀ o, w'.cell? ⟨b, o, none⟩ = w.cell? ⟨b, o, none⟩ := fun o => World.cell?_of_block (w := w) hk
  have hz : ∀ o, w'.frozen? ⟨b, o, none⟩ = w.frozen? ⟨b, o, none⟩ := fun o => World.frozen?_of_block (w := w) hk
  exact ⟨b, rfl, hB, fun j hj => (hz j).trans (hf j hj), Nat.lt_of_lt_of_le hr.1 hgr.size, fun i hi => (hc _).trans (hr.2 i hi)⟩
/- An answer: a list of one's own and a flag. -/
def AnsI (B : Nat) (r : List UInt8) (b : Bool) (e : Ending) (w' : World) : Prop := ∃ v, e = .returned (.tuple #[v, .bool b]) ∧ OwnI B w' v r
end Go.Proofs.YtbcdfacbhemijaaDoor.By

/- Rows of one's own stay where others turn. -/
namespace Go.Proofs.YtbcdfacbhemijaaDoor
open Go.RowKit
theorem OwnI.turns {B : Nat} {S : Nat → Prop} {w w' : World} {x : Value} {l : List Int} (h : OwnI B w x l) (ht : Turns S w w') (hS : ∀ k, S k → k < B) : OwnI B w' x l := by
  obtain ⟨a, cap, rfl, h1, h2, h⟩ := h
  refine ⟨a, cap, rfl, h1, h2, h.imp id ?_⟩
  rintro ⟨b, rfl, hB, hf, hr⟩
  have hn : ¬ S b := fun e => by have := hS b e; omega
  exact ⟨b, rfl, hB, fun j hj => (ht.frozen hr.1 hn).trans (hf j hj), Nat.lt_of_lt_of_le hr.1 ht.size, fun i hi => (ht.cell hr.1 hn).trans (hr.2 i hi)⟩
theorem By.OwnI.turns {B : Nat} {S : Nat → Prop} {w w' : World} {x : Value} {l : List UInt8} (h : By.OwnI B w x l) (ht : Turns S w w') (hS : ∀ k, S k → k < B) : By.OwnI B w' x l := by
  obtain ⟨a, cap, rfl, h1, h2, h⟩ := h
  refine ⟨a, cap, rfl, h1, h2, h.imp id ?_⟩
  rintro ⟨b, rfl, hB, hf, hr⟩
  have hn : ¬ S b := fun e => by have := hS b e; omega
  exact ⟨b, rfl, hB, fun j hj => (ht.frozen hr.1 hn).trans (hf j hj), Nat.lt_of_lt_of_le hr.1 ht.size, fun i hi => (ht.cell hr.1 hn).trans (hr.2 i hi)⟩
end Go.Proofs.YtbcdfacbhemijaaDoor

/- The law of the text of a history: the walk. -/
namespace Go.Proofs.YtbcdfacbhemijaaDoor.LawExactHistoryText
open Go.RowKit Go.Proofs.YtbcdfacbhemijaaDoor
theorem OwnB.by {B : Nat} {w : World} {x : Value} {l : List UInt8} (h : OwnB B w x l) : By.OwnI B w x l := h
theorem histR_len {z : Hy} (hi : z.inR) : (histR z).length ≤ 1000000000000 := by
  by_cases h : z.ok
  · rw [histR_yes h]
    have := hist_len h hi
    omega
  · rw [histR_no h]; simp
theorem szHy_any (x : Value) (m : Hy) (w : World) (h : IsHistory w x m) : Calls Tryd.prog 14 #[x, .int .i64 1048576] w fun e w' => (∃ r, e = .returned (.int .i64 r) ∧ (r = -1 ∨ (0 ≤ r ∧ m.wt ≤ 1048576))) ∧ Below w.heap.size w w' := by
  refine (szHistory_any x m 1048576 w (by omega) (by omega) h).mono ?_
  rintro e w' ⟨⟨r, rfl, hr⟩, hb⟩
  refine ⟨⟨r, rfl, hr.imp id (fun h9 => ⟨h9.1, by omega⟩)⟩, hb⟩
theorem markHy_any {F : Nat → Prop} {x : Value} {m : Hy} {w : World} (hs : m.wt ≤ 1048576) (h : HistoryF F w x m) : Calls Tryd.prog 19 #[x, .int .i64 1] w fun e w' => e = .returned (.int .i64 (1 + (m.cntA : Int))) ∧ Turns F w w' := by
  have h9 := m.cntA_le
  refine (markHistory_any 1 (by omega) (by omega) (by omega) h).mono ?_
  rintro e w' ⟨rfl, _, ht⟩
  exact ⟨rfl, ht⟩
theorem sTextB (x : Value) (m : Hy) (w : World) (hi : m.inR) (h : IsHistory w x m) : Calls Tryd.prog 15 #[x] w fun e w' => ∃ u, e = .returned u ∧ By.OwnI w.heap.size w' u (histR m) ∧ Below w.heap.size w w' := by
  refine (sTextH x m w hi h).mono ?_
  rintro e w' ⟨y, rfl, ho, hb⟩
  exact ⟨y, rfl, OwnB.by ho, hb⟩
theorem iTextB (x : Value) (m : Hy) (w : World) (hi : m.inR) (h : IsHistory w x m) (htab : Lib.TabIs Tryd.prog w "internal/strconv.uint64pow10" .u64 Lib.pow10Tab) : Calls Tryd.prog 17 #[x] w fun e w' => ∃ u, e = .returned u ∧ By.OwnI w.heap.size w' u (histR m) ∧ Below w.heap.size w w' := by
  refine (iTextH x m w hi h htab).mono ?_
  rintro e w' ⟨y, rfl, ho, hb⟩
  exact ⟨y, rfl, OwnB.by ho, hb⟩
set_option maxRecDepth 100000 in
set_option maxHeartbeats 16000000 in
theorem walk (x : Value) (m : Hy) (w : World) (hx : IsHistory w x m) (hin : m.inR) (htab : Lib.TabIs Tryd.prog w "internal/strconv.uint64pow10" .u64 Lib.pow10Tab) :
    Calls Tryd.prog 4 #[x] w fun e w' => e = .returned (.bool true) ∧ Below w.heap.size w w' := by
  have HX : Hid (IsHistory w x m) := hx
  have HIN : Hid m.inR := hin
  have HTB : Hid (Lib.TabIs Tryd.prog w "internal/strconv.uint64pow10" .u64 Lib.pow10Tab) := htab
  clear htab hin
  obtain ⟨u0, u1, rfl, _⟩ := hx
  obtain ⟨W0, hW0⟩ : ∃ W0, w.alloc (.cells #[u0, u1, .int .i64 m.a, .bool m.f] 42) = W0 := ⟨_, rfl⟩
  have HB_W0 : Hid (Below w.heap.size w W0) := by rw [← hW0]; exact (Below.refl _ w).alloc (Nat.le_refl _) _
  have HP_W0 : Hid (Bk W0 w.heap.size 42 #[u0, u1, .int .i64 m.a, .bool m.f]) := by rw [← hW0]; exact Bk.new w _ _
  have HW0 : Hid (w.alloc (.cells #[u0, u1, .int .i64 m.a, .bool m.f] 42) = W0) := hW0
  clear hW0
  go_enter Tryd.func4, Tryd.ntmps4
  go_wp2_with fail
  rw [HW0.out]
  clear HW0
  refine (szHy_any _ m _ (HX.out.under HB_W0.out)).mono ?_
  rintro e w1 ⟨⟨r, rfl, hr⟩, hb⟩
  have z_w1 : W0.heap.size ≤ w1.heap.size := hb.size
  have HB_w1 : Hid (Below w.heap.size w w1) := HB_W0.out.trans (hb.mono HB_W0.out.size)
  have HP_w1 : Hid (Bk w1 w.heap.size 42 #[u0, u1, .int .i64 m.a, .bool m.f]) := HP_W0.out.below hb
  clear HB_W0 HP_W0
  clear hb
  rcases hr with rfl | ⟨hr0, hsm⟩
  case inl =>
    go_wp2
    go_ret
    exact ⟨rfl, HB_w1.out⟩
  have hr1 : ¬ (r < 0) := by omega
  have HSM : Hid (m.wt ≤ 1048576) := hsm
  clear hsm hr0
  have HC : Hid (∃ r b, r.length ≤ 1000000000000 ∧ (∀ (v0 : Value) (W : World), IsHistory W v0 m → Calls Tryd.prog 15 #[v0] W fun e w' => ∃ u, e = .returned (u) ∧ By.OwnI W.heap.size w' u r ∧ Below W.heap.size W w') ∧ (∀ (v0 : Value) (W : World), IsHistory W v0 m → Lib.TabIs Tryd.prog W "internal/strconv.uint64pow10" .u64 Lib.pow10Tab → Calls Tryd.prog 17 #[v0] W fun e w' => ∃ u, e = .returned (u) ∧ By.OwnI W.heap.size w' u r ∧ Below W.heap.size W w') ∧ b = true) := ⟨(histR m), true, histR_len HIN.out, fun v0 W h0 => sTextB v0 m W HIN.out h0, fun v0 W h0 h1 => iTextB v0 m W HIN.out h0 h1, rfl⟩
  obtain ⟨r, b, hr0, hsp, him, hbb⟩ := HC.out
  have HSP : Hid (∀ (v0 : Value) (W : World), IsHistory W v0 m → Calls Tryd.prog 15 #[v0] W fun e w' => ∃ u, e = .returned (u) ∧ By.OwnI W.heap.size w' u r ∧ Below W.heap.size W w') := hsp
  have HIM : Hid (∀ (v0 : Value) (W : World), IsHistory W v0 m → Lib.TabIs Tryd.prog W "internal/strconv.uint64pow10" .u64 Lib.pow10Tab → Calls Tryd.prog 17 #[v0] W fun e w' => ∃ u, e = .returned (u) ∧ By.OwnI W.heap.size w' u r ∧ Below W.heap.size W w') := him
  clear HC hsp him hbb
  have p0 := HP_w1.out.cell (i := 0) rfl
  have p1 := HP_w1.out.cell (i := 1) rfl
  have p2 := HP_w1.out.cell (i := 2) rfl
  have p3 := HP_w1.out.cell (i := 3) rfl
  go_wp2_with fail
  clear p0 p1 p2 p3
  refine (toHistory_any _ m _ HSM.out (HX.out.under HB_w1.out)).mono ?_
  rintro e w2 ⟨y0, rfl, hb, hr⟩
  have HT_w2 : Hid (HistoryF (fun k => w1.heap.size ≤ k ∧ k < w2.heap.size) w2 y0 m) := hr
  have z_w2 : w1.heap.size ≤ w2.heap.size := hb.size
  have HB_w2 : Hid (Below w.heap.size w w2) := HB_w1.out.trans (hb.mono HB_w1.out.size)
  have HP_w2 : Hid (Bk w2 w.heap.size 42 #[u0, u1, .int .i64 m.a, .bool m.f]) := HP_w1.out.below hb
  clear HB_w1 HP_w1
  clear hb hr
  go_wp2_with fail
  refine (HSP.out _ _ HT_w2.out.is).mono ?_
  rintro e w3 ⟨xs, rfl, ho, hb⟩
  have HS_w3 : Hid (By.LowI w3.heap.size w3 xs r) := ho.isI.low
  have z_w3 : w2.heap.size ≤ w3.heap.size := hb.size
  have HB_w3 : Hid (Below w.heap.size w w3) := HB_w2.out.trans (hb.mono HB_w2.out.size)
  have HP_w3 : Hid (Bk w3 w.heap.size 42 #[u0, u1, .int .i64 m.a, .bool m.f]) := HP_w2.out.below hb
  clear HB_w2 HP_w2 HT_w2
  clear hb ho HSP
  have hX0 : w.heap.size < w3.heap.size := HP_w3.out.lt
  have p0 := HP_w3.out.cell (i := 0) rfl
  have p1 := HP_w3.out.cell (i := 1) rfl
  have p2 := HP_w3.out.cell (i := 2) rfl
  have p3 := HP_w3.out.cell (i := 3) rfl
  go_wp2_with fail
  clear p0 p1 p2 p3
  refine (toHistory_any _ m _ HSM.out (HX.out.under HB_w3.out)).mono ?_
  rintro e w4 ⟨y1, rfl, hb, hr⟩
  have HR_w4 : Hid (HistoryF (fun k => w3.heap.size ≤ k ∧ k < w4.heap.size) w4 y1 m) := hr
  have z_w4 : w3.heap.size ≤ w4.heap.size := hb.size
  have HB_w4 : Hid (Below w.heap.size w w4) := HB_w3.out.trans (hb.mono HB_w3.out.size)
  have HP_w4 : Hid (Bk w4 w.heap.size 42 #[u0, u1, .int .i64 m.a, .bool m.f]) := HP_w3.out.below hb
  have HS_w4 : Hid (By.LowI w3.heap.size w4 xs r) := HS_w3.out.below (hb.mono (by omega))
  clear HB_w3 HP_w3 HS_w3
  clear hb hr
  obtain ⟨aue, cue, aux, cux, rfl⟩ := HR_w4.out.form
  obtain ⟨Vw4, hVw4⟩ : ∃ V, w4.alloc (.cells #[.slice aue m.e.length cue, .slice aux m.x.length cux, .int .i64 m.a, .bool m.f] 47) = V := ⟨_, rfl⟩
  have HX0_Vw4 : Hid (Bk Vw4 w4.heap.size 47 #[.slice aue m.e.length cue, .slice aux m.x.length cux, .int .i64 m.a, .bool m.f]) := by rw [← hVw4]; exact Bk.new _ _ _
  have hb : Below w4.heap.size w4 Vw4 := by rw [← hVw4]; exact (Below.refl _ _).alloc (Nat.le_refl _) _
  have z_Vw4 : w4.heap.size ≤ Vw4.heap.size := hb.size
  have HB_Vw4 : Hid (Below w.heap.size w Vw4) := HB_w4.out.trans (hb.mono HB_w4.out.size)
  have HP_Vw4 : Hid (Bk Vw4 w.heap.size 42 #[u0, u1, .int .i64 m.a, .bool m.f]) := HP_w4.out.below hb
  have HS_Vw4 : Hid (By.LowI w3.heap.size Vw4 xs r) := HS_w4.out.below (hb.mono (by omega))
  have HR_Vw4 : Hid (HistoryF (fun k => w3.heap.size ≤ k ∧ k < w4.heap.size) Vw4 (.agg #[.slice aue m.e.length cue, .slice aux m.x.length cux, .int .i64 m.a, .bool m.f]) m) := HR_w4.out.under hb
  clear HB_w4 HP_w4 HS_w4 HR_w4
  clear hb
  have r0 := HX0_Vw4.out.cell (i := 0) rfl
  have r1 := HX0_Vw4.out.cell (i := 1) rfl
  have r2 := HX0_Vw4.out.cell (i := 2) rfl
  have r3 := HX0_Vw4.out.cell (i := 3) rfl
  have hV0 : w4.heap.size < Vw4.heap.size := HX0_Vw4.out.lt
  go_wp2_with fail
  clear hVw4
  clear r0 r1 r2 r3
  refine (HIM.out _ _ HR_Vw4.out.is (tab_kept HTB.out HB_Vw4.out)).mono ?_
  rintro e w5 ⟨xg, rfl, ho, hb⟩
  have HG_w5 : Hid (By.OwnI Vw4.heap.size w5 xg r) := ho
  have z_w5 : Vw4.heap.size ≤ w5.heap.size := hb.size
  have HB_w5 : Hid (Below w.heap.size w w5) := HB_Vw4.out.trans (hb.mono HB_Vw4.out.size)
  have HP_w5 : Hid (Bk w5 w.heap.size 42 #[u0, u1, .int .i64 m.a, .bool m.f]) := HP_Vw4.out.below hb
  have HS_w5 : Hid (By.LowI w3.heap.size w5 xs r) := HS_Vw4.out.below (hb.mono (by omega))
  have HR_w5 : Hid (HistoryF (fun k => w3.heap.size ≤ k ∧ k < w4.heap.size) w5 (.agg #[.slice aue m.e.length cue, .slice aux m.x.length cux, .int .i64 m.a, .bool m.f]) m) := HR_Vw4.out.under hb
  have HX0_w5 : Hid (Bk w5 w4.heap.size 47 #[.slice aue m.e.length cue, .slice aux m.x.length cux, .int .i64 m.a, .bool m.f]) := HX0_Vw4.out.below hb
  clear HB_Vw4 HP_Vw4 HS_Vw4 HR_Vw4 HX0_Vw4
  clear hb ho
  go_wp2_with fail
  refine (By.eqI_same _ _ r _ (by omega) HG_w5.out.isI HS_w5.out.isI).mono ?_
  rintro e w6 ⟨rfl, hb⟩
  have z_w6 : w5.heap.size ≤ w6.heap.size := hb.size
  have HB_w6 : Hid (Below w.heap.size w w6) := HB_w5.out.trans (hb.mono HB_w5.out.size)
  have HP_w6 : Hid (Bk w6 w.heap.size 42 #[u0, u1, .int .i64 m.a, .bool m.f]) := HP_w5.out.below hb
  have HS_w6 : Hid (By.LowI w3.heap.size w6 xs r) := HS_w5.out.below (hb.mono (by omega))
  have HR_w6 : Hid (HistoryF (fun k => w3.heap.size ≤ k ∧ k < w4.heap.size) w6 (.agg #[.slice aue m.e.length cue, .slice aux m.x.length cux, .int .i64 m.a, .bool m.f]) m) := HR_w5.out.under hb
  have HX0_w6 : Hid (Bk w6 w4.heap.size 47 #[.slice aue m.e.length cue, .slice aux m.x.length cux, .int .i64 m.a, .bool m.f]) := HX0_w5.out.below hb
  have HG_w6 : Hid (By.OwnI Vw4.heap.size w6 xg r) := HG_w5.out.below hb
  clear HB_w5 HP_w5 HS_w5 HR_w5 HX0_w5 HG_w5
  clear hb
  have p0 := HP_w6.out.cell (i := 0) rfl
  have p1 := HP_w6.out.cell (i := 1) rfl
  have p2 := HP_w6.out.cell (i := 2) rfl
  have p3 := HP_w6.out.cell (i := 3) rfl
  have r0 := HX0_w6.out.cell (i := 0) rfl
  have r1 := HX0_w6.out.cell (i := 1) rfl
  have r2 := HX0_w6.out.cell (i := 2) rfl
  have r3 := HX0_w6.out.cell (i := 3) rfl
  go_wp2_with fail
  have hzz : w.heap.size < w6.heap.size := HP_w6.out.lt
  have hzy : w4.heap.size < w6.heap.size := HX0_w6.out.lt
  go_region_held3 (fun W => W.cell? ⟨w.heap.size, 0, none⟩ = some u0 ∧ W.cell? ⟨w.heap.size, 1, none⟩ = some u1 ∧ W.cell? ⟨w.heap.size, 2, none⟩ = some (.int .i64 m.a) ∧ W.cell? ⟨w.heap.size, 3, none⟩ = some (.bool m.f) ∧ W.cell? ⟨w4.heap.size, 0, none⟩ = some (.slice aue m.e.length cue) ∧ W.cell? ⟨w4.heap.size, 1, none⟩ = some (.slice aux m.x.length cux) ∧ W.cell? ⟨w4.heap.size, 2, none⟩ = some (.int .i64 m.a) ∧ W.cell? ⟨w4.heap.size, 3, none⟩ = some (.bool m.f)) ((repeat' apply And.intro) <;> first | (go_keep; done) | (rw [hcA _ _ (by first | omega | (simp; omega))]; simp [*]; done))
    (first | (go_at_call 16; refine (toHistory_any _ m _ HSM.out (HX.out.under HB_w6.out.drew)).mono ?_; rintro e w7 ⟨y2, rfl, hbw7, hr2⟩; obtain ⟨hcA, hfA⟩ := bcell hbw7; have hzw7 : w6.heap.size ≤ w7.heap.size := hbw7.size) | (go_at_call 18; refine (eqHistory_same _ _ m _ HSM.out (HR_w6.out.under ((Below.refl _ w6).drew.trans hbw7)).is hr2.is).mono ?_; rintro e w8 ⟨rfl, hbw8⟩; obtain ⟨hcA, hfA⟩ := bcell hbw8; have hzw8 : w7.heap.size ≤ w8.heap.size := hbw8.size))
  clear hcA hfA
  have hbc : Below w6.heap.size w6 w8 := (((Below.refl w6.heap.size w6).drew).trans (hbw7.mono (Nat.le_refl _))).trans (hbw8.mono (by omega))
  clear p0 p1 p2 p3
  clear r0 r1 r2 r3
  have z_w8 : w6.heap.size ≤ w8.heap.size := hbc.size
  have HB_w8 : Hid (Below w.heap.size w w8) := HB_w6.out.trans (hbc.mono HB_w6.out.size)
  have HP_w8 : Hid (Bk w8 w.heap.size 42 #[u0, u1, .int .i64 m.a, .bool m.f]) := HP_w6.out.below hbc
  have HS_w8 : Hid (By.LowI w3.heap.size w8 xs r) := HS_w6.out.below (hbc.mono (by omega))
  have HR_w8 : Hid (HistoryF (fun k => w3.heap.size ≤ k ∧ k < w4.heap.size) w8 (.agg #[.slice aue m.e.length cue, .slice aux m.x.length cux, .int .i64 m.a, .bool m.f]) m) := HR_w6.out.under hbc
  have HX0_w8 : Hid (Bk w8 w4.heap.size 47 #[.slice aue m.e.length cue, .slice aux m.x.length cux, .int .i64 m.a, .bool m.f]) := HX0_w6.out.below hbc
  have HG_w8 : Hid (By.OwnI Vw4.heap.size w8 xg r) := HG_w6.out.below hbc
  clear HB_w6 HP_w6 HS_w6 HR_w6 HX0_w6 HG_w6
  clear hbc hr2 hbw7 hzw7 hbw8 hzw8 hzz hzy
  have r0 := HX0_w8.out.cell (i := 0) rfl
  have r1 := HX0_w8.out.cell (i := 1) rfl
  have r2 := HX0_w8.out.cell (i := 2) rfl
  have r3 := HX0_w8.out.cell (i := 3) rfl
  go_wp2_with fail
  clear r0 r1 r2 r3
  have hc0 : w4.heap.size < w8.heap.size := HX0_w8.out.lt
  have hc1 : Vw4.heap.size ≤ w8.heap.size := by omega
  refine (markHy_any HSM.out HR_w8.out).mono ?_
  rintro e w9 ⟨rfl, ht⟩
  have z_w9 : w8.heap.size ≤ w9.heap.size := ht.size
  have hbx : Below w3.heap.size w8 w9 := ht.to_below (fun k e => by omega) (by omega)
  have HB_w9 : Hid (Below w.heap.size w w9) := HB_w8.out.trans (hbx.mono (by omega))
  have HS_w9 : Hid (By.LowI w3.heap.size w9 xs r) := HS_w8.out.below hbx
  have HG_w9 : Hid (By.OwnI Vw4.heap.size w9 xg r) := HG_w8.out.turns ht (fun k e => by omega)
  have HP_w9 : Hid (Bk w9 w.heap.size 42 #[u0, u1, .int .i64 m.a, .bool m.f]) := HP_w8.out.turns ht (fun e => by omega)
  have hkn : ¬ (1 + (m.cntA : Int) < 0) := by omega
  clear ht hbx HB_w8 HS_w8 HG_w8 HP_w8 HR_w8 HX0_w8
  go_wp2_with fail
  refine (By.eqI_same _ _ r _ (by omega) HG_w9.out.isI HS_w9.out.isI).mono ?_
  rintro e w10 ⟨rfl, hb⟩
  have z_w10 : w9.heap.size ≤ w10.heap.size := hb.size
  have HB_w10 : Hid (Below w.heap.size w w10) := HB_w9.out.trans (hb.mono HB_w9.out.size)
  have HP_w10 : Hid (Bk w10 w.heap.size 42 #[u0, u1, .int .i64 m.a, .bool m.f]) := HP_w9.out.below hb
  have HS_w10 : Hid (By.LowI w3.heap.size w10 xs r) := HS_w9.out.below (hb.mono (by omega))
  have HG_w10 : Hid (By.OwnI Vw4.heap.size w10 xg r) := HG_w9.out.below hb
  clear HB_w9 HP_w9 HS_w9 HG_w9
  clear hb
  go_wp2_with fail
  refine (By.markI_own HG_w10.out (by omega)).mono ?_
  rintro e w11 ⟨mm, hm, rfl, hh, ht⟩
  have hbt : Below Vw4.heap.size w10 w11 := ht.below (by omega)
  have z_w11 : w10.heap.size ≤ w11.heap.size := hbt.size
  have hmn : ¬ (mm < 0) := by omega
  have HB_w11 : Hid (Below w.heap.size w w11) := HB_w10.out.trans (hbt.mono (by omega))
  have HS_w11 : Hid (By.LowI w3.heap.size w11 xs r) := HS_w10.out.below (hbt.mono (by omega))
  have HP_w11 : Hid (Bk w11 w.heap.size 42 #[u0, u1, .int .i64 m.a, .bool m.f]) := HP_w10.out.keep hbt (by omega)
  have HH_w11 : Hid (By.HeldI w11 xg mm) := hh
  clear hh ht hbt HB_w10 HS_w10 HG_w10 HP_w10
  go_wp2_with fail
  refine (By.heldI_in HH_w11.out).mono ?_
  rintro e w' ⟨rfl, hw⟩
  have hw' := hw.symm
  clear hw
  subst hw'
  have p0 := HP_w11.out.cell (i := 0) rfl
  have p1 := HP_w11.out.cell (i := 1) rfl
  have p2 := HP_w11.out.cell (i := 2) rfl
  have p3 := HP_w11.out.cell (i := 3) rfl
  go_wp2_with fail
  clear p0 p1 p2 p3
  refine (toHistory_any _ m _ HSM.out (HX.out.under HB_w11.out)).mono ?_
  rintro e w12 ⟨y3, rfl, hb, hr⟩
  have HT_w12 : Hid (HistoryF (fun k => w11.heap.size ≤ k ∧ k < w12.heap.size) w12 y3 m) := hr
  have z_w12 : w11.heap.size ≤ w12.heap.size := hb.size
  have HB_w12 : Hid (Below w.heap.size w w12) := HB_w11.out.trans (hb.mono HB_w11.out.size)
  have HP_w12 : Hid (Bk w12 w.heap.size 42 #[u0, u1, .int .i64 m.a, .bool m.f]) := HP_w11.out.below hb
  have HS_w12 : Hid (By.LowI w3.heap.size w12 xs r) := HS_w11.out.below (hb.mono (by omega))
  have HH_w12 : Hid (By.HeldI w12 xg mm) := HH_w11.out.below hb
  clear HB_w11 HP_w11 HS_w11 HH_w11
  clear hb hr
  go_wp2_with fail
  refine (HIM.out _ _ HT_w12.out.is (tab_kept HTB.out HB_w12.out)).mono ?_
  rintro e w13 ⟨xh, rfl, ho, hb⟩
  have HK_w13 : Hid (By.IsI w13 xh r) := ho.isI
  have z_w13 : w12.heap.size ≤ w13.heap.size := hb.size
  have HB_w13 : Hid (Below w.heap.size w w13) := HB_w12.out.trans (hb.mono HB_w12.out.size)
  have HP_w13 : Hid (Bk w13 w.heap.size 42 #[u0, u1, .int .i64 m.a, .bool m.f]) := HP_w12.out.below hb
  have HS_w13 : Hid (By.LowI w3.heap.size w13 xs r) := HS_w12.out.below (hb.mono (by omega))
  have HH_w13 : Hid (By.HeldI w13 xg mm) := HH_w12.out.below hb
  clear HB_w12 HP_w12 HS_w12 HH_w12 HT_w12
  clear hb ho HIM
  go_wp2_with fail
  refine (By.eqI_same _ _ r _ (by omega) HK_w13.out HS_w13.out.isI).mono ?_
  rintro e w14 ⟨rfl, hb⟩
  have z_w14 : w13.heap.size ≤ w14.heap.size := hb.size
  have HB_w14 : Hid (Below w.heap.size w w14) := HB_w13.out.trans (hb.mono HB_w13.out.size)
  have HP_w14 : Hid (Bk w14 w.heap.size 42 #[u0, u1, .int .i64 m.a, .bool m.f]) := HP_w13.out.below hb
  have HS_w14 : Hid (By.LowI w3.heap.size w14 xs r) := HS_w13.out.below (hb.mono (by omega))
  have HH_w14 : Hid (By.HeldI w14 xg mm) := HH_w13.out.below hb
  clear HB_w13 HP_w13 HS_w13 HH_w13
  clear hb
  clear HK_w13
  go_wp2_with fail
  refine (By.heldI_in HH_w14.out).mono ?_
  rintro e w' ⟨rfl, hw⟩
  have hw' := hw.symm
  clear hw
  subst hw'
  go_wp2
  go_ret
  exact ⟨rfl, HB_w14.out⟩
end Go.Proofs.YtbcdfacbhemijaaDoor.LawExactHistoryText

