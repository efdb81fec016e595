/- KIg, KIh, KIa -/
import Derived.Test.YtnlhcdchmgfipaaGreatExactWorldOkG25
import Derived.Test.YtnlhcdchmgfipaaGreatExactWorldOkG11
import Derived.Test.YtnlhcdchmgfipaaGreatExactWorldOkG01
import Derived.Test.YtnlhcdchmgfipaaGreatExactWorldOkG15
import Derived.Test.YtnlhcdchmgfipaaGreatExactWorldOkG09
/- slices.MinFunc over events that may be. -/
namespace Go.Proofs.YtnlhcdchmgfipaaGreat
open Go.RowKit
theorem ecmp_of {a b : Ev} (ha : a.ok = true) (hb : b.ok = true) : a.ecmp b = a.cmp b := by
 unfold Ev.ecmp Ev.cmp ecmp
 rw [if_pos ⟨ha, hb⟩]
theorem num_neg (a b : Int) : num a b = - num b a := by
 unfold num
 split <;> split <;> (try split) <;> omega
theorem cmp_opp (a b : Ev) : a.cmp b = - b.cmp a := by
 unfold Ev.cmp cmpI
 rw [num_neg a.t b.t, num_neg a.s b.s, num_neg a.q b.q, num_neg a.g b.g]
 by_cases h1 : a.t = b.t
 ·by_cases h2 : a.s = b.s
  ·by_cases h3 : a.q = b.q
   ·simp [h1, h2, h3]
   ·have h3' : ¬ b.q = a.q := fun e => h3 e.symm
    simp [h1, h2, h3, h3']
  ·have h2' : ¬ b.s = a.s := fun e => h2 e.symm
   simp [h1, h2, h2']
 ·have h1' : ¬ b.t = a.t := fun e => h1 e.symm
  simp [h1, h1']
structure MnS (w wr : World) (G : Nat) (cur : Ev) : Prop where
 rb : Bk wr w.heap.size 47 (evA zEv)
 gb : Bk wr G 47 (evA cur)
 be : Below w.heap.size w wr
theorem MnS.below {w wr w' : World} {G : Nat} {cur : Ev} (h : MnS w wr G cur) (hb : Below wr.heap.size wr w') : MnS w w' G cur :=
 ⟨h.rb.below hb, h.gb.below hb, h.be.trans (hb.mono h.be.size)⟩
theorem MnS.put {w wr : World} {G : Nat} {cur : Ev} (h : MnS w wr G cur) (h1 : w.heap.size < G) (e : Ev) : MnS w (putEv wr G e) G e :=
 ⟨h.rb.turns (putEv_turns wr G e) (by omega), h.gb.putEv e, h.be.trans ((putEv_turns wr G e).to_below (fun k hk => by omega) h.be.size)⟩
theorem MnS.ev {w wr : World} {G : Nat} {cur : Ev} (h : MnS w wr G cur) : Ev.In wr G 0 cur :=
 ⟨h.gb.cell (i := 0) rfl, h.gb.cell (i := 1) rfl, h.gb.cell (i := 2) rfl, h.gb.cell (i := 3) rfl, h.gb.cell (i := 4) rfl, h.gb.cell (i := 5) rfl, h.gb.cell (i := 6) rfl⟩
set_option maxRecDepth 100000 in
set_option maxHeartbeats 8000000 in
theorem iMin (a : Option Addr) (cap : Nat) (l : List Ev) (w : World) (hl : l.length ≤ 100000000) (h0 : 0 < l.length) (hok : ∀ i, i < l.length → (evAt l i).ok = true) (h : IsEvs w (.slice a l.length cap) l) :
  Calls Tryz.prog 139 #[.slice a l.length cap, .func (.func 140) #[] #[]] w fun e w' => ∃ g, minE l = some g ∧ e = .returned g.val ∧ Below w.heap.size w w' := by
 obtain ⟨b, off, rfl, hb, hc⟩ := h.rows.resolve_left (fun e => by rw [e] at h0; simp at h0)
 have HC : Hid (∀ i, i < l.length → Ev.In w b (off + i * 7) (evAt l i)) := hc
 have HOK : Hid (∀ i, i < l.length → (evAt l i).ok = true) := hok
 have he0 : Ev.In w b off (evAt l 0) := by simpa using hc 0 h0
 obtain ⟨V0, hV0⟩ : ∃ V, w.alloc (.cells #[.int .i64 0, .int .i64 0, .int .i64 0, .int .i64 0, .int .i64 0, .int .i64 0, .int .i64 0] 47) = V := ⟨_, rfl⟩
 have hbV : Below w.heap.size w V0 := by rw [← hV0]; exact (Below.refl _ w).alloc (Nat.le_refl _) _
 obtain ⟨e0, e1, e2, e3, e4, e5, e6⟩ := he0.below hbV hb
 obtain ⟨G, hG⟩ : ∃ G, G = V0.heap.size := ⟨_, rfl⟩
 have hG1 : w.heap.size < G := by rw [hG, ← hV0]; simp
 obtain ⟨W0, hW0⟩ : ∃ W0, V0.alloc (.cells #[.int .i64 (evAt l 0).t, .int .i64 (evAt l 0).s, .int .i64 (evAt l 0).q, .int .i64 (evAt l 0).d, .int .i64 (evAt l 0).k, .int .i64 (evAt l 0).v, .int .i64 (evAt l 0).g] 47) = W0 := ⟨_, rfl⟩
 have HS0 : Hid (MnS w W0 G (evAt l 0)) := by
  rw [← hW0]
  refine ⟨?_, ?_, hbV.alloc hbV.size _⟩
  ·rw [← hV0]; exact (Bk.new w _ _).alloc _
  ·rw [hG]; exact Bk.new _ _ _
 have HW0 : Hid (V0.alloc (.cells #[.int .i64 (evAt l 0).t, .int .i64 (evAt l 0).s, .int .i64 (evAt l 0).q, .int .i64 (evAt l 0).d, .int .i64 (evAt l 0).k, .int .i64 (evAt l 0).v, .int .i64 (evAt l 0).g] 47) = W0) := hW0
 have HV0 : Hid (w.alloc (.cells #[.int .i64 0, .int .i64 0, .int .i64 0, .int .i64 0, .int .i64 0, .int .i64 0, .int .i64 0] 47) = V0) := hV0
 have HG : Hid (G = V0.heap.size) := hG
 have hl1 : ¬ (l.length : Int) < 1 := by omega
 have hl0 : (0 : Int) < (l.length : Int) := by omega
 clear hW0 hG hc hok he0 hbV h
 go_enter Tryz.func139, Tryz.ntmps139
 go_wp2
 rw [HW0.out, ← HG.out]
 clear HW0 HG HV0 hV0 e0 e1 e2 e3 e4 e5 e6 hl1
 have HM0 : Hid (minE (l.take 1) = some (evAt l 0)) := by
  show _ = _
  rw [take_snocE h0]
  rfl
 go_loopw [6] (fun i wr => ∃ (j : Nat) (g : Ev), 1 ≤ j ∧ j ≤ l.length ∧ i = .int .i64 j ∧ Hid (minE (l.take j) = some g ∧ g.ok = true) ∧ MnS w wr G g) (fun i _ => l.length - (intOf i).toNat)
 case atStart => exact ⟨1, evAt l 0, Nat.le_refl _, h0, rfl, ⟨HM0.out, HOK.out 0 h0⟩, HS0.out⟩
 case round =>
  clear HS0 HM0
  obtain ⟨j, g, hj1, hj, rfl, HMj, hS⟩ := hrel
  have HS : Hid (MnS w wr G g) := hS
  by_cases hlt : j < l.length
  ·have hbr : b < wr.heap.size := Nat.lt_of_lt_of_le hb hS.be.size
   have hev : Ev.In wr b (off + j * 7) (evAt l j) := (HC.out j hlt).below hS.be hb
   obtain ⟨e0, e1, e2, e3, e4, e5, e6⟩ := hev.beyond hbr
   obtain ⟨d0, d1, d2, d3, d4, d5, d6⟩ := hS.ev.beyond hS.gb.lt
   have HEV : Hid (Ev.In wr b (off + j * 7) (evAt l j)) := hev
   have hne : Nonempty (Beyond wr) := ⟨⟨wr, Below.refl _ _⟩⟩
   have HNX : Hid (minE (l.take (j + 1)) = if (evAt l j).cmp g < 0 then some (evAt l j) else some g) := by
    show _ = _
    rw [take_snocE hlt, minE_snoc, HMj.out.1]
    rfl
   have HEC : Hid ((evAt l j).ecmp g = (evAt l j).cmp g) := ecmp_of (HOK.out j hlt) HMj.out.2
   have HOJ : Hid ((evAt l j).ok = true) := HOK.out j hlt
   have hki : (j : Int) < (l.length : Int) := by omega
   have HSP : Hid (∀ q : World, Below wr.heap.size wr q → MnS w (putEv q G (evAt l j)) G (evAt l j)) := fun q hq => (HS.out.below hq).put hG1 _
   clear hev hS
   generalize hz : (evAt l j).cmp g = z at HNX HEC
   have KZ : Hid ((evAt l j).ecmp g = z) := HEC.out
   clear hz
   by_cases hz0 : z < 0
   ·have hdz : decide (z < 0) = true := decide_eq_true hz0
    have HNN : Hid (minE (l.take (j + 1)) = some (evAt l j)) := by show _ = _; rw [HNX.out, if_pos hz0]
    go_wp2_with fail
    refine wp_region_beyond (by kernel_rfl) (by kernel_rfl) ?_
    repeat (go_big_quiet_step (first | (go_at_call 140; exact Beyond.of (iCmp_ev (evAt l j) g z KZ.out _))))
    refine wpQuiet_nil ?_
    rintro w3 ⟨⟨_, hb3⟩, rfl⟩
    have HB3 : Hid (Below wr.heap.size wr w3) := hb3
    clear hb3
    have g0 := (HS.out.below HB3.out).gb.cell (i := 0) rfl
    have g1 := (HS.out.below HB3.out).gb.cell (i := 1) rfl
    have g2 := (HS.out.below HB3.out).gb.cell (i := 2) rfl
    have g3 := (HS.out.below HB3.out).gb.cell (i := 3) rfl
    have g4 := (HS.out.below HB3.out).gb.cell (i := 4) rfl
    have g5 := (HS.out.below HB3.out).gb.cell (i := 5) rfl
    have g6 := (HS.out.below HB3.out).gb.cell (i := 6) rfl
    have gf := (HS.out.below HB3.out).gb.free
    obtain ⟨v0, v1, v2, v3, v4, v5, v6⟩ := HEV.out.below HB3.out hbr
    go_wp2
    clear g0 g1 g2 g3 g4 g5 g6 gf v0 v1 v2 v3 v4 v5 v6
    go_roundw
    case rel => exact ⟨j + 1, evAt l j, by omega, by omega, by go_num, ⟨HNN.out, HOJ.out⟩, HSP.out _ HB3.out⟩
    case measure => simp [intOf]; omega
   ·have hdz : decide (z < 0) = false := decide_eq_false hz0
    have HNN : Hid (minE (l.take (j + 1)) = some g) := by show _ = _; rw [HNX.out, if_neg hz0]
    go_wp2_with fail
    refine wp_region_beyond (by kernel_rfl) (by kernel_rfl) ?_
    repeat (go_big_quiet_step (first | (go_at_call 140; exact Beyond.of (iCmp_ev (evAt l j) g z KZ.out _))))
    refine wpQuiet_nil ?_
    rintro w3 ⟨⟨_, hb3⟩, rfl⟩
    have HB3 : Hid (Below wr.heap.size wr w3) := hb3
    clear hb3
    go_wp2
    go_roundw
    case rel => exact ⟨j + 1, g, by omega, by omega, by go_num, ⟨HNN.out, HMj.out.2⟩, HS.out.below HB3.out⟩
    case measure => simp [intOf]; omega
  ·obtain rfl : l.length = j := by omega
   have HMN : Hid (minE l = some g) := by have := HMj.out.1; rw [List.take_length] at this; exact this
   obtain ⟨g0, g1, g2, g3, g4, g5, g6⟩ := hS.ev
   have r0 := hS.rb.cell (i := 0) rfl
   have r1 := hS.rb.cell (i := 1) rfl
   have r2 := hS.rb.cell (i := 2) rfl
   have r3 := hS.rb.cell (i := 3) rfl
   have r4 := hS.rb.cell (i := 4) rfl
   have r5 := hS.rb.cell (i := 5) rfl
   have r6 := hS.rb.cell (i := 6) rfl
   have rf := hS.rb.free
   clear hS
   go_wp2
   clear g0 g1 g2 g3 g4 g5 g6 r0 r1 r2 r3 r4 r5 r6 rf
   obtain ⟨V, hV⟩ : ∃ V, putEv wr w.heap.size g = V := ⟨_, rfl⟩
   have ht := putEv_turns wr w.heap.size g
   have hk := HS.out.rb.putEv g
   rw [hV] at ht hk
   unfold putEv at hV
   rw [hV]
   have t0 : V.cell? ⟨w.heap.size, 0, none⟩ = some (.int .i64 g.t) := hk.cell (i := 0) rfl
   have t1 : V.cell? ⟨w.heap.size, 1, none⟩ = some (.int .i64 g.s) := hk.cell (i := 1) rfl
   have t2 : V.cell? ⟨w.heap.size, 2, none⟩ = some (.int .i64 g.q) := hk.cell (i := 2) rfl
   have t3 : V.cell? ⟨w.heap.size, 3, none⟩ = some (.int .i64 g.d) := hk.cell (i := 3) rfl
   have t4 : V.cell? ⟨w.heap.size, 4, none⟩ = some (.int .i64 g.k) := hk.cell (i := 4) rfl
   have t5 : V.cell? ⟨w.heap.size, 5, none⟩ = some (.int .i64 g.v) := hk.cell (i := 5) rfl
   have t6 : V.cell? ⟨w.heap.size, 6, none⟩ = some (.int .i64 g.g) := hk.cell (i := 6) rfl
   refine bodyPost_ret (v := g.val) (by simp [results, Tryz.results139, go_sem, t0, t1, t2, t3, t4, t5, t6, Ev.val]) rfl ⟨g, HMN.out, rfl, HS.out.be.trans (ht.to_below (fun b e => by omega) HS.out.be.size)⟩
end Go.Proofs.YtnlhcdchmgfipaaGreat

/- The program's firstOfAll. -/
namespace Go.Proofs.YtnlhcdchmgfipaaGreat
open Go.RowKit
def RowE (B : Nat) (w : World) (x : Value) (l : List Ev) : Prop := w.ownsRow B 47 7 x l.length (cellsL l)
theorem Bk.lowB {B : Nat} {w w' : World} {P : Nat} {T : TypeId} {vs : Array Value} (h : Bk w P T vs) (hb : Below B w w') (hP : P < B) : Bk w' P T vs := (hb.block P hP).trans h
theorem RowE.nil (B : Nat) (w : World) : RowE B w (.slice none 0 0) [] := World.ownsRow_nil w B 47 7
theorem RowE.alloc {B : Nat} {w : World} {x : Value} {l : List Ev} (h : RowE B w x l) (o : Obj) : RowE B (w.alloc o) x l := World.ownsRow.alloc h o
theorem RowE.ge {B : Nat} {w : World} {x : Value} {l : List Ev} (h : RowE B w x l) {r : Nat} (e : x.ownBlock = some r) : B ≤ r := by
 obtain ⟨_, ⟨rfl, _⟩ | ⟨g, cap, cur, rfl, hg, _⟩⟩ := h
 ·simp [Value.ownBlock] at e
 ·simp [Value.ownBlock] at e
  omega
theorem RowE.grow {B : Nat} {w : World} {v : Value} {l : List Ev} {e : Ev} (h : w.ownsRow B 47 7 v (l.length + 1) (cellsL l ++ e.cs)) : RowE B w v (l ++ [e]) := by
 unfold RowE
 rw [List.length_append, cellsL_append]
 simpa [cellsL] using h
theorem RowE.isEvs {B : Nat} {w : World} {x : Value} {l : List Ev} (h : RowE B w x l) : IsEvs w x l := ((RowF.of_owns (cellsL_length l) h).own.isD).isEvs
theorem at_newE (w : World) (e : Ev) : ∀ j u, e.cs[j]? = some u → (w.alloc (.cells #[.int .i64 e.t, .int .i64 e.s, .int .i64 e.q, .int .i64 e.d, .int .i64 e.k, .int .i64 e.v, .int .i64 e.g] 47)).cell? ((⟨w.heap.size, 0, none⟩ : Addr).add j) = some u := by
 intro j u hu
 have hk : Bk (w.alloc (.cells #[.int .i64 e.t, .int .i64 e.s, .int .i64 e.q, .int .i64 e.d, .int .i64 e.k, .int .i64 e.v, .int .i64 e.g] 47)) w.heap.size 47 #[.int .i64 e.t, .int .i64 e.s, .int .i64 e.q, .int .i64 e.d, .int .i64 e.k, .int .i64 e.v, .int .i64 e.g] := Bk.new w _ _
 rw [Addr.add_lit, Nat.zero_add]
 exact hk.cell (by simpa [Ev.cs] using hu)
theorem evOnes (e : Ev) : ∀ u ∈ e.cs, u.oneCell' = true := by
 intro u hu
 simp [Ev.cs] at hu
 rcases hu with rfl | rfl | rfl | rfl | rfl | rfl | rfl <;> rfl
theorem heads_len (l : List Pa) : (headsL l).length ≤ l.length := by
 induction l with
 | nil => simp [headsL]
 | cons a l ih =>
  have e : headsL (a :: l) = headP a ++ headsL l := rfl
  rw [e, List.length_append, List.length_cons, headP, List.length_take]
  omega
set_option maxRecDepth 100000 in
set_option maxHeartbeats 16000000 in
theorem iFirst8 (x : Value) (k : Kn) (w : World) (hs : SmallK k) (hok : ∀ i, i < (gvtL k).length → (evAt (gvtL k) i).ok = true) (h : IsKern w x k) :
  Calls Tryz.prog 78 #[x] w fun e w' => e = .returned (retE (gvtE k)) ∧ Below w.heap.size w w' := by
 have HOK : Hid (∀ i, i < (gvtL k).length → (evAt (gvtL k) i).ok = true) := hok
 clear hok
 obtain ⟨HSM0, hsk⟩ := hs
 have HSM : Hid (SmallM k.m) := HSM0
 obtain ⟨hdl, hpl, hbl, hsl, hxl⟩ := wt_lens hsk
 have HWP : Hid (∀ i, i < k.p.length → (paAt k.p i).wt ≤ 1048576) := wt_parts hsk
 clear hsk HSM0
 obtain ⟨ai, ci, ah, ch, ae, ce, ad, cd, ap, cp, ab, cb, au, cu, ax, cx, rfl, hm, hd, hp, hbg, hsu, hx⟩ := h.form
 have HM : Hid (IsM w (.agg #[.int .i64 k.m.n, .int .i64 k.m.s, .slice ai k.m.i.length ci, .slice ah k.m.h.length ch, .slice ae k.m.e.length ce, .int .i64 k.m.z]) k.m) := hm
 have HD : Hid (IsI w (.slice ad k.d.length cd) k.d) := hd
 have HPP : Hid (k.p = [] ∨ ∃ b off, ap = some ⟨b, off, none⟩ ∧ PasAt w b off k.p) := hp
 have HBG : Hid (k.b = [] ∨ ∃ b off, ab = some ⟨b, off, none⟩ ∧ MlsAt w b off k.b) := hbg.rows
 have HSU : Hid (k.s = [] ∨ ∃ b off, au = some ⟨b, off, none⟩ ∧ EvsAt w b off k.s) := hsu.rows
 have HXX : Hid (k.x = [] ∨ ∃ b off, ax = some ⟨b, off, none⟩ ∧ XsAt w b off k.x) := hx.rows
 have HSUI : Hid (IsEvs w (.slice au k.s.length cu) k.s) := hsu
 have HXXI : Hid (IsX w (.slice ax k.x.length cx) k.x) := hx
 have HK : Hid (IsKern w (.agg #[.int .i64 k.m.n, .int .i64 k.m.s, .slice ai k.m.i.length ci, .slice ah k.m.h.length ch, .slice ae k.m.e.length ce, .int .i64 k.m.z, .slice ad k.d.length cd, .slice ap k.p.length cp, .slice ab k.b.length cb, .int .i64 k.t, .int .i64 k.q, .bool k.f, .slice au k.s.length cu, .slice ax k.x.length cx]) k) := h
 clear hm hd hp hbg hsu hx h
 clear HM HD HSU HXX HSUI HXXI HK HSM HWP
 obtain ⟨ie, hx0, hx1, hx2, hx3⟩ := info_parts info25
 obtain ⟨RB, hRB⟩ : ∃ RB, RB = w.heap.size + 1 := ⟨_, rfl⟩
 obtain ⟨W0, hW0⟩ : ∃ W0, (w.alloc (.cells #[.int .i64 k.m.n, .int .i64 k.m.s, .slice ai k.m.i.length ci, .slice ah k.m.h.length ch, .slice ae k.m.e.length ce, .int .i64 k.m.z, .slice ad k.d.length cd, .slice ap k.p.length cp, .slice ab k.b.length cb, .int .i64 k.t, .int .i64 k.q, .bool k.f, .slice au k.s.length cu, .slice ax k.x.length cx] 42)).alloc (.cells #[.int .i64 0, .int .i64 0, .int .i64 0, .int .i64 0, .int .i64 0, .int .i64 0, .int .i64 0] 47) = W0 := ⟨_, rfl⟩
 have HB0 : Hid (Below w.heap.size w W0) := by rw [← hW0]; exact ((Below.refl _ w).alloc (Nat.le_refl _) _).alloc (by simp) _
 have HP0 : Hid (Bk W0 w.heap.size 42 #[.int .i64 k.m.n, .int .i64 k.m.s, .slice ai k.m.i.length ci, .slice ah k.m.h.length ch, .slice ae k.m.e.length ce, .int .i64 k.m.z, .slice ad k.d.length cd, .slice ap k.p.length cp, .slice ab k.b.length cb, .int .i64 k.t, .int .i64 k.q, .bool k.f, .slice au k.s.length cu, .slice ax k.x.length cx]) := by rw [← hW0]; exact (Bk.new w _ _).alloc _
 have HR0 : Hid (Bk W0 RB 47 (evA zEv)) := by rw [← hW0, hRB]; exact Bk.newAt (by simp) _ _
 obtain ⟨B, hB⟩ : ∃ B, B = W0.heap.size := ⟨_, rfl⟩
 have hB1 : B ≤ W0.heap.size := by omega
 have hB2 : w.heap.size < B := by rw [hB]; exact HP0.out.lt
 have hB3 : RB < B := by rw [hB]; exact HR0.out.lt
 have hRB1 : w.heap.size < RB := by omega
 have HRB : Hid (RB = w.heap.size + 1) := hRB
 have HW : Hid ((w.alloc (.cells #[.int .i64 k.m.n, .int .i64 k.m.s, .slice ai k.m.i.length ci, .slice ah k.m.h.length ch, .slice ae k.m.e.length ce, .int .i64 k.m.z, .slice ad k.d.length cd, .slice ap k.p.length cp, .slice ab k.b.length cb, .int .i64 k.t, .int .i64 k.q, .bool k.f, .slice au k.s.length cu, .slice ax k.x.length cx] 42)).alloc (.cells #[.int .i64 0, .int .i64 0, .int .i64 0, .int .i64 0, .int .i64 0, .int .i64 0, .int .i64 0] 47) = W0) := hW0
 have hw := HW.out
 have q7 := HP0.out.cell (i := 7) rfl
 clear hB hW0 hRB
 go_enter Tryz.func78, Tryz.ntmps78
 go_wp2
 clear hw q7
 rw [← HRB.out]
 clear HRB HW
 go_loopw [4, 12] (fun o i wr => ∃ (j : Nat) (v : Value), j ≤ k.p.length ∧ v = o ∧ i = .int .i64 j ∧ RowE B wr o (headsL (k.p.take j)) ∧ Below B W0 wr) (fun _ i _ => k.p.length - (intOf i).toNat)
 case atStart => exact ⟨0, _, Nat.zero_le _, rfl, rfl, RowE.nil _ _, Below.refl _ _⟩
 case round =>
  obtain ⟨j, o, hj, rfl, rfl, hR, hBr⟩ := hrel
  have HR : Hid (RowE B wr o (headsL (k.p.take j))) := hR
  have HBB : Hid (Below B W0 wr) := hBr
  have HBr : Hid (Below w.heap.size w wr) := HB0.out.trans (hBr.mono (by omega))
  have hs1 : B ≤ wr.heap.size := Nat.le_trans hB1 hBr.size
  clear hR hBr
  by_cases hlt : j < k.p.length
  ·obtain ⟨b, off, rfl, hb, hPA⟩ := HPP.out.resolve_left (by intro e; rw [e] at hlt; simp at hlt)
   obtain ⟨a1, c1, a4, c4, a5, c5, a6, c6, hp⟩ := hPA j hlt
   have f0 := (HBr.out.cell (p := ⟨b, _, none⟩) hb).trans hp.f0
   have f1 := (HBr.out.cell (p := ⟨b, _, none⟩) hb).trans hp.f1
   have f2 := (HBr.out.cell (p := ⟨b, _, none⟩) hb).trans hp.f2
   have f3 := (HBr.out.cell (p := ⟨b, _, none⟩) hb).trans hp.f3
   have f4 := (HBr.out.cell (p := ⟨b, _, none⟩) hb).trans hp.f4
   have f5 := (HBr.out.cell (p := ⟨b, _, none⟩) hb).trans hp.f5
   have f6 := (HBr.out.cell (p := ⟨b, _, none⟩) hb).trans hp.f6
   have HT : Hid ((paAt k.p j).t = [] ∨ ∃ b off, a5 = some ⟨b, off, none⟩ ∧ EvsAt w b off (paAt k.p j).t) := hp.d5.isEvs.rows
   have HN : Hid (headsL (k.p.take (j + 1)) = headsL (k.p.take j) ++ headP (paAt k.p j)) := heads_snoc hlt
   have hln : (headsL (k.p.take j)).length ≤ 1048576 := Nat.le_trans (heads_len _) (by rw [List.length_take]; omega)
   generalize headsL (k.p.take j) = lq at HR HN hln
   obtain ⟨V, hV⟩ : ∃ V, wr.alloc (.cells #[.int .i64 (paAt k.p j).n, .slice a1 (paAt k.p j).st.r.length c1, .int .i64 (paAt k.p j).st.q, .int .i64 (paAt k.p j).st.d, .slice a4 (paAt k.p j).p.length c4, .slice a5 (paAt k.p j).t.length c5, .slice a6 (paAt k.p j).a.length c6] 88) = V := ⟨_, rfl⟩
   have HBV : Hid (Below B W0 V) := by rw [← hV]; exact HBB.out.alloc hs1 _
   have HRV : Hid (RowE B V o lq) := by rw [← hV]; exact HR.out.alloc _
   have HX : Hid (Bk V wr.heap.size 88 #[.int .i64 (paAt k.p j).n, .slice a1 (paAt k.p j).st.r.length c1, .int .i64 (paAt k.p j).st.q, .int .i64 (paAt k.p j).st.d, .slice a4 (paAt k.p j).p.length c4, .slice a5 (paAt k.p j).t.length c5, .slice a6 (paAt k.p j).a.length c6]) := by rw [← hV]; exact Bk.new _ _ _
   have HBw : Hid (Below w.heap.size w V) := HB0.out.trans (HBV.out.mono (by omega))
   have hsV : B ≤ V.heap.size := Nat.le_trans hB1 HBV.out.size
   have x5 := HX.out.cell (i := 5) rfl
   clear hp hPA
   by_cases h0 : (paAt k.p j).t.length = 0
   ·have HNN : Hid (headsL (k.p.take (j + 1)) = lq) := by show _ = _; rw [HN.out, headP_nil h0, List.append_nil]
    rw [h0] at x5
    clear h0
    go_wp2
    go_roundw
    case rel => exact ⟨j + 1, _, by omega, rfl, by go_num, by rw [HNN.out]; exact HRV.out, HBV.out⟩
    case measure => simp [intOf]; omega
   ·obtain ⟨n, hn⟩ : ∃ n, (paAt k.p j).t.length = n + 1 := ⟨(paAt k.p j).t.length - 1, by omega⟩
    have HH : Hid (headsL (k.p.take (j + 1)) = lq ++ [evAt (paAt k.p j).t 0]) := by show _ = _; rw [HN.out, headP_one hn]
    obtain ⟨b5, off5, rfl, hb5, hc5⟩ := HT.out.resolve_left (by intro e; rw [e] at hn; simp at hn)
    have hev : Ev.In w b5 off5 (evAt (paAt k.p j).t 0) := by simpa using hc5 0 (by omega)
    obtain ⟨e0, e1, e2, e3, e4, e5, e6⟩ := hev.below HBw.out hb5
    rw [hn] at x5
    generalize evAt (paAt k.p j).t 0 = ev at HH e0 e1 e2 e3 e4 e5 e6
    clear hc5 hev h0 hn
    go_wp2_with (at_builtin; refine wpList_append_own _ rfl _ _ 35 rfl B 47 ie (.agg #[.int .i64 0, .int .i64 0, .int .i64 0, .int .i64 0, .int .i64 0, .int .i64 0, .int .i64 0]) 7 56 Tryz.underlying35 hx0 hx1 hx2 hx3 rfl (by decide) o _ _ rfl (World.ownsRow.alloc HRV.out _) ⟨V.heap.size, 0, none⟩ 1 1 (ev).cs rfl rfl (at_newE _ ev) (evOnes ev) (by unfold maxLen; omega) (by omega) (by simp; omega) ?_; intro v4 w4 hown hgrow hnil)
    go_roundw
    case rel => exact ⟨j + 1, _, by omega, rfl, by go_num, by rw [HH.out]; exact RowE.grow hown, (HBV.out.alloc hsV _).grown hgrow (by simp; omega) (fun q e => RowE.ge HRV.out e)⟩
    case measure => simp [intOf]; omega
  ·obtain rfl : k.p.length = j := by omega
   rw [List.take_length] at HR
   obtain ⟨W1, rfl⟩ : ∃ W1, W1 = wr := ⟨wr, rfl⟩
   have HR1 : Hid (RowE B W1 o (headsL k.p)) := HR.out
   have HBB1 : Hid (Below B W0 W1) := HBB.out
   have HP1 : Hid (Bk W1 w.heap.size 42 #[.int .i64 k.m.n, .int .i64 k.m.s, .slice ai k.m.i.length ci, .slice ah k.m.h.length ch, .slice ae k.m.e.length ce, .int .i64 k.m.z, .slice ad k.d.length cd, .slice ap k.p.length cp, .slice ab k.b.length cb, .int .i64 k.t, .int .i64 k.q, .bool k.f, .slice au k.s.length cu, .slice ax k.x.length cx]) := HP0.out.lowB HBB.out hB2
   have m8 := HP1.out.cell (i := 8) rfl
   clear HR HBB HBr hj hlt hs1
   go_wp2
   clear m8
   go_loopw [4, 31] (fun o i wr => ∃ (j : Nat) (v : Value), j ≤ k.b.length ∧ v = o ∧ i = .int .i64 j ∧ RowE B wr o (headsL k.p ++ (k.b.take j).map (·.e)) ∧ Below B W0 wr) (fun _ i _ => k.b.length - (intOf i).toNat)
   case atStart => exact ⟨0, _, Nat.zero_le _, rfl, rfl, by simpa using HR1.out, HBB1.out⟩
   case round =>
    clear HR1 HBB1 HP1
    obtain ⟨j, o, hj, rfl, rfl, hR, hBr⟩ := hrel
    have HR : Hid (RowE B wr o (headsL k.p ++ (k.b.take j).map (·.e))) := hR
    have HBB : Hid (Below B W0 wr) := hBr
    have HBr : Hid (Below w.heap.size w wr) := HB0.out.trans (hBr.mono (by omega))
    have hs1 : B ≤ wr.heap.size := Nat.le_trans hB1 hBr.size
    have hhl := heads_len k.p
    clear hR hBr
    by_cases hlt : j < k.b.length
    ·obtain ⟨b, off, rfl, hb, hMA⟩ := HBG.out.resolve_left (by intro e; rw [e] at hlt; simp at hlt)
     obtain ⟨f0, f1, f2, f3, f4, f5, f6, f7⟩ := (hMA j hlt).below HBr.out hb
     have HN : Hid (headsL k.p ++ (k.b.take (j + 1)).map (·.e) = (headsL k.p ++ (k.b.take j).map (·.e)) ++ [(mlAt k.b j).e]) := (by rw [take_snocM hlt]; simp : headsL k.p ++ (k.b.take (j + 1)).map (·.e) = _)
     have hln : (headsL k.p ++ (k.b.take j).map (·.e)).length ≤ 3000000 := by rw [List.length_append, List.length_map, List.length_take]; omega
     generalize headsL k.p ++ (k.b.take j).map (·.e) = lq at HR HN hln
     obtain ⟨V, hV⟩ : ∃ V, wr.alloc (.cells #[.int .i64 (mlAt k.b j).e.t, .int .i64 (mlAt k.b j).e.s, .int .i64 (mlAt k.b j).e.q, .int .i64 (mlAt k.b j).e.d, .int .i64 (mlAt k.b j).e.k, .int .i64 (mlAt k.b j).e.v, .int .i64 (mlAt k.b j).e.g, .bool (mlAt k.b j).a] 91) = V := ⟨_, rfl⟩
     have HBV : Hid (Below B W0 V) := by rw [← hV]; exact HBB.out.alloc hs1 _
     have HRV : Hid (RowE B V o lq) := by rw [← hV]; exact HR.out.alloc _
     have HX : Hid (Bk V wr.heap.size 91 #[.int .i64 (mlAt k.b j).e.t, .int .i64 (mlAt k.b j).e.s, .int .i64 (mlAt k.b j).e.q, .int .i64 (mlAt k.b j).e.d, .int .i64 (mlAt k.b j).e.k, .int .i64 (mlAt k.b j).e.v, .int .i64 (mlAt k.b j).e.g, .bool (mlAt k.b j).a]) := by rw [← hV]; exact Bk.new _ _ _
     have hsV : B ≤ V.heap.size := Nat.le_trans hB1 HBV.out.size
     have x0 := HX.out.cell (i := 0) rfl
     have x1 := HX.out.cell (i := 1) rfl
     have x2 := HX.out.cell (i := 2) rfl
     have x3 := HX.out.cell (i := 3) rfl
     have x4 := HX.out.cell (i := 4) rfl
     have x5 := HX.out.cell (i := 5) rfl
     have x6 := HX.out.cell (i := 6) rfl
     have x7 := HX.out.cell (i := 7) rfl
     clear hMA
     go_wp2_with (at_builtin; refine wpList_append_own _ rfl _ _ 35 rfl B 47 ie (.agg #[.int .i64 0, .int .i64 0, .int .i64 0, .int .i64 0, .int .i64 0, .int .i64 0, .int .i64 0]) 7 56 Tryz.underlying35 hx0 hx1 hx2 hx3 rfl (by decide) o _ _ rfl (World.ownsRow.alloc HRV.out _) ⟨V.heap.size, 0, none⟩ 1 1 ((mlAt k.b j).e).cs rfl rfl (at_newE _ (mlAt k.b j).e) (evOnes (mlAt k.b j).e) (by unfold maxLen; omega) (by omega) (by simp; omega) ?_; intro v4 w4 hown hgrow hnil)
     go_roundw
     case rel => exact ⟨j + 1, _, by omega, rfl, by go_num, by rw [HN.out]; exact RowE.grow hown, (HBV.out.alloc hsV _).grown hgrow (by simp; omega) (fun q e => RowE.ge HRV.out e)⟩
     case measure => simp [intOf]; omega
    ·obtain rfl : k.b.length = j := by omega
     rw [List.take_length] at HR
     have HGL : Hid (gvtL k = headsL k.p ++ k.b.map (·.e)) := (rfl : gvtL k = _)
     have hgl : (headsL k.p ++ k.b.map (·.e)).length ≤ 3000000 := by rw [List.length_append, List.length_map]; omega
     rw [← HGL.out] at HR hgl
     have HGE : Hid (gvtE k = minE (gvtL k)) := (rfl : gvtE k = _)
     have HRr : Hid (Bk wr RB 47 (evA zEv)) := HR0.out.lowB HBB.out hB3
     generalize gvtL k = l at HR hgl HGE HOK
     have HIE : Hid (IsEvs wr o l) := HR.out.isEvs
     obtain ⟨ao, co, rfl, _, _, _⟩ := HIE.out
     have r0 := HRr.out.cell (i := 0) rfl
     have r1 := HRr.out.cell (i := 1) rfl
     have r2 := HRr.out.cell (i := 2) rfl
     have r3 := HRr.out.cell (i := 3) rfl
     have r4 := HRr.out.cell (i := 4) rfl
     have r5 := HRr.out.cell (i := 5) rfl
     have r6 := HRr.out.cell (i := 6) rfl
     have rf := HRr.out.free
     by_cases hl0 : l.length = 0
     ·have HE0 : Hid (gvtE k = none) := by show _ = _; rw [HGE.out, List.length_eq_zero_iff.1 hl0]; rfl
      have hlb : ((l.length : Int) == 0) = true := by rw [hl0]; rfl
      have hl9 : (l.length : Int) = 0 := by omega
      go_wp2
      clear r0 r1 r2 r3 r4 r5 r6 rf
      obtain ⟨V, hV⟩ : ∃ V, putEv wr RB zEv = V := ⟨_, rfl⟩
      have ht := putEv_turns wr RB zEv
      have hk := HRr.out.putEv zEv
      rw [hV] at ht hk
      unfold putEv at hV
      dsimp only [zEv] at hV
      rw [hV]
      have t0 : V.cell? ⟨RB, 0, none⟩ = some (.int .i64 0) := hk.cell (i := 0) rfl
      have t1 : V.cell? ⟨RB, 1, none⟩ = some (.int .i64 0) := hk.cell (i := 1) rfl
      have t2 : V.cell? ⟨RB, 2, none⟩ = some (.int .i64 0) := hk.cell (i := 2) rfl
      have t3 : V.cell? ⟨RB, 3, none⟩ = some (.int .i64 0) := hk.cell (i := 3) rfl
      have t4 : V.cell? ⟨RB, 4, none⟩ = some (.int .i64 0) := hk.cell (i := 4) rfl
      have t5 : V.cell? ⟨RB, 5, none⟩ = some (.int .i64 0) := hk.cell (i := 5) rfl
      have t6 : V.cell? ⟨RB, 6, none⟩ = some (.int .i64 0) := hk.cell (i := 6) rfl
      refine bodyPost_ret (v := .tuple #[(zEv).val, .bool false]) (by simp [results, Tryz.results78, go_sem, t0, t1, t2, t3, t4, t5, t6, Ev.val, zEv]) rfl ⟨by rw [HE0.out, retE]; rfl, HBr.out.trans (ht.to_below (fun b e => by omega) HBr.out.size)⟩
     ·have h0 : 0 < l.length := by omega
      have hlb : ((l.length : Int) == 0) = false := by rw [beq_eq_false_iff_ne]; omega
      have hl9 : ¬ (l.length : Int) = 0 := by omega
      go_wp2_with fail
      refine (iMin ao co l _ (by omega) h0 HOK.out HIE.out).mono ?_
      rintro e w5 ⟨g, hg, rfl, hb5⟩
      have HB5 : Hid (Below w.heap.size w w5) := HBr.out.trans (hb5.mono HBr.out.size)
      have HR5 : Hid (Bk w5 RB 47 (evA zEv)) := HRr.out.below hb5
      have HE0 : Hid (gvtE k = some g) := by show _ = _; rw [HGE.out, hg]
      clear hb5 hg r0 r1 r2 r3 r4 r5 r6 rf
      have r0 := HR5.out.cell (i := 0) rfl
      have r1 := HR5.out.cell (i := 1) rfl
      have r2 := HR5.out.cell (i := 2) rfl
      have r3 := HR5.out.cell (i := 3) rfl
      have r4 := HR5.out.cell (i := 4) rfl
      have r5 := HR5.out.cell (i := 5) rfl
      have r6 := HR5.out.cell (i := 6) rfl
      have rf := HR5.out.free
      go_wp2
      clear r0 r1 r2 r3 r4 r5 r6 rf
      obtain ⟨V, hV⟩ : ∃ V, putEv w5 RB g = V := ⟨_, rfl⟩
      have ht := putEv_turns w5 RB g
      have hk := HR5.out.putEv g
      rw [hV] at ht hk
      unfold putEv at hV
      rw [hV]
      have t0 : V.cell? ⟨RB, 0, none⟩ = some (.int .i64 g.t) := hk.cell (i := 0) rfl
      have t1 : V.cell? ⟨RB, 1, none⟩ = some (.int .i64 g.s) := hk.cell (i := 1) rfl
      have t2 : V.cell? ⟨RB, 2, none⟩ = some (.int .i64 g.q) := hk.cell (i := 2) rfl
      have t3 : V.cell? ⟨RB, 3, none⟩ = some (.int .i64 g.d) := hk.cell (i := 3) rfl
      have t4 : V.cell? ⟨RB, 4, none⟩ = some (.int .i64 g.k) := hk.cell (i := 4) rfl
      have t5 : V.cell? ⟨RB, 5, none⟩ = some (.int .i64 g.v) := hk.cell (i := 5) rfl
      have t6 : V.cell? ⟨RB, 6, none⟩ = some (.int .i64 g.g) := hk.cell (i := 6) rfl
      refine bodyPost_ret (v := .tuple #[(g).val, .bool true]) (by simp [results, Tryz.results78, go_sem, t0, t1, t2, t3, t4, t5, t6, Ev.val]) rfl ⟨by rw [HE0.out, retE]; rfl, HB5.out.trans (ht.to_below (fun b e => by omega) HB5.out.size)⟩
end Go.Proofs.YtnlhcdchmgfipaaGreat

/- The program's areKnown. -/
namespace Go.Proofs.YtnlhcdchmgfipaaGreat
open Go.RowKit Go.Shelf
attribute [local go_sem] Oper.semAt_some
def knB (m : Md) (t : Int) (e : Ev) : Bool := evIn m e && decide (e.g < t)
theorem knB_iff {m : Md} {t : Int} {e : Ev} : knB m t e = true ↔ e.ok = true ∧ fitB m e.t e.d e.k = true ∧ e.g < t := by
 unfold knB evIn
 simp only [Bool.and_eq_true, decide_eq_true_eq, and_assoc]
theorem iFits_ev (x : Value) (m : Md) (e : Ev) (b : Bool) (hb : fitB m e.t e.d e.k = b) (w : World) (h : IsM w x m) : Calls Tryz.prog 132 #[x, e.val] w fun r w' => r = .returned (.bool b) ∧ Below w.heap.size w w' := by
 subst hb
 exact fits_any x m e.t e.s e.q e.d e.k e.v e.g w h
set_option maxRecDepth 100000 in
set_option maxHeartbeats 8000000 in
theorem known_any (y : Value) (k : Kn) (a : Option Addr) (cap b : Nat) (l : List Ev) (w : World) (h : IsKern w y k) (hl : l.length ≤ 1048576) (hI : l = [] ∨ ∃ off, a = some ⟨b, off, none⟩ ∧ EvsAt w b off l) (hb : b < w.heap.size) :
  Calls Tryz.prog 125 #[y, .slice a l.length cap] w fun e w' => Says e (∀ i, i < l.length → knB k.m k.t (evAt l i) = true) ∧ Below w.heap.size w w' := by
 obtain ⟨ai, ci, ah, ch, ae, ce, ad, cd, ap, cp, ab, cb, au, cu, ax, cx, rfl, hm, _, _, _, _, _⟩ := h.form
 have HM : Hid (IsM w (.agg #[.int .i64 k.m.n, .int .i64 k.m.s, .slice ai k.m.i.length ci, .slice ah k.m.h.length ch, .slice ae k.m.e.length ce, .int .i64 k.m.z]) k.m) := hm
 clear hm h
 refine (callsIn_wide (n := 5)).1 ?_
 refine callsIn_of_wp_marks Tryz.func125 rfl trivial ?_ rfl
 simp only [Tryz.ntmps125, List.size_toArray, List.length_cons, List.length_nil, Nat.reduceAdd, Nat.reduceSub, Array.replicate_succ, Array.replicate_zero, List.push_toArray, List.append_toArray, List.nil_append, List.cons_append]
 gi_wp2_with (refine ⟨trivial, ?_⟩; gi_at_call 130; refine (callsIn_wide.2 (each_any _ _ _ _)).mono ?_; rintro e w' ⟨rfl, rfl⟩)
 have cK : Bk (((w.alloc (.cells #[.int .i64 k.m.n, .int .i64 k.m.s, .slice ai k.m.i.length ci, .slice ah k.m.h.length ch, .slice ae k.m.e.length ce, .int .i64 k.m.z, .slice ad k.d.length cd, .slice ap k.p.length cp, .slice ab k.b.length cb, .int .i64 k.t, .int .i64 k.q, .bool k.f, .slice au k.s.length cu, .slice ax k.x.length cx] 42)).alloc (.cells #[.bool false] 4)).alloc (.cells #[.slice a l.length cap] 35)) w.heap.size 42 #[.int .i64 k.m.n, .int .i64 k.m.s, .slice ai k.m.i.length ci, .slice ah k.m.h.length ch, .slice ae k.m.e.length ce, .int .i64 k.m.z, .slice ad k.d.length cd, .slice ap k.p.length cp, .slice ab k.b.length cb, .int .i64 k.t, .int .i64 k.q, .bool k.f, .slice au k.s.length cu, .slice ax k.x.length cx] := ((Bk.new w _ _).alloc _).alloc _
 have cR := (Boxed.new (w.alloc (.cells #[.int .i64 k.m.n, .int .i64 k.m.s, .slice ai k.m.i.length ci, .slice ah k.m.h.length ch, .slice ae k.m.e.length ce, .int .i64 k.m.z, .slice ad k.d.length cd, .slice ap k.p.length cp, .slice ab k.b.length cb, .int .i64 k.t, .int .i64 k.q, .bool k.f, .slice au k.s.length cu, .slice ax k.x.length cx] 42)) 4 (.bool false)).alloc (.cells #[.slice a l.length cap] 35)
 have cS := Boxed.new ((w.alloc (.cells #[.int .i64 k.m.n, .int .i64 k.m.s, .slice ai k.m.i.length ci, .slice ah k.m.h.length ch, .slice ae k.m.e.length ce, .int .i64 k.m.z, .slice ad k.d.length cd, .slice ap k.p.length cp, .slice ab k.b.length cb, .int .i64 k.t, .int .i64 k.q, .bool k.f, .slice au k.s.length cu, .slice ax k.x.length cx] 42)).alloc (.cells #[.bool false] 4)) 35 (.slice a l.length cap)
 rw [World.size_alloc] at cR
 rw [World.size_alloc, World.size_alloc] at cS
 have hB0 : Below w.heap.size w (((w.alloc (.cells #[.int .i64 k.m.n, .int .i64 k.m.s, .slice ai k.m.i.length ci, .slice ah k.m.h.length ch, .slice ae k.m.e.length ce, .int .i64 k.m.z, .slice ad k.d.length cd, .slice ap k.p.length cp, .slice ab k.b.length cb, .int .i64 k.t, .int .i64 k.q, .bool k.f, .slice au k.s.length cu, .slice ax k.x.length cx] 42)).alloc (.cells #[.bool false] 4)).alloc (.cells #[.slice a l.length cap] 35)) := (((Below.refl _ w).alloc (Nat.le_refl _) _).alloc (by simp) _).alloc (by simp; omega) _
 refine wpIn_rangeFunc_ownH rfl (by omega) (gf := 174) (lb := #[.pointer (some ⟨w.heap.size + 2, 0, none⟩)]) rfl trivial (enters_of Tryz.func174 (by kernel_rfl) rfl)
  (each_stops Fence.wide 4 trivial rfl (by omega) (w.heap.size + 2) b a cap l hl _ (by simp) cS.cell (hI.imp id (fun ⟨off, e, h⟩ => ⟨off, e, h.below hB0 hb⟩))) Same2.trans (Same2.putObj (by simp) (by simp; omega)) (Below.refl _ _) (fun _ => rfl)
  (fun pre W => ((∀ x ∈ pre, knB k.m k.t (evAt l x.val) = true) ∧ W.cell? ⟨w.heap.size + 1, 0, none⟩ = some (.bool false) ∧ W.frozen? ⟨w.heap.size + 1, 0, none⟩ = false) ∧ Below (w.heap.size + 3) (((w.alloc (.cells #[.int .i64 k.m.n, .int .i64 k.m.s, .slice ai k.m.i.length ci, .slice ah k.m.h.length ch, .slice ae k.m.e.length ce, .int .i64 k.m.z, .slice ad k.d.length cd, .slice ap k.p.length cp, .slice ab k.b.length cb, .int .i64 k.t, .int .i64 k.q, .bool k.f, .slice au k.s.length cu, .slice ax k.x.length cx] 42)).alloc (.cells #[.bool false] 4)).alloc (.cells #[.slice a l.length cap] 35)) W)
  (fun c pre W => (c = .ret ∧ (∃ x : Fin l.length, knB k.m k.t (evAt l x.val) = false) ∧ W.cell? ⟨w.heap.size + 1, 0, none⟩ = some (.bool false)) ∧ Below w.heap.size w W)
  (OwnFrom.and (Own.from (fun s A B row hs hg hr => ⟨hs.1, cell_kept hs.2.1 hg hr, (frozen_kept hs.2.1 hg hr).trans hs.2.2⟩) _) (ownFrom_below (by simp) (by simp)))
  (fun c => OwnFrom.and (Own.from (fun s A B row hs hg hr => ⟨hs.1, hs.2.1, cell_kept hs.2.2 hg hr⟩) _) (ownFrom_below (Nat.le_refl _) (by simp; omega)))
  ⟨⟨by simp, cR.cell, cR.frozen⟩, Below.refl _ _⟩
  (fun x a' W => ∃ Bx, w.heap.size + 3 ≤ Bx ∧ Bx < W.heap.size ∧ Ev.In W Bx 0 (evAt l x.val) ∧ a' = { tmps := #[.agg #[.int .i64 k.m.n, .int .i64 k.m.s, .slice ai k.m.i.length ci, .slice ah k.m.h.length ch, .slice ae k.m.e.length ce, .int .i64 k.m.z, .slice ad k.d.length cd, .slice ap k.p.length cp, .slice ab k.b.length cb, .int .i64 k.t, .int .i64 k.q, .bool k.f, .slice au k.s.length cu, .slice ax k.x.length cx], .slice a l.length cap, .pointer (some ⟨w.heap.size, 0, none⟩), undef, .pointer (some ⟨w.heap.size + 1, 0, none⟩), undef, .pointer (some ⟨Bx, 0, none⟩), .slice a l.length cap, .func (.func 174) #[] #[.pointer (some ⟨w.heap.size + 2, 0, none⟩)], .int .i64 ((x.val : Nat) : Int), (evAt l x.val).val, undef, undef, undef, undef, undef, undef, undef, undef, undef, undef, undef, undef, undef, undef, undef, undef, undef], defers := [] })
  (fun x a' s A B row hs hg hr => by obtain ⟨Bx, h1, h2, h3, h4⟩ := hs; exact ⟨Bx, h1, Nat.lt_of_lt_of_le h2 hg.size, h3.kept hg (fun r e => (hr r e).2), h4⟩) ?assign ?body ?done ?stop
 case assign =>
  rintro lp pre x W K ⟨⟨hp, hc, hf⟩, hB⟩ hK
  gi_wp2
  have hz : w.heap.size + 2 < W.heap.size := by have := hB.size; simp at this; omega
  have hBW : Below W.heap.size W (W.alloc (.cells #[.int .i64 (evAt l x.val).t, .int .i64 (evAt l x.val).s, .int .i64 (evAt l x.val).q, .int .i64 (evAt l x.val).d, .int .i64 (evAt l x.val).k, .int .i64 (evAt l x.val).v, .int .i64 (evAt l x.val).g] 47)) := (Below.refl _ W).alloc (Nat.le_refl _) _
  exact hK _ _ ((KeepsOthers.alloc _ _).from _) (Same2.below hBW hz (by omega)) ⟨⟨hp, (hBW.cell (p := ⟨w.heap.size + 1, 0, none⟩) (by simp; omega)).trans hc, (hBW.frozen (p := ⟨w.heap.size + 1, 0, none⟩) (by simp; omega)).trans hf⟩, hB.trans (hBW.mono (by omega))⟩ ⟨W.heap.size, by omega, by simp, EvAt.new _ _ _ _ _ _ _ _ _, rfl⟩
 case body =>
  rintro lp pre x a' W hlp _ ⟨⟨hp, hc, hf⟩, hB⟩ ⟨Bx, h1, h2, h3, rfl⟩ hlt
  have hz : w.heap.size + 2 < W.heap.size := by have := hB.size; simp at this; omega
  obtain ⟨f0, f1, f2, f3, f4, f5, f6⟩ := h3.lits
  have HP : Hid (∀ x ∈ pre, knB k.m k.t (evAt l x.val) = true) := hp
  have HB : Hid (Below (w.heap.size + 3) (((w.alloc (.cells #[.int .i64 k.m.n, .int .i64 k.m.s, .slice ai k.m.i.length ci, .slice ah k.m.h.length ch, .slice ae k.m.e.length ce, .int .i64 k.m.z, .slice ad k.d.length cd, .slice ap k.p.length cp, .slice ab k.b.length cb, .int .i64 k.t, .int .i64 k.q, .bool k.f, .slice au k.s.length cu, .slice ax k.x.length cx] 42)).alloc (.cells #[.bool false] 4)).alloc (.cells #[.slice a l.length cap] 35)) W) := hB
  have HB0 : Hid (Below w.heap.size w (((w.alloc (.cells #[.int .i64 k.m.n, .int .i64 k.m.s, .slice ai k.m.i.length ci, .slice ah k.m.h.length ch, .slice ae k.m.e.length ce, .int .i64 k.m.z, .slice ad k.d.length cd, .slice ap k.p.length cp, .slice ab k.b.length cb, .int .i64 k.t, .int .i64 k.q, .bool k.f, .slice au k.s.length cu, .slice ax k.x.length cx] 42)).alloc (.cells #[.bool false] 4)).alloc (.cells #[.slice a l.length cap] 35))) := hB0
  have HBW : Hid (Below w.heap.size w W) := hB0.trans (hB.mono (by omega))
  have HKW : Hid (Bk W w.heap.size 42 #[.int .i64 k.m.n, .int .i64 k.m.s, .slice ai k.m.i.length ci, .slice ah k.m.h.length ch, .slice ae k.m.e.length ce, .int .i64 k.m.z, .slice ad k.d.length cd, .slice ap k.p.length cp, .slice ab k.b.length cb, .int .i64 k.t, .int .i64 k.q, .bool k.f, .slice au k.s.length cu, .slice ax k.x.length cx]) := (hB.block w.heap.size (by omega)).trans cK
  have HEW : Hid (Ev.In W Bx 0 (evAt l x.val)) := h3
  clear hp hB h3 cR cS hI hB0 cK
  generalize (((w.alloc (.cells #[.int .i64 k.m.n, .int .i64 k.m.s, .slice ai k.m.i.length ci, .slice ah k.m.h.length ch, .slice ae k.m.e.length ce, .int .i64 k.m.z, .slice ad k.d.length cd, .slice ap k.p.length cp, .slice ab k.b.length cb, .int .i64 k.t, .int .i64 k.q, .bool k.f, .slice au k.s.length cu, .slice ax k.x.length cx] 42)).alloc (.cells #[.bool false] 4)).alloc (.cells #[.slice a l.length cap] 35)) = W9 at HB HB0
  cases hok : (evAt l x.val).ok
  ·have K1 : Hid ((evAt l x.val).ok = false) := hok
   clear hok
   gi_wp2_with (refine ⟨trivial, ?_⟩; gi_at_call 131; refine (CallsIn.inRound lp (callsIn_wide.2 (iOk_ev (evAt l x.val) false K1.out _))).mono ?_; rintro e w2 ⟨rfl, hb2⟩; have hc2 := (hb2.cell (p := ⟨w.heap.size + 1, 0, none⟩) (by simp; omega)).trans hc; have hf2 := (hb2.frozen (p := ⟨w.heap.size + 1, 0, none⟩) (by simp; omega)).trans hf)
   refine ⟨trivial, ?_⟩
   gi_wp2
   exact ⟨((keepsOthers_of_below hb2).trans (KeepsOthers.setCell _ _ _)).from _, ⟨rfl, ⟨x, by unfold knB evIn; rw [K1.out]; rfl⟩, World.cell?_setCell_same' _ _ _ (by rw [hc2]; rfl)⟩, (HBW.out.trans (Below.mono hb2 (by omega))).setCell (p := ⟨w.heap.size + 1, 0, none⟩) (by simp) _⟩
  ·have K1 : Hid ((evAt l x.val).ok = true) := hok
   clear hok
   cases hfi : fitB k.m (evAt l x.val).t (evAt l x.val).d (evAt l x.val).k
   ·have K2 : Hid (fitB k.m (evAt l x.val).t (evAt l x.val).d (evAt l x.val).k = false) := hfi
    clear hfi
    gi_wp2_with (first | (refine ⟨trivial, ?_⟩; gi_at_call 131; refine (CallsIn.inRound lp (callsIn_wide.2 (iOk_ev (evAt l x.val) true K1.out _))).mono ?_; rintro e w2 ⟨rfl, hb2⟩; have hc2 := (hb2.cell (p := ⟨w.heap.size + 1, 0, none⟩) (by simp; omega)).trans hc; have hf2 := (hb2.frozen (p := ⟨w.heap.size + 1, 0, none⟩) (by simp; omega)).trans hf; have k0 := (HKW.out.below hb2).cell (i := 0) rfl; have k1 := (HKW.out.below hb2).cell (i := 1) rfl; have k2 := (HKW.out.below hb2).cell (i := 2) rfl; have k3 := (HKW.out.below hb2).cell (i := 3) rfl; have k4 := (HKW.out.below hb2).cell (i := 4) rfl; have k5 := (HKW.out.below hb2).cell (i := 5) rfl; obtain ⟨u0, u1, u2, u3, u4, u5, u6⟩ := (HEW.out.below hb2 h2).lits) | (refine ⟨trivial, ?_⟩; gi_at_call 132; refine (CallsIn.inRound lp (callsIn_wide.2 (iFits_ev _ k.m (evAt l x.val) false K2.out _ (HM.out.below (HBW.out.trans (hb2.mono HBW.out.size)))))).mono ?_; rintro e w5 ⟨rfl, hb5⟩; have hc5 := (hb5.cell (p := ⟨w.heap.size + 1, 0, none⟩) (by have := hb2.size; simp; omega)).trans hc2; have hf5 := (hb5.frozen (p := ⟨w.heap.size + 1, 0, none⟩) (by have := hb2.size; simp; omega)).trans hf2))
    exact ⟨((keepsOthers_of_below (hb2.trans (hb5.mono hb2.size))).trans (KeepsOthers.setCell _ _ _)).from _, ⟨rfl, ⟨x, by unfold knB evIn; rw [K1.out, K2.out]; rfl⟩, World.cell?_setCell_same' _ _ _ (by rw [hc5]; rfl)⟩, (HBW.out.trans (Below.mono (hb2.trans (hb5.mono hb2.size)) (by omega))).setCell (p := ⟨w.heap.size + 1, 0, none⟩) (by simp) _⟩
   ·have K2 : Hid (fitB k.m (evAt l x.val).t (evAt l x.val).d (evAt l x.val).k = true) := hfi
    clear hfi
    by_cases hg : (evAt l x.val).g < k.t
    case neg =>
     have hg' : k.t ≤ (evAt l x.val).g := by omega
     have K3 : Hid (decide ((evAt l x.val).g < k.t) = false) := decide_eq_false hg
     clear hg
     gi_wp2_with (first | (refine ⟨trivial, ?_⟩; gi_at_call 131; refine (CallsIn.inRound lp (callsIn_wide.2 (iOk_ev (evAt l x.val) true K1.out _))).mono ?_; rintro e w2 ⟨rfl, hb2⟩; have hc2 := (hb2.cell (p := ⟨w.heap.size + 1, 0, none⟩) (by simp; omega)).trans hc; have hf2 := (hb2.frozen (p := ⟨w.heap.size + 1, 0, none⟩) (by simp; omega)).trans hf; have k0 := (HKW.out.below hb2).cell (i := 0) rfl; have k1 := (HKW.out.below hb2).cell (i := 1) rfl; have k2 := (HKW.out.below hb2).cell (i := 2) rfl; have k3 := (HKW.out.below hb2).cell (i := 3) rfl; have k4 := (HKW.out.below hb2).cell (i := 4) rfl; have k5 := (HKW.out.below hb2).cell (i := 5) rfl; obtain ⟨u0, u1, u2, u3, u4, u5, u6⟩ := (HEW.out.below hb2 h2).lits) | (refine ⟨trivial, ?_⟩; gi_at_call 132; refine (CallsIn.inRound lp (callsIn_wide.2 (iFits_ev _ k.m (evAt l x.val) true K2.out _ (HM.out.below (HBW.out.trans (hb2.mono HBW.out.size)))))).mono ?_; rintro e w5 ⟨rfl, hb5⟩; have hc5 := (hb5.cell (p := ⟨w.heap.size + 1, 0, none⟩) (by have := hb2.size; simp; omega)).trans hc2; have hf5 := (hb5.frozen (p := ⟨w.heap.size + 1, 0, none⟩) (by have := hb2.size; simp; omega)).trans hf2; have k9 := (HKW.out.below (hb2.trans (hb5.mono hb2.size))).cell (i := 9) rfl; obtain ⟨t0, t1, t2, t3, t4, t5, t6⟩ := (HEW.out.below (hb2.trans (hb5.mono hb2.size)) h2).lits))
     exact ⟨((keepsOthers_of_below (hb2.trans (hb5.mono hb2.size))).trans (KeepsOthers.setCell _ _ _)).from _, ⟨rfl, ⟨x, by unfold knB; rw [K3.out, Bool.and_false]⟩, World.cell?_setCell_same' _ _ _ (by rw [hc5]; rfl)⟩, (HBW.out.trans (Below.mono (hb2.trans (hb5.mono hb2.size)) (by omega))).setCell (p := ⟨w.heap.size + 1, 0, none⟩) (by simp) _⟩
    have hg' : ¬ k.t ≤ (evAt l x.val).g := by omega
    have K3 : Hid ((evAt l x.val).g < k.t) := hg
    clear hg
    gi_wp2_with (first | (refine ⟨trivial, ?_⟩; gi_at_call 131; refine (CallsIn.inRound lp (callsIn_wide.2 (iOk_ev (evAt l x.val) true K1.out _))).mono ?_; rintro e w2 ⟨rfl, hb2⟩; have hc2 := (hb2.cell (p := ⟨w.heap.size + 1, 0, none⟩) (by simp; omega)).trans hc; have hf2 := (hb2.frozen (p := ⟨w.heap.size + 1, 0, none⟩) (by simp; omega)).trans hf; have k0 := (HKW.out.below hb2).cell (i := 0) rfl; have k1 := (HKW.out.below hb2).cell (i := 1) rfl; have k2 := (HKW.out.below hb2).cell (i := 2) rfl; have k3 := (HKW.out.below hb2).cell (i := 3) rfl; have k4 := (HKW.out.below hb2).cell (i := 4) rfl; have k5 := (HKW.out.below hb2).cell (i := 5) rfl; obtain ⟨u0, u1, u2, u3, u4, u5, u6⟩ := (HEW.out.below hb2 h2).lits) | (refine ⟨trivial, ?_⟩; gi_at_call 132; refine (CallsIn.inRound lp (callsIn_wide.2 (iFits_ev _ k.m (evAt l x.val) true K2.out _ (HM.out.below (HBW.out.trans (hb2.mono HBW.out.size)))))).mono ?_; rintro e w5 ⟨rfl, hb5⟩; have hc5 := (hb5.cell (p := ⟨w.heap.size + 1, 0, none⟩) (by have := hb2.size; simp; omega)).trans hc2; have hf5 := (hb5.frozen (p := ⟨w.heap.size + 1, 0, none⟩) (by have := hb2.size; simp; omega)).trans hf2; have k9 := (HKW.out.below (hb2.trans (hb5.mono hb2.size))).cell (i := 9) rfl; obtain ⟨t0, t1, t2, t3, t4, t5, t6⟩ := (HEW.out.below (hb2.trans (hb5.mono hb2.size)) h2).lits))
    exact ⟨(keepsOthers_of_below (hb2.trans (hb5.mono hb2.size))).from _, Same2.below (hb2.trans (hb5.mono hb2.size)) hz (by omega), ⟨fun y hy => (List.mem_append.1 hy).elim (HP.out y) (fun e => by simp at e; subst e; exact knB_iff.2 ⟨K1.out, K2.out, K3.out⟩), hc5, hf5⟩, HB.out.trans (Below.mono (hb2.trans (hb5.mono hb2.size)) (by omega))⟩
 case done =>
  rintro D ys W hD rfl ⟨⟨hp, hc, hf⟩, hB⟩ hK
  have HP : Hid (∀ x ∈ List.finRange l.length, knB k.m k.t (evAt l x.val) = true) := hp
  clear hp
  gi_wp2
  have hK' := (KeepsOthers.setCell W ⟨w.heap.size + 1, 0, none⟩ (.bool true)).same D _ hK rfl
  refine ⟨by simp, .inl ⟨_, _, rfl, run_takeDeferred hK', ?_⟩⟩
  have hc5 := cell_kept (World.cell?_setCell_same' W ⟨w.heap.size + 1, 0, none⟩ (.bool true) (by rw [hc]; rfl)) (grownBy_putObj' _ D (.deferred none)) (fun r e => by cases e; exact ⟨_, hK', rfl⟩)
  refine ⟨.bool true, ?_, Says.yes (fun i hi => HP.out ⟨i, hi⟩ (List.mem_finRange _)), ((hB0.trans (hB.mono (by omega))).setCell (p := ⟨w.heap.size + 1, 0, none⟩) (by simp) _).trans (belowK_b (w := w) (Nat.le_refl _) _ D _ _ (by simp at hD; omega) hK' rfl rfl)⟩
  simp [results, Tryz.f125, go_sem, hc5]
 case stop =>
  rintro D c pre W hD _ ⟨⟨rfl, ⟨x, hx⟩, hc⟩, hB⟩ hK
  have HX : Hid (knB k.m k.t (evAt l x.val) = false) := hx
  clear hx
  gi_wp2
  refine ⟨by simp, .inl ⟨_, _, rfl, run_takeDeferred hK, ?_⟩⟩
  have hc5 := cell_kept hc (grownBy_putObj' _ D (.deferred none)) (fun r e => by cases e; exact ⟨_, hK, rfl⟩)
  refine ⟨.bool false, ?_, Says.no (fun h => by have := h x.val x.isLt; rw [HX.out] at this; cases this), hB.trans (belowK_b (w := w) (Nat.le_refl _) W D _ _ (by simp at hD; omega) hK rfl rfl)⟩
  simp [results, Tryz.f125, go_sem, hc5]
end Go.Proofs.YtnlhcdchmgfipaaGreat

