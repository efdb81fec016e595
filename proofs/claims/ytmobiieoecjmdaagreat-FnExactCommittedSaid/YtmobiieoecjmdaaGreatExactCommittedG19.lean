/- NCm, SoE, SrC, SrD, TPp, KMl, XSz -/
import Derived.Test.YtmobiieoecjmdaaGreatExactCommittedG12
import Derived.Sort.Statements
import Derived.Sort.Grow
import Derived.Deep.Draws
import Derived.Test.YtmobiieoecjmdaaGreatExactCommittedG06
import Derived.Test.YtmobiieoecjmdaaGreatExactCommittedG18
import Derived.Test.YtmobiieoecjmdaaGreatExactCommittedG01
import Derived.Test.YtmobiieoecjmdaaGreatExactCommittedG05
import Derived.Test.YtmobiieoecjmdaaGreatExactCommittedG04
import Derived.Deep.RegionHeld3
import Derived.Test.YtmobiieoecjmdaaGreatExactCommittedG03
/- The program's EventCmp at two events that are fit: what it lays, and that it draws. -/
namespace Go.Proofs.YtmobiieoecjmdaaGreat
open Go.RowKit
set_option maxHeartbeats 2000000 in
theorem iOkD (t s q d k v g:Int) (h:okB t s q d k v g=true) (w:World):
  Calls Tryz.prog 164 #[.agg #[.int .i64 t,.int .i64 s,.int .i64 q,.int .i64 d,.int .i64 k,.int .i64 v,.int .i64 g]] w fun e w'=>
   e= .returned (.bool true)∧Below w.heap.size w w'∧w.drawn≤w'.drawn:=by
 rw [←h]
 clear h
 go_enter Tryz.func164,Tryz.ntmps164
 go_wp2
 all_goals
  go_ret
  refine⟨?_,(Below.refl _ _).alloc (Nat.le_refl _) _,Nat.le_refl _⟩
  first|exact ret_dec (by simp [okB];omega)|exact ret_bool (by simp [okB];omega)
set_option maxHeartbeats 2000000 in
theorem iCmpD (t s q d k v g t' s' q' d' k' v' g':Int) (h1:okB t s q d k v g=true) (h2:okB t' s' q' d' k' v' g'=true) (w:World):
  Calls Tryz.prog 123 #[.agg #[.int .i64 t,.int .i64 s,.int .i64 q,.int .i64 d,.int .i64 k,.int .i64 v,.int .i64 g],.agg #[.int .i64 t',.int .i64 s',.int .i64 q',.int .i64 d',.int .i64 k',.int .i64 v',.int .i64 g']] w fun e w'=>
   e= .returned (.int .i64 (cmpI t s q g t' s' q' g'))∧Below w.heap.size w w'∧w.drawn≤w'.drawn:=by
 have H1:Hid (okB t s q d k v g=true):=h1
 have H2:Hid (okB t' s' q' d' k' v' g'=true):=h2
 clear h1 h2
 go_enter Tryz.func123,Tryz.ntmps123
 go_wp2_with fail
 refine(iOkD t s q d k v g H1.out _).mono ?_
 rintro e w1 ⟨rfl,hb1,hd1⟩
 obtain⟨hc,hf⟩:=bcell hb1
 go_wp2_with fail
 refine(iOkD t' s' q' d' k' v' g' H2.out _).mono ?_
 rintro e w2 ⟨rfl,hb2,hd2⟩
 have hz1:w.heap.size+1<w1.heap.size:=by have:=hb1.size;simp at this;omega
 have hz2:w.heap.size+1<w2.heap.size:=by have:=hb2.size;omega
 obtain⟨hc2,hf2⟩:=bcell hb2
 have f0:w2.cell? ⟨w.heap.size,0,none⟩=some (.int .i64 t):=by rw [hc2 _ _ (by omega),hc _ _ (by simp;omega)];simp
 have f1:w2.cell? ⟨w.heap.size,1,none⟩=some (.int .i64 s):=by rw [hc2 _ _ (by omega),hc _ _ (by simp;omega)];simp
 have f2:w2.cell? ⟨w.heap.size,2,none⟩=some (.int .i64 q):=by rw [hc2 _ _ (by omega),hc _ _ (by simp;omega)];simp
 have f6:w2.cell? ⟨w.heap.size,6,none⟩=some (.int .i64 g):=by rw [hc2 _ _ (by omega),hc _ _ (by simp;omega)];simp
 have e0:w2.cell? ⟨w.heap.size+1,0,none⟩=some (.int .i64 t'):=by rw [hc2 _ _ (by omega),hc _ _ (by simp)];simp
 have e1:w2.cell? ⟨w.heap.size+1,1,none⟩=some (.int .i64 s'):=by rw [hc2 _ _ (by omega),hc _ _ (by simp)];simp
 have e2:w2.cell? ⟨w.heap.size+1,2,none⟩=some (.int .i64 q'):=by rw [hc2 _ _ (by omega),hc _ _ (by simp)];simp
 have e6:w2.cell? ⟨w.heap.size+1,6,none⟩=some (.int .i64 g'):=by rw [hc2 _ _ (by omega),hc _ _ (by simp)];simp
 have hB:Below w.heap.size w w2:=((((Below.refl _ _).alloc (Nat.le_refl _) _).alloc (by simp) _).trans (hb1.mono (by simp;omega))).trans (hb2.mono (by omega))
 have HDR:Hid (w.drawn≤w2.drawn+1):=(by have h9:w.drawn≤w1.drawn:=hd1;exact Nat.le_succ_of_le (Nat.le_trans h9 hd2):w.drawn≤w2.drawn+1)
 clear hc hf hc2 hf2 hb1 hb2 hz1 hd1 hd2
 go_wp2_with fail
 go_region_held3 (fun W=>W.cell? ⟨w.heap.size,0,none⟩=some (.int .i64 t)∧W.cell? ⟨w.heap.size,1,none⟩=some (.int .i64 s)∧W.cell? ⟨w.heap.size,2,none⟩=some (.int .i64 q)∧W.cell? ⟨w.heap.size,6,none⟩=some (.int .i64 g)∧W.cell? ⟨w.heap.size+1,0,none⟩=some (.int .i64 t')∧W.cell? ⟨w.heap.size+1,1,none⟩=some (.int .i64 s')∧W.cell? ⟨w.heap.size+1,2,none⟩=some (.int .i64 q')∧W.cell? ⟨w.heap.size+1,6,none⟩=some (.int .i64 g')) (go_keep)
  (first
   |(go_at_call 174;refine(compare_any _ _ _).mono ?_;rintro e w' ⟨rfl,rfl⟩)
   |(go_at_call 173;refine(or_any _ _ [num t t',num s s',num q q',num g g'] _ ?_ ?_).mono ?_;(simp [maxLen]);(intro i hi;have h4:i=0∨i=1∨i=2∨i=3:=(by simp at hi;omega);rcases h4 with rfl|rfl|rfl|rfl<;>simp);rintro e w' ⟨rfl,rfl⟩))
 go_wp2
 go_ret
 exact⟨ret_int (by rw [orL_cmp]),hB.drew.alloc (by simp;omega) _,HDR.out⟩
theorem cmp_lt_iff (a b:Ev):a.cmp b<0↔a.t<b.t∨a.t=b.t∧(a.s<b.s∨a.s=b.s∧(a.q<b.q∨a.q=b.q∧a.g<b.g)):=cmpI_lt _ _ _ _ _ _ _ _
theorem lay_of {W w':World} (h:Below W.heap.size W w') (hd:W.drawn≤w'.drawn):∃q os',w'=Go.Sort.grow (W.drewN q) os':=by
 refine⟨w'.drawn-W.drawn,w'.heap.extract W.heap.size w'.heap.size,?_⟩
 have hh:w'.heap=W.heap++w'.heap.extract W.heap.size w'.heap.size:=by
  refine Array.ext_getElem? fun k=> ?_
  by_cases hk:k<W.heap.size
  ·rw [Array.getElem?_append_left hk]
   exact h.block k hk
  ·rw [Array.getElem?_append_right (by omega),Array.getElem?_extract]
   by_cases hk2:k<w'.heap.size
   ·rw [if_pos (by omega),show W.heap.size+(k-W.heap.size)=k by omega]
   ·rw [if_neg (by omega),Array.getElem?_eq_none (by omega)]
 obtain⟨hp,tp,dr,os,ou⟩:=w'
 have h1:=h.os
 have h2:=h.tape
 have h3:=h.output
 dsimp only at h1 h2 h3 hh hd⊢
 unfold Go.Sort.grow World.drewN
 subst h1 h2 h3
 dsimp only
 rw [←hh,show W.drawn+(dr-W.drawn)=dr by omega]
def slB (v:Value):Prop:=∃a n c,v= .slice a n c
abbrev PsF:Type:= {c:Ps×Value×Value×Value//c.1.e.ok=true∧slB c.2.1∧slB c.2.2.1∧slB c.2.2.2}
def encP (c:PsF):List Value:=pastL c.1.1 c.1.2.1 c.1.2.2.1 c.1.2.2.2
theorem encP_len (c:PsF):(encP c).length=12:=rfl
theorem encP_one (c:PsF):∀v∈encP c,v.oneCell'=true:=by
 obtain⟨⟨p,v7,v10,v11⟩,h,⟨a,n,k,e7⟩,⟨a',n',k',e10⟩,⟨a'',n'',k'',e11⟩⟩:=c
 dsimp only at e7 e10 e11
 subst e7 e10 e11
 intro v hv
 simp [encP,pastL]at hv
 rcases hv with rfl|rfl|rfl|rfl|rfl|rfl|rfl|rfl|rfl|rfl|rfl|rfl<;>rfl
abbrev cmpP (x y:PsF):Int:=x.1.1.e.cmp y.1.1.e
theorem swoP:Go.Sort.SWO (fun x y:PsF=>decide (cmpP x y<0)) where
 irrefl x:=by simp only [decide_eq_false_iff_not,cmp_lt_iff];omega
 trans x y z h1 h2:=by simp only [decide_eq_true_eq,cmp_lt_iff]at*;omega
 ntrans x y z h1 h2:=by simp only [decide_eq_false_iff_not,cmp_lt_iff]at*;omega
set_option maxRecDepth 100000 in
set_option maxHeartbeats 4000000 in
theorem psCmpD (x y:PsF) (w:World):
  Calls Tryz.prog 122 #[.agg (encP x).toArray,.agg (encP y).toArray] w fun e w'=>e= .returned (.int .i64 (cmpP x y))∧Below w.heap.size w w'∧w.drawn≤w'.drawn:=by
 obtain⟨⟨p,v7,v10,v11⟩,hp,⟨a7,n7,c7,e7⟩,⟨a10,n10,c10,e10⟩,⟨a11,n11,c11,e11⟩⟩:=x
 dsimp only at e7 e10 e11
 subst e7 e10 e11
 obtain⟨⟨q,u7,u10,u11⟩,hq,⟨b7,m7,d7,e7⟩,⟨b10,m10,d10,e10⟩,⟨b11,m11,d11,e11⟩⟩:=y
 dsimp only at e7 e10 e11
 subst e7 e10 e11
 have HP:Hid (p.e.ok=true):=hp
 have HQ:Hid (q.e.ok=true):=hq
 show Calls Tryz.prog 122 #[.agg #[.int .i64 p.e.t,.int .i64 p.e.s,.int .i64 p.e.q,.int .i64 p.e.d,.int .i64 p.e.k,.int .i64 p.e.v,.int .i64 p.e.g,.slice a7 n7 c7,.int .i64 p.b.q,.int .i64 p.b.d,.slice a10 n10 c10,.slice a11 n11 c11],.agg #[.int .i64 q.e.t,.int .i64 q.e.s,.int .i64 q.e.q,.int .i64 q.e.d,.int .i64 q.e.k,.int .i64 q.e.v,.int .i64 q.e.g,.slice b7 m7 d7,.int .i64 q.b.q,.int .i64 q.b.d,.slice b10 m10 d10,.slice b11 m11 d11]] w fun e w'=>e= .returned (.int .i64 (p.e.cmp q.e))∧Below w.heap.size w w'∧w.drawn≤w'.drawn
 clear hp hq
 obtain⟨W0,hW0⟩:∃W0,(w.alloc (.cells #[.int .i64 p.e.t,.int .i64 p.e.s,.int .i64 p.e.q,.int .i64 p.e.d,.int .i64 p.e.k,.int .i64 p.e.v,.int .i64 p.e.g,.slice a7 n7 c7,.int .i64 p.b.q,.int .i64 p.b.d,.slice a10 n10 c10,.slice a11 n11 c11] 115)).alloc (.cells #[.int .i64 q.e.t,.int .i64 q.e.s,.int .i64 q.e.q,.int .i64 q.e.d,.int .i64 q.e.k,.int .i64 q.e.v,.int .i64 q.e.g,.slice b7 m7 d7,.int .i64 q.b.q,.int .i64 q.b.d,.slice b10 m10 d10,.slice b11 m11 d11] 115)=W0:=⟨_,rfl⟩
 have HB0:Hid (Below w.heap.size w W0):=hW0▸((Below.refl _ w).alloc (Nat.le_refl _) _).alloc (by simp) _
 have HD0:Hid (w.drawn≤W0.drawn):=hW0▸Nat.le_refl _
 have B1:Bk W0 w.heap.size 115 #[.int .i64 p.e.t,.int .i64 p.e.s,.int .i64 p.e.q,.int .i64 p.e.d,.int .i64 p.e.k,.int .i64 p.e.v,.int .i64 p.e.g,.slice a7 n7 c7,.int .i64 p.b.q,.int .i64 p.b.d,.slice a10 n10 c10,.slice a11 n11 c11]:=hW0▸(Bk.new w _ _).alloc _
 have B2:Bk W0 (w.heap.size+1) 115 #[.int .i64 q.e.t,.int .i64 q.e.s,.int .i64 q.e.q,.int .i64 q.e.d,.int .i64 q.e.k,.int .i64 q.e.v,.int .i64 q.e.g,.slice b7 m7 d7,.int .i64 q.b.q,.int .i64 q.b.d,.slice b10 m10 d10,.slice b11 m11 d11]:=hW0▸Bk.newAt (by simp) _ _
 have x0:=B1.cell (i:=0) rfl
 have x1:=B1.cell (i:=1) rfl
 have x2:=B1.cell (i:=2) rfl
 have x3:=B1.cell (i:=3) rfl
 have x4:=B1.cell (i:=4) rfl
 have x5:=B1.cell (i:=5) rfl
 have x6:=B1.cell (i:=6) rfl
 have y0:=B2.cell (i:=0) rfl
 have y1:=B2.cell (i:=1) rfl
 have y2:=B2.cell (i:=2) rfl
 have y3:=B2.cell (i:=3) rfl
 have y4:=B2.cell (i:=4) rfl
 have y5:=B2.cell (i:=5) rfl
 have y6:=B2.cell (i:=6) rfl
 clear B1 B2
 go_enter Tryz.func122,Tryz.ntmps122
 go_wp2_with fail
 clear hW0 x0 x1 x2 x3 x4 x5 x6 y0 y1 y2 y3 y4 y5 y6
 refine(iCmpD p.e.t p.e.s p.e.q p.e.d p.e.k p.e.v p.e.g q.e.t q.e.s q.e.q q.e.d q.e.k q.e.v q.e.g HP.out HQ.out _).mono ?_
 rintro r w1 ⟨rfl,hb,hd⟩
 have HB1:Hid (Below w.heap.size w w1):=HB0.out.trans (hb.mono HB0.out.size)
 have HD1:Hid (w.drawn≤w1.drawn):=Nat.le_trans HD0.out hd
 clear hb hd
 go_wp2
 go_ret
 exact⟨rfl,HB1.out,HD1.out⟩
end Go.Proofs.YtmobiieoecjmdaaGreat

/- slices.SortFunc over pasts that one owns. -/
namespace Go.Proofs.YtmobiieoecjmdaaGreat
open Go.RowKit Go.Shelf Go.Lib Go.Sort
def cellsP:List PsF→List Value
 | []=> []
 |x::l=>encP x++cellsP l
theorem cellsP_length:∀l:List PsF,(cellsP l).length=l.length*12
 | []=>rfl
 |x::l=>by
  show(encP x++cellsP l).length=_
  rw [List.length_append,cellsP_length l,encP_len,List.length_cons]
  omega
theorem cellsP_append:∀l m:List PsF,cellsP (l++m)=cellsP l++cellsP m
 | [],m=>rfl
 |x::l,m=>by
  show encP x++cellsP (l++m)=encP x++cellsP l++cellsP m
  rw [cellsP_append l m,List.append_assoc]
theorem cellsP_one (l:List PsF):∀v∈cellsP l,v.oneCell'=true:=by
 induction l with
 |nil=>intro v hv;cases hv
 |cons x l ih=>
  intro v hv
  rcases List.mem_append.1 (show v∈encP x++cellsP l from hv)with h|h
  ·exact encP_one x v h
  ·exact ih v h
def psOf (l:List PsF):List Ps:=l.map (fun x=>x.1.1)
theorem psOf_length (l:List PsF):(psOf l).length=l.length:=by simp [psOf]
def PsR (w:World) (x:PsF):Prop:=IsD w x.1.2.1 (intsD x.1.1.b.r)∧IsD w x.1.2.2.1 (evsD x.1.1.s)∧IsD w x.1.2.2.2 (emsD x.1.1.x)
theorem slB_of {w:World} {u:Value} {c n:Nat} {f:Nat→Dat} (h:IsD w u (.row c n f)):slB u:=by
 obtain⟨a,cap,rfl,_⟩:=IsD.len h
 exact⟨_,_,_,rfl⟩
theorem cells_of {w:World}:∀{l:List Ps} {cs:List Value},(∀p∈l,p.e.ok=true)→cs.length=l.length*12→(∀j,j<l.length*12→IsD w (nthV cs j) (pastsD_f l j))→ ∃L:List PsF,psOf L=l∧cellsP L=cs∧ ∀x∈L,PsR w x
 | [],cs,_,hl,_=>by
  obtain rfl:cs= []:=List.eq_nil_of_length_eq_zero (by simpa using hl)
  exact⟨[],rfl,rfl,fun x hx=>by cases hx⟩
 |p::l,cs,hok,hl,hd=>by
  rcases cs with _|⟨c0,cs⟩
  ·simp only [List.length_nil,List.length_cons]at hl;omega
  rcases cs with _|⟨c1,cs⟩
  ·simp only [List.length_nil,List.length_cons]at hl;omega
  rcases cs with _|⟨c2,cs⟩
  ·simp only [List.length_nil,List.length_cons]at hl;omega
  rcases cs with _|⟨c3,cs⟩
  ·simp only [List.length_nil,List.length_cons]at hl;omega
  rcases cs with _|⟨c4,cs⟩
  ·simp only [List.length_nil,List.length_cons]at hl;omega
  rcases cs with _|⟨c5,cs⟩
  ·simp only [List.length_nil,List.length_cons]at hl;omega
  rcases cs with _|⟨c6,cs⟩
  ·simp only [List.length_nil,List.length_cons]at hl;omega
  rcases cs with _|⟨c7,cs⟩
  ·simp only [List.length_nil,List.length_cons]at hl;omega
  rcases cs with _|⟨c8,cs⟩
  ·simp only [List.length_nil,List.length_cons]at hl;omega
  rcases cs with _|⟨c9,cs⟩
  ·simp only [List.length_nil,List.length_cons]at hl;omega
  rcases cs with _|⟨c10,cs⟩
  ·simp only [List.length_nil,List.length_cons]at hl;omega
  rcases cs with _|⟨c11,cs⟩
  ·simp only [List.length_nil,List.length_cons]at hl;omega
  obtain rfl:=(show IsD w c0 (.val (.int .i64 p.e.t))from hd 0 (by simp only [List.length_cons];omega)).val_eq
  obtain rfl:=(show IsD w c1 (.val (.int .i64 p.e.s))from hd 1 (by simp only [List.length_cons];omega)).val_eq
  obtain rfl:=(show IsD w c2 (.val (.int .i64 p.e.q))from hd 2 (by simp only [List.length_cons];omega)).val_eq
  obtain rfl:=(show IsD w c3 (.val (.int .i64 p.e.d))from hd 3 (by simp only [List.length_cons];omega)).val_eq
  obtain rfl:=(show IsD w c4 (.val (.int .i64 p.e.k))from hd 4 (by simp only [List.length_cons];omega)).val_eq
  obtain rfl:=(show IsD w c5 (.val (.int .i64 p.e.v))from hd 5 (by simp only [List.length_cons];omega)).val_eq
  obtain rfl:=(show IsD w c6 (.val (.int .i64 p.e.g))from hd 6 (by simp only [List.length_cons];omega)).val_eq
  have h7:IsD w c7 (intsD p.b.r):=hd 7 (by simp only [List.length_cons];omega)
  obtain rfl:=(show IsD w c8 (.val (.int .i64 p.b.q))from hd 8 (by simp only [List.length_cons];omega)).val_eq
  obtain rfl:=(show IsD w c9 (.val (.int .i64 p.b.d))from hd 9 (by simp only [List.length_cons];omega)).val_eq
  have h10:IsD w c10 (evsD p.s):=hd 10 (by simp only [List.length_cons];omega)
  have h11:IsD w c11 (emsD p.x):=hd 11 (by simp only [List.length_cons];omega)
  obtain⟨L,e1,e2,e3⟩:=cells_of (l:=l) (cs:=cs) (fun q hq=>hok q (List.mem_cons_of_mem _ hq)) (by simp only [List.length_cons]at hl;omega) (fun j hj=>by
   have h:=hd (12+j) (by simp only [List.length_cons];omega)
   have ef:pastsD_f (p::l) (12+j)=pastsD_f l j:=by
    unfold pastsD_f
    rw [show(12+j)/12=j/12+1 by omega,show(12+j)%12=j%12 by omega]
    rfl
   rw [ef]at h
   have en:∀a:List Value,a.length=12→nthV (a++cs) (12+j)=nthV cs j:=fun a ha=>by
    unfold nthV
    simp [List.getElem?_append_right (show a.length≤12+j by omega),ha]
   have h9:=en [.int .i64 p.e.t,.int .i64 p.e.s,.int .i64 p.e.q,.int .i64 p.e.d,.int .i64 p.e.k,.int .i64 p.e.v,.int .i64 p.e.g,c7,.int .i64 p.b.q,.int .i64 p.b.d,c10,c11] rfl
   rw [←h9]
   exact h)
  refine⟨⟨(p,c7,c10,c11),hok p (List.mem_cons_self ..),slB_of h7,slB_of h10,slB_of h11⟩::L,?_,?_,?_⟩
  ·show p::psOf L=_
   rw [e1]
  ·show encP _++cellsP L=_
   rw [e2]
   rfl
  ·intro x hx
   rcases List.mem_cons.1 hx with rfl|hx
   ·exact⟨h7,h10,h11⟩
   ·exact e3 x hx
theorem pasts_cells {w:World} {x:Value} {l:List Ps} (hok:∀p∈l,p.e.ok=true) (h:IsD w x (pastsD l)):∃L:List PsF,psOf L=l∧SrcC w x 12 L.length (cellsP L)∧ ∀y∈L,PsR w y:=by
 obtain⟨cs,h1,h2⟩:=IsD.cells h
 obtain⟨L,e1,e2,e3⟩:=cells_of hok h1.1 h2
 refine⟨L,e1,?_,e3⟩
 rw [e2,←psOf_length,e1]
 exact h1
theorem cellsP_nth [Inhabited PsF]:∀(l:List PsF) (t:Nat),t<l.length*12→(cellsP l)[t]? =(encP (l[t/12]!))[t%12]?
 | [],t,h=>by simp at h
 |e::l,t,h=>by
  have hl:(encP e).length=12:=rfl
  show(encP e++cellsP l)[t]? =_
  by_cases ht:t<12
  ·rw [List.getElem?_append_left (by omega),show t/12=0 by omega,show t%12=t by omega]
   rfl
  ·rw [List.getElem?_append_right (by omega),hl,cellsP_nth l (t-12) (by simp at h;omega),show t/12=(t-12)/12+1 by omega,show t%12=(t-12)%12 by omega]
   rfl
theorem flat_P [Inhabited PsF] (d:Array PsF):(flatK encP 12 d).toList=cellsP d.toList:=by
 refine List.ext_getElem? fun t=> ?_
 by_cases ht:t<d.size*12
 ·rw [cellsP_nth _ _ (by rw [Array.length_toList];exact ht)]
  have hs:t<(flatK encP 12 d).size:=by simpa using ht
  have h7:t%12<(encP d[t/12]!).length:=by rw [encP_len];omega
  have hg:=get_flatK encP 12 d t ht
  rw [getElem!_pos (flatK encP 12 d) t hs,getElem!_pos (encP d[t/12]!) (t%12) h7]at hg
  rw [Array.getElem?_toList,Array.getElem?_eq_getElem hs,hg]
  have hi:t/12<d.size:=by omega
  rw [getElem!_pos d.toList (t/12) (by simpa using hi),←List.getElem?_eq_getElem h7,getElem!_pos d (t/12) hi]
  rfl
 ·rw [List.getElem?_eq_none (by simp;omega),List.getElem?_eq_none (by rw [cellsP_length,Array.length_toList];omega)]
theorem blockP {w:World} {B:Nat} {e:TypeId} {size n cap g:Nat} {xs:List Value} (h:w.ownsRow B e size (.slice (some ⟨g,0,none⟩) n cap) n xs):∃cur:Array Value,w.heap[g]? =some (.cells cur e (0,0))∧B≤g∧n≤cap∧cap≤maxLen∧cur.size=cap*size∧cur.toList.take (n*size)=xs:=by
 rcases h.2 with ⟨h',_⟩|⟨g',cap',cur,h',h1,h2,h3,h4,h5,h6⟩
 ·cases h'
 ·cases h'
  exact⟨cur,h2,h1,h3,h4,h5,h6⟩
theorem holdsP [Inhabited PsF] {B g cap:Nat} {d:Array PsF} {w:World} (h:w.ownsRow B 115 12 (.slice (some ⟨g,0,none⟩) d.size cap) d.size (cellsP d.toList)):HoldsK encP 12 w g 0 d:=by
 obtain⟨cur,hg,hBg,hnc,hcm,hcs,htk⟩:=blockP h
 intro j hj
 have hj2:j<d.size*12:=by simpa using hj
 have h1:cur[j]? =some ((flatK encP 12 d)[j]!):=by
  have h2:(cur.toList.take (d.size*12))[j]? =(flatK encP 12 d).toList[j]? :=by rw [htk,flat_P]
  rw [List.getElem?_take_of_lt hj2,Array.getElem?_toList,Array.getElem?_toList,Array.getElem?_eq_getElem hj]at h2
  rw [h2,getElem!_pos (flatK encP 12 d) j hj]
 rw [Nat.zero_add]
 refine⟨?_,?_⟩
 ·unfold World.cell?
  rw [hg]
  simpa using h1
 ·unfold World.frozen?
  rw [hg]
  simp
theorem rowP_sorted [Inhabited PsF] {B g cap n:Nat} {d d':Array PsF} {w:World} {os:Array Obj} (h:w.ownsRow B 115 12 (.slice (some ⟨g,0,none⟩) d.size cap) d.size (cellsP d.toList)) (hs:d'.size=d.size):
  (sortWorldK encP 12 w g 0 n d' os).ownsRow B 115 12 (.slice (some ⟨g,0,none⟩) d'.size cap) d'.size (cellsP d'.toList)∧Turns (fun k=>k=g) w (sortWorldK encP 12 w g 0 n d' os):=by
 obtain⟨cur,hg,hBg,hnc,hcm,hcs,htk⟩:=blockP h
 have hlt:g<w.heap.size:=(Array.getElem?_eq_some_iff.1 hg).1
 have hh:(sortWorldK encP 12 w g 0 n d' os).heap=(w.heap.modify g (onCells (putCells id 0 (flatK encP 12 d'))))++os:=rfl
 have hz:(w.heap.modify g (onCells (putCells id 0 (flatK encP 12 d')))).size=w.heap.size:=by simp
 have hfs:(flatK encP 12 d').size=d'.size*12:=by simp
 have hmul:d'.size*12≤cap*12:=Nat.mul_le_mul_right _ (by omega)
 refine⟨⟨by rw [cellsP_length,Array.length_toList],.inr ⟨g,cap,putCells id 0 (flatK encP 12 d') cur,rfl,hBg,?_,by omega,hcm,?_,?_⟩⟩,⟨rfl,rfl,rfl,?_,fun k hk hne=> ?_⟩⟩
 ·rw [hh,Array.getElem?_append_left (by omega),Array.getElem?_modify,if_pos rfl,hg]
  rfl
 ·unfold putCells
  simpa using hcs
 ·rw [←flat_P]
  refine List.ext_getElem? fun t=> ?_
  by_cases ht:t<d'.size*12
  ·have hc:t<cur.size:=by omega
   rw [List.getElem?_take_of_lt ht,Array.getElem?_toList,Array.getElem?_toList,Array.getElem?_eq_getElem (by omega:t<(flatK encP 12 d').size)]
   unfold putCells
   rw [Array.getElem?_mapIdx,Array.getElem?_eq_getElem hc,Option.map_some,if_pos ⟨Nat.zero_le _,by omega⟩,Nat.sub_zero,getElem!_pos (flatK encP 12 d') t (by omega)]
   rfl
  ·rw [List.getElem?_eq_none (by rw [List.length_take];omega),List.getElem?_eq_none (by simp;omega)]
 ·rw [hh]
  simp
 ·rw [hh,Array.getElem?_append_left (by omega),Array.getElem?_modify,if_neg (fun e=>hne e.symm)]
def SortedP (B:Nat) (vt:Value) (L:List PsF) (w w':World) (e:Ending):Prop:=e= .returned (.tuple #[])∧ ∃l':List PsF,l'.Perm L∧l'.Pairwise (fun x y=>¬cmpP y x<0)∧w'.ownsRow B 115 12 vt l'.length (cellsP l')∧Turns (fun k=>vt.ownBlock=some k) w w'
end Go.Proofs.YtmobiieoecjmdaaGreat

/- szPartS: how much there is. -/
namespace Go.Proofs.YtmobiieoecjmdaaGreat
open Go.RowKit
set_option maxHeartbeats 4000000 in
theorem sz_parts (x:Value) (l:List Pa) (left:Int) (w:World) (h0:0≤left) (h1:left≤1048576) (h:IsD w x (partsD l)):
  Calls Tryz.prog 54 #[x,.int .i64 left] w fun e w'=>(∃r,e= .returned (.int .i64 r)∧SzR (partsD l).wt left r)∧Below w.heap.size w w':=by
 obtain⟨a,cap,rfl,hn1,hn,h⟩:=IsD.parts (c:=7) (n:=l.length) h
 have hn2:l.length≤9223372036854775807:=by unfold maxLen at hn;omega
 clear hn1 hn
 by_cases hp:left-(l.length:Int)<0
 ·go_enter Tryz.func54,Tryz.ntmps54
  go_wp2
  go_ret
  exact⟨⟨_,rfl,.inl rfl⟩,Below.refl _ _⟩
 ·have HLF:Hid (0≤left-(l.length:Int)):=(by omega:0≤left-(l.length:Int))
  go_enter Tryz.func54,Tryz.ntmps54
  go_wp2
  go_loopw [5,1] (fun i z wr=>∃k:Nat,k≤l.length∧i= .int .i64 k∧Below w.heap.size w wr∧ ∃lf:Int,z= .int .i64 lf∧0≤lf∧lf+(l.length:Int)+(sumL (fun i=>(paAt l i).wt) k:Int)=left) (fun i _ _=>l.length-(intOf i).toNat)
  case atStart=>exact⟨0,Nat.zero_le _,rfl,Below.refl _ _,left-(l.length:Int),rfl,HLF.out,by simp [sumL]⟩
  case round=>
   obtain⟨k,hk,rfl,hB,lf2,rfl,hz0,hz1⟩:=hrel
   have HZ:Hid (lf2+(l.length:Int)+(sumL (fun i=>(paAt l i).wt) k:Int)=left):=hz1
   have HB:Hid (Below w.heap.size w wr):=hB
   have hz2:lf2≤1048576:=by omega
   clear hz1
   by_cases hlt:k<l.length
   ·obtain⟨b,off,rfl,hb,hc⟩:=h.resolve_left (by omega)
    obtain⟨u1,u4,u5,u6,f0,f1,f2,f3,f4,f5,f6,d1,d4,d5,d6⟩:=partsD_in (fun j hj=>by
     obtain⟨u,hu,hd⟩:=hc j hj
     exact⟨u,(hB.cell (p:=⟨b,off+j,none⟩) hb).trans hu,hd.under hB⟩) hlt
    have HD:Hid (IsPart wr (.agg #[.int .i64 (paAt l k).n,u1,.int .i64 (paAt l k).st.q,.int .i64 (paAt l k).st.d,u4,u5,u6]) (paAt l k)):=⟨u1,u4,u5,u6,rfl,d1,d4,d5,d6⟩
    clear h hc hB d1 d4 d5 d6
    go_wp2_with fail
    clear f0 f1 f2 f3 f4 f5 f6
    refine(szPart_any _ (paAt l k) _ _ hz0 hz2 HD.out).mono ?_
    rintro e w2 ⟨⟨r,rfl,hr⟩,hb2⟩
    have HB2:Hid (Below w.heap.size w w2):=HB.out.trans (hb2.mono HB.out.size)
    clear hb2
    rcases hr with rfl|⟨r0,hr⟩
    ·go_wp2
     go_ret
     exact⟨⟨_,rfl,.inl rfl⟩,HB2.out⟩
    ·have HR:Hid (r+((paAt l k).wt:Int)=lf2):=hr
     have r2:¬(r<0):=by omega
     clear hr
     go_wp2
     go_roundw
     case rel=>exact⟨k+1,by omega,by go_num,HB2.out,r,rfl,r0,by have:=HR.out;have:=HZ.out;simp only [sumL];omega⟩
     case measure=>simp [intOf];omega
   ·clear h hB
    go_wp2
    go_ret
    obtain rfl:k=l.length:=by omega
    exact⟨⟨_,rfl,.inr ⟨hz0,by rw [partsD_wt];have:=HZ.out;omega⟩⟩,HB.out⟩
structure Ml where
 e:Ev
 a:Bool
def mlAt (l:List Ml) (i:Nat):Ml:=l.getD i ⟨⟨0,0,0,0,0,0,0⟩,false⟩
def Ml.cs (m:Ml):List Value:= [.int .i64 m.e.t,.int .i64 m.e.s,.int .i64 m.e.q,.int .i64 m.e.d,.int .i64 m.e.k,.int .i64 m.e.v,.int .i64 m.e.g,.bool m.a]
def cellsMl:List Ml→List Value
 | []=> []
 |e::l=>e.cs++cellsMl l
theorem mlAt_cons_succ (e:Ml) (l:List Ml) (i:Nat):mlAt (e::l) (i+1)=mlAt l i:=by simp [mlAt]
theorem cellsMl_get:∀(l:List Ml) (i r:Nat),i<l.length→r<8→(cellsMl l)[i*8+r]? =(mlAt l i).cs[r]?
 | [],_,_,h,_=>by simp at h
 |e::l,0,r,_,hr=>by
  have:r<e.cs.length:=by simpa [Ml.cs] using hr
  simp only [cellsMl,Nat.zero_mul,Nat.zero_add]
  rw [List.getElem?_append_left this]
  simp [mlAt]
 |e::l,i+1,r,h,hr=>by
  have h1:=cellsMl_get l i r (by simpa using h) hr
  have:e.cs.length≤(i+1)*8+r:=by simp [Ml.cs];omega
  simp only [cellsMl]
  rw [List.getElem?_append_right this,mlAt_cons_succ,←h1]
  congr 1
  simp [Ml.cs];omega
structure MlAt (w:World) (b o:Nat) (m:Ml):Prop where
 f0:w.cell? ⟨b,o,none⟩=some (.int .i64 m.e.t)
 f1:w.cell? ⟨b,o+1,none⟩=some (.int .i64 m.e.s)
 f2:w.cell? ⟨b,o+2,none⟩=some (.int .i64 m.e.q)
 f3:w.cell? ⟨b,o+3,none⟩=some (.int .i64 m.e.d)
 f4:w.cell? ⟨b,o+4,none⟩=some (.int .i64 m.e.k)
 f5:w.cell? ⟨b,o+5,none⟩=some (.int .i64 m.e.v)
 f6:w.cell? ⟨b,o+6,none⟩=some (.int .i64 m.e.g)
 f7:w.cell? ⟨b,o+7,none⟩=some (.bool m.a)
theorem MlAt.below {w w':World} {B b o:Nat} {m:Ml} (h:MlAt w b o m) (hb:Below B w w') (hlt:b<B):MlAt w' b o m:=
 ⟨(hb.cell hlt).trans h.f0,(hb.cell hlt).trans h.f1,(hb.cell hlt).trans h.f2,(hb.cell hlt).trans h.f3,(hb.cell hlt).trans h.f4,(hb.cell hlt).trans h.f5,(hb.cell hlt).trans h.f6,(hb.cell hlt).trans h.f7⟩
def MlsAt (w:World) (b off:Nat) (l:List Ml):Prop:=b<w.heap.size∧ ∀i,i<l.length→MlAt w b (off+i*8) (mlAt l i)
def IsMl (w:World) (x:Value) (l:List Ml):Prop:=∃a cap,x= .slice a l.length cap∧l.length≤cap∧cap≤maxLen∧(l= []∨ ∃b off,a=some ⟨b,off,none⟩∧MlsAt w b off l)
def mailsD (l:List Ml):Dat:=flat 8 l.length (cellsMl l)
theorem IsMl.isD {w:World} {x:Value} {l:List Ml} (h:IsMl w x l):IsD w x (mailsD l):=by
 obtain⟨a,cap,rfl,h1,h2,h⟩:=h
 refine IsD.of_parts h1 h2 (h.imp (fun e=>by rw [e];rfl) ?_)
 rintro ⟨b,off,rfl,hb,hc⟩
 refine⟨b,off,rfl,hb,fun j hj=> ?_⟩
 have hi:j/8<l.length:=by omega
 have hr:j%8<8:=by omega
 have hE:=hc (j/8) hi
 have hg:=cellsMl_get l (j/8) (j%8) hi hr
 rw [show j/8*8+j%8=j from by omega]at hg
 have hall:∀r,r<8→ ∃u,w.cell? ⟨b,off+j/8*8+r,none⟩=some u∧(mlAt l (j/8)).cs[r]? =some u:=fun r hr=>by
  match r,hr with
  |0,_=>exact⟨_,hE.f0,rfl⟩
  |1,_=>exact⟨_,hE.f1,rfl⟩
  |2,_=>exact⟨_,hE.f2,rfl⟩
  |3,_=>exact⟨_,hE.f3,rfl⟩
  |4,_=>exact⟨_,hE.f4,rfl⟩
  |5,_=>exact⟨_,hE.f5,rfl⟩
  |6,_=>exact⟨_,hE.f6,rfl⟩
  |7,_=>exact⟨_,hE.f7,rfl⟩
 obtain⟨u,h3,h4⟩:=hall _ hr
 refine⟨u,by rw [←h3];congr 2;omega,?_⟩
 rw [show(cellsMl l).getD j (.int .i64 0)=u from getD_of (hg.trans h4)]
 exact .val _
theorem IsD.isMl {w:World} {x:Value} {l:List Ml} (h:IsD w x (mailsD l)):IsMl w x l:=by
 obtain⟨a,cap,rfl,h1,h2,h⟩:=IsD.parts (c:=8) (n:=l.length) h
 refine⟨a,cap,rfl,h1,h2,h.imp List.eq_nil_of_length_eq_zero ?_⟩
 rintro ⟨b,off,rfl,hb,hc⟩
 refine⟨b,off,rfl,hb,fun i hi=> ?_⟩
 have hget:∀r,r<8→w.cell? ⟨b,off+i*8+r,none⟩=(mlAt l i).cs[r]? :=fun r hr=>by
  obtain⟨u,hu,hd⟩:=hc (i*8+r) (by omega)
  rw [Nat.add_assoc,hu,hd.val_eq]
  have hg:=cellsMl_get l i r hi hr
  have:r<(mlAt l i).cs.length:=by simpa [Ml.cs] using hr
  rw [List.getElem?_eq_getElem this]at hg⊢
  rw [getD_of hg]
 exact⟨hget 0 (by omega),hget 1 (by omega),hget 2 (by omega),hget 3 (by omega),hget 4 (by omega),hget 5 (by omega),hget 6 (by omega),hget 7 (by omega)⟩
theorem mails_wt (l:List Ml):(mailsD l).wt=l.length:=flat_wt _ _ _
theorem mails_thin (l:List Ml):(mailsD l).thin:=flat_thin (by omega)
set_option maxHeartbeats 400000 in
theorem szMl_any (a:Option Addr) (n cap:Nat) (left:Int) (w:World) (hn:n≤maxLen) (h0:0≤left) (h1:left≤1048576):
  Calls Tryz.prog 55 #[.slice a n cap,.int .i64 left] w fun e w'=>e= .returned (.int .i64 (szN n left))∧w'=w:=by
 unfold maxLen at hn
 by_cases hp:left-(n:Int)<0
 ·go_enter Tryz.func55,Tryz.ntmps55
  go_wp2
  go_ret
  exact⟨ret_int (by unfold szN;rw [if_pos hp]),rfl⟩
 ·go_enter Tryz.func55,Tryz.ntmps55
  go_wp2
  go_ret
  exact⟨ret_int (by unfold szN;rw [if_neg (by omega)]),rfl⟩
theorem sz_mails (x:Value) (l:List Ml) (left:Int) (w:World) (h0:0≤left) (h1:left≤1048576) (h:IsD w x (mailsD l)):
  Calls Tryz.prog 55 #[x,.int .i64 left] w fun e w'=>(∃r,e= .returned (.int .i64 r)∧SzR (mailsD l).wt left r)∧Below w.heap.size w w':=by
 obtain⟨a,cap,rfl,hn⟩:=IsD.len (c:=8) (n:=l.length) h
 refine(szMl_any a l.length cap left w hn h0 h1).mono ?_
 rintro e w' ⟨rfl,rfl⟩
 exact⟨⟨_,rfl,by rw [mails_wt];exact szN_R _ _⟩,Below.refl _ _⟩
set_option maxHeartbeats 1000000 in
theorem eqMail_same (t s q d k v g:Int) (b:Bool) (w:World):
  Calls Tryz.prog 125 #[.agg #[.int .i64 t,.int .i64 s,.int .i64 q,.int .i64 d,.int .i64 k,.int .i64 v,.int .i64 g,.bool b],.agg #[.int .i64 t,.int .i64 s,.int .i64 q,.int .i64 d,.int .i64 k,.int .i64 v,.int .i64 g,.bool b]] w fun e w'=>e= .returned (.bool true)∧Below w.heap.size w w':=by
 obtain⟨W0,hW0⟩:∃V,(w.alloc (.cells #[.int .i64 t,.int .i64 s,.int .i64 q,.int .i64 d,.int .i64 k,.int .i64 v,.int .i64 g,.bool b] 148)).alloc (.cells #[.int .i64 t,.int .i64 s,.int .i64 q,.int .i64 d,.int .i64 k,.int .i64 v,.int .i64 g,.bool b] 148)=V:=⟨_,rfl⟩
 have hb0:Below w.heap.size w W0:=hW0▸((Below.refl _ w).alloc (Nat.le_refl _) _).alloc (by simp) _
 have HB0:Hid (Below w.heap.size w W0):=hb0
 have B1:Hid (Bk W0 w.heap.size 148 #[.int .i64 t,.int .i64 s,.int .i64 q,.int .i64 d,.int .i64 k,.int .i64 v,.int .i64 g,.bool b]):=hW0▸(Bk.new w _ _).alloc _
 have B2:Hid (Bk W0 (w.heap.size+1) 148 #[.int .i64 t,.int .i64 s,.int .i64 q,.int .i64 d,.int .i64 k,.int .i64 v,.int .i64 g,.bool b]):=hW0▸Bk.newAt (by simp) _ _
 clear hb0
 have x0:=B1.out.cell (i:=0) rfl
 have x1:=B1.out.cell (i:=1) rfl
 have x2:=B1.out.cell (i:=2) rfl
 have x3:=B1.out.cell (i:=3) rfl
 have x4:=B1.out.cell (i:=4) rfl
 have x5:=B1.out.cell (i:=5) rfl
 have x6:=B1.out.cell (i:=6) rfl
 have y0:=B2.out.cell (i:=0) rfl
 have y1:=B2.out.cell (i:=1) rfl
 have y2:=B2.out.cell (i:=2) rfl
 have y3:=B2.out.cell (i:=3) rfl
 have y4:=B2.out.cell (i:=4) rfl
 have y5:=B2.out.cell (i:=5) rfl
 have y6:=B2.out.cell (i:=6) rfl
 go_enter Tryz.func125,Tryz.ntmps125
 go_wp2_with fail
 clear hW0 x0 y0 x1 y1 x2 y2 x3 y3 x4 y4 x5 y5 x6 y6
 refine(eqEvent_same _ _ _ _ _ _ _ _).mono ?_
 rintro r w1 ⟨rfl,hb⟩
 have x7:=(B1.out.below hb).cell (i:=7) rfl
 have y7:=(B2.out.below hb).cell (i:=7) rfl
 have HB1:Hid (Below w.heap.size w w1):=HB0.out.trans (hb.mono HB0.out.size)
 clear hb
 cases b<;>(go_wp2;go_ret;exact⟨rfl,HB1.out⟩)
set_option maxHeartbeats 1000000 in
theorem eqMl_same (x y:Value) (l:List Ml) (w:World) (hl:l.length≤1048576) (hx:IsMl w x l) (hy:IsMl w y l):
  Calls Tryz.prog 67 #[x,y] w fun e w'=>e= .returned (.bool true)∧Below w.heap.size w w':=by
 obtain⟨a,cap,rfl,h1,h2,h⟩:=hx
 obtain⟨a',cap',rfl,h1',h2',h'⟩:=hy
 clear h1 h2 h1' h2'
 by_cases hz:l= []
 ·subst hz
  clear h h'
  go_enter Tryz.func67,Tryz.ntmps67
  go_wp2
  go_loop [5] (fun i=>i= .int .i64 0) (fun _=>0)
  case atStart=>rfl
  case round=>
   subst hrel
   go_wp2
   go_ret
   exact⟨rfl,Below.refl _ _⟩
 ·obtain⟨b,off,rfl,hb,hc⟩:=h.resolve_left hz
  obtain⟨b',off',rfl,hb',hc'⟩:=h'.resolve_left hz
  clear h h' hz
  go_enter Tryz.func67,Tryz.ntmps67
  go_wp2
  go_loopw [5] (fun i wr=>∃k:Nat,k≤l.length∧i= .int .i64 k∧Below w.heap.size w wr) (fun i _=>l.length-(intOf i).toNat)
  case atStart=>exact⟨0,Nat.zero_le _,rfl,Below.refl _ _⟩
  case round=>
   obtain⟨k,hk,rfl,hB⟩:=hrel
   have HB:Hid (Below w.heap.size w wr):=hB
   by_cases hlt:k<l.length
   ·obtain⟨f0,f1,f2,f3,f4,f5,f6,f7⟩:=(hc k hlt).below hB hb
    obtain⟨e0,e1,e2,e3,e4,e5,e6,e7⟩:=(hc' k hlt).below hB hb'
    have hbr:b<wr.heap.size:=Nat.lt_of_lt_of_le hb hB.size
    have hbr':b'<wr.heap.size:=Nat.lt_of_lt_of_le hb' hB.size
    clear hB hc hc'
    go_wp2_with fail
    go_region_held3 (fun W=>W.cell? ⟨b,off+k*8,none⟩=some (.int .i64 (mlAt l k).e.t)∧W.cell? ⟨b,off+k*8+1,none⟩=some (.int .i64 (mlAt l k).e.s)∧W.cell? ⟨b,off+k*8+2,none⟩=some (.int .i64 (mlAt l k).e.q)∧W.cell? ⟨b,off+k*8+3,none⟩=some (.int .i64 (mlAt l k).e.d)∧W.cell? ⟨b,off+k*8+4,none⟩=some (.int .i64 (mlAt l k).e.k)∧W.cell? ⟨b,off+k*8+5,none⟩=some (.int .i64 (mlAt l k).e.v)∧W.cell? ⟨b,off+k*8+6,none⟩=some (.int .i64 (mlAt l k).e.g)∧W.cell? ⟨b,off+k*8+7,none⟩=some (.bool (mlAt l k).a)∧W.cell? ⟨b',off'+k*8,none⟩=some (.int .i64 (mlAt l k).e.t)∧W.cell? ⟨b',off'+k*8+1,none⟩=some (.int .i64 (mlAt l k).e.s)∧W.cell? ⟨b',off'+k*8+2,none⟩=some (.int .i64 (mlAt l k).e.q)∧W.cell? ⟨b',off'+k*8+3,none⟩=some (.int .i64 (mlAt l k).e.d)∧W.cell? ⟨b',off'+k*8+4,none⟩=some (.int .i64 (mlAt l k).e.k)∧W.cell? ⟨b',off'+k*8+5,none⟩=some (.int .i64 (mlAt l k).e.v)∧W.cell? ⟨b',off'+k*8+6,none⟩=some (.int .i64 (mlAt l k).e.g)∧W.cell? ⟨b',off'+k*8+7,none⟩=some (.bool (mlAt l k).a)) ((repeat' apply And.intro)<;>first|(go_keep;done)|(rw [hcA _ _ (by first|omega|(simp;omega)|simp [*])];simp [*];done))
     (first|(go_at_call 125;refine(eqMail_same _ _ _ _ _ _ _ _ _).mono ?_;rintro e w2 ⟨rfl,hb2⟩;obtain⟨hcA,hfA⟩:=bcell hb2))
    clear hcA hfA
    go_wp2
    go_roundw
    case rel=>exact⟨k+1,by omega,by go_num,HB.out.drew.trans (hb2.mono (by have:=HB.out.size;simpa using this))⟩
    case measure=>simp [intOf];omega
   ·clear hB hc hc'
    go_wp2
    go_ret
    exact⟨rfl,HB.out⟩
theorem eq_mails (x y:Value) (l:List Ml) (w:World) (hl:l.length≤1048576) (hx:IsD w x (mailsD l)) (hy:IsD w y (mailsD l)):
  Calls Tryz.prog 67 #[x,y] w fun e w'=>e= .returned (.bool true)∧Below w.heap.size w w':=
 eqMl_same x y l w hl hx.isMl hy.isMl
set_option maxHeartbeats 2000000 in
theorem szModel_le (x:Value) (m:Md) (w:World) (h:IsM w x m):
  Calls Tryz.prog 38 #[x,.int .i64 1048576] w fun e w'=>(∃r,e= .returned (.int .i64 r)∧(r= -1∨(0≤r∧r≤1048576∧SmallM m)))∧Below w.heap.size w w':=by
 obtain⟨vi,vh,vs,rfl,h1,h2,h3⟩:=h
 obtain⟨n,s,i,hh,ev,z⟩:=m
 have HH:Hid (IsH w vh hh):=h2
 obtain⟨a1,c1,rfl,hi1,hi2,_⟩:=h1
 obtain⟨a3,c3,rfl,he1,he2,_⟩:=h3
 have HI:Hid (i.length≤maxLen):=Nat.le_trans hi1 hi2
 have HE:Hid (ev.length≤maxLen):=Nat.le_trans he1 he2
 clear h2 hi1 hi2 he1 he2
 obtain⟨W0,hW0⟩:∃W0,w.alloc (.cells #[.int .i64 n,.int .i64 s,.slice a1 i.length c1,vh,.slice a3 ev.length c3,.int .i64 z] 26)=W0:=⟨_,rfl⟩
 have HB0:Hid (Below w.heap.size w W0):=by rw [←hW0];exact(Below.refl _ w).alloc (Nat.le_refl _) _
 have HP0:Bk W0 w.heap.size 26 #[.int .i64 n,.int .i64 s,.slice a1 i.length c1,vh,.slice a3 ev.length c3,.int .i64 z]:=by rw [←hW0];exact Bk.new w _ _
 have p2:=HP0.cell (i:=2) rfl
 have p3:=HP0.cell (i:=3) rfl
 have p4:=HP0.cell (i:=4) rfl
 clear HP0
 have go:∀q:Int,q=szN i.length 1048576→q= -1∨(0≤q∧q≤1048576∧i.length≤1048576):=by
  intro q hq
  unfold szN at hq
  split at hq<;>omega
 go_enter Tryz.func38,Tryz.ntmps38
 go_wp2_with fail
 refine(szI_any _ _ _ _ _ HI.out (by omega) (by omega)).mono ?_
 rintro e w' ⟨rfl,hw⟩
 have hw':=hw.symm
 clear hw
 subst hw'
 clear hW0
 generalize hq:szN i.length 1048576=q
 rcases go q hq.symm with rfl|⟨q0,q1,q2⟩
 ·clear go hq
  go_wp2
  go_ret
  exact⟨⟨_,rfl,.inl rfl⟩,HB0.out⟩
 ·have HQ:Hid (i.length≤1048576):=q2
  have q3:¬(q<0):=by omega
  clear go hq q2
  go_wp2_with fail
  refine(szH_any _ hh _ _ (HH.out.below HB0.out) q0 q1).mono ?_
  rintro e w' ⟨⟨r,rfl,hr⟩,hw⟩
  have hw':=hw.symm
  clear hw
  subst hw'
  rcases hr with rfl|⟨r0,r1,r2,r3,r4⟩
  ·go_wp2
   go_ret
   exact⟨⟨_,rfl,.inl rfl⟩,HB0.out⟩
  ·have r5:¬(r<0):=by omega
   have r6:r≤1048576:=by omega
   have HR:Hid ((hh.length:Int)≤1048576∧(∀i,(hAt hh i).length≤1048576)∧sumL (lens hh) hh.length≤1048576):=⟨r2,r3,r4⟩
   clear r1 r2 r3 r4
   go_wp2_with fail
   refine(szE_any _ _ _ _ _ HE.out r0 r6).mono ?_
   rintro e w' ⟨rfl,hw⟩
   have hw':=hw.symm
   clear hw
   subst hw'
   generalize hq:szN ev.length r=t
   have ht:t= -1∨(0≤t∧t≤1048576∧ev.length≤1048576):=by
    unfold szN at hq
    split at hq<;>omega
   clear hq
   rcases ht with rfl|⟨t0,t9,t1⟩
   ·go_wp2
    go_ret
    exact⟨⟨_,rfl,.inl rfl⟩,HB0.out⟩
   ·have t2:¬(t<0):=by omega
    go_wp2
    go_ret
    exact⟨⟨_,rfl,.inr ⟨t0,t9,HQ.out,by have:=HR.out.1;show hh.length≤1048576;omega,HR.out.2.1,HR.out.2.2,t1⟩⟩,HB0.out⟩
end Go.Proofs.YtmobiieoecjmdaaGreat

