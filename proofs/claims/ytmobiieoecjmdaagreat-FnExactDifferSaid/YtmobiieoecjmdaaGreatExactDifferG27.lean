/- NCm, SoE, SrC, SrD, StP, SrE, KIg -/
import Derived.Test.YtmobiieoecjmdaaGreatExactDifferG07
import Derived.Test.YtmobiieoecjmdaaGreatExactDifferG08
import Derived.Sort.Statements
import Derived.Sort.Grow
import Derived.Deep.Draws
import Derived.Test.YtmobiieoecjmdaaGreatExactDifferG01
import Derived.Test.YtmobiieoecjmdaaGreatExactDifferG26
import Derived.Test.YtmobiieoecjmdaaGreatExactDifferG11
import Derived.Test.YtmobiieoecjmdaaGreatExactDifferG19
/- The program's EventCmp at two events that are fit: what it lays, and that it draws. -/
namespace Go.Proofs.YtmobiieoecjmdaaGreat
set_option maxHeartbeats 2000000
open Go.RowKit
theorem hidNCm {p:Prop} (h:p):Hid p:=h
theorem iOkD (t s q d k v g:Int) (h:okB t s q d k v g=true) (w:World):
  Calls Tryz.prog 164 #[.agg #[.int .i64 t,.int .i64 s,.int .i64 q,.int .i64 d,.int .i64 k,.int .i64 v,.int .i64 g]] w fun e w'=>
   e= .returned (.bool true)∧Below w.heap.size w w'∧w.drawn≤w'.drawn:=by
 rw [←h]
 clear h
 go_enter Tryz.func164,Tryz.ntmps164
 go_wp2
 all_goals
  go_ret
  refine⟨?_,(Below.refl _ _).alloc (Nat.le_refl _) _,Nat.le_refl _⟩
  first|exact ybi (by simp [okB];omega)|exact ya0 (by simp [okB];omega)
theorem iCmpD (t s q d k v g t' s' q' d' k' v' g':Int) (h1:okB t s q d k v g=true) (h2:okB t' s' q' d' k' v' g'=true) (w:World):
  Calls Tryz.prog 123 #[.agg #[.int .i64 t,.int .i64 s,.int .i64 q,.int .i64 d,.int .i64 k,.int .i64 v,.int .i64 g],.agg #[.int .i64 t',.int .i64 s',.int .i64 q',.int .i64 d',.int .i64 k',.int .i64 v',.int .i64 g']] w fun e w'=>
   e= .returned (.int .i64 (cmpI t s q g t' s' q' g'))∧Below w.heap.size w w'∧w.drawn≤w'.drawn:=by
 have H1:=hidNCm h1
 have H2:=hidNCm h2
 clear h1 h2
 go_enter Tryz.func123,Tryz.ntmps123
 go_wp2_with fail
 refine(iOkD t s q d k v g H1.out _).mono ?_
 rintro e w1 ⟨rfl,hb1,hd1⟩
 obtain⟨hc,hf⟩:=yf1 hb1
 go_wp2_with fail
 refine(iOkD t' s' q' d' k' v' g' H2.out _).mono ?_
 rintro e w2 ⟨rfl,hb2,hd2⟩
 have hz1:w.heap.size+1<w1.heap.size:=by have:=hb1.size;simp at this;omega
 have hz2:w.heap.size+1<w2.heap.size:=by have:=hb2.size;omega
 obtain⟨hc2,hf2⟩:=yf1 hb2
 have f0:w2.cell? ⟨w.heap.size,0,none⟩=some (.int .i64 t):=by rw [hc2 _ _ (by omega),hc _ _ (by simp;omega)];simp
 have f1:w2.cell? ⟨w.heap.size,1,none⟩=some (.int .i64 s):=by rw [hc2 _ _ (by omega),hc _ _ (by simp;omega)];simp
 have f2:w2.cell? ⟨w.heap.size,2,none⟩=some (.int .i64 q):=by rw [hc2 _ _ (by omega),hc _ _ (by simp;omega)];simp
 have f6:w2.cell? ⟨w.heap.size,6,none⟩=some (.int .i64 g):=by rw [hc2 _ _ (by omega),hc _ _ (by simp;omega)];simp
 have e0:w2.cell? ⟨w.heap.size+1,0,none⟩=some (.int .i64 t'):=by rw [hc2 _ _ (by omega),hc _ _ (by simp)];simp
 have e1:w2.cell? ⟨w.heap.size+1,1,none⟩=some (.int .i64 s'):=by rw [hc2 _ _ (by omega),hc _ _ (by simp)];simp
 have e2:w2.cell? ⟨w.heap.size+1,2,none⟩=some (.int .i64 q'):=by rw [hc2 _ _ (by omega),hc _ _ (by simp)];simp
 have e6:w2.cell? ⟨w.heap.size+1,6,none⟩=some (.int .i64 g'):=by rw [hc2 _ _ (by omega),hc _ _ (by simp)];simp
 have hB:Below w.heap.size w w2:=((((Below.refl _ _).alloc (Nat.le_refl _) _).alloc (by simp) _).trans (hb1.mono (by simp;omega))).trans (hb2.mono (by omega))
 have HDR:Hid (w.drawn≤w2.drawn+1):=(by have h9:w.drawn≤w1.drawn:=hd1;exact Nat.le_succ_of_le (Nat.le_trans h9 hd2):w.drawn≤w2.drawn+1)
 clear hc hf hc2 hf2 hb1 hb2 hz1 hd1 hd2
 go_wp2_with fail
 go_region_held3 (fun W=>W.cell? ⟨w.heap.size,0,none⟩=some (.int .i64 t)∧W.cell? ⟨w.heap.size,1,none⟩=some (.int .i64 s)∧W.cell? ⟨w.heap.size,2,none⟩=some (.int .i64 q)∧W.cell? ⟨w.heap.size,6,none⟩=some (.int .i64 g)∧W.cell? ⟨w.heap.size+1,0,none⟩=some (.int .i64 t')∧W.cell? ⟨w.heap.size+1,1,none⟩=some (.int .i64 s')∧W.cell? ⟨w.heap.size+1,2,none⟩=some (.int .i64 q')∧W.cell? ⟨w.heap.size+1,6,none⟩=some (.int .i64 g')) (go_keep)
  (first
   |(go_at_call 174;refine(yin _ _ _).mono ?_;rintro e w' ⟨rfl,rfl⟩)
   |(go_at_call 173;refine(or_any _ _ [num t t',num s s',num q q',num g g'] _ ?_ ?_).mono ?_;(simp [maxLen]);(intro i hi;have h4:i=0∨i=1∨i=2∨i=3:=(by simp at hi;omega);rcases h4 with rfl|rfl|rfl|rfl<;>simp);rintro e w' ⟨rfl,rfl⟩))
 go_wp2
 go_ret
 exact⟨yaw (by rw [yrr]),hB.drew.alloc (by simp;omega) _,HDR.out⟩
end Go.Proofs.YtmobiieoecjmdaaGreat

/- The order of events as slices.SortFunc asks it; what EventCmp lays, as it asks it. -/
namespace Go.Proofs.YtmobiieoecjmdaaGreat
open Go.RowKit
theorem yfs (a b:Ev):a.cmp b<0↔a.t<b.t∨a.t=b.t∧(a.s<b.s∨a.s=b.s∧(a.q<b.q∨a.q=b.q∧a.g<b.g)):=yke _ _ _ _ _ _ _ _
theorem lay_of {W w':World} (h:Below W.heap.size W w') (hd:W.drawn≤w'.drawn):∃q os',w'=Go.Sort.grow (W.drewN q) os':=by
 refine⟨w'.drawn-W.drawn,w'.heap.extract W.heap.size w'.heap.size,?_⟩
 have hh:w'.heap=W.heap++w'.heap.extract W.heap.size w'.heap.size:=by
  refine Array.ext_getElem? fun k=> ?_
  by_cases hk:k<W.heap.size
  ·rw [Array.getElem?_append_left hk]
   exact h.block k hk
  ·rw [Array.getElem?_append_right (by omega),Array.getElem?_extract]
   by_cases hk2:k<w'.heap.size
   ·rw [if_pos (by omega),show W.heap.size+(k-W.heap.size)=k by omega]
   ·rw [if_neg (by omega),Array.getElem?_eq_none (by omega)]
 obtain⟨hp,tp,dr,os,ou⟩:=w'
 have h1:=h.os
 have h2:=h.tape
 have h3:=h.output
 dsimp only at h1 h2 h3 hh hd⊢
 unfold Go.Sort.grow World.drewN
 subst h1 h2 h3
 dsimp only
 rw [←hh,show W.drawn+(dr-W.drawn)=dr by omega]
theorem hidSrC {p:Prop} (h:p):Hid p:=h
def slB (v:Value):Prop:=∃a n c,v= .slice a n c
abbrev PsF:Type:= {c:Ps×Value×Value×Value//c.1.e.ok=true∧slB c.2.1∧slB c.2.2.1∧slB c.2.2.2}
def encP (c:PsF):List Value:=pastL c.1.1 c.1.2.1 c.1.2.2.1 c.1.2.2.2
theorem ykb (c:PsF):(encP c).length=12:=rfl
theorem yof (c:PsF):∀v∈encP c,v.oneCell'=true:=by
 obtain⟨⟨p,v7,v10,v11⟩,h,⟨a,n,k,e7⟩,⟨a',n',k',e10⟩,⟨a'',n'',k'',e11⟩⟩:=c
 dsimp only at e7 e10 e11
 subst e7 e10 e11
 intro v hv
 simp [encP,pastL]at hv
 rcases hv with rfl|rfl|rfl|rfl|rfl|rfl|rfl|rfl|rfl|rfl|rfl|rfl<;>rfl
abbrev cmpP (x y:PsF):Int:=x.1.1.e.cmp y.1.1.e
theorem swoP:Go.Sort.SWO (fun x y:PsF=>decide (cmpP x y<0)) where
 irrefl x:=by simp only [decide_eq_false_iff_not,yfs];omega
 trans x y z h1 h2:=by simp only [decide_eq_true_eq,yfs]at*;omega
 ntrans x y z h1 h2:=by simp only [decide_eq_false_iff_not,yfs]at*;omega
set_option maxRecDepth 100000 in
set_option maxHeartbeats 4000000 in
theorem psCmpD (x y:PsF) (w:World):
  Calls Tryz.prog 122 #[.agg (encP x).toArray,.agg (encP y).toArray] w fun e w'=>e= .returned (.int .i64 (cmpP x y))∧Below w.heap.size w w'∧w.drawn≤w'.drawn:=by
 obtain⟨⟨p,v7,v10,v11⟩,hp,⟨a7,n7,c7,e7⟩,⟨a10,n10,c10,e10⟩,⟨a11,n11,c11,e11⟩⟩:=x
 dsimp only at e7 e10 e11
 subst e7 e10 e11
 obtain⟨⟨q,u7,u10,u11⟩,hq,⟨b7,m7,d7,e7⟩,⟨b10,m10,d10,e10⟩,⟨b11,m11,d11,e11⟩⟩:=y
 dsimp only at e7 e10 e11
 subst e7 e10 e11
 have HP:Hid (p.e.ok=true):=hp
 have HQ:Hid (q.e.ok=true):=hq
 show Calls Tryz.prog 122 #[.agg #[.int .i64 p.e.t,.int .i64 p.e.s,.int .i64 p.e.q,.int .i64 p.e.d,.int .i64 p.e.k,.int .i64 p.e.v,.int .i64 p.e.g,.slice a7 n7 c7,.int .i64 p.b.q,.int .i64 p.b.d,.slice a10 n10 c10,.slice a11 n11 c11],.agg #[.int .i64 q.e.t,.int .i64 q.e.s,.int .i64 q.e.q,.int .i64 q.e.d,.int .i64 q.e.k,.int .i64 q.e.v,.int .i64 q.e.g,.slice b7 m7 d7,.int .i64 q.b.q,.int .i64 q.b.d,.slice b10 m10 d10,.slice b11 m11 d11]] w fun e w'=>e= .returned (.int .i64 (p.e.cmp q.e))∧Below w.heap.size w w'∧w.drawn≤w'.drawn
 clear hp hq
 obtain⟨W0,hW0⟩:∃W0,(w.alloc (.cells #[.int .i64 p.e.t,.int .i64 p.e.s,.int .i64 p.e.q,.int .i64 p.e.d,.int .i64 p.e.k,.int .i64 p.e.v,.int .i64 p.e.g,.slice a7 n7 c7,.int .i64 p.b.q,.int .i64 p.b.d,.slice a10 n10 c10,.slice a11 n11 c11] 115)).alloc (.cells #[.int .i64 q.e.t,.int .i64 q.e.s,.int .i64 q.e.q,.int .i64 q.e.d,.int .i64 q.e.k,.int .i64 q.e.v,.int .i64 q.e.g,.slice b7 m7 d7,.int .i64 q.b.q,.int .i64 q.b.d,.slice b10 m10 d10,.slice b11 m11 d11] 115)=W0:=⟨_,rfl⟩
 have HB0:=hdq (beA2 hW0)
 have HD0:Hid (w.drawn≤W0.drawn):=hW0▸Nat.le_refl _
 have B1:=bkA2 hW0
 have B2:=bkB2 hW0
 have x0:=B1.cell (i:=0) rfl
 have x1:=B1.cell (i:=1) rfl
 have x2:=B1.cell (i:=2) rfl
 have x3:=B1.cell (i:=3) rfl
 have x4:=B1.cell (i:=4) rfl
 have x5:=B1.cell (i:=5) rfl
 have x6:=B1.cell (i:=6) rfl
 have y0:=B2.cell (i:=0) rfl
 have y1:=B2.cell (i:=1) rfl
 have y2:=B2.cell (i:=2) rfl
 have y3:=B2.cell (i:=3) rfl
 have y4:=B2.cell (i:=4) rfl
 have y5:=B2.cell (i:=5) rfl
 have y6:=B2.cell (i:=6) rfl
 clear B1 B2
 go_enter Tryz.func122,Tryz.ntmps122
 go_wp2_with fail
 clear hW0 x0 x1 x2 x3 x4 x5 x6 y0 y1 y2 y3 y4 y5 y6
 refine(iCmpD p.e.t p.e.s p.e.q p.e.d p.e.k p.e.v p.e.g q.e.t q.e.s q.e.q q.e.d q.e.k q.e.v q.e.g HP.out HQ.out _).mono ?_
 rintro r w1 ⟨rfl,hb,hd⟩
 have HB1:=hidSrC (trm HB0.out hb)
 have HD1:Hid (w.drawn≤w1.drawn):=Nat.le_trans HD0.out hd
 clear hb hd
 go_wp2
 go_ret
 exact⟨rfl,HB1.out,HD1.out⟩
end Go.Proofs.YtmobiieoecjmdaaGreat

/- slices.SortFunc over pasts that one owns. -/
namespace Go.Proofs.YtmobiieoecjmdaaGreat
open Go.RowKit Go.Shelf Go.Lib Go.Sort
def yb9:List PsF→List Value
 | []=> []
 |x::l=>encP x++yb9 l
theorem ydu:∀l:List PsF,(yb9 l).length=l.length*12
 | []=>rfl
 |x::l=>by
  show(encP x++yb9 l).length=_
  rw [List.length_append,ydu l,ykb,List.length_cons]
  omega
theorem ygv:∀l m:List PsF,yb9 (l++m)=yb9 l++yb9 m
 | [],m=>rfl
 |x::l,m=>by
  show encP x++yb9 (l++m)=encP x++yb9 l++yb9 m
  rw [ygv l m,List.append_assoc]
theorem yqb (l:List PsF):∀v∈yb9 l,v.oneCell'=true:=by
 induction l with
 |nil=>intro v hv;cases hv
 |cons x l ih=>
  intro v hv
  rcases List.mem_append.1 (show v∈encP x++yb9 l from hv)with h|h
  ·exact yof x v h
  ·exact ih v h
def psOf (l:List PsF):List Ps:=l.map (fun x=>x.1.1)
theorem ybt (l:List PsF):(psOf l).length=l.length:=by simp [psOf]
def PsR (w:World) (x:PsF):Prop:=IsD w x.1.2.1 (yax x.1.1.b.r)∧IsD w x.1.2.2.1 (evsD x.1.1.s)∧IsD w x.1.2.2.2 (emsD x.1.1.x)
theorem yr1 {w:World} {u:Value} {c n:Nat} {f:Nat→Dat} (h:IsD w u (.row c n f)):slB u:=by
 obtain⟨a,cap,rfl,_⟩:=IsD.len h
 exact⟨_,_,_,rfl⟩
theorem yoj {w:World}:∀{l:List Ps} {cs:List Value},(∀p∈l,p.e.ok=true)→cs.length=l.length*12→(∀j,j<l.length*12→IsD w (nthV cs j) (ycy l j))→ ∃L:List PsF,psOf L=l∧yb9 L=cs∧ ∀x∈L,PsR w x
 | [],cs,_,hl,_=>by
  obtain rfl:cs= []:=List.eq_nil_of_length_eq_zero (by simpa using hl)
  exact⟨[],rfl,rfl,fun x hx=>by cases hx⟩
 |p::l,cs,hok,hl,hd=>by
  rcases cs with _|⟨c0,cs⟩
  ·simp only [List.length_nil,List.length_cons]at hl;omega
  rcases cs with _|⟨c1,cs⟩
  ·simp only [List.length_nil,List.length_cons]at hl;omega
  rcases cs with _|⟨c2,cs⟩
  ·simp only [List.length_nil,List.length_cons]at hl;omega
  rcases cs with _|⟨c3,cs⟩
  ·simp only [List.length_nil,List.length_cons]at hl;omega
  rcases cs with _|⟨c4,cs⟩
  ·simp only [List.length_nil,List.length_cons]at hl;omega
  rcases cs with _|⟨c5,cs⟩
  ·simp only [List.length_nil,List.length_cons]at hl;omega
  rcases cs with _|⟨c6,cs⟩
  ·simp only [List.length_nil,List.length_cons]at hl;omega
  rcases cs with _|⟨c7,cs⟩
  ·simp only [List.length_nil,List.length_cons]at hl;omega
  rcases cs with _|⟨c8,cs⟩
  ·simp only [List.length_nil,List.length_cons]at hl;omega
  rcases cs with _|⟨c9,cs⟩
  ·simp only [List.length_nil,List.length_cons]at hl;omega
  rcases cs with _|⟨c10,cs⟩
  ·simp only [List.length_nil,List.length_cons]at hl;omega
  rcases cs with _|⟨c11,cs⟩
  ·simp only [List.length_nil,List.length_cons]at hl;omega
  obtain rfl:=(show IsD w c0 (.val (.int .i64 p.e.t))from hd 0 (by simp only [List.length_cons];omega)).val_eq
  obtain rfl:=(show IsD w c1 (.val (.int .i64 p.e.s))from hd 1 (by simp only [List.length_cons];omega)).val_eq
  obtain rfl:=(show IsD w c2 (.val (.int .i64 p.e.q))from hd 2 (by simp only [List.length_cons];omega)).val_eq
  obtain rfl:=(show IsD w c3 (.val (.int .i64 p.e.d))from hd 3 (by simp only [List.length_cons];omega)).val_eq
  obtain rfl:=(show IsD w c4 (.val (.int .i64 p.e.k))from hd 4 (by simp only [List.length_cons];omega)).val_eq
  obtain rfl:=(show IsD w c5 (.val (.int .i64 p.e.v))from hd 5 (by simp only [List.length_cons];omega)).val_eq
  obtain rfl:=(show IsD w c6 (.val (.int .i64 p.e.g))from hd 6 (by simp only [List.length_cons];omega)).val_eq
  have h7:IsD w c7 (yax p.b.r):=hd 7 (by simp only [List.length_cons];omega)
  obtain rfl:=(show IsD w c8 (.val (.int .i64 p.b.q))from hd 8 (by simp only [List.length_cons];omega)).val_eq
  obtain rfl:=(show IsD w c9 (.val (.int .i64 p.b.d))from hd 9 (by simp only [List.length_cons];omega)).val_eq
  have h10:IsD w c10 (evsD p.s):=hd 10 (by simp only [List.length_cons];omega)
  have h11:IsD w c11 (emsD p.x):=hd 11 (by simp only [List.length_cons];omega)
  obtain⟨L,e1,e2,e3⟩:=yoj (l:=l) (cs:=cs) (fun q hq=>hok q (List.mem_cons_of_mem _ hq)) (by simp only [List.length_cons]at hl;omega) (fun j hj=>by
   have h:=hd (12+j) (by simp only [List.length_cons];omega)
   have ef:ycy (p::l) (12+j)=ycy l j:=by
    unfold ycy
    rw [show(12+j)/12=j/12+1 by omega,show(12+j)%12=j%12 by omega]
    rfl
   rw [ef]at h
   have en:∀a:List Value,a.length=12→nthV (a++cs) (12+j)=nthV cs j:=fun a ha=>by
    unfold nthV
    simp [List.getElem?_append_right (show a.length≤12+j by omega),ha]
   have h9:=en [.int .i64 p.e.t,.int .i64 p.e.s,.int .i64 p.e.q,.int .i64 p.e.d,.int .i64 p.e.k,.int .i64 p.e.v,.int .i64 p.e.g,c7,.int .i64 p.b.q,.int .i64 p.b.d,c10,c11] rfl
   rw [←h9]
   exact h)
  refine⟨⟨(p,c7,c10,c11),hok p (List.mem_cons_self ..),yr1 h7,yr1 h10,yr1 h11⟩::L,?_,?_,?_⟩
  ·show p::psOf L=_
   rw [e1]
  ·show encP _++yb9 L=_
   rw [e2]
   rfl
  ·intro x hx
   rcases List.mem_cons.1 hx with rfl|hx
   ·exact⟨h7,h10,h11⟩
   ·exact e3 x hx
theorem ymm {w:World} {x:Value} {l:List Ps} (hok:∀p∈l,p.e.ok=true) (h:IsD w x (ybe l)):∃L:List PsF,psOf L=l∧SrcC w x 12 L.length (yb9 L)∧ ∀y∈L,PsR w y:=by
 obtain⟨cs,h1,h2⟩:=IsD.cells h
 obtain⟨L,e1,e2,e3⟩:=yoj hok h1.1 h2
 refine⟨L,e1,?_,e3⟩
 rw [e2,←ybt,e1]
 exact h1
theorem yha [Inhabited PsF]:∀(l:List PsF) (t:Nat),t<l.length*12→(yb9 l)[t]? =(encP (l[t/12]!))[t%12]?
 | [],t,h=>by simp at h
 |e::l,t,h=>by
  have hl:(encP e).length=12:=rfl
  show(encP e++yb9 l)[t]? =_
  by_cases ht:t<12
  ·rw [List.getElem?_append_left (by omega),show t/12=0 by omega,show t%12=t by omega]
   rfl
  ·rw [List.getElem?_append_right (by omega),hl,yha l (t-12) (by simp at h;omega),show t/12=(t-12)/12+1 by omega,show t%12=(t-12)%12 by omega]
   rfl
theorem flat_P [Inhabited PsF] (d:Array PsF):(flatK encP 12 d).toList=yb9 d.toList:=by
 refine List.ext_getElem? fun t=> ?_
 by_cases ht:t<d.size*12
 ·rw [yha _ _ (by rw [Array.length_toList];exact ht)]
  have hs:t<(flatK encP 12 d).size:=by simpa using ht
  have h7:t%12<(encP d[t/12]!).length:=by rw [ykb];omega
  have hg:=get_flatK encP 12 d t ht
  rw [getElem!_pos (flatK encP 12 d) t hs,getElem!_pos (encP d[t/12]!) (t%12) h7]at hg
  rw [Array.getElem?_toList,Array.getElem?_eq_getElem hs,hg]
  have hi:t/12<d.size:=by omega
  rw [getElem!_pos d.toList (t/12) (by simpa using hi),←List.getElem?_eq_getElem h7,getElem!_pos d (t/12) hi]
  rfl
 ·rw [List.getElem?_eq_none (by simp;omega),List.getElem?_eq_none (by rw [ydu,Array.length_toList];omega)]
theorem yon {w:World} {B:Nat} {e:TypeId} {size n cap g:Nat} {xs:List Value} (h:w.ownsRow B e size (.slice (some ⟨g,0,none⟩) n cap) n xs):∃cur:Array Value,w.heap[g]? =some (.cells cur e (0,0))∧B≤g∧n≤cap∧cap≤maxLen∧cur.size=cap*size∧cur.toList.take (n*size)=xs:=by
 rcases h.2 with ⟨h',_⟩|⟨g',cap',cur,h',h1,h2,h3,h4,h5,h6⟩
 ·cases h'
 ·cases h'
  exact⟨cur,h2,h1,h3,h4,h5,h6⟩
theorem holdsP [Inhabited PsF] {B g cap:Nat} {d:Array PsF} {w:World} (h:w.ownsRow B 115 12 (.slice (some ⟨g,0,none⟩) d.size cap) d.size (yb9 d.toList)):HoldsK encP 12 w g 0 d:=by
 obtain⟨cur,hg,hBg,hnc,hcm,hcs,htk⟩:=yon h
 intro j hj
 have hj2:j<d.size*12:=by simpa using hj
 have h1:cur[j]? =some ((flatK encP 12 d)[j]!):=by
  have h2:(cur.toList.take (d.size*12))[j]? =(flatK encP 12 d).toList[j]? :=by rw [htk,flat_P]
  rw [List.getElem?_take_of_lt hj2,Array.getElem?_toList,Array.getElem?_toList,Array.getElem?_eq_getElem hj]at h2
  rw [h2,getElem!_pos (flatK encP 12 d) j hj]
 rw [Nat.zero_add]
 refine⟨?_,?_⟩
 ·unfold World.cell?
  rw [hg]
  simpa using h1
 ·unfold World.frozen?
  rw [hg]
  simp
theorem ymf [Inhabited PsF] {B g cap n:Nat} {d d':Array PsF} {w:World} {os:Array Obj} (h:w.ownsRow B 115 12 (.slice (some ⟨g,0,none⟩) d.size cap) d.size (yb9 d.toList)) (hs:d'.size=d.size):
  (sortWorldK encP 12 w g 0 n d' os).ownsRow B 115 12 (.slice (some ⟨g,0,none⟩) d'.size cap) d'.size (yb9 d'.toList)∧Turns (fun k=>k=g) w (sortWorldK encP 12 w g 0 n d' os):=by
 obtain⟨cur,hg,hBg,hnc,hcm,hcs,htk⟩:=yon h
 have hlt:g<w.heap.size:=(Array.getElem?_eq_some_iff.1 hg).1
 have hh:(sortWorldK encP 12 w g 0 n d' os).heap=(w.heap.modify g (onCells (putCells id 0 (flatK encP 12 d'))))++os:=rfl
 have hz:(w.heap.modify g (onCells (putCells id 0 (flatK encP 12 d')))).size=w.heap.size:=by simp
 have hfs:(flatK encP 12 d').size=d'.size*12:=by simp
 have hmul:d'.size*12≤cap*12:=Nat.mul_le_mul_right _ (by omega)
 refine⟨⟨by rw [ydu,Array.length_toList],.inr ⟨g,cap,putCells id 0 (flatK encP 12 d') cur,rfl,hBg,?_,by omega,hcm,?_,?_⟩⟩,⟨rfl,rfl,rfl,?_,fun k hk hne=> ?_⟩⟩
 ·rw [hh,Array.getElem?_append_left (by omega),Array.getElem?_modify,if_pos rfl,hg]
  rfl
 ·unfold putCells
  simpa using hcs
 ·rw [←flat_P]
  refine List.ext_getElem? fun t=> ?_
  by_cases ht:t<d'.size*12
  ·have hc:t<cur.size:=by omega
   rw [List.getElem?_take_of_lt ht,Array.getElem?_toList,Array.getElem?_toList,Array.getElem?_eq_getElem (by omega:t<(flatK encP 12 d').size)]
   unfold putCells
   rw [Array.getElem?_mapIdx,Array.getElem?_eq_getElem hc,Option.map_some,if_pos ⟨Nat.zero_le _,by omega⟩,Nat.sub_zero,getElem!_pos (flatK encP 12 d') t (by omega)]
   rfl
  ·rw [List.getElem?_eq_none (by rw [List.length_take];omega),List.getElem?_eq_none (by simp;omega)]
 ·rw [hh]
  simp
 ·rw [hh,Array.getElem?_append_left (by omega),Array.getElem?_modify,if_neg (fun e=>hne e.symm)]
def ytl (B:Nat) (vt:Value) (L:List PsF) (w w':World) (e:Ending):Prop:=e= .returned (.tuple #[])∧ ∃l':List PsF,l'.Perm L∧l'.Pairwise (fun x y=>¬cmpP y x<0)∧w'.ownsRow B 115 12 vt l'.length (yb9 l')∧Turns (fun k=>vt.ownBlock=some k) w w'
end Go.Proofs.YtmobiieoecjmdaaGreat

/- What is settled, counted: the cuts are one, the rows cut are one list. -/
namespace Go.Proofs.YtmobiieoecjmdaaGreat
open Go.RowKit
def cutN (g:Option Ev):List Ps→Nat
 | []=>0
 |p::l=>if yd6 g p.e=true then cutN g l+1 else 0
theorem ykc (g:Option Ev):∀l:List Ps,CutO g l (cutN g l)
 | []=>⟨Nat.le_refl _,fun j hj=>by simp [cutN]at hj,fun h=>by simp at h⟩
 |p::l=>by
  have ih:=ykc g l
  by_cases h:yd6 g p.e=true
  ·have e:cutN g (p::l)=cutN g l+1:=by simp [cutN,h]
   rw [e]
   refine⟨by simp only [List.length_cons];have:=ih.le;omega,fun j hj=> ?_,fun hj=> ?_⟩
   ·cases j with
    |zero=>exact h
    |succ j=>exact ih.lo j (by omega)
   ·exact ih.hi (by simp only [List.length_cons]at hj;omega)
  ·have e:cutN g (p::l)=0:=by simp [cutN,h]
   rw [e]
   exact⟨Nat.zero_le _,fun j hj=>by omega,fun _=>(Bool.not_eq_true _).mp h⟩
theorem CutO.eq {g:Option Ev} {l:List Ps} {c:Nat} (h:CutO g l c):c=cutN g l:=by
 have k:=ykc g l
 have h0:=h.le
 have k0:=k.le
 rcases Nat.lt_trichotomy c (cutN g l)with hl|he|hl
 ·have a:=h.hi (by omega)
  rw [k.lo c hl]at a
  cases a
 ·exact he
 ·have a:=k.hi (by omega)
  rw [h.lo _ hl]at a
  cases a
def setL (k:Kn) (j:Nat):List Ps:=remL (fun i=>(paAt k.p i).p) (fun i=>cutN (gvtE k) (paAt k.p i).p) (fun _=>0) j
theorem yr2 (k:Kn):setL k 0= []:=rfl
theorem ykx (k:Kn) (j:Nat):setL k (j+1)=setL k j++(paAt k.p j).p.take (cutN (gvtE k) (paAt k.p j).p):=by
 unfold setL
 rw [yfl,List.drop_zero]
theorem yjr (k:Kn) (h:∀i,i<k.p.length→(paAt k.p i).p.length≤200):∀j,j≤k.p.length→(setL k j).length≤200*j
 |0,_=>by simp [yr2]
 |j+1,hj=>by
  have ih:=yjr k h j (by omega)
  have h2:=h j (by omega)
  rw [ykx,List.length_append,List.length_take]
  omega
theorem yic {p:Pa} (hp:p.ok=true):p.p.length≤200∧ ∀q∈p.p,q.e.ok=true:=by
 have hS:=(ygr p).2 (by unfold Pa.ok at hp;simpa using hp)
 refine⟨hS.1.2.2.2.1,fun q hq=> ?_⟩
 obtain⟨i,hi,e⟩:=List.getElem_of_mem hq
 have h:=(hS.2.1 i hi).1
 have e2:psAt p.p i=q:=by
  have h1:=yl5 hi
  rw [List.getElem?_eq_getElem hi,e]at h1
  exact(Option.some.inj h1).symm
 rw [e2]at h
 exact h
theorem ymk (a b:List PsF):psOf (a++b)=psOf a++psOf b:=by simp [psOf]
set_option maxHeartbeats 4000000
set_option maxRecDepth 100000
open Go.RowKit Go.Shelf Go.Lib Go.Sort
theorem aggP (w:World):(isAgg 115).run Tryz.prog w= .ok true w:=by simp [isAgg,go_sem]
theorem sizP (w:World):(Go.sizeOf 115).run Tryz.prog w= .ok 12 w:=by
 obtain⟨i0,hi,hz0,hz1,hz2⟩:=info_parts ysb
 simp [Go.sizeOf,typeInfo,hi,hz1]
theorem bitsP (n:Nat) (W:World) (h:n≤12):Calls Tryz.prog (Tryz.sortPs_ren.f 15) #[.int .u64 n] W fun e w'=>(∃l:Int,e= .returned (.int .i64 l))∧w'=W:=
 (Any.bits_Len (SlLaysF0.n15.bits (P:=Tryz.prog) (ρ:=Tryz.sortPs_ren) {Tryz.sortPs with}) n W (by omega) (by omega)).mono fun _ _ ⟨he,hw⟩=>⟨⟨_,he⟩,hw⟩
theorem yqz [Inhabited PsF] (blk off cap:Nat) (d:Array PsF) (w:World) (hH:HoldsK encP 12 w blk off d) (hblk:blk<w.heap.size) (hz:d.size<4611686018427387904):
  Calls Tryz.prog 121 #[.slice (some ⟨blk,off,none⟩) d.size cap,.func (.func 122) #[] #[]] w fun e w'=>e= .returned (.tuple #[])∧ ∃d' n os,PermIn 0 d.size d d'∧SortedIn (ltOf cmpP) 0 d.size d'∧w'=sortWorldK encP 12 w blk off n d' os:=by
 have eg:∀args w,(callFunc 122 args).run Tryz.prog w= .ok (.enter 122 args) w:=enters_of Tryz.func122 (by kernel_rfl) rfl
 have hcon:=AnyQ.slices_SortFunc Tryz.sortPs 12 aggP sizP encP (fun x=>ykb x) (fun x=>yof x) cmpP swoP 122 #[] blk off cap d w eg (fun _ _ _ _ x y=>(psCmpD x y _).mono fun _ _ ⟨h1,h2,h3⟩=>⟨h1,lay_of h2 h3⟩) hH hblk hz
 exact hcon
theorem yqw [Inhabited PsF] (B g cap:Nat) (l:List PsF) (w:World) (hz:l.length<4611686018427387904) (h:w.ownsRow B 115 12 (.slice (some ⟨g,0,none⟩) l.length cap) l.length (yb9 l)):
  Calls Tryz.prog 121 #[.slice (some ⟨g,0,none⟩) l.length cap,.func (.func 122) #[] #[]] w fun e w'=>ytl B (.slice (some ⟨g,0,none⟩) l.length cap) l w w' e:=by
 obtain⟨d,rfl⟩:∃d:Array PsF,d.toList=l:=⟨l.toArray,by simp⟩
 rw [Array.length_toList]at h hz⊢
 have hlt:g<w.heap.size:=by
  obtain⟨cur,hg,_⟩:=yon h
  exact(Array.getElem?_eq_some_iff.1 hg).1
 refine(yqz g 0 cap d w (holdsP h) hlt hz).mono ?_
 rintro e w' ⟨rfl,d',n,os,hp,hs,rfl⟩
 obtain⟨q1,q2⟩:=ymf (n:=n) (os:=os) h hp.1
 have hd9:d'.size=d.size:=hp.1
 refine⟨rfl,d'.toList,?_,?_,?_,q2.mono (fun k hk=>by simp [Value.ownBlock,hk])⟩
 ·have h9:=hp.2.2
  rw [show d'.extract 0 d.size=d' by rw [←hp.1];simp,show d.extract 0 d.size=d by simp]at h9
  exact h9
 ·rw [List.pairwise_iff_getElem]
  intro i j hi hj hij
  rw [Array.length_toList]at hi hj
  have h9:=hs i j (Nat.zero_le _) hij (by rw [←hp.1];exact hj)
  rw [getElem!_pos d' j hj,getElem!_pos d' i hi]at h9
  rw [Array.getElem_toList,Array.getElem_toList]
  exact of_decide_eq_false h9
 ·rw [Array.length_toList]
  rw [hd9]at q1⊢
  exact q1
theorem insP_nil (f:Value) (w:World):Calls Tryz.prog 202 #[.slice none 0 0,.int .i64 0,.int .i64 0,f] w fun e w'=>e= .returned (.tuple #[])∧w'=w:=by
 go_enter Tryz.func202,Tryz.ntmps202
 go_wp2
 go_loopw [8] (fun i wr=>i= .int .i64 1∧wr=w) (fun _ _=>0)
 case atStart=>exact⟨rfl,rfl⟩
 case round=>
  obtain⟨rfl,rfl⟩:=hrel
  go_wp2
  go_end0
  exact⟨rfl,rfl⟩
theorem pdqP_nil (l:Int) (f:Value) (w:World):Calls Tryz.prog 171 #[.slice none 0 0,.int .i64 0,.int .i64 0,.int .i64 l,f] w fun e w'=>e= .returned (.tuple #[])∧w'=w:=by
 go_enter Tryz.func171,Tryz.ntmps171
 go_wp2
 go_loopw [1,2] (fun a b wr=>a= .int .i64 0∧b= .int .i64 0∧wr=w) (fun _ _ _=>0)
 case atStart=>exact⟨rfl,rfl,rfl⟩
 case round=>
  obtain⟨rfl,rfl,rfl⟩:=hrel
  go_wp2_with (go_at_call 202;refine(insP_nil _ _).mono ?_;rintro e w1 ⟨rfl,rfl⟩)
  refine bodyPost_ret (results_none rfl _ _ _) rfl ?_
  exact⟨rfl,rfl⟩
theorem yqy (f:Value) (w:World):Calls Tryz.prog 121 #[.slice none 0 0,f] w fun e w'=>e= .returned (.tuple #[])∧w'=w:=by
 go_enter Tryz.func121,Tryz.ntmps121
 go_wp2_with (first|(go_at_call 172;refine(bitsP 0 _ (by omega)).mono ?_;rintro e w1 ⟨⟨lb,rfl⟩,rfl⟩)|(go_at_call 171;refine(pdqP_nil _ _ _).mono ?_;rintro e w2 ⟨rfl,rfl⟩))
 go_end0
 exact⟨rfl,rfl⟩
theorem yqx [Inhabited PsF] (B:Nat) (vt:Value) (L:List PsF) (w:World) (hz:L.length<4611686018427387904) (h:w.ownsRow B 115 12 vt L.length (yb9 L)):
  Calls Tryz.prog 121 #[vt,.func (.func 122) #[] #[]] w fun e w'=>ytl B vt L w w' e:=by
 have h0:=h
 obtain⟨_,⟨rfl,hn⟩|⟨g,cap,cur,rfl,_⟩⟩:=h
 ·obtain rfl:=List.eq_nil_of_length_eq_zero hn
  refine(yqy _ _).mono ?_
  rintro e w' ⟨rfl,hw⟩
  rw [hw]
  exact⟨rfl,[],List.Perm.refl _,List.Pairwise.nil,h0,Turns.refl _ _⟩
 ·exact yqw B g cap L w hz h0
theorem yfx {p:Prop} (h:p):Hid p:=h
theorem ecmp_of {a b:Ev} (ha:a.ok=true) (hb:b.ok=true):a.ecmp b=a.cmp b:=by
 unfold Ev.ecmp Ev.cmp ecmp
 rw [if_pos ⟨ha,hb⟩]
theorem yk0 (a b:Int):num a b= -num b a:=by
 unfold num
 split<;>split<;>(try split)<;>omega
theorem cmp_opp (a b:Ev):a.cmp b= -b.cmp a:=by
 unfold Ev.cmp cmpI
 rw [yk0 a.t b.t,yk0 a.s b.s,yk0 a.q b.q,yk0 a.g b.g]
 by_cases h1:a.t=b.t
 ·by_cases h2:a.s=b.s
  ·by_cases h3:a.q=b.q
   ·simp [h1,h2,h3]
   ·have h3':¬b.q=a.q:=fun e=>h3 e.symm
    simp [h1,h2,h3,h3']
  ·have h2':¬b.s=a.s:=fun e=>h2 e.symm
   simp [h1,h2,h2']
 ·have h1':¬b.t=a.t:=fun e=>h1 e.symm
  simp [h1,h1']
structure MnS (w wr:World) (G:Nat) (cur:Ev):Prop where
 rb:Bk wr w.heap.size 110 (evA zEv)
 gb:Bk wr G 110 (evA cur)
 be:Below w.heap.size w wr
theorem MnS.below {w wr w':World} {G:Nat} {cur:Ev} (h:MnS w wr G cur) (hb:Below wr.heap.size wr w'):MnS w w' G cur:=
 ⟨h.rb.below hb,h.gb.below hb,h.be.trans (hb.mono h.be.size)⟩
theorem MnS.put {w wr:World} {G:Nat} {cur:Ev} (h:MnS w wr G cur) (h1:w.heap.size<G) (e:Ev):MnS w (putEv wr G e) G e:=
 ⟨h.rb.turns (ybs wr G e) (by omega),h.gb.putEv e,h.be.trans ((ybs wr G e).to_below (fun k hk=>by omega) h.be.size)⟩
theorem MnS.ev {w wr:World} {G:Nat} {cur:Ev} (h:MnS w wr G cur):Ev.In wr G 0 cur:=
 ⟨h.gb.cell (i:=0) rfl,h.gb.cell (i:=1) rfl,h.gb.cell (i:=2) rfl,h.gb.cell (i:=3) rfl,h.gb.cell (i:=4) rfl,h.gb.cell (i:=5) rfl,h.gb.cell (i:=6) rfl⟩
set_option maxRecDepth 100000 in
set_option maxHeartbeats 8000000 in
theorem iMin (a:Option Addr) (cap:Nat) (l:List Ev) (w:World) (hl:l.length≤100000000) (h0:0<l.length) (hok:∀i,i<l.length→(evAt l i).ok=true) (h:IsEvs w (.slice a l.length cap) l):
  Calls Tryz.prog 168 #[.slice a l.length cap,.func (.func 123) #[] #[]] w fun e w'=>∃g,minE l=some g∧e= .returned g.val∧Below w.heap.size w w':=by
 obtain⟨b,off,rfl,hb,hc⟩:=h.rows.resolve_left (fun e=>by rw [e]at h0;simp at h0)
 have HC:=yfx hc
 have HOK:=yfx hok
 have he0:Ev.In w b off (evAt l 0):=by simpa using hc 0 h0
 obtain⟨V0,hV0⟩:∃V,w.alloc (.cells #[.int .i64 0,.int .i64 0,.int .i64 0,.int .i64 0,.int .i64 0,.int .i64 0,.int .i64 0] 110)=V:=⟨_,rfl⟩
 have hbV:=beA hV0
 obtain⟨e0,e1,e2,e3,e4,e5,e6⟩:=he0.below hbV hb
 obtain⟨G,hG⟩:∃G,G=V0.heap.size:=⟨_,rfl⟩
 have hG1:w.heap.size<G:=by rw [hG,←hV0];simp
 obtain⟨W0,hW0⟩:∃W0,V0.alloc (.cells #[.int .i64 (evAt l 0).t,.int .i64 (evAt l 0).s,.int .i64 (evAt l 0).q,.int .i64 (evAt l 0).d,.int .i64 (evAt l 0).k,.int .i64 (evAt l 0).v,.int .i64 (evAt l 0).g] 110)=W0:=⟨_,rfl⟩
 have HS0:Hid (MnS w W0 G (evAt l 0)):=by
  rw [←hW0]
  refine⟨?_,?_,hbV.alloc hbV.size _⟩
  ·rw [←hV0];exact(Bk.new w _ _).alloc _
  ·rw [hG];exact Bk.new _ _ _
 have HW0:=yfx hW0
 have HV0:=yfx hV0
 have HG:Hid (G=V0.heap.size):=hG
 have hl1:¬(l.length:Int)<1:=by omega
 have hl0:(0:Int)<(l.length:Int):=by omega
 clear hW0 hG hc hok he0 hbV h
 go_enter Tryz.func168,Tryz.ntmps168
 go_wp2
 rw [HW0.out,←HG.out]
 clear HW0 HG HV0 hV0 e0 e1 e2 e3 e4 e5 e6 hl1
 have HM0:Hid (minE (l.take 1)=some (evAt l 0)):=by
  show _=_
  rw [yh2 h0]
  rfl
 go_loopw [6] (fun i wr=>∃(j:Nat) (g:Ev),1≤j∧j≤l.length∧i= .int .i64 j∧Hid (minE (l.take j)=some g∧g.ok=true)∧MnS w wr G g) (fun i _=>l.length-(intOf i).toNat)
 case atStart=>exact⟨1,evAt l 0,Nat.le_refl _,h0,rfl,⟨HM0.out,HOK.out 0 h0⟩,HS0.out⟩
 case round=>
  clear HS0 HM0
  obtain⟨j,g,hj1,hj,rfl,HMj,hS⟩:=hrel
  have HS:Hid (MnS w wr G g):=hS
  by_cases hlt:j<l.length
  ·have hbr:b<wr.heap.size:=Nat.lt_of_lt_of_le hb hS.be.size
   have hev:Ev.In wr b (off+j*7) (evAt l j):=(HC.out j hlt).below hS.be hb
   obtain⟨e0,e1,e2,e3,e4,e5,e6⟩:=hev.beyond hbr
   obtain⟨d0,d1,d2,d3,d4,d5,d6⟩:=hS.ev.beyond hS.gb.lt
   have HEV:=yfx hev
   have hne:=neB wr
   have HNX:Hid (minE (l.take (j+1))=if (evAt l j).cmp g<0 then some (evAt l j)else some g):=by
    show _=_
    rw [yh2 hlt,yf7,HMj.out.1]
    rfl
   have HEC:=yfx (ecmp_of (HOK.out j hlt) HMj.out.2)
   have HOJ:=yfx (HOK.out j hlt)
   have hki:(j:Int)<(l.length:Int):=by omega
   have HSP:Hid (∀q:World,Below wr.heap.size wr q→MnS w (putEv q G (evAt l j)) G (evAt l j)):=fun q hq=>(HS.out.below hq).put hG1 _
   clear hev hS
   generalize hz:(evAt l j).cmp g=z at HNX HEC
   have KZ:=yfx HEC.out
   clear hz
   by_cases hz0:z<0
   ·have hdz:decide (z<0)=true:=decide_eq_true hz0
    have HNN:Hid (minE (l.take (j+1))=some (evAt l j)):=by show _=_;rw [HNX.out,if_pos hz0]
    go_wp2_with fail
    refine wrb ?_
    repeat(go_big_quiet_step (first|(go_at_call 123;exact Beyond.of (yfa (evAt l j) g z KZ.out _))))
    refine wpQuiet_nil ?_
    rintro w3 ⟨⟨_,hb3⟩,rfl⟩
    have HB3:=yfx hb3
    clear hb3
    obtain⟨g0,g1,g2,g3,g4,g5,g6⟩:=c7_7 ((HS.out.below HB3.out).gb)
    have gf:=(HS.out.below HB3.out).gb.free
    obtain⟨v0,v1,v2,v3,v4,v5,v6⟩:=HEV.out.below HB3.out hbr
    go_wp2
    clear g0 g1 g2 g3 g4 g5 g6 gf v0 v1 v2 v3 v4 v5 v6
    go_roundw
    case rel=>exact⟨j+1,evAt l j,by omega,by omega,by go_num,⟨HNN.out,HOJ.out⟩,HSP.out _ HB3.out⟩
    case measure=>simp [intOf];omega
   ·have hdz:decide (z<0)=false:=decide_eq_false hz0
    have HNN:Hid (minE (l.take (j+1))=some g):=by show _=_;rw [HNX.out,if_neg hz0]
    go_wp2_with fail
    refine wrb ?_
    repeat(go_big_quiet_step (first|(go_at_call 123;exact Beyond.of (yfa (evAt l j) g z KZ.out _))))
    refine wpQuiet_nil ?_
    rintro w3 ⟨⟨_,hb3⟩,rfl⟩
    have HB3:=yfx hb3
    clear hb3
    go_wp2
    go_roundw
    case rel=>exact⟨j+1,g,by omega,by omega,by go_num,⟨HNN.out,HMj.out.2⟩,HS.out.below HB3.out⟩
    case measure=>simp [intOf];omega
  ·obtain rfl:l.length=j:=by omega
   have HMN:Hid (minE l=some g):=by have:=HMj.out.1;rw [List.take_length]at this;exact this
   obtain⟨g0,g1,g2,g3,g4,g5,g6⟩:=hS.ev
   obtain⟨r0,r1,r2,r3,r4,r5,r6⟩:=c7_7 hS.rb
   have rf:=hS.rb.free
   clear hS
   go_wp2
   clear g0 g1 g2 g3 g4 g5 g6 r0 r1 r2 r3 r4 r5 r6 rf
   obtain⟨V,hV⟩:∃V,putEv wr w.heap.size g=V:=⟨_,rfl⟩
   have ht:=ybs wr w.heap.size g
   have hk:=HS.out.rb.putEv g
   rw [hV]at ht hk
   unfold putEv at hV
   rw [hV]
   have t0:V.cell? ⟨w.heap.size,0,none⟩=some (.int .i64 g.t):=hk.cell (i:=0) rfl
   have t1:V.cell? ⟨w.heap.size,1,none⟩=some (.int .i64 g.s):=hk.cell (i:=1) rfl
   have t2:V.cell? ⟨w.heap.size,2,none⟩=some (.int .i64 g.q):=hk.cell (i:=2) rfl
   have t3:V.cell? ⟨w.heap.size,3,none⟩=some (.int .i64 g.d):=hk.cell (i:=3) rfl
   have t4:V.cell? ⟨w.heap.size,4,none⟩=some (.int .i64 g.k):=hk.cell (i:=4) rfl
   have t5:V.cell? ⟨w.heap.size,5,none⟩=some (.int .i64 g.v):=hk.cell (i:=5) rfl
   have t6:V.cell? ⟨w.heap.size,6,none⟩=some (.int .i64 g.g):=hk.cell (i:=6) rfl
   refine bodyPost_ret (v:=g.val) (by simp [results,Tryz.results168,go_sem,t0,t1,t2,t3,t4,t5,t6,Ev.val]) rfl ⟨g,HMN.out,rfl,HS.out.be.trans (ht.to_below (fun b e=>by omega) HS.out.be.size)⟩
end Go.Proofs.YtmobiieoecjmdaaGreat

