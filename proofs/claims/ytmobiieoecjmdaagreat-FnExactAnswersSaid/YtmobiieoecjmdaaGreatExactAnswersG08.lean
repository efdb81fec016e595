/- InOrd, GoodI, POk, MOpS -/
import Derived.Test.YtmobiieoecjmdaaGreatExactAnswersG07
import Derived.Test.YtmobiieoecjmdaaGreatExactAnswersG04
namespace Go.Proofs.YtmobiieoecjmdaaGreat
open Go.RowKit Go.Shelf
theorem yfi {p:Prop} (h:p):Hid p:=h
attribute [local go_sem] Oper.semAt_some
def Ev.ecmp (a b:Ev):Int:=Go.Proofs.YtmobiieoecjmdaaGreat.ecmp a.t a.s a.q a.d a.k a.v a.g b.t b.s b.q b.d b.k b.v b.g
theorem yg4 (a b:Ev) (z:Int) (h:a.ecmp b=z) (w:World):Calls Tryz.prog 123 #[a.val,b.val] w fun r w'=>r= .returned (.int .i64 z)∧Below w.heap.size w w':=by
 subst h;exact iCmp_any _ _ _ _ _ _ _ _ _ _ _ _ _ _ w
set_option maxRecDepth 100000 in
set_option maxHeartbeats 4000000 in
theorem yh6 (a:Option Addr) (cap b:Nat) (l:List Ev) (w:World) (hl:l.length≤1048576) (hI:l= []∨ ∃off,a=some ⟨b,off,none⟩∧EvsAt w b off l) (hb:b<w.heap.size):
  Calls Tryz.prog 166 #[.slice a l.length cap] w fun e w'=>Says e (∀i,i<l.length-1→(evAt l i).ecmp (evAt l (i+1))= -1)∧Below w.heap.size w w':=by
 refine(callsIn_wide (n:=5)).1 ?_
 refine callsIn_of_wp_marks Tryz.func166 rfl trivial ?_ rfl
 simp only [Tryz.ntmps166,List.size_toArray,List.length_cons,List.length_nil,Nat.reduceAdd,Nat.reduceSub,Array.replicate_succ,Array.replicate_zero,List.push_toArray,List.append_toArray,List.nil_append,List.cons_append]
 gi_wp2_with (refine⟨trivial,?_⟩;gi_at_call 201;refine(callsIn_wide.2 (pair_any _ _ _ _)).mono ?_;rintro e w' ⟨rfl,rfl⟩)
 have cR:=(Boxed.new w 4 (.bool false)).alloc (.cells #[.slice a l.length cap] 34)
 have cS:=Boxed.new (w.alloc (.cells #[.bool false] 4)) 34 (.slice a l.length cap)
 rw [World.size_alloc]at cS
 have hB0:Below w.heap.size w ((w.alloc (.cells #[.bool false] 4)).alloc (.cells #[.slice a l.length cap] 34)):=((Below.refl _ w).alloc (Nat.le_refl _) _).alloc (by simp) _
 refine wpIn_rangeFunc_ownH rfl (by omega) (gf:=218) (lb:= #[.pointer (some ⟨w.heap.size+1,0,none⟩)]) rfl trivial (enters_of Tryz.func218 (by kernel_rfl) rfl)
  (yrm 4 (by omega) (w.heap.size+1) b a cap l hl _ (by simp) cS.cell (hI.imp id (fun⟨off,e,h⟩=>⟨off,e,h.below hB0 hb⟩))) Same2.trans (Same2.putObj (by simp) (by simp;omega)) (Below.refl _ _) (fun _=>rfl)
  (fun pre W=>((∀x∈pre,(evAt l x.val).ecmp (evAt l (x.val+1))= -1)∧W.cell? ⟨w.heap.size,0,none⟩=some (.bool false)∧W.frozen? ⟨w.heap.size,0,none⟩=false)∧Below (w.heap.size+2) ((w.alloc (.cells #[.bool false] 4)).alloc (.cells #[.slice a l.length cap] 34)) W)
  (fun c pre W=>(c= .ret∧(∃x:Fin (l.length-1),(evAt l x.val).ecmp (evAt l (x.val+1))≠ -1)∧W.cell? ⟨w.heap.size,0,none⟩=some (.bool false))∧Below w.heap.size w W)
  (OwnFrom.and (Own.from (fun s A B row hs hg hr=>⟨hs.1,cell_kept hs.2.1 hg hr,(frozen_kept hs.2.1 hg hr).trans hs.2.2⟩) _) (ownFrom_below (by simp) (by simp)))
  (fun c=>OwnFrom.and (Own.from (fun s A B row hs hg hr=>⟨hs.1,hs.2.1,cell_kept hs.2.2 hg hr⟩) _) (ownFrom_below (Nat.le_refl _) (by simp;omega)))
  ⟨⟨by simp,cR.cell,cR.frozen⟩,Below.refl _ _⟩
  (fun x a' W=>∃Bx,w.heap.size+2≤Bx∧Bx+1<W.heap.size∧Ev.In W Bx 0 (evAt l x.val)∧Ev.In W (Bx+1) 0 (evAt l (x.val+1))∧a'= {tmps:= #[.slice a l.length cap,undef,.pointer (some ⟨w.heap.size,0,none⟩),.pointer (some ⟨Bx,0,none⟩),.pointer (some ⟨Bx+1,0,none⟩),.slice a l.length cap,.func (.func 218) #[] #[.pointer (some ⟨w.heap.size+1,0,none⟩)],(evAt l x.val).val,(evAt l (x.val+1)).val,undef,undef,undef,undef],defers:= []})
  (fun x a' s A B row hs hg hr=>by obtain⟨Bx,h1,h2,h3,h3',h4⟩:=hs;exact⟨Bx,h1,Nat.lt_of_lt_of_le h2 hg.size,h3.kept hg (fun r e=>(hr r e).2),h3'.kept hg (fun r e=>(hr r e).2),h4⟩) ?assign ?body ?done ?stop
 case assign=>
  rintro lp pre x W K ⟨⟨hp,hc,hf⟩,hB⟩ hK
  have hz:w.heap.size+1<W.heap.size:=by have:=hB.size;simp at this;omega
  have HP:=yfi hp
  clear hp
  gi_wp2
  have hBW:Below W.heap.size W ((W.alloc (.cells #[.int .i64 (evAt l x.val).t,.int .i64 (evAt l x.val).s,.int .i64 (evAt l x.val).q,.int .i64 (evAt l x.val).d,.int .i64 (evAt l x.val).k,.int .i64 (evAt l x.val).v,.int .i64 (evAt l x.val).g] 110)).alloc (.cells #[.int .i64 (evAt l (x.val+1)).t,.int .i64 (evAt l (x.val+1)).s,.int .i64 (evAt l (x.val+1)).q,.int .i64 (evAt l (x.val+1)).d,.int .i64 (evAt l (x.val+1)).k,.int .i64 (evAt l (x.val+1)).v,.int .i64 (evAt l (x.val+1)).g] 110)):=((Below.refl _ W).alloc (Nat.le_refl _) _).alloc (by simp) _
  have hE2:Ev.In ((W.alloc (.cells #[.int .i64 (evAt l x.val).t,.int .i64 (evAt l x.val).s,.int .i64 (evAt l x.val).q,.int .i64 (evAt l x.val).d,.int .i64 (evAt l x.val).k,.int .i64 (evAt l x.val).v,.int .i64 (evAt l x.val).g] 110)).alloc (.cells #[.int .i64 (evAt l (x.val+1)).t,.int .i64 (evAt l (x.val+1)).s,.int .i64 (evAt l (x.val+1)).q,.int .i64 (evAt l (x.val+1)).d,.int .i64 (evAt l (x.val+1)).k,.int .i64 (evAt l (x.val+1)).v,.int .i64 (evAt l (x.val+1)).g] 110)) (W.heap.size+1) 0 (evAt l (x.val+1)):=by
   have:=EvAt.new (W.alloc (.cells #[.int .i64 (evAt l x.val).t,.int .i64 (evAt l x.val).s,.int .i64 (evAt l x.val).q,.int .i64 (evAt l x.val).d,.int .i64 (evAt l x.val).k,.int .i64 (evAt l x.val).v,.int .i64 (evAt l x.val).g] 110)) 110 (evAt l (x.val+1)).t (evAt l (x.val+1)).s (evAt l (x.val+1)).q (evAt l (x.val+1)).d (evAt l (x.val+1)).k (evAt l (x.val+1)).v (evAt l (x.val+1)).g
   rw [World.size_alloc]at this
   exact this
  exact hK _ _ (((KeepsOthers.alloc _ _).trans (KeepsOthers.alloc _ _)).from _) (Same2.below hBW hz (by omega)) ⟨⟨HP.out,(hBW.cell (p:=⟨w.heap.size,0,none⟩) (by simp;omega)).trans hc,(hBW.frozen (p:=⟨w.heap.size,0,none⟩) (by simp;omega)).trans hf⟩,hB.trans (hBW.mono (by omega))⟩ ⟨W.heap.size,by omega,by simp,(EvAt.new _ _ _ _ _ _ _ _ _).alloc (by simp) _,hE2,rfl⟩
 case body=>
  rintro lp pre x a' W hlp _ ⟨⟨hp,hc,hf⟩,hB⟩ ⟨Bx,h1,h2,h3,h3',rfl⟩ hlt
  have hz:w.heap.size+1<W.heap.size:=by have:=hB.size;simp at this;omega
  obtain⟨f0,f1,f2,f3,f4,f5,f6⟩:=h3.lits
  obtain⟨e0,e1,e2,e3,e4,e5,e6⟩:=h3'.lits
  have HP:=yfi hp
  have HB:=yfi hB
  have HB0:=yfi hB0
  clear hp hB h3 h3' cR cS hI hB0
  generalize hzz:(evAt l x.val).ecmp (evAt l (x.val+1))=z
  have HZ:=yfi hzz
  clear hzz
  by_cases hz1:z= -1
  ·have hne:(z != -1)=false:=by simpa using hz1
   have HZ1:Hid (z= -1):=hz1
   clear hz1
   gi_wp2_with (refine⟨trivial,?_⟩;gi_at_call 123;refine(CallsIn.inRound lp (callsIn_wide.2 (yg4 (evAt l x.val) (evAt l (x.val+1)) z HZ.out _))).mono ?_;rintro e w2 ⟨rfl,hb2⟩;have hc2:=(hb2.cell (p:=⟨w.heap.size,0,none⟩) (by simp;omega)).trans hc;have hf2:=(hb2.frozen (p:=⟨w.heap.size,0,none⟩) (by simp;omega)).trans hf)
   exact⟨(ya6 hb2).from _,Same2.below hb2 hz (by omega),⟨fun y hy=>(List.mem_append.1 hy).elim (HP.out y) (fun e=>by simp at e;subst e;rw [HZ.out,HZ1.out]),hc2,hf2⟩,HB.out.trans (hb2.mono (by omega))⟩
  ·have hne:(z != -1)=true:=by simpa using hz1
   have HZ1:Hid (¬z= -1):=hz1
   clear hz1
   gi_wp2_with (refine⟨trivial,?_⟩;gi_at_call 123;refine(CallsIn.inRound lp (callsIn_wide.2 (yg4 (evAt l x.val) (evAt l (x.val+1)) z HZ.out _))).mono ?_;rintro e w2 ⟨rfl,hb2⟩;have hc2:=(hb2.cell (p:=⟨w.heap.size,0,none⟩) (by simp;omega)).trans hc;have hf2:=(hb2.frozen (p:=⟨w.heap.size,0,none⟩) (by simp;omega)).trans hf)
   exact⟨((ya6 hb2).trans (KeepsOthers.setCell _ _ _)).from _,⟨rfl,⟨x,by rw [HZ.out];exact HZ1.out⟩,World.cell?_setCell_same' _ _ _ (by rw [hc2];rfl)⟩,((HB0.out.trans (HB.out.mono (by omega))).trans (hb2.mono (by omega))).setCell (p:=⟨w.heap.size,0,none⟩) (Nat.le_refl _) _⟩
 case done=>
  rintro D ys W hD rfl ⟨⟨hp,hc,hf⟩,hB⟩ hK
  have HP:=yfi hp
  clear hp
  gi_wp2
  have hK':=(KeepsOthers.setCell W ⟨w.heap.size,0,none⟩ (.bool true)).same D _ hK rfl
  refine⟨by simp,.inl ⟨_,_,rfl,run_takeDeferred hK',?_⟩⟩
  have hc5:=cell_kept (World.cell?_setCell_same' W ⟨w.heap.size,0,none⟩ (.bool true) (by rw [hc];rfl)) (grownBy_putObj' _ D (.deferred none)) (fun r e=>by cases e;exact⟨_,hK',rfl⟩)
  refine⟨.bool true,?_,Says.yes (fun i hi=>HP.out ⟨i,hi⟩ (List.mem_finRange _)),((hB0.trans (hB.mono (by omega))).setCell (p:=⟨w.heap.size,0,none⟩) (Nat.le_refl _) _).trans (belowK_b (w:=w) (Nat.le_refl _) _ D _ _ (by simp at hD;omega) hK' rfl rfl)⟩
  simp [results,Tryz.f166,go_sem,hc5]
 case stop=>
  rintro D c pre W hD _ ⟨⟨rfl,⟨x,hx⟩,hc⟩,hB⟩ hK
  have HX:=yfi hx
  clear hx
  gi_wp2
  refine⟨by simp,.inl ⟨_,_,rfl,run_takeDeferred hK,?_⟩⟩
  have hc5:=cell_kept hc (grownBy_putObj' _ D (.deferred none)) (fun r e=>by cases e;exact⟨_,hK,rfl⟩)
  refine⟨.bool false,?_,Says.no (fun h=>HX.out (h x.val x.isLt)),hB.trans (belowK_b (w:=w) (Nat.le_refl _) W D _ _ (by simp at hD;omega) hK rfl rfl)⟩
  simp [results,Tryz.f166,go_sem,hc5]
end Go.Proofs.YtmobiieoecjmdaaGreat

namespace Go.Proofs.YtmobiieoecjmdaaGreat
open Go.RowKit
theorem ysh (t s q g t' s' q' g':Int):cmpI t s q g t' s' q' g'= -1∨0≤cmpI t s q g t' s' q' g':=by
 unfold cmpI num
 split<;>(try split)<;>(try split)<;>(try split)<;>(try split)<;>omega
theorem yhx {a b:Ev} (ha:a.ok=true) (hb:b.ok=true):a.ecmp b= -1↔a.cmp b<0:=by
 have h1:okB a.t a.s a.q a.d a.k a.v a.g=true:=ha
 have h2:okB b.t b.s b.q b.d b.k b.v b.g=true:=hb
 unfold Ev.ecmp Ev.cmp ecmp
 rw [if_pos ⟨h1,h2⟩]
 have:=ysh a.t a.s a.q a.g b.t b.s b.q b.g
 omega
def Em.okB (x:Em):Bool:=decide (0≤x.t∧x.t≤1000∧0≤x.l∧x.l≤3∧0≤x.v∧x.v≤999)
def emsB (l:List Em):Bool:=decide (l.length≤8)&&(List.range l.length).all fun i=>(xAt l i).okB
def ymm (n t:Int) (e:Ev):Bool:=e.ok&&(decide (e.s=n)&&decide (t<e.t))
def ydc (n:Int) (p:Ps):Bool:=decide (p.s.length≤8)&&(List.range p.s.length).all fun i=>ymm n p.e.t (evAt p.s i)
def hasB (l:List Ps) (m:Nat) (g:Int):Bool:=(List.range m).any fun j=>decide ((psAt l j).e.g=g)
theorem ym7 {n:Nat} {f:Nat→Bool} (h:∀i,i<n→f i=true):(List.range n).all f=true:=by
 rw [List.all_eq_true]
 intro i hi
 exact h i (List.mem_range.1 hi)
theorem yqk {n:Nat} {f:Nat→Bool} {i:Nat} (hi:i<n) (h:f i=false):(List.range n).all f=false:=by
 rw [List.all_eq_false]
 exact⟨i,List.mem_range.2 hi,by rw [h];decide⟩
theorem any_yes {n:Nat} {f:Nat→Bool} {i:Nat} (hi:i<n) (h:f i=true):(List.range n).any f=true:=by
 rw [List.any_eq_true]
 exact⟨i,List.mem_range.2 hi,h⟩
theorem all_iff {n:Nat} {f:Nat→Bool}:(List.range n).all f=true↔ ∀i,i<n→f i=true:=by
 rw [List.all_eq_true]
 exact⟨fun h i hi=>h i (List.mem_range.2 hi),fun h i hi=>h i (List.mem_range.1 hi)⟩
theorem hasB_no {l:List Ps} {m:Nat} {g:Int}:hasB l m g=false↔ ∀j,j<m→(psAt l j).e.g≠g:=by
 unfold hasB
 rw [List.any_eq_false]
 constructor
 ·intro h j hj e
  exact h j (List.mem_range.2 hj) (by simpa using e)
 ·intro h j hj e
  exact h j (List.mem_range.1 hj) (by simpa using e)
def Asc1 (l:List Int) (i:Nat):Prop:=0≤intAt l i∧intAt l i≤100000∧(0<i→intAt l (i-1)<intAt l i)
def Asc (l:List Int):Prop:=∀i,i<l.length→Asc1 l i
def Past1 (p:Pa) (i:Nat):Prop:=(psAt p.p i).e.ok=true∧(psAt p.p i).e.d=p.n∧(psAt p.p i).b.ok=true∧ydc p.n (psAt p.p i)=true∧hasB p.p i (psAt p.p i).e.g=false∧emsB (psAt p.p i).x=true∧(0<i→(psAt p.p (i-1)).e.cmp (psAt p.p i).e<0)
def Todo1 (p:Pa) (i:Nat):Prop:=(evAt p.t i).d=p.n∧hasB p.p p.p.length (evAt p.t i).g=false∧(0<p.p.length→(psAt p.p (p.p.length-1)).e.cmp (evAt p.t i)<0)
def GoodS (p:Pa):Prop:=(0≤p.n∧p.n<4∧p.st.ok=true∧p.p.length≤200∧yvx p.t∧p.a.length≤2000)∧(∀i,i<p.p.length→Past1 p i)∧(∀i,i<p.t.length→Todo1 p i)∧Asc p.a
def Pa.es (p:Pa):List Ev:=p.p.map Ps.e
def Pa.all (p:Pa):List Ev:=p.es++p.t
def Past2 (p:Pa) (i:Nat):Prop:=(psAt p.p i).b.ok=true∧ydc p.n (psAt p.p i)=true∧emsB (psAt p.p i).x=true
def yvy (p:Pa):Prop:=(∀i,i<p.all.length→(evAt p.all i).ok=true)∧(∀i,i<p.all.length→(evAt p.all i).d=p.n)∧(∀i,i<p.all.length-1→(evAt p.all i).ecmp (evAt p.all (i+1))= -1)∧ ∀i,i<p.all.length→ ∀j,j<i→(evAt p.all j).g≠(evAt p.all i).g
def ype (p:Pa):Prop:=(p.p.length≤200∧p.t.length≤2000∧p.a.length≤2000)∧(0≤p.n∧p.n≤3)∧p.st.ok=true∧(∀i,i<p.p.length→Past2 p i)∧yvy p∧Asc p.a
theorem yf8 (p:Pa):p.es.length=p.p.length:=by simp [Pa.es]
theorem es_at (p:Pa) {i:Nat} (h:i<p.p.length):evAt p.es i=(psAt p.p i).e:=by
 simp [Pa.es,evAt,psAt,h]
theorem yd9 (p:Pa):p.all.length=p.p.length+p.t.length:=by simp [Pa.all,yf8]
theorem ybs (p:Pa) {i:Nat} (h:i<p.p.length):evAt p.all i=(psAt p.p i).e:=by
 unfold Pa.all
 rw [yv3 _ _ _ (by rw [yf8];exact h),es_at p h]
theorem ycb (p:Pa) (i:Nat):evAt p.all (p.p.length+i)=evAt p.t i:=by
 unfold Pa.all
 have:=yse p.es p.t i
 rw [yf8]at this
 exact this
theorem yqb {l:List Ev} (h:∀i,i<l.length-1→(evAt l i).cmp (evAt l (i+1))<0):∀(d i:Nat),i+d+1<l.length→(evAt l i).cmp (evAt l (i+d+1))<0
 |0,i,hi=>h i (by omega)
 |d+1,i,hi=>yf9 (yqb h d i (by omega)) (h (i+d+1) (by omega))
theorem yhv (p:Pa):GoodS p↔ype p:=by
 constructor
 ·rintro ⟨⟨h1,h2,h3,h4,h5,h6⟩,hP,hT,hA⟩
  have hok:∀i,i<p.all.length→(evAt p.all i).ok=true:=fun i hi=>by
   rw [yd9]at hi
   by_cases hp:i<p.p.length
   ·rw [ybs p hp];exact(hP i hp).1
   ·obtain⟨k,rfl⟩:∃k,i=p.p.length+k:=⟨i-p.p.length,by omega⟩
    rw [ycb];exact(h5.2 k (by omega)).1
  refine⟨⟨h4,h5.1,h6⟩,⟨h1,by omega⟩,h3,fun i hi=>⟨(hP i hi).2.2.1,(hP i hi).2.2.2.1,(hP i hi).2.2.2.2.2.1⟩,⟨hok,fun i hi=> ?_,fun i hi=> ?_,fun i hi j hj=> ?_⟩,hA⟩
  ·rw [yd9]at hi
   by_cases hp:i<p.p.length
   ·rw [ybs p hp];exact(hP i hp).2.1
   ·obtain⟨k,rfl⟩:∃k,i=p.p.length+k:=⟨i-p.p.length,by omega⟩
    rw [ycb];exact(hT k (by omega)).1
  ·rw [yhx (hok i (by omega)) (hok (i+1) (by omega))]
   rw [yd9]at hi
   by_cases hp:i+1<p.p.length
   ·rw [ybs p (by omega),ybs p hp]
    exact(hP (i+1) hp).2.2.2.2.2.2 (by omega)
   ·by_cases hp2:i<p.p.length
    ·have e:i=p.p.length-1:=by omega
     rw [ybs p hp2,show i+1=p.p.length+0 from by omega,ycb,e]
     exact(hT 0 (by omega)).2.2 (by omega)
    ·obtain⟨k,rfl⟩:∃k,i=p.p.length+k:=⟨i-p.p.length,by omega⟩
     rw [ycb,Nat.add_assoc,ycb]
     exact(h5.2 (k+1) (by omega)).2.1 (by omega)
  ·rw [yd9]at hi
   by_cases hp:i<p.p.length
   ·rw [ybs p hp,ybs p (by omega)]
    exact hasB_no.1 (hP i hp).2.2.2.2.1 j hj
   ·obtain⟨k,rfl⟩:∃k,i=p.p.length+k:=⟨i-p.p.length,by omega⟩
    rw [ycb]
    by_cases hq:j<p.p.length
    ·rw [ybs p hq]
     exact hasB_no.1 (hT k (by omega)).2.1 j hq
    ·obtain⟨m,rfl⟩:∃m,j=p.p.length+m:=⟨j-p.p.length,by omega⟩
     rw [ycb]
     exact(h5.2 k (by omega)).2.2 m (by omega)
 ·rintro ⟨⟨h1,h2,h3⟩,⟨h4,h5⟩,h6,hP,⟨hok,hd,hc,hg⟩,hA⟩
  have hcm:∀i,i<p.all.length-1→(evAt p.all i).cmp (evAt p.all (i+1))<0:=fun i hi=>(yhx (hok i (by omega)) (hok (i+1) (by omega))).1 (hc i hi)
  have hlt:∀i j,i<j→j<p.all.length→(evAt p.all i).cmp (evAt p.all j)<0:=fun i j hij hj=>by
   obtain⟨d,rfl⟩:∃d,j=i+d+1:=⟨j-i-1,by omega⟩
   exact yqb hcm d i hj
  have hal:=yd9 p
  refine⟨⟨h4,by omega,h6,h1,⟨h2,fun i hi=>⟨?_,fun h0=> ?_,fun j hj=> ?_⟩⟩,h3⟩,fun i hi=>⟨?_,?_,(hP i hi).1,(hP i hi).2.1,hasB_no.2 fun j hj=> ?_,(hP i hi).2.2,fun h0=> ?_⟩,fun i hi=>⟨?_,hasB_no.2 fun j hj=> ?_,fun h0=> ?_⟩,hA⟩
  ·rw [←ycb];exact hok _ (by omega)
  ·have:=hlt (p.p.length+(i-1)) (p.p.length+i) (by omega) (by omega)
   rwa [ycb,ycb]at this
  ·have:=hg (p.p.length+i) (by omega) (p.p.length+j) (by omega)
   rwa [ycb,ycb]at this
  ·rw [←ybs p hi];exact hok _ (by omega)
  ·rw [←ybs p hi];exact hd _ (by omega)
  ·have:=hg i (by omega) j hj
   rwa [ybs p hi,ybs p (by omega)]at this
  ·have:=hlt (i-1) i (by omega) (by omega)
   rwa [ybs p hi,ybs p (by omega)]at this
  ·rw [←ycb];exact hd _ (by omega)
  ·have:=hg (p.p.length+i) (by omega) j (by omega)
   rwa [ycb,ybs p hj]at this
  ·have:=hlt (p.p.length-1) (p.p.length+i) (by omega) (by omega)
   rwa [ycb,ybs p (by omega)]at this
open Classical in
noncomputable def Pa.ok (p : Pa) : Bool := decide (ype p)
theorem Pa.ok_yes {p:Pa} (h:ype p):p.ok=true:=by unfold Pa.ok;simpa using h
theorem Pa.ok_no {p:Pa} (h:¬ype p):p.ok=false:=by unfold Pa.ok;simpa using h
theorem Pa.ok_iff {p:Pa}:p.ok=true↔ype p:=by unfold Pa.ok;simp
theorem ytd {e:Ending} {p:Pa} (h:Says e (ype p)):e= .returned (.bool p.ok):=by
 obtain⟨b,rfl,hb⟩:=h
 cases b
 ·rw [Pa.ok_no (fun h=>by have:=hb.2 h;cases this)]
 ·rw [Pa.ok_yes (hb.1 rfl)]
set_option maxHeartbeats 4000000
open Go.RowKit
theorem yfy (x:Int) (w:World):Calls Tryz.prog 178 #[.int .i64 x] w fun e w'=>e= .returned (.bool (decide (0≤x)&&decide (x<2)))∧w'=w:=by
 go_enter Tryz.func178,Tryz.ntmps178
 go_wp2
 all_goals
  go_ret
  first|exact⟨ybu (by simp_all),rfl⟩|exact⟨ya0 (by simp;omega),rfl⟩
theorem sOp_any (n s z:Int) (vi vs:Value) (ah:Option Addr) (len cap:Nat) (c a b k:Int) (w:World):
  Calls Tryz.prog 135 #[.agg #[.int .i64 n,.int .i64 s,vi,.slice ah len cap,vs,.int .i64 z],.agg #[.int .i64 c,.int .i64 a,.int .i64 b,.int .i64 k]] w fun e w'=>
   e= .returned (.bool (okO n len c a b k))∧Below w.heap.size w w':=by
 have hc:c=0∨c=1∨c=2∨c=3∨c=4∨c=5∨c=6∨(¬c=0∧ ¬c=1∧ ¬c=2∧ ¬c=3∧ ¬c=4∧ ¬c=5∧ ¬c=6):=by omega
 rcases hc with rfl|rfl|rfl|rfl|rfl|rfl|rfl|⟨c0,c1,c2,c3,c4,c5,c6⟩
 ·go_enter Tryz.func135,Tryz.ntmps135
  go_wp2_with (go_at_call 178;refine(yfy _ _).mono ?_;rintro e w2 ⟨rfl,hw⟩;have hw':=hw.symm;clear hw;subst hw')
  all_goals
   go_ret
   refine⟨?_,((Below.refl _ _).alloc (Nat.le_refl _) _).alloc (by simp) _⟩
   first|exact ybu (by simp [okO];omega)|exact ya0 (by simp [okO];omega)|exact ya0 (by simp [okO])
 ·go_enter Tryz.func135,Tryz.ntmps135
  go_wp2_with (go_at_call 178;refine(yfy _ _).mono ?_;rintro e w2 ⟨rfl,hw⟩;have hw':=hw.symm;clear hw;subst hw')
  all_goals
   go_ret
   refine⟨?_,((Below.refl _ _).alloc (Nat.le_refl _) _).alloc (by simp) _⟩
   first|exact ybu (by simp [okO];omega)|exact ya0 (by simp [okO];omega)|exact ya0 (by simp [okO])
 ·go_enter Tryz.func135,Tryz.ntmps135
  go_wp2_with (go_at_call 178;refine(yfy _ _).mono ?_;rintro e w2 ⟨rfl,hw⟩;have hw':=hw.symm;clear hw;subst hw')
  all_goals
   go_ret
   refine⟨?_,((Below.refl _ _).alloc (Nat.le_refl _) _).alloc (by simp) _⟩
   first|exact ybu (by simp [okO];omega)|exact ya0 (by simp [okO];omega)|exact ya0 (by simp [okO])
 ·go_enter Tryz.func135,Tryz.ntmps135
  go_wp2_with (go_at_call 178;refine(yfy _ _).mono ?_;rintro e w2 ⟨rfl,hw⟩;have hw':=hw.symm;clear hw;subst hw')
  all_goals
   go_ret
   refine⟨?_,((Below.refl _ _).alloc (Nat.le_refl _) _).alloc (by simp) _⟩
   first|exact ybu (by simp [okO];omega)|exact ya0 (by simp [okO];omega)|exact ya0 (by simp [okO])
 ·go_enter Tryz.func135,Tryz.ntmps135
  go_wp2_with (go_at_call 178;refine(yfy _ _).mono ?_;rintro e w2 ⟨rfl,hw⟩;have hw':=hw.symm;clear hw;subst hw')
  all_goals
   go_ret
   refine⟨?_,((Below.refl _ _).alloc (Nat.le_refl _) _).alloc (by simp) _⟩
   first|exact ybu (by simp [okO];omega)|exact ya0 (by simp [okO];omega)|exact ya0 (by simp [okO])
 ·go_enter Tryz.func135,Tryz.ntmps135
  go_wp2_with (go_at_call 178;refine(yfy _ _).mono ?_;rintro e w2 ⟨rfl,hw⟩;have hw':=hw.symm;clear hw;subst hw')
  all_goals
   go_ret
   refine⟨?_,((Below.refl _ _).alloc (Nat.le_refl _) _).alloc (by simp) _⟩
   first|exact ybu (by simp [okO];omega)|exact ya0 (by simp [okO];omega)|exact ya0 (by simp [okO])
 ·go_enter Tryz.func135,Tryz.ntmps135
  go_wp2_with (go_at_call 178;refine(yfy _ _).mono ?_;rintro e w2 ⟨rfl,hw⟩;have hw':=hw.symm;clear hw;subst hw')
  all_goals
   go_ret
   refine⟨?_,((Below.refl _ _).alloc (Nat.le_refl _) _).alloc (by simp) _⟩
   first|exact ybu (by simp [okO];omega)|exact ya0 (by simp [okO];omega)|exact ya0 (by simp [okO])
 ·go_enter Tryz.func135,Tryz.ntmps135
  go_wp2_with (go_at_call 178;refine(yfy _ _).mono ?_;rintro e w2 ⟨rfl,hw⟩;have hw':=hw.symm;clear hw;subst hw')
  all_goals
   go_ret
   refine⟨?_,((Below.refl _ _).alloc (Nat.le_refl _) _).alloc (by simp) _⟩
   first|exact ybu (by simp [okO];omega)|exact ya0 (by simp [okO];omega)|exact ya0 (by simp [okO])
end Go.Proofs.YtmobiieoecjmdaaGreat

