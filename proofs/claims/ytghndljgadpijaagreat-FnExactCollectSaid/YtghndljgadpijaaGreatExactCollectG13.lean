/- InOrd, GoodI, POk, QueueS, PSp -/
import Derived.Test.YtghndljgadpijaaGreatExactCollectG11
import Derived.Test.YtghndljgadpijaaGreatExactCollectG12
import Derived.Test.YtghndljgadpijaaGreatExactCollectG04
import Derived.Test.YtghndljgadpijaaGreatExactCollectG03
import Derived.Test.YtghndljgadpijaaGreatExactCollectG01
/- The program's inOrder. -/
namespace Go.Proofs.YtghndljgadpijaaGreat
open Go.RowKit Go.Shelf
theorem zb3 {p:Prop} (h:p):Hid p:=h
attribute [local go_sem] Oper.semAt_some
def Ev.ecmp (a b:Ev):Int:=Go.Proofs.YtghndljgadpijaaGreat.ecmp a.t a.s a.q a.d a.k a.v a.g b.t b.s b.q b.d b.k b.v b.g
theorem zbn (a b:Ev) (z:Int) (h:a.ecmp b=z) (w:World):Calls Tryz.prog 124 #[a.val,b.val] w fun r w'=>r= .returned (.int .i64 z)∧Below w.heap.size w w':=by
  subst h;exact iCmp_any _ _ _ _ _ _ _ _ _ _ _ _ _ _ w
set_option maxRecDepth 100000 in
set_option maxHeartbeats 4000000 in
theorem zch (a:Option Addr) (cap b:Nat) (l:List Ev) (w:World) (hl:l.length≤1048576) (hI:l= []∨ ∃off,a=some ⟨b,off,none⟩∧EvsAt w b off l) (hb:b<w.heap.size):
    Calls Tryz.prog 202 #[.slice a l.length cap] w fun e w'=>Says e (∀i,i<l.length-1→(evAt l i).ecmp (evAt l (i+1))= -1)∧Below w.heap.size w w':=by
  refine(callsIn_wide (n:=5)).1 ?_
  refine callsIn_of_wp_marks Tryz.func202 rfl trivial ?_ rfl
  simp only [Tryz.ntmps202,List.size_toArray,List.length_cons,List.length_nil,Nat.reduceAdd,Nat.reduceSub,Array.replicate_succ,Array.replicate_zero,List.push_toArray,List.append_toArray,List.nil_append,List.cons_append]
  gi_wp2_with (refine⟨trivial,?_⟩;gi_at_call 255;refine(callsIn_wide.2 (pair_any _ _ _ _)).mono ?_;rintro e w' ⟨rfl,rfl⟩)
  have cR:=(Boxed.new w 4 (.bool false)).alloc (.cells #[.slice a l.length cap] 34)
  have cS:=Boxed.new (w.alloc (.cells #[.bool false] 4)) 34 (.slice a l.length cap)
  rw [World.size_alloc]at cS
  have hB0:Below w.heap.size w ((w.alloc (.cells #[.bool false] 4)).alloc (.cells #[.slice a l.length cap] 34)):=((Below.refl _ w).alloc (Nat.le_refl _) _).alloc (by simp) _
  refine wpIn_rangeFunc_ownH rfl (by omega) (gf:=293) (lb:= #[.pointer (some ⟨w.heap.size+1,0,none⟩)]) rfl trivial (enters_of Tryz.func293 (by kernel_rfl) rfl)
    (zm2 4 (by omega) (w.heap.size+1) b a cap l hl _ (by simp) cS.cell (hI.imp id (fun⟨off,e,h⟩=>⟨off,e,h.below hB0 hb⟩))) Same2.trans (Same2.putObj (by simp) (by simp;omega)) (Below.refl _ _) (fun _=>rfl)
    (fun pre W=>((∀x∈pre,(evAt l x.val).ecmp (evAt l (x.val+1))= -1)∧W.cell? ⟨w.heap.size,0,none⟩=some (.bool false)∧W.frozen? ⟨w.heap.size,0,none⟩=false)∧Below (w.heap.size+2) ((w.alloc (.cells #[.bool false] 4)).alloc (.cells #[.slice a l.length cap] 34)) W)
    (fun c pre W=>(c= .ret∧(∃x:Fin (l.length-1),(evAt l x.val).ecmp (evAt l (x.val+1))≠ -1)∧W.cell? ⟨w.heap.size,0,none⟩=some (.bool false))∧Below w.heap.size w W)
    (OwnFrom.and (Own.from (fun s A B row hs hg hr=>⟨hs.1,cell_kept hs.2.1 hg hr,(frozen_kept hs.2.1 hg hr).trans hs.2.2⟩) _) (ownFrom_below (by simp) (by simp)))
    (fun c=>OwnFrom.and (Own.from (fun s A B row hs hg hr=>⟨hs.1,hs.2.1,cell_kept hs.2.2 hg hr⟩) _) (ownFrom_below (Nat.le_refl _) (by simp;omega)))
    ⟨⟨by simp,cR.cell,cR.frozen⟩,Below.refl _ _⟩
    (fun x a' W=>∃Bx,w.heap.size+2≤Bx∧Bx+1<W.heap.size∧Ev.In W Bx 0 (evAt l x.val)∧Ev.In W (Bx+1) 0 (evAt l (x.val+1))∧a'= {tmps:= #[.slice a l.length cap,undef,.pointer (some ⟨w.heap.size,0,none⟩),.pointer (some ⟨Bx,0,none⟩),.pointer (some ⟨Bx+1,0,none⟩),.slice a l.length cap,.func (.func 293) #[] #[.pointer (some ⟨w.heap.size+1,0,none⟩)],(evAt l x.val).val,(evAt l (x.val+1)).val,undef,undef,undef,undef],defers:= []})
    (fun x a' s A B row hs hg hr=>by obtain⟨Bx,h1,h2,h3,h3',h4⟩:=hs;exact⟨Bx,h1,Nat.lt_of_lt_of_le h2 hg.size,h3.kept hg (fun r e=>(hr r e).2),h3'.kept hg (fun r e=>(hr r e).2),h4⟩) ?assign ?body ?done ?stop
  case assign=>
    rintro lp pre x W K ⟨⟨hp,hc,hf⟩,hB⟩ hK
    have hz:w.heap.size+1<W.heap.size:=by have:=hB.size;simp at this;omega
    have HP:=zb3 hp
    clear hp
    gi_wp2
    have hBW:Below W.heap.size W ((W.alloc (.cells #[.int .i64 (evAt l x.val).t,.int .i64 (evAt l x.val).s,.int .i64 (evAt l x.val).q,.int .i64 (evAt l x.val).d,.int .i64 (evAt l x.val).k,.int .i64 (evAt l x.val).v,.int .i64 (evAt l x.val).g] 90)).alloc (.cells #[.int .i64 (evAt l (x.val+1)).t,.int .i64 (evAt l (x.val+1)).s,.int .i64 (evAt l (x.val+1)).q,.int .i64 (evAt l (x.val+1)).d,.int .i64 (evAt l (x.val+1)).k,.int .i64 (evAt l (x.val+1)).v,.int .i64 (evAt l (x.val+1)).g] 90)):=((Below.refl _ W).alloc (Nat.le_refl _) _).alloc (by simp) _
    have hE2:Ev.In ((W.alloc (.cells #[.int .i64 (evAt l x.val).t,.int .i64 (evAt l x.val).s,.int .i64 (evAt l x.val).q,.int .i64 (evAt l x.val).d,.int .i64 (evAt l x.val).k,.int .i64 (evAt l x.val).v,.int .i64 (evAt l x.val).g] 90)).alloc (.cells #[.int .i64 (evAt l (x.val+1)).t,.int .i64 (evAt l (x.val+1)).s,.int .i64 (evAt l (x.val+1)).q,.int .i64 (evAt l (x.val+1)).d,.int .i64 (evAt l (x.val+1)).k,.int .i64 (evAt l (x.val+1)).v,.int .i64 (evAt l (x.val+1)).g] 90)) (W.heap.size+1) 0 (evAt l (x.val+1)):=by
      have:=EvAt.new (W.alloc (.cells #[.int .i64 (evAt l x.val).t,.int .i64 (evAt l x.val).s,.int .i64 (evAt l x.val).q,.int .i64 (evAt l x.val).d,.int .i64 (evAt l x.val).k,.int .i64 (evAt l x.val).v,.int .i64 (evAt l x.val).g] 90)) 90 (evAt l (x.val+1)).t (evAt l (x.val+1)).s (evAt l (x.val+1)).q (evAt l (x.val+1)).d (evAt l (x.val+1)).k (evAt l (x.val+1)).v (evAt l (x.val+1)).g
      rw [World.size_alloc]at this
      exact this
    exact hK _ _ (((KeepsOthers.alloc _ _).trans (KeepsOthers.alloc _ _)).from _) (Same2.below hBW hz (by omega)) ⟨⟨HP.out,(hBW.cell (p:=⟨w.heap.size,0,none⟩) (by simp;omega)).trans hc,(hBW.frozen (p:=⟨w.heap.size,0,none⟩) (by simp;omega)).trans hf⟩,hB.trans (hBW.mono (by omega))⟩ ⟨W.heap.size,by omega,by simp,(EvAt.new _ _ _ _ _ _ _ _ _).alloc (by simp) _,hE2,rfl⟩
  case body=>
    rintro lp pre x a' W hlp _ ⟨⟨hp,hc,hf⟩,hB⟩ ⟨Bx,h1,h2,h3,h3',rfl⟩ hlt
    have hz:w.heap.size+1<W.heap.size:=by have:=hB.size;simp at this;omega
    obtain⟨f0,f1,f2,f3,f4,f5,f6⟩:=h3.lits
    obtain⟨e0,e1,e2,e3,e4,e5,e6⟩:=h3'.lits
    have HP:=zb3 hp
    have HB:=zb3 hB
    have HB0:=zb3 hB0
    clear hp hB h3 h3' cR cS hI hB0
    generalize hzz:(evAt l x.val).ecmp (evAt l (x.val+1))=z
    have HZ:=zb3 hzz
    clear hzz
    by_cases hz1:z= -1
    · have hne:(z != -1)=false:=by simpa using hz1
      have HZ1:Hid (z= -1):=hz1
      clear hz1
      gi_wp2_with (refine⟨trivial,?_⟩;gi_at_call 124;refine(CallsIn.inRound lp (callsIn_wide.2 (zbn (evAt l x.val) (evAt l (x.val+1)) z HZ.out _))).mono ?_;rintro e w2 ⟨rfl,hb2⟩;have hc2:=(hb2.cell (p:=⟨w.heap.size,0,none⟩) (by simp;omega)).trans hc;have hf2:=(hb2.frozen (p:=⟨w.heap.size,0,none⟩) (by simp;omega)).trans hf)
      exact⟨(yvh hb2).from _,Same2.below hb2 hz (by omega),⟨fun y hy=>(List.mem_append.1 hy).elim (HP.out y) (fun e=>by simp at e;subst e;rw [HZ.out,HZ1.out]),hc2,hf2⟩,HB.out.trans (hb2.mono (by omega))⟩
    · have hne:(z != -1)=true:=by simpa using hz1
      have HZ1:Hid (¬z= -1):=hz1
      clear hz1
      gi_wp2_with (refine⟨trivial,?_⟩;gi_at_call 124;refine(CallsIn.inRound lp (callsIn_wide.2 (zbn (evAt l x.val) (evAt l (x.val+1)) z HZ.out _))).mono ?_;rintro e w2 ⟨rfl,hb2⟩;have hc2:=(hb2.cell (p:=⟨w.heap.size,0,none⟩) (by simp;omega)).trans hc;have hf2:=(hb2.frozen (p:=⟨w.heap.size,0,none⟩) (by simp;omega)).trans hf)
      exact⟨((yvh hb2).trans (KeepsOthers.setCell _ _ _)).from _,⟨rfl,⟨x,by rw [HZ.out];exact HZ1.out⟩,World.cell?_setCell_same' _ _ _ (by rw [hc2];rfl)⟩,((HB0.out.trans (HB.out.mono (by omega))).trans (hb2.mono (by omega))).setCell (p:=⟨w.heap.size,0,none⟩) (Nat.le_refl _) _⟩
  case done=>
    rintro D ys W hD rfl ⟨⟨hp,hc,hf⟩,hB⟩ hK
    have HP:=zb3 hp
    clear hp
    gi_wp2
    have hK':=(KeepsOthers.setCell W ⟨w.heap.size,0,none⟩ (.bool true)).same D _ hK rfl
    refine⟨by simp,.inl ⟨_,_,rfl,run_takeDeferred hK',?_⟩⟩
    have hc5:=cell_kept (World.cell?_setCell_same' W ⟨w.heap.size,0,none⟩ (.bool true) (by rw [hc];rfl)) (grownBy_putObj' _ D (.deferred none)) (fun r e=>by cases e;exact⟨_,hK',rfl⟩)
    refine⟨.bool true,?_,Says.yes (fun i hi=>HP.out ⟨i,hi⟩ (List.mem_finRange _)),((hB0.trans (hB.mono (by omega))).setCell (p:=⟨w.heap.size,0,none⟩) (Nat.le_refl _) _).trans (belowK_b (w:=w) (Nat.le_refl _) _ D _ _ (by simp at hD;omega) hK' rfl rfl)⟩
    simp [results,Tryz.f202,go_sem,hc5]
  case stop=>
    rintro D c pre W hD _ ⟨⟨rfl,⟨x,hx⟩,hc⟩,hB⟩ hK
    have HX:=zb3 hx
    clear hx
    gi_wp2
    refine⟨by simp,.inl ⟨_,_,rfl,run_takeDeferred hK,?_⟩⟩
    have hc5:=cell_kept hc (grownBy_putObj' _ D (.deferred none)) (fun r e=>by cases e;exact⟨_,hK,rfl⟩)
    refine⟨.bool false,?_,Says.no (fun h=>HX.out (h x.val x.isLt)),hB.trans (belowK_b (w:=w) (Nat.le_refl _) W D _ _ (by simp at hD;omega) hK rfl rfl)⟩
    simp [results,Tryz.f202,go_sem,hc5]
end Go.Proofs.YtghndljgadpijaaGreat

/- What a queue is, in the program's words. -/
namespace Go.Proofs.YtghndljgadpijaaGreat
open Go.RowKit
theorem zmu (t s q g t' s' q' g':Int):cmpI t s q g t' s' q' g'= -1∨0≤cmpI t s q g t' s' q' g':=by
  unfold cmpI num
  split<;>(try split)<;>(try split)<;>(try split)<;>(try split)<;>omega
theorem zd6 {a b:Ev} (ha:a.ok=true) (hb:b.ok=true):a.ecmp b= -1↔a.cmp b<0:=by
  have h1:okB a.t a.s a.q a.d a.k a.v a.g=true:=ha
  have h2:okB b.t b.s b.q b.d b.k b.v b.g=true:=hb
  unfold Ev.ecmp Ev.cmp ecmp
  rw [if_pos ⟨h1,h2⟩]
  have:=zmu a.t a.s a.q a.g b.t b.s b.q b.g
  omega
def Em.okB (x:Em):Bool:=decide (0≤x.t∧x.t≤1000∧0≤x.l∧x.l≤3∧0≤x.v∧x.v≤999)
def emsB (l:List Em):Bool:=decide (l.length≤8)&&(List.range l.length).all fun i=>(xAt l i).okB
def zhd (n t:Int) (e:Ev):Bool:=e.ok&&(decide (e.s=n)&&decide (t<e.t))
def yzf (n:Int) (p:Ps):Bool:=decide (p.s.length≤8)&&(List.range p.s.length).all fun i=>zhd n p.e.t (evAt p.s i)
def hasB (l:List Ps) (m:Nat) (g:Int):Bool:=(List.range m).any fun j=>decide ((psAt l j).e.g=g)
theorem zh0 {n:Nat} {f:Nat→Bool} (h:∀i,i<n→f i=true):(List.range n).all f=true:=by
  rw [List.all_eq_true]
  intro i hi
  exact h i (List.mem_range.1 hi)
theorem zl2 {n:Nat} {f:Nat→Bool} {i:Nat} (hi:i<n) (h:f i=false):(List.range n).all f=false:=by
  rw [List.all_eq_false]
  exact⟨i,List.mem_range.2 hi,by rw [h];decide⟩
theorem any_yes {n:Nat} {f:Nat→Bool} {i:Nat} (hi:i<n) (h:f i=true):(List.range n).any f=true:=by
  rw [List.any_eq_true]
  exact⟨i,List.mem_range.2 hi,h⟩
theorem all_iff {n:Nat} {f:Nat→Bool}:(List.range n).all f=true↔ ∀i,i<n→f i=true:=by
  rw [List.all_eq_true]
  exact⟨fun h i hi=>h i (List.mem_range.2 hi),fun h i hi=>h i (List.mem_range.1 hi)⟩
theorem hasB_no {l:List Ps} {m:Nat} {g:Int}:hasB l m g=false↔ ∀j,j<m→(psAt l j).e.g≠g:=by
  unfold hasB
  rw [List.any_eq_false]
  constructor
  · intro h j hj e
    exact h j (List.mem_range.2 hj) (by simpa using e)
  · intro h j hj e
    exact h j (List.mem_range.1 hj) (by simpa using e)
def Asc1 (l:List Int) (i:Nat):Prop:=0≤intAt l i∧intAt l i≤100000∧(0<i→intAt l (i-1)<intAt l i)
def Asc (l:List Int):Prop:=∀i,i<l.length→Asc1 l i
def Past1 (p:Pa) (i:Nat):Prop:=(psAt p.p i).e.ok=true∧(psAt p.p i).e.d=p.n∧(psAt p.p i).b.ok=true∧yzf p.n (psAt p.p i)=true∧hasB p.p i (psAt p.p i).e.g=false∧emsB (psAt p.p i).x=true∧(0<i→(psAt p.p (i-1)).e.cmp (psAt p.p i).e<0)
def Todo1 (p:Pa) (i:Nat):Prop:=(evAt p.t i).d=p.n∧hasB p.p p.p.length (evAt p.t i).g=false∧(0<p.p.length→(psAt p.p (p.p.length-1)).e.cmp (evAt p.t i)<0)
def GoodS (p:Pa):Prop:=(0≤p.n∧p.n<4∧p.st.ok=true∧p.p.length≤200∧zpr p.t∧p.a.length≤2000)∧(∀i,i<p.p.length→Past1 p i)∧(∀i,i<p.t.length→Todo1 p i)∧Asc p.a
def Pa.es (p:Pa):List Ev:=p.p.map Ps.e
def Pa.all (p:Pa):List Ev:=p.es++p.t
def Past2 (p:Pa) (i:Nat):Prop:=(psAt p.p i).b.ok=true∧yzf p.n (psAt p.p i)=true∧emsB (psAt p.p i).x=true
def zps (p:Pa):Prop:=(∀i,i<p.all.length→(evAt p.all i).ok=true)∧(∀i,i<p.all.length→(evAt p.all i).d=p.n)∧(∀i,i<p.all.length-1→(evAt p.all i).ecmp (evAt p.all (i+1))= -1)∧ ∀i,i<p.all.length→ ∀j,j<i→(evAt p.all j).g≠(evAt p.all i).g
def zjv (p:Pa):Prop:=(p.p.length≤200∧p.t.length≤2000∧p.a.length≤2000)∧(0≤p.n∧p.n≤3)∧p.st.ok=true∧(∀i,i<p.p.length→Past2 p i)∧zps p∧Asc p.a
theorem zav (p:Pa):p.es.length=p.p.length:=by simp [Pa.es]
theorem es_at (p:Pa) {i:Nat} (h:i<p.p.length):evAt p.es i=(psAt p.p i).e:=by
  simp [Pa.es,evAt,psAt,h]
theorem yzc (p:Pa):p.all.length=p.p.length+p.t.length:=by simp [Pa.all,zav]
theorem yy4 (p:Pa) {i:Nat} (h:i<p.p.length):evAt p.all i=(psAt p.p i).e:=by
  unfold Pa.all
  rw [zox _ _ _ (by rw [zav];exact h),es_at p h]
theorem yyl (p:Pa) (i:Nat):evAt p.all (p.p.length+i)=evAt p.t i:=by
  unfold Pa.all
  have:=zmn p.es p.t i
  rw [zav]at this
  exact this
theorem zkv {l:List Ev} (h:∀i,i<l.length-1→(evAt l i).cmp (evAt l (i+1))<0):∀(d i:Nat),i+d+1<l.length→(evAt l i).cmp (evAt l (i+d+1))<0
  |0,i,hi=>h i (by omega)
  |d+1,i,hi=>zaw (zkv h d i (by omega)) (h (i+d+1) (by omega))
theorem zd1 (p:Pa):GoodS p↔zjv p:=by
  constructor
  · rintro ⟨⟨h1,h2,h3,h4,h5,h6⟩,hP,hT,hA⟩
    have hok:∀i,i<p.all.length→(evAt p.all i).ok=true:=fun i hi=>by
      rw [yzc]at hi
      by_cases hp:i<p.p.length
      · rw [yy4 p hp];exact(hP i hp).1
      · obtain⟨k,rfl⟩:∃k,i=p.p.length+k:=⟨i-p.p.length,by omega⟩
        rw [yyl];exact(h5.2 k (by omega)).1
    refine⟨⟨h4,h5.1,h6⟩,⟨h1,by omega⟩,h3,fun i hi=>⟨(hP i hi).2.2.1,(hP i hi).2.2.2.1,(hP i hi).2.2.2.2.2.1⟩,⟨hok,fun i hi=> ?_,fun i hi=> ?_,fun i hi j hj=> ?_⟩,hA⟩
    · rw [yzc]at hi
      by_cases hp:i<p.p.length
      · rw [yy4 p hp];exact(hP i hp).2.1
      · obtain⟨k,rfl⟩:∃k,i=p.p.length+k:=⟨i-p.p.length,by omega⟩
        rw [yyl];exact(hT k (by omega)).1
    · rw [zd6 (hok i (by omega)) (hok (i+1) (by omega))]
      rw [yzc]at hi
      by_cases hp:i+1<p.p.length
      · rw [yy4 p (by omega),yy4 p hp]
        exact(hP (i+1) hp).2.2.2.2.2.2 (by omega)
      · by_cases hp2:i<p.p.length
        · have e:i=p.p.length-1:=by omega
          rw [yy4 p hp2,show i+1=p.p.length+0 from by omega,yyl,e]
          exact(hT 0 (by omega)).2.2 (by omega)
        · obtain⟨k,rfl⟩:∃k,i=p.p.length+k:=⟨i-p.p.length,by omega⟩
          rw [yyl,Nat.add_assoc,yyl]
          exact(h5.2 (k+1) (by omega)).2.1 (by omega)
    · rw [yzc]at hi
      by_cases hp:i<p.p.length
      · rw [yy4 p hp,yy4 p (by omega)]
        exact hasB_no.1 (hP i hp).2.2.2.2.1 j hj
      · obtain⟨k,rfl⟩:∃k,i=p.p.length+k:=⟨i-p.p.length,by omega⟩
        rw [yyl]
        by_cases hq:j<p.p.length
        · rw [yy4 p hq]
          exact hasB_no.1 (hT k (by omega)).2.1 j hq
        · obtain⟨m,rfl⟩:∃m,j=p.p.length+m:=⟨j-p.p.length,by omega⟩
          rw [yyl]
          exact(h5.2 k (by omega)).2.2 m (by omega)
  · rintro ⟨⟨h1,h2,h3⟩,⟨h4,h5⟩,h6,hP,⟨hok,hd,hc,hg⟩,hA⟩
    have hcm:∀i,i<p.all.length-1→(evAt p.all i).cmp (evAt p.all (i+1))<0:=fun i hi=>(zd6 (hok i (by omega)) (hok (i+1) (by omega))).1 (hc i hi)
    have hlt:∀i j,i<j→j<p.all.length→(evAt p.all i).cmp (evAt p.all j)<0:=fun i j hij hj=>by
      obtain⟨d,rfl⟩:∃d,j=i+d+1:=⟨j-i-1,by omega⟩
      exact zkv hcm d i hj
    have hal:=yzc p
    refine⟨⟨h4,by omega,h6,h1,⟨h2,fun i hi=>⟨?_,fun h0=> ?_,fun j hj=> ?_⟩⟩,h3⟩,fun i hi=>⟨?_,?_,(hP i hi).1,(hP i hi).2.1,hasB_no.2 fun j hj=> ?_,(hP i hi).2.2,fun h0=> ?_⟩,fun i hi=>⟨?_,hasB_no.2 fun j hj=> ?_,fun h0=> ?_⟩,hA⟩
    · rw [←yyl];exact hok _ (by omega)
    · have:=hlt (p.p.length+(i-1)) (p.p.length+i) (by omega) (by omega)
      rwa [yyl,yyl]at this
    · have:=hg (p.p.length+i) (by omega) (p.p.length+j) (by omega)
      rwa [yyl,yyl]at this
    · rw [←yy4 p hi];exact hok _ (by omega)
    · rw [←yy4 p hi];exact hd _ (by omega)
    · have:=hg i (by omega) j hj
      rwa [yy4 p hi,yy4 p (by omega)]at this
    · have:=hlt (i-1) i (by omega) (by omega)
      rwa [yy4 p hi,yy4 p (by omega)]at this
    · rw [←yyl];exact hd _ (by omega)
    · have:=hg (p.p.length+i) (by omega) j (by omega)
      rwa [yyl,yy4 p hj]at this
    · have:=hlt (p.p.length-1) (p.p.length+i) (by omega) (by omega)
      rwa [yyl,yy4 p (by omega)]at this
open Classical in
noncomputable def Pa.ok (p : Pa) : Bool := decide (zjv p)
theorem Pa.ok_yes {p:Pa} (h:zjv p):p.ok=true:=by unfold Pa.ok;simpa using h
theorem Pa.ok_no {p:Pa} (h:¬zjv p):p.ok=false:=by unfold Pa.ok;simpa using h
theorem Pa.ok_iff {p:Pa}:p.ok=true↔zjv p:=by unfold Pa.ok;simp
theorem znj {e:Ending} {p:Pa} (h:Says e (zjv p)):e= .returned (.bool p.ok):=by
  obtain⟨b,rfl,hb⟩:=h
  cases b
  · rw [Pa.ok_no (fun h=>by have:=hb.2 h;cases this)]
  · rw [Pa.ok_yes (hb.1 rfl)]
theorem yzj {p:Prop} (h:p):Hid p:=h
set_option maxHeartbeats 2000000 in
theorem zln (x:Value) (l:List Ev) (w:World) (hl:l.length≤1048576) (hx:IsEvs w x l):
    Calls Tryz.prog 236 #[x] w fun e w'=>Says e (zpr l)∧Below w.heap.size w w':=by
  obtain⟨a,cap,rfl,h1,h2,h⟩:=hx
  clear h1 h2
  by_cases hz:l= []
  · subst hz
    clear h
    go_enter Tryz.func236,Tryz.ntmps236
    go_wp2
    go_loop [3] (fun i=>i= .int .i64 0) (fun _=>0)
    case atStart=>rfl
    case round=>
      subst hrel
      go_wp2
      go_ret
      exact⟨Says.yes ⟨by simp,fun i hi=>by simp at hi⟩,Below.refl _ _⟩
  · obtain⟨b,off,rfl,hb,hc⟩:=h.resolve_left hz
    clear h hz
    have HC:=yzj hc
    clear hc
    go_enter Tryz.func236,Tryz.ntmps236
    go_wp2
    go_loopw [3,4] (fun i _ wr=>∃k:Nat,k≤l.length∧i= .int .i64 k∧Below w.heap.size w wr∧Hid (∀i,i<k→Good1 l i)) (fun i _ _=>l.length-(intOf i).toNat)
    case atStart=>exact⟨0,Nat.zero_le _,rfl,Below.refl _ _,fun i hi=>by omega⟩
    case round=>
      obtain⟨k,hk,rfl,hB,HG⟩:=hrel
      have HB:=yzj hB
      by_cases hlt:k<l.length
      · have hbr:b<wr.heap.size:=Nat.lt_of_lt_of_le hb hB.size
        obtain⟨f0,f1,f2,f3,f4,f5,f6⟩:=((HC.out k hlt).below hB hb).beyond hbr
        have hkn:(k:Int)<(l.length:Int):=by omega
        cases hok:(evAt l k).ok
        · have HOK:=yzj hok
          clear hok hB
          have hne:=neB wr
          go_wp2_with fail
          refine wrb ?_
          repeat(go_big_quiet_step (first|(go_at_call 174;exact Beyond.of (zaj (evAt l k) false HOK.out _))))
          refine wpQuiet_nil ?_
          rintro w2 ⟨⟨_,hb2⟩,rfl⟩
          clear f0 f1 f2 f3 f4 f5 f6
          go_wp2
          go_ret
          exact⟨Says.no (zgd hlt (fun h=>by rw [Good1,HOK.out]at h;cases h.1)),trm HB.out hb2⟩
        · have HOK:=yzj hok
          clear hok
          --the test ahead of the inner loop,at place 0 and behind it
          have inner:∀w2:World,Hid (Below w.heap.size w w2)→Hid (0<k→(evAt l (k-1)).cmp (evAt l k)<0)→True:=fun _ _ _=>trivial
          clear inner
          have hne:=neB wr
          by_cases hk0:k=0
          · have hd:decide (0<k)=false:=by simp;omega
            have HK:Hid (k=0):=hk0
            clear hk0 hB
            go_wp2_with fail
            refine wrb ?_
            repeat(go_big_quiet_step (first|(go_at_call 174;exact Beyond.of (zaj (evAt l k) true HOK.out _))))
            refine wpQuiet_nil ?_
            rintro w2 ⟨⟨_,hb2⟩,rfl⟩
            clear f0 f1 f2 f3 f4 f5 f6 hne hd
            have HB2:=trh HB hb2
            clear hb2 hbr
            clear HB
            go_wp2
            go_loopw [4] (fun j wr2=>∃j0:Nat,j0≤k∧j= .int .i64 j0∧Hid (Below w.heap.size w wr2)∧Hid (∀i,i<j0→(evAt l i).g≠(evAt l k).g)) (fun j _=>k-(intOf j).toNat)
            case atStart=>exact⟨0,Nat.zero_le _,rfl,HB2,fun i hi=>by omega⟩
            case round=>
              clear HB2
              obtain⟨j0,hj,rfl,HB3,HT⟩:=hrel
              by_cases hjl:j0<k
              · have hbr3:b<wr.heap.size:=Nat.lt_of_lt_of_le hb HB3.out.size
                have fk:=(((HC.out k hlt).below HB3.out hb).beyond hbr3).2.2.2.2.2.2
                have fj:=(((HC.out j0 (by omega)).below HB3.out hb).beyond hbr3).2.2.2.2.2.2
                have hne:=neB wr
                have hjn:(j0:Int)<(l.length:Int):=by omega
                have hjk:(j0:Int)<(k:Int):=by omega
                by_cases hg:(evAt l j0).g=(evAt l k).g
                · have hge:((evAt l j0).g==(evAt l k).g)=true:=by simpa using hg
                  have HE:=yzj hg
                  clear hg
                  go_wp2_with fail
                  refine wrb ?_
                  repeat(go_big_quiet_step (fail))
                  refine wpQuiet_nil ?_
                  rintro w3 ⟨⟨_,hb3⟩,rfl⟩
                  clear fk fj hne
                  go_wp2
                  go_ret
                  exact⟨Says.no (zgd hlt (fun h=>h.2.2 j0 hjl HE.out)),trm HB3.out hb3⟩
                · have hge:((evAt l j0).g==(evAt l k).g)=false:=by simpa using hg
                  have HE:=yzj hg
                  clear hg
                  go_wp2_with fail
                  refine wrb ?_
                  repeat(go_big_quiet_step (fail))
                  refine wpQuiet_nil ?_
                  rintro w3 ⟨⟨_,hb3⟩,rfl⟩
                  clear fk fj hne
                  go_wp2
                  go_roundw
                  case rel=>exact⟨j0+1,by omega,by go_num,trm HB3.out hb3,fun i hi=>by
                    by_cases e:i=j0
                    · subst e;exact HE.out
                    · exact HT.out i (by omega)⟩
                  case measure=>simp [intOf];omega
              · go_wp2
                go_roundw
                case rel=>exact⟨k+1,by omega,by go_num,HB3.out,fun i hi=>by
                  by_cases e:i=k
                  · subst e;exact⟨HOK.out,fun h=>absurd h (by have:=HK.out;omega),fun j hj=>HT.out j (by omega)⟩
                  · exact HG.out i (by omega)⟩
                case measure=>simp [intOf];omega
          · have hd:decide (0<k)=true:=by simp;omega
            have hkp:(1:Int)≤(k:Int):=by omega
            have ek:((k:Int)-1).toNat=k-1:=by omega
            obtain⟨e0,e1,e2,e3,e4,e5,e6⟩:=((HC.out (k-1) (by omega)).below hB hb).beyond hbr
            have HK:Hid (¬k=0):=hk0
            clear hk0 hB
            generalize hz:(evAt l (k-1)).cmp (evAt l k)=z
            have HZ:=yzj hz
            clear hz
            by_cases hz0:0≤z
            · have hdz:decide ((0:Int)≤z)=true:=by simpa using hz0
              go_wp2_with fail
              refine wrb ?_
              repeat(go_big_quiet_step (first|(go_at_call 174;exact Beyond.of (zaj (evAt l k) true HOK.out _))|(go_at_call 176;exact Beyond.of (yxa (evAt l (k-1)) (evAt l k) z HZ.out _))))
              refine wpQuiet_nil ?_
              rintro w2 ⟨⟨_,hb2⟩,rfl⟩
              clear f0 f1 f2 f3 f4 f5 f6 e0 e1 e2 e3 e4 e5 e6 hne hd
              go_wp2
              go_ret
              exact⟨Says.no (zgd hlt (fun h=>by have h2:=h.2.1 (by have:=HK.out;omega);rw [HZ.out]at h2;omega)),trm HB.out hb2⟩
            · have hdz:decide ((0:Int)≤z)=false:=by simpa using hz0
              go_wp2_with fail
              refine wrb ?_
              repeat(go_big_quiet_step (first|(go_at_call 174;exact Beyond.of (zaj (evAt l k) true HOK.out _))|(go_at_call 176;exact Beyond.of (yxa (evAt l (k-1)) (evAt l k) z HZ.out _))))
              refine wpQuiet_nil ?_
              rintro w2 ⟨⟨_,hb2⟩,rfl⟩
              clear f0 f1 f2 f3 f4 f5 f6 e0 e1 e2 e3 e4 e5 e6 hne hd
              have HB2:=trh HB hb2
              clear hb2 hbr
              clear HB
              go_wp2
              go_loopw [4] (fun j wr2=>∃j0:Nat,j0≤k∧j= .int .i64 j0∧Hid (Below w.heap.size w wr2)∧Hid (∀i,i<j0→(evAt l i).g≠(evAt l k).g)) (fun j _=>k-(intOf j).toNat)
              case atStart=>exact⟨0,Nat.zero_le _,rfl,HB2,fun i hi=>by omega⟩
              case round=>
                clear HB2
                obtain⟨j0,hj,rfl,HB3,HT⟩:=hrel
                by_cases hjl:j0<k
                · have hbr3:b<wr.heap.size:=Nat.lt_of_lt_of_le hb HB3.out.size
                  have fk:=(((HC.out k hlt).below HB3.out hb).beyond hbr3).2.2.2.2.2.2
                  have fj:=(((HC.out j0 (by omega)).below HB3.out hb).beyond hbr3).2.2.2.2.2.2
                  have hne:=neB wr
                  have hjn:(j0:Int)<(l.length:Int):=by omega
                  have hjk:(j0:Int)<(k:Int):=by omega
                  by_cases hg:(evAt l j0).g=(evAt l k).g
                  · have hge:((evAt l j0).g==(evAt l k).g)=true:=by simpa using hg
                    have HE:=yzj hg
                    clear hg
                    go_wp2_with fail
                    refine wrb ?_
                    repeat(go_big_quiet_step (fail))
                    refine wpQuiet_nil ?_
                    rintro w3 ⟨⟨_,hb3⟩,rfl⟩
                    clear fk fj hne
                    go_wp2
                    go_ret
                    exact⟨Says.no (zgd hlt (fun h=>h.2.2 j0 hjl HE.out)),trm HB3.out hb3⟩
                  · have hge:((evAt l j0).g==(evAt l k).g)=false:=by simpa using hg
                    have HE:=yzj hg
                    clear hg
                    go_wp2_with fail
                    refine wrb ?_
                    repeat(go_big_quiet_step (fail))
                    refine wpQuiet_nil ?_
                    rintro w3 ⟨⟨_,hb3⟩,rfl⟩
                    clear fk fj hne
                    go_wp2
                    go_roundw
                    case rel=>exact⟨j0+1,by omega,by go_num,trm HB3.out hb3,fun i hi=>by
                      by_cases e:i=j0
                      · subst e;exact HE.out
                      · exact HT.out i (by omega)⟩
                    case measure=>simp [intOf];omega
                · go_wp2
                  go_roundw
                  case rel=>exact⟨k+1,by omega,by go_num,HB3.out,fun i hi=>by
                    by_cases e:i=k
                    · subst e;exact⟨HOK.out,fun _=>by rw [HZ.out];omega,fun j hj=>HT.out j (by omega)⟩
                    · exact HG.out i (by omega)⟩
                  case measure=>simp [intOf];omega
      · clear hB
        go_wp2
        go_ret
        exact⟨Says.dec ⟨fun h=>⟨by omega,fun i hi=>HG.out i (by omega)⟩,fun h=>by have:=h.1;omega⟩,HB.out⟩
set_option maxHeartbeats 4000000
open Go.RowKit
theorem zcy {p:Prop} (h:p):Hid p:=h
theorem sEmits (x:Value) (l:List Em) (w:World) (hl:l.length≤1048576) (h:IsX w x l):
    Calls Tryz.prog 239 #[x] w fun e w'=>e= .returned (.bool (emsB l))∧Below w.heap.size w w':=by
  obtain⟨a,cap,rfl,h1,h2,h⟩:=h
  clear h1 h2
  go_enter Tryz.func239,Tryz.ntmps239
  go_wp2
  go_loop [3] (fun i=>∃k:Nat,k≤l.length∧i= .int .i64 k∧Hid (∀j,j<k→(xAt l j).okB=true)) (fun i=>l.length-(intOf i).toNat)
  case atStart=>exact⟨0,Nat.zero_le _,rfl,fun j hj=>by omega⟩
  case round=>
    obtain⟨k,hk,rfl,HA⟩:=hrel
    by_cases hlt:k<l.length
    · obtain⟨b,off,rfl,hb,hc⟩:=h.resolve_left (by intro e;subst e;simp at hlt)
      obtain⟨f0,f1,f2⟩:=hc k hlt
      clear hc h
      have HNO:Hid ((xAt l k).okB=false→emsB l=false):=fun h=>by unfold emsB;rw [zl2 hlt h,Bool.and_false]
      have HDEF:Hid ((xAt l k).okB=decide (0≤(xAt l k).t∧(xAt l k).t≤1000∧0≤(xAt l k).l∧(xAt l k).l≤3∧0≤(xAt l k).v∧(xAt l k).v≤999)):=rfl
      generalize (xAt l k).t=et at f0 HDEF
      generalize (xAt l k).l=el at f1 HDEF
      generalize (xAt l k).v=ev at f2 HDEF
      by_cases c0:et<0
      · have HN:Hid (emsB l=false):=HNO.out (by rw [HDEF.out];exact decide_eq_false (by omega))
        go_wp2
        go_ret
        exact⟨ye8 HN.out.symm,Below.refl _ _⟩
      by_cases c1:(1000:Int)<et
      · have HN:Hid (emsB l=false):=HNO.out (by rw [HDEF.out];exact decide_eq_false (by omega))
        go_wp2
        go_ret
        exact⟨ye8 HN.out.symm,Below.refl _ _⟩
      by_cases c2:el<0
      · have HN:Hid (emsB l=false):=HNO.out (by rw [HDEF.out];exact decide_eq_false (by omega))
        go_wp2
        go_ret
        exact⟨ye8 HN.out.symm,Below.refl _ _⟩
      by_cases c3:(4:Int)≤el
      · have HN:Hid (emsB l=false):=HNO.out (by rw [HDEF.out];exact decide_eq_false (by omega))
        go_wp2
        go_ret
        exact⟨ye8 HN.out.symm,Below.refl _ _⟩
      by_cases c4:ev<0
      · have HN:Hid (emsB l=false):=HNO.out (by rw [HDEF.out];exact decide_eq_false (by omega))
        go_wp2
        go_ret
        exact⟨ye8 HN.out.symm,Below.refl _ _⟩
      by_cases c5:(1000:Int)≤ev
      · have HN:Hid (emsB l=false):=HNO.out (by rw [HDEF.out];exact decide_eq_false (by omega))
        go_wp2
        go_ret
        exact⟨ye8 HN.out.symm,Below.refl _ _⟩
      have HY:Hid ((xAt l k).okB=true):=by rw [HDEF.out];exact decide_eq_true (by omega)
      go_wp2
      go_round
      case rel=>exact⟨k+1,by omega,by go_num,fun j hj=>by
        by_cases e:j=k
        · subst e;exact HY.out
        · exact HA.out j (by omega)⟩
      case measure=>simp [intOf];omega
    · have he:k=l.length:=by omega
      have HYES:Hid (emsB l=decide (l.length≤8)):=by
        show emsB l=_
        unfold emsB
        rw [zh0 (fun j hj=>HA.out j (by omega)),Bool.and_true]
      clear h he
      go_wp2
      go_ret
      exact⟨ye8 (by rw [HYES.out,decide_eq_decide];omega),Below.refl _ _⟩
theorem sPast (a:Option Addr) (n cap:Nat) (l:List Ps) (tag:Int) (w:World) (hl:n≤1048576) (h:n=0∨ ∃b off,a=some ⟨b,off,none⟩∧ ∀j,j<n→w.cell? ⟨b,off+j*12+6,none⟩=some (.int .i64 (psAt l j).e.g)):
    Calls Tryz.prog 238 #[.slice a n cap,.int .i64 tag] w fun e w'=>e= .returned (.bool (hasB l n tag))∧Below w.heap.size w w':=by
  go_enter Tryz.func238,Tryz.ntmps238
  go_wp2
  go_loop [5] (fun i=>∃k:Nat,k≤n∧i= .int .i64 k∧Hid (∀j,j<k→(psAt l j).e.g≠tag)) (fun i=>n-(intOf i).toNat)
  case atStart=>exact⟨0,Nat.zero_le _,rfl,fun j hj=>by omega⟩
  case round=>
    obtain⟨k,hk,rfl,HA⟩:=hrel
    by_cases hlt:k<n
    · obtain⟨b,off,rfl,hc⟩:=h.resolve_left (by omega)
      have f6:=hc k hlt
      clear hc h
      by_cases hg:(psAt l k).e.g=tag
      · have HYES:Hid (hasB l n tag=true):=any_yes hlt (by simpa using hg)
        rw [hg]at f6
        clear hg
        go_wp2
        go_ret
        exact⟨ye8 HYES.out.symm,Below.refl _ _⟩
      · have HN:=zcy hg
        go_wp2
        go_round
        case rel=>exact⟨k+1,by omega,by go_num,fun j hj=>by
          by_cases e:j=k
          · subst e;exact HN.out
          · exact HA.out j (by omega)⟩
        case measure=>simp [intOf];omega
    · have HNO:Hid (hasB l n tag=false):=hasB_no.2 (fun j hj=>HA.out j (by omega))
      clear h
      go_wp2
      go_ret
      exact⟨ye8 HNO.out.symm,Below.refl _ _⟩
theorem sSent (n q d:Int) (v1 v4 v5 v6 ua ub uc:Value) (p:Ps) (w:World) (hl:p.s.length≤1048576) (h:IsD w ub (evsD p.s)):
    Calls Tryz.prog 237 #[.agg #[.int .i64 n,v1,.int .i64 q,.int .i64 d,v4,v5,v6],.agg #[.int .i64 p.e.t,.int .i64 p.e.s,.int .i64 p.e.q,.int .i64 p.e.d,.int .i64 p.e.k,.int .i64 p.e.v,.int .i64 p.e.g,ua,.int .i64 p.b.q,.int .i64 p.b.d,ub,uc]] w fun e w'=>e= .returned (.bool (yzf n p))∧Below w.heap.size w w':=by
  obtain⟨a,cap,rfl,h1,h2,h⟩:=h.isEvs
  clear h1 h2
  obtain⟨W0,hW0⟩:∃W0,(w.alloc (.cells #[.int .i64 n,v1,.int .i64 q,.int .i64 d,v4,v5,v6] 97)).alloc (.cells #[.int .i64 p.e.t,.int .i64 p.e.s,.int .i64 p.e.q,.int .i64 p.e.d,.int .i64 p.e.k,.int .i64 p.e.v,.int .i64 p.e.g,ua,.int .i64 p.b.q,.int .i64 p.b.d,.slice a p.s.length cap,uc] 172)=W0:=⟨_,rfl⟩
  have HB0:=hdq (beA2 hW0)
  have HP0:=hdq (bkA2 hW0)
  have HQ0:=hdq (bkB2 hW0)
  have hs0:w.heap.size+2≤W0.heap.size:=by rw [←hW0];simp
  have HW:=zcy hW0
  clear hW0
  go_enter Tryz.func237,Tryz.ntmps237
  go_wp2
  rw [HW.out]
  clear HW
  go_loopw [5] (fun i wr=>∃k:Nat,k≤p.s.length∧i= .int .i64 k∧Hid (∀j,j<k→zhd n p.e.t (evAt p.s j)=true)∧Below W0.heap.size W0 wr) (fun i _=>p.s.length-(intOf i).toNat)
  case atStart=>exact⟨0,Nat.zero_le _,rfl,fun j hj=>by omega,Below.refl _ _⟩
  case round=>
    obtain⟨k,hk,rfl,HA,hB⟩:=hrel
    have HB:=zcy (HB0.out.trans (hB.mono (by omega)))
    have HBr:=zcy hB
    have hsr:W0.heap.size≤wr.heap.size:=hB.size
    have HPr:=zcy (HP0.out.below hB)
    have HQr:=zcy (HQ0.out.below hB)
    have s10:=HQr.out.cell (i:=10) rfl
    clear hB
    by_cases hlt:k<p.s.length
    · obtain⟨b,off,rfl,hI⟩:=h.resolve_left (by intro e;rw [e]at hlt;simp at hlt)
      have hE:=(hI.below HB.out hI.1).2 k hlt
      obtain⟨e0,e1,e2,e3,e4,e5,e6⟩:=hE
      obtain⟨W1,hW1⟩:∃W1,wr.alloc (.cells #[.int .i64 (evAt p.s k).t,.int .i64 (evAt p.s k).s,.int .i64 (evAt p.s k).q,.int .i64 (evAt p.s k).d,.int .i64 (evAt p.s k).k,.int .i64 (evAt p.s k).v,.int .i64 (evAt p.s k).g] 90)=W1:=⟨_,rfl⟩
      have HB1:=hdq (beA hW1)
      have HE1:=hdq (bkA hW1)
      have HNO:Hid (zhd n p.e.t (evAt p.s k)=false→yzf n p=false):=fun h=>by unfold yzf;rw [zl2 hlt h,Bool.and_false]
      have HDEF:Hid (zhd n p.e.t (evAt p.s k)=((evAt p.s k).ok&&(decide ((evAt p.s k).s=n)&&decide (p.e.t<(evAt p.s k).t)))):=rfl
      obtain⟨x0,x1,x2,x3,x4,x5,x6⟩:=c7_7 HE1.out
      clear hI h
      have HOK:Hid (∀W,Calls Tryz.prog 174 #[.agg #[.int .i64 (evAt p.s k).t,.int .i64 (evAt p.s k).s,.int .i64 (evAt p.s k).q,.int .i64 (evAt p.s k).d,.int .i64 (evAt p.s k).k,.int .i64 (evAt p.s k).v,.int .i64 (evAt p.s k).g]] W fun r w'=>r= .returned (.bool (evAt p.s k).ok)∧Below W.heap.size W w'):=fun W=>zaj (evAt p.s k) _ rfl W
      go_wp2_with fail
      refine(HOK.out _).mono ?_
      rintro r w2 ⟨rfl,hb2⟩
      have HB2:=zcy hb2
      have HB2r:=zcy (HBr.out.trans ((trm HB1.out hb2).mono hsr))
      have HBw:=zcy (HB0.out.trans (HB2r.out.mono (by omega)))
      have y0:=(HE1.out.below hb2).cell (i:=0) rfl
      have y1:=(HE1.out.below hb2).cell (i:=1) rfl
      have p0:=(HP0.out.below HB2r.out).cell (i:=0) rfl
      have q0:=(HQ0.out.below HB2r.out).cell (i:=0) rfl
      clear hb2 hW1 HOK x0 x1 x2 x3 x4 x5 x6 e0 e1 e2 e3 e4 e5 e6 s10
      cases hok:(evAt p.s k).ok
      · have HN:Hid (yzf n p=false):=HNO.out (by rw [HDEF.out,hok];rfl)
        clear hok
        go_wp2
        go_ret
        exact⟨ye8 HN.out.symm,HBw.out⟩
      · by_cases c1:(evAt p.s k).s=n
        · by_cases c2:(evAt p.s k).t≤p.e.t
          · have HN:Hid (yzf n p=false):=HNO.out (by rw [HDEF.out,hok];simp;intro;omega)
            clear hok
            go_wp2
            go_ret
            exact⟨ye8 HN.out.symm,HBw.out⟩
          · have HY:Hid (zhd n p.e.t (evAt p.s k)=true):=by rw [HDEF.out,hok,decide_eq_true c1,decide_eq_true (show p.e.t<(evAt p.s k).t by omega)];rfl
            clear hok
            rw [c1]at y1
            go_wp2
            go_roundw
            case rel=>exact⟨k+1,by omega,by go_num,fun j hj=>by
              by_cases e:j=k
              · subst e;exact HY.out
              · exact HA.out j (by omega),HB2r.out⟩
            case measure=>simp [intOf];omega
        · have HN:Hid (yzf n p=false):=HNO.out (by rw [HDEF.out,hok];simp [c1])
          clear hok
          go_wp2
          go_ret
          exact⟨ye8 HN.out.symm,HBw.out⟩
    · have HYES:Hid (yzf n p=decide (p.s.length≤8)):=by
        show yzf n p=_
        unfold yzf
        rw [zh0 (fun j hj=>HA.out j (by omega)),Bool.and_true]
      clear h
      go_wp2
      go_ret
      exact⟨ye8 (by rw [HYES.out,decide_eq_decide];omega),HB.out⟩
end Go.Proofs.YtghndljgadpijaaGreat

