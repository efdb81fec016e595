/- PTs, PTb, PTc, PCpO, PTd, CmP, SIp, SrQ, NCm -/
import Derived.Test.YtmobiieoecjmdaaGreatExactAnswersG31
import Derived.Sort.BigQuietIn
import Derived.Shelf.SlSortCmp.WholeK
namespace Go.Proofs.YtmobiieoecjmdaaGreat
open Go.RowKit
structure CutAt (l:List Ps) (e:Ev) (k:Nat):Prop where
 le:k≤l.length
 lo:∀j,j<k→(psAt l j).e.cmp e<0
 hi:k<l.length→ ¬(psAt l k).e.cmp e<0
theorem hidPTb {p:Prop} (h:p):Hid p:=h
set_option maxRecDepth 100000 in
set_option maxHeartbeats 4000000 in
theorem yh0 (x v7 v10 v11:Value) (p:Ps) (e:Ev) (z:Int) (hz:p.e.ecmp e=z) (w:World) (f7:∃a n c,v7= .slice a n c) (f10:∃a n c,v10= .slice a n c) (f11:∃a n c,v11= .slice a n c) (hx:x= .agg #[.int .i64 p.e.t,.int .i64 p.e.s,.int .i64 p.e.q,.int .i64 p.e.d,.int .i64 p.e.k,.int .i64 p.e.v,.int .i64 p.e.g,v7,.int .i64 p.b.q,.int .i64 p.b.d,v10,v11]):
  Calls Tryz.prog 170 #[x,.agg #[.int .i64 e.t,.int .i64 e.s,.int .i64 e.q,.int .i64 e.d,.int .i64 e.k,.int .i64 e.v,.int .i64 e.g]] w fun r w'=>r= .returned (.int .i64 z)∧Below w.heap.size w w':=by
 subst hx
 obtain⟨a7,n7,c7,rfl⟩:=f7
 obtain⟨a10,n10,c10,rfl⟩:=f10
 obtain⟨a11,n11,c11,rfl⟩:=f11
 obtain⟨W0,hW0⟩:∃W0,(w.alloc (.cells #[.int .i64 p.e.t,.int .i64 p.e.s,.int .i64 p.e.q,.int .i64 p.e.d,.int .i64 p.e.k,.int .i64 p.e.v,.int .i64 p.e.g,.slice a7 n7 c7,.int .i64 p.b.q,.int .i64 p.b.d,.slice a10 n10 c10,.slice a11 n11 c11] 115)).alloc (.cells #[.int .i64 e.t,.int .i64 e.s,.int .i64 e.q,.int .i64 e.d,.int .i64 e.k,.int .i64 e.v,.int .i64 e.g] 110)=W0:=⟨_,rfl⟩
 have HB0:=hdq (beA2 hW0)
 have BX:=bkA2 hW0
 have BE:=bkB2 hW0
 have x0:=BX.cell (i:=0) rfl
 have e0:=BE.cell (i:=0) rfl
 have x1:=BX.cell (i:=1) rfl
 have e1:=BE.cell (i:=1) rfl
 have x2:=BX.cell (i:=2) rfl
 have e2:=BE.cell (i:=2) rfl
 have x3:=BX.cell (i:=3) rfl
 have e3:=BE.cell (i:=3) rfl
 have x4:=BX.cell (i:=4) rfl
 have e4:=BE.cell (i:=4) rfl
 have x5:=BX.cell (i:=5) rfl
 have e5:=BE.cell (i:=5) rfl
 have x6:=BX.cell (i:=6) rfl
 have e6:=BE.cell (i:=6) rfl
 go_enter Tryz.func170,Tryz.ntmps170
 go_wp2_with fail
 refine(yg4 p.e e z hz _).mono ?_
 rintro r w1 ⟨rfl,hb⟩
 have HB1:=trh HB0 hb
 clear hb hW0 BX BE x0 e0 x1 e1 x2 e2 x3 e3 x4 e4 x5 e5 x6 e6
 go_wp2
 go_ret
 exact⟨rfl,HB1.out⟩
theorem yne {p:Prop} (h:p):Hid p:=h
def FoundP (l:List Ps) (e:Ev) (r:Ending):Prop:=∃(i:Nat) (f:Bool),r= .returned (.tuple #[.int .i64 (i:Int),.bool f])∧i≤l.length∧(i=0∨(psAt l (i-1)).e.ecmp e<0)∧(i<l.length→ ¬(psAt l i).e.ecmp e<0)
set_option maxRecDepth 100000 in
set_option maxHeartbeats 8000000 in
theorem yk6 (x:Value) (l:List Ps) (e:Ev) (w:World) (hl:l.length≤1048577) (h:IsD w x (yay l)):
  Calls Tryz.prog 169 #[x,.agg #[.int .i64 e.t,.int .i64 e.s,.int .i64 e.q,.int .i64 e.d,.int .i64 e.k,.int .i64 e.v,.int .i64 e.g],.func (.func 170) #[] #[]] w fun r w'=>FoundP l e r∧Below w.heap.size w w':=by
 obtain⟨a4,c4,rfl,_⟩:=IsD.len h
 obtain⟨W0,hW0⟩:∃W0,w.alloc (.cells #[.int .i64 e.t,.int .i64 e.s,.int .i64 e.q,.int .i64 e.d,.int .i64 e.k,.int .i64 e.v,.int .i64 e.g] 110)=W0:=⟨_,rfl⟩
 have HE0:=hdq (bkA hW0)
 have HB0:=hdq (beA hW0)
 have hs0:W0.heap.size=w.heap.size+1:=by rw [←hW0];simp
 have HI0:=yne (h.under HB0.out)
 clear h
 go_enter Tryz.func169,Tryz.ntmps169
 go_wp2
 clear hW0
 go_loopw [9,10] (fun i j wr=>∃x y:Nat,x≤y∧y≤l.length∧i= .int .i64 x∧j= .int .i64 y∧Hid (Below W0.heap.size W0 wr)∧Hid (x=0∨(psAt l (x-1)).e.ecmp e<0)∧Hid (y<l.length→ ¬(psAt l y).e.ecmp e<0)) (fun i j _=>(intOf j).toNat-(intOf i).toNat)
 case atStart=>exact⟨0,l.length,Nat.zero_le _,Nat.le_refl _,rfl,rfl,Below.refl _ _,.inl rfl,fun h=>absurd h (Nat.lt_irrefl _)⟩
 case round=>
  obtain⟨x,y,hxy,hyn,rfl,rfl,HB,HL,HU⟩:=hrel
  have hsz:W0.heap.size≤wr.heap.size:=HB.out.size
  have hne:=neB wr
  have HE:=yne (HE0.out.below HB.out)
  have HI:=yne (HI0.out.under HB.out)
  by_cases hlt:x<y
  ·have hxi:(x:Int)<(y:Int):=by omega
   have hsum:(x:Int)+(y:Int)≤2097154:=by omega
   go_wp2_with fail
   obtain⟨h,hh⟩:∃h:Nat,((x:Int)+(y:Int))/2=(h:Int):=⟨(x+y)/2,by omega⟩
   rw [hh]
   have hh1:x≤h:=by omega
   have hh2:h<y:=by omega
   clear hh
   have hhn:(h:Int)<(l.length:Int):=by omega
   have hh0:(0:Int)≤(h:Int):=by omega
   obtain⟨a4',cap4,he4,_,_,h4⟩:=IsD.parts (c:=12) (n:=l.length) HI.out
   obtain⟨b,off,ha4,hb4,hc4⟩:=h4.resolve_left (by omega)
   obtain⟨rfl,rfl⟩:a4=a4'∧c4=cap4:=by simpa using he4
   subst ha4
   obtain⟨u7,u10,u11,k0,k1,k2,k3,k4,k5,k6,k7,k8,k9,k10,k11,d7,d10,d11⟩:=ycw hc4 (by omega:h<l.length)
   obtain⟨a7,c7,rfl,_⟩:=IsD.len d7
   obtain⟨a10,c10,rfl,_⟩:=IsD.len d10
   obtain⟨a11,c11,rfl,_⟩:=IsD.len d11
   have f0:∀q:Beyond wr,q.w.cell? ⟨b,off+h*12,none⟩=_:=fun q=>q.cell hb4 k0
   have f1:∀q:Beyond wr,q.w.cell? ⟨b,off+h*12+1,none⟩=_:=fun q=>q.cell hb4 k1
   have f2:∀q:Beyond wr,q.w.cell? ⟨b,off+h*12+2,none⟩=_:=fun q=>q.cell hb4 k2
   have f3:∀q:Beyond wr,q.w.cell? ⟨b,off+h*12+3,none⟩=_:=fun q=>q.cell hb4 k3
   have f4:∀q:Beyond wr,q.w.cell? ⟨b,off+h*12+4,none⟩=_:=fun q=>q.cell hb4 k4
   have f5:∀q:Beyond wr,q.w.cell? ⟨b,off+h*12+5,none⟩=_:=fun q=>q.cell hb4 k5
   have f6:∀q:Beyond wr,q.w.cell? ⟨b,off+h*12+6,none⟩=_:=fun q=>q.cell hb4 k6
   have f7:∀q:Beyond wr,q.w.cell? ⟨b,off+h*12+7,none⟩=_:=fun q=>q.cell hb4 k7
   have f8:∀q:Beyond wr,q.w.cell? ⟨b,off+h*12+8,none⟩=_:=fun q=>q.cell hb4 k8
   have f9:∀q:Beyond wr,q.w.cell? ⟨b,off+h*12+9,none⟩=_:=fun q=>q.cell hb4 k9
   have f10:∀q:Beyond wr,q.w.cell? ⟨b,off+h*12+10,none⟩=_:=fun q=>q.cell hb4 k10
   have f11:∀q:Beyond wr,q.w.cell? ⟨b,off+h*12+11,none⟩=_:=fun q=>q.cell hb4 k11
   obtain⟨g0,g1,g2,g3,g4,g5,g6⟩:=bb7 HE.out
   clear k0 k1 k2 k3 k4 k5 k6 k7 k8 k9 k10 k11 hc4 h4 he4 d7 d10 d11
   generalize hz:(psAt l h).e.ecmp e=z
   have HZ:=yne hz
   clear hz
   by_cases hzl:z<0
   ·have hdz:decide (z<0)=true:=by simpa using hzl
    refine wrb ?_
    repeat(go_big_quiet_step (first|(go_at_call 170;exact Beyond.of (yh0 _ _ _ _ (psAt l h) e z HZ.out _ ⟨_,_,_,rfl⟩ ⟨_,_,_,rfl⟩ ⟨_,_,_,rfl⟩ rfl))))
    refine wpQuiet_nil ?_
    rintro w2 ⟨⟨_,hb2⟩,rfl⟩
    clear hne f0 f1 f2 f3 f4 f5 f6 f7 f8 f9 f10 f11 g0 g1 g2 g3 g4 g5 g6
    go_wp2
    go_roundw
    case rel=>exact⟨h+1,y,by omega,hyn,by go_num,rfl,HB.out.trans (hb2.mono hsz),.inr (by rw [Nat.add_sub_cancel,HZ.out];omega),fun hy=>by have:=HU.out hy;omega⟩
    case measure=>simp [intOf];omega
   ·have hdz:decide (z<0)=false:=by simpa using hzl
    refine wrb ?_
    repeat(go_big_quiet_step (first|(go_at_call 170;exact Beyond.of (yh0 _ _ _ _ (psAt l h) e z HZ.out _ ⟨_,_,_,rfl⟩ ⟨_,_,_,rfl⟩ ⟨_,_,_,rfl⟩ rfl))))
    refine wpQuiet_nil ?_
    rintro w2 ⟨⟨_,hb2⟩,rfl⟩
    clear hne f0 f1 f2 f3 f4 f5 f6 f7 f8 f9 f10 f11 g0 g1 g2 g3 g4 g5 g6
    go_wp2
    go_roundw
    case rel=>exact⟨x,h,hh1,by omega,rfl,rfl,HB.out.trans (hb2.mono hsz),HL.out,fun _=>by rw [HZ.out];omega⟩
    case measure=>simp [intOf];omega
  ·obtain rfl:x=y:=by omega
   clear hlt
   go_wp2_with fail
   by_cases hxn:x<l.length
   ·have hd:decide (x<l.length)=true:=by simpa using hxn
    have hxi:(x:Int)<(l.length:Int):=by omega
    obtain⟨a4',cap4,he4,_,_,h4⟩:=IsD.parts (c:=12) (n:=l.length) HI.out
    obtain⟨b,off,ha4,hb4,hc4⟩:=h4.resolve_left (by omega)
    obtain⟨rfl,rfl⟩:a4=a4'∧c4=cap4:=by simpa using he4
    subst ha4
    obtain⟨u7,u10,u11,k0,k1,k2,k3,k4,k5,k6,k7,k8,k9,k10,k11,d7,d10,d11⟩:=ycw hc4 (hxn:x<l.length)
    obtain⟨a7,c7,rfl,_⟩:=IsD.len d7
    obtain⟨a10,c10,rfl,_⟩:=IsD.len d10
    obtain⟨a11,c11,rfl,_⟩:=IsD.len d11
    have f0:∀q:Beyond wr,q.w.cell? ⟨b,off+x*12,none⟩=_:=fun q=>q.cell hb4 k0
    have f1:∀q:Beyond wr,q.w.cell? ⟨b,off+x*12+1,none⟩=_:=fun q=>q.cell hb4 k1
    have f2:∀q:Beyond wr,q.w.cell? ⟨b,off+x*12+2,none⟩=_:=fun q=>q.cell hb4 k2
    have f3:∀q:Beyond wr,q.w.cell? ⟨b,off+x*12+3,none⟩=_:=fun q=>q.cell hb4 k3
    have f4:∀q:Beyond wr,q.w.cell? ⟨b,off+x*12+4,none⟩=_:=fun q=>q.cell hb4 k4
    have f5:∀q:Beyond wr,q.w.cell? ⟨b,off+x*12+5,none⟩=_:=fun q=>q.cell hb4 k5
    have f6:∀q:Beyond wr,q.w.cell? ⟨b,off+x*12+6,none⟩=_:=fun q=>q.cell hb4 k6
    have f7:∀q:Beyond wr,q.w.cell? ⟨b,off+x*12+7,none⟩=_:=fun q=>q.cell hb4 k7
    have f8:∀q:Beyond wr,q.w.cell? ⟨b,off+x*12+8,none⟩=_:=fun q=>q.cell hb4 k8
    have f9:∀q:Beyond wr,q.w.cell? ⟨b,off+x*12+9,none⟩=_:=fun q=>q.cell hb4 k9
    have f10:∀q:Beyond wr,q.w.cell? ⟨b,off+x*12+10,none⟩=_:=fun q=>q.cell hb4 k10
    have f11:∀q:Beyond wr,q.w.cell? ⟨b,off+x*12+11,none⟩=_:=fun q=>q.cell hb4 k11
    obtain⟨g0,g1,g2,g3,g4,g5,g6⟩:=bb7 HE.out
    clear k0 k1 k2 k3 k4 k5 k6 k7 k8 k9 k10 k11 hc4 h4 he4 d7 d10 d11
    generalize hz:(psAt l x).e.ecmp e=z
    have HZ:=yne hz
    clear hz
    refine wrb ?_
    repeat(go_big_quiet_step (first|(go_at_call 170;exact Beyond.of (yh0 _ _ _ _ (psAt l x) e z HZ.out _ ⟨_,_,_,rfl⟩ ⟨_,_,_,rfl⟩ ⟨_,_,_,rfl⟩ rfl))))
    refine wpQuiet_nil ?_
    rintro w2 ⟨⟨_,hb2⟩,rfl⟩
    clear hne f0 f1 f2 f3 f4 f5 f6 f7 f8 f9 f10 f11 g0 g1 g2 g3 g4 g5 g6
    go_wp2
    go_ret2
    exact⟨⟨x,_,rfl,hyn,HL.out,fun hy=>by have:=HU.out hy;omega⟩,HB0.out.trans ((HB.out.trans (hb2.mono hsz)).mono (by omega))⟩
   ·have hd:decide (x<l.length)=false:=by simpa using hxn
    have hxi:¬((x:Int)<(l.length:Int)):=by omega
    refine wrb ?_
    repeat(go_big_quiet_step (fail))
    refine wpQuiet_nil ?_
    rintro w2 ⟨⟨_,hb2⟩,rfl⟩
    clear hne
    go_wp2
    go_ret2
    exact⟨⟨x,_,rfl,hyn,HL.out,fun hy=>by have:=HU.out hy;omega⟩,HB0.out.trans ((HB.out.trans (hb2.mono hsz)).mono (by omega))⟩
set_option maxHeartbeats 2000000
set_option maxRecDepth 100000
open Go.RowKit
theorem yuv {p:Prop} (h:p):Hid p:=h
theorem ygo (x:Value) (l:List Ev) (w:World) (hl:l.length≤1048577) (h:SrcC w x 7 l.length (yag l)):
  Calls Tryz.prog 70 #[x] w fun e w'=>∃y,e= .returned y∧w'.ownsRow w.heap.size 110 7 y l.length (yag l)∧Below w.heap.size w w':=by
 obtain⟨i0,hi,hz0,hz1,hz2⟩:=info_parts ygv
 have HS:=yuv h
 obtain⟨_,a,c,rfl,_⟩:=h
 go_enter Tryz.func70,Tryz.ntmps70
 go_wp2_with (at_builtin;refine yat _ rfl _ _ 34 rfl w.heap.size 110 i0 _ 7 56 Tryz.underlying34 hi hz0 hz1 hz2 rfl (by decide) (.slice none 0 0) 0 [] rfl (World.ownsRow_nil w w.heap.size 110 7) (.slice a l.length c) l.length (yag l) rfl HS.out (yhe l) (by unfold maxLen;omega) (by omega) (Nat.le_refl _) ?_;intro v' w' hown hgrow hnew)
 go_ret
 rw [Nat.zero_add,List.nil_append]at hown
 exact⟨_,rfl,hown,(Below.refl _ w).grown hgrow (Nat.le_refl _) (fun k e=>by cases e)⟩
theorem ykv (x:Value) (l:List Em) (w:World) (hl:l.length≤1048577) (h:SrcC w x 3 l.length (yaw l)):
  Calls Tryz.prog 71 #[x] w fun e w'=>∃y,e= .returned y∧w'.ownsRow w.heap.size 113 3 y l.length (yaw l)∧Below w.heap.size w w':=by
 obtain⟨i0,hi,hz0,hz1,hz2⟩:=info_parts yn7
 have HS:=yuv h
 obtain⟨_,a,c,rfl,_⟩:=h
 go_enter Tryz.func71,Tryz.ntmps71
 go_wp2_with (at_builtin;refine yat _ rfl _ _ 55 rfl w.heap.size 113 i0 _ 3 24 Tryz.underlying55 hi hz0 hz1 hz2 rfl (by decide) (.slice none 0 0) 0 [] rfl (World.ownsRow_nil w w.heap.size 113 3) (.slice a l.length c) l.length (yaw l) rfl HS.out (yei l) (by unfold maxLen;omega) (by omega) (Nat.le_refl _) ?_;intro v' w' hown hgrow hnew)
 go_ret
 rw [Nat.zero_add,List.nil_append]at hown
 exact⟨_,rfl,hown,(Below.refl _ w).grown hgrow (Nat.le_refl _) (fun k e=>by cases e)⟩
theorem yq9 {a b:Ev} (ha:a.ok=true) (hb:b.ok=true):a.ecmp b=a.cmp b:=by
 unfold Ev.ecmp ecmp Ev.cmp
 rw [if_pos ⟨ha,hb⟩]
theorem yv2 {p:Pa} {e:Ev} (hp:p.ok=true) (he:e.ok=true) {i:Nat} (h1:i≤p.p.length) (h2:i=0∨(psAt p.p (i-1)).e.ecmp e<0) (h3:i<p.p.length→ ¬(psAt p.p i).e.ecmp e<0):CutAt p.p e i:=by
 have hS:=(yhv p).2 (by unfold Pa.ok at hp;simpa using hp)
 have hok:∀j,j<p.p.length→(psAt p.p j).e.ok=true:=fun j hj=>(hS.2.1 j hj).1
 have hlt:∀j,j<p.p.length→0<j→(psAt p.p (j-1)).e.cmp (psAt p.p j).e<0:=fun j hj h=>(hS.2.1 j hj).2.2.2.2.2.2 h
 refine⟨h1,fun j hj=> ?_,fun hi=>by rw [←yq9 (hok i hi) he];exact h3 hi⟩
 have hlast:(psAt p.p (i-1)).e.cmp e<0:=by
  rw [←yq9 (hok (i-1) (by omega)) he]
  exact h2.resolve_left (by omega)
 have down:∀d,d≤i-1→(psAt p.p (i-1-d)).e.cmp e<0:=fun d=>by
  induction d with
  |zero=>exact fun _=>hlast
  |succ d ih=>
   intro hd
   have:=hlt (i-1-d) (by omega) (by omega)
   rw [show i-1-d-1=i-1-(d+1)by omega]at this
   exact yf9 this (ih (by omega))
 have:=down (i-1-j) (by omega)
 rwa [show i-1-(i-1-j)=j by omega]at this
theorem yvg {a b c:Ev} (h:¬a.cmp b<0) (k:a.cmp c<0):b.cmp c<0:=Decidable.byContradiction fun h2=>cmp_neg h h2 k
def ydk (g:Option Ev) (e:Ev):Bool:=match g with
 |none=>true
 |some g=>decide (e.cmp g<0)
structure CutO (g:Option Ev) (l:List Ps) (c:Nat):Prop where
 le:c≤l.length
 lo:∀j,j<c→ydk g (psAt l j).e=true
 hi:c<l.length→ydk g (psAt l c).e=false
def AscP (l:List Ps):Prop:=∀a b,a<b→b<l.length→(psAt l a).e.cmp (psAt l b).e<0
def hdE (P:Nat→List Ps) (nx:Nat→Nat) (i:Nat):Ev:=(psAt (P i) (nx i)).e
def yap (P:Nat→List Ps) (nx:Nat→Nat):Nat→Int
 |0=> -1
 |i+1=>if nx i<(P i).length∧(yap P nx i<0∨(hdE P nx i).cmp (hdE P nx (yap P nx i).toNat)<0)then(i:Int)else yap P nx i
def upN (nx:Nat→Nat) (b:Nat):Nat→Nat:=fun i=>if i=b then nx b+1 else nx i
def comR (P:Nat→List Ps) (n:Nat) (g:Option Ev) (nx:Nat→Nat):Nat→List Ps
 |0=> []
 |f+1=>if yap P nx n<0 then []else
   if ydk g (hdE P nx (yap P nx n).toNat)=true then psAt (P (yap P nx n).toNat) (nx (yap P nx n).toNat)::comR P n g (upN nx (yap P nx n).toNat) f else []
def remL (P:Nat→List Ps) (ct nx:Nat→Nat) (n:Nat):List Ps:=(List.range n).flatMap fun i=>((P i).take (ct i)).drop (nx i)
def leP (a b:Ps):Prop:=¬b.e.cmp a.e<0
theorem ygc (P:Nat→List Ps) (nx:Nat→Nat):∀m,-1≤yap P nx m∧(yap P nx m<0→ ∀i,i<m→(P i).length≤nx i)∧
  (0≤yap P nx m→(yap P nx m).toNat<m∧nx (yap P nx m).toNat<(P (yap P nx m).toNat).length∧ ∀i,i<m→nx i<(P i).length→ ¬(hdE P nx i).cmp (hdE P nx (yap P nx m).toNat)<0)
 |0=>⟨by simp [yap],fun _ i hi=>by omega,fun h=>by simp [yap]at h⟩
 |m+1=>by
  obtain⟨h0,h1,h2⟩:=ygc P nx m
  unfold yap
  split
  ·next hc=>
   refine⟨by omega,fun h=>by omega,fun _=> ?_⟩
   rw [show((m:Int)).toNat=m from by omega]
   refine⟨by omega,hc.1,fun i hi hl=> ?_⟩
   by_cases him:i=m
   ·subst him
    exact fun h=>ynt h h
   ·rcases hc.2 with hb|hb
    ·have:=h1 hb i (by omega);omega
    ·by_cases hb0:yap P nx m<0
     ·have:=h1 hb0 i (by omega);omega
     ·exact fun h=>(h2 (by omega)).2.2 i (by omega) hl (yf9 h hb)
  ·next hc=>
   refine⟨h0,fun h i hi=> ?_,fun h=> ?_⟩
   ·by_cases him:i=m
    ·subst him
     exact Nat.le_of_not_lt fun hl=>hc ⟨hl,.inl h⟩
    ·exact h1 h i (by omega)
   ·obtain⟨k1,k2,k3⟩:=h2 h
    refine⟨by omega,k2,fun i hi hl=> ?_⟩
    by_cases him:i=m
    ·subst him
     exact fun hx=>hc ⟨hl,.inr hx⟩
    ·exact k3 i (by omega) hl
theorem CutO.all {g:Option Ev} {l:List Ps} {c j:Nat} (h:CutO g l c) (ha:AscP l) (hc:c≤j) (hj:j<l.length):ydk g (psAt l j).e=false:=by
 by_cases e:c=j
 ·subst e;exact h.hi hj
 ·have h1:=h.hi (by omega)
  have h2:=ha c j (by omega) hj
  cases g with
  |none=>simp [ydk]at h1
  |some g=>
   simp only [ydk,decide_eq_false_iff_not]at h1⊢
   exact fun h3=>h1 (yf9 h2 h3)
theorem ymt {l:List Ps} {j:Nat} (h:j<l.length):l[j]? =some (psAt l j):=by
 unfold psAt
 rw [List.getD_eq_getElem?_getD,List.getElem?_eq_getElem h]
 rfl
theorem yre {l:List Ps} {c j:Nat} (hc:c≤l.length) (h:j<c):(l.take c).drop j=psAt l j::(l.take c).drop (j+1):=by
 have hl:j<(l.take c).length:=by rw [List.length_take];omega
 rw [List.drop_eq_getElem_cons hl]
 congr 1
 have h1:=ymt (l:=l) (j:=j) (by omega)
 rw [List.getElem_take]
 rw [List.getElem?_eq_getElem (by omega)]at h1
 exact Option.some.inj h1
theorem ygj (P:Nat→List Ps) (ct nx:Nat→Nat) (n:Nat):remL P ct nx (n+1)=remL P ct nx n++((P n).take (ct n)).drop (nx n):=by simp [remL,List.range_succ]
theorem rem_up {P:Nat→List Ps} {ct nx:Nat→Nat} {b:Nat}:∀{n:Nat},n≤b→remL P ct (upN nx b) n=remL P ct nx n
 |0,_=>rfl
 |n+1,h=>by rw [ygj,ygj,rem_up (by omega)];simp [upN,show¬n=b by omega]
theorem yla {P:Nat→List Ps} {ct nx:Nat→Nat} {b:Nat} (hc:ct b≤(P b).length) (hb:nx b<ct b):∀{n:Nat},b<n→(remL P ct nx n).Perm (psAt (P b) (nx b)::remL P ct (upN nx b) n)
 |n+1,h=>by
  rw [ygj,ygj]
  by_cases e:b=n
  ·subst e
   rw [rem_up (Nat.le_refl _),yre hc hb]
   simp only [upN,if_true]
   exact List.perm_middle
  ·have h1:=yla hc hb (n:=n) (by omega)
   rw [show upN nx b n=nx n from by simp [upN,show¬n=b by omega]]
   exact(h1.append_right _)
theorem yl9 {P:Nat→List Ps} {ct nx:Nat→Nat} {n:Nat} {y:Ps} (hct:∀i,i<n→ct i≤(P i).length) (h:y∈remL P ct nx n):∃i j,i<n∧nx i≤j∧j<ct i∧y=psAt (P i) j:=by
 unfold remL at h
 obtain⟨i,hi,hy⟩:=List.mem_flatMap.1 h
 have hi':i<n:=List.mem_range.1 hi
 obtain⟨q,hq,e⟩:=List.getElem_of_mem hy
 rw [List.length_drop,List.length_take]at hq
 have hle:=hct i hi'
 refine⟨i,nx i+q,hi',by omega,by omega,?_⟩
 rw [←e,List.getElem_drop,List.getElem_take]
 have h1:=ymt (l:=P i) (j:=nx i+q) (by omega)
 rw [List.getElem?_eq_getElem (by omega)]at h1
 exact Option.some.inj h1
theorem yob {P:Nat→List Ps} {ct nx:Nat→Nat}:∀{n:Nat},(∀i,i<n→ct i≤nx i)→remL P ct nx n= []
 |0,_=>rfl
 |n+1,h=>by
  rw [ygj,yob (fun i hi=>h i (by omega)),List.nil_append]
  exact List.drop_eq_nil_of_le (by rw [List.length_take];have:=h n (by omega);omega)
theorem yvf {P:Nat→List Ps} {n:Nat} {g:Option Ev} {ct:Nat→Nat} (hasc:∀i,i<n→AscP (P i)) (hcut:∀i,i<n→CutO g (P i) (ct i)):∀(f:Nat) (nx:Nat→Nat),(∀i,i<n→nx i≤ct i)→(remL P ct nx n).length≤f→
  (comR P n g nx f).Perm (remL P ct nx n)∧(comR P n g nx f).Pairwise leP
 |0,nx,hnx,hf=>by
  have e:remL P ct nx n= []:=List.eq_nil_of_length_eq_zero (by omega)
  rw [e]
  exact⟨List.Perm.refl _,List.Pairwise.nil⟩
 |f+1,nx,hnx,hf=>by
  obtain⟨h0,h1,h2⟩:=ygc P nx n
  unfold comR
  by_cases hb:yap P nx n<0
  ·rw [if_pos hb]
   have e:remL P ct nx n= []:=yob (fun i hi=>Nat.le_trans (hcut i hi).le (h1 hb i hi))
   rw [e]
   exact⟨List.Perm.refl _,List.Pairwise.nil⟩
  ·rw [if_neg hb]
   obtain⟨k1,k2,k3⟩:=h2 (by omega)
   generalize (yap P nx n).toNat=b at k1 k2 k3
   by_cases ha:ydk g (hdE P nx b)=true
   ·rw [if_pos ha]
    have hbc:nx b<ct b:=Nat.lt_of_not_le fun h=>by
     have:=(hcut b k1).all (hasc b k1) h k2
     unfold hdE at ha
     rw [this]at ha
     cases ha
    have hp:=yla (P:=P) (ct:=ct) (nx:=nx) (hcut b k1).le hbc k1
    have hup:∀i,i<n→upN nx b i≤ct i:=fun i hi=>by
     unfold upN
     split
     ·next e=>subst e;omega
     ·exact hnx i hi
    obtain⟨q1,q2⟩:=yvf hasc hcut f (upN nx b) hup (by have:=hp.length_eq;simp only [List.length_cons]at this;omega)
    refine⟨(q1.cons _).trans hp.symm,List.Pairwise.cons (fun y hy=> ?_) q2⟩
    obtain⟨i,j,hi,hj1,hj2,rfl⟩:=yl9 (fun i hi=>(hcut i hi).le) (q1.subset hy)
    have hjl:j<(P i).length:=Nat.lt_of_lt_of_le hj2 (hcut i hi).le
    unfold leP
    intro hx
    by_cases e:i=b
    ·subst e
     have hj3:nx i<j:=by unfold upN at hj1;rw [if_pos rfl]at hj1;omega
     exact ynt hx (hasc i hi (nx i) j hj3 hjl)
    ·unfold upN at hj1
     rw [if_neg e]at hj1
     have h4:=k3 i hi (by omega)
     by_cases e2:nx i=j
     ·subst e2
      exact h4 hx
     ·exact h4 (yf9 (hasc i hi (nx i) j (by omega) hjl) hx)
   ·rw [if_neg ha]
    have e:remL P ct nx n= []:=yob (fun i hi=>Nat.le_of_not_lt fun hlt=>by
     have hl:nx i<(P i).length:=Nat.lt_of_lt_of_le hlt (hcut i hi).le
     have h5:=(hcut i hi).lo (nx i) hlt
     have h6:=k3 i hi hl
     cases g with
     |none=>exact ha rfl
     |some g=>
      simp only [ydk,decide_eq_true_eq]at h5 ha
      exact ha (yvg h6 h5))
    rw [e]
    exact⟨List.Perm.refl _,List.Pairwise.nil⟩
theorem yut {p:Prop} (h:p):Hid p:=h
theorem asc_step {l:List Ps} (h:∀j,j<l.length→0<j→(psAt l (j-1)).e.cmp (psAt l j).e<0):AscP l:=by
 intro a b hab hb
 induction b with
 |zero=>omega
 |succ b ih=>
  have h1:=h (b+1) hb (by omega)
  rw [Nat.add_sub_cancel]at h1
  by_cases e:a=b
  ·subst e;exact h1
  ·exact yf9 (ih (by omega) (by omega)) h1
theorem asc_ok {p:Pa} (hp:p.ok=true):AscP p.p:=by
 have hS:=(yhv p).2 (by unfold Pa.ok at hp;simpa using hp)
 exact asc_step fun j hj h=>(hS.2.1 j hj).2.2.2.2.2.2 h
theorem CutAt.cutO {l:List Ps} {e:Ev} {k:Nat} (h:CutAt l e k):CutO (some e) l k:=
 ⟨h.le,fun j hj=>by simp only [ydk,decide_eq_true_eq];exact h.lo j hj,fun hk=>by simp only [ydk,decide_eq_false_iff_not];exact h.hi hk⟩
theorem CutO.none' (l:List Ps):CutO none l l.length:=⟨Nat.le_refl _,fun _ _=>rfl,fun h=>by omega⟩
set_option maxRecDepth 100000 in
set_option maxHeartbeats 8000000 in
theorem yl7 (x:Value) (p:Pa) (e:Ev) (b:Bool) (w:World) (hw:p.wt≤1048577) (hp:p.ok=true) (he:b=true→e.ok=true) (h:IsPart w x p):
  Calls Tryz.prog 120 #[x,.agg #[.int .i64 e.t,.int .i64 e.s,.int .i64 e.q,.int .i64 e.d,.int .i64 e.k,.int .i64 e.v,.int .i64 e.g],.bool b] w fun r w'=>∃c:Nat,r= .returned (.int .i64 c)∧CutO (if b=true then some e else none) p.p c∧Below w.heap.size w w':=by
 obtain⟨u1,u4,u5,u6,rfl,d1,d4,d5,d6⟩:=h
 obtain⟨a1,c1,rfl,_⟩:=IsD.len d1
 obtain⟨a4,c4,rfl,hn4,_⟩:=IsD.parts (c:=12) (n:=p.p.length) d4
 obtain⟨a5,c5,rfl,_⟩:=IsD.len d5
 obtain⟨a6,c6,rfl,_⟩:=IsD.len d6
 have O4:=yut d4
 have HP:Hid (p.ok=true):=hp
 have HE:=yut he
 have hp9:p.p.length≤1048577:=by
  have e3:=yc3 p.p
  unfold Pa.wt at hw
  omega
 obtain⟨W0,hW0⟩:∃W0,(w.alloc (.cells #[.int .i64 p.n,.slice a1 p.st.r.length c1,.int .i64 p.st.q,.int .i64 p.st.d,.slice a4 p.p.length c4,.slice a5 p.t.length c5,.slice a6 p.a.length c6] 97)).alloc (.cells #[.int .i64 e.t,.int .i64 e.s,.int .i64 e.q,.int .i64 e.d,.int .i64 e.k,.int .i64 e.v,.int .i64 e.g] 110)=W0:=⟨_,rfl⟩
 have HB0:=hdq (beA2 hW0)
 have BX:=hdq (bkA2 hW0)
 have BE:=hdq (bkB2 hW0)
 have x4:=BX.out.cell (i:=4) rfl
 obtain⟨e0,e1,e2,e3,e4,e5,e6⟩:=c7_7 BE.out
 clear d1 d4 d5 d6 hw hp he hn4
 go_enter Tryz.func120,Tryz.ntmps120
 cases b with
 |false=>
  go_wp2
  go_ret
  exact⟨p.p.length,rfl,CutO.none' _,HB0.out⟩
 |true=>
  go_wp2_with fail
  clear hW0 x4 e0 e1 e2 e3 e4 e5 e6
  refine(yk6 _ p.p e _ hp9 (O4.out.under HB0.out)).mono ?_
  rintro r w1 ⟨⟨i,f,rfl,hi1,hi2,hi3⟩,hb⟩
  have HB1:=trh HB0 hb
  have HC:=yut ((yv2 HP.out (HE.out trivial) hi1 hi2 hi3).cutO)
  clear hb hi1 hi2 hi3
  go_wp2
  go_ret
  exact⟨i,rfl,HC.out,HB1.out⟩
end Go.Proofs.YtmobiieoecjmdaaGreat

namespace Go.Proofs
open Go.Shelf
def Tryz.sortPs_ren:Go.Shelf.Ren:=⟨fun|6=>121|15=>172|14=>171|28=>210|29=>211|20=>202|21=>203|22=>204|23=>205|24=>206|25=>207|26=>208|27=>209|46=>219|47=>220|48=>221|49=>222|50=>223|57=>226|n=>n,fun|22=>95|24=>115|25=>167|3=>3|39=>215|0=>0|53=>250|55=>252|4=>4|46=>244|45=>243|50=>75|5=>5|9=>9|66=>256|70=>260|76=>267|77=>268|n=>n,fun|n=>n⟩
theorem Tryz.sortPs:Go.Proofs.SlLaysF0.n6 Tryz.prog Tryz.sortPs_ren:= {
 mixed:=by kernel_rfl
 f6:=⟨Tryz.f121.name,by decide,Tryz.func121.trans (congrArg some (by kernel_rfl))⟩
 f14:=⟨Tryz.f171.name,by decide,Tryz.func171.trans (congrArg some (by kernel_rfl))⟩
 f15:=Tryz.func172.trans (congrArg some (by kernel_rfl))
 f20:=⟨Tryz.f202.name,by decide,Tryz.func202.trans (congrArg some (by kernel_rfl))⟩
 f21:=⟨Tryz.f203.name,by decide,Tryz.func203.trans (congrArg some (by kernel_rfl))⟩
 f22:=⟨Tryz.f204.name,by decide,Tryz.func204.trans (congrArg some (by kernel_rfl))⟩
 f23:=⟨Tryz.f205.name,by decide,Tryz.func205.trans (congrArg some (by kernel_rfl))⟩
 f24:=⟨Tryz.f206.name,by decide,Tryz.func206.trans (congrArg some (by kernel_rfl))⟩
 f25:=⟨Tryz.f207.name,by decide,Tryz.func207.trans (congrArg some (by kernel_rfl))⟩
 f26:=⟨Tryz.f208.name,by decide,Tryz.func208.trans (congrArg some (by kernel_rfl))⟩
 f27:=⟨Tryz.f209.name,by decide,Tryz.func209.trans (congrArg some (by kernel_rfl))⟩
 f28:=Tryz.func210.trans (congrArg some (by kernel_rfl))
 f29:=Tryz.func211.trans (congrArg some (by kernel_rfl))
 f46:=⟨Tryz.f219.name,by decide,Tryz.func219.trans (congrArg some (by kernel_rfl))⟩
 f47:=Tryz.func220.trans (congrArg some (by kernel_rfl))
 f48:=Tryz.func221.trans (congrArg some (by kernel_rfl))
 f49:=⟨Tryz.f222.name,by decide,Tryz.func222.trans (congrArg some (by kernel_rfl))⟩
 f50:=⟨Tryz.f223.name,by decide,Tryz.func223.trans (congrArg some (by kernel_rfl))⟩
 f57:=⟨Tryz.f226.name,by decide,Tryz.func226.trans (congrArg some (by kernel_rfl))⟩
 t0:=Tryz.underlying0
 a0:=Tryz.isAgg0
 z0:=Tryz.sizeOf0
 v0:=Tryz.zeroValue0
 t3:=Tryz.underlying3
 a3:=Tryz.isAgg3
 z3:=Tryz.sizeOf3
 v3:=Tryz.zeroValue3
 t4:=Tryz.underlying4
 a4:=Tryz.isAgg4
 z4:=Tryz.sizeOf4
 v4:=Tryz.zeroValue4
 t5:=Tryz.underlying5
 a5:=Tryz.isAgg5
 z5:=Tryz.sizeOf5
 v5:=Tryz.zeroValue5
 t9:=Tryz.underlying9
 a9:=Tryz.isAgg9
 z9:=Tryz.sizeOf9
 v9:=Tryz.zeroValue9
 t22:=Tryz.underlying95
 a22:=Tryz.isAgg95
 z22:=Tryz.sizeOf95
 v22:=Tryz.zeroValue95
 t25:=Tryz.underlying167
 a25:=Tryz.isAgg167
 z25:=Tryz.sizeOf167
 v25:=Tryz.zeroValue167
 t39:=Tryz.underlying215
 a39:=Tryz.isAgg215
 z39:=Tryz.sizeOf215
 v39:=Tryz.zeroValue215
 t45:=Tryz.underlying243
 a45:=Tryz.isAgg243
 z45:=Tryz.sizeOf243
 v45:=Tryz.zeroValue243
 t46:=Tryz.underlying244
 a46:=Tryz.isAgg244
 z46:=Tryz.sizeOf244
 v46:=Tryz.zeroValue244
 t50:=Tryz.underlying75
 a50:=Tryz.isAgg75
 z50:=Tryz.sizeOf75
 v50:=Tryz.zeroValue75
 t53:=Tryz.underlying250
 a53:=Tryz.isAgg250
 z53:=Tryz.sizeOf250
 v53:=Tryz.zeroValue250
 t55:=Tryz.underlying252
 a55:=Tryz.isAgg252
 z55:=Tryz.sizeOf252
 v55:=Tryz.zeroValue252
 t66:=Tryz.underlying256
 a66:=Tryz.isAgg256
 z66:=Tryz.sizeOf256
 v66:=Tryz.zeroValue256
 t70:=Tryz.underlying260
 a70:=Tryz.isAgg260
 z70:=Tryz.sizeOf260
 v70:=Tryz.zeroValue260
 t76:=Tryz.underlying267
 a76:=Tryz.isAgg267
 z76:=Tryz.sizeOf267
 v76:=Tryz.zeroValue267
 t77:=Tryz.underlying268
 a77:=Tryz.isAgg268
 z77:=Tryz.sizeOf268
 v77:=Tryz.zeroValue268}
end Go.Proofs

namespace Go.Proofs.YtmobiieoecjmdaaGreat
set_option maxHeartbeats 2000000
open Go.RowKit
theorem hidNCm {p:Prop} (h:p):Hid p:=h
theorem iOkD (t s q d k v g:Int) (h:okB t s q d k v g=true) (w:World):
  Calls Tryz.prog 164 #[.agg #[.int .i64 t,.int .i64 s,.int .i64 q,.int .i64 d,.int .i64 k,.int .i64 v,.int .i64 g]] w fun e w'=>
   e= .returned (.bool true)∧Below w.heap.size w w'∧w.drawn≤w'.drawn:=by
 rw [←h]
 clear h
 go_enter Tryz.func164,Tryz.ntmps164
 go_wp2
 all_goals
  go_ret
  refine⟨?_,(Below.refl _ _).alloc (Nat.le_refl _) _,Nat.le_refl _⟩
  first|exact ybu (by simp [okB];omega)|exact ya0 (by simp [okB];omega)
theorem iCmpD (t s q d k v g t' s' q' d' k' v' g':Int) (h1:okB t s q d k v g=true) (h2:okB t' s' q' d' k' v' g'=true) (w:World):
  Calls Tryz.prog 123 #[.agg #[.int .i64 t,.int .i64 s,.int .i64 q,.int .i64 d,.int .i64 k,.int .i64 v,.int .i64 g],.agg #[.int .i64 t',.int .i64 s',.int .i64 q',.int .i64 d',.int .i64 k',.int .i64 v',.int .i64 g']] w fun e w'=>
   e= .returned (.int .i64 (cmpI t s q g t' s' q' g'))∧Below w.heap.size w w'∧w.drawn≤w'.drawn:=by
 have H1:=hidNCm h1
 have H2:=hidNCm h2
 clear h1 h2
 go_enter Tryz.func123,Tryz.ntmps123
 go_wp2_with fail
 refine(iOkD t s q d k v g H1.out _).mono ?_
 rintro e w1 ⟨rfl,hb1,hd1⟩
 obtain⟨hc,hf⟩:=ygs hb1
 go_wp2_with fail
 refine(iOkD t' s' q' d' k' v' g' H2.out _).mono ?_
 rintro e w2 ⟨rfl,hb2,hd2⟩
 have hz1:w.heap.size+1<w1.heap.size:=by have:=hb1.size;simp at this;omega
 have hz2:w.heap.size+1<w2.heap.size:=by have:=hb2.size;omega
 obtain⟨hc2,hf2⟩:=ygs hb2
 have f0:w2.cell? ⟨w.heap.size,0,none⟩=some (.int .i64 t):=by rw [hc2 _ _ (by omega),hc _ _ (by simp;omega)];simp
 have f1:w2.cell? ⟨w.heap.size,1,none⟩=some (.int .i64 s):=by rw [hc2 _ _ (by omega),hc _ _ (by simp;omega)];simp
 have f2:w2.cell? ⟨w.heap.size,2,none⟩=some (.int .i64 q):=by rw [hc2 _ _ (by omega),hc _ _ (by simp;omega)];simp
 have f6:w2.cell? ⟨w.heap.size,6,none⟩=some (.int .i64 g):=by rw [hc2 _ _ (by omega),hc _ _ (by simp;omega)];simp
 have e0:w2.cell? ⟨w.heap.size+1,0,none⟩=some (.int .i64 t'):=by rw [hc2 _ _ (by omega),hc _ _ (by simp)];simp
 have e1:w2.cell? ⟨w.heap.size+1,1,none⟩=some (.int .i64 s'):=by rw [hc2 _ _ (by omega),hc _ _ (by simp)];simp
 have e2:w2.cell? ⟨w.heap.size+1,2,none⟩=some (.int .i64 q'):=by rw [hc2 _ _ (by omega),hc _ _ (by simp)];simp
 have e6:w2.cell? ⟨w.heap.size+1,6,none⟩=some (.int .i64 g'):=by rw [hc2 _ _ (by omega),hc _ _ (by simp)];simp
 have hB:Below w.heap.size w w2:=((((Below.refl _ _).alloc (Nat.le_refl _) _).alloc (by simp) _).trans (hb1.mono (by simp;omega))).trans (hb2.mono (by omega))
 have HDR:Hid (w.drawn≤w2.drawn+1):=(by have h9:w.drawn≤w1.drawn:=hd1;exact Nat.le_succ_of_le (Nat.le_trans h9 hd2):w.drawn≤w2.drawn+1)
 clear hc hf hc2 hf2 hb1 hb2 hz1 hd1 hd2
 go_wp2_with fail
 go_region_held3 (fun W=>W.cell? ⟨w.heap.size,0,none⟩=some (.int .i64 t)∧W.cell? ⟨w.heap.size,1,none⟩=some (.int .i64 s)∧W.cell? ⟨w.heap.size,2,none⟩=some (.int .i64 q)∧W.cell? ⟨w.heap.size,6,none⟩=some (.int .i64 g)∧W.cell? ⟨w.heap.size+1,0,none⟩=some (.int .i64 t')∧W.cell? ⟨w.heap.size+1,1,none⟩=some (.int .i64 s')∧W.cell? ⟨w.heap.size+1,2,none⟩=some (.int .i64 q')∧W.cell? ⟨w.heap.size+1,6,none⟩=some (.int .i64 g')) (go_keep)
  (first
   |(go_at_call 174;refine(yk2 _ _ _).mono ?_;rintro e w' ⟨rfl,rfl⟩)
   |(go_at_call 173;refine(or_any _ _ [num t t',num s s',num q q',num g g'] _ ?_ ?_).mono ?_;(simp [maxLen]);(intro i hi;have h4:i=0∨i=1∨i=2∨i=3:=(by simp at hi;omega);rcases h4 with rfl|rfl|rfl|rfl<;>simp);rintro e w' ⟨rfl,rfl⟩))
 go_wp2
 go_ret
 exact⟨yau (by rw [ytz]),hB.drew.alloc (by simp;omega) _,HDR.out⟩
end Go.Proofs.YtmobiieoecjmdaaGreat

