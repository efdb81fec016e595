/- PIp, POb, PTb, PTc, PCpO -/
import Derived.Test.YtghndljgadpijaaGreatExactCollectG01
import Derived.Test.YtghndljgadpijaaGreatExactCollectG16
import Derived.Test.YtghndljgadpijaaGreatExactCollectG13
import Derived.Test.YtghndljgadpijaaGreatExactCollectLPSo
import Derived.Test.YtghndljgadpijaaGreatExactCollectG11
import Derived.Sort.BigQuietIn
import Derived.Test.YtghndljgadpijaaGreatExactCollectG06
/- The program's doingsOk and PartOk. -/
namespace Go.Proofs.YtghndljgadpijaaGreat
set_option maxHeartbeats 8000000
set_option maxRecDepth 100000
open Go.RowKit
theorem yyo {p:Prop} (h:p):Hid p:=h
theorem zoj (x:Value) (p:Pa) (w:World) (hw:p.wt≤1048576) (h2:p.p.length+p.t.length≤1048576) (h:IsPart w x p):
    Calls Tryz.prog 250 #[x] w fun e w'=>Says e (zps p)∧Below w.heap.size w w':=by
  have HI:Hid (IsPart w x p):=h
  have hal:p.all.length≤1048576:=by rw [yzc];exact h2
  obtain⟨v1,v4,v5,v6,rfl,h1,h4,h5,h6⟩:=h
  clear h1 h4 h5 h6
  obtain⟨W0,hW0⟩:∃W0,w.alloc (.cells #[.int .i64 p.n,v1,.int .i64 p.st.q,.int .i64 p.st.d,v4,v5,v6] 97)=W0:=⟨_,rfl⟩
  have HB0:=hdq (beA hW0)
  have HP0:=hdq (bkA hW0)
  have hs0:w.heap.size<W0.heap.size:=HP0.out.lt
  obtain⟨p0,p1,p2,p3,p4,p5,p6⟩:=c7_7 HP0.out
  go_enter Tryz.func250,Tryz.ntmps250
  go_wp2_with fail
  clear hW0 p0 p1 p2 p3 p4 p5 p6
  refine(zok _ p _ hw (HI.out.under HB0.out)).mono ?_
  rintro e w1 ⟨y,rfl,ho,hb1⟩
  obtain⟨ya,yc,yb,rfl,hyb,hI⟩:=IsEvs.parts ho.evs (by have:=hb1.size;omega)
  have HI1:=yyo hI
  have HB1:=trh HB0 hb1
  have HP1:=yyo (HP0.out.below hb1)
  clear ho hb1 hI
  go_wp2_with fail
  refine(zi8 ya yc yb p.all _ hal HI1.out hyb).mono ?_
  rintro e w2 ⟨⟨b1,rfl,hs1⟩,hb2⟩
  have HS1:=yyo hs1
  have HB2:=trh HB1 hb2
  have HI2:=yyo (zcd HI1.out hyb hb2)
  have hy2:yb<w2.heap.size:=Nat.lt_of_lt_of_le hyb hb2.size
  have HP2:=yyo (HP1.out.below hb2)
  have q0:=HP2.out.cell (i:=0) rfl
  clear hs1 hb2
  cases b1
  · go_wp2
    go_ret
    exact⟨Says.no (fun h=>by have:=HS1.out.2 h.1;cases this),HB2.out⟩
  have HOK:=yyo (HS1.out.1 rfl)
  go_wp2_with fail
  refine(zmx ya yc yb p.all p.n _ hal HI2.out hy2).mono ?_
  rintro e w3 ⟨⟨b2,rfl,hs2⟩,hb3⟩
  have HS2:=yyo hs2
  have HB3:=trh HB2 hb3
  have HI3:=yyo (zcd HI2.out hy2 hb3)
  have hy3:yb<w3.heap.size:=Nat.lt_of_lt_of_le hy2 hb3.size
  clear hs2 hb3 q0
  cases b2
  · go_wp2
    go_ret
    exact⟨Says.no (fun h=>by have:=HS2.out.2 h.2.1;cases this),HB3.out⟩
  have HDS:=yyo (HS2.out.1 rfl)
  go_wp2_with fail
  refine(zch ya yc yb p.all _ hal HI3.out hy3).mono ?_
  rintro e w4 ⟨⟨b3,rfl,hs3⟩,hb4⟩
  have HS3:=yyo hs3
  have HB4:=trh HB3 hb4
  have HI4:=yyo (zcd HI3.out hy3 hb4)
  have hy4:yb<w4.heap.size:=Nat.lt_of_lt_of_le hy3 hb4.size
  clear hs3 hb4
  cases b3
  · go_wp2
    go_ret
    exact⟨Says.no (fun h=>by have:=HS3.out.2 h.2.2.1;cases this),HB4.out⟩
  have HOR:=yyo (HS3.out.1 rfl)
  go_wp2_with fail
  refine(zc6 ya yc yb p.all _ hal HI4.out hy4 (fun i hi=>zo5 (HOK.out i hi))).mono ?_
  rintro e w5 ⟨⟨b4,rfl,hs4⟩,hb5⟩
  have HS4:=yyo hs4
  have HB5:=trh HB4 hb5
  clear hs4 hb5
  cases b4
  · go_wp2
    go_ret
    exact⟨Says.no (fun h=>by have:=HS4.out.2 h.2.2.2;cases this),HB5.out⟩
  have HTG:=yyo (HS4.out.1 rfl)
  go_wp2
  go_ret
  exact⟨Says.yes ⟨HOK.out,HDS.out,HOR.out,HTG.out⟩,HB5.out⟩
theorem iPartOk (x:Value) (p:Pa) (w:World) (hw:p.wt≤1048576) (h:IsPart w x p):
    Calls Tryz.prog 194 #[x] w fun e w'=>Says e (zjv p)∧Below w.heap.size w w':=by
  have HI:Hid (IsPart w x p):=h
  obtain⟨v1,v4,v5,v6,rfl,h1,h4,h5,h6⟩:=h
  have hwt:=hw
  unfold Pa.wt at hwt
  simp only [ywf,yx0]at hwt
  have H1:Hid (IsS w (.agg #[v1,.int .i64 p.st.q,.int .i64 p.st.d]) p.st):=⟨v1,rfl,h1.isI⟩
  have H6:Hid (IsI w v6 p.a):=h6.isI
  obtain⟨pa,pc,rfl,hpm⟩:=IsD.len (c:=12) (n:=p.p.length) h4
  obtain⟨ta,tc,rfl,htm⟩:=IsD.len (c:=7) (n:=p.t.length) h5
  obtain⟨aa,ac,rfl,ham⟩:=IsD.len (c:=1) (n:=p.a.length) h6
  unfold maxLen at hpm htm ham
  have hal:p.a.length≤1048576:=by omega
  clear h1 h4 h5 h6 hwt
  obtain⟨W0,hW0⟩:∃W0,w.alloc (.cells #[.int .i64 p.n,v1,.int .i64 p.st.q,.int .i64 p.st.d,.slice pa p.p.length pc,.slice ta p.t.length tc,.slice aa p.a.length ac] 97)=W0:=⟨_,rfl⟩
  have HB0:=hdq (beA hW0)
  have HP0:=hdq (bkA hW0)
  have HI0:=yyo (HI.out.under HB0.out)
  obtain⟨p0,p1,p2,p3,p4,p5,p6⟩:=c7_7 HP0.out
  by_cases c0:200<p.p.length
  · have c0':(200:Int)<(p.p.length:Int):=by omega
    go_enter Tryz.func194,Tryz.ntmps194
    go_wp2
    go_ret
    exact⟨Says.no (fun h=>by have:=h.1;omega),HB0.out⟩
  have c0':¬(200:Int)<(p.p.length:Int):=by omega
  by_cases c1:2000<p.t.length
  · have c1':(2000:Int)<(p.t.length:Int):=by omega
    go_enter Tryz.func194,Tryz.ntmps194
    go_wp2
    go_ret
    exact⟨Says.no (fun h=>by have:=h.1;omega),HB0.out⟩
  have c1':¬(2000:Int)<(p.t.length:Int):=by omega
  by_cases c2:2000<p.a.length
  · have c2':(2000:Int)<(p.a.length:Int):=by omega
    go_enter Tryz.func194,Tryz.ntmps194
    go_wp2
    go_ret
    exact⟨Says.no (fun h=>by have:=h.1;omega),HB0.out⟩
  have c2':¬(2000:Int)<(p.a.length:Int):=by omega
  have HL:Hid (p.p.length≤200∧p.t.length≤2000∧p.a.length≤2000):=⟨by omega,by omega,by omega⟩
  go_enter Tryz.func194,Tryz.ntmps194
  go_wp2_with fail
  refine(yw5 _ _ _ _).mono ?_
  rintro e w2 ⟨rfl,hw2⟩
  have hw2':=hw2.symm
  clear hw2
  subst hw2'
  clear hW0
  by_cases n0:0≤p.n∧p.n≤3
  case neg=>
    rw [show(decide (0≤p.n)&&decide (p.n≤3))=false from by rw [←Bool.decide_and];exact decide_eq_false n0]
    have HN:=yyo n0
    clear n0
    go_wp2
    go_ret
    exact⟨Says.no (fun h=>HN.out h.2.1),HB0.out⟩
  rw [show(decide (0≤p.n)&&decide (p.n≤3))=true from by rw [←Bool.decide_and];exact decide_eq_true n0]
  have HN:Hid (0≤p.n∧p.n≤3):=n0
  clear n0
  go_wp2_with fail
  refine(iStOk _ p.st _ (H1.out.below HB0.out)).mono ?_
  rintro e w1 ⟨rfl,hb1⟩
  have HB1:=trh HB0 hb1
  have HP1:=yyo (HP0.out.below hb1)
  have HI1:=yyo (HI0.out.under hb1)
  clear hb1 p0 p1 p2 p3 p4 p5 p6
  obtain⟨q0,q1,q2,q3,q4,q5,q6⟩:=c7_7 HP1.out
  cases hst:p.st.ok
  · have KS:Hid (p.st.ok=false):=hst
    clear hst
    go_wp2
    go_ret
    exact⟨Says.no (fun h=>by have:=h.2.2.1;rw [KS.out]at this;cases this),HB1.out⟩
  have KS:Hid (p.st.ok=true):=hst
  clear hst
  go_wp2_with fail
  refine(iPastOk _ p _ hw HI1.out).mono ?_
  rintro e w3 ⟨⟨b1,rfl,hs1⟩,hb3⟩
  have HS1:=yyo hs1
  have HB3:=trh HB1 hb3
  have HP3:=yyo (HP1.out.below hb3)
  have HI3:=yyo (HI1.out.under hb3)
  clear hs1 hb3 q0 q1 q2 q3 q4 q5 q6
  obtain⟨q0,q1,q2,q3,q4,q5,q6⟩:=c7_7 HP3.out
  cases b1
  · go_wp2
    go_ret
    exact⟨Says.no (fun h=>by have:=HS1.out.2 h.2.2.2.1;cases this),HB3.out⟩
  have KB1:=yyo (HS1.out.1 rfl)
  go_wp2_with fail
  refine(zoj _ p _ hw (by omega) HI3.out).mono ?_
  rintro e w4 ⟨⟨b2,rfl,hs2⟩,hb4⟩
  have HS2:=yyo hs2
  have HB4:=trh HB3 hb4
  have HP4:=yyo (HP3.out.below hb4)
  clear hs2 hb4 q0 q1 q2 q3 q4 q5 q6
  have q6:=HP4.out.cell (i:=6) rfl
  cases b2
  · go_wp2
    go_ret
    exact⟨Says.no (fun h=>by have:=HS2.out.2 h.2.2.2.2.1;cases this),HB4.out⟩
  have KB2:Hid (zps p):=HS2.out.1 rfl
  go_wp2_with fail
  refine(iAntis _ p.a _ (by omega) (H6.out.below HB4.out)).mono ?_
  rintro e w5 ⟨⟨b3,rfl,hs3⟩,hb5⟩
  have HS3:=yyo hs3
  have HB5:=trh HB4 hb5
  clear hs3 hb5 q6
  cases b3
  · go_wp2
    go_ret
    exact⟨Says.no (fun h=>by have:=HS3.out.2 h.2.2.2.2.2;cases this),HB5.out⟩
  have KB3:Hid (Asc p.a):=HS3.out.1 rfl
  go_wp2
  go_ret
  exact⟨Says.yes ⟨HL.out,HN.out,KS.out,KB1.out,KB2.out,KB3.out⟩,HB5.out⟩
end Go.Proofs.YtghndljgadpijaaGreat

/- Both PartOk, as one plain answer. -/
namespace Go.Proofs.YtghndljgadpijaaGreat
open Go.RowKit
theorem zlo (x:Value) (p:Pa) (w:World) (hw:p.wt≤1048576) (h:IsPart w x p):
    Calls Tryz.prog 175 #[x] w fun e w'=>e= .returned (.bool p.ok)∧Below w.heap.size w w':=
  (sPartOk x p w hw h).mono fun _ _ ⟨hs,hb⟩=>⟨znj (by rwa [zd1]at hs),hb⟩
theorem zme (x:Value) (p:Pa) (w:World) (hw:p.wt≤1048576) (h:IsPart w x p):
    Calls Tryz.prog 194 #[x] w fun e w'=>e= .returned (.bool p.ok)∧Below w.heap.size w w':=
  (iPartOk x p w hw h).mono fun _ _ ⟨hs,hb⟩=>⟨znj hs,hb⟩
theorem hidPTb {p:Prop} (h:p):Hid p:=h
set_option maxRecDepth 100000 in
set_option maxHeartbeats 4000000 in
theorem zcc (x v7 v10 v11:Value) (p:Ps) (e:Ev) (z:Int) (hz:p.e.ecmp e=z) (w:World) (f7:∃a n c,v7= .slice a n c) (f10:∃a n c,v10= .slice a n c) (f11:∃a n c,v11= .slice a n c) (hx:x= .agg #[.int .i64 p.e.t,.int .i64 p.e.s,.int .i64 p.e.q,.int .i64 p.e.d,.int .i64 p.e.k,.int .i64 p.e.v,.int .i64 p.e.g,v7,.int .i64 p.b.q,.int .i64 p.b.d,v10,v11]):
    Calls Tryz.prog 126 #[x,.agg #[.int .i64 e.t,.int .i64 e.s,.int .i64 e.q,.int .i64 e.d,.int .i64 e.k,.int .i64 e.v,.int .i64 e.g]] w fun r w'=>r= .returned (.int .i64 z)∧Below w.heap.size w w':=by
  subst hx
  obtain⟨a7,n7,c7,rfl⟩:=f7
  obtain⟨a10,n10,c10,rfl⟩:=f10
  obtain⟨a11,n11,c11,rfl⟩:=f11
  obtain⟨W0,hW0⟩:∃W0,(w.alloc (.cells #[.int .i64 p.e.t,.int .i64 p.e.s,.int .i64 p.e.q,.int .i64 p.e.d,.int .i64 p.e.k,.int .i64 p.e.v,.int .i64 p.e.g,.slice a7 n7 c7,.int .i64 p.b.q,.int .i64 p.b.d,.slice a10 n10 c10,.slice a11 n11 c11] 172)).alloc (.cells #[.int .i64 e.t,.int .i64 e.s,.int .i64 e.q,.int .i64 e.d,.int .i64 e.k,.int .i64 e.v,.int .i64 e.g] 90)=W0:=⟨_,rfl⟩
  have HB0:=hdq (beA2 hW0)
  have BX:=bkA2 hW0
  have BE:=bkB2 hW0
  have x0:=BX.cell (i:=0) rfl
  have e0:=BE.cell (i:=0) rfl
  have x1:=BX.cell (i:=1) rfl
  have e1:=BE.cell (i:=1) rfl
  have x2:=BX.cell (i:=2) rfl
  have e2:=BE.cell (i:=2) rfl
  have x3:=BX.cell (i:=3) rfl
  have e3:=BE.cell (i:=3) rfl
  have x4:=BX.cell (i:=4) rfl
  have e4:=BE.cell (i:=4) rfl
  have x5:=BX.cell (i:=5) rfl
  have e5:=BE.cell (i:=5) rfl
  have x6:=BX.cell (i:=6) rfl
  have e6:=BE.cell (i:=6) rfl
  go_enter Tryz.func126,Tryz.ntmps126
  go_wp2_with fail
  refine(zbn p.e e z hz _).mono ?_
  rintro r w1 ⟨rfl,hb⟩
  have HB1:=trh HB0 hb
  clear hb hW0 BX BE x0 e0 x1 e1 x2 e2 x3 e3 x4 e4 x5 e5 x6 e6
  go_wp2
  go_ret
  exact⟨rfl,HB1.out⟩
theorem zi1 {p:Prop} (h:p):Hid p:=h
def FoundP (l:List Ps) (e:Ev) (r:Ending):Prop:=∃(i:Nat) (f:Bool),r= .returned (.tuple #[.int .i64 (i:Int),.bool f])∧i≤l.length∧(i=0∨(psAt l (i-1)).e.ecmp e<0)∧(i<l.length→ ¬(psAt l i).e.ecmp e<0)
set_option maxRecDepth 100000 in
set_option maxHeartbeats 8000000 in
theorem zf4 (x:Value) (l:List Ps) (e:Ev) (w:World) (hl:l.length≤1048577) (h:IsD w x (yw3 l)):
    Calls Tryz.prog 125 #[x,.agg #[.int .i64 e.t,.int .i64 e.s,.int .i64 e.q,.int .i64 e.d,.int .i64 e.k,.int .i64 e.v,.int .i64 e.g],.func (.func 126) #[] #[]] w fun r w'=>FoundP l e r∧Below w.heap.size w w':=by
  obtain⟨a4,c4,rfl,_⟩:=IsD.len h
  obtain⟨W0,hW0⟩:∃W0,w.alloc (.cells #[.int .i64 e.t,.int .i64 e.s,.int .i64 e.q,.int .i64 e.d,.int .i64 e.k,.int .i64 e.v,.int .i64 e.g] 90)=W0:=⟨_,rfl⟩
  have HE0:=hdq (bkA hW0)
  have HB0:=hdq (beA hW0)
  have hs0:W0.heap.size=w.heap.size+1:=by rw [←hW0];simp
  have HI0:=zi1 (h.under HB0.out)
  clear h
  go_enter Tryz.func125,Tryz.ntmps125
  go_wp2
  clear hW0
  go_loopw [9,10] (fun i j wr=>∃x y:Nat,x≤y∧y≤l.length∧i= .int .i64 x∧j= .int .i64 y∧Hid (Below W0.heap.size W0 wr)∧Hid (x=0∨(psAt l (x-1)).e.ecmp e<0)∧Hid (y<l.length→ ¬(psAt l y).e.ecmp e<0)) (fun i j _=>(intOf j).toNat-(intOf i).toNat)
  case atStart=>exact⟨0,l.length,Nat.zero_le _,Nat.le_refl _,rfl,rfl,Below.refl _ _,.inl rfl,fun h=>absurd h (Nat.lt_irrefl _)⟩
  case round=>
    obtain⟨x,y,hxy,hyn,rfl,rfl,HB,HL,HU⟩:=hrel
    have hsz:W0.heap.size≤wr.heap.size:=HB.out.size
    have hne:=neB wr
    have HE:=zi1 (HE0.out.below HB.out)
    have HI:=zi1 (HI0.out.under HB.out)
    by_cases hlt:x<y
    · have hxi:(x:Int)<(y:Int):=by omega
      have hsum:(x:Int)+(y:Int)≤2097154:=by omega
      go_wp2_with fail
      obtain⟨h,hh⟩:∃h:Nat,((x:Int)+(y:Int))/2=(h:Int):=⟨(x+y)/2,by omega⟩
      rw [hh]
      have hh1:x≤h:=by omega
      have hh2:h<y:=by omega
      clear hh
      have hhn:(h:Int)<(l.length:Int):=by omega
      have hh0:(0:Int)≤(h:Int):=by omega
      obtain⟨a4',cap4,he4,_,_,h4⟩:=IsD.parts (c:=12) (n:=l.length) HI.out
      obtain⟨b,off,ha4,hb4,hc4⟩:=h4.resolve_left (by omega)
      obtain⟨rfl,rfl⟩:a4=a4'∧c4=cap4:=by simpa using he4
      subst ha4
      obtain⟨u7,u10,u11,k0,k1,k2,k3,k4,k5,k6,k7,k8,k9,k10,k11,d7,d10,d11⟩:=yya hc4 (by omega:h<l.length)
      obtain⟨a7,c7,rfl,_⟩:=IsD.len d7
      obtain⟨a10,c10,rfl,_⟩:=IsD.len d10
      obtain⟨a11,c11,rfl,_⟩:=IsD.len d11
      have f0:∀q:Beyond wr,q.w.cell? ⟨b,off+h*12,none⟩=_:=fun q=>q.cell hb4 k0
      have f1:∀q:Beyond wr,q.w.cell? ⟨b,off+h*12+1,none⟩=_:=fun q=>q.cell hb4 k1
      have f2:∀q:Beyond wr,q.w.cell? ⟨b,off+h*12+2,none⟩=_:=fun q=>q.cell hb4 k2
      have f3:∀q:Beyond wr,q.w.cell? ⟨b,off+h*12+3,none⟩=_:=fun q=>q.cell hb4 k3
      have f4:∀q:Beyond wr,q.w.cell? ⟨b,off+h*12+4,none⟩=_:=fun q=>q.cell hb4 k4
      have f5:∀q:Beyond wr,q.w.cell? ⟨b,off+h*12+5,none⟩=_:=fun q=>q.cell hb4 k5
      have f6:∀q:Beyond wr,q.w.cell? ⟨b,off+h*12+6,none⟩=_:=fun q=>q.cell hb4 k6
      have f7:∀q:Beyond wr,q.w.cell? ⟨b,off+h*12+7,none⟩=_:=fun q=>q.cell hb4 k7
      have f8:∀q:Beyond wr,q.w.cell? ⟨b,off+h*12+8,none⟩=_:=fun q=>q.cell hb4 k8
      have f9:∀q:Beyond wr,q.w.cell? ⟨b,off+h*12+9,none⟩=_:=fun q=>q.cell hb4 k9
      have f10:∀q:Beyond wr,q.w.cell? ⟨b,off+h*12+10,none⟩=_:=fun q=>q.cell hb4 k10
      have f11:∀q:Beyond wr,q.w.cell? ⟨b,off+h*12+11,none⟩=_:=fun q=>q.cell hb4 k11
      obtain⟨g0,g1,g2,g3,g4,g5,g6⟩:=bb7 HE.out
      clear k0 k1 k2 k3 k4 k5 k6 k7 k8 k9 k10 k11 hc4 h4 he4 d7 d10 d11
      generalize hz:(psAt l h).e.ecmp e=z
      have HZ:=zi1 hz
      clear hz
      by_cases hzl:z<0
      · have hdz:decide (z<0)=true:=by simpa using hzl
        refine wrb ?_
        repeat(go_big_quiet_step (first|(go_at_call 126;exact Beyond.of (zcc _ _ _ _ (psAt l h) e z HZ.out _ ⟨_,_,_,rfl⟩ ⟨_,_,_,rfl⟩ ⟨_,_,_,rfl⟩ rfl))))
        refine wpQuiet_nil ?_
        rintro w2 ⟨⟨_,hb2⟩,rfl⟩
        clear hne f0 f1 f2 f3 f4 f5 f6 f7 f8 f9 f10 f11 g0 g1 g2 g3 g4 g5 g6
        go_wp2
        go_roundw
        case rel=>exact⟨h+1,y,by omega,hyn,by go_num,rfl,HB.out.trans (hb2.mono hsz),.inr (by rw [Nat.add_sub_cancel,HZ.out];omega),fun hy=>by have:=HU.out hy;omega⟩
        case measure=>simp [intOf];omega
      · have hdz:decide (z<0)=false:=by simpa using hzl
        refine wrb ?_
        repeat(go_big_quiet_step (first|(go_at_call 126;exact Beyond.of (zcc _ _ _ _ (psAt l h) e z HZ.out _ ⟨_,_,_,rfl⟩ ⟨_,_,_,rfl⟩ ⟨_,_,_,rfl⟩ rfl))))
        refine wpQuiet_nil ?_
        rintro w2 ⟨⟨_,hb2⟩,rfl⟩
        clear hne f0 f1 f2 f3 f4 f5 f6 f7 f8 f9 f10 f11 g0 g1 g2 g3 g4 g5 g6
        go_wp2
        go_roundw
        case rel=>exact⟨x,h,hh1,by omega,rfl,rfl,HB.out.trans (hb2.mono hsz),HL.out,fun _=>by rw [HZ.out];omega⟩
        case measure=>simp [intOf];omega
    · obtain rfl:x=y:=by omega
      clear hlt
      go_wp2_with fail
      by_cases hxn:x<l.length
      · have hd:decide (x<l.length)=true:=by simpa using hxn
        have hxi:(x:Int)<(l.length:Int):=by omega
        obtain⟨a4',cap4,he4,_,_,h4⟩:=IsD.parts (c:=12) (n:=l.length) HI.out
        obtain⟨b,off,ha4,hb4,hc4⟩:=h4.resolve_left (by omega)
        obtain⟨rfl,rfl⟩:a4=a4'∧c4=cap4:=by simpa using he4
        subst ha4
        obtain⟨u7,u10,u11,k0,k1,k2,k3,k4,k5,k6,k7,k8,k9,k10,k11,d7,d10,d11⟩:=yya hc4 (hxn:x<l.length)
        obtain⟨a7,c7,rfl,_⟩:=IsD.len d7
        obtain⟨a10,c10,rfl,_⟩:=IsD.len d10
        obtain⟨a11,c11,rfl,_⟩:=IsD.len d11
        have f0:∀q:Beyond wr,q.w.cell? ⟨b,off+x*12,none⟩=_:=fun q=>q.cell hb4 k0
        have f1:∀q:Beyond wr,q.w.cell? ⟨b,off+x*12+1,none⟩=_:=fun q=>q.cell hb4 k1
        have f2:∀q:Beyond wr,q.w.cell? ⟨b,off+x*12+2,none⟩=_:=fun q=>q.cell hb4 k2
        have f3:∀q:Beyond wr,q.w.cell? ⟨b,off+x*12+3,none⟩=_:=fun q=>q.cell hb4 k3
        have f4:∀q:Beyond wr,q.w.cell? ⟨b,off+x*12+4,none⟩=_:=fun q=>q.cell hb4 k4
        have f5:∀q:Beyond wr,q.w.cell? ⟨b,off+x*12+5,none⟩=_:=fun q=>q.cell hb4 k5
        have f6:∀q:Beyond wr,q.w.cell? ⟨b,off+x*12+6,none⟩=_:=fun q=>q.cell hb4 k6
        have f7:∀q:Beyond wr,q.w.cell? ⟨b,off+x*12+7,none⟩=_:=fun q=>q.cell hb4 k7
        have f8:∀q:Beyond wr,q.w.cell? ⟨b,off+x*12+8,none⟩=_:=fun q=>q.cell hb4 k8
        have f9:∀q:Beyond wr,q.w.cell? ⟨b,off+x*12+9,none⟩=_:=fun q=>q.cell hb4 k9
        have f10:∀q:Beyond wr,q.w.cell? ⟨b,off+x*12+10,none⟩=_:=fun q=>q.cell hb4 k10
        have f11:∀q:Beyond wr,q.w.cell? ⟨b,off+x*12+11,none⟩=_:=fun q=>q.cell hb4 k11
        obtain⟨g0,g1,g2,g3,g4,g5,g6⟩:=bb7 HE.out
        clear k0 k1 k2 k3 k4 k5 k6 k7 k8 k9 k10 k11 hc4 h4 he4 d7 d10 d11
        generalize hz:(psAt l x).e.ecmp e=z
        have HZ:=zi1 hz
        clear hz
        refine wrb ?_
        repeat(go_big_quiet_step (first|(go_at_call 126;exact Beyond.of (zcc _ _ _ _ (psAt l x) e z HZ.out _ ⟨_,_,_,rfl⟩ ⟨_,_,_,rfl⟩ ⟨_,_,_,rfl⟩ rfl))))
        refine wpQuiet_nil ?_
        rintro w2 ⟨⟨_,hb2⟩,rfl⟩
        clear hne f0 f1 f2 f3 f4 f5 f6 f7 f8 f9 f10 f11 g0 g1 g2 g3 g4 g5 g6
        go_wp2
        go_ret2
        exact⟨⟨x,_,rfl,hyn,HL.out,fun hy=>by have:=HU.out hy;omega⟩,HB0.out.trans ((HB.out.trans (hb2.mono hsz)).mono (by omega))⟩
      · have hd:decide (x<l.length)=false:=by simpa using hxn
        have hxi:¬((x:Int)<(l.length:Int)):=by omega
        refine wrb ?_
        repeat(go_big_quiet_step (fail))
        refine wpQuiet_nil ?_
        rintro w2 ⟨⟨_,hb2⟩,rfl⟩
        clear hne
        go_wp2
        go_ret2
        exact⟨⟨x,_,rfl,hyn,HL.out,fun hy=>by have:=HU.out hy;omega⟩,HB0.out.trans ((HB.out.trans (hb2.mono hsz)).mono (by omega))⟩
set_option maxHeartbeats 4000000
set_option maxRecDepth 100000
open Go.RowKit
theorem yz4 {p:Prop} (h:p):Hid p:=h
theorem yzb (x:Value) (l:List Ev) (w:World) (hl:l.length≤1048577) (h:SrcC w x 7 l.length (yvz l)):
    Calls Tryz.prog 116 #[x] w fun e w'=>∃y,e= .returned y∧w'.ownsRow w.heap.size 90 7 y l.length (yvz l)∧Below w.heap.size w w':=by
  obtain⟨i0,hi,hz0,hz1,hz2⟩:=info_parts info25
  have HS:=yz4 h
  obtain⟨_,a,c,rfl,_⟩:=h
  go_enter Tryz.func116,Tryz.ntmps116
  go_wp2_with (at_builtin;refine ywg _ rfl _ _ 34 rfl w.heap.size 90 i0 _ 7 56 Tryz.underlying34 hi hz0 hz1 hz2 rfl (by decide) (.slice none 0 0) 0 [] rfl (World.ownsRow_nil w w.heap.size 90 7) (.slice a l.length c) l.length (yvz l) rfl HS.out (zcn l) (by unfold maxLen;omega) (by omega) (Nat.le_refl _) ?_;intro v' w' hown hgrow hnew)
  go_ret
  rw [Nat.zero_add,List.nil_append]at hown
  exact⟨_,rfl,hown,(Below.refl _ w).grown hgrow (Nat.le_refl _) (fun k e=>by cases e)⟩
theorem zc2 (x:Value) (l:List Em) (w:World) (hl:l.length≤1048577) (h:SrcC w x 3 l.length (ywm l)):
    Calls Tryz.prog 117 #[x] w fun e w'=>∃y,e= .returned y∧w'.ownsRow w.heap.size 166 3 y l.length (ywm l)∧Below w.heap.size w w':=by
  obtain⟨i0,hi,hz0,hz1,hz2⟩:=info_parts zfp
  have HS:=yz4 h
  obtain⟨_,a,c,rfl,_⟩:=h
  go_enter Tryz.func117,Tryz.ntmps117
  go_wp2_with (at_builtin;refine ywg _ rfl _ _ 39 rfl w.heap.size 166 i0 _ 3 24 Tryz.underlying39 hi hz0 hz1 hz2 rfl (by decide) (.slice none 0 0) 0 [] rfl (World.ownsRow_nil w w.heap.size 166 3) (.slice a l.length c) l.length (ywm l) rfl HS.out (yyz l) (by unfold maxLen;omega) (by omega) (Nat.le_refl _) ?_;intro v' w' hown hgrow hnew)
  go_ret
  rw [Nat.zero_add,List.nil_append]at hown
  exact⟨_,rfl,hown,(Below.refl _ w).grown hgrow (Nat.le_refl _) (fun k e=>by cases e)⟩
theorem zd8 (x:Value) (l:List Int) (w:World) (hl:l.length≤1048577) (h:SrcC w x 1 l.length (intCells l)):
    Calls Tryz.prog 120 #[x] w fun e w'=>∃y,e= .returned y∧w'.ownsRow w.heap.size 3 1 y l.length (intCells l)∧Below w.heap.size w w':=by
  obtain⟨i0,hi,hz0,hz1,hz2⟩:=info_parts zf8
  have HS:=yz4 h
  obtain⟨_,a,c,rfl,_⟩:=h
  go_enter Tryz.func120,Tryz.ntmps120
  go_wp2_with (at_builtin;refine ywg _ rfl _ _ 22 rfl w.heap.size 3 i0 _ 1 8 Tryz.underlying22 hi hz0 hz1 hz2 rfl (by decide) (.slice none 0 0) 0 [] rfl (World.ownsRow_nil w w.heap.size 3 1) (.slice a l.length c) l.length (intCells l) rfl HS.out (yzh l) (by unfold maxLen;omega) (by omega) (Nat.le_refl _) ?_;intro v' w' hown hgrow hnew)
  go_ret
  rw [Nat.zero_add,List.nil_append]at hown
  exact⟨_,rfl,hown,(Below.refl _ w).grown hgrow (Nat.le_refl _) (fun k e=>by cases e)⟩
theorem zk8 (x vr:Value) (s:St) (w:World) (hl:s.r.length≤1048577) (hx:x= .agg #[vr,.int .i64 s.q,.int .i64 s.d]) (h:IsD w vr (ywr s.r)):
    Calls Tryz.prog 127 #[x] w fun r w'=>∃v,r= .returned (.agg #[v,.int .i64 s.q,.int .i64 s.d])∧w'.ownsRow w.heap.size 3 1 v s.r.length (intCells s.r)∧Below w.heap.size w w':=by
  obtain⟨ar,cr,rfl,_⟩:=IsD.len h
  subst hx
  obtain⟨W0,hW0⟩:∃W0,(w.alloc (.cells #[.slice ar s.r.length cr,.int .i64 s.q,.int .i64 s.d] 94)).alloc (.cells #[.slice none 0 0,.int .i64 0,.int .i64 0] 94)=W0:=⟨_,rfl⟩
  have hz0:W0.heap.size=w.heap.size+1+1:=by rw [←hW0];simp
  have hb0:=beA2 hW0
  have HBw:=yz4 hb0
  have HW0:=yz4 hW0
  have BX:=hdq (bkA2 hW0)
  have BZ:=hdq (bkB2 hW0)
  have D1:=yz4 (h.under hb0)
  have hz0':W0.heap.size≤w.heap.size+1+1∧w.heap.size+1+1≤W0.heap.size:=by omega
  have x0:=BX.out.cell (i:=0) rfl
  clear hb0 h hz0
  go_enter Tryz.func127,Tryz.ntmps127
  go_wp2_with fail
  clear hW0 x0
  refine(zd8 _ s.r W0 hl D1.out.srcI).mono ?_
  rintro e w1 ⟨v,rfl,hown,hb⟩
  obtain⟨av,cv,hv⟩:=yfm hown
  subst hv
  have HO:=yz4 hown
  have hz1:W0.heap.size≤w1.heap.size:=hb.size
  have HB1:=yz4 (HBw.out.trans (hb.mono (by omega)))
  have X1:=yz4 (BX.out.below hb)
  have Z1:=yz4 (BZ.out.below hb)
  have x0:=X1.out.cell (i:=0) rfl
  have xf:=X1.out.free
  obtain⟨W2,hW2⟩:∃V,w1.setCell ⟨w.heap.size,0,none⟩ (.slice av s.r.length cv)=V:=⟨_,rfl⟩
  have hP:=X1.out.put 0 (.slice av s.r.length cv)
  have ht:=yag w1 w.heap.size 0 (.slice av s.r.length cv)
  rw [hW2]at hP ht
  have HW2:=yz4 hW2
  have X2:=yz4 hP
  have Z2:=yz4 (Z1.out.turns ht (by omega))
  have T2:=yz4 ht
  clear hW2 hP ht hown hb
  obtain⟨y0,y1,y2⟩:=c3_3 X2.out
  obtain⟨z0,z1,z2⟩:=c3_3 Z2.out
  have zf:=Z2.out.free
  have hW2:=HW2.out
  obtain⟨X5,hX5⟩:∃X5,put3s W2 (w.heap.size+1) (.slice av s.r.length cv) (.int .i64 s.q) (.int .i64 s.d)=X5:=⟨_,rfl⟩
  have hP5:=Z2.out.put3s (.slice av s.r.length cv) (.int .i64 s.q) (.int .i64 s.d)
  have ht5:=zej W2 (w.heap.size+1) (.slice av s.r.length cv) (.int .i64 s.q) (.int .i64 s.d)
  rw [hX5]at hP5 ht5
  have HP5:=yz4 hP5
  have HT5:=yz4 ht5
  unfold put3s at hX5
  have HX5:Hid _:=hX5
  clear hP5 ht5 hX5
  go_wp2
  rw [HX5.out]
  obtain⟨t0,t1,t2⟩:=c3_3 HP5.out
  refine bodyPost_ret (v:= .agg #[.slice av s.r.length cv,.int .i64 s.q,.int .i64 s.d]) (by simp [results,Tryz.results127,go_sem,t0,t1,t2]) rfl ⟨_,rfl,?_,(HB1.out.trans (T2.out.to_below (fun k e=>by omega) (by omega))).trans (HT5.out.to_below (fun k e=>by omega) (by have:=T2.out.size;omega))⟩
  exact yw0 (ypa (ypa HO.out T2.out (fun k hk e=>by have:=yx4 HO.out hk;omega)) HT5.out (fun k hk e=>by have:=yx4 HO.out hk;omega)) (by omega)
end Go.Proofs.YtghndljgadpijaaGreat

