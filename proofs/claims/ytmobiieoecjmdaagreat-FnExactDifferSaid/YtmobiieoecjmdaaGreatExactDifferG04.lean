/- TPtA, TPp, KMl, KKr, WSz, WDat, SOk -/
import Derived.Test.YtmobiieoecjmdaaGreatExactDifferG01
import Derived.Test.YtmobiieoecjmdaaGreatExactDifferG03
import Derived.Deep.RegionHeld3
/- szPart, eqPart. -/
namespace Go.Proofs.YtmobiieoecjmdaaGreat
set_option maxHeartbeats 4000000
open Go.RowKit
theorem yas {p:Prop} (h:p):Hid p:=h
theorem yp8 (x:Value) (p:Pa) (left:Int) (w:World) (h0:0≤left) (h1:left≤1048576) (h:IsPart w x p):
  Calls Tryz.prog 97 #[x,.int .i64 left] w fun e w'=>(∃r,e= .returned (.int .i64 r)∧SzR p.wt left r)∧Below w.heap.size w w':=by
 obtain⟨u1,u4,u5,u6,rfl,h1,h4,h5,h6⟩:=h
 have H1:=yas h1
 have H4:=yas h4
 have H5:=yas h5
 have H6:=yas h6
 clear h1 h4 h5 h6
 obtain⟨W0,hW0⟩:∃W0,w.alloc (.cells #[.int .i64 p.n,u1,.int .i64 p.st.q,.int .i64 p.st.d,u4,u5,u6] 144)=W0:=⟨_,rfl⟩
 have HB0:=hdq (beA hW0)
 have HP0:=hdq (bkA hW0)
 have HW:=yas hW0
 clear hW0
 go_enter Tryz.func97,Tryz.ntmps97
 have p1:=HP0.out.cell (i:=1) rfl
 have p2:=HP0.out.cell (i:=2) rfl
 have p3:=HP0.out.cell (i:=3) rfl
 go_wp2_with fail
 rw [HW.out]
 clear HW
 clear p1 p2 p3
 refine(yku _ p.st _ _ h0 h1 ⟨_,rfl,(H1.out.under HB0.out).isI⟩).mono ?_
 rintro e w1 ⟨⟨r1,rfl,hr⟩,hb⟩
 have HB1:=yas (trm HB0.out hb)
 have HP1:=yas (HP0.out.below hb)
 clear hb
 rcases hr with rfl|⟨r10,hr⟩
 ·go_wp2
  go_ret
  exact⟨⟨_,rfl,.inl rfl⟩,HB1.out⟩
 have r11:r1≤1048576:=by omega
 have r12:¬(r1<0):=by omega
 have HR1:=yas hr
 clear hr
 have p4:=HP1.out.cell (i:=4) rfl
 go_wp2_with fail
 clear p4
 refine(sz_pasts _ p.p _ _ r10 r11 (H4.out.under HB1.out)).mono ?_
 rintro e w2 ⟨⟨r2,rfl,hr⟩,hb⟩
 have HB2:=yas (trm HB1.out hb)
 have HP2:=yas (HP1.out.below hb)
 clear hb
 rcases hr with rfl|⟨r20,hr⟩
 ·go_wp2
  go_ret
  exact⟨⟨_,rfl,.inl rfl⟩,HB2.out⟩
 have r21:r2≤1048576:=by omega
 have r22:¬(r2<0):=by omega
 have HR2:=yas hr
 clear hr
 have p5:=HP2.out.cell (i:=5) rfl
 go_wp2_with fail
 clear p5
 refine(yqq _ p.t _ _ r20 r21 (H5.out.under HB2.out)).mono ?_
 rintro e w3 ⟨⟨r3,rfl,hr⟩,hb⟩
 have HB3:=yas (trm HB2.out hb)
 have HP3:=yas (HP2.out.below hb)
 clear hb
 rcases hr with rfl|⟨r30,hr⟩
 ·go_wp2
  go_ret
  exact⟨⟨_,rfl,.inl rfl⟩,HB3.out⟩
 have r31:r3≤1048576:=by omega
 have r32:¬(r3<0):=by omega
 have HR3:=yas hr
 clear hr
 have p6:=HP3.out.cell (i:=6) rfl
 go_wp2_with fail
 clear p6
 refine(yjo _ p.a _ _ r30 r31 (H6.out.under HB3.out)).mono ?_
 rintro e w4 ⟨⟨r4,rfl,hr⟩,hb⟩
 have HB4:=yas (trm HB3.out hb)
 have HP4:=yas (HP3.out.below hb)
 clear hb
 rcases hr with rfl|⟨r40,hr⟩
 ·go_wp2
  go_ret
  exact⟨⟨_,rfl,.inl rfl⟩,HB4.out⟩
 have r41:r4≤1048576:=by omega
 have r42:¬(r4<0):=by omega
 have HR4:=yas hr
 clear hr
 go_wp2
 go_ret
 refine⟨⟨_,rfl,.inr ⟨r40,?_⟩⟩,HB4.out⟩
 have:=HR1.out
 have:=HR2.out
 have:=HR3.out
 have:=HR4.out
 unfold Pa.wt
 omega
theorem yn4 (x y:Value) (p:Pa) (w:World) (hw:p.wt≤1048576) (hx:IsPart w x p) (hy:IsPart w y p):
  Calls Tryz.prog 124 #[x,y] w fun e w'=>e= .returned (.bool true)∧Below w.heap.size w w':=by
 obtain⟨u1,u4,u5,u6,rfl,h1,h4,h5,h6⟩:=hx
 obtain⟨v1,v4,v5,v6,rfl,k1,k4,k5,k6⟩:=hy
 have H1:Hid (IsD w u1 (yax p.st.r)∧IsD w v1 (yax p.st.r)):=⟨h1,k1⟩
 have H4:Hid (IsD w u4 (ybe p.p)∧IsD w v4 (ybe p.p)):=⟨h4,k4⟩
 have H5:Hid (IsD w u5 (evsD p.t)∧IsD w v5 (evsD p.t)):=⟨h5,k5⟩
 have H6:Hid (IsD w u6 (yax p.a)∧IsD w v6 (yax p.a)):=⟨h6,k6⟩
 have HS:Hid (p.wt≤1048576):=hw
 clear hw h1 k1 h4 k4 h5 k5 h6 k6
 obtain⟨W0,hW0⟩:∃W0,(w.alloc (.cells #[.int .i64 p.n,u1,.int .i64 p.st.q,.int .i64 p.st.d,u4,u5,u6] 97)).alloc (.cells #[.int .i64 p.n,v1,.int .i64 p.st.q,.int .i64 p.st.d,v4,v5,v6] 97)=W0:=⟨_,rfl⟩
 have HB0:=hdq (beA2 hW0)
 have HP0:=hdq (bkA2 hW0)
 have HQ0:=hdq (bkB2 hW0)
 have HW:=yas hW0
 clear hW0
 go_enter Tryz.func124,Tryz.ntmps124
 have p0:=HP0.out.cell (i:=0) rfl
 have q0:=HQ0.out.cell (i:=0) rfl
 have p1:=HP0.out.cell (i:=1) rfl
 have q1:=HQ0.out.cell (i:=1) rfl
 have p2:=HP0.out.cell (i:=2) rfl
 have q2:=HQ0.out.cell (i:=2) rfl
 have p3:=HP0.out.cell (i:=3) rfl
 have q3:=HQ0.out.cell (i:=3) rfl
 go_wp2_with fail
 rw [HW.out]
 clear HW
 clear p0 q0 p1 q1 p2 q2 p3 q3
 refine(yhj _ _ p.st _ (by have:=HS.out;unfold Pa.wt at this;simp only [yaz,yam]at this;omega) ⟨_,rfl,(H1.out.1.under HB0.out).isI⟩ ⟨_,rfl,(H1.out.2.under HB0.out).isI⟩).mono ?_
 rintro e w1 ⟨rfl,hb⟩
 have HB1:=yas (trm HB0.out hb)
 have HP1:=yas (HP0.out.below hb)
 have HQ1:=yas (HQ0.out.below hb)
 clear hb
 have p4:=HP1.out.cell (i:=4) rfl
 have q4:=HQ1.out.cell (i:=4) rfl
 go_wp2_with fail
 clear p4 q4
 refine(eq_pasts _ _ p.p _ (by have:=HS.out;unfold Pa.wt at this;simp only [yaz,yam]at this;omega) (H4.out.1.under HB1.out) (H4.out.2.under HB1.out)).mono ?_
 rintro e w2 ⟨rfl,hb⟩
 have HB2:=yas (trm HB1.out hb)
 have HP2:=yas (HP1.out.below hb)
 have HQ2:=yas (HQ1.out.below hb)
 clear hb
 have p5:=HP2.out.cell (i:=5) rfl
 have q5:=HQ2.out.cell (i:=5) rfl
 go_wp2_with fail
 clear p5 q5
 refine(ysw _ _ p.t _ (by have:=HS.out;unfold Pa.wt at this;simp only [yaz,yam]at this;omega) (H5.out.1.under HB2.out) (H5.out.2.under HB2.out)).mono ?_
 rintro e w3 ⟨rfl,hb⟩
 have HB3:=yas (trm HB2.out hb)
 have HP3:=yas (HP2.out.below hb)
 have HQ3:=yas (HQ2.out.below hb)
 clear hb
 have p6:=HP3.out.cell (i:=6) rfl
 have q6:=HQ3.out.cell (i:=6) rfl
 go_wp2_with fail
 clear p6 q6
 refine(yn2 _ _ p.a _ (by have:=HS.out;unfold Pa.wt at this;simp only [yaz,yam]at this;omega) (H6.out.1.under HB3.out) (H6.out.2.under HB3.out)).mono ?_
 rintro e w4 ⟨rfl,hb⟩
 have HB4:=yas (trm HB3.out hb)
 have HP4:=yas (HP3.out.below hb)
 have HQ4:=yas (HQ3.out.below hb)
 clear hb
 go_wp2
 go_ret
 exact⟨rfl,HB4.out⟩
end Go.Proofs.YtmobiieoecjmdaaGreat

/- szPartS: how much there is. -/
namespace Go.Proofs.YtmobiieoecjmdaaGreat
open Go.RowKit
theorem yo3 {p:Prop} (h:p):Hid p:=h
set_option maxHeartbeats 4000000 in
theorem sz_parts (x:Value) (l:List Pa) (left:Int) (w:World) (h0:0≤left) (h1:left≤1048576) (h:IsD w x (ycz l)):
  Calls Tryz.prog 54 #[x,.int .i64 left] w fun e w'=>(∃r,e= .returned (.int .i64 r)∧SzR (ycz l).wt left r)∧Below w.heap.size w w':=by
 obtain⟨a,cap,rfl,hn1,hn,h⟩:=IsD.parts (c:=7) (n:=l.length) h
 have hn2:l.length≤9223372036854775807:=by unfold maxLen at hn;omega
 clear hn1 hn
 by_cases hp:left-(l.length:Int)<0
 ·go_enter Tryz.func54,Tryz.ntmps54
  go_wp2
  go_ret
  exact⟨⟨_,rfl,.inl rfl⟩,Below.refl _ _⟩
 ·have HLF:Hid (0≤left-(l.length:Int)):=(by omega:0≤left-(l.length:Int))
  go_enter Tryz.func54,Tryz.ntmps54
  go_wp2
  go_loopw [5,1] (fun i z wr=>∃k:Nat,k≤l.length∧i= .int .i64 k∧Below w.heap.size w wr∧ ∃lf:Int,z= .int .i64 lf∧0≤lf∧lf+(l.length:Int)+(sumL (fun i=>(paAt l i).wt) k:Int)=left) (fun i _ _=>l.length-(intOf i).toNat)
  case atStart=>exact⟨0,Nat.zero_le _,rfl,Below.refl _ _,left-(l.length:Int),rfl,HLF.out,by simp [sumL]⟩
  case round=>
   obtain⟨k,hk,rfl,hB,lf2,rfl,hz0,hz1⟩:=hrel
   have HZ:=yo3 hz1
   have HB:=yo3 hB
   have hz2:lf2≤1048576:=by omega
   clear hz1
   by_cases hlt:k<l.length
   ·obtain⟨b,off,rfl,hb,hc⟩:=h.resolve_left (by omega)
    obtain⟨u1,u4,u5,u6,f0,f1,f2,f3,f4,f5,f6,d1,d4,d5,d6⟩:=yf6 (fun j hj=>by
     obtain⟨u,hu,hd⟩:=hc j hj
     exact⟨u,(hB.cell (p:=⟨b,off+j,none⟩) hb).trans hu,hd.under hB⟩) hlt
    have HD:Hid (IsPart wr (.agg #[.int .i64 (paAt l k).n,u1,.int .i64 (paAt l k).st.q,.int .i64 (paAt l k).st.d,u4,u5,u6]) (paAt l k)):=⟨u1,u4,u5,u6,rfl,d1,d4,d5,d6⟩
    clear h hc hB d1 d4 d5 d6
    go_wp2_with fail
    clear f0 f1 f2 f3 f4 f5 f6
    refine(yp8 _ (paAt l k) _ _ hz0 hz2 HD.out).mono ?_
    rintro e w2 ⟨⟨r,rfl,hr⟩,hb2⟩
    have HB2:=yo3 (trm HB.out hb2)
    clear hb2
    rcases hr with rfl|⟨r0,hr⟩
    ·go_wp2
     go_ret
     exact⟨⟨_,rfl,.inl rfl⟩,HB2.out⟩
    ·have HR:=yo3 hr
     have r2:¬(r<0):=by omega
     clear hr
     go_wp2
     go_roundw
     case rel=>exact⟨k+1,by omega,by go_num,HB2.out,r,rfl,r0,by have:=HR.out;have:=HZ.out;simp only [sumL];omega⟩
     case measure=>simp [intOf];omega
   ·clear h hB
    go_wp2
    go_ret
    obtain rfl:k=l.length:=by omega
    exact⟨⟨_,rfl,.inr ⟨hz0,by rw [yei];have:=HZ.out;omega⟩⟩,HB.out⟩
set_option maxHeartbeats 1000000
open Go.RowKit
theorem ysn {p:Prop} (h:p):Hid p:=h
structure Ml where
 e:Ev
 a:Bool
def mlAt (l:List Ml) (i:Nat):Ml:=l.getD i ⟨⟨0,0,0,0,0,0,0⟩,false⟩
def Ml.cs (m:Ml):List Value:= [.int .i64 m.e.t,.int .i64 m.e.s,.int .i64 m.e.q,.int .i64 m.e.d,.int .i64 m.e.k,.int .i64 m.e.v,.int .i64 m.e.g,.bool m.a]
def yca:List Ml→List Value
 | []=> []
 |e::l=>e.cs++yca l
theorem yit (e:Ml) (l:List Ml) (i:Nat):mlAt (e::l) (i+1)=mlAt l i:=by simp [mlAt]
theorem ybg:∀(l:List Ml) (i r:Nat),i<l.length→r<8→(yca l)[i*8+r]? =(mlAt l i).cs[r]?
 | [],_,_,h,_=>by simp at h
 |e::l,0,r,_,hr=>by
  have:r<e.cs.length:=by simpa [Ml.cs] using hr
  simp only [yca,Nat.zero_mul,Nat.zero_add]
  rw [List.getElem?_append_left this]
  simp [mlAt]
 |e::l,i+1,r,h,hr=>by
  have h1:=ybg l i r (by simpa using h) hr
  have:e.cs.length≤(i+1)*8+r:=by simp [Ml.cs];omega
  simp only [yca]
  rw [List.getElem?_append_right this,yit,←h1]
  congr 1
  simp [Ml.cs];omega
structure MlAt (w:World) (b o:Nat) (m:Ml):Prop where
 f0:w.cell? ⟨b,o,none⟩=some (.int .i64 m.e.t)
 f1:w.cell? ⟨b,o+1,none⟩=some (.int .i64 m.e.s)
 f2:w.cell? ⟨b,o+2,none⟩=some (.int .i64 m.e.q)
 f3:w.cell? ⟨b,o+3,none⟩=some (.int .i64 m.e.d)
 f4:w.cell? ⟨b,o+4,none⟩=some (.int .i64 m.e.k)
 f5:w.cell? ⟨b,o+5,none⟩=some (.int .i64 m.e.v)
 f6:w.cell? ⟨b,o+6,none⟩=some (.int .i64 m.e.g)
 f7:w.cell? ⟨b,o+7,none⟩=some (.bool m.a)
theorem MlAt.below {w w':World} {B b o:Nat} {m:Ml} (h:MlAt w b o m) (hb:Below B w w') (hlt:b<B):MlAt w' b o m:=
 ⟨(hb.cell hlt).trans h.f0,(hb.cell hlt).trans h.f1,(hb.cell hlt).trans h.f2,(hb.cell hlt).trans h.f3,(hb.cell hlt).trans h.f4,(hb.cell hlt).trans h.f5,(hb.cell hlt).trans h.f6,(hb.cell hlt).trans h.f7⟩
def MlsAt (w:World) (b off:Nat) (l:List Ml):Prop:=b<w.heap.size∧ ∀i,i<l.length→MlAt w b (off+i*8) (mlAt l i)
def IsMl (w:World) (x:Value) (l:List Ml):Prop:=∃a cap,x= .slice a l.length cap∧l.length≤cap∧cap≤maxLen∧(l= []∨ ∃b off,a=some ⟨b,off,none⟩∧MlsAt w b off l)
def ydz (l:List Ml):Dat:=flat 8 l.length (yca l)
theorem IsMl.isD {w:World} {x:Value} {l:List Ml} (h:IsMl w x l):IsD w x (ydz l):=by
 obtain⟨a,cap,rfl,h1,h2,h⟩:=h
 refine IsD.of_parts h1 h2 (h.imp (fun e=>by rw [e];rfl) ?_)
 rintro ⟨b,off,rfl,hb,hc⟩
 refine⟨b,off,rfl,hb,fun j hj=> ?_⟩
 have hi:j/8<l.length:=by omega
 have hr:j%8<8:=by omega
 have hE:=hc (j/8) hi
 have hg:=ybg l (j/8) (j%8) hi hr
 rw [show j/8*8+j%8=j from by omega]at hg
 have hall:∀r,r<8→ ∃u,w.cell? ⟨b,off+j/8*8+r,none⟩=some u∧(mlAt l (j/8)).cs[r]? =some u:=fun r hr=>by
  match r,hr with
  |0,_=>exact⟨_,hE.f0,rfl⟩
  |1,_=>exact⟨_,hE.f1,rfl⟩
  |2,_=>exact⟨_,hE.f2,rfl⟩
  |3,_=>exact⟨_,hE.f3,rfl⟩
  |4,_=>exact⟨_,hE.f4,rfl⟩
  |5,_=>exact⟨_,hE.f5,rfl⟩
  |6,_=>exact⟨_,hE.f6,rfl⟩
  |7,_=>exact⟨_,hE.f7,rfl⟩
 obtain⟨u,h3,h4⟩:=hall _ hr
 refine⟨u,by rw [←h3];congr 2;omega,?_⟩
 rw [show(yca l).getD j (.int .i64 0)=u from ybo (hg.trans h4)]
 exact .val _
theorem IsD.isMl {w:World} {x:Value} {l:List Ml} (h:IsD w x (ydz l)):IsMl w x l:=by
 obtain⟨a,cap,rfl,h1,h2,h⟩:=IsD.parts (c:=8) (n:=l.length) h
 refine⟨a,cap,rfl,h1,h2,h.imp List.eq_nil_of_length_eq_zero ?_⟩
 rintro ⟨b,off,rfl,hb,hc⟩
 refine⟨b,off,rfl,hb,fun i hi=> ?_⟩
 have hget:∀r,r<8→w.cell? ⟨b,off+i*8+r,none⟩=(mlAt l i).cs[r]? :=fun r hr=>by
  obtain⟨u,hu,hd⟩:=hc (i*8+r) (by omega)
  rw [Nat.add_assoc,hu,hd.val_eq]
  have hg:=ybg l i r hi hr
  have:r<(mlAt l i).cs.length:=by simpa [Ml.cs] using hr
  rw [List.getElem?_eq_getElem this]at hg⊢
  rw [ybo hg]
 exact⟨hget 0 (by omega),hget 1 (by omega),hget 2 (by omega),hget 3 (by omega),hget 4 (by omega),hget 5 (by omega),hget 6 (by omega),hget 7 (by omega)⟩
theorem yce (l:List Ml):(ydz l).wt=l.length:=yk8 _ _ _
theorem szMl_any (a:Option Addr) (n cap:Nat) (left:Int) (w:World) (hn:n≤maxLen) (h0:0≤left) (h1:left≤1048576):
  Calls Tryz.prog 55 #[.slice a n cap,.int .i64 left] w fun e w'=>e= .returned (.int .i64 (szN n left))∧w'=w:=by
 unfold maxLen at hn
 by_cases hp:left-(n:Int)<0
 ·go_enter Tryz.func55,Tryz.ntmps55
  go_wp2
  go_ret
  exact⟨yaw (by unfold szN;rw [if_pos hp]),rfl⟩
 ·go_enter Tryz.func55,Tryz.ntmps55
  go_wp2
  go_ret
  exact⟨yaw (by unfold szN;rw [if_neg (by omega)]),rfl⟩
theorem sz_mails (x:Value) (l:List Ml) (left:Int) (w:World) (h0:0≤left) (h1:left≤1048576) (h:IsD w x (ydz l)):
  Calls Tryz.prog 55 #[x,.int .i64 left] w fun e w'=>(∃r,e= .returned (.int .i64 r)∧SzR (ydz l).wt left r)∧Below w.heap.size w w':=by
 obtain⟨a,cap,rfl,hn⟩:=IsD.len (c:=8) (n:=l.length) h
 refine(szMl_any a l.length cap left w hn h0 h1).mono ?_
 rintro e w' ⟨rfl,rfl⟩
 exact⟨⟨_,rfl,by rw [yce];exact szN_R _ _⟩,Below.refl _ _⟩
theorem yn5 (t s q d k v g:Int) (b:Bool) (w:World):
  Calls Tryz.prog 125 #[.agg #[.int .i64 t,.int .i64 s,.int .i64 q,.int .i64 d,.int .i64 k,.int .i64 v,.int .i64 g,.bool b],.agg #[.int .i64 t,.int .i64 s,.int .i64 q,.int .i64 d,.int .i64 k,.int .i64 v,.int .i64 g,.bool b]] w fun e w'=>e= .returned (.bool true)∧Below w.heap.size w w':=by
 obtain⟨W0,hW0⟩:∃V,(w.alloc (.cells #[.int .i64 t,.int .i64 s,.int .i64 q,.int .i64 d,.int .i64 k,.int .i64 v,.int .i64 g,.bool b] 148)).alloc (.cells #[.int .i64 t,.int .i64 s,.int .i64 q,.int .i64 d,.int .i64 k,.int .i64 v,.int .i64 g,.bool b] 148)=V:=⟨_,rfl⟩
 have hb0:=beA2 hW0
 have HB0:=ysn hb0
 have B1:=hdq (bkA2 hW0)
 have B2:=hdq (bkB2 hW0)
 clear hb0
 have x0:=B1.out.cell (i:=0) rfl
 have x1:=B1.out.cell (i:=1) rfl
 have x2:=B1.out.cell (i:=2) rfl
 have x3:=B1.out.cell (i:=3) rfl
 have x4:=B1.out.cell (i:=4) rfl
 have x5:=B1.out.cell (i:=5) rfl
 have x6:=B1.out.cell (i:=6) rfl
 have y0:=B2.out.cell (i:=0) rfl
 have y1:=B2.out.cell (i:=1) rfl
 have y2:=B2.out.cell (i:=2) rfl
 have y3:=B2.out.cell (i:=3) rfl
 have y4:=B2.out.cell (i:=4) rfl
 have y5:=B2.out.cell (i:=5) rfl
 have y6:=B2.out.cell (i:=6) rfl
 go_enter Tryz.func125,Tryz.ntmps125
 go_wp2_with fail
 clear hW0 x0 y0 x1 y1 x2 y2 x3 y3 x4 y4 x5 y5 x6 y6
 refine(yfc _ _ _ _ _ _ _ _).mono ?_
 rintro r w1 ⟨rfl,hb⟩
 have x7:=(B1.out.below hb).cell (i:=7) rfl
 have y7:=(B2.out.below hb).cell (i:=7) rfl
 have HB1:=ysn (trm HB0.out hb)
 clear hb
 cases b<;>(go_wp2;go_ret;exact⟨rfl,HB1.out⟩)
theorem ysy (x y:Value) (l:List Ml) (w:World) (hl:l.length≤1048576) (hx:IsMl w x l) (hy:IsMl w y l):
  Calls Tryz.prog 67 #[x,y] w fun e w'=>e= .returned (.bool true)∧Below w.heap.size w w':=by
 obtain⟨a,cap,rfl,h1,h2,h⟩:=hx
 obtain⟨a',cap',rfl,h1',h2',h'⟩:=hy
 clear h1 h2 h1' h2'
 by_cases hz:l= []
 ·subst hz
  clear h h'
  go_enter Tryz.func67,Tryz.ntmps67
  go_wp2
  go_loop [5] (fun i=>i= .int .i64 0) (fun _=>0)
  case atStart=>rfl
  case round=>
   subst hrel
   go_wp2
   go_ret
   exact⟨rfl,Below.refl _ _⟩
 ·obtain⟨b,off,rfl,hb,hc⟩:=h.resolve_left hz
  obtain⟨b',off',rfl,hb',hc'⟩:=h'.resolve_left hz
  clear h h' hz
  go_enter Tryz.func67,Tryz.ntmps67
  go_wp2
  go_loopw [5] (fun i wr=>∃k:Nat,k≤l.length∧i= .int .i64 k∧Below w.heap.size w wr) (fun i _=>l.length-(intOf i).toNat)
  case atStart=>exact⟨0,Nat.zero_le _,rfl,Below.refl _ _⟩
  case round=>
   obtain⟨k,hk,rfl,hB⟩:=hrel
   have HB:=ysn hB
   by_cases hlt:k<l.length
   ·obtain⟨f0,f1,f2,f3,f4,f5,f6,f7⟩:=(hc k hlt).below hB hb
    obtain⟨e0,e1,e2,e3,e4,e5,e6,e7⟩:=(hc' k hlt).below hB hb'
    have hbr:b<wr.heap.size:=Nat.lt_of_lt_of_le hb hB.size
    have hbr':b'<wr.heap.size:=Nat.lt_of_lt_of_le hb' hB.size
    clear hB hc hc'
    go_wp2_with fail
    go_region_held3 (fun W=>W.cell? ⟨b,off+k*8,none⟩=some (.int .i64 (mlAt l k).e.t)∧W.cell? ⟨b,off+k*8+1,none⟩=some (.int .i64 (mlAt l k).e.s)∧W.cell? ⟨b,off+k*8+2,none⟩=some (.int .i64 (mlAt l k).e.q)∧W.cell? ⟨b,off+k*8+3,none⟩=some (.int .i64 (mlAt l k).e.d)∧W.cell? ⟨b,off+k*8+4,none⟩=some (.int .i64 (mlAt l k).e.k)∧W.cell? ⟨b,off+k*8+5,none⟩=some (.int .i64 (mlAt l k).e.v)∧W.cell? ⟨b,off+k*8+6,none⟩=some (.int .i64 (mlAt l k).e.g)∧W.cell? ⟨b,off+k*8+7,none⟩=some (.bool (mlAt l k).a)∧W.cell? ⟨b',off'+k*8,none⟩=some (.int .i64 (mlAt l k).e.t)∧W.cell? ⟨b',off'+k*8+1,none⟩=some (.int .i64 (mlAt l k).e.s)∧W.cell? ⟨b',off'+k*8+2,none⟩=some (.int .i64 (mlAt l k).e.q)∧W.cell? ⟨b',off'+k*8+3,none⟩=some (.int .i64 (mlAt l k).e.d)∧W.cell? ⟨b',off'+k*8+4,none⟩=some (.int .i64 (mlAt l k).e.k)∧W.cell? ⟨b',off'+k*8+5,none⟩=some (.int .i64 (mlAt l k).e.v)∧W.cell? ⟨b',off'+k*8+6,none⟩=some (.int .i64 (mlAt l k).e.g)∧W.cell? ⟨b',off'+k*8+7,none⟩=some (.bool (mlAt l k).a)) ((repeat' apply And.intro)<;>first|(go_keep;done)|(rw [hcA _ _ (by first|omega|(simp;omega)|simp [*])];simp [*];done))
     (first|(go_at_call 125;refine(yn5 _ _ _ _ _ _ _ _ _).mono ?_;rintro e w2 ⟨rfl,hb2⟩;obtain⟨hcA,hfA⟩:=yf1 hb2))
    clear hcA hfA
    go_wp2
    go_roundw
    case rel=>exact⟨k+1,by omega,by go_num,HB.out.drew.trans (hb2.mono (by have:=HB.out.size;simpa using this))⟩
    case measure=>simp [intOf];omega
   ·clear hB hc hc'
    go_wp2
    go_ret
    exact⟨rfl,HB.out⟩
theorem eq_mails (x y:Value) (l:List Ml) (w:World) (hl:l.length≤1048576) (hx:IsD w x (ydz l)) (hy:IsD w y (ydz l)):
  Calls Tryz.prog 67 #[x,y] w fun e w'=>e= .returned (.bool true)∧Below w.heap.size w w':=
 ysy x y l w hl hx.isMl hy.isMl
structure Kn where
 m:Md
 d:List Int
 p:List Pa
 b:List Ml
 t:Int
 q:Int
 f:Bool
 s:List Ev
 x:List Em
def Kn.wt (k:Kn):Nat:=(yax k.d).wt+(ycz k.p).wt+(ydz k.b).wt+(evsD k.s).wt+(emsD k.x).wt
def yau (k:Kn):Prop:=SmallM k.m∧k.wt≤1048576
def IsKern (w:World) (x:Value) (k:Kn):Prop:=∃vi vh vs u6 u7 u8 u12 u13,x= .agg #[.int .i64 k.m.n,.int .i64 k.m.s,vi,vh,vs,.int .i64 k.m.z,u6,u7,u8,.int .i64 k.t,.int .i64 k.q,.bool k.f,u12,u13]∧IsM w (.agg #[.int .i64 k.m.n,.int .i64 k.m.s,vi,vh,vs,.int .i64 k.m.z]) k.m∧IsD w u6 (yax k.d)∧IsD w u7 (ycz k.p)∧IsD w u8 (ydz k.b)∧IsD w u12 (evsD k.s)∧IsD w u13 (emsD k.x)
theorem IsKern.under {w w':World} {x:Value} {k:Kn} (h:IsKern w x k) (hb:Below w.heap.size w w'):IsKern w' x k:=by
 obtain⟨vi,vh,vs,u6,u7,u8,u12,u13,rfl,hm,h6,h7,h8,h12,h13⟩:=h
 exact⟨vi,vh,vs,u6,u7,u8,u12,u13,rfl,hm.below hb,h6.under hb,h7.under hb,h8.under hb,h12.under hb,h13.under hb⟩
set_option maxHeartbeats 4000000
open Go.RowKit
theorem yc1 {p:Prop} (h:p):Hid p:=h
theorem yi2 (x:Value) (m:Md) (left:Int) (w:World) (hl0:0≤left) (hl1:left≤1048576) (h:IsM w x m):
  Calls Tryz.prog 38 #[x,.int .i64 left] w fun e w'=>(∃r,e= .returned (.int .i64 r)∧(r= -1∨(0≤r∧r≤left∧SmallM m)))∧Below w.heap.size w w':=by
 obtain⟨vi,vh,vs,rfl,h1,h2,h3⟩:=h
 obtain⟨n,s,i,hh,ev,z⟩:=m
 have HH:Hid (IsH w vh hh):=h2
 obtain⟨a1,c1,rfl,hi1,hi2,_⟩:=h1
 obtain⟨a3,c3,rfl,he1,he2,_⟩:=h3
 have HI:Hid (i.length≤maxLen):=Nat.le_trans hi1 hi2
 have HE:Hid (ev.length≤maxLen):=Nat.le_trans he1 he2
 clear h2 hi1 hi2 he1 he2
 obtain⟨W0,hW0⟩:∃W0,w.alloc (.cells #[.int .i64 n,.int .i64 s,.slice a1 i.length c1,vh,.slice a3 ev.length c3,.int .i64 z] 26)=W0:=⟨_,rfl⟩
 have HB0:=hdq (beA hW0)
 have HP0:=bkA hW0
 have p2:=HP0.cell (i:=2) rfl
 have p3:=HP0.cell (i:=3) rfl
 have p4:=HP0.cell (i:=4) rfl
 clear HP0
 have go:∀q:Int,q=szN i.length left→q= -1∨(0≤q∧q≤left∧i.length≤1048576):=by
  intro q hq
  unfold szN at hq
  split at hq<;>omega
 go_enter Tryz.func38,Tryz.ntmps38
 go_wp2_with fail
 refine(yqr _ _ _ _ _ HI.out (by omega) (by omega)).mono ?_
 rintro e w' ⟨rfl,hw⟩
 have hw':=hw.symm
 clear hw
 subst hw'
 clear hW0
 generalize hq:szN i.length left=q
 rcases go q hq.symm with rfl|⟨q0,q1,q2⟩
 ·clear go hq
  go_wp2
  go_ret
  exact⟨⟨_,rfl,.inl rfl⟩,HB0.out⟩
 ·have HQ:Hid (i.length≤1048576):=q2
  have q3:¬(q<0):=by omega
  clear go hq q2
  go_wp2_with fail
  refine(szH_any _ hh _ _ (HH.out.below HB0.out) q0 (by omega)).mono ?_
  rintro e w' ⟨⟨r,rfl,hr⟩,hw⟩
  have hw':=hw.symm
  clear hw
  subst hw'
  rcases hr with rfl|⟨r0,r1,r2,r3,r4⟩
  ·go_wp2
   go_ret
   exact⟨⟨_,rfl,.inl rfl⟩,HB0.out⟩
  ·have r5:¬(r<0):=by omega
   have r6:r≤1048576:=by omega
   have HR6:Hid (r≤left):=(by omega:r≤left)
   have HR:Hid ((hh.length:Int)≤1048576∧(∀i,(hAt hh i).length≤1048576)∧sumL (lens hh) hh.length≤1048576):=⟨r2,r3,r4⟩
   clear r1 r2 r3 r4
   go_wp2_with fail
   refine(yqs _ _ _ _ _ HE.out r0 r6).mono ?_
   rintro e w' ⟨rfl,hw⟩
   have hw':=hw.symm
   clear hw
   subst hw'
   generalize hq:szN ev.length r=t
   have ht:t= -1∨(0≤t∧t≤left∧ev.length≤1048576):=by
    have hr6:=HR6.out
    unfold szN at hq
    split at hq<;>omega
   clear hq
   rcases ht with rfl|⟨t0,t9,t1⟩
   ·go_wp2
    go_ret
    exact⟨⟨_,rfl,.inl rfl⟩,HB0.out⟩
   ·have t2:¬(t<0):=by omega
    go_wp2
    go_ret
    exact⟨⟨_,rfl,.inr ⟨t0,t9,HQ.out,by have:=HR.out.1;show hh.length≤1048576;omega,HR.out.2.1,HR.out.2.2,t1⟩⟩,HB0.out⟩
set_option maxRecDepth 100000 in
theorem ykv (x:Value) (k:Kn) (left:Int) (w:World) (hl0:0≤left) (hl1:left≤1048576) (h:IsKern w x k):
  Calls Tryz.prog 18 #[x,.int .i64 left] w fun e w'=>(∃r,e= .returned (.int .i64 r)∧(r= -1∨(0≤r∧r≤left∧yau k)))∧Below w.heap.size w w':=by
 obtain⟨vi,vh,vs,u6,u7,u8,u12,u13,rfl,hm,h6,h7,h8,h12,h13⟩:=h
 have HM:=yc1 hm
 have H6:=yc1 h6
 have H7:=yc1 h7
 have H8:=yc1 h8
 have H12:=yc1 h12
 have H13:=yc1 h13
 clear hm h6 h7 h8 h12 h13
 obtain⟨W0,hW0⟩:∃W0,w.alloc (.cells #[.int .i64 k.m.n,.int .i64 k.m.s,vi,vh,vs,.int .i64 k.m.z,u6,u7,u8,.int .i64 k.t,.int .i64 k.q,.bool k.f,u12,u13] 50)=W0:=⟨_,rfl⟩
 have HB0:=hdq (beA hW0)
 have HP0:=hdq (bkA hW0)
 have HW:=yc1 hW0
 clear hW0
 go_enter Tryz.func18,Tryz.ntmps18
 obtain⟨p0,p1,p2,p3,p4,p5⟩:=ytc HP0.out
 go_wp2_with fail
 rw [HW.out]
 clear HW p0 p1 p2 p3 p4 p5
 refine(yi2 _ k.m left _ hl0 hl1 (HM.out.below HB0.out)).mono ?_
 rintro e w1 ⟨⟨r1,rfl,hr⟩,hb⟩
 have HB1:=yc1 (trm HB0.out hb)
 have HP1:=yc1 (HP0.out.below hb)
 clear hb
 rcases hr with rfl|⟨r10,r11,hsm⟩
 ·go_wp2
  go_ret
  exact⟨⟨_,rfl,.inl rfl⟩,HB1.out⟩
 have HSM:Hid (SmallM k.m):=hsm
 have HE1:Hid (r1≤left):=r11
 have r119:r1≤1048576:=by omega
 clear r11
 have r11:=r119
 clear r119
 have r12:¬(r1<0):=by omega
 clear hsm
 have p6:=HP1.out.cell (i:=6) rfl
 go_wp2_with fail
 clear p6
 refine(yjo _ k.d _ _ r10 r11 (H6.out.under HB1.out)).mono ?_
 rintro e w2 ⟨⟨r2,rfl,hr⟩,hb⟩
 have HB2:=yc1 (trm HB1.out hb)
 have HP2:=yc1 (HP1.out.below hb)
 clear hb
 rcases hr with rfl|⟨r20,hr⟩
 ·go_wp2
  go_ret
  exact⟨⟨_,rfl,.inl rfl⟩,HB2.out⟩
 have r21:r2≤1048576:=by omega
 have r22:¬(r2<0):=by omega
 have HE2:=yc1 hr
 clear hr r12
 have p7:=HP2.out.cell (i:=7) rfl
 go_wp2_with fail
 clear p7
 refine(sz_parts _ k.p _ _ r20 r21 (H7.out.under HB2.out)).mono ?_
 rintro e w3 ⟨⟨r3,rfl,hr⟩,hb⟩
 have HB3:=yc1 (trm HB2.out hb)
 have HP3:=yc1 (HP2.out.below hb)
 clear hb
 rcases hr with rfl|⟨r30,hr⟩
 ·go_wp2
  go_ret
  exact⟨⟨_,rfl,.inl rfl⟩,HB3.out⟩
 have r31:r3≤1048576:=by omega
 have r32:¬(r3<0):=by omega
 have HE3:=yc1 hr
 clear hr r22
 have p8:=HP3.out.cell (i:=8) rfl
 go_wp2_with fail
 clear p8
 refine(sz_mails _ k.b _ _ r30 r31 (H8.out.under HB3.out)).mono ?_
 rintro e w4 ⟨⟨r4,rfl,hr⟩,hb⟩
 have HB4:=yc1 (trm HB3.out hb)
 have HP4:=yc1 (HP3.out.below hb)
 clear hb
 rcases hr with rfl|⟨r40,hr⟩
 ·go_wp2
  go_ret
  exact⟨⟨_,rfl,.inl rfl⟩,HB4.out⟩
 have r41:r4≤1048576:=by omega
 have r42:¬(r4<0):=by omega
 have HE4:=yc1 hr
 clear hr r32
 have p12:=HP4.out.cell (i:=12) rfl
 go_wp2_with fail
 clear p12
 refine(yqq _ k.s _ _ r40 r41 (H12.out.under HB4.out)).mono ?_
 rintro e w5 ⟨⟨r5,rfl,hr⟩,hb⟩
 have HB5:=yc1 (trm HB4.out hb)
 have HP5:=yc1 (HP4.out.below hb)
 clear hb
 rcases hr with rfl|⟨r50,hr⟩
 ·go_wp2
  go_ret
  exact⟨⟨_,rfl,.inl rfl⟩,HB5.out⟩
 have r51:r5≤1048576:=by omega
 have r52:¬(r5<0):=by omega
 have HE5:=yc1 hr
 clear hr r42
 have p13:=HP5.out.cell (i:=13) rfl
 go_wp2_with fail
 clear p13
 refine(sz_ems _ k.x _ _ r50 r51 (H13.out.under HB5.out)).mono ?_
 rintro e w6 ⟨⟨r6,rfl,hr⟩,hb⟩
 have HB6:=yc1 (trm HB5.out hb)
 have HP6:=yc1 (HP5.out.below hb)
 clear hb
 rcases hr with rfl|⟨r60,hr⟩
 ·go_wp2
  go_ret
  exact⟨⟨_,rfl,.inl rfl⟩,HB6.out⟩
 have r61:r6≤1048576:=by omega
 have r62:¬(r6<0):=by omega
 have HE6:=yc1 hr
 clear hr r52
 go_wp2
 go_ret
 have e1:=HE1.out
 have e2:=HE2.out
 have e3:=HE3.out
 have e4:=HE4.out
 have e5:=HE5.out
 have e6:=HE6.out
 refine⟨⟨_,rfl,.inr ⟨r60,by omega,HSM.out,?_⟩⟩,HB6.out⟩
 unfold Kn.wt
 omega
set_option maxHeartbeats 4000000
open Go.RowKit
theorem yc6 {p:Prop} (h:p):Hid p:=h
def kn0:Kn:=⟨⟨0,0,[],[],[],0⟩,[],[],[],0,0,false,[],[]⟩
def knAt (l:List Kn) (i:Nat):Kn:=l.getD i kn0
def vAt (l:List (List Int)) (i:Nat):List Int:=l.getD i []
def yhw (l:List (List Int)):Nat→Dat:=fun j=>yax (vAt l j)
def yef (l:List (List Int)):Dat:= .row 1 l.length (yhw l)
structure Wd where
 m:Md
 k:List Kn
 c:List (List Int)
def KAt (w:World) (b off:Nat) (k:Kn):Prop:=∃vi vh vs u6 u7 u8 u12 u13,(w.cell? ⟨b,off,none⟩=some (.int .i64 k.m.n)∧w.cell? ⟨b,off+1,none⟩=some (.int .i64 k.m.s)∧w.cell? ⟨b,off+2,none⟩=some (vi)∧w.cell? ⟨b,off+3,none⟩=some (vh)∧w.cell? ⟨b,off+4,none⟩=some (vs)∧w.cell? ⟨b,off+5,none⟩=some (.int .i64 k.m.z)∧w.cell? ⟨b,off+6,none⟩=some (u6)∧w.cell? ⟨b,off+7,none⟩=some (u7)∧w.cell? ⟨b,off+8,none⟩=some (u8)∧w.cell? ⟨b,off+9,none⟩=some (.int .i64 k.t)∧w.cell? ⟨b,off+10,none⟩=some (.int .i64 k.q)∧w.cell? ⟨b,off+11,none⟩=some (.bool k.f)∧w.cell? ⟨b,off+12,none⟩=some (u12)∧w.cell? ⟨b,off+13,none⟩=some (u13))∧IsKern w (.agg #[.int .i64 k.m.n,.int .i64 k.m.s,vi,vh,vs,.int .i64 k.m.z,u6,u7,u8,.int .i64 k.t,.int .i64 k.q,.bool k.f,u12,u13]) k
theorem KAt.under {w w':World} {b off:Nat} {k:Kn} (h:KAt w b off k) (hlt:b<w.heap.size) (hb:Below w.heap.size w w'):KAt w' b off k:=by
 obtain⟨vi,vh,vs,u6,u7,u8,u12,u13,⟨f0,f1,f2,f3,f4,f5,f6,f7,f8,f9,f10,f11,f12,f13⟩,hk⟩:=h
 exact⟨vi,vh,vs,u6,u7,u8,u12,u13,⟨(hb.cell (p:=⟨b,_,none⟩) hlt).trans f0,(hb.cell (p:=⟨b,_,none⟩) hlt).trans f1,(hb.cell (p:=⟨b,_,none⟩) hlt).trans f2,(hb.cell (p:=⟨b,_,none⟩) hlt).trans f3,(hb.cell (p:=⟨b,_,none⟩) hlt).trans f4,(hb.cell (p:=⟨b,_,none⟩) hlt).trans f5,(hb.cell (p:=⟨b,_,none⟩) hlt).trans f6,(hb.cell (p:=⟨b,_,none⟩) hlt).trans f7,(hb.cell (p:=⟨b,_,none⟩) hlt).trans f8,(hb.cell (p:=⟨b,_,none⟩) hlt).trans f9,(hb.cell (p:=⟨b,_,none⟩) hlt).trans f10,(hb.cell (p:=⟨b,_,none⟩) hlt).trans f11,(hb.cell (p:=⟨b,_,none⟩) hlt).trans f12,(hb.cell (p:=⟨b,_,none⟩) hlt).trans f13⟩,hk.under hb⟩
def IsKs (w:World) (x:Value) (l:List Kn):Prop:=∃a cap,x= .slice a l.length cap∧l.length≤cap∧cap≤maxLen∧(l.length=0∨ ∃b off,a=some ⟨b,off,none⟩∧b<w.heap.size∧ ∀i,i<l.length→KAt w b (off+i*14) (knAt l i))
theorem IsKs.under {w w':World} {x:Value} {l:List Kn} (h:IsKs w x l) (hb:Below w.heap.size w w'):IsKs w' x l:=by
 obtain⟨a,cap,rfl,h1,h2,h⟩:=h
 refine⟨a,cap,rfl,h1,h2,h.imp id ?_⟩
 rintro ⟨b,off,rfl,hlt,hk⟩
 exact⟨b,off,rfl,Nat.lt_of_lt_of_le hlt hb.size,fun i hi=>(hk i hi).under hlt hb⟩
def IsW (w:World) (x:Value) (v:Wd):Prop:=∃vi vh vs uk uc,x= .agg #[.int .i64 v.m.n,.int .i64 v.m.s,vi,vh,vs,.int .i64 v.m.z,uk,uc]∧IsM w (.agg #[.int .i64 v.m.n,.int .i64 v.m.s,vi,vh,vs,.int .i64 v.m.z]) v.m∧IsKs w uk v.k∧IsD w uc (yef v.c)
theorem IsW.under {w w':World} {x:Value} {v:Wd} (h:IsW w x v) (hb:Below w.heap.size w w'):IsW w' x v:=by
 obtain⟨vi,vh,vs,uk,uc,rfl,h1,h2,h3⟩:=h
 exact⟨vi,vh,vs,uk,uc,rfl,h1.below hb,h2.under hb,h3.under hb⟩
def ydb (l:List Kn):Prop:=l.length≤1048576∧ ∀i,i<l.length→yau (knAt l i)
def ycb (v:Wd):Prop:=SmallM v.m∧ydb v.k∧(yef v.c).wt≤1048576
theorem ydx (l:List (List Int)):(yef l).wt=l.length+sumL (fun i=>(yax (vAt l i)).wt) l.length:=by
 show l.length+sumL (fun j=>(yhw l j).wt) (l.length*1)=_
 rw [Nat.mul_one]
 rfl
theorem yni {l:List (List Int)} {i:Nat} (h:i<l.length):(vAt l i).length≤(yef l).wt:=by
 rw [ydx]
 have:=yjp (fun i=>(yax (vAt l i)).wt) h
 have h2:(yax (vAt l i)).wt=(vAt l i).length:=yam _
 omega
theorem yp6 (x:Value) (l:List Kn) (left:Int) (w:World) (h0:0≤left) (h1:left≤1048576) (h:IsKs w x l):
  Calls Tryz.prog 39 #[x,.int .i64 left] w fun e w'=>(∃r,e= .returned (.int .i64 r)∧(r= -1∨(0≤r∧r≤left∧ydb l)))∧Below w.heap.size w w':=by
 obtain⟨a,cap,rfl,hn1,hn,h⟩:=h
 have hn2:l.length≤9223372036854775807:=by unfold maxLen at hn;omega
 clear hn1 hn
 by_cases hp:left-(l.length:Int)<0
 ·go_enter Tryz.func39,Tryz.ntmps39
  go_wp2
  go_ret
  exact⟨⟨_,rfl,.inl rfl⟩,Below.refl _ _⟩
 ·have HLF:Hid (0≤left-(l.length:Int)):=(by omega:0≤left-(l.length:Int))
  go_enter Tryz.func39,Tryz.ntmps39
  go_wp2
  go_loopw [5,1] (fun i z wr=>∃k:Nat,k≤l.length∧i= .int .i64 k∧Below w.heap.size w wr∧ ∃lf:Int,z= .int .i64 lf∧0≤lf∧lf≤left∧ ∀j,j<k→yau (knAt l j)) (fun i _ _=>l.length-(intOf i).toNat)
  case atStart=>exact⟨0,Nat.zero_le _,rfl,Below.refl _ _,left-(l.length:Int),rfl,HLF.out,by omega,fun j hj=>by omega⟩
  case round=>
   obtain⟨k,hk,rfl,hB,lf2,rfl,hz0,hz1,hz3⟩:=hrel
   have HZ:Hid (lf2≤left∧ ∀j,j<k→yau (knAt l j)):=⟨hz1,hz3⟩
   have HB:=yc6 hB
   have hz2:lf2≤1048576:=by omega
   clear hz1 hz3
   by_cases hlt:k<l.length
   ·obtain⟨b,off,rfl,hb,hc⟩:=h.resolve_left (by omega)
    obtain⟨vi,vh,vs,u6,u7,u8,u12,u13,⟨f0,f1,f2,f3,f4,f5,f6,f7,f8,f9,f10,f11,f12,f13⟩,hD⟩:=(hc k hlt).under hb hB
    have HD:=yc6 hD
    clear h hc hB hD
    go_wp2_with fail
    clear f0 f1 f2 f3 f4 f5 f6 f7 f8 f9 f10 f11 f12 f13
    refine(ykv _ (knAt l k) _ _ hz0 hz2 HD.out).mono ?_
    rintro e w2 ⟨⟨r,rfl,hr⟩,hb2⟩
    have HB2:=yc6 (trm HB.out hb2)
    clear hb2
    rcases hr with rfl|⟨r0,hr,hsk⟩
    ·go_wp2
     go_ret
     exact⟨⟨_,rfl,.inl rfl⟩,HB2.out⟩
    ·have HR:Hid (r≤lf2∧yau (knAt l k)):=⟨hr,hsk⟩
     have r2:¬(r<0):=by omega
     clear hr hsk
     go_wp2
     go_roundw
     case rel=>
      refine⟨k+1,by omega,by go_num,HB2.out,r,rfl,r0,by have:=HR.out.1;have:=HZ.out.1;omega,fun j hj=> ?_⟩
      by_cases hjk:j<k
      ·exact HZ.out.2 j hjk
      ·obtain rfl:j=k:=by omega
       exact HR.out.2
     case measure=>simp [intOf];omega
   ·clear h hB
    go_wp2
    go_ret
    obtain rfl:k=l.length:=by omega
    exact⟨⟨_,rfl,.inr ⟨hz0,HZ.out.1,by omega,HZ.out.2⟩⟩,HB.out⟩
theorem sz_vecs (x:Value) (l:List (List Int)) (left:Int) (w:World) (h0:0≤left) (h1:left≤1048576) (h:IsD w x (yef l)):
  Calls Tryz.prog 40 #[x,.int .i64 left] w fun e w'=>(∃r,e= .returned (.int .i64 r)∧SzR (yef l).wt left r)∧Below w.heap.size w w':=by
 obtain⟨a,cap,rfl,hn1,hn,h⟩:=IsD.parts (c:=1) (n:=l.length) h
 have hn2:l.length≤9223372036854775807:=by unfold maxLen at hn;omega
 clear hn1 hn
 by_cases hp:left-(l.length:Int)<0
 ·go_enter Tryz.func40,Tryz.ntmps40
  go_wp2
  go_ret
  exact⟨⟨_,rfl,.inl rfl⟩,Below.refl _ _⟩
 ·have HLF:Hid (0≤left-(l.length:Int)):=(by omega:0≤left-(l.length:Int))
  go_enter Tryz.func40,Tryz.ntmps40
  go_wp2
  go_loopw [5,1] (fun i z wr=>∃k:Nat,k≤l.length∧i= .int .i64 k∧Below w.heap.size w wr∧ ∃lf:Int,z= .int .i64 lf∧0≤lf∧lf+(l.length:Int)+(sumL (fun i=>(yax (vAt l i)).wt) k:Int)=left) (fun i _ _=>l.length-(intOf i).toNat)
  case atStart=>exact⟨0,Nat.zero_le _,rfl,Below.refl _ _,left-(l.length:Int),rfl,HLF.out,by simp [sumL]⟩
  case round=>
   obtain⟨k,hk,rfl,hB,lf2,rfl,hz0,hz1⟩:=hrel
   have HZ:=yc6 hz1
   have HB:=yc6 hB
   have hz2:lf2≤1048576:=by omega
   clear hz1
   by_cases hlt:k<l.length
   ·obtain⟨b,off,rfl,hb,hc⟩:=h.resolve_left (by omega)
    obtain⟨u,hu,hd⟩:=hc k (by omega)
    have f0:=(hB.cell (p:=⟨b,off+k,none⟩) hb).trans hu
    have HD:=yc6 (hd.under hB)
    clear h hc hB hd hu
    go_wp2_with fail
    clear f0
    refine(yjo _ (vAt l k) _ _ hz0 hz2 HD.out).mono ?_
    rintro e w2 ⟨⟨r,rfl,hr⟩,hb2⟩
    have HB2:=yc6 (trm HB.out hb2)
    clear hb2
    rcases hr with rfl|⟨r0,hr⟩
    ·go_wp2
     go_ret
     exact⟨⟨_,rfl,.inl rfl⟩,HB2.out⟩
    ·have HR:=yc6 hr
     have r2:¬(r<0):=by omega
     clear hr
     go_wp2
     go_roundw
     case rel=>exact⟨k+1,by omega,by go_num,HB2.out,r,rfl,r0,by have:=HR.out;have:=HZ.out;simp only [sumL];omega⟩
     case measure=>simp [intOf];omega
   ·clear h hB
    go_wp2
    go_ret
    obtain rfl:k=l.length:=by omega
    exact⟨⟨_,rfl,.inr ⟨hz0,by rw [ydx];have:=HZ.out;omega⟩⟩,HB.out⟩
set_option maxRecDepth 100000 in
theorem ym8 (x:Value) (v:Wd) (w:World) (h:IsW w x v):
  Calls Tryz.prog 9 #[x,.int .i64 1048576] w fun e w'=>(∃r,e= .returned (.int .i64 r)∧(r= -1∨(0≤r∧ycb v)))∧Below w.heap.size w w':=by
 obtain⟨vi,vh,vs,uk,uc,rfl,hm,hk,hc⟩:=h
 have HM:=yc6 hm
 have HK:Hid (IsKs w uk v.k):=hk
 have HC:=yc6 hc
 clear hm hk hc
 obtain⟨W0,hW0⟩:∃W0,w.alloc (.cells #[.int .i64 v.m.n,.int .i64 v.m.s,vi,vh,vs,.int .i64 v.m.z,uk,uc] 30)=W0:=⟨_,rfl⟩
 have HB0:=hdq (beA hW0)
 have HP0:=hdq (bkA hW0)
 have HW:=yc6 hW0
 clear hW0
 go_enter Tryz.func9,Tryz.ntmps9
 obtain⟨p0,p1,p2,p3,p4,p5⟩:=c6_8 HP0.out
 go_wp2_with fail
 rw [HW.out]
 clear HW p0 p1 p2 p3 p4 p5
 refine(yi2 _ v.m _ _ (by omega) (by omega) (HM.out.below HB0.out)).mono ?_
 rintro e w1 ⟨⟨r1,rfl,hr⟩,hb⟩
 have HB1:=yc6 (trm HB0.out hb)
 have HP1:=yc6 (HP0.out.below hb)
 clear hb
 rcases hr with rfl|⟨r10,r11,hsm⟩
 ·go_wp2
  go_ret
  exact⟨⟨_,rfl,.inl rfl⟩,HB1.out⟩
 have HSM:Hid (SmallM v.m):=hsm
 have r12:¬(r1<0):=by omega
 clear hsm
 have p6:=HP1.out.cell (i:=6) rfl
 go_wp2_with fail
 clear p6
 refine(yp6 _ v.k _ _ r10 r11 (HK.out.under HB1.out)).mono ?_
 rintro e w2 ⟨⟨r2,rfl,hr⟩,hb⟩
 have HB2:=yc6 (trm HB1.out hb)
 have HP2:=yc6 (HP1.out.below hb)
 clear hb
 rcases hr with rfl|⟨r20,r21,hsk⟩
 ·go_wp2
  go_ret
  exact⟨⟨_,rfl,.inl rfl⟩,HB2.out⟩
 have HSK:Hid (ydb v.k):=hsk
 have r22:¬(r2<0):=by omega
 have r23:r2≤1048576:=by omega
 clear hsk
 have p7:=HP2.out.cell (i:=7) rfl
 go_wp2_with fail
 clear p7
 refine(sz_vecs _ v.c _ _ r20 r23 (HC.out.under HB2.out)).mono ?_
 rintro e w3 ⟨⟨r3,rfl,hr⟩,hb⟩
 have HB3:=yc6 (trm HB2.out hb)
 clear hb
 rcases hr with rfl|⟨r30,hr⟩
 ·go_wp2
  go_ret
  exact⟨⟨_,rfl,.inl rfl⟩,HB3.out⟩
 have HE:=yc6 hr
 have r32:¬(r3<0):=by omega
 clear hr
 go_wp2
 go_ret
 exact⟨⟨_,rfl,.inr ⟨r30,HSM.out,HSK.out,by have:=HE.out;omega⟩⟩,HB3.out⟩
set_option maxHeartbeats 4000000
set_option maxRecDepth 100000
open Go.RowKit
theorem yo4 {p:Prop} (h:p):Hid p:=h
def inB (x:Int):Bool:=decide (0≤x∧x≤999)
def St.ok (s:St):Bool:=decide (s.r.length=2∧(0≤intAt s.r 0∧intAt s.r 0≤999)∧(0≤intAt s.r 1∧intAt s.r 1≤999)∧0≤s.q∧s.q≤99992∧0≤s.d∧s.d≤99992)
theorem sStOk (x:Value) (s:St) (w:World) (h:IsS w x s):
  Calls Tryz.prog 186 #[x] w fun e w'=>e= .returned (.bool s.ok)∧Below w.heap.size w w':=by
 obtain⟨vr,rfl,ai,ci,rfl,hi1,hi2,hi3⟩:=h
 clear hi1 hi2
 obtain⟨W0,hW0⟩:∃W0,w.alloc (.cells #[.slice ai s.r.length ci,.int .i64 s.q,.int .i64 s.d] 94)=W0:=⟨_,rfl⟩
 have HB0:=hdq (beA hW0)
 have HP0:=bkA hW0
 obtain⟨p0,p1,p2⟩:=c3_3 HP0
 clear HP0
 by_cases c0:s.r.length=2
 case neg=>
  have c1:¬((s.r.length:Int)=2):=by omega
  clear hi3
  go_enter Tryz.func186,Tryz.ntmps186
  go_wp2
  go_ret
  exact⟨ya0 (by simp [St.ok,c0]),HB0.out⟩
 obtain⟨b,off,rfl,hb,hc⟩:=hi3.resolve_left (by intro e;rw [e]at c0;simp at c0)
 have f0:W0.cell? ⟨b,off,none⟩=some (.int .i64 (intAt s.r 0)):=(HB0.out.cell (p:=⟨b,off,none⟩) hb).trans (hc 0 (by omega))
 have f1:W0.cell? ⟨b,off+1,none⟩=some (.int .i64 (intAt s.r 1)):=(HB0.out.cell (p:=⟨b,off+1,none⟩) hb).trans (hc 1 (by omega))
 have hok:s.ok=decide ((0≤intAt s.r 0∧intAt s.r 0≤999)∧(0≤intAt s.r 1∧intAt s.r 1≤999)∧0≤s.q∧s.q≤99992∧0≤s.d∧s.d≤99992):=by simp [St.ok,c0]
 have HOK:=yo4 hok
 rw [c0]at hW0 p0⊢
 generalize s.ok=okv at HOK⊢
 generalize intAt s.r 0=y at f0 HOK
 generalize intAt s.r 1=z at f1 HOK
 generalize s.q=q at hW0 p1 HOK⊢
 generalize s.d=d at hW0 p2 HOK⊢
 clear hc hb hok c0
 go_enter Tryz.func186,Tryz.ntmps186
 go_wp2
 all_goals
  go_ret
  refine⟨?_,HB0.out⟩
  rw [HOK.out]
  first|exact ya0 (decide_eq_decide.2 (by omega))|exact ya0 (decide_eq_false (by omega)).symm|exact ya0 (by simp;omega)
theorem iStOk (x:Value) (s:St) (w:World) (h:IsS w x s):
  Calls Tryz.prog 194 #[x] w fun e w'=>e= .returned (.bool s.ok)∧Below w.heap.size w w':=by
 obtain⟨vr,rfl,ai,ci,rfl,hi1,hi2,hi3⟩:=h
 clear hi1 hi2
 obtain⟨W0,hW0⟩:∃W0,w.alloc (.cells #[.slice ai s.r.length ci,.int .i64 s.q,.int .i64 s.d] 94)=W0:=⟨_,rfl⟩
 have HB0:=hdq (beA hW0)
 have HP0:=bkA hW0
 obtain⟨p0,p1,p2⟩:=c3_3 HP0
 clear HP0
 by_cases c0:s.r.length=2
 case neg=>
  have c1:¬((s.r.length:Int)=2):=by omega
  clear hi3
  go_enter Tryz.func194,Tryz.ntmps194
  go_wp2
  go_ret
  exact⟨ya0 (by simp [St.ok,c0]),HB0.out⟩
 obtain⟨b,off,rfl,hb,hc⟩:=hi3.resolve_left (by intro e;rw [e]at c0;simp at c0)
 have HC:Hid (∀k,k<2→W0.cell? ⟨b,off+k,none⟩=some (.int .i64 (intAt s.r k))):=fun k hk=>(HB0.out.cell (p:=⟨b,off+k,none⟩) hb).trans (hc k (by omega))
 have HOK:Hid (s.ok=decide ((0≤intAt s.r 0∧intAt s.r 0≤999)∧(0≤intAt s.r 1∧intAt s.r 1≤999)∧0≤s.q∧s.q≤99992∧0≤s.d∧s.d≤99992)):=(by simp [St.ok,c0]:s.ok=_)
 have HNO:Hid (∀k,k<2→inB (intAt s.r k)=false→s.ok=false):=(by
  intro k hk h
  unfold inB at h
  have hd:=of_decide_eq_false h
  simp only [St.ok,decide_eq_false_iff_not]
  intro hh
  match k,hk with
  |0,_=>exact hd hh.2.1
  |1,_=>exact hd hh.2.2.1:∀k,k<2→inB (intAt s.r k)=false→s.ok=false)
 have HYES:Hid ((∀j,j<2→inB (intAt s.r j)=true)→s.ok=((decide (0≤s.q)&&decide (s.q≤99992))&&(decide (0≤s.d)&&decide (s.d≤99992)))):=(by
  intro h
  have h0:=of_decide_eq_true (h 0 (by omega))
  have h1:=of_decide_eq_true (h 1 (by omega))
  simp [St.ok,c0,h0,h1,Bool.decide_and,Bool.and_assoc]:_)
 rw [c0]at hW0 p0⊢
 generalize s.ok=okv at HOK HNO HYES⊢
 generalize s.q=q at hW0 p1 HOK HYES⊢
 generalize s.d=d at hW0 p2 HOK HYES⊢
 clear hc hb c0 HOK
 go_enter Tryz.func194,Tryz.ntmps194
 go_wp2
 clear hW0
 go_loop [12] (fun i=>∃k:Nat,k≤2∧i= .int .i64 k∧ ∀j,j<k→inB (intAt s.r j)=true) (fun i=>2-(intOf i).toNat)
 case atStart=>exact⟨0,Nat.zero_le _,rfl,fun j hj=>by omega⟩
 case round=>
  obtain⟨k,hk,rfl,hall⟩:=hrel
  have HA:=yo4 hall
  clear hall
  by_cases hlt:k<2
  ·have f0:=HC.out k hlt
   obtain⟨y,hy⟩:∃y,y=intAt s.r k:=⟨_,rfl⟩
   have HY:Hid (y=intAt s.r k):=hy
   rw [←hy]at f0
   have hkn:(k:Int)<2:=by omega
   clear hy
   go_wp2_with fail
   refine(ya9 _ _ _ _).mono ?_
   rintro e w2 ⟨rfl,hw⟩
   have hw':=hw.symm
   clear hw
   subst hw'
   by_cases y0:0≤y∧y≤999
   ·rw [show(decide (0≤y)&&decide (y≤999))=true from by simp [y0]]
    have HN:Hid (inB y=true):=decide_eq_true y0
    clear y0
    go_wp2
    go_round
    case rel=>exact⟨k+1,by omega,by go_num,fun j hj=>by
     by_cases e:j<k
     ·exact HA.out j e
     ·rw [show j=k by omega,←HY.out];exact HN.out⟩
    case measure=>simp [intOf];omega
   ·rw [show(decide (0≤y)&&decide (y≤999))=false from by simp;omega]
    have hno:okv=false:=HNO.out k hlt (by rw [←HY.out];exact decide_eq_false y0)
    subst hno
    clear y0
    go_wp2
    go_ret
    exact⟨rfl,HB0.out⟩
  ·have hyes:=HYES.out (fun j hj=>HA.out j (by omega))
   subst hyes
   have hkn:¬(k:Int)<2:=by omega
   go_wp2_with fail
   refine(ya9 _ _ _ _).mono ?_
   rintro e w2 ⟨rfl,hw⟩
   have hw':=hw.symm
   clear hw
   subst hw'
   cases hq:(decide (0≤q)&&decide (q≤99992))with
   |false=>
    have HQ:=yo4 hq
    clear hq
    go_wp2
    go_ret
    exact⟨ya0 (by rw [HQ.out];rfl),HB0.out⟩
   |true=>
    have HQ:=yo4 hq
    clear hq
    go_wp2_with fail
    refine(ya9 _ _ _ _).mono ?_
    rintro e w2 ⟨rfl,hw⟩
    have hw':=hw.symm
    clear hw
    subst hw'
    go_wp2
    go_ret
    exact⟨ya0 (by rw [HQ.out];rfl),HB0.out⟩
end Go.Proofs.YtmobiieoecjmdaaGreat

