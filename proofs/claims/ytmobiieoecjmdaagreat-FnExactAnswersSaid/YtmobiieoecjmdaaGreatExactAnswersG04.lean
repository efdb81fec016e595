/- TPtA, TPp, KMl, KKr, WDat, SOk -/
import Derived.Test.YtmobiieoecjmdaaGreatExactAnswersG03
namespace Go.Proofs.YtmobiieoecjmdaaGreat
set_option maxHeartbeats 4000000
open Go.RowKit
theorem ybw {p:Prop} (h:p):Hid p:=h
theorem yr2 (x:Value) (p:Pa) (left:Int) (w:World) (h0:0≤left) (h1:left≤1048576) (h:IsPart w x p):
  Calls Tryz.prog 97 #[x,.int .i64 left] w fun e w'=>(∃r,e= .returned (.int .i64 r)∧SzR p.wt left r)∧Below w.heap.size w w':=by
 obtain⟨u1,u4,u5,u6,rfl,h1,h4,h5,h6⟩:=h
 have H1:=ybw h1
 have H4:=ybw h4
 have H5:=ybw h5
 have H6:=ybw h6
 clear h1 h4 h5 h6
 obtain⟨W0,hW0⟩:∃W0,w.alloc (.cells #[.int .i64 p.n,u1,.int .i64 p.st.q,.int .i64 p.st.d,u4,u5,u6] 144)=W0:=⟨_,rfl⟩
 have HB0:=hdq (beA hW0)
 have HP0:=hdq (bkA hW0)
 have HW:=ybw hW0
 clear hW0
 go_enter Tryz.func97,Tryz.ntmps97
 have p1:=HP0.out.cell (i:=1) rfl
 have p2:=HP0.out.cell (i:=2) rfl
 have p3:=HP0.out.cell (i:=3) rfl
 go_wp2_with fail
 rw [HW.out]
 clear HW
 clear p1 p2 p3
 refine(ymi _ p.st _ _ h0 h1 ⟨_,rfl,(H1.out.under HB0.out).isI⟩).mono ?_
 rintro e w1 ⟨⟨r1,rfl,hr⟩,hb⟩
 have HB1:=trh HB0 hb
 have HP1:=ybw (HP0.out.below hb)
 clear hb
 rcases hr with rfl|⟨r10,hr⟩
 ·go_wp2
  go_ret
  exact⟨⟨_,rfl,.inl rfl⟩,HB1.out⟩
 have r11:r1≤1048576:=by omega
 have r12:¬(r1<0):=by omega
 have HR1:=ybw hr
 clear hr
 have p4:=HP1.out.cell (i:=4) rfl
 go_wp2_with fail
 clear p4
 refine(sz_pasts _ p.p _ _ r10 r11 (H4.out.under HB1.out)).mono ?_
 rintro e w2 ⟨⟨r2,rfl,hr⟩,hb⟩
 have HB2:=trh HB1 hb
 have HP2:=ybw (HP1.out.below hb)
 clear hb
 rcases hr with rfl|⟨r20,hr⟩
 ·go_wp2
  go_ret
  exact⟨⟨_,rfl,.inl rfl⟩,HB2.out⟩
 have r21:r2≤1048576:=by omega
 have r22:¬(r2<0):=by omega
 have HR2:=ybw hr
 clear hr
 have p5:=HP2.out.cell (i:=5) rfl
 go_wp2_with fail
 clear p5
 refine(ypj _ p.t _ _ r20 r21 (H5.out.under HB2.out)).mono ?_
 rintro e w3 ⟨⟨r3,rfl,hr⟩,hb⟩
 have HB3:=trh HB2 hb
 have HP3:=ybw (HP2.out.below hb)
 clear hb
 rcases hr with rfl|⟨r30,hr⟩
 ·go_wp2
  go_ret
  exact⟨⟨_,rfl,.inl rfl⟩,HB3.out⟩
 have r31:r3≤1048576:=by omega
 have r32:¬(r3<0):=by omega
 have HR3:=ybw hr
 clear hr
 have p6:=HP3.out.cell (i:=6) rfl
 go_wp2_with fail
 clear p6
 refine(yj9 _ p.a _ _ r30 r31 (H6.out.under HB3.out)).mono ?_
 rintro e w4 ⟨⟨r4,rfl,hr⟩,hb⟩
 have HB4:=trh HB3 hb
 have HP4:=ybw (HP3.out.below hb)
 clear hb
 rcases hr with rfl|⟨r40,hr⟩
 ·go_wp2
  go_ret
  exact⟨⟨_,rfl,.inl rfl⟩,HB4.out⟩
 have r41:r4≤1048576:=by omega
 have r42:¬(r4<0):=by omega
 have HR4:=ybw hr
 clear hr
 go_wp2
 go_ret
 refine⟨⟨_,rfl,.inr ⟨r40,?_⟩⟩,HB4.out⟩
 have:=HR1.out
 have:=HR2.out
 have:=HR3.out
 have:=HR4.out
 unfold Pa.wt
 omega
theorem yp1 (x y:Value) (p:Pa) (w:World) (hw:p.wt≤1048576) (hx:IsPart w x p) (hy:IsPart w y p):
  Calls Tryz.prog 124 #[x,y] w fun e w'=>e= .returned (.bool true)∧Below w.heap.size w w':=by
 obtain⟨u1,u4,u5,u6,rfl,h1,h4,h5,h6⟩:=hx
 obtain⟨v1,v4,v5,v6,rfl,k1,k4,k5,k6⟩:=hy
 have H1:Hid (IsD w u1 (yaq p.st.r)∧IsD w v1 (yaq p.st.r)):=⟨h1,k1⟩
 have H4:Hid (IsD w u4 (yay p.p)∧IsD w v4 (yay p.p)):=⟨h4,k4⟩
 have H5:Hid (IsD w u5 (evsD p.t)∧IsD w v5 (evsD p.t)):=⟨h5,k5⟩
 have H6:Hid (IsD w u6 (yaq p.a)∧IsD w v6 (yaq p.a)):=⟨h6,k6⟩
 have HS:Hid (p.wt≤1048576):=hw
 clear hw h1 k1 h4 k4 h5 k5 h6 k6
 obtain⟨W0,hW0⟩:∃W0,(w.alloc (.cells #[.int .i64 p.n,u1,.int .i64 p.st.q,.int .i64 p.st.d,u4,u5,u6] 97)).alloc (.cells #[.int .i64 p.n,v1,.int .i64 p.st.q,.int .i64 p.st.d,v4,v5,v6] 97)=W0:=⟨_,rfl⟩
 have HB0:=hdq (beA2 hW0)
 have HP0:=hdq (bkA2 hW0)
 have HQ0:=hdq (bkB2 hW0)
 have HW:=ybw hW0
 clear hW0
 go_enter Tryz.func124,Tryz.ntmps124
 have p0:=HP0.out.cell (i:=0) rfl
 have q0:=HQ0.out.cell (i:=0) rfl
 have p1:=HP0.out.cell (i:=1) rfl
 have q1:=HQ0.out.cell (i:=1) rfl
 have p2:=HP0.out.cell (i:=2) rfl
 have q2:=HQ0.out.cell (i:=2) rfl
 have p3:=HP0.out.cell (i:=3) rfl
 have q3:=HQ0.out.cell (i:=3) rfl
 go_wp2_with fail
 rw [HW.out]
 clear HW
 clear p0 q0 p1 q1 p2 q2 p3 q3
 refine(yim _ _ p.st _ (by have:=HS.out;unfold Pa.wt at this;simp only [yb2,yal]at this;omega) ⟨_,rfl,(H1.out.1.under HB0.out).isI⟩ ⟨_,rfl,(H1.out.2.under HB0.out).isI⟩).mono ?_
 rintro e w1 ⟨rfl,hb⟩
 have HB1:=trh HB0 hb
 have HP1:=ybw (HP0.out.below hb)
 have HQ1:=ybw (HQ0.out.below hb)
 clear hb
 have p4:=HP1.out.cell (i:=4) rfl
 have q4:=HQ1.out.cell (i:=4) rfl
 go_wp2_with fail
 clear p4 q4
 refine(eq_pasts _ _ p.p _ (by have:=HS.out;unfold Pa.wt at this;simp only [yb2,yal]at this;omega) (H4.out.1.under HB1.out) (H4.out.2.under HB1.out)).mono ?_
 rintro e w2 ⟨rfl,hb⟩
 have HB2:=trh HB1 hb
 have HP2:=ybw (HP1.out.below hb)
 have HQ2:=ybw (HQ1.out.below hb)
 clear hb
 have p5:=HP2.out.cell (i:=5) rfl
 have q5:=HQ2.out.cell (i:=5) rfl
 go_wp2_with fail
 clear p5 q5
 refine(yv5 _ _ p.t _ (by have:=HS.out;unfold Pa.wt at this;simp only [yb2,yal]at this;omega) (H5.out.1.under HB2.out) (H5.out.2.under HB2.out)).mono ?_
 rintro e w3 ⟨rfl,hb⟩
 have HB3:=trh HB2 hb
 have HP3:=ybw (HP2.out.below hb)
 have HQ3:=ybw (HQ2.out.below hb)
 clear hb
 have p6:=HP3.out.cell (i:=6) rfl
 have q6:=HQ3.out.cell (i:=6) rfl
 go_wp2_with fail
 clear p6 q6
 refine(ylt _ _ p.a _ (by have:=HS.out;unfold Pa.wt at this;simp only [yb2,yal]at this;omega) (H6.out.1.under HB3.out) (H6.out.2.under HB3.out)).mono ?_
 rintro e w4 ⟨rfl,hb⟩
 have HB4:=trh HB3 hb
 have HP4:=ybw (HP3.out.below hb)
 have HQ4:=ybw (HQ3.out.below hb)
 clear hb
 go_wp2
 go_ret
 exact⟨rfl,HB4.out⟩
end Go.Proofs.YtmobiieoecjmdaaGreat

namespace Go.Proofs.YtmobiieoecjmdaaGreat
open Go.RowKit
theorem yus {p:Prop} (h:p):Hid p:=h
set_option maxHeartbeats 4000000 in
theorem sz_parts (x:Value) (l:List Pa) (left:Int) (w:World) (h0:0≤left) (h1:left≤1048576) (h:IsD w x (yb8 l)):
  Calls Tryz.prog 54 #[x,.int .i64 left] w fun e w'=>(∃r,e= .returned (.int .i64 r)∧SzR (yb8 l).wt left r)∧Below w.heap.size w w':=by
 obtain⟨a,cap,rfl,hn1,hn,h⟩:=IsD.parts (c:=7) (n:=l.length) h
 have hn2:l.length≤9223372036854775807:=by unfold maxLen at hn;omega
 clear hn1 hn
 by_cases hp:left-(l.length:Int)<0
 ·go_enter Tryz.func54,Tryz.ntmps54
  go_wp2
  go_ret
  exact⟨⟨_,rfl,.inl rfl⟩,Below.refl _ _⟩
 ·have HLF:Hid (0≤left-(l.length:Int)):=(by omega:0≤left-(l.length:Int))
  go_enter Tryz.func54,Tryz.ntmps54
  go_wp2
  go_loopw [5,1] (fun i z wr=>∃k:Nat,k≤l.length∧i= .int .i64 k∧Below w.heap.size w wr∧ ∃lf:Int,z= .int .i64 lf∧0≤lf∧lf+(l.length:Int)+(sumL (fun i=>(paAt l i).wt) k:Int)=left) (fun i _ _=>l.length-(intOf i).toNat)
  case atStart=>exact⟨0,Nat.zero_le _,rfl,Below.refl _ _,left-(l.length:Int),rfl,HLF.out,by simp [sumL]⟩
  case round=>
   obtain⟨k,hk,rfl,hB,lf2,rfl,hz0,hz1⟩:=hrel
   have HZ:=yus hz1
   have HB:=yus hB
   have hz2:lf2≤1048576:=by omega
   clear hz1
   by_cases hlt:k<l.length
   ·obtain⟨b,off,rfl,hb,hc⟩:=h.resolve_left (by omega)
    obtain⟨u1,u4,u5,u6,f0,f1,f2,f3,f4,f5,f6,d1,d4,d5,d6⟩:=yg0 (fun j hj=>by
     obtain⟨u,hu,hd⟩:=hc j hj
     exact⟨u,(hB.cell (p:=⟨b,off+j,none⟩) hb).trans hu,hd.under hB⟩) hlt
    have HD:Hid (IsPart wr (.agg #[.int .i64 (paAt l k).n,u1,.int .i64 (paAt l k).st.q,.int .i64 (paAt l k).st.d,u4,u5,u6]) (paAt l k)):=⟨u1,u4,u5,u6,rfl,d1,d4,d5,d6⟩
    clear h hc hB d1 d4 d5 d6
    go_wp2_with fail
    clear f0 f1 f2 f3 f4 f5 f6
    refine(yr2 _ (paAt l k) _ _ hz0 hz2 HD.out).mono ?_
    rintro e w2 ⟨⟨r,rfl,hr⟩,hb2⟩
    have HB2:=trh HB hb2
    clear hb2
    rcases hr with rfl|⟨r0,hr⟩
    ·go_wp2
     go_ret
     exact⟨⟨_,rfl,.inl rfl⟩,HB2.out⟩
    ·have HR:=yus hr
     have r2:¬(r<0):=by omega
     clear hr
     go_wp2
     go_roundw
     case rel=>exact⟨k+1,by omega,by go_num,HB2.out,r,rfl,r0,by have:=HR.out;have:=HZ.out;simp only [sumL];omega⟩
     case measure=>simp [intOf];omega
   ·clear h hB
    go_wp2
    go_ret
    obtain rfl:k=l.length:=by omega
    exact⟨⟨_,rfl,.inr ⟨hz0,by rw [yed];have:=HZ.out;omega⟩⟩,HB.out⟩
set_option maxHeartbeats 1000000
open Go.RowKit
theorem hidKMl {p:Prop} (h:p):Hid p:=h
structure Ml where
 e:Ev
 a:Bool
def mlAt (l:List Ml) (i:Nat):Ml:=l.getD i ⟨⟨0,0,0,0,0,0,0⟩,false⟩
def Ml.cs (m:Ml):List Value:= [.int .i64 m.e.t,.int .i64 m.e.s,.int .i64 m.e.q,.int .i64 m.e.d,.int .i64 m.e.k,.int .i64 m.e.v,.int .i64 m.e.g,.bool m.a]
def ych:List Ml→List Value
 | []=> []
 |e::l=>e.cs++ych l
theorem yk8 (e:Ml) (l:List Ml) (i:Nat):mlAt (e::l) (i+1)=mlAt l i:=by simp [mlAt]
theorem ybm:∀(l:List Ml) (i r:Nat),i<l.length→r<8→(ych l)[i*8+r]? =(mlAt l i).cs[r]?
 | [],_,_,h,_=>by simp at h
 |e::l,0,r,_,hr=>by
  have:r<e.cs.length:=by simpa [Ml.cs] using hr
  simp only [ych,Nat.zero_mul,Nat.zero_add]
  rw [List.getElem?_append_left this]
  simp [mlAt]
 |e::l,i+1,r,h,hr=>by
  have h1:=ybm l i r (by simpa using h) hr
  have:e.cs.length≤(i+1)*8+r:=by simp [Ml.cs];omega
  simp only [ych]
  rw [List.getElem?_append_right this,yk8,←h1]
  congr 1
  simp [Ml.cs];omega
structure MlAt (w:World) (b o:Nat) (m:Ml):Prop where
 f0:w.cell? ⟨b,o,none⟩=some (.int .i64 m.e.t)
 f1:w.cell? ⟨b,o+1,none⟩=some (.int .i64 m.e.s)
 f2:w.cell? ⟨b,o+2,none⟩=some (.int .i64 m.e.q)
 f3:w.cell? ⟨b,o+3,none⟩=some (.int .i64 m.e.d)
 f4:w.cell? ⟨b,o+4,none⟩=some (.int .i64 m.e.k)
 f5:w.cell? ⟨b,o+5,none⟩=some (.int .i64 m.e.v)
 f6:w.cell? ⟨b,o+6,none⟩=some (.int .i64 m.e.g)
 f7:w.cell? ⟨b,o+7,none⟩=some (.bool m.a)
theorem MlAt.below {w w':World} {B b o:Nat} {m:Ml} (h:MlAt w b o m) (hb:Below B w w') (hlt:b<B):MlAt w' b o m:=
 ⟨(hb.cell hlt).trans h.f0,(hb.cell hlt).trans h.f1,(hb.cell hlt).trans h.f2,(hb.cell hlt).trans h.f3,(hb.cell hlt).trans h.f4,(hb.cell hlt).trans h.f5,(hb.cell hlt).trans h.f6,(hb.cell hlt).trans h.f7⟩
def MlsAt (w:World) (b off:Nat) (l:List Ml):Prop:=b<w.heap.size∧ ∀i,i<l.length→MlAt w b (off+i*8) (mlAt l i)
def IsMl (w:World) (x:Value) (l:List Ml):Prop:=∃a cap,x= .slice a l.length cap∧l.length≤cap∧cap≤maxLen∧(l= []∨ ∃b off,a=some ⟨b,off,none⟩∧MlsAt w b off l)
def ybh (l:List Ml):Dat:=flat 8 l.length (ych l)
theorem IsMl.isD {w:World} {x:Value} {l:List Ml} (h:IsMl w x l):IsD w x (ybh l):=by
 obtain⟨a,cap,rfl,h1,h2,h⟩:=h
 refine IsD.of_parts h1 h2 (h.imp (fun e=>by rw [e];rfl) ?_)
 rintro ⟨b,off,rfl,hb,hc⟩
 refine⟨b,off,rfl,hb,fun j hj=> ?_⟩
 have hi:j/8<l.length:=by omega
 have hr:j%8<8:=by omega
 have hE:=hc (j/8) hi
 have hg:=ybm l (j/8) (j%8) hi hr
 rw [show j/8*8+j%8=j from by omega]at hg
 have hall:∀r,r<8→ ∃u,w.cell? ⟨b,off+j/8*8+r,none⟩=some u∧(mlAt l (j/8)).cs[r]? =some u:=fun r hr=>by
  match r,hr with
  |0,_=>exact⟨_,hE.f0,rfl⟩
  |1,_=>exact⟨_,hE.f1,rfl⟩
  |2,_=>exact⟨_,hE.f2,rfl⟩
  |3,_=>exact⟨_,hE.f3,rfl⟩
  |4,_=>exact⟨_,hE.f4,rfl⟩
  |5,_=>exact⟨_,hE.f5,rfl⟩
  |6,_=>exact⟨_,hE.f6,rfl⟩
  |7,_=>exact⟨_,hE.f7,rfl⟩
 obtain⟨u,h3,h4⟩:=hall _ hr
 refine⟨u,by rw [←h3];congr 2;omega,?_⟩
 rw [show(ych l).getD j (.int .i64 0)=u from yba (hg.trans h4)]
 exact .val _
theorem IsD.isMl {w:World} {x:Value} {l:List Ml} (h:IsD w x (ybh l)):IsMl w x l:=by
 obtain⟨a,cap,rfl,h1,h2,h⟩:=IsD.parts (c:=8) (n:=l.length) h
 refine⟨a,cap,rfl,h1,h2,h.imp List.eq_nil_of_length_eq_zero ?_⟩
 rintro ⟨b,off,rfl,hb,hc⟩
 refine⟨b,off,rfl,hb,fun i hi=> ?_⟩
 have hget:∀r,r<8→w.cell? ⟨b,off+i*8+r,none⟩=(mlAt l i).cs[r]? :=fun r hr=>by
  obtain⟨u,hu,hd⟩:=hc (i*8+r) (by omega)
  rw [Nat.add_assoc,hu,hd.val_eq]
  have hg:=ybm l i r hi hr
  have:r<(mlAt l i).cs.length:=by simpa [Ml.cs] using hr
  rw [List.getElem?_eq_getElem this]at hg⊢
  rw [yba hg]
 exact⟨hget 0 (by omega),hget 1 (by omega),hget 2 (by omega),hget 3 (by omega),hget 4 (by omega),hget 5 (by omega),hget 6 (by omega),hget 7 (by omega)⟩
theorem yci (l:List Ml):(ybh l).wt=l.length:=yjw _ _ _
theorem yrw (l:List Ml):(ybh l).thin:=yg7 (by omega)
theorem szMl_any (a:Option Addr) (n cap:Nat) (left:Int) (w:World) (hn:n≤maxLen) (h0:0≤left) (h1:left≤1048576):
  Calls Tryz.prog 55 #[.slice a n cap,.int .i64 left] w fun e w'=>e= .returned (.int .i64 (szN n left))∧w'=w:=by
 unfold maxLen at hn
 by_cases hp:left-(n:Int)<0
 ·go_enter Tryz.func55,Tryz.ntmps55
  go_wp2
  go_ret
  exact⟨yau (by unfold szN;rw [if_pos hp]),rfl⟩
 ·go_enter Tryz.func55,Tryz.ntmps55
  go_wp2
  go_ret
  exact⟨yau (by unfold szN;rw [if_neg (by omega)]),rfl⟩
theorem sz_mails (x:Value) (l:List Ml) (left:Int) (w:World) (h0:0≤left) (h1:left≤1048576) (h:IsD w x (ybh l)):
  Calls Tryz.prog 55 #[x,.int .i64 left] w fun e w'=>(∃r,e= .returned (.int .i64 r)∧SzR (ybh l).wt left r)∧Below w.heap.size w w':=by
 obtain⟨a,cap,rfl,hn⟩:=IsD.len (c:=8) (n:=l.length) h
 refine(szMl_any a l.length cap left w hn h0 h1).mono ?_
 rintro e w' ⟨rfl,rfl⟩
 exact⟨⟨_,rfl,by rw [yci];exact yt1 _ _⟩,Below.refl _ _⟩
theorem yp2 (t s q d k v g:Int) (b:Bool) (w:World):
  Calls Tryz.prog 125 #[.agg #[.int .i64 t,.int .i64 s,.int .i64 q,.int .i64 d,.int .i64 k,.int .i64 v,.int .i64 g,.bool b],.agg #[.int .i64 t,.int .i64 s,.int .i64 q,.int .i64 d,.int .i64 k,.int .i64 v,.int .i64 g,.bool b]] w fun e w'=>e= .returned (.bool true)∧Below w.heap.size w w':=by
 obtain⟨W0,hW0⟩:∃V,(w.alloc (.cells #[.int .i64 t,.int .i64 s,.int .i64 q,.int .i64 d,.int .i64 k,.int .i64 v,.int .i64 g,.bool b] 148)).alloc (.cells #[.int .i64 t,.int .i64 s,.int .i64 q,.int .i64 d,.int .i64 k,.int .i64 v,.int .i64 g,.bool b] 148)=V:=⟨_,rfl⟩
 have hb0:=beA2 hW0
 have HB0:=hidKMl hb0
 have B1:=hdq (bkA2 hW0)
 have B2:=hdq (bkB2 hW0)
 clear hb0
 have x0:=B1.out.cell (i:=0) rfl
 have x1:=B1.out.cell (i:=1) rfl
 have x2:=B1.out.cell (i:=2) rfl
 have x3:=B1.out.cell (i:=3) rfl
 have x4:=B1.out.cell (i:=4) rfl
 have x5:=B1.out.cell (i:=5) rfl
 have x6:=B1.out.cell (i:=6) rfl
 have y0:=B2.out.cell (i:=0) rfl
 have y1:=B2.out.cell (i:=1) rfl
 have y2:=B2.out.cell (i:=2) rfl
 have y3:=B2.out.cell (i:=3) rfl
 have y4:=B2.out.cell (i:=4) rfl
 have y5:=B2.out.cell (i:=5) rfl
 have y6:=B2.out.cell (i:=6) rfl
 go_enter Tryz.func125,Tryz.ntmps125
 go_wp2_with fail
 clear hW0 x0 y0 x1 y1 x2 y2 x3 y3 x4 y4 x5 y5 x6 y6
 refine(yg9 _ _ _ _ _ _ _ _).mono ?_
 rintro r w1 ⟨rfl,hb⟩
 have x7:=(B1.out.below hb).cell (i:=7) rfl
 have y7:=(B2.out.below hb).cell (i:=7) rfl
 have HB1:=trh HB0 hb
 clear hb
 cases b<;>(go_wp2;go_ret;exact⟨rfl,HB1.out⟩)
theorem yv7 (x y:Value) (l:List Ml) (w:World) (hl:l.length≤1048576) (hx:IsMl w x l) (hy:IsMl w y l):
  Calls Tryz.prog 67 #[x,y] w fun e w'=>e= .returned (.bool true)∧Below w.heap.size w w':=by
 obtain⟨a,cap,rfl,h1,h2,h⟩:=hx
 obtain⟨a',cap',rfl,h1',h2',h'⟩:=hy
 clear h1 h2 h1' h2'
 by_cases hz:l= []
 ·subst hz
  clear h h'
  go_enter Tryz.func67,Tryz.ntmps67
  go_wp2
  go_loop [5] (fun i=>i= .int .i64 0) (fun _=>0)
  case atStart=>rfl
  case round=>
   subst hrel
   go_wp2
   go_ret
   exact⟨rfl,Below.refl _ _⟩
 ·obtain⟨b,off,rfl,hb,hc⟩:=h.resolve_left hz
  obtain⟨b',off',rfl,hb',hc'⟩:=h'.resolve_left hz
  clear h h' hz
  go_enter Tryz.func67,Tryz.ntmps67
  go_wp2
  go_loopw [5] (fun i wr=>∃k:Nat,k≤l.length∧i= .int .i64 k∧Below w.heap.size w wr) (fun i _=>l.length-(intOf i).toNat)
  case atStart=>exact⟨0,Nat.zero_le _,rfl,Below.refl _ _⟩
  case round=>
   obtain⟨k,hk,rfl,hB⟩:=hrel
   have HB:=hidKMl hB
   by_cases hlt:k<l.length
   ·obtain⟨f0,f1,f2,f3,f4,f5,f6,f7⟩:=(hc k hlt).below hB hb
    obtain⟨e0,e1,e2,e3,e4,e5,e6,e7⟩:=(hc' k hlt).below hB hb'
    have hbr:b<wr.heap.size:=Nat.lt_of_lt_of_le hb hB.size
    have hbr':b'<wr.heap.size:=Nat.lt_of_lt_of_le hb' hB.size
    clear hB hc hc'
    go_wp2_with fail
    go_region_held3 (fun W=>W.cell? ⟨b,off+k*8,none⟩=some (.int .i64 (mlAt l k).e.t)∧W.cell? ⟨b,off+k*8+1,none⟩=some (.int .i64 (mlAt l k).e.s)∧W.cell? ⟨b,off+k*8+2,none⟩=some (.int .i64 (mlAt l k).e.q)∧W.cell? ⟨b,off+k*8+3,none⟩=some (.int .i64 (mlAt l k).e.d)∧W.cell? ⟨b,off+k*8+4,none⟩=some (.int .i64 (mlAt l k).e.k)∧W.cell? ⟨b,off+k*8+5,none⟩=some (.int .i64 (mlAt l k).e.v)∧W.cell? ⟨b,off+k*8+6,none⟩=some (.int .i64 (mlAt l k).e.g)∧W.cell? ⟨b,off+k*8+7,none⟩=some (.bool (mlAt l k).a)∧W.cell? ⟨b',off'+k*8,none⟩=some (.int .i64 (mlAt l k).e.t)∧W.cell? ⟨b',off'+k*8+1,none⟩=some (.int .i64 (mlAt l k).e.s)∧W.cell? ⟨b',off'+k*8+2,none⟩=some (.int .i64 (mlAt l k).e.q)∧W.cell? ⟨b',off'+k*8+3,none⟩=some (.int .i64 (mlAt l k).e.d)∧W.cell? ⟨b',off'+k*8+4,none⟩=some (.int .i64 (mlAt l k).e.k)∧W.cell? ⟨b',off'+k*8+5,none⟩=some (.int .i64 (mlAt l k).e.v)∧W.cell? ⟨b',off'+k*8+6,none⟩=some (.int .i64 (mlAt l k).e.g)∧W.cell? ⟨b',off'+k*8+7,none⟩=some (.bool (mlAt l k).a)) ((repeat' apply And.intro)<;>first|(go_keep;done)|(rw [hcA _ _ (by first|omega|(simp;omega)|simp [*])];simp [*];done))
     (first|(go_at_call 125;refine(yp2 _ _ _ _ _ _ _ _ _).mono ?_;rintro e w2 ⟨rfl,hb2⟩;obtain⟨hcA,hfA⟩:=ygs hb2))
    clear hcA hfA
    go_wp2
    go_roundw
    case rel=>exact⟨k+1,by omega,by go_num,HB.out.drew.trans (hb2.mono (by have:=HB.out.size;simpa using this))⟩
    case measure=>simp [intOf];omega
   ·clear hB hc hc'
    go_wp2
    go_ret
    exact⟨rfl,HB.out⟩
theorem eq_mails (x y:Value) (l:List Ml) (w:World) (hl:l.length≤1048576) (hx:IsD w x (ybh l)) (hy:IsD w y (ybh l)):
  Calls Tryz.prog 67 #[x,y] w fun e w'=>e= .returned (.bool true)∧Below w.heap.size w w':=
 yv7 x y l w hl hx.isMl hy.isMl
structure Kn where
 m:Md
 d:List Int
 p:List Pa
 b:List Ml
 t:Int
 q:Int
 f:Bool
 s:List Ev
 x:List Em
def Kn.wt (k:Kn):Nat:=(yaq k.d).wt+(yb8 k.p).wt+(ybh k.b).wt+(evsD k.s).wt+(emsD k.x).wt
def ybt (k:Kn):Prop:=SmallM k.m∧k.wt≤1048576
def IsKern (w:World) (x:Value) (k:Kn):Prop:=∃vi vh vs u6 u7 u8 u12 u13,x= .agg #[.int .i64 k.m.n,.int .i64 k.m.s,vi,vh,vs,.int .i64 k.m.z,u6,u7,u8,.int .i64 k.t,.int .i64 k.q,.bool k.f,u12,u13]∧IsM w (.agg #[.int .i64 k.m.n,.int .i64 k.m.s,vi,vh,vs,.int .i64 k.m.z]) k.m∧IsD w u6 (yaq k.d)∧IsD w u7 (yb8 k.p)∧IsD w u8 (ybh k.b)∧IsD w u12 (evsD k.s)∧IsD w u13 (emsD k.x)
theorem yet {w:World} {xs:Array Value} {k:Kn} (_:IsKern w (.agg xs) k) (T:TypeId):∃W,w.alloc (.cells xs T)=W:=⟨_,rfl⟩
theorem yi2 {w:World} {xs:Array Value} {k:Kn} (_:IsKern w (.agg xs) k) (T:TypeId) (o:Obj):∃W,(w.alloc (.cells xs T)).alloc o=W:=⟨_,rfl⟩
theorem IsKern.under {w w':World} {x:Value} {k:Kn} (h:IsKern w x k) (hb:Below w.heap.size w w'):IsKern w' x k:=by
 obtain⟨vi,vh,vs,u6,u7,u8,u12,u13,rfl,hm,h6,h7,h8,h12,h13⟩:=h
 exact⟨vi,vh,vs,u6,u7,u8,u12,u13,rfl,hm.below hb,h6.under hb,h7.under hb,h8.under hb,h12.under hb,h13.under hb⟩
theorem ylo {p:Prop} (h:p):Hid p:=h
def kn0:Kn:=⟨⟨0,0,[],[],[],0⟩,[],[],[],0,0,false,[],[]⟩
def knAt (l:List Kn) (i:Nat):Kn:=l.getD i kn0
def vAt (l:List (List Int)) (i:Nat):List Int:=l.getD i []
def ycn (l:List (List Int)):Nat→Dat:=fun j=>yaq (vAt l j)
def ycd (l:List (List Int)):Dat:= .row 1 l.length (ycn l)
structure Wd where
 m:Md
 k:List Kn
 c:List (List Int)
def KAt (w:World) (b off:Nat) (k:Kn):Prop:=∃vi vh vs u6 u7 u8 u12 u13,(w.cell? ⟨b,off,none⟩=some (.int .i64 k.m.n)∧w.cell? ⟨b,off+1,none⟩=some (.int .i64 k.m.s)∧w.cell? ⟨b,off+2,none⟩=some (vi)∧w.cell? ⟨b,off+3,none⟩=some (vh)∧w.cell? ⟨b,off+4,none⟩=some (vs)∧w.cell? ⟨b,off+5,none⟩=some (.int .i64 k.m.z)∧w.cell? ⟨b,off+6,none⟩=some (u6)∧w.cell? ⟨b,off+7,none⟩=some (u7)∧w.cell? ⟨b,off+8,none⟩=some (u8)∧w.cell? ⟨b,off+9,none⟩=some (.int .i64 k.t)∧w.cell? ⟨b,off+10,none⟩=some (.int .i64 k.q)∧w.cell? ⟨b,off+11,none⟩=some (.bool k.f)∧w.cell? ⟨b,off+12,none⟩=some (u12)∧w.cell? ⟨b,off+13,none⟩=some (u13))∧IsKern w (.agg #[.int .i64 k.m.n,.int .i64 k.m.s,vi,vh,vs,.int .i64 k.m.z,u6,u7,u8,.int .i64 k.t,.int .i64 k.q,.bool k.f,u12,u13]) k
theorem KAt.under {w w':World} {b off:Nat} {k:Kn} (h:KAt w b off k) (hlt:b<w.heap.size) (hb:Below w.heap.size w w'):KAt w' b off k:=by
 obtain⟨vi,vh,vs,u6,u7,u8,u12,u13,⟨f0,f1,f2,f3,f4,f5,f6,f7,f8,f9,f10,f11,f12,f13⟩,hk⟩:=h
 exact⟨vi,vh,vs,u6,u7,u8,u12,u13,⟨(hb.cell (p:=⟨b,_,none⟩) hlt).trans f0,(hb.cell (p:=⟨b,_,none⟩) hlt).trans f1,(hb.cell (p:=⟨b,_,none⟩) hlt).trans f2,(hb.cell (p:=⟨b,_,none⟩) hlt).trans f3,(hb.cell (p:=⟨b,_,none⟩) hlt).trans f4,(hb.cell (p:=⟨b,_,none⟩) hlt).trans f5,(hb.cell (p:=⟨b,_,none⟩) hlt).trans f6,(hb.cell (p:=⟨b,_,none⟩) hlt).trans f7,(hb.cell (p:=⟨b,_,none⟩) hlt).trans f8,(hb.cell (p:=⟨b,_,none⟩) hlt).trans f9,(hb.cell (p:=⟨b,_,none⟩) hlt).trans f10,(hb.cell (p:=⟨b,_,none⟩) hlt).trans f11,(hb.cell (p:=⟨b,_,none⟩) hlt).trans f12,(hb.cell (p:=⟨b,_,none⟩) hlt).trans f13⟩,hk.under hb⟩
def IsKs (w:World) (x:Value) (l:List Kn):Prop:=∃a cap,x= .slice a l.length cap∧l.length≤cap∧cap≤maxLen∧(l.length=0∨ ∃b off,a=some ⟨b,off,none⟩∧b<w.heap.size∧ ∀i,i<l.length→KAt w b (off+i*14) (knAt l i))
theorem IsKs.under {w w':World} {x:Value} {l:List Kn} (h:IsKs w x l) (hb:Below w.heap.size w w'):IsKs w' x l:=by
 obtain⟨a,cap,rfl,h1,h2,h⟩:=h
 refine⟨a,cap,rfl,h1,h2,h.imp id ?_⟩
 rintro ⟨b,off,rfl,hlt,hk⟩
 exact⟨b,off,rfl,Nat.lt_of_lt_of_le hlt hb.size,fun i hi=>(hk i hi).under hlt hb⟩
def IsW (w:World) (x:Value) (v:Wd):Prop:=∃vi vh vs uk uc,x= .agg #[.int .i64 v.m.n,.int .i64 v.m.s,vi,vh,vs,.int .i64 v.m.z,uk,uc]∧IsM w (.agg #[.int .i64 v.m.n,.int .i64 v.m.s,vi,vh,vs,.int .i64 v.m.z]) v.m∧IsKs w uk v.k∧IsD w uc (ycd v.c)
theorem yvv {w:World} {xs:Array Value} {v:Wd} (_:IsW w (.agg xs) v) (T:TypeId):∃W,w.alloc (.cells xs T)=W:=⟨_,rfl⟩
theorem al2IsW {w:World} {xs:Array Value} {v:Wd} (_:IsW w (.agg xs) v) (T:TypeId) (o:Obj):∃W,(w.alloc (.cells xs T)).alloc o=W:=⟨_,rfl⟩
theorem IsW.under {w w':World} {x:Value} {v:Wd} (h:IsW w x v) (hb:Below w.heap.size w w'):IsW w' x v:=by
 obtain⟨vi,vh,vs,uk,uc,rfl,h1,h2,h3⟩:=h
 exact⟨vi,vh,vs,uk,uc,rfl,h1.below hb,h2.under hb,h3.under hb⟩
def yd3 (l:List Kn):Prop:=l.length≤1048576∧ ∀i,i<l.length→ybt (knAt l i)
def ycc (v:Wd):Prop:=SmallM v.m∧yd3 v.k∧(ycd v.c).wt≤1048576
theorem ydl (l:List (List Int)):(ycd l).wt=l.length+sumL (fun i=>(yaq (vAt l i)).wt) l.length:=by
 show l.length+sumL (fun j=>(ycn l j).wt) (l.length*1)=_
 rw [Nat.mul_one]
 rfl
theorem ym9 {l:List (List Int)} {i:Nat} (h:i<l.length):(vAt l i).length≤(ycd l).wt:=by
 rw [ydl]
 have:=yfd (fun i=>(yaq (vAt l i)).wt) h
 have h2:(yaq (vAt l i)).wt=(vAt l i).length:=yal _
 omega
set_option maxHeartbeats 4000000 in
theorem sz_vecs (x:Value) (l:List (List Int)) (left:Int) (w:World) (h0:0≤left) (h1:left≤1048576) (h:IsD w x (ycd l)):
  Calls Tryz.prog 40 #[x,.int .i64 left] w fun e w'=>(∃r,e= .returned (.int .i64 r)∧SzR (ycd l).wt left r)∧Below w.heap.size w w':=by
 obtain⟨a,cap,rfl,hn1,hn,h⟩:=IsD.parts (c:=1) (n:=l.length) h
 have hn2:l.length≤9223372036854775807:=by unfold maxLen at hn;omega
 clear hn1 hn
 by_cases hp:left-(l.length:Int)<0
 ·go_enter Tryz.func40,Tryz.ntmps40
  go_wp2
  go_ret
  exact⟨⟨_,rfl,.inl rfl⟩,Below.refl _ _⟩
 ·have HLF:Hid (0≤left-(l.length:Int)):=(by omega:0≤left-(l.length:Int))
  go_enter Tryz.func40,Tryz.ntmps40
  go_wp2
  go_loopw [5,1] (fun i z wr=>∃k:Nat,k≤l.length∧i= .int .i64 k∧Below w.heap.size w wr∧ ∃lf:Int,z= .int .i64 lf∧0≤lf∧lf+(l.length:Int)+(sumL (fun i=>(yaq (vAt l i)).wt) k:Int)=left) (fun i _ _=>l.length-(intOf i).toNat)
  case atStart=>exact⟨0,Nat.zero_le _,rfl,Below.refl _ _,left-(l.length:Int),rfl,HLF.out,by simp [sumL]⟩
  case round=>
   obtain⟨k,hk,rfl,hB,lf2,rfl,hz0,hz1⟩:=hrel
   have HZ:=ylo hz1
   have HB:=ylo hB
   have hz2:lf2≤1048576:=by omega
   clear hz1
   by_cases hlt:k<l.length
   ·obtain⟨b,off,rfl,hb,hc⟩:=h.resolve_left (by omega)
    obtain⟨u,hu,hd⟩:=hc k (by omega)
    have f0:=(hB.cell (p:=⟨b,off+k,none⟩) hb).trans hu
    have HD:=ylo (hd.under hB)
    clear h hc hB hd hu
    go_wp2_with fail
    clear f0
    refine(yj9 _ (vAt l k) _ _ hz0 hz2 HD.out).mono ?_
    rintro e w2 ⟨⟨r,rfl,hr⟩,hb2⟩
    have HB2:=trh HB hb2
    clear hb2
    rcases hr with rfl|⟨r0,hr⟩
    ·go_wp2
     go_ret
     exact⟨⟨_,rfl,.inl rfl⟩,HB2.out⟩
    ·have HR:=ylo hr
     have r2:¬(r<0):=by omega
     clear hr
     go_wp2
     go_roundw
     case rel=>exact⟨k+1,by omega,by go_num,HB2.out,r,rfl,r0,by have:=HR.out;have:=HZ.out;simp only [sumL];omega⟩
     case measure=>simp [intOf];omega
   ·clear h hB
    go_wp2
    go_ret
    obtain rfl:k=l.length:=by omega
    exact⟨⟨_,rfl,.inr ⟨hz0,by rw [ydl];have:=HZ.out;omega⟩⟩,HB.out⟩
set_option maxHeartbeats 4000000
set_option maxRecDepth 100000
open Go.RowKit
theorem ypz {p:Prop} (h:p):Hid p:=h
def inB (x:Int):Bool:=decide (0≤x∧x≤999)
def St.ok (s:St):Bool:=decide (s.r.length=2∧(0≤intAt s.r 0∧intAt s.r 0≤999)∧(0≤intAt s.r 1∧intAt s.r 1≤999)∧0≤s.q∧s.q≤99992∧0≤s.d∧s.d≤99992)
theorem sStOk (x:Value) (s:St) (w:World) (h:IsS w x s):
  Calls Tryz.prog 186 #[x] w fun e w'=>e= .returned (.bool s.ok)∧Below w.heap.size w w':=by
 obtain⟨vr,rfl,ai,ci,rfl,hi1,hi2,hi3⟩:=h
 clear hi1 hi2
 obtain⟨W0,hW0⟩:∃W0,w.alloc (.cells #[.slice ai s.r.length ci,.int .i64 s.q,.int .i64 s.d] 94)=W0:=⟨_,rfl⟩
 have HB0:=hdq (beA hW0)
 have HP0:=bkA hW0
 obtain⟨p0,p1,p2⟩:=c3_3 HP0
 clear HP0
 by_cases c0:s.r.length=2
 case neg=>
  have c1:¬((s.r.length:Int)=2):=by omega
  clear hi3
  go_enter Tryz.func186,Tryz.ntmps186
  go_wp2
  go_ret
  exact⟨ya0 (by simp [St.ok,c0]),HB0.out⟩
 obtain⟨b,off,rfl,hb,hc⟩:=hi3.resolve_left (by intro e;rw [e]at c0;simp at c0)
 have f0:W0.cell? ⟨b,off,none⟩=some (.int .i64 (intAt s.r 0)):=(HB0.out.cell (p:=⟨b,off,none⟩) hb).trans (hc 0 (by omega))
 have f1:W0.cell? ⟨b,off+1,none⟩=some (.int .i64 (intAt s.r 1)):=(HB0.out.cell (p:=⟨b,off+1,none⟩) hb).trans (hc 1 (by omega))
 have hok:s.ok=decide ((0≤intAt s.r 0∧intAt s.r 0≤999)∧(0≤intAt s.r 1∧intAt s.r 1≤999)∧0≤s.q∧s.q≤99992∧0≤s.d∧s.d≤99992):=by simp [St.ok,c0]
 have HOK:=ypz hok
 rw [c0]at hW0 p0⊢
 generalize s.ok=okv at HOK⊢
 generalize intAt s.r 0=y at f0 HOK
 generalize intAt s.r 1=z at f1 HOK
 generalize s.q=q at hW0 p1 HOK⊢
 generalize s.d=d at hW0 p2 HOK⊢
 clear hc hb hok c0
 go_enter Tryz.func186,Tryz.ntmps186
 go_wp2
 all_goals
  go_ret
  refine⟨?_,HB0.out⟩
  rw [HOK.out]
  first|exact ya0 (decide_eq_decide.2 (by omega))|exact ya0 (decide_eq_false (by omega)).symm|exact ya0 (by simp;omega)
theorem iStOk (x:Value) (s:St) (w:World) (h:IsS w x s):
  Calls Tryz.prog 194 #[x] w fun e w'=>e= .returned (.bool s.ok)∧Below w.heap.size w w':=by
 obtain⟨vr,rfl,ai,ci,rfl,hi1,hi2,hi3⟩:=h
 clear hi1 hi2
 obtain⟨W0,hW0⟩:∃W0,w.alloc (.cells #[.slice ai s.r.length ci,.int .i64 s.q,.int .i64 s.d] 94)=W0:=⟨_,rfl⟩
 have HB0:=hdq (beA hW0)
 have HP0:=bkA hW0
 obtain⟨p0,p1,p2⟩:=c3_3 HP0
 clear HP0
 by_cases c0:s.r.length=2
 case neg=>
  have c1:¬((s.r.length:Int)=2):=by omega
  clear hi3
  go_enter Tryz.func194,Tryz.ntmps194
  go_wp2
  go_ret
  exact⟨ya0 (by simp [St.ok,c0]),HB0.out⟩
 obtain⟨b,off,rfl,hb,hc⟩:=hi3.resolve_left (by intro e;rw [e]at c0;simp at c0)
 have HC:Hid (∀k,k<2→W0.cell? ⟨b,off+k,none⟩=some (.int .i64 (intAt s.r k))):=fun k hk=>(HB0.out.cell (p:=⟨b,off+k,none⟩) hb).trans (hc k (by omega))
 have HOK:Hid (s.ok=decide ((0≤intAt s.r 0∧intAt s.r 0≤999)∧(0≤intAt s.r 1∧intAt s.r 1≤999)∧0≤s.q∧s.q≤99992∧0≤s.d∧s.d≤99992)):=(by simp [St.ok,c0]:s.ok=_)
 have HNO:Hid (∀k,k<2→inB (intAt s.r k)=false→s.ok=false):=(by
  intro k hk h
  unfold inB at h
  have hd:=of_decide_eq_false h
  simp only [St.ok,decide_eq_false_iff_not]
  intro hh
  match k,hk with
  |0,_=>exact hd hh.2.1
  |1,_=>exact hd hh.2.2.1:∀k,k<2→inB (intAt s.r k)=false→s.ok=false)
 have HYES:Hid ((∀j,j<2→inB (intAt s.r j)=true)→s.ok=((decide (0≤s.q)&&decide (s.q≤99992))&&(decide (0≤s.d)&&decide (s.d≤99992)))):=(by
  intro h
  have h0:=of_decide_eq_true (h 0 (by omega))
  have h1:=of_decide_eq_true (h 1 (by omega))
  simp [St.ok,c0,h0,h1,Bool.decide_and,Bool.and_assoc]:_)
 rw [c0]at hW0 p0⊢
 generalize s.ok=okv at HOK HNO HYES⊢
 generalize s.q=q at hW0 p1 HOK HYES⊢
 generalize s.d=d at hW0 p2 HOK HYES⊢
 clear hc hb c0 HOK
 go_enter Tryz.func194,Tryz.ntmps194
 go_wp2
 clear hW0
 go_loop [12] (fun i=>∃k:Nat,k≤2∧i= .int .i64 k∧ ∀j,j<k→inB (intAt s.r j)=true) (fun i=>2-(intOf i).toNat)
 case atStart=>exact⟨0,Nat.zero_le _,rfl,fun j hj=>by omega⟩
 case round=>
  obtain⟨k,hk,rfl,hall⟩:=hrel
  have HA:=ypz hall
  clear hall
  by_cases hlt:k<2
  ·have f0:=HC.out k hlt
   obtain⟨y,hy⟩:∃y,y=intAt s.r k:=⟨_,rfl⟩
   have HY:Hid (y=intAt s.r k):=hy
   rw [←hy]at f0
   have hkn:(k:Int)<2:=by omega
   clear hy
   go_wp2_with fail
   refine(yad _ _ _ _).mono ?_
   rintro e w2 ⟨rfl,hw⟩
   have hw':=hw.symm
   clear hw
   subst hw'
   by_cases y0:0≤y∧y≤999
   ·rw [show(decide (0≤y)&&decide (y≤999))=true from by simp [y0]]
    have HN:Hid (inB y=true):=decide_eq_true y0
    clear y0
    go_wp2
    go_round
    case rel=>exact⟨k+1,by omega,by go_num,fun j hj=>by
     by_cases e:j<k
     ·exact HA.out j e
     ·rw [show j=k by omega,←HY.out];exact HN.out⟩
    case measure=>simp [intOf];omega
   ·rw [show(decide (0≤y)&&decide (y≤999))=false from by simp;omega]
    have hno:okv=false:=HNO.out k hlt (by rw [←HY.out];exact decide_eq_false y0)
    subst hno
    clear y0
    go_wp2
    go_ret
    exact⟨rfl,HB0.out⟩
  ·have hyes:=HYES.out (fun j hj=>HA.out j (by omega))
   subst hyes
   have hkn:¬(k:Int)<2:=by omega
   go_wp2_with fail
   refine(yad _ _ _ _).mono ?_
   rintro e w2 ⟨rfl,hw⟩
   have hw':=hw.symm
   clear hw
   subst hw'
   cases hq:(decide (0≤q)&&decide (q≤99992))with
   |false=>
    have HQ:=ypz hq
    clear hq
    go_wp2
    go_ret
    exact⟨ya0 (by rw [HQ.out];rfl),HB0.out⟩
   |true=>
    have HQ:=ypz hq
    clear hq
    go_wp2_with fail
    refine(yad _ _ _ _).mono ?_
    rintro e w2 ⟨rfl,hw⟩
    have hw':=hw.symm
    clear hw
    subst hw'
    go_wp2
    go_ret
    exact⟨ya0 (by rw [HQ.out];rfl),HB0.out⟩
end Go.Proofs.YtmobiieoecjmdaaGreat

