/- TPpE, KDc, KDv -/
import Derived.Test.YtmobiieoecjmdaaGreatExactVectorsG05
import Derived.Test.YtmobiieoecjmdaaGreatExactVectorsG29
import Derived.Test.YtmobiieoecjmdaaGreatExactVectorsG28
import Derived.Test.YtmobiieoecjmdaaGreatExactVectorsG36
import Derived.Test.YtmobiieoecjmdaaGreatExactVectorsG04
/- markPartS: marks, cell by cell. -/
namespace Go.Proofs.YtmobiieoecjmdaaGreat
open Go.RowKit
set_option maxRecDepth 100000 in
set_option maxHeartbeats 8000000 in
theorem ymv {F:Nat→Prop} {x:Value} {l:List Pa} {w:World} (z:Int) (hn:(yai l).wt≤1048577) (hz0:0≤z) (hz1:z+((yai l).cnt:Int)≤1073741824) (h:OwnD w F x (yai l)):
  Calls Tryz.prog 72 #[x,.int .i64 z] w fun e w'=>e= .returned (.int .i64 (z+((yai l).cnt:Int)))∧OwnD w' F x ((yai l).mark z)∧Turns F w w':=by
 obtain⟨a,cap,rfl,h1,h2,ha⟩:=OwnD.parts (c:=7) (n:=l.length) h
 have HR0:Hid (OwnD w F (.slice a l.length cap) (.row 7 l.length (mkD (ya7 l) z (0*7)))):=OwnD.mk0 z h
 have HS:Hid ((yai l).wt≤1048577):=hn
 have HZ:Hid (z+((yai l).cnt:Int)≤1073741824):=hz1
 have hl2:l.length≤1048577:=by rw [yck]at hn;omega
 clear h hn hz1 h1 h2
 go_enter Tryz.func72,Tryz.ntmps72
 go_wp2
 go_loopw [5,1] (fun i y wr=>∃k:Nat,k≤l.length∧i= .int .i64 k∧y= .int .i64 (z+(sumC (ya7 l) (k*7):Int))∧OwnD wr F (.slice a l.length cap) (.row 7 l.length (mkD (ya7 l) z (k*7)))∧Turns F w wr) (fun i _ _=>l.length-(intOf i).toNat)
 case atStart=>exact⟨0,Nat.zero_le _,rfl,by simp [sumC,sumL],HR0.out,Turns.refl _ _⟩
 case round=>
  obtain⟨k,hk,rfl,rfl,hR,hT⟩:=hrel
  have HR:Hid (OwnD wr F (.slice a l.length cap) (.row 7 l.length (mkD (ya7 l) z (k*7)))):=hR
  have HT:Hid (Turns F w wr):=hT
  clear hR hT
  by_cases hlt:k<l.length
  ·obtain⟨g,rfl,_,hFg⟩:=ha.resolve_left (by omega)
   have HF:Hid (F g):=hFg
   have hwt:(paAt l k).wt≤1048577:=Nat.le_trans (Pa.wt_le hlt) HS.out
   unfold Pa.wt at hwt
   simp only [yan,yah]at hwt
   obtain⟨m,hm⟩:∃m,m=k*7:=⟨_,rfl⟩
   have E0:Hid ((ya7 l) (k*7+0)=Dat.val (.int .i64 (paAt l k).n)):=yc4 l k (r:=0) (by omega)
   have E1:Hid ((ya7 l) (k*7+1)=ya9 (paAt l k).st.r):=yc4 l k (r:=1) (by omega)
   have E2:Hid ((ya7 l) (k*7+2)=Dat.val (.int .i64 (paAt l k).st.q)):=yc4 l k (r:=2) (by omega)
   have E3:Hid ((ya7 l) (k*7+3)=Dat.val (.int .i64 (paAt l k).st.d)):=yc4 l k (r:=3) (by omega)
   have E4:Hid ((ya7 l) (k*7+4)=yag (paAt l k).p):=yc4 l k (r:=4) (by omega)
   have E5:Hid ((ya7 l) (k*7+5)=evsD (paAt l k).t):=yc4 l k (r:=5) (by omega)
   have E6:Hid ((ya7 l) (k*7+6)=ya9 (paAt l k).a):=yc4 l k (r:=6) (by omega)
   have C0:Hid (sumC (ya7 l) (k*7)≤(yai l).cnt):=yae (by omega)
   have S1:Hid (sumC (ya7 l) (k*7+1)=sumC (ya7 l) (k*7)+(Dat.val (.int .i64 (paAt l k).n)).cnt):=by
    have e:=yac (ya7 l) (k*7+0)
    rw [E0.out]at e
    exact e
   have C1:Hid (sumC (ya7 l) (k*7+1)≤(yai l).cnt):=yae (by omega)
   have S2:Hid (sumC (ya7 l) (k*7+2)=sumC (ya7 l) (k*7+1)+(ya9 (paAt l k).st.r).cnt):=by
    have e:=yac (ya7 l) (k*7+1)
    rw [E1.out]at e
    exact e
   have C2:Hid (sumC (ya7 l) (k*7+2)≤(yai l).cnt):=yae (by omega)
   have S3:Hid (sumC (ya7 l) (k*7+3)=sumC (ya7 l) (k*7+2)+(Dat.val (.int .i64 (paAt l k).st.q)).cnt):=by
    have e:=yac (ya7 l) (k*7+2)
    rw [E2.out]at e
    exact e
   have C3:Hid (sumC (ya7 l) (k*7+3)≤(yai l).cnt):=yae (by omega)
   have S4:Hid (sumC (ya7 l) (k*7+4)=sumC (ya7 l) (k*7+3)+(Dat.val (.int .i64 (paAt l k).st.d)).cnt):=by
    have e:=yac (ya7 l) (k*7+3)
    rw [E3.out]at e
    exact e
   have C4:Hid (sumC (ya7 l) (k*7+4)≤(yai l).cnt):=yae (by omega)
   have S5:Hid (sumC (ya7 l) (k*7+5)=sumC (ya7 l) (k*7+4)+(yag (paAt l k).p).cnt):=by
    have e:=yac (ya7 l) (k*7+4)
    rw [E4.out]at e
    exact e
   have C5:Hid (sumC (ya7 l) (k*7+5)≤(yai l).cnt):=yae (by omega)
   have S6:Hid (sumC (ya7 l) (k*7+6)=sumC (ya7 l) (k*7+5)+(evsD (paAt l k).t).cnt):=by
    have e:=yac (ya7 l) (k*7+5)
    rw [E5.out]at e
    exact e
   have C6:Hid (sumC (ya7 l) (k*7+6)≤(yai l).cnt):=yae (by omega)
   have S7:Hid (sumC (ya7 l) (k*7+7)=sumC (ya7 l) (k*7+6)+(ya9 (paAt l k).a).cnt):=by
    have e:=yac (ya7 l) (k*7+6)
    rw [E6.out]at e
    exact e
   have C7:Hid (sumC (ya7 l) (k*7+7)≤(yai l).cnt):=yae (by omega)
   obtain⟨y,hy⟩:∃y:Int,y=z+(sumC (ya7 l) (k*7):Int):=⟨_,rfl⟩
   have HY0:Hid (y=z+(sumC (ya7 l) (k*7):Int)):=hy
   have y0:0≤y:=by omega
   rw [←hy]
   clear hy hm
   obtain⟨x0,_,g0,z0,_⟩:=HR.out.step (j:=k*7) (by omega)
   obtain⟨Y1,hY1⟩:∃Y1,wr.setCell ⟨g,k*7,none⟩ (.int .i64 y)=Y1:=⟨_,rfl⟩
   have HR1:Hid (OwnD Y1 F (.slice (some ⟨g,0,none⟩) l.length cap) (.row 7 l.length (mkD (ya7 l) z (k*7+1)))):=hY1▸HR.out.mk_val (m:=k*7) (by omega) E0.out (by
    show _=Value.int .i64 (z+(sumC (ya7 l) (k*7):Int))
    rw [show y=z+(sumC (ya7 l) (k*7):Int)from by(have e:=HY0.out;simp only [Dat.cnt]at*;omega)])
   have HT1:Hid (Turns F w Y1):=HT.out.trans (hY1▸(ya2 _ _ _ _).mono (fun b e=>by subst e;exact HF.out))
   obtain⟨u1,K1,g1,o1,f1,b1⟩:=HR1.out.mk_row (m:=k*7+1) (by omega)
   rw [E1.out]at o1 b1
   have O1:Hid (OwnD Y1 K1 u1 (ya9 (paAt l k).st.r)):=o1
   have B1:Hid (∀w',OwnD w' K1 u1 ((ya9 (paAt l k).st.r).mark (z+(sumC (ya7 l) (k*7+1):Int)))→Turns K1 Y1 w'→OwnD w' F (.slice (some ⟨g,0,none⟩) l.length cap) (.row 7 l.length (mkD (ya7 l) z (k*7+2)))):=b1
   have F1:Hid (∀b,K1 b→F b):=f1
   clear o1 b1 f1
   have hq1:y+1=z+(sumC (ya7 l) (k*7+1):Int):=by(have e:=HY0.out;have e1:=S1.out;simp only [Dat.cnt]at*;omega)
   have hb1:y+1≤1073741824:=by have:=HZ.out;have:=C1.out;omega
   have Q1:Hid (y+1=z+(sumC (ya7 l) (k*7+1):Int)):=hq1
   clear hq1
   go_wp2_with fail
   clear g1 hY1 z0 g0
   refine(yd1 (F:=K1) (l:=(paAt l k).st.r) (y+1) (by omega) (by omega) (by omega) O1.out).mono ?_
   rintro e w2 ⟨rfl,hr,ht⟩
   rw [Q1.out]at hr
   have HR2:Hid (OwnD w2 F (.slice (some ⟨g,0,none⟩) l.length cap) (.row 7 l.length (mkD (ya7 l) z (k*7+2)))):=B1.out _ hr ht
   have HT2:Hid (Turns F w w2):=HT1.out.trans (ht.mono F1.out)
   clear hr ht
   obtain⟨y1,hy⟩:∃y1:Int,y1=y+1+((ya9 (paAt l k).st.r).cnt:Int):=⟨_,rfl⟩
   have HY2:Hid (y1=z+(sumC (ya7 l) (k*7+2):Int)):=by
    have h8:=S2.out
    have h9:=Q1.out
    show y1=_
    omega
   have y10:0≤y1:=by omega
   have y11:y1≤1073741824:=by have h7:=HZ.out;have h8:=C2.out;have h9:=HY2.out;omega
   rw [←hy]
   clear hy
   obtain⟨x2,_,g2,z2,_⟩:=HR2.out.step (j:=k*7+2) (by omega)
   obtain⟨Y3,hY3⟩:∃Y3,w2.setCell ⟨g,k*7+2,none⟩ (.int .i64 y1)=Y3:=⟨_,rfl⟩
   have HR3:Hid (OwnD Y3 F (.slice (some ⟨g,0,none⟩) l.length cap) (.row 7 l.length (mkD (ya7 l) z (k*7+3)))):=hY3▸HR2.out.mk_val (m:=k*7+2) (by omega) E2.out (by
    show _=Value.int .i64 (z+(sumC (ya7 l) (k*7+2):Int))
    rw [show y1=z+(sumC (ya7 l) (k*7+2):Int)from by(have e:=HY2.out;simp only [Dat.cnt]at*;omega)])
   have HT3:Hid (Turns F w Y3):=HT2.out.trans (hY3▸(ya2 _ _ _ _).mono (fun b e=>by subst e;exact HF.out))
   obtain⟨x3,_,g3,z3,_⟩:=HR3.out.step (j:=k*7+3) (by omega)
   obtain⟨Y4,hY4⟩:∃Y4,Y3.setCell ⟨g,k*7+3,none⟩ (.int .i64 (y1+1))=Y4:=⟨_,rfl⟩
   have HR4:Hid (OwnD Y4 F (.slice (some ⟨g,0,none⟩) l.length cap) (.row 7 l.length (mkD (ya7 l) z (k*7+4)))):=hY4▸HR3.out.mk_val (m:=k*7+3) (by omega) E3.out (by
    show _=Value.int .i64 (z+(sumC (ya7 l) (k*7+3):Int))
    rw [show y1+1=z+(sumC (ya7 l) (k*7+3):Int)from by(have e:=HY2.out;have e3:=S3.out;simp only [Dat.cnt]at*;omega)])
   have HT4:Hid (Turns F w Y4):=HT3.out.trans (hY4▸(ya2 _ _ _ _).mono (fun b e=>by subst e;exact HF.out))
   obtain⟨u4,K4,g4,o4,f4,b4⟩:=HR4.out.mk_row (m:=k*7+4) (by omega)
   rw [E4.out]at o4 b4
   have O4:Hid (OwnD Y4 K4 u4 (yag (paAt l k).p)):=o4
   have B4:Hid (∀w',OwnD w' K4 u4 ((yag (paAt l k).p).mark (z+(sumC (ya7 l) (k*7+4):Int)))→Turns K4 Y4 w'→OwnD w' F (.slice (some ⟨g,0,none⟩) l.length cap) (.row 7 l.length (mkD (ya7 l) z (k*7+5)))):=b4
   have F4:Hid (∀b,K4 b→F b):=f4
   clear o4 b4 f4
   have hq4:y1+1+1=z+(sumC (ya7 l) (k*7+4):Int):=by(have e:=HY2.out;have e3:=S3.out;have e4:=S4.out;simp only [Dat.cnt]at*;omega)
   have hb4:y1+1+1≤1073741824:=by have:=HZ.out;have:=C4.out;omega
   have Q4:Hid (y1+1+1=z+(sumC (ya7 l) (k*7+4):Int)):=hq4
   clear hq4
   go_wp2_with fail
   clear g4 hY4 z3 g3 hY3 z2 g2
   refine(ymu (F:=K4) (l:=(paAt l k).p) (y1+1+1) (by omega) (by omega) (by have h6:=S5.out;have h7:=HZ.out;have h8:=C5.out;have h9:=Q4.out;omega) O4.out).mono ?_
   rintro e w5 ⟨rfl,hr,ht⟩
   rw [Q4.out]at hr
   have HR5:Hid (OwnD w5 F (.slice (some ⟨g,0,none⟩) l.length cap) (.row 7 l.length (mkD (ya7 l) z (k*7+5)))):=B4.out _ hr ht
   have HT5:Hid (Turns F w w5):=HT4.out.trans (ht.mono F4.out)
   clear hr ht
   obtain⟨y4,hy⟩:∃y4:Int,y4=y1+1+1+((yag (paAt l k).p).cnt:Int):=⟨_,rfl⟩
   have HY5:Hid (y4=z+(sumC (ya7 l) (k*7+5):Int)):=by
    have h8:=S5.out
    have h9:=Q4.out
    show y4=_
    omega
   have y40:0≤y4:=by omega
   have y41:y4≤1073741824:=by have h7:=HZ.out;have h8:=C5.out;have h9:=HY5.out;omega
   rw [←hy]
   clear hy
   obtain⟨u5,K5,g5,o5,f5,b5⟩:=HR5.out.mk_row (m:=k*7+5) (by omega)
   rw [E5.out]at o5 b5
   have O5:Hid (OwnD w5 K5 u5 (evsD (paAt l k).t)):=o5
   have B5:Hid (∀w',OwnD w' K5 u5 ((evsD (paAt l k).t).mark (z+(sumC (ya7 l) (k*7+5):Int)))→Turns K5 w5 w'→OwnD w' F (.slice (some ⟨g,0,none⟩) l.length cap) (.row 7 l.length (mkD (ya7 l) z (k*7+6)))):=b5
   have F5:Hid (∀b,K5 b→F b):=f5
   clear o5 b5 f5
   have hq5:y4=z+(sumC (ya7 l) (k*7+5):Int):=by(have e:=HY5.out;simp only [Dat.cnt]at*;omega)
   have hb5:y4≤1073741824:=by have:=HZ.out;have:=C5.out;omega
   have Q5:Hid (y4=z+(sumC (ya7 l) (k*7+5):Int)):=hq5
   clear hq5
   go_wp2_with fail
   clear g5
   refine(yfu (F:=K5) (l:=(paAt l k).t) (y4) (by omega) (by omega) (by omega) O5.out).mono ?_
   rintro e w6 ⟨rfl,hr,ht⟩
   rw [Q5.out]at hr
   have HR6:Hid (OwnD w6 F (.slice (some ⟨g,0,none⟩) l.length cap) (.row 7 l.length (mkD (ya7 l) z (k*7+6)))):=B5.out _ hr ht
   have HT6:Hid (Turns F w w6):=HT5.out.trans (ht.mono F5.out)
   clear hr ht
   obtain⟨y5,hy⟩:∃y5:Int,y5=y4+((evsD (paAt l k).t).cnt:Int):=⟨_,rfl⟩
   have HY6:Hid (y5=z+(sumC (ya7 l) (k*7+6):Int)):=by
    have h8:=S6.out
    have h9:=Q5.out
    show y5=_
    omega
   have y50:0≤y5:=by omega
   have y51:y5≤1073741824:=by have h7:=HZ.out;have h8:=C6.out;have h9:=HY6.out;omega
   rw [←hy]
   clear hy
   obtain⟨u6,K6,g6,o6,f6,b6⟩:=HR6.out.mk_row (m:=k*7+6) (by omega)
   rw [E6.out]at o6 b6
   have O6:Hid (OwnD w6 K6 u6 (ya9 (paAt l k).a)):=o6
   have B6:Hid (∀w',OwnD w' K6 u6 ((ya9 (paAt l k).a).mark (z+(sumC (ya7 l) (k*7+6):Int)))→Turns K6 w6 w'→OwnD w' F (.slice (some ⟨g,0,none⟩) l.length cap) (.row 7 l.length (mkD (ya7 l) z (k*7+7)))):=b6
   have F6:Hid (∀b,K6 b→F b):=f6
   clear o6 b6 f6
   have hq6:y5=z+(sumC (ya7 l) (k*7+6):Int):=by(have e:=HY6.out;simp only [Dat.cnt]at*;omega)
   have hb6:y5≤1073741824:=by have:=HZ.out;have:=C6.out;omega
   have Q6:Hid (y5=z+(sumC (ya7 l) (k*7+6):Int)):=hq6
   clear hq6
   go_wp2_with fail
   clear g6
   refine(yd1 (F:=K6) (l:=(paAt l k).a) (y5) (by omega) (by omega) (by omega) O6.out).mono ?_
   rintro e w7 ⟨rfl,hr,ht⟩
   rw [Q6.out]at hr
   have HR7:Hid (OwnD w7 F (.slice (some ⟨g,0,none⟩) l.length cap) (.row 7 l.length (mkD (ya7 l) z (k*7+7)))):=B6.out _ hr ht
   have HT7:Hid (Turns F w w7):=HT6.out.trans (ht.mono F6.out)
   clear hr ht
   obtain⟨y6,hy⟩:∃y6:Int,y6=y5+((ya9 (paAt l k).a).cnt:Int):=⟨_,rfl⟩
   have HY7:Hid (y6=z+(sumC (ya7 l) (k*7+7):Int)):=by
    have h8:=S7.out
    have h9:=Q6.out
    show y6=_
    omega
   have y60:0≤y6:=by omega
   have y61:y6≤1073741824:=by have h7:=HZ.out;have h8:=C7.out;have h9:=HY7.out;omega
   rw [←hy]
   clear hy
   go_wp2
   go_roundw
   case rel=>
    refine⟨k+1,by omega,by go_num,?_,?_,HT7.out⟩
    ·rw [show y6=z+(sumC (ya7 l) ((k+1)*7):Int)from by rw [show(k+1)*7=k*7+7 from by omega];(have e:=HY7.out;simp only [Dat.cnt]at*;omega)]
    ·rw [show(k+1)*7=k*7+7 from by omega]
     exact HR7.out
   case measure=>simp [intOf];omega
  ·go_wp2
   go_ret
   obtain rfl:k=l.length:=by omega
   exact⟨rfl,HR.out.mkAll,HT.out⟩
set_option maxRecDepth 100000 in
set_option maxHeartbeats 8000000 in
theorem yiu {F:Nat→Prop} {x:Value} {l:List Kn} {w:World} (z:Int) (hn:(knsD l).wt≤1048577) (hz0:0≤z) (hz1:z+((knsD l).cnt:Int)≤1073741824) (h:OwnD w F x (knsD l)):
  Calls Tryz.prog 51 #[x,.int .i64 z] w fun e w'=>e= .returned (.int .i64 (z+((knsD l).cnt:Int)))∧OwnD w' F x ((knsD l).mark z)∧Turns F w w':=by
 obtain⟨a,cap,rfl,h1,h2,ha⟩:=OwnD.parts (c:=14) (n:=l.length) h
 have HR0:Hid (OwnD w F (.slice a l.length cap) (.row 14 l.length (mkD (ya6 l) z (0*14)))):=OwnD.mk0 z h
 have HS:Hid ((knsD l).wt≤1048577):=hn
 have HZ:Hid (z+((knsD l).cnt:Int)≤1073741824):=hz1
 have hl2:l.length≤1048577:=by rw [ygf]at hn;omega
 clear h hn hz1 h1 h2
 go_enter Tryz.func51,Tryz.ntmps51
 go_wp2
 go_loopw [5,1] (fun i y wr=>∃k:Nat,k≤l.length∧i= .int .i64 k∧y= .int .i64 (z+(sumC (ya6 l) (k*14):Int))∧OwnD wr F (.slice a l.length cap) (.row 14 l.length (mkD (ya6 l) z (k*14)))∧Turns F w wr) (fun i _ _=>l.length-(intOf i).toNat)
 case atStart=>exact⟨0,Nat.zero_le _,rfl,by simp [sumC,sumL],HR0.out,Turns.refl _ _⟩
 case round=>
  obtain⟨k,hk,rfl,rfl,hR,hT⟩:=hrel
  have HR:Hid (OwnD wr F (.slice a l.length cap) (.row 14 l.length (mkD (ya6 l) z (k*14)))):=hR
  have HT:Hid (Turns F w wr):=hT
  clear hR hT
  by_cases hlt:k<l.length
  ·obtain⟨g,rfl,_,hFg⟩:=ha.resolve_left (by omega)
   have HF:Hid (F g):=hFg
   have hwt:(knAt l k).wd≤1048577:=Nat.le_trans (Kn.wd_le hlt) HS.out
   unfold Kn.wd at hwt
   simp only [ybi,yan,yah]at hwt
   obtain⟨m,hm⟩:∃m,m=k*14:=⟨_,rfl⟩
   have E0:Hid ((ya6 l) (k*14+0)=Dat.val (.int .i64 (knAt l k).m.n)):=ybp l k (r:=0) (by omega)
   have E1:Hid ((ya6 l) (k*14+1)=Dat.val (.int .i64 (knAt l k).m.s)):=ybp l k (r:=1) (by omega)
   have E2:Hid ((ya6 l) (k*14+2)=ya9 (knAt l k).m.i):=ybp l k (r:=2) (by omega)
   have E3:Hid ((ya6 l) (k*14+3)=hsD (knAt l k).m.h):=ybp l k (r:=3) (by omega)
   have E4:Hid ((ya6 l) (k*14+4)=evsD (knAt l k).m.e):=ybp l k (r:=4) (by omega)
   have E5:Hid ((ya6 l) (k*14+5)=Dat.val (.int .i64 (knAt l k).m.z)):=ybp l k (r:=5) (by omega)
   have E6:Hid ((ya6 l) (k*14+6)=ya9 (knAt l k).d):=ybp l k (r:=6) (by omega)
   have E7:Hid ((ya6 l) (k*14+7)=yai (knAt l k).p):=ybp l k (r:=7) (by omega)
   have E8:Hid ((ya6 l) (k*14+8)=yak (knAt l k).b):=ybp l k (r:=8) (by omega)
   have E9:Hid ((ya6 l) (k*14+9)=Dat.val (.int .i64 (knAt l k).t)):=ybp l k (r:=9) (by omega)
   have E10:Hid ((ya6 l) (k*14+10)=Dat.val (.int .i64 (knAt l k).q)):=ybp l k (r:=10) (by omega)
   have E11:Hid ((ya6 l) (k*14+11)=Dat.val (.bool (knAt l k).f)):=ybp l k (r:=11) (by omega)
   have E12:Hid ((ya6 l) (k*14+12)=evsD (knAt l k).s):=ybp l k (r:=12) (by omega)
   have E13:Hid ((ya6 l) (k*14+13)=emsD (knAt l k).x):=ybp l k (r:=13) (by omega)
   have C0:Hid (sumC (ya6 l) (k*14)≤(knsD l).cnt):=yae (by omega)
   have S1:Hid (sumC (ya6 l) (k*14+1)=sumC (ya6 l) (k*14)+(Dat.val (.int .i64 (knAt l k).m.n)).cnt):=by
    have e:=yac (ya6 l) (k*14+0)
    rw [E0.out]at e
    exact e
   have C1:Hid (sumC (ya6 l) (k*14+1)≤(knsD l).cnt):=yae (by omega)
   have S2:Hid (sumC (ya6 l) (k*14+2)=sumC (ya6 l) (k*14+1)+(Dat.val (.int .i64 (knAt l k).m.s)).cnt):=by
    have e:=yac (ya6 l) (k*14+1)
    rw [E1.out]at e
    exact e
   have C2:Hid (sumC (ya6 l) (k*14+2)≤(knsD l).cnt):=yae (by omega)
   have S3:Hid (sumC (ya6 l) (k*14+3)=sumC (ya6 l) (k*14+2)+(ya9 (knAt l k).m.i).cnt):=by
    have e:=yac (ya6 l) (k*14+2)
    rw [E2.out]at e
    exact e
   have C3:Hid (sumC (ya6 l) (k*14+3)≤(knsD l).cnt):=yae (by omega)
   have S4:Hid (sumC (ya6 l) (k*14+4)=sumC (ya6 l) (k*14+3)+(hsD (knAt l k).m.h).cnt):=by
    have e:=yac (ya6 l) (k*14+3)
    rw [E3.out]at e
    exact e
   have C4:Hid (sumC (ya6 l) (k*14+4)≤(knsD l).cnt):=yae (by omega)
   have S5:Hid (sumC (ya6 l) (k*14+5)=sumC (ya6 l) (k*14+4)+(evsD (knAt l k).m.e).cnt):=by
    have e:=yac (ya6 l) (k*14+4)
    rw [E4.out]at e
    exact e
   have C5:Hid (sumC (ya6 l) (k*14+5)≤(knsD l).cnt):=yae (by omega)
   have S6:Hid (sumC (ya6 l) (k*14+6)=sumC (ya6 l) (k*14+5)+(Dat.val (.int .i64 (knAt l k).m.z)).cnt):=by
    have e:=yac (ya6 l) (k*14+5)
    rw [E5.out]at e
    exact e
   have C6:Hid (sumC (ya6 l) (k*14+6)≤(knsD l).cnt):=yae (by omega)
   have S7:Hid (sumC (ya6 l) (k*14+7)=sumC (ya6 l) (k*14+6)+(ya9 (knAt l k).d).cnt):=by
    have e:=yac (ya6 l) (k*14+6)
    rw [E6.out]at e
    exact e
   have C7:Hid (sumC (ya6 l) (k*14+7)≤(knsD l).cnt):=yae (by omega)
   have S8:Hid (sumC (ya6 l) (k*14+8)=sumC (ya6 l) (k*14+7)+(yai (knAt l k).p).cnt):=by
    have e:=yac (ya6 l) (k*14+7)
    rw [E7.out]at e
    exact e
   have C8:Hid (sumC (ya6 l) (k*14+8)≤(knsD l).cnt):=yae (by omega)
   have S9:Hid (sumC (ya6 l) (k*14+9)=sumC (ya6 l) (k*14+8)+(yak (knAt l k).b).cnt):=by
    have e:=yac (ya6 l) (k*14+8)
    rw [E8.out]at e
    exact e
   have C9:Hid (sumC (ya6 l) (k*14+9)≤(knsD l).cnt):=yae (by omega)
   have S10:Hid (sumC (ya6 l) (k*14+10)=sumC (ya6 l) (k*14+9)+(Dat.val (.int .i64 (knAt l k).t)).cnt):=by
    have e:=yac (ya6 l) (k*14+9)
    rw [E9.out]at e
    exact e
   have C10:Hid (sumC (ya6 l) (k*14+10)≤(knsD l).cnt):=yae (by omega)
   have S11:Hid (sumC (ya6 l) (k*14+11)=sumC (ya6 l) (k*14+10)+(Dat.val (.int .i64 (knAt l k).q)).cnt):=by
    have e:=yac (ya6 l) (k*14+10)
    rw [E10.out]at e
    exact e
   have C11:Hid (sumC (ya6 l) (k*14+11)≤(knsD l).cnt):=yae (by omega)
   have S12:Hid (sumC (ya6 l) (k*14+12)=sumC (ya6 l) (k*14+11)+(Dat.val (.bool (knAt l k).f)).cnt):=by
    have e:=yac (ya6 l) (k*14+11)
    rw [E11.out]at e
    exact e
   have C12:Hid (sumC (ya6 l) (k*14+12)≤(knsD l).cnt):=yae (by omega)
   have S13:Hid (sumC (ya6 l) (k*14+13)=sumC (ya6 l) (k*14+12)+(evsD (knAt l k).s).cnt):=by
    have e:=yac (ya6 l) (k*14+12)
    rw [E12.out]at e
    exact e
   have C13:Hid (sumC (ya6 l) (k*14+13)≤(knsD l).cnt):=yae (by omega)
   have S14:Hid (sumC (ya6 l) (k*14+14)=sumC (ya6 l) (k*14+13)+(emsD (knAt l k).x).cnt):=by
    have e:=yac (ya6 l) (k*14+13)
    rw [E13.out]at e
    exact e
   have C14:Hid (sumC (ya6 l) (k*14+14)≤(knsD l).cnt):=yae (by omega)
   obtain⟨y,hy⟩:∃y:Int,y=z+(sumC (ya6 l) (k*14):Int):=⟨_,rfl⟩
   have HY0:Hid (y=z+(sumC (ya6 l) (k*14):Int)):=hy
   have y0:0≤y:=by omega
   rw [←hy]
   clear hy hm
   obtain⟨x0,_,g0,z0,_⟩:=HR.out.step (j:=k*14) (by omega)
   obtain⟨Y1,hY1⟩:∃Y1,wr.setCell ⟨g,k*14,none⟩ (.int .i64 y)=Y1:=⟨_,rfl⟩
   have HR1:Hid (OwnD Y1 F (.slice (some ⟨g,0,none⟩) l.length cap) (.row 14 l.length (mkD (ya6 l) z (k*14+1)))):=hY1▸HR.out.mk_val (m:=k*14) (by omega) E0.out (by
    show _=Value.int .i64 (z+(sumC (ya6 l) (k*14):Int))
    rw [show y=z+(sumC (ya6 l) (k*14):Int)from by(have e:=HY0.out;simp only [Dat.cnt]at*;omega)])
   have HT1:Hid (Turns F w Y1):=HT.out.trans (hY1▸(ya2 _ _ _ _).mono (fun b e=>by subst e;exact HF.out))
   obtain⟨x1,_,g1,z1,_⟩:=HR1.out.step (j:=k*14+1) (by omega)
   obtain⟨Y2,hY2⟩:∃Y2,Y1.setCell ⟨g,k*14+1,none⟩ (.int .i64 (y+1))=Y2:=⟨_,rfl⟩
   have HR2:Hid (OwnD Y2 F (.slice (some ⟨g,0,none⟩) l.length cap) (.row 14 l.length (mkD (ya6 l) z (k*14+2)))):=hY2▸HR1.out.mk_val (m:=k*14+1) (by omega) E1.out (by
    show _=Value.int .i64 (z+(sumC (ya6 l) (k*14+1):Int))
    rw [show y+1=z+(sumC (ya6 l) (k*14+1):Int)from by(have e:=HY0.out;have e1:=S1.out;simp only [Dat.cnt]at*;omega)])
   have HT2:Hid (Turns F w Y2):=HT1.out.trans (hY2▸(ya2 _ _ _ _).mono (fun b e=>by subst e;exact HF.out))
   obtain⟨u2,K2,g2,o2,f2,b2⟩:=HR2.out.mk_row (m:=k*14+2) (by omega)
   rw [E2.out]at o2 b2
   have O2:Hid (OwnD Y2 K2 u2 (ya9 (knAt l k).m.i)):=o2
   have B2:Hid (∀w',OwnD w' K2 u2 ((ya9 (knAt l k).m.i).mark (z+(sumC (ya6 l) (k*14+2):Int)))→Turns K2 Y2 w'→OwnD w' F (.slice (some ⟨g,0,none⟩) l.length cap) (.row 14 l.length (mkD (ya6 l) z (k*14+3)))):=b2
   have F2:Hid (∀b,K2 b→F b):=f2
   clear o2 b2 f2
   have hq2:y+1+1=z+(sumC (ya6 l) (k*14+2):Int):=by(have e:=HY0.out;have e1:=S1.out;have e2:=S2.out;simp only [Dat.cnt]at*;omega)
   have hb2:y+1+1≤1073741824:=by have:=HZ.out;have:=C2.out;omega
   have Q2:Hid (y+1+1=z+(sumC (ya6 l) (k*14+2):Int)):=hq2
   clear hq2
   go_wp2_with fail
   clear g2 hY2 z1 g1 hY1 z0 g0
   refine(yd1 (F:=K2) (l:=(knAt l k).m.i) (y+1+1) (by omega) (by omega) (by omega) O2.out).mono ?_
   rintro e w3 ⟨rfl,hr,ht⟩
   rw [Q2.out]at hr
   have HR3:Hid (OwnD w3 F (.slice (some ⟨g,0,none⟩) l.length cap) (.row 14 l.length (mkD (ya6 l) z (k*14+3)))):=B2.out _ hr ht
   have HT3:Hid (Turns F w w3):=HT2.out.trans (ht.mono F2.out)
   clear hr ht
   obtain⟨y2,hy⟩:∃y2:Int,y2=y+1+1+((ya9 (knAt l k).m.i).cnt:Int):=⟨_,rfl⟩
   have HY3:Hid (y2=z+(sumC (ya6 l) (k*14+3):Int)):=by
    have h8:=S3.out
    have h9:=Q2.out
    show y2=_
    omega
   have y20:0≤y2:=by omega
   have y21:y2≤1073741824:=by have h7:=HZ.out;have h8:=C3.out;have h9:=HY3.out;omega
   rw [←hy]
   clear hy
   obtain⟨u3,K3,g3,o3,f3,b3⟩:=HR3.out.mk_row (m:=k*14+3) (by omega)
   rw [E3.out]at o3 b3
   have O3:Hid (OwnD w3 K3 u3 (hsD (knAt l k).m.h)):=o3
   have B3:Hid (∀w',OwnD w' K3 u3 ((hsD (knAt l k).m.h).mark (z+(sumC (ya6 l) (k*14+3):Int)))→Turns K3 w3 w'→OwnD w' F (.slice (some ⟨g,0,none⟩) l.length cap) (.row 14 l.length (mkD (ya6 l) z (k*14+4)))):=b3
   have F3:Hid (∀b,K3 b→F b):=f3
   clear o3 b3 f3
   have hq3:y2=z+(sumC (ya6 l) (k*14+3):Int):=by(have e:=HY3.out;simp only [Dat.cnt]at*;omega)
   have hb3:y2≤1073741824:=by have:=HZ.out;have:=C3.out;omega
   have Q3:Hid (y2=z+(sumC (ya6 l) (k*14+3):Int)):=hq3
   clear hq3
   go_wp2_with fail
   clear g3
   refine(mark_hs (F:=K3) (l:=(knAt l k).m.h) (y2) (by omega) (by omega) (by have h6:=S4.out;have h7:=HZ.out;have h8:=C4.out;have h9:=Q3.out;omega) O3.out).mono ?_
   rintro e w4 ⟨rfl,hr,ht⟩
   rw [Q3.out]at hr
   have HR4:Hid (OwnD w4 F (.slice (some ⟨g,0,none⟩) l.length cap) (.row 14 l.length (mkD (ya6 l) z (k*14+4)))):=B3.out _ hr ht
   have HT4:Hid (Turns F w w4):=HT3.out.trans (ht.mono F3.out)
   clear hr ht
   obtain⟨y3,hy⟩:∃y3:Int,y3=y2+((hsD (knAt l k).m.h).cnt:Int):=⟨_,rfl⟩
   have HY4:Hid (y3=z+(sumC (ya6 l) (k*14+4):Int)):=by
    have h8:=S4.out
    have h9:=Q3.out
    show y3=_
    omega
   have y30:0≤y3:=by omega
   have y31:y3≤1073741824:=by have h7:=HZ.out;have h8:=C4.out;have h9:=HY4.out;omega
   rw [←hy]
   clear hy
   obtain⟨u4,K4,g4,o4,f4,b4⟩:=HR4.out.mk_row (m:=k*14+4) (by omega)
   rw [E4.out]at o4 b4
   have O4:Hid (OwnD w4 K4 u4 (evsD (knAt l k).m.e)):=o4
   have B4:Hid (∀w',OwnD w' K4 u4 ((evsD (knAt l k).m.e).mark (z+(sumC (ya6 l) (k*14+4):Int)))→Turns K4 w4 w'→OwnD w' F (.slice (some ⟨g,0,none⟩) l.length cap) (.row 14 l.length (mkD (ya6 l) z (k*14+5)))):=b4
   have F4:Hid (∀b,K4 b→F b):=f4
   clear o4 b4 f4
   have hq4:y3=z+(sumC (ya6 l) (k*14+4):Int):=by(have e:=HY4.out;simp only [Dat.cnt]at*;omega)
   have hb4:y3≤1073741824:=by have:=HZ.out;have:=C4.out;omega
   have Q4:Hid (y3=z+(sumC (ya6 l) (k*14+4):Int)):=hq4
   clear hq4
   go_wp2_with fail
   clear g4
   refine(yfu (F:=K4) (l:=(knAt l k).m.e) (y3) (by omega) (by omega) (by omega) O4.out).mono ?_
   rintro e w5 ⟨rfl,hr,ht⟩
   rw [Q4.out]at hr
   have HR5:Hid (OwnD w5 F (.slice (some ⟨g,0,none⟩) l.length cap) (.row 14 l.length (mkD (ya6 l) z (k*14+5)))):=B4.out _ hr ht
   have HT5:Hid (Turns F w w5):=HT4.out.trans (ht.mono F4.out)
   clear hr ht
   obtain⟨y4,hy⟩:∃y4:Int,y4=y3+((evsD (knAt l k).m.e).cnt:Int):=⟨_,rfl⟩
   have HY5:Hid (y4=z+(sumC (ya6 l) (k*14+5):Int)):=by
    have h8:=S5.out
    have h9:=Q4.out
    show y4=_
    omega
   have y40:0≤y4:=by omega
   have y41:y4≤1073741824:=by have h7:=HZ.out;have h8:=C5.out;have h9:=HY5.out;omega
   rw [←hy]
   clear hy
   obtain⟨x5,_,g5,z5,_⟩:=HR5.out.step (j:=k*14+5) (by omega)
   obtain⟨Y6,hY6⟩:∃Y6,w5.setCell ⟨g,k*14+5,none⟩ (.int .i64 y4)=Y6:=⟨_,rfl⟩
   have HR6:Hid (OwnD Y6 F (.slice (some ⟨g,0,none⟩) l.length cap) (.row 14 l.length (mkD (ya6 l) z (k*14+6)))):=hY6▸HR5.out.mk_val (m:=k*14+5) (by omega) E5.out (by
    show _=Value.int .i64 (z+(sumC (ya6 l) (k*14+5):Int))
    rw [show y4=z+(sumC (ya6 l) (k*14+5):Int)from by(have e:=HY5.out;simp only [Dat.cnt]at*;omega)])
   have HT6:Hid (Turns F w Y6):=HT5.out.trans (hY6▸(ya2 _ _ _ _).mono (fun b e=>by subst e;exact HF.out))
   obtain⟨u6,K6,g6,o6,f6,b6⟩:=HR6.out.mk_row (m:=k*14+6) (by omega)
   rw [E6.out]at o6 b6
   have O6:Hid (OwnD Y6 K6 u6 (ya9 (knAt l k).d)):=o6
   have B6:Hid (∀w',OwnD w' K6 u6 ((ya9 (knAt l k).d).mark (z+(sumC (ya6 l) (k*14+6):Int)))→Turns K6 Y6 w'→OwnD w' F (.slice (some ⟨g,0,none⟩) l.length cap) (.row 14 l.length (mkD (ya6 l) z (k*14+7)))):=b6
   have F6:Hid (∀b,K6 b→F b):=f6
   clear o6 b6 f6
   have hq6:y4+1=z+(sumC (ya6 l) (k*14+6):Int):=by(have e:=HY5.out;have e6:=S6.out;simp only [Dat.cnt]at*;omega)
   have hb6:y4+1≤1073741824:=by have:=HZ.out;have:=C6.out;omega
   have Q6:Hid (y4+1=z+(sumC (ya6 l) (k*14+6):Int)):=hq6
   clear hq6
   go_wp2_with fail
   clear g6 hY6 z5 g5
   refine(yd1 (F:=K6) (l:=(knAt l k).d) (y4+1) (by omega) (by omega) (by omega) O6.out).mono ?_
   rintro e w7 ⟨rfl,hr,ht⟩
   rw [Q6.out]at hr
   have HR7:Hid (OwnD w7 F (.slice (some ⟨g,0,none⟩) l.length cap) (.row 14 l.length (mkD (ya6 l) z (k*14+7)))):=B6.out _ hr ht
   have HT7:Hid (Turns F w w7):=HT6.out.trans (ht.mono F6.out)
   clear hr ht
   obtain⟨y6,hy⟩:∃y6:Int,y6=y4+1+((ya9 (knAt l k).d).cnt:Int):=⟨_,rfl⟩
   have HY7:Hid (y6=z+(sumC (ya6 l) (k*14+7):Int)):=by
    have h8:=S7.out
    have h9:=Q6.out
    show y6=_
    omega
   have y60:0≤y6:=by omega
   have y61:y6≤1073741824:=by have h7:=HZ.out;have h8:=C7.out;have h9:=HY7.out;omega
   rw [←hy]
   clear hy
   obtain⟨u7,K7,g7,o7,f7,b7⟩:=HR7.out.mk_row (m:=k*14+7) (by omega)
   rw [E7.out]at o7 b7
   have O7:Hid (OwnD w7 K7 u7 (yai (knAt l k).p)):=o7
   have B7:Hid (∀w',OwnD w' K7 u7 ((yai (knAt l k).p).mark (z+(sumC (ya6 l) (k*14+7):Int)))→Turns K7 w7 w'→OwnD w' F (.slice (some ⟨g,0,none⟩) l.length cap) (.row 14 l.length (mkD (ya6 l) z (k*14+8)))):=b7
   have F7:Hid (∀b,K7 b→F b):=f7
   clear o7 b7 f7
   have hq7:y6=z+(sumC (ya6 l) (k*14+7):Int):=by(have e:=HY7.out;simp only [Dat.cnt]at*;omega)
   have hb7:y6≤1073741824:=by have:=HZ.out;have:=C7.out;omega
   have Q7:Hid (y6=z+(sumC (ya6 l) (k*14+7):Int)):=hq7
   clear hq7
   go_wp2_with fail
   clear g7
   refine(ymv (F:=K7) (l:=(knAt l k).p) (y6) (by omega) (by omega) (by have h6:=S8.out;have h7:=HZ.out;have h8:=C8.out;have h9:=Q7.out;omega) O7.out).mono ?_
   rintro e w8 ⟨rfl,hr,ht⟩
   rw [Q7.out]at hr
   have HR8:Hid (OwnD w8 F (.slice (some ⟨g,0,none⟩) l.length cap) (.row 14 l.length (mkD (ya6 l) z (k*14+8)))):=B7.out _ hr ht
   have HT8:Hid (Turns F w w8):=HT7.out.trans (ht.mono F7.out)
   clear hr ht
   obtain⟨y7,hy⟩:∃y7:Int,y7=y6+((yai (knAt l k).p).cnt:Int):=⟨_,rfl⟩
   have HY8:Hid (y7=z+(sumC (ya6 l) (k*14+8):Int)):=by
    have h8:=S8.out
    have h9:=Q7.out
    show y7=_
    omega
   have y70:0≤y7:=by omega
   have y71:y7≤1073741824:=by have h7:=HZ.out;have h8:=C8.out;have h9:=HY8.out;omega
   rw [←hy]
   clear hy
   obtain⟨u8,K8,g8,o8,f8,b8⟩:=HR8.out.mk_row (m:=k*14+8) (by omega)
   rw [E8.out]at o8 b8
   have O8:Hid (OwnD w8 K8 u8 (yak (knAt l k).b)):=o8
   have B8:Hid (∀w',OwnD w' K8 u8 ((yak (knAt l k).b).mark (z+(sumC (ya6 l) (k*14+8):Int)))→Turns K8 w8 w'→OwnD w' F (.slice (some ⟨g,0,none⟩) l.length cap) (.row 14 l.length (mkD (ya6 l) z (k*14+9)))):=b8
   have F8:Hid (∀b,K8 b→F b):=f8
   clear o8 b8 f8
   have hq8:y7=z+(sumC (ya6 l) (k*14+8):Int):=by(have e:=HY8.out;simp only [Dat.cnt]at*;omega)
   have hb8:y7≤1073741824:=by have:=HZ.out;have:=C8.out;omega
   have Q8:Hid (y7=z+(sumC (ya6 l) (k*14+8):Int)):=hq8
   clear hq8
   go_wp2_with fail
   clear g8
   refine(ymw (F:=K8) (l:=(knAt l k).b) (y7) (by omega) (by omega) (by have h6:=S9.out;have h7:=HZ.out;have h8:=C9.out;have h9:=Q8.out;omega) O8.out).mono ?_
   rintro e w9 ⟨rfl,hr,ht⟩
   rw [Q8.out]at hr
   have HR9:Hid (OwnD w9 F (.slice (some ⟨g,0,none⟩) l.length cap) (.row 14 l.length (mkD (ya6 l) z (k*14+9)))):=B8.out _ hr ht
   have HT9:Hid (Turns F w w9):=HT8.out.trans (ht.mono F8.out)
   clear hr ht
   obtain⟨y8,hy⟩:∃y8:Int,y8=y7+((yak (knAt l k).b).cnt:Int):=⟨_,rfl⟩
   have HY9:Hid (y8=z+(sumC (ya6 l) (k*14+9):Int)):=by
    have h8:=S9.out
    have h9:=Q8.out
    show y8=_
    omega
   have y80:0≤y8:=by omega
   have y81:y8≤1073741824:=by have h7:=HZ.out;have h8:=C9.out;have h9:=HY9.out;omega
   rw [←hy]
   clear hy
   obtain⟨x9,_,g9,z9,_⟩:=HR9.out.step (j:=k*14+9) (by omega)
   obtain⟨Y10,hY10⟩:∃Y10,w9.setCell ⟨g,k*14+9,none⟩ (.int .i64 y8)=Y10:=⟨_,rfl⟩
   have HR10:Hid (OwnD Y10 F (.slice (some ⟨g,0,none⟩) l.length cap) (.row 14 l.length (mkD (ya6 l) z (k*14+10)))):=hY10▸HR9.out.mk_val (m:=k*14+9) (by omega) E9.out (by
    show _=Value.int .i64 (z+(sumC (ya6 l) (k*14+9):Int))
    rw [show y8=z+(sumC (ya6 l) (k*14+9):Int)from by(have e:=HY9.out;simp only [Dat.cnt]at*;omega)])
   have HT10:Hid (Turns F w Y10):=HT9.out.trans (hY10▸(ya2 _ _ _ _).mono (fun b e=>by subst e;exact HF.out))
   obtain⟨x10,_,g10,z10,_⟩:=HR10.out.step (j:=k*14+10) (by omega)
   obtain⟨Y11,hY11⟩:∃Y11,Y10.setCell ⟨g,k*14+10,none⟩ (.int .i64 (y8+1))=Y11:=⟨_,rfl⟩
   have HR11:Hid (OwnD Y11 F (.slice (some ⟨g,0,none⟩) l.length cap) (.row 14 l.length (mkD (ya6 l) z (k*14+11)))):=hY11▸HR10.out.mk_val (m:=k*14+10) (by omega) E10.out (by
    show _=Value.int .i64 (z+(sumC (ya6 l) (k*14+10):Int))
    rw [show y8+1=z+(sumC (ya6 l) (k*14+10):Int)from by(have e:=HY9.out;have e10:=S10.out;simp only [Dat.cnt]at*;omega)])
   have HT11:Hid (Turns F w Y11):=HT10.out.trans (hY11▸(ya2 _ _ _ _).mono (fun b e=>by subst e;exact HF.out))
   obtain⟨x11,_,g11,z11,_⟩:=HR11.out.step (j:=k*14+11) (by omega)
   obtain⟨Y12,hY12⟩:∃Y12,Y11.setCell ⟨g,k*14+11,none⟩ (.bool ((y8+1+1)%3==0))=Y12:=⟨_,rfl⟩
   have HR12:Hid (OwnD Y12 F (.slice (some ⟨g,0,none⟩) l.length cap) (.row 14 l.length (mkD (ya6 l) z (k*14+12)))):=hY12▸HR11.out.mk_val (m:=k*14+11) (by omega) E11.out (by
    show _=Value.bool ((z+(sumC (ya6 l) (k*14+11):Int))%3==0)
    rw [show y8+1+1=z+(sumC (ya6 l) (k*14+11):Int)from by(have e:=HY9.out;have e10:=S10.out;have e11:=S11.out;simp only [Dat.cnt]at*;omega)])
   have HT12:Hid (Turns F w Y12):=HT11.out.trans (hY12▸(ya2 _ _ _ _).mono (fun b e=>by subst e;exact HF.out))
   obtain⟨u12,K12,g12,o12,f12,b12⟩:=HR12.out.mk_row (m:=k*14+12) (by omega)
   rw [E12.out]at o12 b12
   have O12:Hid (OwnD Y12 K12 u12 (evsD (knAt l k).s)):=o12
   have B12:Hid (∀w',OwnD w' K12 u12 ((evsD (knAt l k).s).mark (z+(sumC (ya6 l) (k*14+12):Int)))→Turns K12 Y12 w'→OwnD w' F (.slice (some ⟨g,0,none⟩) l.length cap) (.row 14 l.length (mkD (ya6 l) z (k*14+13)))):=b12
   have F12:Hid (∀b,K12 b→F b):=f12
   clear o12 b12 f12
   have hq12:y8+1+1+1=z+(sumC (ya6 l) (k*14+12):Int):=by(have e:=HY9.out;have e10:=S10.out;have e11:=S11.out;have e12:=S12.out;simp only [Dat.cnt]at*;omega)
   have hb12:y8+1+1+1≤1073741824:=by have:=HZ.out;have:=C12.out;omega
   have Q12:Hid (y8+1+1+1=z+(sumC (ya6 l) (k*14+12):Int)):=hq12
   clear hq12
   go_wp2_with fail
   clear g12 hY12 z11 g11 hY11 z10 g10 hY10 z9 g9
   refine(yfu (F:=K12) (l:=(knAt l k).s) (y8+1+1+1) (by omega) (by omega) (by omega) O12.out).mono ?_
   rintro e w13 ⟨rfl,hr,ht⟩
   rw [Q12.out]at hr
   have HR13:Hid (OwnD w13 F (.slice (some ⟨g,0,none⟩) l.length cap) (.row 14 l.length (mkD (ya6 l) z (k*14+13)))):=B12.out _ hr ht
   have HT13:Hid (Turns F w w13):=HT12.out.trans (ht.mono F12.out)
   clear hr ht
   obtain⟨y12,hy⟩:∃y12:Int,y12=y8+1+1+1+((evsD (knAt l k).s).cnt:Int):=⟨_,rfl⟩
   have HY13:Hid (y12=z+(sumC (ya6 l) (k*14+13):Int)):=by
    have h8:=S13.out
    have h9:=Q12.out
    show y12=_
    omega
   have y120:0≤y12:=by omega
   have y121:y12≤1073741824:=by have h7:=HZ.out;have h8:=C13.out;have h9:=HY13.out;omega
   rw [←hy]
   clear hy
   obtain⟨u13,K13,g13,o13,f13,b13⟩:=HR13.out.mk_row (m:=k*14+13) (by omega)
   rw [E13.out]at o13 b13
   have O13:Hid (OwnD w13 K13 u13 (emsD (knAt l k).x)):=o13
   have B13:Hid (∀w',OwnD w' K13 u13 ((emsD (knAt l k).x).mark (z+(sumC (ya6 l) (k*14+13):Int)))→Turns K13 w13 w'→OwnD w' F (.slice (some ⟨g,0,none⟩) l.length cap) (.row 14 l.length (mkD (ya6 l) z (k*14+14)))):=b13
   have F13:Hid (∀b,K13 b→F b):=f13
   clear o13 b13 f13
   have hq13:y12=z+(sumC (ya6 l) (k*14+13):Int):=by(have e:=HY13.out;simp only [Dat.cnt]at*;omega)
   have hb13:y12≤1073741824:=by have:=HZ.out;have:=C13.out;omega
   have Q13:Hid (y12=z+(sumC (ya6 l) (k*14+13):Int)):=hq13
   clear hq13
   go_wp2_with fail
   clear g13
   refine(yl8 (F:=K13) (l:=(knAt l k).x) (y12) (by omega) (by omega) (by omega) O13.out).mono ?_
   rintro e w14 ⟨rfl,hr,ht⟩
   rw [Q13.out]at hr
   have HR14:Hid (OwnD w14 F (.slice (some ⟨g,0,none⟩) l.length cap) (.row 14 l.length (mkD (ya6 l) z (k*14+14)))):=B13.out _ hr ht
   have HT14:Hid (Turns F w w14):=HT13.out.trans (ht.mono F13.out)
   clear hr ht
   obtain⟨y13,hy⟩:∃y13:Int,y13=y12+((emsD (knAt l k).x).cnt:Int):=⟨_,rfl⟩
   have HY14:Hid (y13=z+(sumC (ya6 l) (k*14+14):Int)):=by
    have h8:=S14.out
    have h9:=Q13.out
    show y13=_
    omega
   have y130:0≤y13:=by omega
   have y131:y13≤1073741824:=by have h7:=HZ.out;have h8:=C14.out;have h9:=HY14.out;omega
   rw [←hy]
   clear hy
   go_wp2
   go_roundw
   case rel=>
    refine⟨k+1,by omega,by go_num,?_,?_,HT14.out⟩
    ·rw [show y13=z+(sumC (ya6 l) ((k+1)*14):Int)from by rw [show(k+1)*14=k*14+14 from by omega];(have e:=HY14.out;simp only [Dat.cnt]at*;omega)]
    ·rw [show(k+1)*14=k*14+14 from by omega]
     exact HR14.out
   case measure=>simp [intOf];omega
  ·go_wp2
   go_ret
   obtain rfl:k=l.length:=by omega
   exact⟨rfl,HR.out.mkAll,HT.out⟩
set_option maxHeartbeats 4000000
open Go.RowKit
theorem yfr (l:List (List Int)) (i:Nat) {r:Nat} (hr:r<1):yaf l (i*1+r)=ya9 (vAt l i):=by
 obtain rfl:r=0:=by omega
 rw [Nat.mul_one,Nat.add_zero]
 rfl
theorem yi9 (l:List (List Int)):(yad l).thin:=⟨by omega,fun j=>yd2 _⟩
theorem yit {F:Nat→Prop} {x:Value} {l:List (List Int)} {w:World} (z:Int) (hn:(yad l).wt≤1048577) (hz0:0≤z) (hz1:z+((yad l).cnt:Int)≤1073741824) (h:OwnD w F x (yad l)):
  Calls Tryz.prog 16 #[x,.int .i64 z] w fun e w'=>e= .returned (.int .i64 (z+((yad l).cnt:Int)))∧OwnD w' F x ((yad l).mark z)∧Turns F w w':=by
 obtain⟨a,cap,rfl,h1,h2,ha⟩:=OwnD.parts (c:=1) (n:=l.length) h
 have HR0:Hid (OwnD w F (.slice a l.length cap) (.row 1 l.length (mkD (yaf l) z (0*1)))):=OwnD.mk0 z h
 have HS:Hid ((yad l).wt≤1048577):=hn
 have HZ:Hid (z+((yad l).cnt:Int)≤1073741824):=hz1
 have hl2:l.length≤1048577:=by rw [yc9]at hn;omega
 clear h hn hz1 h1 h2
 go_enter Tryz.func16,Tryz.ntmps16
 go_wp2
 go_loopw [5,1] (fun i y wr=>∃k:Nat,k≤l.length∧i= .int .i64 k∧y= .int .i64 (z+(sumC (yaf l) (k*1):Int))∧OwnD wr F (.slice a l.length cap) (.row 1 l.length (mkD (yaf l) z (k*1)))∧Turns F w wr) (fun i _ _=>l.length-(intOf i).toNat)
 case atStart=>exact⟨0,Nat.zero_le _,rfl,by simp [sumC,sumL],HR0.out,Turns.refl _ _⟩
 case round=>
  obtain⟨k,hk,rfl,rfl,hR,hT⟩:=hrel
  have HR:Hid (OwnD wr F (.slice a l.length cap) (.row 1 l.length (mkD (yaf l) z (k*1)))):=hR
  have HT:Hid (Turns F w wr):=hT
  clear hR hT
  by_cases hlt:k<l.length
  ·obtain⟨g,rfl,_,hFg⟩:=ha.resolve_left (by omega)
   have HF:Hid (F g):=hFg
   have hwt:(vAt l k).length≤1048577:=Nat.le_trans (ygw hlt) HS.out
   obtain⟨m,hm⟩:∃m,m=k*1:=⟨_,rfl⟩
   have E0:Hid ((yaf l) (k*1)=ya9 (vAt l k)):=yfr l k (r:=0) (by omega)
   have C0:Hid (sumC (yaf l) (k*1)≤(yad l).cnt):=yae (by omega)
   have S1:Hid (sumC (yaf l) (k*1+1)=sumC (yaf l) (k*1)+(ya9 (vAt l k)).cnt):=by
    have e:=yac (yaf l) (k*1)
    rw [E0.out]at e
    exact e
   have C1:Hid (sumC (yaf l) (k*1+1)≤(yad l).cnt):=yae (by omega)
   obtain⟨y,hy⟩:∃y:Int,y=z+(sumC (yaf l) (k*1):Int):=⟨_,rfl⟩
   have HY0:Hid (y=z+(sumC (yaf l) (k*1):Int)):=hy
   have y0:0≤y:=by omega
   rw [←hy]
   clear hy hm
   obtain⟨u0,K0,g0,o0,f0,b0⟩:=HR.out.mk_row (m:=k*1) (by omega)
   rw [Nat.mul_one]at g0
   rw [E0.out]at o0 b0
   have O0:Hid (OwnD wr K0 u0 (ya9 (vAt l k))):=o0
   have B0:Hid (∀w',OwnD w' K0 u0 ((ya9 (vAt l k)).mark (z+(sumC (yaf l) (k*1):Int)))→Turns K0 wr w'→OwnD w' F (.slice (some ⟨g,0,none⟩) l.length cap) (.row 1 l.length (mkD (yaf l) z (k*1+1)))):=b0
   have F0:Hid (∀b,K0 b→F b):=f0
   clear o0 b0 f0
   have hq0:y=z+(sumC (yaf l) (k*1):Int):=by(have e:=HY0.out;omega)
   have hb0:y≤1073741824:=by have:=HZ.out;have:=C0.out;omega
   have Q0:Hid (y=z+(sumC (yaf l) (k*1):Int)):=hq0
   clear hq0
   go_wp2_with fail
   clear g0
   refine(yd1 (F:=K0) (l:=(vAt l k)) (y) (by omega) (by omega) (by omega) O0.out).mono ?_
   rintro e w1 ⟨rfl,hr,ht⟩
   rw [Q0.out]at hr
   have HR1:Hid (OwnD w1 F (.slice (some ⟨g,0,none⟩) l.length cap) (.row 1 l.length (mkD (yaf l) z (k*1+1)))):=B0.out _ hr ht
   have HT1:Hid (Turns F w w1):=HT.out.trans (ht.mono F0.out)
   clear hr ht
   obtain⟨y0,hy⟩:∃y0:Int,y0=y+((ya9 (vAt l k)).cnt:Int):=⟨_,rfl⟩
   have HY1:Hid (y0=z+(sumC (yaf l) (k*1+1):Int)):=by
    have h8:=S1.out
    have h9:=Q0.out
    show y0=_
    omega
   have y00:0≤y0:=by omega
   have y01:y0≤1073741824:=by have h7:=HZ.out;have h8:=C1.out;have h9:=HY1.out;omega
   rw [←hy]
   clear hy
   go_wp2
   go_roundw
   case rel=>
    refine⟨k+1,by omega,by go_num,?_,?_,HT1.out⟩
    ·rw [show y0=z+(sumC (yaf l) ((k+1)*1):Int)from by rw [show(k+1)*1=k*1+1 from by omega];(have e:=HY1.out;omega)]
    ·rw [show(k+1)*1=k*1+1 from by omega]
     exact HR1.out
   case measure=>simp [intOf];omega
  ·go_wp2
   go_ret
   obtain rfl:k=l.length:=by omega
   exact⟨rfl,HR.out.mkAll,HT.out⟩
theorem yj2 {F:Nat→Prop} {x:Value} {l:List (List Int)} {w:World} (z:Int) (hn:(yad l).wt≤1048577) (hz0:0≤z) (hz1:z+((yad l).cnt:Int)≤1073741824) (h:OwnD w F x ((yad l).mark z)):
  Calls Tryz.prog 17 #[x,.int .i64 z] w fun e w'=>e= .returned (.int .i64 (z+((yad l).cnt:Int)))∧Below w.heap.size w w':=by
 obtain⟨a,cap,rfl,h2,ha⟩:=OwnD.mslice (c:=1) (n:=l.length) h
 have HR0:Hid (OwnD w F (.slice a l.length cap) ((yad l).mark z)):=h
 have HS:Hid ((yad l).wt≤1048577):=hn
 have HZ:Hid (z+((yad l).cnt:Int)≤1073741824):=hz1
 have hl2:l.length≤1048577:=by rw [yc9]at hn;omega
 clear h hn hz1 h2
 go_enter Tryz.func17,Tryz.ntmps17
 go_wp2
 go_loopw [5,1] (fun i y wr=>∃k:Nat,k≤l.length∧i= .int .i64 k∧y= .int .i64 (z+(sumC (yaf l) (k*1):Int))∧Below w.heap.size w wr) (fun i _ _=>l.length-(intOf i).toNat)
 case atStart=>exact⟨0,Nat.zero_le _,rfl,by simp [sumC,sumL],Below.refl _ _⟩
 case round=>
  obtain⟨k,hk,rfl,rfl,hB⟩:=hrel
  have HB:Hid (Below w.heap.size w wr):=hB
  clear hB
  by_cases hlt:k<l.length
  ·obtain⟨g,rfl⟩:=ha.resolve_left (by omega)
   have HR:Hid (OwnD wr F (.slice (some ⟨g,0,none⟩) l.length cap) ((yad l).mark z)):=HR0.out.under HB.out
   have hwt:(vAt l k).length≤1048577:=Nat.le_trans (ygw hlt) HS.out
   have E0:Hid ((yaf l) (k*1)=ya9 (vAt l k)):=yfr l k (r:=0) (by omega)
   have C0:Hid (sumC (yaf l) (k*1)≤(yad l).cnt):=yae (by omega)
   have S1:Hid (sumC (yaf l) (k*1+1)=sumC (yaf l) (k*1)+(ya9 (vAt l k)).cnt):=by
    have e:=yac (yaf l) (k*1)
    rw [E0.out]at e
    exact e
   have C1:Hid (sumC (yaf l) (k*1+1)≤(yad l).cnt):=yae (by omega)
   obtain⟨y,hy⟩:∃y:Int,y=z+(sumC (yaf l) (k*1):Int):=⟨_,rfl⟩
   have HY0:Hid (y=z+(sumC (yaf l) (k*1):Int)):=hy
   have y0:0≤y:=by omega
   rw [←hy]
   clear hy
   obtain⟨u0,K0,g0,o0⟩:=OwnD.marked (c:=1) (n:=l.length) (f:=(yaf l)) HR.out (j:=k*1) (by omega)
   rw [Nat.mul_one]at g0
   rw [E0.out]at o0
   have hq0:y=z+(sumC (yaf l) (k*1):Int):=by(have e:=HY0.out;omega)
   have hb0:y≤1073741824:=by have:=HZ.out;have:=C0.out;omega
   rw [←hq0]at o0
   have O0:Hid (OwnD wr K0 u0 ((ya9 (vAt l k)).mark (y))):=o0
   have Q0:Hid (y=z+(sumC (yaf l) (k*1):Int)):=hq0
   clear hq0 o0
   go_wp2_with fail
   clear g0
   refine(ype (F:=K0) (l:=(vAt l k)) (y) (by omega) (by omega) (by omega) O0.out).mono ?_
   rintro e w1 ⟨rfl,hb⟩
   have HR1:Hid (OwnD w1 F (.slice (some ⟨g,0,none⟩) l.length cap) ((yad l).mark z)):=HR.out.under hb
   have HB1:Hid (Below w.heap.size w w1):=HB.out.trans (hb.mono HB.out.size)
   clear hb
   obtain⟨y0,hy⟩:∃y0:Int,y0=y+((ya9 (vAt l k)).cnt:Int):=⟨_,rfl⟩
   have HY1:Hid (y0=z+(sumC (yaf l) (k*1+1):Int)):=by
    have h8:=S1.out
    have h9:=Q0.out
    show y0=_
    omega
   have y00:0≤y0:=by omega
   have y01:y0≤1073741824:=by have h7:=HZ.out;have h8:=C1.out;have h9:=HY1.out;omega
   have y02:¬(y0<0):=by omega
   rw [←hy]
   clear hy
   go_wp2
   go_roundw
   case rel=>
    refine⟨k+1,by omega,by go_num,?_,HB1.out⟩
    rw [show y0=z+(sumC (yaf l) ((k+1)*1):Int)from by rw [show(k+1)*1=k*1+1 from by omega];(have e:=HY1.out;omega)]
   case measure=>simp [intOf];omega
  ·go_wp2
   go_ret
   obtain rfl:k=l.length:=by omega
   exact⟨rfl,HB.out⟩
end Go.Proofs.YtmobiieoecjmdaaGreat

