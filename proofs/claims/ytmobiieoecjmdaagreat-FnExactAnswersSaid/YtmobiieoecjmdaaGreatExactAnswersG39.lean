/- KDc, KDv, KDw, WTt -/
import Derived.Test.YtmobiieoecjmdaaGreatExactAnswersG38
namespace Go.Proofs.YtmobiieoecjmdaaGreat
open Go.RowKit
theorem yaz {p:Prop} (h:p):Hid p:=h
set_option maxRecDepth 100000 in
set_option maxHeartbeats 8000000 in
theorem yn3 {F:Nat→Prop} {x:Value} {l:List Kn} {w:World} (z:Int) (hn:(knsD l).wt≤1048577) (hz0:0≤z) (hz1:z+((knsD l).cnt:Int)≤1073741824) (h:OwnD w F x (knsD l)):
  Calls Tryz.prog 51 #[x,.int .i64 z] w fun e w'=>e= .returned (.int .i64 (z+((knsD l).cnt:Int)))∧OwnD w' F x ((knsD l).mark z)∧Turns F w w':=by
 obtain⟨a,cap,rfl,h1,h2,ha⟩:=OwnD.parts (c:=14) (n:=l.length) h
 have HR0:=yaz (OwnD.mk0 z h)
 have HS:=yaz hn
 have HZ:=yaz hz1
 have hl2:l.length≤1048577:=by rw [ylm]at hn;omega
 clear h hn hz1 h1 h2
 go_enter Tryz.func51,Tryz.ntmps51
 go_wp2
 go_loopw [5,1] (fun i y wr=>∃k:Nat,k≤l.length∧i= .int .i64 k∧y= .int .i64 (z+(sumC (yaa l) (k*14):Int))∧OwnD wr F (.slice a l.length cap) (.row 14 l.length (mkD (yaa l) z (k*14)))∧Turns F w wr) (fun i _ _=>l.length-(intOf i).toNat)
 case atStart=>exact⟨0,Nat.zero_le _,rfl,by simp [sumC,sumL],HR0.out,Turns.refl _ _⟩
 case round=>
  obtain⟨k,hk,rfl,rfl,hR,hT⟩:=hrel
  have HR:=yaz hR
  have HT:Hid (Turns F w wr):=hT
  clear hR hT
  by_cases hlt:k<l.length
  ·obtain⟨g,rfl,_,hFg⟩:=ha.resolve_left (by omega)
   have HF:Hid (F g):=hFg
   have hwt:(knAt l k).wd≤1048577:=Nat.le_trans (Kn.wd_le hlt) HS.out
   unfold Kn.wd at hwt
   simp only [ycm,yb2,yal]at hwt
   obtain⟨m,hm⟩:∃m,m=k*14:=⟨_,rfl⟩
   have E0:=yaz (yd2 l k (r:=0) (by omega))
   have E1:=yaz (yd2 l k (r:=1) (by omega))
   have E2:=yaz (yd2 l k (r:=2) (by omega))
   have E3:=yaz (yd2 l k (r:=3) (by omega))
   have E4:=yaz (yd2 l k (r:=4) (by omega))
   have E5:=yaz (yd2 l k (r:=5) (by omega))
   have E6:=yaz (yd2 l k (r:=6) (by omega))
   have E7:=yaz (yd2 l k (r:=7) (by omega))
   have E8:=yaz (yd2 l k (r:=8) (by omega))
   have E9:=yaz (yd2 l k (r:=9) (by omega))
   have E10:=yaz (yd2 l k (r:=10) (by omega))
   have E11:=yaz (yd2 l k (r:=11) (by omega))
   have E12:=yaz (yd2 l k (r:=12) (by omega))
   have E13:=yaz (yd2 l k (r:=13) (by omega))
   have C0:Hid (sumC (yaa l) (k*14)≤(knsD l).cnt):=yai (by omega)
   have S1:Hid (sumC (yaa l) (k*14+1)=sumC (yaa l) (k*14)+(Dat.val (.int .i64 (knAt l k).m.n)).cnt):=by
    have e:=yaf (yaa l) (k*14+0)
    rw [E0.out]at e
    exact e
   have C1:Hid (sumC (yaa l) (k*14+1)≤(knsD l).cnt):=yai (by omega)
   have S2:Hid (sumC (yaa l) (k*14+2)=sumC (yaa l) (k*14+1)+(Dat.val (.int .i64 (knAt l k).m.s)).cnt):=by
    have e:=yaf (yaa l) (k*14+1)
    rw [E1.out]at e
    exact e
   have C2:Hid (sumC (yaa l) (k*14+2)≤(knsD l).cnt):=yai (by omega)
   have S3:Hid (sumC (yaa l) (k*14+3)=sumC (yaa l) (k*14+2)+(yaq (knAt l k).m.i).cnt):=by
    have e:=yaf (yaa l) (k*14+2)
    rw [E2.out]at e
    exact e
   have C3:Hid (sumC (yaa l) (k*14+3)≤(knsD l).cnt):=yai (by omega)
   have S4:Hid (sumC (yaa l) (k*14+4)=sumC (yaa l) (k*14+3)+(hsD (knAt l k).m.h).cnt):=by
    have e:=yaf (yaa l) (k*14+3)
    rw [E3.out]at e
    exact e
   have C4:Hid (sumC (yaa l) (k*14+4)≤(knsD l).cnt):=yai (by omega)
   have S5:Hid (sumC (yaa l) (k*14+5)=sumC (yaa l) (k*14+4)+(evsD (knAt l k).m.e).cnt):=by
    have e:=yaf (yaa l) (k*14+4)
    rw [E4.out]at e
    exact e
   have C5:Hid (sumC (yaa l) (k*14+5)≤(knsD l).cnt):=yai (by omega)
   have S6:Hid (sumC (yaa l) (k*14+6)=sumC (yaa l) (k*14+5)+(Dat.val (.int .i64 (knAt l k).m.z)).cnt):=by
    have e:=yaf (yaa l) (k*14+5)
    rw [E5.out]at e
    exact e
   have C6:Hid (sumC (yaa l) (k*14+6)≤(knsD l).cnt):=yai (by omega)
   have S7:Hid (sumC (yaa l) (k*14+7)=sumC (yaa l) (k*14+6)+(yaq (knAt l k).d).cnt):=by
    have e:=yaf (yaa l) (k*14+6)
    rw [E6.out]at e
    exact e
   have C7:Hid (sumC (yaa l) (k*14+7)≤(knsD l).cnt):=yai (by omega)
   have S8:Hid (sumC (yaa l) (k*14+8)=sumC (yaa l) (k*14+7)+(yb8 (knAt l k).p).cnt):=by
    have e:=yaf (yaa l) (k*14+7)
    rw [E7.out]at e
    exact e
   have C8:Hid (sumC (yaa l) (k*14+8)≤(knsD l).cnt):=yai (by omega)
   have S9:Hid (sumC (yaa l) (k*14+9)=sumC (yaa l) (k*14+8)+(ybh (knAt l k).b).cnt):=by
    have e:=yaf (yaa l) (k*14+8)
    rw [E8.out]at e
    exact e
   have C9:Hid (sumC (yaa l) (k*14+9)≤(knsD l).cnt):=yai (by omega)
   have S10:Hid (sumC (yaa l) (k*14+10)=sumC (yaa l) (k*14+9)+(Dat.val (.int .i64 (knAt l k).t)).cnt):=by
    have e:=yaf (yaa l) (k*14+9)
    rw [E9.out]at e
    exact e
   have C10:Hid (sumC (yaa l) (k*14+10)≤(knsD l).cnt):=yai (by omega)
   have S11:Hid (sumC (yaa l) (k*14+11)=sumC (yaa l) (k*14+10)+(Dat.val (.int .i64 (knAt l k).q)).cnt):=by
    have e:=yaf (yaa l) (k*14+10)
    rw [E10.out]at e
    exact e
   have C11:Hid (sumC (yaa l) (k*14+11)≤(knsD l).cnt):=yai (by omega)
   have S12:Hid (sumC (yaa l) (k*14+12)=sumC (yaa l) (k*14+11)+(Dat.val (.bool (knAt l k).f)).cnt):=by
    have e:=yaf (yaa l) (k*14+11)
    rw [E11.out]at e
    exact e
   have C12:Hid (sumC (yaa l) (k*14+12)≤(knsD l).cnt):=yai (by omega)
   have S13:Hid (sumC (yaa l) (k*14+13)=sumC (yaa l) (k*14+12)+(evsD (knAt l k).s).cnt):=by
    have e:=yaf (yaa l) (k*14+12)
    rw [E12.out]at e
    exact e
   have C13:Hid (sumC (yaa l) (k*14+13)≤(knsD l).cnt):=yai (by omega)
   have S14:Hid (sumC (yaa l) (k*14+14)=sumC (yaa l) (k*14+13)+(emsD (knAt l k).x).cnt):=by
    have e:=yaf (yaa l) (k*14+13)
    rw [E13.out]at e
    exact e
   have C14:Hid (sumC (yaa l) (k*14+14)≤(knsD l).cnt):=yai (by omega)
   obtain⟨y,hy⟩:∃y:Int,y=z+(sumC (yaa l) (k*14):Int):=⟨_,rfl⟩
   have HY0:=yaz hy
   have y0:0≤y:=by omega
   rw [←hy]
   clear hy hm
   obtain⟨x0,_,g0,z0,_⟩:=HR.out.step (j:=k*14) (by omega)
   obtain⟨Y1,hY1⟩:∃Y1,wr.setCell ⟨g,k*14,none⟩ (.int .i64 y)=Y1:=⟨_,rfl⟩
   have HR1:Hid (OwnD Y1 F (.slice (some ⟨g,0,none⟩) l.length cap) (.row 14 l.length (mkD (yaa l) z (k*14+1)))):=hY1▸HR.out.mk_val (m:=k*14) (by omega) E0.out (by
    show _=Value.int .i64 (z+(sumC (yaa l) (k*14):Int))
    rw [show y=z+(sumC (yaa l) (k*14):Int)from by(have e:=HY0.out;simp only [Dat.cnt]at*;omega)])
   have HT1:Hid (Turns F w Y1):=HT.out.trans (hY1▸(ya1 _ _ _ _).mono (fun b e=>by subst e;exact HF.out))
   obtain⟨x1,_,g1,z1,_⟩:=HR1.out.step (j:=k*14+1) (by omega)
   obtain⟨Y2,hY2⟩:∃Y2,Y1.setCell ⟨g,k*14+1,none⟩ (.int .i64 (y+1))=Y2:=⟨_,rfl⟩
   have HR2:Hid (OwnD Y2 F (.slice (some ⟨g,0,none⟩) l.length cap) (.row 14 l.length (mkD (yaa l) z (k*14+2)))):=hY2▸HR1.out.mk_val (m:=k*14+1) (by omega) E1.out (by
    show _=Value.int .i64 (z+(sumC (yaa l) (k*14+1):Int))
    rw [show y+1=z+(sumC (yaa l) (k*14+1):Int)from by(have e:=HY0.out;have e1:=S1.out;simp only [Dat.cnt]at*;omega)])
   have HT2:Hid (Turns F w Y2):=HT1.out.trans (hY2▸(ya1 _ _ _ _).mono (fun b e=>by subst e;exact HF.out))
   obtain⟨u2,K2,g2,o2,f2,b2⟩:=HR2.out.mk_row (m:=k*14+2) (by omega)
   rw [E2.out]at o2 b2
   have O2:=yaz o2
   have B2:=yaz b2
   have F2:Hid (∀b,K2 b→F b):=f2
   clear o2 b2 f2
   have hq2:y+1+1=z+(sumC (yaa l) (k*14+2):Int):=by(have e:=HY0.out;have e1:=S1.out;have e2:=S2.out;simp only [Dat.cnt]at*;omega)
   have hb2:y+1+1≤1073741824:=by have:=HZ.out;have:=C2.out;omega
   have Q2:=yaz hq2
   clear hq2
   go_wp2_with fail
   clear g2 hY2 z1 g1 hY1 z0 g0
   refine(yee (F:=K2) (l:=(knAt l k).m.i) (y+1+1) (by omega) (by omega) (by omega) O2.out).mono ?_
   rintro e w3 ⟨rfl,hr,ht⟩
   rw [Q2.out]at hr
   have HR3:=yaz (B2.out _ hr ht)
   have HT3:Hid (Turns F w w3):=HT2.out.trans (ht.mono F2.out)
   clear hr ht
   obtain⟨y2,hy⟩:∃y2:Int,y2=y+1+1+((yaq (knAt l k).m.i).cnt:Int):=⟨_,rfl⟩
   have HY3:Hid (y2=z+(sumC (yaa l) (k*14+3):Int)):=by
    have h8:=S3.out
    have h9:=Q2.out
    show y2=_
    omega
   have y20:0≤y2:=by omega
   have y21:y2≤1073741824:=by have h7:=HZ.out;have h8:=C3.out;have h9:=HY3.out;omega
   rw [←hy]
   clear hy
   obtain⟨u3,K3,g3,o3,f3,b3⟩:=HR3.out.mk_row (m:=k*14+3) (by omega)
   rw [E3.out]at o3 b3
   have O3:=yaz o3
   have B3:=yaz b3
   have F3:Hid (∀b,K3 b→F b):=f3
   clear o3 b3 f3
   have hq3:y2=z+(sumC (yaa l) (k*14+3):Int):=by(have e:=HY3.out;simp only [Dat.cnt]at*;omega)
   have hb3:y2≤1073741824:=by have:=HZ.out;have:=C3.out;omega
   have Q3:=yaz hq3
   clear hq3
   go_wp2_with fail
   clear g3
   refine(mark_hs (F:=K3) (l:=(knAt l k).m.h) (y2) (by omega) (by omega) (by have h6:=S4.out;have h7:=HZ.out;have h8:=C4.out;have h9:=Q3.out;omega) O3.out).mono ?_
   rintro e w4 ⟨rfl,hr,ht⟩
   rw [Q3.out]at hr
   have HR4:=yaz (B3.out _ hr ht)
   have HT4:Hid (Turns F w w4):=HT3.out.trans (ht.mono F3.out)
   clear hr ht
   obtain⟨y3,hy⟩:∃y3:Int,y3=y2+((hsD (knAt l k).m.h).cnt:Int):=⟨_,rfl⟩
   have HY4:Hid (y3=z+(sumC (yaa l) (k*14+4):Int)):=by
    have h8:=S4.out
    have h9:=Q3.out
    show y3=_
    omega
   have y30:0≤y3:=by omega
   have y31:y3≤1073741824:=by have h7:=HZ.out;have h8:=C4.out;have h9:=HY4.out;omega
   rw [←hy]
   clear hy
   obtain⟨u4,K4,g4,o4,f4,b4⟩:=HR4.out.mk_row (m:=k*14+4) (by omega)
   rw [E4.out]at o4 b4
   have O4:=yaz o4
   have B4:=yaz b4
   have F4:Hid (∀b,K4 b→F b):=f4
   clear o4 b4 f4
   have hq4:y3=z+(sumC (yaa l) (k*14+4):Int):=by(have e:=HY4.out;simp only [Dat.cnt]at*;omega)
   have hb4:y3≤1073741824:=by have:=HZ.out;have:=C4.out;omega
   have Q4:=yaz hq4
   clear hq4
   go_wp2_with fail
   clear g4
   refine(yiz (F:=K4) (l:=(knAt l k).m.e) (y3) (by omega) (by omega) (by omega) O4.out).mono ?_
   rintro e w5 ⟨rfl,hr,ht⟩
   rw [Q4.out]at hr
   have HR5:=yaz (B4.out _ hr ht)
   have HT5:Hid (Turns F w w5):=HT4.out.trans (ht.mono F4.out)
   clear hr ht
   obtain⟨y4,hy⟩:∃y4:Int,y4=y3+((evsD (knAt l k).m.e).cnt:Int):=⟨_,rfl⟩
   have HY5:Hid (y4=z+(sumC (yaa l) (k*14+5):Int)):=by
    have h8:=S5.out
    have h9:=Q4.out
    show y4=_
    omega
   have y40:0≤y4:=by omega
   have y41:y4≤1073741824:=by have h7:=HZ.out;have h8:=C5.out;have h9:=HY5.out;omega
   rw [←hy]
   clear hy
   obtain⟨x5,_,g5,z5,_⟩:=HR5.out.step (j:=k*14+5) (by omega)
   obtain⟨Y6,hY6⟩:∃Y6,w5.setCell ⟨g,k*14+5,none⟩ (.int .i64 y4)=Y6:=⟨_,rfl⟩
   have HR6:Hid (OwnD Y6 F (.slice (some ⟨g,0,none⟩) l.length cap) (.row 14 l.length (mkD (yaa l) z (k*14+6)))):=hY6▸HR5.out.mk_val (m:=k*14+5) (by omega) E5.out (by
    show _=Value.int .i64 (z+(sumC (yaa l) (k*14+5):Int))
    rw [show y4=z+(sumC (yaa l) (k*14+5):Int)from by(have e:=HY5.out;simp only [Dat.cnt]at*;omega)])
   have HT6:Hid (Turns F w Y6):=HT5.out.trans (hY6▸(ya1 _ _ _ _).mono (fun b e=>by subst e;exact HF.out))
   obtain⟨u6,K6,g6,o6,f6,b6⟩:=HR6.out.mk_row (m:=k*14+6) (by omega)
   rw [E6.out]at o6 b6
   have O6:=yaz o6
   have B6:=yaz b6
   have F6:Hid (∀b,K6 b→F b):=f6
   clear o6 b6 f6
   have hq6:y4+1=z+(sumC (yaa l) (k*14+6):Int):=by(have e:=HY5.out;have e6:=S6.out;simp only [Dat.cnt]at*;omega)
   have hb6:y4+1≤1073741824:=by have:=HZ.out;have:=C6.out;omega
   have Q6:=yaz hq6
   clear hq6
   go_wp2_with fail
   clear g6 hY6 z5 g5
   refine(yee (F:=K6) (l:=(knAt l k).d) (y4+1) (by omega) (by omega) (by omega) O6.out).mono ?_
   rintro e w7 ⟨rfl,hr,ht⟩
   rw [Q6.out]at hr
   have HR7:=yaz (B6.out _ hr ht)
   have HT7:Hid (Turns F w w7):=HT6.out.trans (ht.mono F6.out)
   clear hr ht
   obtain⟨y6,hy⟩:∃y6:Int,y6=y4+1+((yaq (knAt l k).d).cnt:Int):=⟨_,rfl⟩
   have HY7:Hid (y6=z+(sumC (yaa l) (k*14+7):Int)):=by
    have h8:=S7.out
    have h9:=Q6.out
    show y6=_
    omega
   have y60:0≤y6:=by omega
   have y61:y6≤1073741824:=by have h7:=HZ.out;have h8:=C7.out;have h9:=HY7.out;omega
   rw [←hy]
   clear hy
   obtain⟨u7,K7,g7,o7,f7,b7⟩:=HR7.out.mk_row (m:=k*14+7) (by omega)
   rw [E7.out]at o7 b7
   have O7:=yaz o7
   have B7:=yaz b7
   have F7:Hid (∀b,K7 b→F b):=f7
   clear o7 b7 f7
   have hq7:y6=z+(sumC (yaa l) (k*14+7):Int):=by(have e:=HY7.out;simp only [Dat.cnt]at*;omega)
   have hb7:y6≤1073741824:=by have:=HZ.out;have:=C7.out;omega
   have Q7:=yaz hq7
   clear hq7
   go_wp2_with fail
   clear g7
   refine(yrs (F:=K7) (l:=(knAt l k).p) (y6) (by omega) (by omega) (by have h6:=S8.out;have h7:=HZ.out;have h8:=C8.out;have h9:=Q7.out;omega) O7.out).mono ?_
   rintro e w8 ⟨rfl,hr,ht⟩
   rw [Q7.out]at hr
   have HR8:=yaz (B7.out _ hr ht)
   have HT8:Hid (Turns F w w8):=HT7.out.trans (ht.mono F7.out)
   clear hr ht
   obtain⟨y7,hy⟩:∃y7:Int,y7=y6+((yb8 (knAt l k).p).cnt:Int):=⟨_,rfl⟩
   have HY8:Hid (y7=z+(sumC (yaa l) (k*14+8):Int)):=by
    have h8:=S8.out
    have h9:=Q7.out
    show y7=_
    omega
   have y70:0≤y7:=by omega
   have y71:y7≤1073741824:=by have h7:=HZ.out;have h8:=C8.out;have h9:=HY8.out;omega
   rw [←hy]
   clear hy
   obtain⟨u8,K8,g8,o8,f8,b8⟩:=HR8.out.mk_row (m:=k*14+8) (by omega)
   rw [E8.out]at o8 b8
   have O8:=yaz o8
   have B8:=yaz b8
   have F8:Hid (∀b,K8 b→F b):=f8
   clear o8 b8 f8
   have hq8:y7=z+(sumC (yaa l) (k*14+8):Int):=by(have e:=HY8.out;simp only [Dat.cnt]at*;omega)
   have hb8:y7≤1073741824:=by have:=HZ.out;have:=C8.out;omega
   have Q8:=yaz hq8
   clear hq8
   go_wp2_with fail
   clear g8
   refine(yrt (F:=K8) (l:=(knAt l k).b) (y7) (by omega) (by omega) (by have h6:=S9.out;have h7:=HZ.out;have h8:=C9.out;have h9:=Q8.out;omega) O8.out).mono ?_
   rintro e w9 ⟨rfl,hr,ht⟩
   rw [Q8.out]at hr
   have HR9:=yaz (B8.out _ hr ht)
   have HT9:Hid (Turns F w w9):=HT8.out.trans (ht.mono F8.out)
   clear hr ht
   obtain⟨y8,hy⟩:∃y8:Int,y8=y7+((ybh (knAt l k).b).cnt:Int):=⟨_,rfl⟩
   have HY9:Hid (y8=z+(sumC (yaa l) (k*14+9):Int)):=by
    have h8:=S9.out
    have h9:=Q8.out
    show y8=_
    omega
   have y80:0≤y8:=by omega
   have y81:y8≤1073741824:=by have h7:=HZ.out;have h8:=C9.out;have h9:=HY9.out;omega
   rw [←hy]
   clear hy
   obtain⟨x9,_,g9,z9,_⟩:=HR9.out.step (j:=k*14+9) (by omega)
   obtain⟨Y10,hY10⟩:∃Y10,w9.setCell ⟨g,k*14+9,none⟩ (.int .i64 y8)=Y10:=⟨_,rfl⟩
   have HR10:Hid (OwnD Y10 F (.slice (some ⟨g,0,none⟩) l.length cap) (.row 14 l.length (mkD (yaa l) z (k*14+10)))):=hY10▸HR9.out.mk_val (m:=k*14+9) (by omega) E9.out (by
    show _=Value.int .i64 (z+(sumC (yaa l) (k*14+9):Int))
    rw [show y8=z+(sumC (yaa l) (k*14+9):Int)from by(have e:=HY9.out;simp only [Dat.cnt]at*;omega)])
   have HT10:Hid (Turns F w Y10):=HT9.out.trans (hY10▸(ya1 _ _ _ _).mono (fun b e=>by subst e;exact HF.out))
   obtain⟨x10,_,g10,z10,_⟩:=HR10.out.step (j:=k*14+10) (by omega)
   obtain⟨Y11,hY11⟩:∃Y11,Y10.setCell ⟨g,k*14+10,none⟩ (.int .i64 (y8+1))=Y11:=⟨_,rfl⟩
   have HR11:Hid (OwnD Y11 F (.slice (some ⟨g,0,none⟩) l.length cap) (.row 14 l.length (mkD (yaa l) z (k*14+11)))):=hY11▸HR10.out.mk_val (m:=k*14+10) (by omega) E10.out (by
    show _=Value.int .i64 (z+(sumC (yaa l) (k*14+10):Int))
    rw [show y8+1=z+(sumC (yaa l) (k*14+10):Int)from by(have e:=HY9.out;have e10:=S10.out;simp only [Dat.cnt]at*;omega)])
   have HT11:Hid (Turns F w Y11):=HT10.out.trans (hY11▸(ya1 _ _ _ _).mono (fun b e=>by subst e;exact HF.out))
   obtain⟨x11,_,g11,z11,_⟩:=HR11.out.step (j:=k*14+11) (by omega)
   obtain⟨Y12,hY12⟩:∃Y12,Y11.setCell ⟨g,k*14+11,none⟩ (.bool ((y8+1+1)%3==0))=Y12:=⟨_,rfl⟩
   have HR12:Hid (OwnD Y12 F (.slice (some ⟨g,0,none⟩) l.length cap) (.row 14 l.length (mkD (yaa l) z (k*14+12)))):=hY12▸HR11.out.mk_val (m:=k*14+11) (by omega) E11.out (by
    show _=Value.bool ((z+(sumC (yaa l) (k*14+11):Int))%3==0)
    rw [show y8+1+1=z+(sumC (yaa l) (k*14+11):Int)from by(have e:=HY9.out;have e10:=S10.out;have e11:=S11.out;simp only [Dat.cnt]at*;omega)])
   have HT12:Hid (Turns F w Y12):=HT11.out.trans (hY12▸(ya1 _ _ _ _).mono (fun b e=>by subst e;exact HF.out))
   obtain⟨u12,K12,g12,o12,f12,b12⟩:=HR12.out.mk_row (m:=k*14+12) (by omega)
   rw [E12.out]at o12 b12
   have O12:=yaz o12
   have B12:=yaz b12
   have F12:Hid (∀b,K12 b→F b):=f12
   clear o12 b12 f12
   have hq12:y8+1+1+1=z+(sumC (yaa l) (k*14+12):Int):=by(have e:=HY9.out;have e10:=S10.out;have e11:=S11.out;have e12:=S12.out;simp only [Dat.cnt]at*;omega)
   have hb12:y8+1+1+1≤1073741824:=by have:=HZ.out;have:=C12.out;omega
   have Q12:=yaz hq12
   clear hq12
   go_wp2_with fail
   clear g12 hY12 z11 g11 hY11 z10 g10 hY10 z9 g9
   refine(yiz (F:=K12) (l:=(knAt l k).s) (y8+1+1+1) (by omega) (by omega) (by omega) O12.out).mono ?_
   rintro e w13 ⟨rfl,hr,ht⟩
   rw [Q12.out]at hr
   have HR13:=yaz (B12.out _ hr ht)
   have HT13:Hid (Turns F w w13):=HT12.out.trans (ht.mono F12.out)
   clear hr ht
   obtain⟨y12,hy⟩:∃y12:Int,y12=y8+1+1+1+((evsD (knAt l k).s).cnt:Int):=⟨_,rfl⟩
   have HY13:Hid (y12=z+(sumC (yaa l) (k*14+13):Int)):=by
    have h8:=S13.out
    have h9:=Q12.out
    show y12=_
    omega
   have y120:0≤y12:=by omega
   have y121:y12≤1073741824:=by have h7:=HZ.out;have h8:=C13.out;have h9:=HY13.out;omega
   rw [←hy]
   clear hy
   obtain⟨u13,K13,g13,o13,f13,b13⟩:=HR13.out.mk_row (m:=k*14+13) (by omega)
   rw [E13.out]at o13 b13
   have O13:=yaz o13
   have B13:=yaz b13
   have F13:Hid (∀b,K13 b→F b):=f13
   clear o13 b13 f13
   have hq13:y12=z+(sumC (yaa l) (k*14+13):Int):=by(have e:=HY13.out;simp only [Dat.cnt]at*;omega)
   have hb13:y12≤1073741824:=by have:=HZ.out;have:=C13.out;omega
   have Q13:=yaz hq13
   clear hq13
   go_wp2_with fail
   clear g13
   refine(ypu (F:=K13) (l:=(knAt l k).x) (y12) (by omega) (by omega) (by omega) O13.out).mono ?_
   rintro e w14 ⟨rfl,hr,ht⟩
   rw [Q13.out]at hr
   have HR14:=yaz (B13.out _ hr ht)
   have HT14:Hid (Turns F w w14):=HT13.out.trans (ht.mono F13.out)
   clear hr ht
   obtain⟨y13,hy⟩:∃y13:Int,y13=y12+((emsD (knAt l k).x).cnt:Int):=⟨_,rfl⟩
   have HY14:Hid (y13=z+(sumC (yaa l) (k*14+14):Int)):=by
    have h8:=S14.out
    have h9:=Q13.out
    show y13=_
    omega
   have y130:0≤y13:=by omega
   have y131:y13≤1073741824:=by have h7:=HZ.out;have h8:=C14.out;have h9:=HY14.out;omega
   rw [←hy]
   clear hy
   go_wp2
   go_roundw
   case rel=>
    refine⟨k+1,by omega,by go_num,?_,?_,HT14.out⟩
    ·rw [show y13=z+(sumC (yaa l) ((k+1)*14):Int)from by rw [show(k+1)*14=k*14+14 from by omega];(have e:=HY14.out;simp only [Dat.cnt]at*;omega)]
    ·rw [show(k+1)*14=k*14+14 from by omega]
     exact HR14.out
   case measure=>simp [intOf];omega
  ·go_wp2
   go_ret
   obtain rfl:k=l.length:=by omega
   exact⟨rfl,HR.out.mkAll,HT.out⟩
theorem yhs {p:Prop} (h:p):Hid p:=h
theorem vecsD_at (l:List (List Int)) (i:Nat) {r:Nat} (hr:r<1):ycn l (i*1+r)=yaq (vAt l i):=by
 obtain rfl:r=0:=by omega
 rw [Nat.mul_one,Nat.add_zero]
 rfl
theorem ysq (l:List (List Int)):(ycd l).thin:=⟨by omega,fun j=>yf3 _⟩
set_option maxHeartbeats 4000000 in
theorem yu8 {F:Nat→Prop} {x:Value} {l:List (List Int)} {w:World} (z:Int) (hn:(ycd l).wt≤1048577) (hz0:0≤z) (hz1:z+((ycd l).cnt:Int)≤1073741824) (h:OwnD w F x (ycd l)):
  Calls Tryz.prog 16 #[x,.int .i64 z] w fun e w'=>e= .returned (.int .i64 (z+((ycd l).cnt:Int)))∧OwnD w' F x ((ycd l).mark z)∧Turns F w w':=by
 obtain⟨a,cap,rfl,h1,h2,ha⟩:=OwnD.parts (c:=1) (n:=l.length) h
 have HR0:=yhs (OwnD.mk0 z h)
 have HS:=yhs hn
 have HZ:=yhs hz1
 have hl2:l.length≤1048577:=by rw [ydl]at hn;omega
 clear h hn hz1 h1 h2
 go_enter Tryz.func16,Tryz.ntmps16
 go_wp2
 go_loopw [5,1] (fun i y wr=>∃k:Nat,k≤l.length∧i= .int .i64 k∧y= .int .i64 (z+(sumC (ycn l) (k*1):Int))∧OwnD wr F (.slice a l.length cap) (.row 1 l.length (mkD (ycn l) z (k*1)))∧Turns F w wr) (fun i _ _=>l.length-(intOf i).toNat)
 case atStart=>exact⟨0,Nat.zero_le _,rfl,by simp [sumC,sumL],HR0.out,Turns.refl _ _⟩
 case round=>
  obtain⟨k,hk,rfl,rfl,hR,hT⟩:=hrel
  have HR:=yhs hR
  have HT:Hid (Turns F w wr):=hT
  clear hR hT
  by_cases hlt:k<l.length
  ·obtain⟨g,rfl,_,hFg⟩:=ha.resolve_left (by omega)
   have HF:Hid (F g):=hFg
   have hwt:(vAt l k).length≤1048577:=Nat.le_trans (ym9 hlt) HS.out
   obtain⟨m,hm⟩:∃m,m=k*1:=⟨_,rfl⟩
   have E0:Hid ((ycn l) (k*1)=yaq (vAt l k)):=vecsD_at l k (r:=0) (by omega)
   have C0:Hid (sumC (ycn l) (k*1)≤(ycd l).cnt):=yai (by omega)
   have S1:Hid (sumC (ycn l) (k*1+1)=sumC (ycn l) (k*1)+(yaq (vAt l k)).cnt):=by
    have e:=yaf (ycn l) (k*1)
    rw [E0.out]at e
    exact e
   have C1:Hid (sumC (ycn l) (k*1+1)≤(ycd l).cnt):=yai (by omega)
   obtain⟨y,hy⟩:∃y:Int,y=z+(sumC (ycn l) (k*1):Int):=⟨_,rfl⟩
   have HY0:=yhs hy
   have y0:0≤y:=by omega
   rw [←hy]
   clear hy hm
   obtain⟨u0,K0,g0,o0,f0,b0⟩:=HR.out.mk_row (m:=k*1) (by omega)
   rw [Nat.mul_one]at g0
   rw [E0.out]at o0 b0
   have O0:=yhs o0
   have B0:=yhs b0
   have F0:Hid (∀b,K0 b→F b):=f0
   clear o0 b0 f0
   have hq0:y=z+(sumC (ycn l) (k*1):Int):=by(have e:=HY0.out;omega)
   have hb0:y≤1073741824:=by have:=HZ.out;have:=C0.out;omega
   have Q0:=yhs hq0
   clear hq0
   go_wp2_with fail
   clear g0
   refine(yee (F:=K0) (l:=(vAt l k)) (y) (by omega) (by omega) (by omega) O0.out).mono ?_
   rintro e w1 ⟨rfl,hr,ht⟩
   rw [Q0.out]at hr
   have HR1:=yhs (B0.out _ hr ht)
   have HT1:Hid (Turns F w w1):=HT.out.trans (ht.mono F0.out)
   clear hr ht
   obtain⟨y0,hy⟩:∃y0:Int,y0=y+((yaq (vAt l k)).cnt:Int):=⟨_,rfl⟩
   have HY1:Hid (y0=z+(sumC (ycn l) (k*1+1):Int)):=by
    have h8:=S1.out
    have h9:=Q0.out
    show y0=_
    omega
   have y00:0≤y0:=by omega
   have y01:y0≤1073741824:=by have h7:=HZ.out;have h8:=C1.out;have h9:=HY1.out;omega
   rw [←hy]
   clear hy
   go_wp2
   go_roundw
   case rel=>
    refine⟨k+1,by omega,by go_num,?_,?_,HT1.out⟩
    ·rw [show y0=z+(sumC (ycn l) ((k+1)*1):Int)from by rw [show(k+1)*1=k*1+1 from by omega];(have e:=HY1.out;omega)]
    ·rw [show(k+1)*1=k*1+1 from by omega]
     exact HR1.out
   case measure=>simp [intOf];omega
  ·go_wp2
   go_ret
   obtain rfl:k=l.length:=by omega
   exact⟨rfl,HR.out.mkAll,HT.out⟩
theorem yeo {p:Prop} (h:p):Hid p:=h
open Classical in
def WorF (F:Nat→Prop) (w:World) (y:Value) (v:Wd):Prop:=∃(A0 A6 A7:Nat→Prop) (vi vh vs uk uc:Value),y= .agg #[.int .i64 v.m.n,.int .i64 v.m.s,vi,vh,vs,.int .i64 v.m.z,uk,uc]∧MdF A0 w (.agg #[.int .i64 v.m.n,.int .i64 v.m.s,vi,vh,vs,.int .i64 v.m.z]) v.m∧OwnD w A6 uk (knsD v.k)∧OwnD w A7 uc (ycd v.c)∧(∀j,A0 j→F j∧ ¬A6 j∧ ¬A7 j)∧(∀j,A6 j→F j∧ ¬A7 j)∧ ∀j,A7 j→F j
theorem WorF.is {F:Nat→Prop} {w:World} {y:Value} {v:Wd} (h:WorF F w y v):IsW w y v:=by
 obtain⟨A0,A6,A7,vi,vh,vs,uk,uc,rfl,hm,hk,hc,_⟩:=h
 exact⟨vi,vh,vs,uk,uc,rfl,hm.isM,hk.isD.isKs,hc.isD⟩
theorem WorF.turns {F S:Nat→Prop} {w w':World} {y:Value} {v:Wd} (h:WorF F w y v) (ht:Turns S w w') (hS:∀j,F j→ ¬S j):WorF F w' y v:=by
 obtain⟨A0,A6,A7,vi,vh,vs,uk,uc,rfl,hm,hk,hc,d0,d6,d7⟩:=h
 exact⟨A0,A6,A7,vi,vh,vs,uk,uc,rfl,hm.turns ht (fun j hj=>hS j (d0 j hj).1),hk.turns ht (fun j hj=>hS j (d6 j hj).1),hc.turns ht (fun j hj=>hS j (d7 j hj)),d0,d6,d7⟩
theorem WorF.below {F:Nat→Prop} {w w':World} {y:Value} {v:Wd} (h:WorF F w y v) (hb:Below w.heap.size w w'):WorF F w' y v:=h.turns (S:=fun _=>False) (Turns.of_below hb) (fun _ _=>id)
theorem WorF.form {F:Nat→Prop} {w:World} {y:Value} {v:Wd} (h:WorF F w y v):∃ai ci ah ch ae ce ak ck ac cc,y= .agg #[.int .i64 v.m.n,.int .i64 v.m.s,.slice ai v.m.i.length ci,.slice ah v.m.h.length ch,.slice ae v.m.e.length ce,.int .i64 v.m.z,.slice ak v.k.length ck,.slice ac v.c.length cc]:=by
 obtain⟨_,_,_,vi,vh,vs,uk,uc,rfl,hm,hk,hc,_⟩:=h
 obtain⟨b2,e2,b3,e3,b4,e4,he⟩:=hm.form
 obtain⟨b6,e6,rfl,_⟩:=IsD.len (c:=14) (n:=v.k.length) hk.isD
 obtain⟨b7,e7,rfl,_⟩:=IsD.len (c:=1) (n:=v.c.length) hc.isD
 simp at he
 obtain⟨rfl,rfl,rfl⟩:=he
 exact⟨b2,e2,b3,e3,b4,e4,b6,e6,b7,e7,rfl⟩
structure TinyW (v:Wd):Prop where
 m:SmallM v.m
 k:(knsD v.k).wt≤1048577
 c:(ycd v.c).wt≤1048577
def mkW6 (v:Wd):Int:=yf2 v.m+((knsD v.k).cnt:Int)
def yjl (v:Wd):Int:=mkW6 v+((ycd v.c).cnt:Int)
theorem yoq {m:Md} (h:SmallM m):yf2 m≤20000000:=by
 have h1:=h.i
 have h2:=h.t
 have h3:=h.e
 unfold yf2
 omega
theorem yj7 {v:Wd} (h:TinyW v):1≤yf2 v.m∧yf2 v.m≤mkW6 v∧mkW6 v≤yjl v∧yjl v≤1073741824:=by
 have h0:=yru v.m
 have h1:=yoq h.m
 have h2:=h.k
 have h3:=h.c
 have h4:(knsD v.k).cnt≤40*(knsD v.k).wt:=Dat.cnt_le (yn6 v.k)
 have h5:(ycd v.c).cnt≤40*(ycd v.c).wt:=Dat.cnt_le (ysq v.c)
 unfold yjl mkW6
 omega
def HeldW (F:Nat→Prop) (w:World) (y:Value) (v:Wd):Prop:=∃(A0 A6 A7:Nat→Prop) (vi vh vs uk uc:Value),y= .agg #[.int .i64 v.m.n,.int .i64 v.m.s,vi,vh,vs,.int .i64 v.m.z,uk,uc]∧HeldM A0 w (.agg #[.int .i64 v.m.n,.int .i64 v.m.s,vi,vh,vs,.int .i64 v.m.z]) v.m∧OwnD w A6 uk ((knsD v.k).mark (yf2 v.m))∧OwnD w A7 uc ((ycd v.c).mark (mkW6 v))∧(∀j,A0 j→F j)∧(∀j,A6 j→F j)∧ ∀j,A7 j→F j
set_option maxRecDepth 100000 in
set_option maxHeartbeats 8000000 in
theorem ylk {F:Nat→Prop} {x:Value} {v:Wd} {w:World} (hs:TinyW v) (h:WorF F w x v) (hF:∀j,F j→j<w.heap.size):
  Calls Tryz.prog 15 #[x,.int .i64 1] w fun e w'=>e= .returned (.int .i64 (yjl v))∧HeldW F w' x v∧Turns F w w':=by
 obtain⟨A0,A6,A7,vi,vh,vs,uk,uc,rfl,hm,hk,hc,d0,d6,d7⟩:=h
 have HS:Hid (TinyW v):=hs
 obtain⟨hz0,hz1,hz2,hz3⟩:=yj7 hs
 have HF:=yeo hF
 obtain⟨W0,hW0⟩:∃W0,w.alloc (.cells #[.int .i64 v.m.n,.int .i64 v.m.s,vi,vh,vs,.int .i64 v.m.z,uk,uc] 39)=W0:=⟨_,rfl⟩
 have HB0:=hdq (beA hW0)
 have HP0:=hdq (bkA hW0)
 have HT0:Hid (Turns F w W0):=Turns.of_below HB0.out
 have HW:=yeo hW0
 have O0:=yeo (hm.below HB0.out)
 have O6:=yeo (hk.under HB0.out)
 have O7:=yeo (hc.under HB0.out)
 have D0:=yeo d0
 have D6:=yeo d6
 have D7:Hid (∀j,A7 j→F j):=d7
 clear hs hF hW0 hm hk hc d0 d6 d7
 go_enter Tryz.func15,Tryz.ntmps15
 obtain⟨p0,p1,p2,p3,p4,p5⟩:=c6_8 HP0.out
 go_wp2_with fail
 rw [HW.out]
 clear HW p0 p1 p2 p3 p4 p5
 refine(yll HS.out.m O0.out (fun j e=>Nat.lt_of_lt_of_le (HF.out j (D0.out j e).1) HB0.out.size)).mono ?_
 rintro e w1 ⟨rfl,hr,ht⟩
 have HP1:=yeo (HP0.out.turns ht (fun e=>by have:=HF.out _ (D0.out _ e).1;omega))
 have HT1:Hid (Turns F w w1):=HT0.out.trans (ht.mono (fun j e=>(D0.out j e).1))
 have R0:=yeo hr
 have O6':Hid (OwnD w1 A6 uk (knsD v.k)):=O6.out.turns ht (fun j e e'=>(D0.out j e').2.1 e)
 have O7':Hid (OwnD w1 A7 uc (ycd v.c)):=O7.out.turns ht (fun j e e'=>(D0.out j e').2.2 e)
 clear hr ht HP0 HT0 O0 O6 O7
 have p6:=HP1.out.cell (i:=6) rfl
 go_wp2_with fail
 clear p6
 refine(yn3 (F:=A6) (l:=v.k) (yf2 v.m) (by have:=HS.out.k;omega) (by omega) (by have h9:yf2 v.m+((knsD v.k).cnt:Int)=mkW6 v:=rfl;omega) O6'.out).mono ?_
 rintro e w2 ⟨rfl,hr,ht⟩
 have HP2:=yeo (HP1.out.turns ht (fun e=>by have:=HF.out _ (D6.out _ e).1;omega))
 have HT2:Hid (Turns F w w2):=HT1.out.trans (ht.mono (fun j e=>(D6.out j e).1))
 have R6:=yeo hr
 have R0':Hid (HeldM A0 w2 (.agg #[.int .i64 v.m.n,.int .i64 v.m.s,vi,vh,vs,.int .i64 v.m.z]) v.m):=R0.out.turns ht (fun j e e'=>(D0.out j e).2.1 e')
 have O7:=yeo (O7'.out.turns ht (fun j e e'=>(D6.out j e').2 e))
 clear hr ht HP1 HT1 R0 O7' O6'
 rw [show yf2 v.m+((knsD v.k).cnt:Int)=mkW6 v from rfl]
 have p7:=HP2.out.cell (i:=7) rfl
 go_wp2_with fail
 clear p7
 refine(yu8 (F:=A7) (l:=v.c) (mkW6 v) (by have:=HS.out.c;omega) (by omega) (by have h9:mkW6 v+((ycd v.c).cnt:Int)=yjl v:=rfl;omega) O7.out).mono ?_
 rintro e w3 ⟨rfl,hr,ht⟩
 have HT3:Hid (Turns F w w3):=HT2.out.trans (ht.mono (fun j e=>D7.out j e))
 have R7:=yeo hr
 have R0:=yeo (R0'.out.turns ht (fun j e e'=>(D0.out j e).2.2 e'))
 have R6':Hid (OwnD w3 A6 uk ((knsD v.k).mark (yf2 v.m))):=R6.out.turns ht (fun j e e'=>(D6.out j e).2 e')
 clear hr ht HT2 R0' R6 O7 HP2
 rw [show mkW6 v+((ycd v.c).cnt:Int)=yjl v from rfl]
 go_wp2
 go_ret
 exact⟨rfl,⟨A0,A6,A7,_,_,_,_,_,rfl,R0.out,R6'.out,R7.out,fun j e=>(D0.out j e).1,fun j e=>(D6.out j e).1,D7.out⟩,HT3.out⟩
set_option maxHeartbeats 4000000
open Go.RowKit
theorem yb1 {p:Prop} (h:p):Hid p:=h
theorem IsO.isDs {w:World} {x:Value} {l:List O} (h:IsO w x l):IsD w x (opsD l):=by
 obtain⟨a,cap,rfl,h1,h2,h⟩:=h
 refine IsD.of_parts h1 h2 (h.imp (fun e=>by rw [e];rfl) ?_)
 rintro ⟨b,off,rfl,hb,hc⟩
 refine⟨b,off,rfl,hb,fun j hj=> ?_⟩
 have hi:j/4<l.length:=by omega
 have hr:j%4<4:=by omega
 obtain⟨e0,e1,e2,e3⟩:=hc (j/4) hi
 have hg:=yfa l (j/4) (j%4) hi hr
 rw [show j/4*4+j%4=j from by omega]at hg
 have hall:∀r,r<4→ ∃u,w.cell? ⟨b,off+j/4*4+r,none⟩=some u∧(oAt l (j/4)).cs[r]? =some u:=fun r hr=>by
  match r,hr with
  |0,_=>exact⟨_,e0,rfl⟩
  |1,_=>exact⟨_,e1,rfl⟩
  |2,_=>exact⟨_,e2,rfl⟩
  |3,_=>exact⟨_,e3,rfl⟩
 obtain⟨u,hu,hv⟩:=hall (j%4) hr
 rw [show off+j/4*4+j%4=off+j from by omega]at hu
 refine⟨u,hu,?_⟩
 rw [show(yer l).getD j (.int .i64 0)=u from yba (hg.trans hv)]
 exact .val _
theorem IsH.isDh {w:World} {x:Value} {l:List (List O)} (h:IsH w x l):IsD w x (hsD l):=by
 obtain⟨a,cap,rfl,h1,h2,h⟩:=h
 refine IsD.of_parts h1 h2 (h.imp (fun e=>by rw [e];rfl) ?_)
 rintro ⟨b,off,rfl,hb,hc⟩
 refine⟨b,off,rfl,hb,fun j hj=> ?_⟩
 obtain⟨u,hu,ho⟩:=hc j (by omega)
 exact⟨u,hu,ho.isDs⟩
theorem sz_ops (x:Value) (l:List O) (left:Int) (w:World) (h0:0≤left) (h1:left≤1048576) (h:IsD w x (opsD l)):
  Calls Tryz.prog 134 #[x,.int .i64 left] w fun e w'=>(∃r,e= .returned (.int .i64 r)∧SzR (opsD l).wt left r)∧Below w.heap.size w w':=by
 obtain⟨a,cap,rfl,hn⟩:=IsD.len (c:=4) (n:=l.length) h
 refine(szO_any a l.length cap left w hn h0 h1).mono ?_
 rintro e w' ⟨rfl,rfl⟩
 exact⟨⟨_,rfl,by rw [yu0];exact yt1 _ _⟩,Below.refl _ _⟩
def mdW (m:Md):Nat:=(yaq m.i).wt+(hsD m.h).wt+(evsD m.e).wt
def wdW (v:Wd):Nat:=mdW v.m+(knsD v.k).wt+(ycd v.c).wt
theorem sz_hs (x:Value) (l:List (List O)) (left:Int) (w:World) (h0:0≤left) (h1:left≤1048576) (h:IsD w x (hsD l)):
  Calls Tryz.prog 85 #[x,.int .i64 left] w fun e w'=>(∃r,e= .returned (.int .i64 r)∧SzR (hsD l).wt left r)∧Below w.heap.size w w':=by
 obtain⟨a,cap,rfl,hn1,hn,h⟩:=IsD.parts (c:=1) (n:=l.length) h
 have hn2:l.length≤9223372036854775807:=by unfold maxLen at hn;omega
 clear hn1 hn
 by_cases hp:left-(l.length:Int)<0
 ·go_enter Tryz.func85,Tryz.ntmps85
  go_wp2
  go_ret
  exact⟨⟨_,rfl,.inl rfl⟩,Below.refl _ _⟩
 ·have HLF:Hid (0≤left-(l.length:Int)):=(by omega:0≤left-(l.length:Int))
  go_enter Tryz.func85,Tryz.ntmps85
  go_wp2
  go_loopw [5,1] (fun i z wr=>∃k:Nat,k≤l.length∧i= .int .i64 k∧Below w.heap.size w wr∧ ∃lf:Int,z= .int .i64 lf∧0≤lf∧lf+(l.length:Int)+(sumL (fun i=>(opsD (hAt l i)).wt) k:Int)=left) (fun i _ _=>l.length-(intOf i).toNat)
  case atStart=>exact⟨0,Nat.zero_le _,rfl,Below.refl _ _,left-(l.length:Int),rfl,HLF.out,by simp [sumL]⟩
  case round=>
   obtain⟨k,hk,rfl,hB,lf2,rfl,hz0,hz1⟩:=hrel
   have HZ:=yb1 hz1
   have HB:=yb1 hB
   have hz2:lf2≤1048576:=by omega
   clear hz1
   by_cases hlt:k<l.length
   ·obtain⟨b,off,rfl,hb,hc⟩:=h.resolve_left (by omega)
    obtain⟨u,hu,hd⟩:=hc k (by omega)
    have f0:=(hB.cell (p:=⟨b,off+k,none⟩) hb).trans hu
    have HD:=yb1 (hd.under hB)
    clear h hc hB hd hu
    go_wp2_with fail
    clear f0
    refine(sz_ops _ (hAt l k) _ _ hz0 hz2 HD.out).mono ?_
    rintro e w2 ⟨⟨r,rfl,hr⟩,hb2⟩
    have HB2:=trh HB hb2
    clear hb2
    rcases hr with rfl|⟨r0,hr⟩
    ·go_wp2
     go_ret
     exact⟨⟨_,rfl,.inl rfl⟩,HB2.out⟩
    ·have HR:=yb1 hr
     have r2:¬(r<0):=by omega
     clear hr
     go_wp2
     go_roundw
     case rel=>exact⟨k+1,by omega,by go_num,HB2.out,r,rfl,r0,by have:=HR.out;have:=HZ.out;simp only [sumL];omega⟩
     case measure=>simp [intOf];omega
   ·clear h hB
    go_wp2
    go_ret
    obtain rfl:k=l.length:=by omega
    exact⟨⟨_,rfl,.inr ⟨hz0,by rw [ypy];have:=HZ.out;omega⟩⟩,HB.out⟩
theorem ymj (x:Value) (m:Md) (left:Int) (w:World) (hl0:0≤left) (hl1:left≤1048576) (h:IsM w x m):
  Calls Tryz.prog 38 #[x,.int .i64 left] w fun e w'=>(∃r,e= .returned (.int .i64 r)∧SzR (mdW m) left r)∧Below w.heap.size w w':=by
 obtain⟨vi,vh,vs,rfl,h1,h2,h3⟩:=h
 have H2:=yb1 h1.isD
 have H3:Hid (IsD w vh (hsD m.h)):=h2.isDh
 have H4:=yb1 h3.isD
 clear h1 h2 h3
 obtain⟨W0,hW0⟩:∃W0,w.alloc (.cells #[.int .i64 m.n,.int .i64 m.s,vi,vh,vs,.int .i64 m.z] 26)=W0:=⟨_,rfl⟩
 have HB0:=hdq (beA hW0)
 have HP0:=hdq (bkA hW0)
 have HW:=yb1 hW0
 clear hW0
 go_enter Tryz.func38,Tryz.ntmps38
 have p2:=HP0.out.cell (i:=2) rfl
 go_wp2_with fail
 rw [HW.out]
 clear HW
 clear p2
 refine(yj9 _ m.i left _ hl0 hl1 (H2.out.under HB0.out)).mono ?_
 rintro e w1 ⟨⟨r1,rfl,hr⟩,hb⟩
 have HB1:=trh HB0 hb
 have HP1:=yb1 (HP0.out.below hb)
 clear hb
 rcases hr with rfl|⟨r10,hr⟩
 ·go_wp2
  go_ret
  exact⟨⟨_,rfl,.inl rfl⟩,HB1.out⟩
 have HS1:=yb1 hr
 have r11:r1≤1048576:=by omega
 have r12:¬(r1<0):=by omega
 clear hr
 have p3:=HP1.out.cell (i:=3) rfl
 go_wp2_with fail
 clear p3
 refine(sz_hs _ m.h r1 _ r10 r11 (H3.out.under HB1.out)).mono ?_
 rintro e w2 ⟨⟨r2,rfl,hr⟩,hb⟩
 have HB2:=trh HB1 hb
 have HP2:=yb1 (HP1.out.below hb)
 clear hb
 rcases hr with rfl|⟨r20,hr⟩
 ·go_wp2
  go_ret
  exact⟨⟨_,rfl,.inl rfl⟩,HB2.out⟩
 have HS2:=yb1 hr
 have r21:r2≤1048576:=by omega
 have r22:¬(r2<0):=by omega
 clear hr
 have p4:=HP2.out.cell (i:=4) rfl
 go_wp2_with fail
 clear p4
 refine(ypj _ m.e r2 _ r20 r21 (H4.out.under HB2.out)).mono ?_
 rintro e w3 ⟨⟨r3,rfl,hr⟩,hb⟩
 have HB3:=trh HB2 hb
 have HP3:=yb1 (HP2.out.below hb)
 clear hb
 rcases hr with rfl|⟨r30,hr⟩
 ·go_wp2
  go_ret
  exact⟨⟨_,rfl,.inl rfl⟩,HB3.out⟩
 have HS3:=yb1 hr
 have r31:r3≤1048576:=by omega
 have r32:¬(r3<0):=by omega
 clear hr
 go_wp2
 go_ret
 exact⟨⟨_,rfl,.inr ⟨r30,by have h1:=HS1.out;have h2:=HS2.out;have h3:=HS3.out;show r3+(((mdW m):Nat):Int)=left;unfold mdW;omega⟩⟩,HB3.out⟩
theorem yr3 (x:Value) (k:Kn) (left:Int) (w:World) (hl0:0≤left) (hl1:left≤1048576) (h:IsKern w x k):
  Calls Tryz.prog 18 #[x,.int .i64 left] w fun e w'=>(∃r,e= .returned (.int .i64 r)∧SzR (k.wd) left r)∧Below w.heap.size w w':=by
 obtain⟨vi,vh,vs,u6,u7,u8,u12,u13,rfl,hm,h6,h7,h8,h12,h13⟩:=h
 have HM:=yb1 hm
 have H6:=yb1 h6
 have H7:=yb1 h7
 have H8:=yb1 h8
 have H12:=yb1 h12
 have H13:=yb1 h13
 clear hm h6 h7 h8 h12 h13
 obtain⟨W0,hW0⟩:∃W0,w.alloc (.cells #[.int .i64 k.m.n,.int .i64 k.m.s,vi,vh,vs,.int .i64 k.m.z,u6,u7,u8,.int .i64 k.t,.int .i64 k.q,.bool k.f,u12,u13] 50)=W0:=⟨_,rfl⟩
 have HB0:=hdq (beA hW0)
 have HP0:=hdq (bkA hW0)
 have HW:=yb1 hW0
 clear hW0
 go_enter Tryz.func18,Tryz.ntmps18
 obtain⟨p0,p1,p2,p3,p4,p5⟩:=yvl HP0.out
 go_wp2_with fail
 rw [HW.out]
 clear HW
 clear p0 p1 p2 p3 p4 p5
 refine(ymj _ k.m left _ hl0 hl1 (HM.out.below HB0.out)).mono ?_
 rintro e w1 ⟨⟨r1,rfl,hr⟩,hb⟩
 have HB1:=trh HB0 hb
 have HP1:=yb1 (HP0.out.below hb)
 clear hb
 rcases hr with rfl|⟨r10,hr⟩
 ·go_wp2
  go_ret
  exact⟨⟨_,rfl,.inl rfl⟩,HB1.out⟩
 have HS1:=yb1 hr
 have r11:r1≤1048576:=by omega
 have r12:¬(r1<0):=by omega
 clear hr
 have p6:=HP1.out.cell (i:=6) rfl
 go_wp2_with fail
 clear p6
 refine(yj9 _ k.d r1 _ r10 r11 (H6.out.under HB1.out)).mono ?_
 rintro e w2 ⟨⟨r2,rfl,hr⟩,hb⟩
 have HB2:=trh HB1 hb
 have HP2:=yb1 (HP1.out.below hb)
 clear hb
 rcases hr with rfl|⟨r20,hr⟩
 ·go_wp2
  go_ret
  exact⟨⟨_,rfl,.inl rfl⟩,HB2.out⟩
 have HS2:=yb1 hr
 have r21:r2≤1048576:=by omega
 have r22:¬(r2<0):=by omega
 clear hr
 have p7:=HP2.out.cell (i:=7) rfl
 go_wp2_with fail
 clear p7
 refine(sz_parts _ k.p r2 _ r20 r21 (H7.out.under HB2.out)).mono ?_
 rintro e w3 ⟨⟨r3,rfl,hr⟩,hb⟩
 have HB3:=trh HB2 hb
 have HP3:=yb1 (HP2.out.below hb)
 clear hb
 rcases hr with rfl|⟨r30,hr⟩
 ·go_wp2
  go_ret
  exact⟨⟨_,rfl,.inl rfl⟩,HB3.out⟩
 have HS3:=yb1 hr
 have r31:r3≤1048576:=by omega
 have r32:¬(r3<0):=by omega
 clear hr
 have p8:=HP3.out.cell (i:=8) rfl
 go_wp2_with fail
 clear p8
 refine(sz_mails _ k.b r3 _ r30 r31 (H8.out.under HB3.out)).mono ?_
 rintro e w4 ⟨⟨r4,rfl,hr⟩,hb⟩
 have HB4:=trh HB3 hb
 have HP4:=yb1 (HP3.out.below hb)
 clear hb
 rcases hr with rfl|⟨r40,hr⟩
 ·go_wp2
  go_ret
  exact⟨⟨_,rfl,.inl rfl⟩,HB4.out⟩
 have HS4:=yb1 hr
 have r41:r4≤1048576:=by omega
 have r42:¬(r4<0):=by omega
 clear hr
 have p12:=HP4.out.cell (i:=12) rfl
 go_wp2_with fail
 clear p12
 refine(ypj _ k.s r4 _ r40 r41 (H12.out.under HB4.out)).mono ?_
 rintro e w5 ⟨⟨r5,rfl,hr⟩,hb⟩
 have HB5:=trh HB4 hb
 have HP5:=yb1 (HP4.out.below hb)
 clear hb
 rcases hr with rfl|⟨r50,hr⟩
 ·go_wp2
  go_ret
  exact⟨⟨_,rfl,.inl rfl⟩,HB5.out⟩
 have HS5:=yb1 hr
 have r51:r5≤1048576:=by omega
 have r52:¬(r5<0):=by omega
 clear hr
 have p13:=HP5.out.cell (i:=13) rfl
 go_wp2_with fail
 clear p13
 refine(sz_ems _ k.x r5 _ r50 r51 (H13.out.under HB5.out)).mono ?_
 rintro e w6 ⟨⟨r6,rfl,hr⟩,hb⟩
 have HB6:=trh HB5 hb
 have HP6:=yb1 (HP5.out.below hb)
 clear hb
 rcases hr with rfl|⟨r60,hr⟩
 ·go_wp2
  go_ret
  exact⟨⟨_,rfl,.inl rfl⟩,HB6.out⟩
 have HS6:=yb1 hr
 have r61:r6≤1048576:=by omega
 have r62:¬(r6<0):=by omega
 clear hr
 go_wp2
 go_ret
 exact⟨⟨_,rfl,.inr ⟨r60,by have h1:=HS1.out;have h2:=HS2.out;have h3:=HS3.out;have h4:=HS4.out;have h5:=HS5.out;have h6:=HS6.out;show r6+(((k.wd):Nat):Int)=left;unfold mdW at h1;unfold Kn.wd;omega⟩⟩,HB6.out⟩
theorem sz_knsR (x:Value) (l:List Kn) (left:Int) (w:World) (h0:0≤left) (h1:left≤1048576) (h:IsKs w x l):
  Calls Tryz.prog 39 #[x,.int .i64 left] w fun e w'=>(∃r,e= .returned (.int .i64 r)∧SzR (knsD l).wt left r)∧Below w.heap.size w w':=by
 obtain⟨a,cap,rfl,hn1,hn,h⟩:=h
 have hn2:l.length≤9223372036854775807:=by unfold maxLen at hn;omega
 clear hn1 hn
 by_cases hp:left-(l.length:Int)<0
 ·go_enter Tryz.func39,Tryz.ntmps39
  go_wp2
  go_ret
  exact⟨⟨_,rfl,.inl rfl⟩,Below.refl _ _⟩
 ·have HLF:Hid (0≤left-(l.length:Int)):=(by omega:0≤left-(l.length:Int))
  go_enter Tryz.func39,Tryz.ntmps39
  go_wp2
  go_loopw [5,1] (fun i z wr=>∃k:Nat,k≤l.length∧i= .int .i64 k∧Below w.heap.size w wr∧ ∃lf:Int,z= .int .i64 lf∧0≤lf∧lf+(l.length:Int)+(sumL (fun i=>(knAt l i).wd) k:Int)=left) (fun i _ _=>l.length-(intOf i).toNat)
  case atStart=>exact⟨0,Nat.zero_le _,rfl,Below.refl _ _,left-(l.length:Int),rfl,HLF.out,by simp [sumL]⟩
  case round=>
   obtain⟨k,hk,rfl,hB,lf2,rfl,hz0,hz1⟩:=hrel
   have HZ:=yb1 hz1
   have HB:=yb1 hB
   have hz2:lf2≤1048576:=by omega
   clear hz1
   by_cases hlt:k<l.length
   ·obtain⟨b,off,rfl,hb,hc⟩:=h.resolve_left (by omega)
    obtain⟨vi,vh,vs,u6,u7,u8,u12,u13,⟨f0,f1,f2,f3,f4,f5,f6,f7,f8,f9,f10,f11,f12,f13⟩,hD⟩:=(hc k hlt).under hb hB
    have HD:=yb1 hD
    clear h hc hB hD
    go_wp2_with fail
    clear f0 f1 f2 f3 f4 f5 f6 f7 f8 f9 f10 f11 f12 f13
    refine(yr3 _ (knAt l k) _ _ hz0 hz2 HD.out).mono ?_
    rintro e w2 ⟨⟨r,rfl,hr⟩,hb2⟩
    have HB2:=trh HB hb2
    clear hb2
    rcases hr with rfl|⟨r0,hr⟩
    ·go_wp2
     go_ret
     exact⟨⟨_,rfl,.inl rfl⟩,HB2.out⟩
    ·have HR:=yb1 hr
     have r2:¬(r<0):=by omega
     clear hr
     go_wp2
     go_roundw
     case rel=>exact⟨k+1,by omega,by go_num,HB2.out,r,rfl,r0,by have:=HR.out;have:=HZ.out;simp only [sumL];omega⟩
     case measure=>simp [intOf];omega
   ·clear h hB
    go_wp2
    go_ret
    obtain rfl:k=l.length:=by omega
    exact⟨⟨_,rfl,.inr ⟨hz0,by rw [ylm];have:=HZ.out;omega⟩⟩,HB.out⟩
theorem yt0 (x:Value) (v:Wd) (left:Int) (w:World) (hl0:0≤left) (hl1:left≤1048576) (h:IsW w x v):
  Calls Tryz.prog 9 #[x,.int .i64 left] w fun e w'=>(∃r,e= .returned (.int .i64 r)∧SzR (wdW v) left r)∧Below w.heap.size w w':=by
 obtain⟨vi,vh,vs,uk,uc,rfl,hm,hk,hc⟩:=h
 have HM:=yb1 hm
 have HK:Hid (IsKs w uk v.k):=hk
 have HC:=yb1 hc
 clear hm hk hc
 obtain⟨W0,hW0⟩:∃W0,w.alloc (.cells #[.int .i64 v.m.n,.int .i64 v.m.s,vi,vh,vs,.int .i64 v.m.z,uk,uc] 30)=W0:=⟨_,rfl⟩
 have HB0:=hdq (beA hW0)
 have HP0:=hdq (bkA hW0)
 have HW:=yb1 hW0
 clear hW0
 go_enter Tryz.func9,Tryz.ntmps9
 obtain⟨p0,p1,p2,p3,p4,p5⟩:=c6_8 HP0.out
 go_wp2_with fail
 rw [HW.out]
 clear HW
 clear p0 p1 p2 p3 p4 p5
 refine(ymj _ v.m left _ hl0 hl1 (HM.out.below HB0.out)).mono ?_
 rintro e w1 ⟨⟨r1,rfl,hr⟩,hb⟩
 have HB1:=trh HB0 hb
 have HP1:=yb1 (HP0.out.below hb)
 clear hb
 rcases hr with rfl|⟨r10,hr⟩
 ·go_wp2
  go_ret
  exact⟨⟨_,rfl,.inl rfl⟩,HB1.out⟩
 have HS1:=yb1 hr
 have r11:r1≤1048576:=by omega
 have r12:¬(r1<0):=by omega
 clear hr
 have p6:=HP1.out.cell (i:=6) rfl
 go_wp2_with fail
 clear p6
 refine(sz_knsR _ v.k r1 _ r10 r11 (HK.out.under HB1.out)).mono ?_
 rintro e w2 ⟨⟨r2,rfl,hr⟩,hb⟩
 have HB2:=trh HB1 hb
 have HP2:=yb1 (HP1.out.below hb)
 clear hb
 rcases hr with rfl|⟨r20,hr⟩
 ·go_wp2
  go_ret
  exact⟨⟨_,rfl,.inl rfl⟩,HB2.out⟩
 have HS2:=yb1 hr
 have r21:r2≤1048576:=by omega
 have r22:¬(r2<0):=by omega
 clear hr
 have p7:=HP2.out.cell (i:=7) rfl
 go_wp2_with fail
 clear p7
 refine(sz_vecs _ v.c r2 _ r20 r21 (HC.out.under HB2.out)).mono ?_
 rintro e w3 ⟨⟨r3,rfl,hr⟩,hb⟩
 have HB3:=trh HB2 hb
 have HP3:=yb1 (HP2.out.below hb)
 clear hb
 rcases hr with rfl|⟨r30,hr⟩
 ·go_wp2
  go_ret
  exact⟨⟨_,rfl,.inl rfl⟩,HB3.out⟩
 have HS3:=yb1 hr
 have r31:r3≤1048576:=by omega
 have r32:¬(r3<0):=by omega
 clear hr
 go_wp2
 go_ret
 exact⟨⟨_,rfl,.inr ⟨r30,by have h1:=HS1.out;have h2:=HS2.out;have h3:=HS3.out;show r3+(((wdW v):Nat):Int)=left;unfold mdW at h1;unfold wdW mdW;omega⟩⟩,HB3.out⟩
theorem ylj {m:Md} (h:mdW m≤1048576):SmallM m:=by
 unfold mdW at h
 rw [yal,ypy,yb2]at h
 have hw:∀i,(opsD (hAt m.h i)).wt=(hAt m.h i).length:=fun i=>yu0 _
 refine⟨by omega,by omega,fun i=> ?_,?_,by omega⟩
 ·by_cases hi:i<m.h.length
  ·have:=yfd (fun i=>(opsD (hAt m.h i)).wt) hi
   have:=hw i
   omega
  ·rw [yuz (by omega)];simp
 ·have e:sumL (fun i=>(opsD (hAt m.h i)).wt) m.h.length=sumL (lens m.h) m.h.length:=by
   congr 1
   funext i
   exact hw i
  omega
theorem yl1 {v:Wd} (h:wdW v≤1048576):ycc v∧TinyW v:=by
 unfold wdW at h
 have hk:=ylm v.k
 refine⟨⟨ylj (by omega),⟨by omega,fun i hi=> ?_⟩,by omega⟩,⟨ylj (by omega),by omega,by omega⟩⟩
 have h1:=yfd (fun i=>(knAt v.k i).wd) hi
 have h2:(knAt v.k i).wd≤1048576:=by have:(fun i=>(knAt v.k i).wd) i=(knAt v.k i).wd:=rfl;omega
 unfold Kn.wd at h2
 refine⟨ylj (by unfold mdW;omega),?_⟩
 unfold Kn.wt
 omega
end Go.Proofs.YtmobiieoecjmdaaGreat

