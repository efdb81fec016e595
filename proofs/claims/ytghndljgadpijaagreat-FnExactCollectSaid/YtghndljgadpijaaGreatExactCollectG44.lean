/- PsN, TPpE, KDb, KMg, KDe, TPpF -/
import Derived.Test.YtghndljgadpijaaGreatExactCollectG19
import Derived.Test.YtghndljgadpijaaGreatExactCollectG05
import Derived.Test.YtghndljgadpijaaGreatExactCollectG36
import Derived.Test.YtghndljgadpijaaGreatExactCollectG01
import Derived.Test.YtghndljgadpijaaGreatExactCollectG03
import Derived.Test.YtghndljgadpijaaGreatExactCollectG06
/- There is a past. -/
namespace Go.Proofs.YtghndljgadpijaaGreat
open Go.RowKit
theorem psF_some:Nonempty PsF:=⟨⟨(⟨⟨0,0,1,0,0,0,1⟩,⟨[],0,0⟩,[],[]⟩,.slice none 0 0,.slice none 0 0,.slice none 0 0),by decide,⟨_,_,_,rfl⟩,⟨_,_,_,rfl⟩,⟨_,_,_,rfl⟩⟩⟩
theorem yxf {p:Prop} (h:p):Hid p:=h
set_option maxRecDepth 100000 in
set_option maxHeartbeats 8000000 in
theorem zfm {F:Nat→Prop} {x:Value} {l:List Pa} {w:World} (z:Int) (hn:(ywi l).wt≤1048577) (hz0:0≤z) (hz1:z+((ywi l).cnt:Int)≤1073741824) (h:OwnD w F x (ywi l)):
    Calls Tryz.prog 60 #[x,.int .i64 z] w fun e w'=>e= .returned (.int .i64 (z+((ywi l).cnt:Int)))∧OwnD w' F x ((ywi l).mark z)∧Turns F w w':=by
  obtain⟨a,cap,rfl,h1,h2,ha⟩:=OwnD.parts (c:=7) (n:=l.length) h
  have HR0:=yxf (OwnD.mk0 z h)
  have HS:=yxf hn
  have HZ:=yxf hz1
  have hl2:l.length≤1048577:=by rw [yyb]at hn;omega
  clear h hn hz1 h1 h2
  go_enter Tryz.func60,Tryz.ntmps60
  go_wp2
  go_loopw [5,1] (fun i y wr=>∃k:Nat,k≤l.length∧i= .int .i64 k∧y= .int .i64 (z+(sumC (yfa l) (k*7):Int))∧OwnD wr F (.slice a l.length cap) (.row 7 l.length (mkD (yfa l) z (k*7)))∧Turns F w wr) (fun i _ _=>l.length-(intOf i).toNat)
  case atStart=>exact⟨0,Nat.zero_le _,rfl,by simp [sumC,sumL],HR0.out,Turns.refl _ _⟩
  case round=>
    obtain⟨k,hk,rfl,rfl,hR,hT⟩:=hrel
    have HR:=yxf hR
    have HT:Hid (Turns F w wr):=hT
    clear hR hT
    by_cases hlt:k<l.length
    · obtain⟨g,rfl,_,hFg⟩:=ha.resolve_left (by omega)
      have HF:Hid (F g):=hFg
      have hwt:(paAt l k).wt≤1048577:=Nat.le_trans (Pa.wt_le hlt) HS.out
      unfold Pa.wt at hwt
      simp only [yx0,ywf]at hwt
      obtain⟨m,hm⟩:∃m,m=k*7:=⟨_,rfl⟩
      have E0:=yxf (yxn l k (r:=0) (by omega))
      have E1:=yxf (yxn l k (r:=1) (by omega))
      have E2:=yxf (yxn l k (r:=2) (by omega))
      have E3:=yxf (yxn l k (r:=3) (by omega))
      have E4:=yxf (yxn l k (r:=4) (by omega))
      have E5:=yxf (yxn l k (r:=5) (by omega))
      have E6:=yxf (yxn l k (r:=6) (by omega))
      have C0:Hid (sumC (yfa l) (k*7)≤(ywi l).cnt):=ywa (by omega)
      have S1:Hid (sumC (yfa l) (k*7+1)=sumC (yfa l) (k*7)+(Dat.val (.int .i64 (paAt l k).n)).cnt):=by
        have e:=yvk (yfa l) (k*7+0)
        rw [E0.out]at e
        exact e
      have C1:Hid (sumC (yfa l) (k*7+1)≤(ywi l).cnt):=ywa (by omega)
      have S2:Hid (sumC (yfa l) (k*7+2)=sumC (yfa l) (k*7+1)+(ywr (paAt l k).st.r).cnt):=by
        have e:=yvk (yfa l) (k*7+1)
        rw [E1.out]at e
        exact e
      have C2:Hid (sumC (yfa l) (k*7+2)≤(ywi l).cnt):=ywa (by omega)
      have S3:Hid (sumC (yfa l) (k*7+3)=sumC (yfa l) (k*7+2)+(Dat.val (.int .i64 (paAt l k).st.q)).cnt):=by
        have e:=yvk (yfa l) (k*7+2)
        rw [E2.out]at e
        exact e
      have C3:Hid (sumC (yfa l) (k*7+3)≤(ywi l).cnt):=ywa (by omega)
      have S4:Hid (sumC (yfa l) (k*7+4)=sumC (yfa l) (k*7+3)+(Dat.val (.int .i64 (paAt l k).st.d)).cnt):=by
        have e:=yvk (yfa l) (k*7+3)
        rw [E3.out]at e
        exact e
      have C4:Hid (sumC (yfa l) (k*7+4)≤(ywi l).cnt):=ywa (by omega)
      have S5:Hid (sumC (yfa l) (k*7+5)=sumC (yfa l) (k*7+4)+(yw3 (paAt l k).p).cnt):=by
        have e:=yvk (yfa l) (k*7+4)
        rw [E4.out]at e
        exact e
      have C5:Hid (sumC (yfa l) (k*7+5)≤(ywi l).cnt):=ywa (by omega)
      have S6:Hid (sumC (yfa l) (k*7+6)=sumC (yfa l) (k*7+5)+(evsD (paAt l k).t).cnt):=by
        have e:=yvk (yfa l) (k*7+5)
        rw [E5.out]at e
        exact e
      have C6:Hid (sumC (yfa l) (k*7+6)≤(ywi l).cnt):=ywa (by omega)
      have S7:Hid (sumC (yfa l) (k*7+7)=sumC (yfa l) (k*7+6)+(ywr (paAt l k).a).cnt):=by
        have e:=yvk (yfa l) (k*7+6)
        rw [E6.out]at e
        exact e
      have C7:Hid (sumC (yfa l) (k*7+7)≤(ywi l).cnt):=ywa (by omega)
      obtain⟨y,hy⟩:∃y:Int,y=z+(sumC (yfa l) (k*7):Int):=⟨_,rfl⟩
      have HY0:=yxf hy
      have y0:0≤y:=by omega
      rw [←hy]
      clear hy hm
      obtain⟨x0,_,g0,z0,_⟩:=HR.out.step (j:=k*7) (by omega)
      obtain⟨Y1,hY1⟩:∃Y1,wr.setCell ⟨g,k*7,none⟩ (.int .i64 y)=Y1:=⟨_,rfl⟩
      have HR1:Hid (OwnD Y1 F (.slice (some ⟨g,0,none⟩) l.length cap) (.row 7 l.length (mkD (yfa l) z (k*7+1)))):=hY1▸HR.out.mk_val (m:=k*7) (by omega) E0.out (by
        show _=Value.int .i64 (z+(sumC (yfa l) (k*7):Int))
        rw [show y=z+(sumC (yfa l) (k*7):Int)from by(have e:=HY0.out;simp only [Dat.cnt]at*;omega)])
      have HT1:Hid (Turns F w Y1):=HT.out.trans (hY1▸(yag _ _ _ _).mono (fun b e=>by subst e;exact HF.out))
      obtain⟨u1,K1,g1,o1,f1,b1⟩:=HR1.out.mk_row (m:=k*7+1) (by omega)
      rw [E1.out]at o1 b1
      have O1:=yxf o1
      have B1:=yxf b1
      have F1:Hid (∀b,K1 b→F b):=f1
      clear o1 b1 f1
      have hq1:y+1=z+(sumC (yfa l) (k*7+1):Int):=by(have e:=HY0.out;have e1:=S1.out;simp only [Dat.cnt]at*;omega)
      have hb1:y+1≤1073741824:=by have:=HZ.out;have:=C1.out;omega
      have Q1:=yxf hq1
      clear hq1
      go_wp2_with fail
      clear g1 hY1 z0 g0
      refine(zbk (F:=K1) (l:=(paAt l k).st.r) (y+1) (by omega) (by omega) (by omega) O1.out).mono ?_
      rintro e w2 ⟨rfl,hr,ht⟩
      rw [Q1.out]at hr
      have HR2:=yxf (B1.out _ hr ht)
      have HT2:Hid (Turns F w w2):=HT1.out.trans (ht.mono F1.out)
      clear hr ht
      obtain⟨y1,hy⟩:∃y1:Int,y1=y+1+((ywr (paAt l k).st.r).cnt:Int):=⟨_,rfl⟩
      have HY2:Hid (y1=z+(sumC (yfa l) (k*7+2):Int)):=by
        have h8:=S2.out
        have h9:=Q1.out
        show y1=_
        omega
      have y10:0≤y1:=by omega
      have y11:y1≤1073741824:=by have h7:=HZ.out;have h8:=C2.out;have h9:=HY2.out;omega
      rw [←hy]
      clear hy
      obtain⟨x2,_,g2,z2,_⟩:=HR2.out.step (j:=k*7+2) (by omega)
      obtain⟨Y3,hY3⟩:∃Y3,w2.setCell ⟨g,k*7+2,none⟩ (.int .i64 y1)=Y3:=⟨_,rfl⟩
      have HR3:Hid (OwnD Y3 F (.slice (some ⟨g,0,none⟩) l.length cap) (.row 7 l.length (mkD (yfa l) z (k*7+3)))):=hY3▸HR2.out.mk_val (m:=k*7+2) (by omega) E2.out (by
        show _=Value.int .i64 (z+(sumC (yfa l) (k*7+2):Int))
        rw [show y1=z+(sumC (yfa l) (k*7+2):Int)from by(have e:=HY2.out;simp only [Dat.cnt]at*;omega)])
      have HT3:Hid (Turns F w Y3):=HT2.out.trans (hY3▸(yag _ _ _ _).mono (fun b e=>by subst e;exact HF.out))
      obtain⟨x3,_,g3,z3,_⟩:=HR3.out.step (j:=k*7+3) (by omega)
      obtain⟨Y4,hY4⟩:∃Y4,Y3.setCell ⟨g,k*7+3,none⟩ (.int .i64 (y1+1))=Y4:=⟨_,rfl⟩
      have HR4:Hid (OwnD Y4 F (.slice (some ⟨g,0,none⟩) l.length cap) (.row 7 l.length (mkD (yfa l) z (k*7+4)))):=hY4▸HR3.out.mk_val (m:=k*7+3) (by omega) E3.out (by
        show _=Value.int .i64 (z+(sumC (yfa l) (k*7+3):Int))
        rw [show y1+1=z+(sumC (yfa l) (k*7+3):Int)from by(have e:=HY2.out;have e3:=S3.out;simp only [Dat.cnt]at*;omega)])
      have HT4:Hid (Turns F w Y4):=HT3.out.trans (hY4▸(yag _ _ _ _).mono (fun b e=>by subst e;exact HF.out))
      obtain⟨u4,K4,g4,o4,f4,b4⟩:=HR4.out.mk_row (m:=k*7+4) (by omega)
      rw [E4.out]at o4 b4
      have O4:=yxf o4
      have B4:=yxf b4
      have F4:Hid (∀b,K4 b→F b):=f4
      clear o4 b4 f4
      have hq4:y1+1+1=z+(sumC (yfa l) (k*7+4):Int):=by(have e:=HY2.out;have e3:=S3.out;have e4:=S4.out;simp only [Dat.cnt]at*;omega)
      have hb4:y1+1+1≤1073741824:=by have:=HZ.out;have:=C4.out;omega
      have Q4:=yxf hq4
      clear hq4
      go_wp2_with fail
      clear g4 hY4 z3 g3 hY3 z2 g2
      refine(zm6 (F:=K4) (l:=(paAt l k).p) (y1+1+1) (by omega) (by omega) (by have h6:=S5.out;have h7:=HZ.out;have h8:=C5.out;have h9:=Q4.out;omega) O4.out).mono ?_
      rintro e w5 ⟨rfl,hr,ht⟩
      rw [Q4.out]at hr
      have HR5:=yxf (B4.out _ hr ht)
      have HT5:Hid (Turns F w w5):=HT4.out.trans (ht.mono F4.out)
      clear hr ht
      obtain⟨y4,hy⟩:∃y4:Int,y4=y1+1+1+((yw3 (paAt l k).p).cnt:Int):=⟨_,rfl⟩
      have HY5:Hid (y4=z+(sumC (yfa l) (k*7+5):Int)):=by
        have h8:=S5.out
        have h9:=Q4.out
        show y4=_
        omega
      have y40:0≤y4:=by omega
      have y41:y4≤1073741824:=by have h7:=HZ.out;have h8:=C5.out;have h9:=HY5.out;omega
      rw [←hy]
      clear hy
      obtain⟨u5,K5,g5,o5,f5,b5⟩:=HR5.out.mk_row (m:=k*7+5) (by omega)
      rw [E5.out]at o5 b5
      have O5:=yxf o5
      have B5:=yxf b5
      have F5:Hid (∀b,K5 b→F b):=f5
      clear o5 b5 f5
      have hq5:y4=z+(sumC (yfa l) (k*7+5):Int):=by(have e:=HY5.out;simp only [Dat.cnt]at*;omega)
      have hb5:y4≤1073741824:=by have:=HZ.out;have:=C5.out;omega
      have Q5:=yxf hq5
      clear hq5
      go_wp2_with fail
      clear g5
      refine(ze5 (F:=K5) (l:=(paAt l k).t) (y4) (by omega) (by omega) (by omega) O5.out).mono ?_
      rintro e w6 ⟨rfl,hr,ht⟩
      rw [Q5.out]at hr
      have HR6:=yxf (B5.out _ hr ht)
      have HT6:Hid (Turns F w w6):=HT5.out.trans (ht.mono F5.out)
      clear hr ht
      obtain⟨y5,hy⟩:∃y5:Int,y5=y4+((evsD (paAt l k).t).cnt:Int):=⟨_,rfl⟩
      have HY6:Hid (y5=z+(sumC (yfa l) (k*7+6):Int)):=by
        have h8:=S6.out
        have h9:=Q5.out
        show y5=_
        omega
      have y50:0≤y5:=by omega
      have y51:y5≤1073741824:=by have h7:=HZ.out;have h8:=C6.out;have h9:=HY6.out;omega
      rw [←hy]
      clear hy
      obtain⟨u6,K6,g6,o6,f6,b6⟩:=HR6.out.mk_row (m:=k*7+6) (by omega)
      rw [E6.out]at o6 b6
      have O6:=yxf o6
      have B6:=yxf b6
      have F6:Hid (∀b,K6 b→F b):=f6
      clear o6 b6 f6
      have hq6:y5=z+(sumC (yfa l) (k*7+6):Int):=by(have e:=HY6.out;simp only [Dat.cnt]at*;omega)
      have hb6:y5≤1073741824:=by have:=HZ.out;have:=C6.out;omega
      have Q6:=yxf hq6
      clear hq6
      go_wp2_with fail
      clear g6
      refine(zbk (F:=K6) (l:=(paAt l k).a) (y5) (by omega) (by omega) (by omega) O6.out).mono ?_
      rintro e w7 ⟨rfl,hr,ht⟩
      rw [Q6.out]at hr
      have HR7:=yxf (B6.out _ hr ht)
      have HT7:Hid (Turns F w w7):=HT6.out.trans (ht.mono F6.out)
      clear hr ht
      obtain⟨y6,hy⟩:∃y6:Int,y6=y5+((ywr (paAt l k).a).cnt:Int):=⟨_,rfl⟩
      have HY7:Hid (y6=z+(sumC (yfa l) (k*7+7):Int)):=by
        have h8:=S7.out
        have h9:=Q6.out
        show y6=_
        omega
      have y60:0≤y6:=by omega
      have y61:y6≤1073741824:=by have h7:=HZ.out;have h8:=C7.out;have h9:=HY7.out;omega
      rw [←hy]
      clear hy
      go_wp2
      go_roundw
      case rel=>
        refine⟨k+1,by omega,by go_num,?_,?_,HT7.out⟩
        · rw [show y6=z+(sumC (yfa l) ((k+1)*7):Int)from by rw [show(k+1)*7=k*7+7 from by omega];(have e:=HY7.out;simp only [Dat.cnt]at*;omega)]
        · rw [show(k+1)*7=k*7+7 from by omega]
          exact HR7.out
      case measure=>simp [intOf];omega
    · go_wp2
      go_ret
      obtain rfl:k=l.length:=by omega
      exact⟨rfl,HR.out.mkAll,HT.out⟩
theorem zat {p:Prop} (h:p):Hid p:=h
def ye9 (l:List Ml):Nat→Dat:=fun j=> .val ((yxk l).getD j (.int .i64 0))
theorem yxu (l:List Ml) {i r:Nat} (hi:i<l.length) (hr:r<8):ye9 l (i*8+r)= .val ((mlAt l i).cs.getD r (.int .i64 0)):=by
  unfold ye9
  congr 1
  have h1:=yxt l i r hi hr
  have h2:r<(mlAt l i).cs.length:=by simpa [Ml.cs] using hr
  rw [List.getElem?_eq_getElem h2]at h1
  rw [yxj h1,yxj (List.getElem?_eq_getElem h2)]
set_option maxRecDepth 100000 in
set_option maxHeartbeats 8000000 in
theorem zfn {F:Nat→Prop} {x:Value} {l:List Ml} {w:World} (z:Int) (hn:(yww l).wt≤1048577) (hz0:0≤z) (hz1:z+((yww l).cnt:Int)≤1073741824) (h:OwnD w F x (yww l)):
    Calls Tryz.prog 61 #[x,.int .i64 z] w fun e w'=>e= .returned (.int .i64 (z+((yww l).cnt:Int)))∧OwnD w' F x ((yww l).mark z)∧Turns F w w':=by
  obtain⟨a,cap,rfl,h1,h2,ha⟩:=OwnD.parts (c:=8) (n:=l.length) h
  have HR0:=zat (OwnD.mk0 z h)
  have HS:=zat hn
  have HZ:=zat hz1
  have hl2:l.length≤1048577:=by rw [yy9]at hn;omega
  clear h hn hz1 h1 h2
  go_enter Tryz.func61,Tryz.ntmps61
  go_wp2
  go_loopw [5,1] (fun i y wr=>∃k:Nat,k≤l.length∧i= .int .i64 k∧y= .int .i64 (z+(sumC (ye9 l) (k*8):Int))∧OwnD wr F (.slice a l.length cap) (.row 8 l.length (mkD (ye9 l) z (k*8)))∧Turns F w wr) (fun i _ _=>l.length-(intOf i).toNat)
  case atStart=>exact⟨0,Nat.zero_le _,rfl,by simp [sumC,sumL],HR0.out,Turns.refl _ _⟩
  case round=>
    obtain⟨k,hk,rfl,rfl,hR,hT⟩:=hrel
    have HR:=zat hR
    have HT:Hid (Turns F w wr):=hT
    clear hR hT
    by_cases hlt:k<l.length
    · obtain⟨g,rfl,_,hFg⟩:=ha.resolve_left (by omega)
      have HF:Hid (F g):=hFg
      obtain⟨m,hm⟩:∃m,m=k*8:=⟨_,rfl⟩
      have E0:=zat (yxu l hlt (r:=0) (by omega))
      have E1:=zat (yxu l hlt (r:=1) (by omega))
      have E2:=zat (yxu l hlt (r:=2) (by omega))
      have E3:=zat (yxu l hlt (r:=3) (by omega))
      have E4:=zat (yxu l hlt (r:=4) (by omega))
      have E5:=zat (yxu l hlt (r:=5) (by omega))
      have E6:=zat (yxu l hlt (r:=6) (by omega))
      have E7:=zat (yxu l hlt (r:=7) (by omega))
      have C0:Hid (sumC (ye9 l) (k*8)≤(yww l).cnt):=ywa (by omega)
      have S1:Hid (sumC (ye9 l) (k*8+1)=sumC (ye9 l) (k*8)+(Dat.val (.int .i64 (mlAt l k).e.t)).cnt):=by
        have e:=yvk (ye9 l) (k*8+0)
        rw [E0.out]at e
        exact e
      have C1:Hid (sumC (ye9 l) (k*8+1)≤(yww l).cnt):=ywa (by omega)
      have S2:Hid (sumC (ye9 l) (k*8+2)=sumC (ye9 l) (k*8+1)+(Dat.val (.int .i64 (mlAt l k).e.s)).cnt):=by
        have e:=yvk (ye9 l) (k*8+1)
        rw [E1.out]at e
        exact e
      have C2:Hid (sumC (ye9 l) (k*8+2)≤(yww l).cnt):=ywa (by omega)
      have S3:Hid (sumC (ye9 l) (k*8+3)=sumC (ye9 l) (k*8+2)+(Dat.val (.int .i64 (mlAt l k).e.q)).cnt):=by
        have e:=yvk (ye9 l) (k*8+2)
        rw [E2.out]at e
        exact e
      have C3:Hid (sumC (ye9 l) (k*8+3)≤(yww l).cnt):=ywa (by omega)
      have S4:Hid (sumC (ye9 l) (k*8+4)=sumC (ye9 l) (k*8+3)+(Dat.val (.int .i64 (mlAt l k).e.d)).cnt):=by
        have e:=yvk (ye9 l) (k*8+3)
        rw [E3.out]at e
        exact e
      have C4:Hid (sumC (ye9 l) (k*8+4)≤(yww l).cnt):=ywa (by omega)
      have S5:Hid (sumC (ye9 l) (k*8+5)=sumC (ye9 l) (k*8+4)+(Dat.val (.int .i64 (mlAt l k).e.k)).cnt):=by
        have e:=yvk (ye9 l) (k*8+4)
        rw [E4.out]at e
        exact e
      have C5:Hid (sumC (ye9 l) (k*8+5)≤(yww l).cnt):=ywa (by omega)
      have S6:Hid (sumC (ye9 l) (k*8+6)=sumC (ye9 l) (k*8+5)+(Dat.val (.int .i64 (mlAt l k).e.v)).cnt):=by
        have e:=yvk (ye9 l) (k*8+5)
        rw [E5.out]at e
        exact e
      have C6:Hid (sumC (ye9 l) (k*8+6)≤(yww l).cnt):=ywa (by omega)
      have S7:Hid (sumC (ye9 l) (k*8+7)=sumC (ye9 l) (k*8+6)+(Dat.val (.int .i64 (mlAt l k).e.g)).cnt):=by
        have e:=yvk (ye9 l) (k*8+6)
        rw [E6.out]at e
        exact e
      have C7:Hid (sumC (ye9 l) (k*8+7)≤(yww l).cnt):=ywa (by omega)
      have S8:Hid (sumC (ye9 l) (k*8+8)=sumC (ye9 l) (k*8+7)+(Dat.val (.bool (mlAt l k).a)).cnt):=by
        have e:=yvk (ye9 l) (k*8+7)
        rw [E7.out]at e
        exact e
      have C8:Hid (sumC (ye9 l) (k*8+8)≤(yww l).cnt):=ywa (by omega)
      have T0:sumC (ye9 l) (k*8)=sumC (ye9 l) (k*8)+0:=rfl
      have T1:sumC (ye9 l) (k*8+1)=sumC (ye9 l) (k*8)+1:=by have e1:=S1.out;have e2:=T0;exact e1.trans (by show sumC (ye9 l) (k*8)+1=_;omega)
      have T2:sumC (ye9 l) (k*8+2)=sumC (ye9 l) (k*8)+2:=by have e1:=S2.out;have e2:=T1;exact e1.trans (by show sumC (ye9 l) (k*8+1)+1=_;omega)
      have T3:sumC (ye9 l) (k*8+3)=sumC (ye9 l) (k*8)+3:=by have e1:=S3.out;have e2:=T2;exact e1.trans (by show sumC (ye9 l) (k*8+2)+1=_;omega)
      have T4:sumC (ye9 l) (k*8+4)=sumC (ye9 l) (k*8)+4:=by have e1:=S4.out;have e2:=T3;exact e1.trans (by show sumC (ye9 l) (k*8+3)+1=_;omega)
      have T5:sumC (ye9 l) (k*8+5)=sumC (ye9 l) (k*8)+5:=by have e1:=S5.out;have e2:=T4;exact e1.trans (by show sumC (ye9 l) (k*8+4)+1=_;omega)
      have T6:sumC (ye9 l) (k*8+6)=sumC (ye9 l) (k*8)+6:=by have e1:=S6.out;have e2:=T5;exact e1.trans (by show sumC (ye9 l) (k*8+5)+1=_;omega)
      have T7:sumC (ye9 l) (k*8+7)=sumC (ye9 l) (k*8)+7:=by have e1:=S7.out;have e2:=T6;exact e1.trans (by show sumC (ye9 l) (k*8+6)+1=_;omega)
      have T8:sumC (ye9 l) (k*8+8)=sumC (ye9 l) (k*8)+8:=by have e1:=S8.out;have e2:=T7;exact e1.trans (by show sumC (ye9 l) (k*8+7)+1=_;omega)
      have TT:Hid (sumC (ye9 l) (k*8+1)=sumC (ye9 l) (k*8)+1∧sumC (ye9 l) (k*8+2)=sumC (ye9 l) (k*8)+2∧sumC (ye9 l) (k*8+3)=sumC (ye9 l) (k*8)+3∧sumC (ye9 l) (k*8+4)=sumC (ye9 l) (k*8)+4∧sumC (ye9 l) (k*8+5)=sumC (ye9 l) (k*8)+5∧sumC (ye9 l) (k*8+6)=sumC (ye9 l) (k*8)+6∧sumC (ye9 l) (k*8+7)=sumC (ye9 l) (k*8)+7∧sumC (ye9 l) (k*8+8)=sumC (ye9 l) (k*8)+8):=⟨T1,T2,T3,T4,T5,T6,T7,T8⟩
      clear T0 T1 T2 T3 T4 T5 T6 T7 T8
      obtain⟨y,hy⟩:∃y:Int,y=z+(sumC (ye9 l) (k*8):Int):=⟨_,rfl⟩
      have HY0:=zat hy
      have y0:0≤y:=by omega
      have y1:y≤1073741824:=by have:=HZ.out;have:=C0.out;omega
      rw [←hy]
      clear hy hm
      obtain⟨x0,_,g0,z0,_⟩:=HR.out.step (j:=k*8) (by omega)
      obtain⟨x1,_,g1,z1,_⟩:=HR.out.step (j:=k*8+1) (by omega)
      obtain⟨x2,_,g2,z2,_⟩:=HR.out.step (j:=k*8+2) (by omega)
      obtain⟨x3,_,g3,z3,_⟩:=HR.out.step (j:=k*8+3) (by omega)
      obtain⟨x4,_,g4,z4,_⟩:=HR.out.step (j:=k*8+4) (by omega)
      obtain⟨x5,_,g5,z5,_⟩:=HR.out.step (j:=k*8+5) (by omega)
      obtain⟨x6,_,g6,z6,_⟩:=HR.out.step (j:=k*8+6) (by omega)
      obtain⟨x7,_,g7,z7,_⟩:=HR.out.step (j:=k*8+7) (by omega)
      go_wp2
      go_roundw
      case rel=>
        have hY:=HY0.out
        obtain⟨t1,t2,t3,t4,t5,t6,t7,t8⟩:=TT.out
        refine⟨k+1,by omega,by go_num,?_,?_,HT.out.trans ((((((((((Turns.refl _ _).trans (yag _ _ _ _)).trans (yag _ _ _ _)).trans (yag _ _ _ _)).trans (yag _ _ _ _)).trans (yag _ _ _ _)).trans (yag _ _ _ _)).trans (yag _ _ _ _)).trans (yag _ _ _ _)).mono (fun b e=>e▸HF.out))⟩
        · rw [show y+1+1+1+1+1+1+1+1=z+(sumC (ye9 l) ((k+1)*8):Int)from by rw [show(k+1)*8=k*8+8 from by omega];omega]
        · rw [show(k+1)*8=k*8+8 from by omega]
          exact((((((((HR.out.mk_val (m:=k*8) (by omega) E0.out (by show Value.int .i64 (y)=Value.int .i64 (z+(sumC (ye9 l) (k*8):Int));rw [show y=z+(sumC (ye9 l) (k*8):Int)from by omega])).mk_val (m:=k*8+1) (by omega) E1.out (by show Value.int .i64 (y+1)=Value.int .i64 (z+(sumC (ye9 l) (k*8+1):Int));rw [show y+1=z+(sumC (ye9 l) (k*8+1):Int)from by omega])).mk_val (m:=k*8+2) (by omega) E2.out (by show Value.int .i64 (y+1+1)=Value.int .i64 (z+(sumC (ye9 l) (k*8+2):Int));rw [show y+1+1=z+(sumC (ye9 l) (k*8+2):Int)from by omega])).mk_val (m:=k*8+3) (by omega) E3.out (by show Value.int .i64 (y+1+1+1)=Value.int .i64 (z+(sumC (ye9 l) (k*8+3):Int));rw [show y+1+1+1=z+(sumC (ye9 l) (k*8+3):Int)from by omega])).mk_val (m:=k*8+4) (by omega) E4.out (by show Value.int .i64 (y+1+1+1+1)=Value.int .i64 (z+(sumC (ye9 l) (k*8+4):Int));rw [show y+1+1+1+1=z+(sumC (ye9 l) (k*8+4):Int)from by omega])).mk_val (m:=k*8+5) (by omega) E5.out (by show Value.int .i64 (y+1+1+1+1+1)=Value.int .i64 (z+(sumC (ye9 l) (k*8+5):Int));rw [show y+1+1+1+1+1=z+(sumC (ye9 l) (k*8+5):Int)from by omega])).mk_val (m:=k*8+6) (by omega) E6.out (by show Value.int .i64 (y+1+1+1+1+1+1)=Value.int .i64 (z+(sumC (ye9 l) (k*8+6):Int));rw [show y+1+1+1+1+1+1=z+(sumC (ye9 l) (k*8+6):Int)from by omega])).mk_val (m:=k*8+7) (by omega) E7.out (by show Value.bool ((y+1+1+1+1+1+1+1)%3==0)=Value.bool ((z+(sumC (ye9 l) (k*8+7):Int))%3==0);rw [show y+1+1+1+1+1+1+1=z+(sumC (ye9 l) (k*8+7):Int)from by omega]))
      case measure=>simp [intOf];omega
    · go_wp2
      go_ret
      obtain rfl:k=l.length:=by omega
      exact⟨rfl,HR.out.mkAll,HT.out⟩
theorem yxr {p:Prop} (h:p):Hid p:=h
def mg6 (k:Kn):Int:=yzs k.m+((ywr k.d).cnt:Int)
def mg7 (k:Kn):Int:=mg6 k+((ywi k.p).cnt:Int)
def mg8 (k:Kn):Int:=mg7 k+((yww k.b).cnt:Int)
def mg12 (k:Kn):Int:=mg8 k+((evsD k.s).cnt:Int)
def zak (k:Kn):Int:=mg12 k+((emsD k.x).cnt:Int)
theorem zm8 {m:Md} (h:SmallM m):yzs m≤20000000:=by
  have h1:=h.i
  have h2:=h.t
  have h3:=h.e
  unfold yzs
  omega
theorem zaa {k:Kn} (h:ywy k):1≤yzs k.m∧yzs k.m≤mg6 k∧mg6 k≤mg7 k∧mg7 k≤mg8 k∧mg8 k≤mg12 k∧mg12 k≤zak k∧zak k≤1073741824∧(ywi k.p).wt≤1048576∧(yww k.b).wt≤1048576∧k.d.length≤1048576∧k.s.length≤1048576∧k.x.length≤1048576:=by
  have h0:=zm7 k.m
  have h1:=zm8 h.1
  have h2:=h.2
  have h7:(ywi k.p).cnt≤40*(ywi k.p).wt:=Dat.cnt_le (zlv k.p)
  have h8:(yww k.b).cnt≤40*(yww k.b).wt:=Dat.cnt_le (zma k.b)
  unfold Kn.wt at h2
  rw [ywf,yx0,yy3]at h2
  unfold zak mg12 mg8 mg7 mg6
  rw [ints_cnt,evs_cnt,ems_cnt]
  omega
theorem KernF.below {F:Nat→Prop} {w w':World} {y:Value} {k:Kn} (h:KernF F w y k) (hb:Below w.heap.size w w'):KernF F w' y k:=h.turns (S:=fun _=>False) (Turns.of_below hb) (fun _ _=>id)
set_option maxRecDepth 100000 in
set_option maxHeartbeats 8000000 in
theorem zhr {F:Nat→Prop} {x:Value} {k:Kn} {w:World} (hs:ywy k) (h:KernF F w x k) (hF:∀j,F j→j<w.heap.size):
    Calls Tryz.prog 14 #[x,.int .i64 1] w fun e w'=>e= .returned (.int .i64 (zak k))∧Turns F w w':=by
  obtain⟨A0,A6,A7,A8,A12,A13,vi,vh,vs,u6,u7,u8,u12,u13,rfl,hm,h6,h7,h8,h12,h13,d0,d6,d7,d8,d12,d13⟩:=h
  have HS:Hid (ywy k):=hs
  obtain⟨hz0,hz1,hz2,hz3,hz4,hz5,hz6,hl7,hl8,hl6,hl12,hl13⟩:=zaa hs
  have HF:=yxr hF
  obtain⟨W0,hW0⟩:∃W0,w.alloc (.cells #[.int .i64 k.m.n,.int .i64 k.m.s,vi,vh,vs,.int .i64 k.m.z,u6,u7,u8,.int .i64 k.t,.int .i64 k.q,.bool k.f,u12,u13] 41)=W0:=⟨_,rfl⟩
  have HB0:=hdq (beA hW0)
  have HP0:=hdq (bkA hW0)
  have HT0:Hid (Turns F w W0):=Turns.of_below HB0.out
  have HW:=yxr hW0
  have O0_0:=yxr (hm.below HB0.out)
  have O6_0:=yxr (h6.under HB0.out)
  have O7_0:=yxr (h7.under HB0.out)
  have O8_0:=yxr (h8.under HB0.out)
  have O12_0:=yxr (h12.under HB0.out)
  have O13_0:=yxr (h13.under HB0.out)
  have D0:=yxr d0
  have D6:=yxr d6
  have D7:=yxr d7
  have D8:=yxr d8
  have D12:=yxr d12
  have D13:Hid (∀j,A13 j→F j):=d13
  clear hs hF hW0 hm h6 h7 h8 h12 h13 d0 d6 d7 d8 d12 d13
  go_enter Tryz.func14,Tryz.ntmps14
  obtain⟨p0,p1,p2,p3,p4,p5⟩:=zgw HP0.out
  go_wp2_with fail
  rw [HW.out]
  clear HW p0 p1 p2 p3 p4 p5
  refine(zcx HS.out.1 O0_0.out (fun j e=>Nat.lt_of_lt_of_le (HF.out j (D0.out j e).1) HB0.out.size)).mono ?_
  rintro e w1 ⟨rfl,-,ht⟩
  have HP1:=yxr (HP0.out.turns ht (fun e=>by have:=HF.out _ ((D0.out _ e).1);omega))
  have HT1:Hid (Turns F w w1):=HT0.out.trans (ht.mono (fun j e=>(D0.out j e).1))
  have O6_1:=yxr (O6_0.out.turns ht (fun j e e'=>(D0.out j e').2.1 e))
  have O7_1:=yxr (O7_0.out.turns ht (fun j e e'=>(D0.out j e').2.2.1 e))
  have O8_1:=yxr (O8_0.out.turns ht (fun j e e'=>(D0.out j e').2.2.2.1 e))
  have O12_1:=yxr (O12_0.out.turns ht (fun j e e'=>(D0.out j e').2.2.2.2.1 e))
  have O13_1:=yxr (O13_0.out.turns ht (fun j e e'=>(D0.out j e').2.2.2.2.2 e))
  clear ht HP0 HT0 O0_0 O6_0 O7_0 O8_0 O12_0 O13_0
  have p6:=HP1.out.cell (i:=6) rfl
  go_wp2_with fail
  clear p6
  refine(zbk (F:=A6) (l:=k.d) (yzs k.m) (by omega) (by omega) (by omega) O6_1.out).mono ?_
  rintro e w2 ⟨rfl,-,ht⟩
  have HP2:=yxr (HP1.out.turns ht (fun e=>by have:=HF.out _ ((D6.out _ e).1);omega))
  have HT2:Hid (Turns F w w2):=HT1.out.trans (ht.mono (fun j e=>(D6.out j e).1))
  have O7_2:=yxr (O7_1.out.turns ht (fun j e e'=>(D6.out j e').2.1 e))
  have O8_2:=yxr (O8_1.out.turns ht (fun j e e'=>(D6.out j e').2.2.1 e))
  have O12_2:=yxr (O12_1.out.turns ht (fun j e e'=>(D6.out j e').2.2.2.1 e))
  have O13_2:=yxr (O13_1.out.turns ht (fun j e e'=>(D6.out j e').2.2.2.2 e))
  clear ht HP1 HT1 O6_1 O7_1 O8_1 O12_1 O13_1
  rw [show yzs k.m+(((ywr k.d)).cnt:Int)=mg6 k from rfl]
  have p7:=HP2.out.cell (i:=7) rfl
  go_wp2_with fail
  clear p7
  refine(zfm (F:=A7) (l:=k.p) (mg6 k) (by omega) (by omega) (by have h9:mg6 k+((ywi k.p).cnt:Int)=mg7 k:=rfl;omega) O7_2.out).mono ?_
  rintro e w3 ⟨rfl,-,ht⟩
  have HP3:=yxr (HP2.out.turns ht (fun e=>by have:=HF.out _ ((D7.out _ e).1);omega))
  have HT3:Hid (Turns F w w3):=HT2.out.trans (ht.mono (fun j e=>(D7.out j e).1))
  have O8_3:=yxr (O8_2.out.turns ht (fun j e e'=>(D7.out j e').2.1 e))
  have O12_3:=yxr (O12_2.out.turns ht (fun j e e'=>(D7.out j e').2.2.1 e))
  have O13_3:=yxr (O13_2.out.turns ht (fun j e e'=>(D7.out j e').2.2.2 e))
  clear ht HP2 HT2 O7_2 O8_2 O12_2 O13_2
  rw [show mg6 k+(((ywi k.p)).cnt:Int)=mg7 k from rfl]
  have p8:=HP3.out.cell (i:=8) rfl
  go_wp2_with fail
  clear p8
  refine(zfn (F:=A8) (l:=k.b) (mg7 k) (by omega) (by omega) (by have h9:mg7 k+((yww k.b).cnt:Int)=mg8 k:=rfl;omega) O8_3.out).mono ?_
  rintro e w4 ⟨rfl,-,ht⟩
  have HP4:=yxr (HP3.out.turns ht (fun e=>by have:=HF.out _ ((D8.out _ e).1);omega))
  have HT4:Hid (Turns F w w4):=HT3.out.trans (ht.mono (fun j e=>(D8.out j e).1))
  have O12_4:=yxr (O12_3.out.turns ht (fun j e e'=>(D8.out j e').2.1 e))
  have O13_4:=yxr (O13_3.out.turns ht (fun j e e'=>(D8.out j e').2.2 e))
  clear ht HP3 HT3 O8_3 O12_3 O13_3
  rw [show mg7 k+(((yww k.b)).cnt:Int)=mg8 k from rfl]
  have p12:=HP4.out.cell (i:=12) rfl
  go_wp2_with fail
  clear p12
  refine(ze5 (F:=A12) (l:=k.s) (mg8 k) (by omega) (by omega) (by omega) O12_4.out).mono ?_
  rintro e w5 ⟨rfl,-,ht⟩
  have HP5:=yxr (HP4.out.turns ht (fun e=>by have:=HF.out _ ((D12.out _ e).1);omega))
  have HT5:Hid (Turns F w w5):=HT4.out.trans (ht.mono (fun j e=>(D12.out j e).1))
  have O13_5:=yxr (O13_4.out.turns ht (fun j e e'=>(D12.out j e').2 e))
  clear ht HP4 HT4 O12_4 O13_4
  rw [show mg8 k+(((evsD k.s)).cnt:Int)=mg12 k from rfl]
  have p13:=HP5.out.cell (i:=13) rfl
  go_wp2_with fail
  clear p13
  refine(zge (F:=A13) (l:=k.x) (mg12 k) (by omega) (by omega) (by omega) O13_5.out).mono ?_
  rintro e w6 ⟨rfl,-,ht⟩
  have HP6:=yxr (HP5.out.turns ht (fun e=>by have:=HF.out _ (D13.out _ e);omega))
  have HT6:Hid (Turns F w w6):=HT5.out.trans (ht.mono (fun j e=>D13.out j e))
  clear ht HP5 HT5 O13_5
  rw [show mg12 k+(((emsD k.x)).cnt:Int)=zak k from rfl]
  go_wp2
  go_ret
  exact⟨rfl,HT6.out⟩
theorem zam {p:Prop} (h:p):Hid p:=h
set_option maxRecDepth 100000 in
set_option maxHeartbeats 8000000 in
theorem zml {F:Nat→Prop} {x:Value} {l:List Ml} {w:World} (z:Int) (hn:(yww l).wt≤1048577) (hz0:0≤z) (hz1:z+((yww l).cnt:Int)≤1073741824) (h:OwnD w F x ((yww l).mark z)):
    Calls Tryz.prog 67 #[x,.int .i64 z] w fun e w'=>e= .returned (.int .i64 (z+((yww l).cnt:Int)))∧Below w.heap.size w w':=by
  obtain⟨a,cap,rfl,h2,ha⟩:=OwnD.mslice (c:=8) (n:=l.length) h
  have HR0:=zam h
  have HS:=zam hn
  have HZ:=zam hz1
  have hl2:l.length≤1048577:=by rw [yy9]at hn;omega
  clear h hn hz1 h2
  go_enter Tryz.func67,Tryz.ntmps67
  go_wp2
  go_loopw [5,1] (fun i y wr=>∃k:Nat,k≤l.length∧i= .int .i64 k∧y= .int .i64 (z+(sumC (ye9 l) (k*8):Int))∧Below w.heap.size w wr) (fun i _ _=>l.length-(intOf i).toNat)
  case atStart=>exact⟨0,Nat.zero_le _,rfl,by simp [sumC,sumL],Below.refl _ _⟩
  case round=>
    obtain⟨k,hk,rfl,rfl,hB⟩:=hrel
    have HB:=zam hB
    clear hB
    by_cases hlt:k<l.length
    · obtain⟨g,rfl⟩:=ha.resolve_left (by omega)
      have HR:=zam (HR0.out.under HB.out)
      have E0:=zam (yxu l hlt (r:=0) (by omega))
      have E1:=zam (yxu l hlt (r:=1) (by omega))
      have E2:=zam (yxu l hlt (r:=2) (by omega))
      have E3:=zam (yxu l hlt (r:=3) (by omega))
      have E4:=zam (yxu l hlt (r:=4) (by omega))
      have E5:=zam (yxu l hlt (r:=5) (by omega))
      have E6:=zam (yxu l hlt (r:=6) (by omega))
      have E7:=zam (yxu l hlt (r:=7) (by omega))
      have C0:Hid (sumC (ye9 l) (k*8)≤(yww l).cnt):=ywa (by omega)
      have S1:Hid (sumC (ye9 l) (k*8+1)=sumC (ye9 l) (k*8)+(Dat.val (.int .i64 (mlAt l k).e.t)).cnt):=by
        have e:=yvk (ye9 l) (k*8+0)
        rw [E0.out]at e
        exact e
      have C1:Hid (sumC (ye9 l) (k*8+1)≤(yww l).cnt):=ywa (by omega)
      have S2:Hid (sumC (ye9 l) (k*8+2)=sumC (ye9 l) (k*8+1)+(Dat.val (.int .i64 (mlAt l k).e.s)).cnt):=by
        have e:=yvk (ye9 l) (k*8+1)
        rw [E1.out]at e
        exact e
      have C2:Hid (sumC (ye9 l) (k*8+2)≤(yww l).cnt):=ywa (by omega)
      have S3:Hid (sumC (ye9 l) (k*8+3)=sumC (ye9 l) (k*8+2)+(Dat.val (.int .i64 (mlAt l k).e.q)).cnt):=by
        have e:=yvk (ye9 l) (k*8+2)
        rw [E2.out]at e
        exact e
      have C3:Hid (sumC (ye9 l) (k*8+3)≤(yww l).cnt):=ywa (by omega)
      have S4:Hid (sumC (ye9 l) (k*8+4)=sumC (ye9 l) (k*8+3)+(Dat.val (.int .i64 (mlAt l k).e.d)).cnt):=by
        have e:=yvk (ye9 l) (k*8+3)
        rw [E3.out]at e
        exact e
      have C4:Hid (sumC (ye9 l) (k*8+4)≤(yww l).cnt):=ywa (by omega)
      have S5:Hid (sumC (ye9 l) (k*8+5)=sumC (ye9 l) (k*8+4)+(Dat.val (.int .i64 (mlAt l k).e.k)).cnt):=by
        have e:=yvk (ye9 l) (k*8+4)
        rw [E4.out]at e
        exact e
      have C5:Hid (sumC (ye9 l) (k*8+5)≤(yww l).cnt):=ywa (by omega)
      have S6:Hid (sumC (ye9 l) (k*8+6)=sumC (ye9 l) (k*8+5)+(Dat.val (.int .i64 (mlAt l k).e.v)).cnt):=by
        have e:=yvk (ye9 l) (k*8+5)
        rw [E5.out]at e
        exact e
      have C6:Hid (sumC (ye9 l) (k*8+6)≤(yww l).cnt):=ywa (by omega)
      have S7:Hid (sumC (ye9 l) (k*8+7)=sumC (ye9 l) (k*8+6)+(Dat.val (.int .i64 (mlAt l k).e.g)).cnt):=by
        have e:=yvk (ye9 l) (k*8+6)
        rw [E6.out]at e
        exact e
      have C7:Hid (sumC (ye9 l) (k*8+7)≤(yww l).cnt):=ywa (by omega)
      have S8:Hid (sumC (ye9 l) (k*8+8)=sumC (ye9 l) (k*8+7)+(Dat.val (.bool (mlAt l k).a)).cnt):=by
        have e:=yvk (ye9 l) (k*8+7)
        rw [E7.out]at e
        exact e
      have C8:Hid (sumC (ye9 l) (k*8+8)≤(yww l).cnt):=ywa (by omega)
      obtain⟨y,hy⟩:∃y:Int,y=z+(sumC (ye9 l) (k*8):Int):=⟨_,rfl⟩
      have HY0:=zam hy
      have y0:0≤y:=by omega
      have y1:y≤1073741824:=by have:=HZ.out;have:=C0.out;omega
      rw [←hy]
      clear hy
      have g0:wr.cell? ⟨g,k*8,none⟩=some (.int .i64 y):=OwnD.marked_val (c:=8) (n:=l.length) (f:=(ye9 l)) HR.out (j:=k*8) (by omega) E0.out (by
        show _=Value.int .i64 (z+(sumC (ye9 l) (k*8):Int))
        rw [show y=z+(sumC (ye9 l) (k*8):Int)from by(have e:=HY0.out;simp only [Dat.cnt]at*;omega)])
      have g1:wr.cell? ⟨g,k*8+1,none⟩=some (.int .i64 (y+1)):=OwnD.marked_val (c:=8) (n:=l.length) (f:=(ye9 l)) HR.out (j:=k*8+1) (by omega) E1.out (by
        show _=Value.int .i64 (z+(sumC (ye9 l) (k*8+1):Int))
        rw [show y+1=z+(sumC (ye9 l) (k*8+1):Int)from by(have e:=HY0.out;have e1:=S1.out;simp only [Dat.cnt]at*;omega)])
      have g2:wr.cell? ⟨g,k*8+2,none⟩=some (.int .i64 (y+1+1)):=OwnD.marked_val (c:=8) (n:=l.length) (f:=(ye9 l)) HR.out (j:=k*8+2) (by omega) E2.out (by
        show _=Value.int .i64 (z+(sumC (ye9 l) (k*8+2):Int))
        rw [show y+1+1=z+(sumC (ye9 l) (k*8+2):Int)from by(have e:=HY0.out;have e1:=S1.out;have e2:=S2.out;simp only [Dat.cnt]at*;omega)])
      have g3:wr.cell? ⟨g,k*8+3,none⟩=some (.int .i64 (y+1+1+1)):=OwnD.marked_val (c:=8) (n:=l.length) (f:=(ye9 l)) HR.out (j:=k*8+3) (by omega) E3.out (by
        show _=Value.int .i64 (z+(sumC (ye9 l) (k*8+3):Int))
        rw [show y+1+1+1=z+(sumC (ye9 l) (k*8+3):Int)from by(have e:=HY0.out;have e1:=S1.out;have e2:=S2.out;have e3:=S3.out;simp only [Dat.cnt]at*;omega)])
      have g4:wr.cell? ⟨g,k*8+4,none⟩=some (.int .i64 (y+1+1+1+1)):=OwnD.marked_val (c:=8) (n:=l.length) (f:=(ye9 l)) HR.out (j:=k*8+4) (by omega) E4.out (by
        show _=Value.int .i64 (z+(sumC (ye9 l) (k*8+4):Int))
        rw [show y+1+1+1+1=z+(sumC (ye9 l) (k*8+4):Int)from by(have e:=HY0.out;have e1:=S1.out;have e2:=S2.out;have e3:=S3.out;have e4:=S4.out;simp only [Dat.cnt]at*;omega)])
      have g5:wr.cell? ⟨g,k*8+5,none⟩=some (.int .i64 (y+1+1+1+1+1)):=OwnD.marked_val (c:=8) (n:=l.length) (f:=(ye9 l)) HR.out (j:=k*8+5) (by omega) E5.out (by
        show _=Value.int .i64 (z+(sumC (ye9 l) (k*8+5):Int))
        rw [show y+1+1+1+1+1=z+(sumC (ye9 l) (k*8+5):Int)from by(have e:=HY0.out;have e1:=S1.out;have e2:=S2.out;have e3:=S3.out;have e4:=S4.out;have e5:=S5.out;simp only [Dat.cnt]at*;omega)])
      have g6:wr.cell? ⟨g,k*8+6,none⟩=some (.int .i64 (y+1+1+1+1+1+1)):=OwnD.marked_val (c:=8) (n:=l.length) (f:=(ye9 l)) HR.out (j:=k*8+6) (by omega) E6.out (by
        show _=Value.int .i64 (z+(sumC (ye9 l) (k*8+6):Int))
        rw [show y+1+1+1+1+1+1=z+(sumC (ye9 l) (k*8+6):Int)from by(have e:=HY0.out;have e1:=S1.out;have e2:=S2.out;have e3:=S3.out;have e4:=S4.out;have e5:=S5.out;have e6:=S6.out;simp only [Dat.cnt]at*;omega)])
      have g7:wr.cell? ⟨g,k*8+7,none⟩=some (.bool ((y+1+1+1+1+1+1+1)%3==0)):=OwnD.marked_val (c:=8) (n:=l.length) (f:=(ye9 l)) HR.out (j:=k*8+7) (by omega) E7.out (by
        show _=Value.bool ((z+(sumC (ye9 l) (k*8+7):Int))%3==0)
        rw [show y+1+1+1+1+1+1+1=z+(sumC (ye9 l) (k*8+7):Int)from by(have e:=HY0.out;have e1:=S1.out;have e2:=S2.out;have e3:=S3.out;have e4:=S4.out;have e5:=S5.out;have e6:=S6.out;have e7:=S7.out;simp only [Dat.cnt]at*;omega)])
      go_wp2
      go_roundw
      case rel=>
        refine⟨k+1,by omega,by go_num,?_,HB.out⟩
        rw [show y+1+1+1+1+1+1+1+1=z+(sumC (ye9 l) ((k+1)*8):Int)from by rw [show(k+1)*8=k*8+8 from by omega];(have e:=HY0.out;have e1:=S1.out;have e2:=S2.out;have e3:=S3.out;have e4:=S4.out;have e5:=S5.out;have e6:=S6.out;have e7:=S7.out;have e8:=S8.out;simp only [Dat.cnt]at*;omega)]
      case measure=>simp [intOf];omega
    · go_wp2
      go_ret
      obtain rfl:k=l.length:=by omega
      exact⟨rfl,HB.out⟩
theorem yxs {p:Prop} (h:p):Hid p:=h
set_option maxRecDepth 100000 in
set_option maxHeartbeats 8000000 in
theorem zmk {F:Nat→Prop} {x:Value} {l:List Pa} {w:World} (z:Int) (hn:(ywi l).wt≤1048577) (hz0:0≤z) (hz1:z+((ywi l).cnt:Int)≤1073741824) (h:OwnD w F x ((ywi l).mark z)):
    Calls Tryz.prog 66 #[x,.int .i64 z] w fun e w'=>e= .returned (.int .i64 (z+((ywi l).cnt:Int)))∧Below w.heap.size w w':=by
  obtain⟨a,cap,rfl,h2,ha⟩:=OwnD.mslice (c:=7) (n:=l.length) h
  have HR0:=yxs h
  have HS:=yxs hn
  have HZ:=yxs hz1
  have hl2:l.length≤1048577:=by rw [yyb]at hn;omega
  clear h hn hz1 h2
  go_enter Tryz.func66,Tryz.ntmps66
  go_wp2
  go_loopw [5,1] (fun i y wr=>∃k:Nat,k≤l.length∧i= .int .i64 k∧y= .int .i64 (z+(sumC (yfa l) (k*7):Int))∧Below w.heap.size w wr) (fun i _ _=>l.length-(intOf i).toNat)
  case atStart=>exact⟨0,Nat.zero_le _,rfl,by simp [sumC,sumL],Below.refl _ _⟩
  case round=>
    obtain⟨k,hk,rfl,rfl,hB⟩:=hrel
    have HB:=yxs hB
    clear hB
    by_cases hlt:k<l.length
    · obtain⟨g,rfl⟩:=ha.resolve_left (by omega)
      have HR:=yxs (HR0.out.under HB.out)
      have hwt:(paAt l k).wt≤1048577:=Nat.le_trans (Pa.wt_le hlt) HS.out
      unfold Pa.wt at hwt
      simp only [yx0,ywf]at hwt
      have E0:=yxs (yxn l k (r:=0) (by omega))
      have E1:=yxs (yxn l k (r:=1) (by omega))
      have E2:=yxs (yxn l k (r:=2) (by omega))
      have E3:=yxs (yxn l k (r:=3) (by omega))
      have E4:=yxs (yxn l k (r:=4) (by omega))
      have E5:=yxs (yxn l k (r:=5) (by omega))
      have E6:=yxs (yxn l k (r:=6) (by omega))
      have C0:Hid (sumC (yfa l) (k*7)≤(ywi l).cnt):=ywa (by omega)
      have S1:Hid (sumC (yfa l) (k*7+1)=sumC (yfa l) (k*7)+(Dat.val (.int .i64 (paAt l k).n)).cnt):=by
        have e:=yvk (yfa l) (k*7+0)
        rw [E0.out]at e
        exact e
      have C1:Hid (sumC (yfa l) (k*7+1)≤(ywi l).cnt):=ywa (by omega)
      have S2:Hid (sumC (yfa l) (k*7+2)=sumC (yfa l) (k*7+1)+(ywr (paAt l k).st.r).cnt):=by
        have e:=yvk (yfa l) (k*7+1)
        rw [E1.out]at e
        exact e
      have C2:Hid (sumC (yfa l) (k*7+2)≤(ywi l).cnt):=ywa (by omega)
      have S3:Hid (sumC (yfa l) (k*7+3)=sumC (yfa l) (k*7+2)+(Dat.val (.int .i64 (paAt l k).st.q)).cnt):=by
        have e:=yvk (yfa l) (k*7+2)
        rw [E2.out]at e
        exact e
      have C3:Hid (sumC (yfa l) (k*7+3)≤(ywi l).cnt):=ywa (by omega)
      have S4:Hid (sumC (yfa l) (k*7+4)=sumC (yfa l) (k*7+3)+(Dat.val (.int .i64 (paAt l k).st.d)).cnt):=by
        have e:=yvk (yfa l) (k*7+3)
        rw [E3.out]at e
        exact e
      have C4:Hid (sumC (yfa l) (k*7+4)≤(ywi l).cnt):=ywa (by omega)
      have S5:Hid (sumC (yfa l) (k*7+5)=sumC (yfa l) (k*7+4)+(yw3 (paAt l k).p).cnt):=by
        have e:=yvk (yfa l) (k*7+4)
        rw [E4.out]at e
        exact e
      have C5:Hid (sumC (yfa l) (k*7+5)≤(ywi l).cnt):=ywa (by omega)
      have S6:Hid (sumC (yfa l) (k*7+6)=sumC (yfa l) (k*7+5)+(evsD (paAt l k).t).cnt):=by
        have e:=yvk (yfa l) (k*7+5)
        rw [E5.out]at e
        exact e
      have C6:Hid (sumC (yfa l) (k*7+6)≤(ywi l).cnt):=ywa (by omega)
      have S7:Hid (sumC (yfa l) (k*7+7)=sumC (yfa l) (k*7+6)+(ywr (paAt l k).a).cnt):=by
        have e:=yvk (yfa l) (k*7+6)
        rw [E6.out]at e
        exact e
      have C7:Hid (sumC (yfa l) (k*7+7)≤(ywi l).cnt):=ywa (by omega)
      obtain⟨y,hy⟩:∃y:Int,y=z+(sumC (yfa l) (k*7):Int):=⟨_,rfl⟩
      have HY0:=yxs hy
      have y0:0≤y:=by omega
      rw [←hy]
      clear hy
      have g0:wr.cell? ⟨g,k*7,none⟩=some (.int .i64 y):=OwnD.marked_val (c:=7) (n:=l.length) (f:=(yfa l)) HR.out (j:=k*7) (by omega) E0.out (by
        show _=Value.int .i64 (z+(sumC (yfa l) (k*7):Int))
        rw [show y=z+(sumC (yfa l) (k*7):Int)from by(have e:=HY0.out;simp only [Dat.cnt]at*;omega)])
      obtain⟨u1,K1,g1,o1⟩:=OwnD.marked (c:=7) (n:=l.length) (f:=(yfa l)) HR.out (j:=k*7+1) (by omega)
      rw [E1.out]at o1
      have hq1:y+1=z+(sumC (yfa l) (k*7+1):Int):=by(have e:=HY0.out;have e1:=S1.out;simp only [Dat.cnt]at*;omega)
      have hb1:y+1≤1073741824:=by have:=HZ.out;have:=C1.out;omega
      rw [←hq1]at o1
      have O1:=yxs o1
      have Q1:=yxs hq1
      clear hq1 o1
      go_wp2_with fail
      clear g1 g0
      refine(zcz (F:=K1) (l:=(paAt l k).st.r) (y+1) (by omega) (by omega) (by omega) O1.out).mono ?_
      rintro e w2 ⟨rfl,hb⟩
      have HR2:=yxs (HR.out.under hb)
      have HB2:=trh HB hb
      clear hb
      obtain⟨y1,hy⟩:∃y1:Int,y1=y+1+((ywr (paAt l k).st.r).cnt:Int):=⟨_,rfl⟩
      have HY2:Hid (y1=z+(sumC (yfa l) (k*7+2):Int)):=by
        have h8:=S2.out
        have h9:=Q1.out
        show y1=_
        omega
      have y10:0≤y1:=by omega
      have y11:y1≤1073741824:=by have h7:=HZ.out;have h8:=C2.out;have h9:=HY2.out;omega
      have y12:¬(y1<0):=by omega
      rw [←hy]
      clear hy
      have g2:w2.cell? ⟨g,k*7+2,none⟩=some (.int .i64 y1):=OwnD.marked_val (c:=7) (n:=l.length) (f:=(yfa l)) HR2.out (j:=k*7+2) (by omega) E2.out (by
        show _=Value.int .i64 (z+(sumC (yfa l) (k*7+2):Int))
        rw [show y1=z+(sumC (yfa l) (k*7+2):Int)from by(have e:=HY2.out;simp only [Dat.cnt]at*;omega)])
      have g3:w2.cell? ⟨g,k*7+3,none⟩=some (.int .i64 (y1+1)):=OwnD.marked_val (c:=7) (n:=l.length) (f:=(yfa l)) HR2.out (j:=k*7+3) (by omega) E3.out (by
        show _=Value.int .i64 (z+(sumC (yfa l) (k*7+3):Int))
        rw [show y1+1=z+(sumC (yfa l) (k*7+3):Int)from by(have e:=HY2.out;have e3:=S3.out;simp only [Dat.cnt]at*;omega)])
      obtain⟨u4,K4,g4,o4⟩:=OwnD.marked (c:=7) (n:=l.length) (f:=(yfa l)) HR2.out (j:=k*7+4) (by omega)
      rw [E4.out]at o4
      have hq4:y1+1+1=z+(sumC (yfa l) (k*7+4):Int):=by(have e:=HY2.out;have e3:=S3.out;have e4:=S4.out;simp only [Dat.cnt]at*;omega)
      have hb4:y1+1+1≤1073741824:=by have:=HZ.out;have:=C4.out;omega
      rw [←hq4]at o4
      have O4:=yxs o4
      have Q4:=yxs hq4
      clear hq4 o4
      go_wp2_with fail
      clear g4 g3 g2
      refine(zmj (F:=K4) (l:=(paAt l k).p) (y1+1+1) (by omega) (by omega) (by have h6:=S5.out;have h7:=HZ.out;have h8:=C5.out;have h9:=Q4.out;omega) O4.out).mono ?_
      rintro e w5 ⟨rfl,hb⟩
      have HR5:=yxs (HR2.out.under hb)
      have HB5:=trh HB2 hb
      clear hb
      obtain⟨y4,hy⟩:∃y4:Int,y4=y1+1+1+((yw3 (paAt l k).p).cnt:Int):=⟨_,rfl⟩
      have HY5:Hid (y4=z+(sumC (yfa l) (k*7+5):Int)):=by
        have h8:=S5.out
        have h9:=Q4.out
        show y4=_
        omega
      have y40:0≤y4:=by omega
      have y41:y4≤1073741824:=by have h7:=HZ.out;have h8:=C5.out;have h9:=HY5.out;omega
      have y42:¬(y4<0):=by omega
      rw [←hy]
      clear hy
      obtain⟨u5,K5,g5,o5⟩:=OwnD.marked (c:=7) (n:=l.length) (f:=(yfa l)) HR5.out (j:=k*7+5) (by omega)
      rw [E5.out]at o5
      have hq5:y4=z+(sumC (yfa l) (k*7+5):Int):=by(have e:=HY5.out;simp only [Dat.cnt]at*;omega)
      have hb5:y4≤1073741824:=by have:=HZ.out;have:=C5.out;omega
      rw [←hq5]at o5
      have O5:=yxs o5
      have Q5:=yxs hq5
      clear hq5 o5
      go_wp2_with fail
      clear g5
      refine(zgi (F:=K5) (l:=(paAt l k).t) (y4) (by omega) (by omega) (by omega) O5.out).mono ?_
      rintro e w6 ⟨rfl,hb⟩
      have HR6:=yxs (HR5.out.under hb)
      have HB6:=trh HB5 hb
      clear hb
      obtain⟨y5,hy⟩:∃y5:Int,y5=y4+((evsD (paAt l k).t).cnt:Int):=⟨_,rfl⟩
      have HY6:Hid (y5=z+(sumC (yfa l) (k*7+6):Int)):=by
        have h8:=S6.out
        have h9:=Q5.out
        show y5=_
        omega
      have y50:0≤y5:=by omega
      have y51:y5≤1073741824:=by have h7:=HZ.out;have h8:=C6.out;have h9:=HY6.out;omega
      have y52:¬(y5<0):=by omega
      rw [←hy]
      clear hy
      obtain⟨u6,K6,g6,o6⟩:=OwnD.marked (c:=7) (n:=l.length) (f:=(yfa l)) HR6.out (j:=k*7+6) (by omega)
      rw [E6.out]at o6
      have hq6:y5=z+(sumC (yfa l) (k*7+6):Int):=by(have e:=HY6.out;simp only [Dat.cnt]at*;omega)
      have hb6:y5≤1073741824:=by have:=HZ.out;have:=C6.out;omega
      rw [←hq6]at o6
      have O6:=yxs o6
      have Q6:=yxs hq6
      clear hq6 o6
      go_wp2_with fail
      clear g6
      refine(zcz (F:=K6) (l:=(paAt l k).a) (y5) (by omega) (by omega) (by omega) O6.out).mono ?_
      rintro e w7 ⟨rfl,hb⟩
      have HR7:=yxs (HR6.out.under hb)
      have HB7:=trh HB6 hb
      clear hb
      obtain⟨y6,hy⟩:∃y6:Int,y6=y5+((ywr (paAt l k).a).cnt:Int):=⟨_,rfl⟩
      have HY7:Hid (y6=z+(sumC (yfa l) (k*7+7):Int)):=by
        have h8:=S7.out
        have h9:=Q6.out
        show y6=_
        omega
      have y60:0≤y6:=by omega
      have y61:y6≤1073741824:=by have h7:=HZ.out;have h8:=C7.out;have h9:=HY7.out;omega
      have y62:¬(y6<0):=by omega
      rw [←hy]
      clear hy
      go_wp2
      go_roundw
      case rel=>
        refine⟨k+1,by omega,by go_num,?_,HB7.out⟩
        rw [show y6=z+(sumC (yfa l) ((k+1)*7):Int)from by rw [show(k+1)*7=k*7+7 from by omega];(have e:=HY7.out;simp only [Dat.cnt]at*;omega)]
      case measure=>simp [intOf];omega
    · go_wp2
      go_ret
      obtain rfl:k=l.length:=by omega
      exact⟨rfl,HB.out⟩
end Go.Proofs.YtghndljgadpijaaGreat

