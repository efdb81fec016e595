/- TPpE, KDb, KMg, TPpB, KKe -/
import Derived.Test.YtmobiieoecjmdaaGreatExactCommittedG19
import Derived.Test.YtmobiieoecjmdaaGreatExactCommittedG06
import Derived.Test.YtmobiieoecjmdaaGreatExactCommittedG05
import Derived.Test.YtmobiieoecjmdaaGreatExactCommittedG38
import Derived.Test.YtmobiieoecjmdaaGreatExactCommittedG20
import Derived.Test.YtmobiieoecjmdaaGreatExactCommittedG03
import Derived.Deep.RegionHeld3
/- markPartS: marks, cell by cell. -/
namespace Go.Proofs.YtmobiieoecjmdaaGreat
open Go.RowKit
set_option maxRecDepth 100000 in
set_option maxHeartbeats 8000000 in
theorem mark_parts {F:Nat→Prop} {x:Value} {l:List Pa} {w:World} (z:Int) (hn:(partsD l).wt≤1048577) (hz0:0≤z) (hz1:z+((partsD l).cnt:Int)≤1073741824) (h:OwnD w F x (partsD l)):
  Calls Tryz.prog 72 #[x,.int .i64 z] w fun e w'=>e= .returned (.int .i64 (z+((partsD l).cnt:Int)))∧OwnD w' F x ((partsD l).mark z)∧Turns F w w':=by
 obtain⟨a,cap,rfl,h1,h2,ha⟩:=OwnD.parts (c:=7) (n:=l.length) h
 have HR0:Hid (OwnD w F (.slice a l.length cap) (.row 7 l.length (mkD (partsD_f l) z (0*7)))):=OwnD.mk0 z h
 have HS:Hid ((partsD l).wt≤1048577):=hn
 have HZ:Hid (z+((partsD l).cnt:Int)≤1073741824):=hz1
 have hl2:l.length≤1048577:=by rw [partsD_wt]at hn;omega
 clear h hn hz1 h1 h2
 go_enter Tryz.func72,Tryz.ntmps72
 go_wp2
 go_loopw [5,1] (fun i y wr=>∃k:Nat,k≤l.length∧i= .int .i64 k∧y= .int .i64 (z+(sumC (partsD_f l) (k*7):Int))∧OwnD wr F (.slice a l.length cap) (.row 7 l.length (mkD (partsD_f l) z (k*7)))∧Turns F w wr) (fun i _ _=>l.length-(intOf i).toNat)
 case atStart=>exact⟨0,Nat.zero_le _,rfl,by simp [sumC,sumL],HR0.out,Turns.refl _ _⟩
 case round=>
  obtain⟨k,hk,rfl,rfl,hR,hT⟩:=hrel
  have HR:Hid (OwnD wr F (.slice a l.length cap) (.row 7 l.length (mkD (partsD_f l) z (k*7)))):=hR
  have HT:Hid (Turns F w wr):=hT
  clear hR hT
  by_cases hlt:k<l.length
  ·obtain⟨g,rfl,_,hFg⟩:=ha.resolve_left (by omega)
   have HF:Hid (F g):=hFg
   have hwt:(paAt l k).wt≤1048577:=Nat.le_trans (Pa.wt_le hlt) HS.out
   unfold Pa.wt at hwt
   simp only [evs_wt,ints_wt]at hwt
   obtain⟨m,hm⟩:∃m,m=k*7:=⟨_,rfl⟩
   have E0:Hid ((partsD_f l) (k*7+0)=Dat.val (.int .i64 (paAt l k).n)):=partsD_at l k (r:=0) (by omega)
   have E1:Hid ((partsD_f l) (k*7+1)=intsD (paAt l k).st.r):=partsD_at l k (r:=1) (by omega)
   have E2:Hid ((partsD_f l) (k*7+2)=Dat.val (.int .i64 (paAt l k).st.q)):=partsD_at l k (r:=2) (by omega)
   have E3:Hid ((partsD_f l) (k*7+3)=Dat.val (.int .i64 (paAt l k).st.d)):=partsD_at l k (r:=3) (by omega)
   have E4:Hid ((partsD_f l) (k*7+4)=pastsD (paAt l k).p):=partsD_at l k (r:=4) (by omega)
   have E5:Hid ((partsD_f l) (k*7+5)=evsD (paAt l k).t):=partsD_at l k (r:=5) (by omega)
   have E6:Hid ((partsD_f l) (k*7+6)=intsD (paAt l k).a):=partsD_at l k (r:=6) (by omega)
   have C0:Hid (sumC (partsD_f l) (k*7)≤(partsD l).cnt):=sumC_le (by omega)
   have S1:Hid (sumC (partsD_f l) (k*7+1)=sumC (partsD_f l) (k*7)+(Dat.val (.int .i64 (paAt l k).n)).cnt):=by
    have e:=sumC_succ (partsD_f l) (k*7+0)
    rw [E0.out]at e
    exact e
   have C1:Hid (sumC (partsD_f l) (k*7+1)≤(partsD l).cnt):=sumC_le (by omega)
   have S2:Hid (sumC (partsD_f l) (k*7+2)=sumC (partsD_f l) (k*7+1)+(intsD (paAt l k).st.r).cnt):=by
    have e:=sumC_succ (partsD_f l) (k*7+1)
    rw [E1.out]at e
    exact e
   have C2:Hid (sumC (partsD_f l) (k*7+2)≤(partsD l).cnt):=sumC_le (by omega)
   have S3:Hid (sumC (partsD_f l) (k*7+3)=sumC (partsD_f l) (k*7+2)+(Dat.val (.int .i64 (paAt l k).st.q)).cnt):=by
    have e:=sumC_succ (partsD_f l) (k*7+2)
    rw [E2.out]at e
    exact e
   have C3:Hid (sumC (partsD_f l) (k*7+3)≤(partsD l).cnt):=sumC_le (by omega)
   have S4:Hid (sumC (partsD_f l) (k*7+4)=sumC (partsD_f l) (k*7+3)+(Dat.val (.int .i64 (paAt l k).st.d)).cnt):=by
    have e:=sumC_succ (partsD_f l) (k*7+3)
    rw [E3.out]at e
    exact e
   have C4:Hid (sumC (partsD_f l) (k*7+4)≤(partsD l).cnt):=sumC_le (by omega)
   have S5:Hid (sumC (partsD_f l) (k*7+5)=sumC (partsD_f l) (k*7+4)+(pastsD (paAt l k).p).cnt):=by
    have e:=sumC_succ (partsD_f l) (k*7+4)
    rw [E4.out]at e
    exact e
   have C5:Hid (sumC (partsD_f l) (k*7+5)≤(partsD l).cnt):=sumC_le (by omega)
   have S6:Hid (sumC (partsD_f l) (k*7+6)=sumC (partsD_f l) (k*7+5)+(evsD (paAt l k).t).cnt):=by
    have e:=sumC_succ (partsD_f l) (k*7+5)
    rw [E5.out]at e
    exact e
   have C6:Hid (sumC (partsD_f l) (k*7+6)≤(partsD l).cnt):=sumC_le (by omega)
   have S7:Hid (sumC (partsD_f l) (k*7+7)=sumC (partsD_f l) (k*7+6)+(intsD (paAt l k).a).cnt):=by
    have e:=sumC_succ (partsD_f l) (k*7+6)
    rw [E6.out]at e
    exact e
   have C7:Hid (sumC (partsD_f l) (k*7+7)≤(partsD l).cnt):=sumC_le (by omega)
   obtain⟨y,hy⟩:∃y:Int,y=z+(sumC (partsD_f l) (k*7):Int):=⟨_,rfl⟩
   have HY0:Hid (y=z+(sumC (partsD_f l) (k*7):Int)):=hy
   have y0:0≤y:=by omega
   rw [←hy]
   clear hy hm
   obtain⟨x0,_,g0,z0,_⟩:=HR.out.step (j:=k*7) (by omega)
   obtain⟨Y1,hY1⟩:∃Y1,wr.setCell ⟨g,k*7,none⟩ (.int .i64 y)=Y1:=⟨_,rfl⟩
   have HR1:Hid (OwnD Y1 F (.slice (some ⟨g,0,none⟩) l.length cap) (.row 7 l.length (mkD (partsD_f l) z (k*7+1)))):=hY1▸HR.out.mk_val (m:=k*7) (by omega) E0.out (by
    show _=Value.int .i64 (z+(sumC (partsD_f l) (k*7):Int))
    rw [show y=z+(sumC (partsD_f l) (k*7):Int)from by(have e:=HY0.out;simp only [Dat.cnt]at*;omega)])
   have HT1:Hid (Turns F w Y1):=HT.out.trans (hY1▸(put1_turns _ _ _ _).mono (fun b e=>by subst e;exact HF.out))
   obtain⟨u1,K1,g1,o1,f1,b1⟩:=HR1.out.mk_row (m:=k*7+1) (by omega)
   rw [E1.out]at o1 b1
   have O1:Hid (OwnD Y1 K1 u1 (intsD (paAt l k).st.r)):=o1
   have B1:Hid (∀w',OwnD w' K1 u1 ((intsD (paAt l k).st.r).mark (z+(sumC (partsD_f l) (k*7+1):Int)))→Turns K1 Y1 w'→OwnD w' F (.slice (some ⟨g,0,none⟩) l.length cap) (.row 7 l.length (mkD (partsD_f l) z (k*7+2)))):=b1
   have F1:Hid (∀b,K1 b→F b):=f1
   clear o1 b1 f1
   have hq1:y+1=z+(sumC (partsD_f l) (k*7+1):Int):=by(have e:=HY0.out;have e1:=S1.out;simp only [Dat.cnt]at*;omega)
   have hb1:y+1≤1073741824:=by have:=HZ.out;have:=C1.out;omega
   have Q1:Hid (y+1=z+(sumC (partsD_f l) (k*7+1):Int)):=hq1
   clear hq1
   go_wp2_with fail
   clear g1 hY1 z0 g0
   refine(mark_ints (F:=K1) (l:=(paAt l k).st.r) (y+1) (by omega) (by omega) (by omega) O1.out).mono ?_
   rintro e w2 ⟨rfl,hr,ht⟩
   rw [Q1.out]at hr
   have HR2:Hid (OwnD w2 F (.slice (some ⟨g,0,none⟩) l.length cap) (.row 7 l.length (mkD (partsD_f l) z (k*7+2)))):=B1.out _ hr ht
   have HT2:Hid (Turns F w w2):=HT1.out.trans (ht.mono F1.out)
   clear hr ht
   obtain⟨y1,hy⟩:∃y1:Int,y1=y+1+((intsD (paAt l k).st.r).cnt:Int):=⟨_,rfl⟩
   have HY2:Hid (y1=z+(sumC (partsD_f l) (k*7+2):Int)):=by
    have h8:=S2.out
    have h9:=Q1.out
    show y1=_
    omega
   have y10:0≤y1:=by omega
   have y11:y1≤1073741824:=by have h7:=HZ.out;have h8:=C2.out;have h9:=HY2.out;omega
   rw [←hy]
   clear hy
   obtain⟨x2,_,g2,z2,_⟩:=HR2.out.step (j:=k*7+2) (by omega)
   obtain⟨Y3,hY3⟩:∃Y3,w2.setCell ⟨g,k*7+2,none⟩ (.int .i64 y1)=Y3:=⟨_,rfl⟩
   have HR3:Hid (OwnD Y3 F (.slice (some ⟨g,0,none⟩) l.length cap) (.row 7 l.length (mkD (partsD_f l) z (k*7+3)))):=hY3▸HR2.out.mk_val (m:=k*7+2) (by omega) E2.out (by
    show _=Value.int .i64 (z+(sumC (partsD_f l) (k*7+2):Int))
    rw [show y1=z+(sumC (partsD_f l) (k*7+2):Int)from by(have e:=HY2.out;simp only [Dat.cnt]at*;omega)])
   have HT3:Hid (Turns F w Y3):=HT2.out.trans (hY3▸(put1_turns _ _ _ _).mono (fun b e=>by subst e;exact HF.out))
   obtain⟨x3,_,g3,z3,_⟩:=HR3.out.step (j:=k*7+3) (by omega)
   obtain⟨Y4,hY4⟩:∃Y4,Y3.setCell ⟨g,k*7+3,none⟩ (.int .i64 (y1+1))=Y4:=⟨_,rfl⟩
   have HR4:Hid (OwnD Y4 F (.slice (some ⟨g,0,none⟩) l.length cap) (.row 7 l.length (mkD (partsD_f l) z (k*7+4)))):=hY4▸HR3.out.mk_val (m:=k*7+3) (by omega) E3.out (by
    show _=Value.int .i64 (z+(sumC (partsD_f l) (k*7+3):Int))
    rw [show y1+1=z+(sumC (partsD_f l) (k*7+3):Int)from by(have e:=HY2.out;have e3:=S3.out;simp only [Dat.cnt]at*;omega)])
   have HT4:Hid (Turns F w Y4):=HT3.out.trans (hY4▸(put1_turns _ _ _ _).mono (fun b e=>by subst e;exact HF.out))
   obtain⟨u4,K4,g4,o4,f4,b4⟩:=HR4.out.mk_row (m:=k*7+4) (by omega)
   rw [E4.out]at o4 b4
   have O4:Hid (OwnD Y4 K4 u4 (pastsD (paAt l k).p)):=o4
   have B4:Hid (∀w',OwnD w' K4 u4 ((pastsD (paAt l k).p).mark (z+(sumC (partsD_f l) (k*7+4):Int)))→Turns K4 Y4 w'→OwnD w' F (.slice (some ⟨g,0,none⟩) l.length cap) (.row 7 l.length (mkD (partsD_f l) z (k*7+5)))):=b4
   have F4:Hid (∀b,K4 b→F b):=f4
   clear o4 b4 f4
   have hq4:y1+1+1=z+(sumC (partsD_f l) (k*7+4):Int):=by(have e:=HY2.out;have e3:=S3.out;have e4:=S4.out;simp only [Dat.cnt]at*;omega)
   have hb4:y1+1+1≤1073741824:=by have:=HZ.out;have:=C4.out;omega
   have Q4:Hid (y1+1+1=z+(sumC (partsD_f l) (k*7+4):Int)):=hq4
   clear hq4
   go_wp2_with fail
   clear g4 hY4 z3 g3 hY3 z2 g2
   refine(mark_pasts (F:=K4) (l:=(paAt l k).p) (y1+1+1) (by omega) (by omega) (by have h6:=S5.out;have h7:=HZ.out;have h8:=C5.out;have h9:=Q4.out;omega) O4.out).mono ?_
   rintro e w5 ⟨rfl,hr,ht⟩
   rw [Q4.out]at hr
   have HR5:Hid (OwnD w5 F (.slice (some ⟨g,0,none⟩) l.length cap) (.row 7 l.length (mkD (partsD_f l) z (k*7+5)))):=B4.out _ hr ht
   have HT5:Hid (Turns F w w5):=HT4.out.trans (ht.mono F4.out)
   clear hr ht
   obtain⟨y4,hy⟩:∃y4:Int,y4=y1+1+1+((pastsD (paAt l k).p).cnt:Int):=⟨_,rfl⟩
   have HY5:Hid (y4=z+(sumC (partsD_f l) (k*7+5):Int)):=by
    have h8:=S5.out
    have h9:=Q4.out
    show y4=_
    omega
   have y40:0≤y4:=by omega
   have y41:y4≤1073741824:=by have h7:=HZ.out;have h8:=C5.out;have h9:=HY5.out;omega
   rw [←hy]
   clear hy
   obtain⟨u5,K5,g5,o5,f5,b5⟩:=HR5.out.mk_row (m:=k*7+5) (by omega)
   rw [E5.out]at o5 b5
   have O5:Hid (OwnD w5 K5 u5 (evsD (paAt l k).t)):=o5
   have B5:Hid (∀w',OwnD w' K5 u5 ((evsD (paAt l k).t).mark (z+(sumC (partsD_f l) (k*7+5):Int)))→Turns K5 w5 w'→OwnD w' F (.slice (some ⟨g,0,none⟩) l.length cap) (.row 7 l.length (mkD (partsD_f l) z (k*7+6)))):=b5
   have F5:Hid (∀b,K5 b→F b):=f5
   clear o5 b5 f5
   have hq5:y4=z+(sumC (partsD_f l) (k*7+5):Int):=by(have e:=HY5.out;simp only [Dat.cnt]at*;omega)
   have hb5:y4≤1073741824:=by have:=HZ.out;have:=C5.out;omega
   have Q5:Hid (y4=z+(sumC (partsD_f l) (k*7+5):Int)):=hq5
   clear hq5
   go_wp2_with fail
   clear g5
   refine(mark_evs (F:=K5) (l:=(paAt l k).t) (y4) (by omega) (by omega) (by omega) O5.out).mono ?_
   rintro e w6 ⟨rfl,hr,ht⟩
   rw [Q5.out]at hr
   have HR6:Hid (OwnD w6 F (.slice (some ⟨g,0,none⟩) l.length cap) (.row 7 l.length (mkD (partsD_f l) z (k*7+6)))):=B5.out _ hr ht
   have HT6:Hid (Turns F w w6):=HT5.out.trans (ht.mono F5.out)
   clear hr ht
   obtain⟨y5,hy⟩:∃y5:Int,y5=y4+((evsD (paAt l k).t).cnt:Int):=⟨_,rfl⟩
   have HY6:Hid (y5=z+(sumC (partsD_f l) (k*7+6):Int)):=by
    have h8:=S6.out
    have h9:=Q5.out
    show y5=_
    omega
   have y50:0≤y5:=by omega
   have y51:y5≤1073741824:=by have h7:=HZ.out;have h8:=C6.out;have h9:=HY6.out;omega
   rw [←hy]
   clear hy
   obtain⟨u6,K6,g6,o6,f6,b6⟩:=HR6.out.mk_row (m:=k*7+6) (by omega)
   rw [E6.out]at o6 b6
   have O6:Hid (OwnD w6 K6 u6 (intsD (paAt l k).a)):=o6
   have B6:Hid (∀w',OwnD w' K6 u6 ((intsD (paAt l k).a).mark (z+(sumC (partsD_f l) (k*7+6):Int)))→Turns K6 w6 w'→OwnD w' F (.slice (some ⟨g,0,none⟩) l.length cap) (.row 7 l.length (mkD (partsD_f l) z (k*7+7)))):=b6
   have F6:Hid (∀b,K6 b→F b):=f6
   clear o6 b6 f6
   have hq6:y5=z+(sumC (partsD_f l) (k*7+6):Int):=by(have e:=HY6.out;simp only [Dat.cnt]at*;omega)
   have hb6:y5≤1073741824:=by have:=HZ.out;have:=C6.out;omega
   have Q6:Hid (y5=z+(sumC (partsD_f l) (k*7+6):Int)):=hq6
   clear hq6
   go_wp2_with fail
   clear g6
   refine(mark_ints (F:=K6) (l:=(paAt l k).a) (y5) (by omega) (by omega) (by omega) O6.out).mono ?_
   rintro e w7 ⟨rfl,hr,ht⟩
   rw [Q6.out]at hr
   have HR7:Hid (OwnD w7 F (.slice (some ⟨g,0,none⟩) l.length cap) (.row 7 l.length (mkD (partsD_f l) z (k*7+7)))):=B6.out _ hr ht
   have HT7:Hid (Turns F w w7):=HT6.out.trans (ht.mono F6.out)
   clear hr ht
   obtain⟨y6,hy⟩:∃y6:Int,y6=y5+((intsD (paAt l k).a).cnt:Int):=⟨_,rfl⟩
   have HY7:Hid (y6=z+(sumC (partsD_f l) (k*7+7):Int)):=by
    have h8:=S7.out
    have h9:=Q6.out
    show y6=_
    omega
   have y60:0≤y6:=by omega
   have y61:y6≤1073741824:=by have h7:=HZ.out;have h8:=C7.out;have h9:=HY7.out;omega
   rw [←hy]
   clear hy
   go_wp2
   go_roundw
   case rel=>
    refine⟨k+1,by omega,by go_num,?_,?_,HT7.out⟩
    ·rw [show y6=z+(sumC (partsD_f l) ((k+1)*7):Int)from by rw [show(k+1)*7=k*7+7 from by omega];(have e:=HY7.out;simp only [Dat.cnt]at*;omega)]
    ·rw [show(k+1)*7=k*7+7 from by omega]
     exact HR7.out
   case measure=>simp [intOf];omega
  ·go_wp2
   go_ret
   obtain rfl:k=l.length:=by omega
   exact⟨rfl,HR.out.mkAll,HT.out⟩
def mailsD_f (l:List Ml):Nat→Dat:=fun j=> .val ((cellsMl l).getD j (.int .i64 0))
theorem mailsD_at (l:List Ml) {i r:Nat} (hi:i<l.length) (hr:r<8):mailsD_f l (i*8+r)= .val ((mlAt l i).cs.getD r (.int .i64 0)):=by
 unfold mailsD_f
 congr 1
 have h1:=cellsMl_get l i r hi hr
 have h2:r<(mlAt l i).cs.length:=by simpa [Ml.cs] using hr
 rw [List.getElem?_eq_getElem h2]at h1
 rw [getD_of h1,getD_of (List.getElem?_eq_getElem h2)]
set_option maxRecDepth 100000 in
set_option maxHeartbeats 8000000 in
theorem mark_mails {F:Nat→Prop} {x:Value} {l:List Ml} {w:World} (z:Int) (hn:(mailsD l).wt≤1048577) (hz0:0≤z) (hz1:z+((mailsD l).cnt:Int)≤1073741824) (h:OwnD w F x (mailsD l)):
  Calls Tryz.prog 73 #[x,.int .i64 z] w fun e w'=>e= .returned (.int .i64 (z+((mailsD l).cnt:Int)))∧OwnD w' F x ((mailsD l).mark z)∧Turns F w w':=by
 obtain⟨a,cap,rfl,h1,h2,ha⟩:=OwnD.parts (c:=8) (n:=l.length) h
 have HR0:Hid (OwnD w F (.slice a l.length cap) (.row 8 l.length (mkD (mailsD_f l) z (0*8)))):=OwnD.mk0 z h
 have HS:Hid ((mailsD l).wt≤1048577):=hn
 have HZ:Hid (z+((mailsD l).cnt:Int)≤1073741824):=hz1
 have hl2:l.length≤1048577:=by rw [mails_wt]at hn;omega
 clear h hn hz1 h1 h2
 go_enter Tryz.func73,Tryz.ntmps73
 go_wp2
 go_loopw [5,1] (fun i y wr=>∃k:Nat,k≤l.length∧i= .int .i64 k∧y= .int .i64 (z+(sumC (mailsD_f l) (k*8):Int))∧OwnD wr F (.slice a l.length cap) (.row 8 l.length (mkD (mailsD_f l) z (k*8)))∧Turns F w wr) (fun i _ _=>l.length-(intOf i).toNat)
 case atStart=>exact⟨0,Nat.zero_le _,rfl,by simp [sumC,sumL],HR0.out,Turns.refl _ _⟩
 case round=>
  obtain⟨k,hk,rfl,rfl,hR,hT⟩:=hrel
  have HR:Hid (OwnD wr F (.slice a l.length cap) (.row 8 l.length (mkD (mailsD_f l) z (k*8)))):=hR
  have HT:Hid (Turns F w wr):=hT
  clear hR hT
  by_cases hlt:k<l.length
  ·obtain⟨g,rfl,_,hFg⟩:=ha.resolve_left (by omega)
   have HF:Hid (F g):=hFg
   obtain⟨m,hm⟩:∃m,m=k*8:=⟨_,rfl⟩
   have E0:Hid ((mailsD_f l) (k*8+0)=Dat.val (.int .i64 (mlAt l k).e.t)):=mailsD_at l hlt (r:=0) (by omega)
   have E1:Hid ((mailsD_f l) (k*8+1)=Dat.val (.int .i64 (mlAt l k).e.s)):=mailsD_at l hlt (r:=1) (by omega)
   have E2:Hid ((mailsD_f l) (k*8+2)=Dat.val (.int .i64 (mlAt l k).e.q)):=mailsD_at l hlt (r:=2) (by omega)
   have E3:Hid ((mailsD_f l) (k*8+3)=Dat.val (.int .i64 (mlAt l k).e.d)):=mailsD_at l hlt (r:=3) (by omega)
   have E4:Hid ((mailsD_f l) (k*8+4)=Dat.val (.int .i64 (mlAt l k).e.k)):=mailsD_at l hlt (r:=4) (by omega)
   have E5:Hid ((mailsD_f l) (k*8+5)=Dat.val (.int .i64 (mlAt l k).e.v)):=mailsD_at l hlt (r:=5) (by omega)
   have E6:Hid ((mailsD_f l) (k*8+6)=Dat.val (.int .i64 (mlAt l k).e.g)):=mailsD_at l hlt (r:=6) (by omega)
   have E7:Hid ((mailsD_f l) (k*8+7)=Dat.val (.bool (mlAt l k).a)):=mailsD_at l hlt (r:=7) (by omega)
   have C0:Hid (sumC (mailsD_f l) (k*8)≤(mailsD l).cnt):=sumC_le (by omega)
   have S1:Hid (sumC (mailsD_f l) (k*8+1)=sumC (mailsD_f l) (k*8)+(Dat.val (.int .i64 (mlAt l k).e.t)).cnt):=by
    have e:=sumC_succ (mailsD_f l) (k*8+0)
    rw [E0.out]at e
    exact e
   have C1:Hid (sumC (mailsD_f l) (k*8+1)≤(mailsD l).cnt):=sumC_le (by omega)
   have S2:Hid (sumC (mailsD_f l) (k*8+2)=sumC (mailsD_f l) (k*8+1)+(Dat.val (.int .i64 (mlAt l k).e.s)).cnt):=by
    have e:=sumC_succ (mailsD_f l) (k*8+1)
    rw [E1.out]at e
    exact e
   have C2:Hid (sumC (mailsD_f l) (k*8+2)≤(mailsD l).cnt):=sumC_le (by omega)
   have S3:Hid (sumC (mailsD_f l) (k*8+3)=sumC (mailsD_f l) (k*8+2)+(Dat.val (.int .i64 (mlAt l k).e.q)).cnt):=by
    have e:=sumC_succ (mailsD_f l) (k*8+2)
    rw [E2.out]at e
    exact e
   have C3:Hid (sumC (mailsD_f l) (k*8+3)≤(mailsD l).cnt):=sumC_le (by omega)
   have S4:Hid (sumC (mailsD_f l) (k*8+4)=sumC (mailsD_f l) (k*8+3)+(Dat.val (.int .i64 (mlAt l k).e.d)).cnt):=by
    have e:=sumC_succ (mailsD_f l) (k*8+3)
    rw [E3.out]at e
    exact e
   have C4:Hid (sumC (mailsD_f l) (k*8+4)≤(mailsD l).cnt):=sumC_le (by omega)
   have S5:Hid (sumC (mailsD_f l) (k*8+5)=sumC (mailsD_f l) (k*8+4)+(Dat.val (.int .i64 (mlAt l k).e.k)).cnt):=by
    have e:=sumC_succ (mailsD_f l) (k*8+4)
    rw [E4.out]at e
    exact e
   have C5:Hid (sumC (mailsD_f l) (k*8+5)≤(mailsD l).cnt):=sumC_le (by omega)
   have S6:Hid (sumC (mailsD_f l) (k*8+6)=sumC (mailsD_f l) (k*8+5)+(Dat.val (.int .i64 (mlAt l k).e.v)).cnt):=by
    have e:=sumC_succ (mailsD_f l) (k*8+5)
    rw [E5.out]at e
    exact e
   have C6:Hid (sumC (mailsD_f l) (k*8+6)≤(mailsD l).cnt):=sumC_le (by omega)
   have S7:Hid (sumC (mailsD_f l) (k*8+7)=sumC (mailsD_f l) (k*8+6)+(Dat.val (.int .i64 (mlAt l k).e.g)).cnt):=by
    have e:=sumC_succ (mailsD_f l) (k*8+6)
    rw [E6.out]at e
    exact e
   have C7:Hid (sumC (mailsD_f l) (k*8+7)≤(mailsD l).cnt):=sumC_le (by omega)
   have S8:Hid (sumC (mailsD_f l) (k*8+8)=sumC (mailsD_f l) (k*8+7)+(Dat.val (.bool (mlAt l k).a)).cnt):=by
    have e:=sumC_succ (mailsD_f l) (k*8+7)
    rw [E7.out]at e
    exact e
   have C8:Hid (sumC (mailsD_f l) (k*8+8)≤(mailsD l).cnt):=sumC_le (by omega)
   have T0:sumC (mailsD_f l) (k*8)=sumC (mailsD_f l) (k*8)+0:=rfl
   have T1:sumC (mailsD_f l) (k*8+1)=sumC (mailsD_f l) (k*8)+1:=by have e1:=S1.out;have e2:=T0;exact e1.trans (by show sumC (mailsD_f l) (k*8)+1=_;omega)
   have T2:sumC (mailsD_f l) (k*8+2)=sumC (mailsD_f l) (k*8)+2:=by have e1:=S2.out;have e2:=T1;exact e1.trans (by show sumC (mailsD_f l) (k*8+1)+1=_;omega)
   have T3:sumC (mailsD_f l) (k*8+3)=sumC (mailsD_f l) (k*8)+3:=by have e1:=S3.out;have e2:=T2;exact e1.trans (by show sumC (mailsD_f l) (k*8+2)+1=_;omega)
   have T4:sumC (mailsD_f l) (k*8+4)=sumC (mailsD_f l) (k*8)+4:=by have e1:=S4.out;have e2:=T3;exact e1.trans (by show sumC (mailsD_f l) (k*8+3)+1=_;omega)
   have T5:sumC (mailsD_f l) (k*8+5)=sumC (mailsD_f l) (k*8)+5:=by have e1:=S5.out;have e2:=T4;exact e1.trans (by show sumC (mailsD_f l) (k*8+4)+1=_;omega)
   have T6:sumC (mailsD_f l) (k*8+6)=sumC (mailsD_f l) (k*8)+6:=by have e1:=S6.out;have e2:=T5;exact e1.trans (by show sumC (mailsD_f l) (k*8+5)+1=_;omega)
   have T7:sumC (mailsD_f l) (k*8+7)=sumC (mailsD_f l) (k*8)+7:=by have e1:=S7.out;have e2:=T6;exact e1.trans (by show sumC (mailsD_f l) (k*8+6)+1=_;omega)
   have T8:sumC (mailsD_f l) (k*8+8)=sumC (mailsD_f l) (k*8)+8:=by have e1:=S8.out;have e2:=T7;exact e1.trans (by show sumC (mailsD_f l) (k*8+7)+1=_;omega)
   have TT:Hid (sumC (mailsD_f l) (k*8+1)=sumC (mailsD_f l) (k*8)+1∧sumC (mailsD_f l) (k*8+2)=sumC (mailsD_f l) (k*8)+2∧sumC (mailsD_f l) (k*8+3)=sumC (mailsD_f l) (k*8)+3∧sumC (mailsD_f l) (k*8+4)=sumC (mailsD_f l) (k*8)+4∧sumC (mailsD_f l) (k*8+5)=sumC (mailsD_f l) (k*8)+5∧sumC (mailsD_f l) (k*8+6)=sumC (mailsD_f l) (k*8)+6∧sumC (mailsD_f l) (k*8+7)=sumC (mailsD_f l) (k*8)+7∧sumC (mailsD_f l) (k*8+8)=sumC (mailsD_f l) (k*8)+8):=⟨T1,T2,T3,T4,T5,T6,T7,T8⟩
   clear T0 T1 T2 T3 T4 T5 T6 T7 T8
   obtain⟨y,hy⟩:∃y:Int,y=z+(sumC (mailsD_f l) (k*8):Int):=⟨_,rfl⟩
   have HY0:Hid (y=z+(sumC (mailsD_f l) (k*8):Int)):=hy
   have y0:0≤y:=by omega
   have y1:y≤1073741824:=by have:=HZ.out;have:=C0.out;omega
   rw [←hy]
   clear hy hm
   obtain⟨x0,_,g0,z0,_⟩:=HR.out.step (j:=k*8) (by omega)
   obtain⟨x1,_,g1,z1,_⟩:=HR.out.step (j:=k*8+1) (by omega)
   obtain⟨x2,_,g2,z2,_⟩:=HR.out.step (j:=k*8+2) (by omega)
   obtain⟨x3,_,g3,z3,_⟩:=HR.out.step (j:=k*8+3) (by omega)
   obtain⟨x4,_,g4,z4,_⟩:=HR.out.step (j:=k*8+4) (by omega)
   obtain⟨x5,_,g5,z5,_⟩:=HR.out.step (j:=k*8+5) (by omega)
   obtain⟨x6,_,g6,z6,_⟩:=HR.out.step (j:=k*8+6) (by omega)
   obtain⟨x7,_,g7,z7,_⟩:=HR.out.step (j:=k*8+7) (by omega)
   go_wp2
   go_roundw
   case rel=>
    have hY:=HY0.out
    obtain⟨t1,t2,t3,t4,t5,t6,t7,t8⟩:=TT.out
    refine⟨k+1,by omega,by go_num,?_,?_,HT.out.trans ((((((((((Turns.refl _ _).trans (put1_turns _ _ _ _)).trans (put1_turns _ _ _ _)).trans (put1_turns _ _ _ _)).trans (put1_turns _ _ _ _)).trans (put1_turns _ _ _ _)).trans (put1_turns _ _ _ _)).trans (put1_turns _ _ _ _)).trans (put1_turns _ _ _ _)).mono (fun b e=>e▸HF.out))⟩
    ·rw [show y+1+1+1+1+1+1+1+1=z+(sumC (mailsD_f l) ((k+1)*8):Int)from by rw [show(k+1)*8=k*8+8 from by omega];omega]
    ·rw [show(k+1)*8=k*8+8 from by omega]
     exact((((((((HR.out.mk_val (m:=k*8) (by omega) E0.out (by show Value.int .i64 (y)=Value.int .i64 (z+(sumC (mailsD_f l) (k*8):Int));rw [show y=z+(sumC (mailsD_f l) (k*8):Int)from by omega])).mk_val (m:=k*8+1) (by omega) E1.out (by show Value.int .i64 (y+1)=Value.int .i64 (z+(sumC (mailsD_f l) (k*8+1):Int));rw [show y+1=z+(sumC (mailsD_f l) (k*8+1):Int)from by omega])).mk_val (m:=k*8+2) (by omega) E2.out (by show Value.int .i64 (y+1+1)=Value.int .i64 (z+(sumC (mailsD_f l) (k*8+2):Int));rw [show y+1+1=z+(sumC (mailsD_f l) (k*8+2):Int)from by omega])).mk_val (m:=k*8+3) (by omega) E3.out (by show Value.int .i64 (y+1+1+1)=Value.int .i64 (z+(sumC (mailsD_f l) (k*8+3):Int));rw [show y+1+1+1=z+(sumC (mailsD_f l) (k*8+3):Int)from by omega])).mk_val (m:=k*8+4) (by omega) E4.out (by show Value.int .i64 (y+1+1+1+1)=Value.int .i64 (z+(sumC (mailsD_f l) (k*8+4):Int));rw [show y+1+1+1+1=z+(sumC (mailsD_f l) (k*8+4):Int)from by omega])).mk_val (m:=k*8+5) (by omega) E5.out (by show Value.int .i64 (y+1+1+1+1+1)=Value.int .i64 (z+(sumC (mailsD_f l) (k*8+5):Int));rw [show y+1+1+1+1+1=z+(sumC (mailsD_f l) (k*8+5):Int)from by omega])).mk_val (m:=k*8+6) (by omega) E6.out (by show Value.int .i64 (y+1+1+1+1+1+1)=Value.int .i64 (z+(sumC (mailsD_f l) (k*8+6):Int));rw [show y+1+1+1+1+1+1=z+(sumC (mailsD_f l) (k*8+6):Int)from by omega])).mk_val (m:=k*8+7) (by omega) E7.out (by show Value.bool ((y+1+1+1+1+1+1+1)%3==0)=Value.bool ((z+(sumC (mailsD_f l) (k*8+7):Int))%3==0);rw [show y+1+1+1+1+1+1+1=z+(sumC (mailsD_f l) (k*8+7):Int)from by omega]))
   case measure=>simp [intOf];omega
  ·go_wp2
   go_ret
   obtain rfl:k=l.length:=by omega
   exact⟨rfl,HR.out.mkAll,HT.out⟩
def mg6 (k:Kn):Int:=markNo k.m+((intsD k.d).cnt:Int)
def mg7 (k:Kn):Int:=mg6 k+((partsD k.p).cnt:Int)
def mg8 (k:Kn):Int:=mg7 k+((mailsD k.b).cnt:Int)
def mg12 (k:Kn):Int:=mg8 k+((evsD k.s).cnt:Int)
def markKg (k:Kn):Int:=mg12 k+((emsD k.x).cnt:Int)
theorem markNo_mid {m:Md} (h:SmallM m):markNo m≤20000000:=by
 have h1:=h.i
 have h2:=h.t
 have h3:=h.e
 unfold markNo
 omega
theorem small_marks {k:Kn} (h:SmallK k):1≤markNo k.m∧markNo k.m≤mg6 k∧mg6 k≤mg7 k∧mg7 k≤mg8 k∧mg8 k≤mg12 k∧mg12 k≤markKg k∧markKg k≤1073741824∧(partsD k.p).wt≤1048576∧(mailsD k.b).wt≤1048576∧k.d.length≤1048576∧k.s.length≤1048576∧k.x.length≤1048576:=by
 have h0:=markNo_pos k.m
 have h1:=markNo_mid h.1
 have h2:=h.2
 have h7:(partsD k.p).cnt≤40*(partsD k.p).wt:=Dat.cnt_le (parts_thin k.p)
 have h8:(mailsD k.b).cnt≤40*(mailsD k.b).wt:=Dat.cnt_le (mails_thin k.b)
 unfold Kn.wt at h2
 rw [ints_wt,evs_wt,ems_wt]at h2
 unfold markKg mg12 mg8 mg7 mg6
 rw [ints_cnt,evs_cnt,ems_cnt]
 omega
theorem KernF.below {F:Nat→Prop} {w w':World} {y:Value} {k:Kn} (h:KernF F w y k) (hb:Below w.heap.size w w'):KernF F w' y k:=h.turns (S:=fun _=>False) (Turns.of_below hb) (fun _ _=>id)
set_option maxRecDepth 100000 in
set_option maxHeartbeats 8000000 in
theorem markKern_any {F:Nat→Prop} {x:Value} {k:Kn} {w:World} (hs:SmallK k) (h:KernF F w x k) (hF:∀j,F j→j<w.heap.size):
  Calls Tryz.prog 26 #[x,.int .i64 1] w fun e w'=>e= .returned (.int .i64 (markKg k))∧Turns F w w':=by
 obtain⟨A0,A6,A7,A8,A12,A13,vi,vh,vs,u6,u7,u8,u12,u13,rfl,hm,h6,h7,h8,h12,h13,d0,d6,d7,d8,d12,d13⟩:=h
 have HS:Hid (SmallK k):=hs
 obtain⟨hz0,hz1,hz2,hz3,hz4,hz5,hz6,hl7,hl8,hl6,hl12,hl13⟩:=small_marks hs
 have HF:Hid (∀j,F j→j<w.heap.size):=hF
 obtain⟨W0,hW0⟩:∃W0,w.alloc (.cells #[.int .i64 k.m.n,.int .i64 k.m.s,vi,vh,vs,.int .i64 k.m.z,u6,u7,u8,.int .i64 k.t,.int .i64 k.q,.bool k.f,u12,u13] 57)=W0:=⟨_,rfl⟩
 have HB0:Hid (Below w.heap.size w W0):=by rw [←hW0];exact(Below.refl _ w).alloc (Nat.le_refl _) _
 have HP0:Hid (Bk W0 w.heap.size 57 #[.int .i64 k.m.n,.int .i64 k.m.s,vi,vh,vs,.int .i64 k.m.z,u6,u7,u8,.int .i64 k.t,.int .i64 k.q,.bool k.f,u12,u13]):=by rw [←hW0];exact Bk.new w _ _
 have HT0:Hid (Turns F w W0):=Turns.of_below HB0.out
 have HW:Hid (w.alloc (.cells #[.int .i64 k.m.n,.int .i64 k.m.s,vi,vh,vs,.int .i64 k.m.z,u6,u7,u8,.int .i64 k.t,.int .i64 k.q,.bool k.f,u12,u13] 57)=W0):=hW0
 have O0_0:Hid (MdF A0 W0 (.agg #[.int .i64 k.m.n,.int .i64 k.m.s,vi,vh,vs,.int .i64 k.m.z]) k.m):=hm.below HB0.out
 have O6_0:Hid (OwnD W0 A6 u6 (intsD k.d)):=h6.under HB0.out
 have O7_0:Hid (OwnD W0 A7 u7 (partsD k.p)):=h7.under HB0.out
 have O8_0:Hid (OwnD W0 A8 u8 (mailsD k.b)):=h8.under HB0.out
 have O12_0:Hid (OwnD W0 A12 u12 (evsD k.s)):=h12.under HB0.out
 have O13_0:Hid (OwnD W0 A13 u13 (emsD k.x)):=h13.under HB0.out
 have D0:Hid (∀j,A0 j→F j∧ ¬A6 j∧ ¬A7 j∧ ¬A8 j∧ ¬A12 j∧ ¬A13 j):=d0
 have D6:Hid (∀j,A6 j→F j∧ ¬A7 j∧ ¬A8 j∧ ¬A12 j∧ ¬A13 j):=d6
 have D7:Hid (∀j,A7 j→F j∧ ¬A8 j∧ ¬A12 j∧ ¬A13 j):=d7
 have D8:Hid (∀j,A8 j→F j∧ ¬A12 j∧ ¬A13 j):=d8
 have D12:Hid (∀j,A12 j→F j∧ ¬A13 j):=d12
 have D13:Hid (∀j,A13 j→F j):=d13
 clear hs hF hW0 hm h6 h7 h8 h12 h13 d0 d6 d7 d8 d12 d13
 go_enter Tryz.func26,Tryz.ntmps26
 have p0:=HP0.out.cell (i:=0) rfl
 have p1:=HP0.out.cell (i:=1) rfl
 have p2:=HP0.out.cell (i:=2) rfl
 have p3:=HP0.out.cell (i:=3) rfl
 have p4:=HP0.out.cell (i:=4) rfl
 have p5:=HP0.out.cell (i:=5) rfl
 go_wp2_with fail
 rw [HW.out]
 clear HW p0 p1 p2 p3 p4 p5
 refine(markModel_any HS.out.1 O0_0.out (fun j e=>Nat.lt_of_lt_of_le (HF.out j (D0.out j e).1) HB0.out.size)).mono ?_
 rintro e w1 ⟨rfl,-,ht⟩
 have HP1:Hid (Bk w1 w.heap.size 57 #[.int .i64 k.m.n,.int .i64 k.m.s,vi,vh,vs,.int .i64 k.m.z,u6,u7,u8,.int .i64 k.t,.int .i64 k.q,.bool k.f,u12,u13]):=HP0.out.turns ht (fun e=>by have:=HF.out _ ((D0.out _ e).1);omega)
 have HT1:Hid (Turns F w w1):=HT0.out.trans (ht.mono (fun j e=>(D0.out j e).1))
 have O6_1:Hid (OwnD w1 A6 u6 (intsD k.d)):=O6_0.out.turns ht (fun j e e'=>(D0.out j e').2.1 e)
 have O7_1:Hid (OwnD w1 A7 u7 (partsD k.p)):=O7_0.out.turns ht (fun j e e'=>(D0.out j e').2.2.1 e)
 have O8_1:Hid (OwnD w1 A8 u8 (mailsD k.b)):=O8_0.out.turns ht (fun j e e'=>(D0.out j e').2.2.2.1 e)
 have O12_1:Hid (OwnD w1 A12 u12 (evsD k.s)):=O12_0.out.turns ht (fun j e e'=>(D0.out j e').2.2.2.2.1 e)
 have O13_1:Hid (OwnD w1 A13 u13 (emsD k.x)):=O13_0.out.turns ht (fun j e e'=>(D0.out j e').2.2.2.2.2 e)
 clear ht HP0 HT0 O0_0 O6_0 O7_0 O8_0 O12_0 O13_0
 have p6:=HP1.out.cell (i:=6) rfl
 go_wp2_with fail
 clear p6
 refine(mark_ints (F:=A6) (l:=k.d) (markNo k.m) (by omega) (by omega) (by omega) O6_1.out).mono ?_
 rintro e w2 ⟨rfl,-,ht⟩
 have HP2:Hid (Bk w2 w.heap.size 57 #[.int .i64 k.m.n,.int .i64 k.m.s,vi,vh,vs,.int .i64 k.m.z,u6,u7,u8,.int .i64 k.t,.int .i64 k.q,.bool k.f,u12,u13]):=HP1.out.turns ht (fun e=>by have:=HF.out _ ((D6.out _ e).1);omega)
 have HT2:Hid (Turns F w w2):=HT1.out.trans (ht.mono (fun j e=>(D6.out j e).1))
 have O7_2:Hid (OwnD w2 A7 u7 (partsD k.p)):=O7_1.out.turns ht (fun j e e'=>(D6.out j e').2.1 e)
 have O8_2:Hid (OwnD w2 A8 u8 (mailsD k.b)):=O8_1.out.turns ht (fun j e e'=>(D6.out j e').2.2.1 e)
 have O12_2:Hid (OwnD w2 A12 u12 (evsD k.s)):=O12_1.out.turns ht (fun j e e'=>(D6.out j e').2.2.2.1 e)
 have O13_2:Hid (OwnD w2 A13 u13 (emsD k.x)):=O13_1.out.turns ht (fun j e e'=>(D6.out j e').2.2.2.2 e)
 clear ht HP1 HT1 O6_1 O7_1 O8_1 O12_1 O13_1
 rw [show markNo k.m+(((intsD k.d)).cnt:Int)=mg6 k from rfl]
 have p7:=HP2.out.cell (i:=7) rfl
 go_wp2_with fail
 clear p7
 refine(mark_parts (F:=A7) (l:=k.p) (mg6 k) (by omega) (by omega) (by have h9:mg6 k+((partsD k.p).cnt:Int)=mg7 k:=rfl;omega) O7_2.out).mono ?_
 rintro e w3 ⟨rfl,-,ht⟩
 have HP3:Hid (Bk w3 w.heap.size 57 #[.int .i64 k.m.n,.int .i64 k.m.s,vi,vh,vs,.int .i64 k.m.z,u6,u7,u8,.int .i64 k.t,.int .i64 k.q,.bool k.f,u12,u13]):=HP2.out.turns ht (fun e=>by have:=HF.out _ ((D7.out _ e).1);omega)
 have HT3:Hid (Turns F w w3):=HT2.out.trans (ht.mono (fun j e=>(D7.out j e).1))
 have O8_3:Hid (OwnD w3 A8 u8 (mailsD k.b)):=O8_2.out.turns ht (fun j e e'=>(D7.out j e').2.1 e)
 have O12_3:Hid (OwnD w3 A12 u12 (evsD k.s)):=O12_2.out.turns ht (fun j e e'=>(D7.out j e').2.2.1 e)
 have O13_3:Hid (OwnD w3 A13 u13 (emsD k.x)):=O13_2.out.turns ht (fun j e e'=>(D7.out j e').2.2.2 e)
 clear ht HP2 HT2 O7_2 O8_2 O12_2 O13_2
 rw [show mg6 k+(((partsD k.p)).cnt:Int)=mg7 k from rfl]
 have p8:=HP3.out.cell (i:=8) rfl
 go_wp2_with fail
 clear p8
 refine(mark_mails (F:=A8) (l:=k.b) (mg7 k) (by omega) (by omega) (by have h9:mg7 k+((mailsD k.b).cnt:Int)=mg8 k:=rfl;omega) O8_3.out).mono ?_
 rintro e w4 ⟨rfl,-,ht⟩
 have HP4:Hid (Bk w4 w.heap.size 57 #[.int .i64 k.m.n,.int .i64 k.m.s,vi,vh,vs,.int .i64 k.m.z,u6,u7,u8,.int .i64 k.t,.int .i64 k.q,.bool k.f,u12,u13]):=HP3.out.turns ht (fun e=>by have:=HF.out _ ((D8.out _ e).1);omega)
 have HT4:Hid (Turns F w w4):=HT3.out.trans (ht.mono (fun j e=>(D8.out j e).1))
 have O12_4:Hid (OwnD w4 A12 u12 (evsD k.s)):=O12_3.out.turns ht (fun j e e'=>(D8.out j e').2.1 e)
 have O13_4:Hid (OwnD w4 A13 u13 (emsD k.x)):=O13_3.out.turns ht (fun j e e'=>(D8.out j e').2.2 e)
 clear ht HP3 HT3 O8_3 O12_3 O13_3
 rw [show mg7 k+(((mailsD k.b)).cnt:Int)=mg8 k from rfl]
 have p12:=HP4.out.cell (i:=12) rfl
 go_wp2_with fail
 clear p12
 refine(mark_evs (F:=A12) (l:=k.s) (mg8 k) (by omega) (by omega) (by omega) O12_4.out).mono ?_
 rintro e w5 ⟨rfl,-,ht⟩
 have HP5:Hid (Bk w5 w.heap.size 57 #[.int .i64 k.m.n,.int .i64 k.m.s,vi,vh,vs,.int .i64 k.m.z,u6,u7,u8,.int .i64 k.t,.int .i64 k.q,.bool k.f,u12,u13]):=HP4.out.turns ht (fun e=>by have:=HF.out _ ((D12.out _ e).1);omega)
 have HT5:Hid (Turns F w w5):=HT4.out.trans (ht.mono (fun j e=>(D12.out j e).1))
 have O13_5:Hid (OwnD w5 A13 u13 (emsD k.x)):=O13_4.out.turns ht (fun j e e'=>(D12.out j e').2 e)
 clear ht HP4 HT4 O12_4 O13_4
 rw [show mg8 k+(((evsD k.s)).cnt:Int)=mg12 k from rfl]
 have p13:=HP5.out.cell (i:=13) rfl
 go_wp2_with fail
 clear p13
 refine(mark_ems (F:=A13) (l:=k.x) (mg12 k) (by omega) (by omega) (by omega) O13_5.out).mono ?_
 rintro e w6 ⟨rfl,-,ht⟩
 have HP6:Hid (Bk w6 w.heap.size 57 #[.int .i64 k.m.n,.int .i64 k.m.s,vi,vh,vs,.int .i64 k.m.z,u6,u7,u8,.int .i64 k.t,.int .i64 k.q,.bool k.f,u12,u13]):=HP5.out.turns ht (fun e=>by have:=HF.out _ (D13.out _ e);omega)
 have HT6:Hid (Turns F w w6):=HT5.out.trans (ht.mono (fun j e=>D13.out j e))
 clear ht HP5 HT5 O13_5
 rw [show mg12 k+(((emsD k.x)).cnt:Int)=markKg k from rfl]
 go_wp2
 go_ret
 exact⟨rfl,HT6.out⟩
set_option maxHeartbeats 8000000 in
theorem eq_parts (x y:Value) (l:List Pa) (w:World) (hl:(partsD l).wt≤1048576) (hx:IsD w x (partsD l)) (hy:IsD w y (partsD l)):
  Calls Tryz.prog 66 #[x,y] w fun e w'=>e= .returned (.bool true)∧Below w.heap.size w w':=by
 obtain⟨a,cap,rfl,h1,h2,h⟩:=IsD.parts (c:=7) (n:=l.length) hx
 obtain⟨a',cap',rfl,h1',h2',h'⟩:=IsD.parts (c:=7) (n:=l.length) hy
 have HS:Hid ((partsD l).wt≤1048576):=hl
 have hl2:l.length≤1048576:=by rw [partsD_wt]at hl;omega
 clear h1 h2 h1' h2' hx hy hl
 go_enter Tryz.func66,Tryz.ntmps66
 go_wp2
 go_loopw [5] (fun i wr=>∃k:Nat,k≤l.length∧i= .int .i64 k∧Below w.heap.size w wr) (fun i _=>l.length-(intOf i).toNat)
 case atStart=>exact⟨0,Nat.zero_le _,rfl,Below.refl _ _⟩
 case round=>
  obtain⟨k,hk,rfl,hB⟩:=hrel
  have HB:Hid (Below w.heap.size w wr):=hB
  by_cases hlt:k<l.length
  ·obtain⟨b,off,rfl,hb,hc⟩:=h.resolve_left (by omega)
   obtain⟨b',off',rfl,hb',hc'⟩:=h'.resolve_left (by omega)
   obtain⟨u1,u4,u5,u6,f0,f1,f2,f3,f4,f5,f6,d1,d4,d5,d6⟩:=partsD_in (fun j hj=>by
    obtain⟨u,hu,hd⟩:=hc j hj
    exact⟨u,(hB.cell (p:=⟨b,off+j,none⟩) hb).trans hu,hd.under hB⟩) hlt
   obtain⟨v1,v4,v5,v6,e0,e1,e2,e3,e4,e5,e6,g1,g4,g5,g6⟩:=partsD_in (fun j hj=>by
    obtain⟨u,hu,hd⟩:=hc' j hj
    exact⟨u,(hB.cell (p:=⟨b',off'+j,none⟩) hb').trans hu,hd.under hB⟩) hlt
   have HD:Hid (IsPart wr.drew (.agg #[.int .i64 (paAt l k).n,u1,.int .i64 (paAt l k).st.q,.int .i64 (paAt l k).st.d,u4,u5,u6]) (paAt l k)):=IsPart.under (w:=wr) ⟨u1,u4,u5,u6,rfl,d1,d4,d5,d6⟩ (Below.refl _ wr).drew
   have HG:Hid (IsPart wr.drew (.agg #[.int .i64 (paAt l k).n,v1,.int .i64 (paAt l k).st.q,.int .i64 (paAt l k).st.d,v4,v5,v6]) (paAt l k)):=IsPart.under (w:=wr) ⟨v1,v4,v5,v6,rfl,g1,g4,g5,g6⟩ (Below.refl _ wr).drew
   have HW:Hid ((paAt l k).wt≤1048576):=Nat.le_trans (Pa.wt_le hlt) HS.out
   have hbr:b<wr.heap.size:=Nat.lt_of_lt_of_le hb hB.size
   have hbr':b'<wr.heap.size:=Nat.lt_of_lt_of_le hb' hB.size
   clear hB hc hc' h h' d1 d4 d5 d6 g1 g4 g5 g6
   go_wp2_with fail
   go_region_held3 (fun W=>W.cell? ⟨b,off+k*7,none⟩=some (.int .i64 (paAt l k).n)∧W.cell? ⟨b,off+k*7+1,none⟩=some (u1)∧W.cell? ⟨b,off+k*7+2,none⟩=some (.int .i64 (paAt l k).st.q)∧W.cell? ⟨b,off+k*7+3,none⟩=some (.int .i64 (paAt l k).st.d)∧W.cell? ⟨b,off+k*7+4,none⟩=some (u4)∧W.cell? ⟨b,off+k*7+5,none⟩=some (u5)∧W.cell? ⟨b,off+k*7+6,none⟩=some (u6)∧W.cell? ⟨b',off'+k*7,none⟩=some (.int .i64 (paAt l k).n)∧W.cell? ⟨b',off'+k*7+1,none⟩=some (v1)∧W.cell? ⟨b',off'+k*7+2,none⟩=some (.int .i64 (paAt l k).st.q)∧W.cell? ⟨b',off'+k*7+3,none⟩=some (.int .i64 (paAt l k).st.d)∧W.cell? ⟨b',off'+k*7+4,none⟩=some (v4)∧W.cell? ⟨b',off'+k*7+5,none⟩=some (v5)∧W.cell? ⟨b',off'+k*7+6,none⟩=some (v6)) ((repeat' apply And.intro)<;>first|(go_keep;done)|(rw [hcA _ _ (by first|omega|(simp;omega)|simp [*])];simp [*];done))
    (first|(go_at_call 124;refine(eqPart_same _ _ (paAt l k) _ HW.out HD.out HG.out).mono ?_;rintro e w2 ⟨rfl,hb2⟩;obtain⟨hcA,hfA⟩:=bcell hb2))
   clear hcA hfA
   go_wp2
   go_roundw
   case rel=>exact⟨k+1,by omega,by go_num,HB.out.drew.trans (hb2.mono (by have:=HB.out.size;simpa using this))⟩
   case measure=>simp [intOf];omega
  ·clear hB h h'
   go_wp2
   go_ret
   exact⟨rfl,HB.out⟩
set_option maxRecDepth 100000 in
set_option maxHeartbeats 4000000 in
theorem eqKernel_same (x y:Value) (k:Kn) (w:World) (hs:SmallK k) (hx:IsKern w x k) (hy:IsKern w y k):
  Calls Tryz.prog 22 #[x,y] w fun e w'=>e= .returned (.bool true)∧Below w.heap.size w w':=by
 obtain⟨vi,vh,vs,u6,u7,u8,u12,u13,rfl,hm,h6,h7,h8,h12,h13⟩:=hx
 obtain⟨xvi,xvh,xvs,v6,v7,v8,v12,v13,rfl,jm,j6,j7,j8,j12,j13⟩:=hy
 have HS:Hid (SmallK k):=hs
 have HM:Hid (IsM w (.agg #[.int .i64 k.m.n,.int .i64 k.m.s,vi,vh,vs,.int .i64 k.m.z]) k.m∧IsM w (.agg #[.int .i64 k.m.n,.int .i64 k.m.s,xvi,xvh,xvs,.int .i64 k.m.z]) k.m):=⟨hm,jm⟩
 have H6:Hid (IsD w u6 (intsD k.d)∧IsD w v6 (intsD k.d)):=⟨h6,j6⟩
 have H7:Hid (IsD w u7 (partsD k.p)∧IsD w v7 (partsD k.p)):=⟨h7,j7⟩
 have H8:Hid (IsD w u8 (mailsD k.b)∧IsD w v8 (mailsD k.b)):=⟨h8,j8⟩
 have H12:Hid (IsD w u12 (evsD k.s)∧IsD w v12 (evsD k.s)):=⟨h12,j12⟩
 have H13:Hid (IsD w u13 (emsD k.x)∧IsD w v13 (emsD k.x)):=⟨h13,j13⟩
 clear hs hm jm h6 j6 h7 j7 h8 j8 h12 j12 h13 j13
 obtain⟨W0,hW0⟩:∃W0,(w.alloc (.cells #[.int .i64 k.m.n,.int .i64 k.m.s,vi,vh,vs,.int .i64 k.m.z,u6,u7,u8,.int .i64 k.t,.int .i64 k.q,.bool k.f,u12,u13] 57)).alloc (.cells #[.int .i64 k.m.n,.int .i64 k.m.s,xvi,xvh,xvs,.int .i64 k.m.z,v6,v7,v8,.int .i64 k.t,.int .i64 k.q,.bool k.f,v12,v13] 57)=W0:=⟨_,rfl⟩
 have HB0:Hid (Below w.heap.size w W0):=by rw [←hW0];exact((Below.refl _ w).alloc (Nat.le_refl _) _).alloc (by simp) _
 have HP0:Hid (Bk W0 w.heap.size 57 #[.int .i64 k.m.n,.int .i64 k.m.s,vi,vh,vs,.int .i64 k.m.z,u6,u7,u8,.int .i64 k.t,.int .i64 k.q,.bool k.f,u12,u13]):=by rw [←hW0];exact(Bk.new w _ _).alloc _
 have HQ0:Hid (Bk W0 (w.heap.size+1) 57 #[.int .i64 k.m.n,.int .i64 k.m.s,xvi,xvh,xvs,.int .i64 k.m.z,v6,v7,v8,.int .i64 k.t,.int .i64 k.q,.bool k.f,v12,v13]):=by rw [←hW0];exact Bk.newAt (by simp) _ _
 have HW:Hid ((w.alloc (.cells #[.int .i64 k.m.n,.int .i64 k.m.s,vi,vh,vs,.int .i64 k.m.z,u6,u7,u8,.int .i64 k.t,.int .i64 k.q,.bool k.f,u12,u13] 57)).alloc (.cells #[.int .i64 k.m.n,.int .i64 k.m.s,xvi,xvh,xvs,.int .i64 k.m.z,v6,v7,v8,.int .i64 k.t,.int .i64 k.q,.bool k.f,v12,v13] 57)=W0):=hW0
 clear hW0
 go_enter Tryz.func22,Tryz.ntmps22
 have p0:=HP0.out.cell (i:=0) rfl
 have q0:=HQ0.out.cell (i:=0) rfl
 have p1:=HP0.out.cell (i:=1) rfl
 have q1:=HQ0.out.cell (i:=1) rfl
 have p2:=HP0.out.cell (i:=2) rfl
 have q2:=HQ0.out.cell (i:=2) rfl
 have p3:=HP0.out.cell (i:=3) rfl
 have q3:=HQ0.out.cell (i:=3) rfl
 have p4:=HP0.out.cell (i:=4) rfl
 have q4:=HQ0.out.cell (i:=4) rfl
 have p5:=HP0.out.cell (i:=5) rfl
 have q5:=HQ0.out.cell (i:=5) rfl
 go_wp2_with fail
 rw [HW.out]
 clear HW
 clear p0 q0 p1 q1 p2 q2 p3 q3 p4 q4 p5 q5
 refine(eqModel_same _ _ k.m _ HS.out.1 (HM.out.1.below HB0.out) (HM.out.2.below HB0.out)).mono ?_
 rintro e w1 ⟨rfl,hb⟩
 have HB1:Hid (Below w.heap.size w w1):=HB0.out.trans (hb.mono HB0.out.size)
 have HP1:Hid (Bk w1 w.heap.size 57 #[.int .i64 k.m.n,.int .i64 k.m.s,vi,vh,vs,.int .i64 k.m.z,u6,u7,u8,.int .i64 k.t,.int .i64 k.q,.bool k.f,u12,u13]):=HP0.out.below hb
 have HQ1:Hid (Bk w1 (w.heap.size+1) 57 #[.int .i64 k.m.n,.int .i64 k.m.s,xvi,xvh,xvs,.int .i64 k.m.z,v6,v7,v8,.int .i64 k.t,.int .i64 k.q,.bool k.f,v12,v13]):=HQ0.out.below hb
 clear hb
 have p6:=HP1.out.cell (i:=6) rfl
 have q6:=HQ1.out.cell (i:=6) rfl
 go_wp2_with fail
 clear p6 q6
 refine(eq_ints _ _ k.d _ (by have:=HS.out.2;unfold Kn.wt at this;simp only [ints_wt,evs_wt,ems_wt,mails_wt]at this;omega) (H6.out.1.under HB1.out) (H6.out.2.under HB1.out)).mono ?_
 rintro e w2 ⟨rfl,hb⟩
 have HB2:Hid (Below w.heap.size w w2):=HB1.out.trans (hb.mono HB1.out.size)
 have HP2:Hid (Bk w2 w.heap.size 57 #[.int .i64 k.m.n,.int .i64 k.m.s,vi,vh,vs,.int .i64 k.m.z,u6,u7,u8,.int .i64 k.t,.int .i64 k.q,.bool k.f,u12,u13]):=HP1.out.below hb
 have HQ2:Hid (Bk w2 (w.heap.size+1) 57 #[.int .i64 k.m.n,.int .i64 k.m.s,xvi,xvh,xvs,.int .i64 k.m.z,v6,v7,v8,.int .i64 k.t,.int .i64 k.q,.bool k.f,v12,v13]):=HQ1.out.below hb
 clear hb
 have p7:=HP2.out.cell (i:=7) rfl
 have q7:=HQ2.out.cell (i:=7) rfl
 go_wp2_with fail
 clear p7 q7
 refine(eq_parts _ _ k.p _ (by have:=HS.out.2;unfold Kn.wt at this;simp only [ints_wt,evs_wt,ems_wt,mails_wt]at this;omega) (H7.out.1.under HB2.out) (H7.out.2.under HB2.out)).mono ?_
 rintro e w3 ⟨rfl,hb⟩
 have HB3:Hid (Below w.heap.size w w3):=HB2.out.trans (hb.mono HB2.out.size)
 have HP3:Hid (Bk w3 w.heap.size 57 #[.int .i64 k.m.n,.int .i64 k.m.s,vi,vh,vs,.int .i64 k.m.z,u6,u7,u8,.int .i64 k.t,.int .i64 k.q,.bool k.f,u12,u13]):=HP2.out.below hb
 have HQ3:Hid (Bk w3 (w.heap.size+1) 57 #[.int .i64 k.m.n,.int .i64 k.m.s,xvi,xvh,xvs,.int .i64 k.m.z,v6,v7,v8,.int .i64 k.t,.int .i64 k.q,.bool k.f,v12,v13]):=HQ2.out.below hb
 clear hb
 have p8:=HP3.out.cell (i:=8) rfl
 have q8:=HQ3.out.cell (i:=8) rfl
 go_wp2_with fail
 clear p8 q8
 refine(eq_mails _ _ k.b _ (by have:=HS.out.2;unfold Kn.wt at this;simp only [ints_wt,evs_wt,ems_wt,mails_wt]at this;omega) (H8.out.1.under HB3.out) (H8.out.2.under HB3.out)).mono ?_
 rintro e w4 ⟨rfl,hb⟩
 have HB4:Hid (Below w.heap.size w w4):=HB3.out.trans (hb.mono HB3.out.size)
 have HP4:Hid (Bk w4 w.heap.size 57 #[.int .i64 k.m.n,.int .i64 k.m.s,vi,vh,vs,.int .i64 k.m.z,u6,u7,u8,.int .i64 k.t,.int .i64 k.q,.bool k.f,u12,u13]):=HP3.out.below hb
 have HQ4:Hid (Bk w4 (w.heap.size+1) 57 #[.int .i64 k.m.n,.int .i64 k.m.s,xvi,xvh,xvs,.int .i64 k.m.z,v6,v7,v8,.int .i64 k.t,.int .i64 k.q,.bool k.f,v12,v13]):=HQ3.out.below hb
 clear hb
 have p12:=HP4.out.cell (i:=12) rfl
 have q12:=HQ4.out.cell (i:=12) rfl
 have p9:=HP4.out.cell (i:=9) rfl
 have q9:=HQ4.out.cell (i:=9) rfl
 have p10:=HP4.out.cell (i:=10) rfl
 have q10:=HQ4.out.cell (i:=10) rfl
 have p11:=HP4.out.cell (i:=11) rfl
 have q11:=HQ4.out.cell (i:=11) rfl
 have hff:(k.f !=k.f)=false:=by cases k.f<;>rfl
 go_wp2_with fail
 clear p12 q12 p9 q9 p10 q10 p11 q11
 refine(eq_evs _ _ k.s _ (by have:=HS.out.2;unfold Kn.wt at this;simp only [ints_wt,evs_wt,ems_wt,mails_wt]at this;omega) (H12.out.1.under HB4.out) (H12.out.2.under HB4.out)).mono ?_
 rintro e w5 ⟨rfl,hb⟩
 have HB5:Hid (Below w.heap.size w w5):=HB4.out.trans (hb.mono HB4.out.size)
 have HP5:Hid (Bk w5 w.heap.size 57 #[.int .i64 k.m.n,.int .i64 k.m.s,vi,vh,vs,.int .i64 k.m.z,u6,u7,u8,.int .i64 k.t,.int .i64 k.q,.bool k.f,u12,u13]):=HP4.out.below hb
 have HQ5:Hid (Bk w5 (w.heap.size+1) 57 #[.int .i64 k.m.n,.int .i64 k.m.s,xvi,xvh,xvs,.int .i64 k.m.z,v6,v7,v8,.int .i64 k.t,.int .i64 k.q,.bool k.f,v12,v13]):=HQ4.out.below hb
 clear hb
 have p13:=HP5.out.cell (i:=13) rfl
 have q13:=HQ5.out.cell (i:=13) rfl
 go_wp2_with fail
 clear p13 q13
 refine(eq_ems _ _ k.x _ (by have:=HS.out.2;unfold Kn.wt at this;simp only [ints_wt,evs_wt,ems_wt,mails_wt]at this;omega) (H13.out.1.under HB5.out) (H13.out.2.under HB5.out)).mono ?_
 rintro e w6 ⟨rfl,hb⟩
 have HB6:Hid (Below w.heap.size w w6):=HB5.out.trans (hb.mono HB5.out.size)
 have HP6:Hid (Bk w6 w.heap.size 57 #[.int .i64 k.m.n,.int .i64 k.m.s,vi,vh,vs,.int .i64 k.m.z,u6,u7,u8,.int .i64 k.t,.int .i64 k.q,.bool k.f,u12,u13]):=HP5.out.below hb
 have HQ6:Hid (Bk w6 (w.heap.size+1) 57 #[.int .i64 k.m.n,.int .i64 k.m.s,xvi,xvh,xvs,.int .i64 k.m.z,v6,v7,v8,.int .i64 k.t,.int .i64 k.q,.bool k.f,v12,v13]):=HQ5.out.below hb
 clear hb
 go_wp2
 go_ret
 exact⟨rfl,HB6.out⟩
end Go.Proofs.YtmobiieoecjmdaaGreat

