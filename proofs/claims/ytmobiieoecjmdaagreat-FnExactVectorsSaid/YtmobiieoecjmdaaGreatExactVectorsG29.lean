/- TPsE, PLib, NBytes, VToB, MBy, MByI -/
import Derived.Test.YtmobiieoecjmdaaGreatExactVectorsG04
import Derived.Test.YtmobiieoecjmdaaGreatExactVectorsG28
import Derived.Test.YtmobiieoecjmdaaGreatExactVectorsG01
import Derived.Test.YtmobiieoecjmdaaGreatExactVectorsG03
import Derived.Test.YtmobiieoecjmdaaGreatExactVectorsG18
import Derived.Test.YtmobiieoecjmdaaGreatExactVectorsG08
import Derived.Laws.OwnMore
import Derived.WalkSmall
import Derived.Test.YtmobiieoecjmdaaGreatExactVectorsLSOk
import Derived.Deep.Cut
import Derived.Deep.CutBlock
import Derived.Deep.RegionHeld3
import Derived.ArgAppend
import Derived.Lib.UnsafeStr
import Derived.OwnWalk
/- markPastS: marks, cell by cell. -/
namespace Go.Proofs.YtmobiieoecjmdaaGreat
open Go.RowKit
set_option maxRecDepth 100000 in
set_option maxHeartbeats 8000000 in
theorem ymu {F:Nat→Prop} {x:Value} {l:List Ps} {w:World} (z:Int) (hn:(yag l).wt≤1048577) (hz0:0≤z) (hz1:z+((yag l).cnt:Int)≤1073741824) (h:OwnD w F x (yag l)):
  Calls Tryz.prog 128 #[x,.int .i64 z] w fun e w'=>e= .returned (.int .i64 (z+((yag l).cnt:Int)))∧OwnD w' F x ((yag l).mark z)∧Turns F w w':=by
 obtain⟨a,cap,rfl,h1,h2,ha⟩:=OwnD.parts (c:=12) (n:=l.length) h
 have HR0:Hid (OwnD w F (.slice a l.length cap) (.row 12 l.length (mkD (ya3 l) z (0*12)))):=OwnD.mk0 z h
 have HS:Hid ((yag l).wt≤1048577):=hn
 have HZ:Hid (z+((yag l).cnt:Int)≤1073741824):=hz1
 have hl2:l.length≤1048577:=by rw [ybg]at hn;omega
 clear h hn hz1 h1 h2
 go_enter Tryz.func128,Tryz.ntmps128
 go_wp2
 go_loopw [5,1] (fun i y wr=>∃k:Nat,k≤l.length∧i= .int .i64 k∧y= .int .i64 (z+(sumC (ya3 l) (k*12):Int))∧OwnD wr F (.slice a l.length cap) (.row 12 l.length (mkD (ya3 l) z (k*12)))∧Turns F w wr) (fun i _ _=>l.length-(intOf i).toNat)
 case atStart=>exact⟨0,Nat.zero_le _,rfl,by simp [sumC,sumL],HR0.out,Turns.refl _ _⟩
 case round=>
  obtain⟨k,hk,rfl,rfl,hR,hT⟩:=hrel
  have HR:Hid (OwnD wr F (.slice a l.length cap) (.row 12 l.length (mkD (ya3 l) z (k*12)))):=hR
  have HT:Hid (Turns F w wr):=hT
  clear hR hT
  by_cases hlt:k<l.length
  ·obtain⟨g,rfl,_,hFg⟩:=ha.resolve_left (by omega)
   have HF:Hid (F g):=hFg
   have hwt:(psAt l k).wt≤1048577:=Nat.le_trans (Ps.wt_le hlt) HS.out
   unfold Ps.wt at hwt
   simp only [ybi,yan,yah]at hwt
   obtain⟨m,hm⟩:∃m,m=k*12:=⟨_,rfl⟩
   have E0:Hid ((ya3 l) (k*12+0)=Dat.val (.int .i64 (psAt l k).e.t)):=yav l k (r:=0) (by omega)
   have E1:Hid ((ya3 l) (k*12+1)=Dat.val (.int .i64 (psAt l k).e.s)):=yav l k (r:=1) (by omega)
   have E2:Hid ((ya3 l) (k*12+2)=Dat.val (.int .i64 (psAt l k).e.q)):=yav l k (r:=2) (by omega)
   have E3:Hid ((ya3 l) (k*12+3)=Dat.val (.int .i64 (psAt l k).e.d)):=yav l k (r:=3) (by omega)
   have E4:Hid ((ya3 l) (k*12+4)=Dat.val (.int .i64 (psAt l k).e.k)):=yav l k (r:=4) (by omega)
   have E5:Hid ((ya3 l) (k*12+5)=Dat.val (.int .i64 (psAt l k).e.v)):=yav l k (r:=5) (by omega)
   have E6:Hid ((ya3 l) (k*12+6)=Dat.val (.int .i64 (psAt l k).e.g)):=yav l k (r:=6) (by omega)
   have E7:Hid ((ya3 l) (k*12+7)=ya9 (psAt l k).b.r):=yav l k (r:=7) (by omega)
   have E8:Hid ((ya3 l) (k*12+8)=Dat.val (.int .i64 (psAt l k).b.q)):=yav l k (r:=8) (by omega)
   have E9:Hid ((ya3 l) (k*12+9)=Dat.val (.int .i64 (psAt l k).b.d)):=yav l k (r:=9) (by omega)
   have E10:Hid ((ya3 l) (k*12+10)=evsD (psAt l k).s):=yav l k (r:=10) (by omega)
   have E11:Hid ((ya3 l) (k*12+11)=emsD (psAt l k).x):=yav l k (r:=11) (by omega)
   have C0:Hid (sumC (ya3 l) (k*12)≤(yag l).cnt):=yae (by omega)
   have S1:Hid (sumC (ya3 l) (k*12+1)=sumC (ya3 l) (k*12)+(Dat.val (.int .i64 (psAt l k).e.t)).cnt):=by
    have e:=yac (ya3 l) (k*12+0)
    rw [E0.out]at e
    exact e
   have C1:Hid (sumC (ya3 l) (k*12+1)≤(yag l).cnt):=yae (by omega)
   have S2:Hid (sumC (ya3 l) (k*12+2)=sumC (ya3 l) (k*12+1)+(Dat.val (.int .i64 (psAt l k).e.s)).cnt):=by
    have e:=yac (ya3 l) (k*12+1)
    rw [E1.out]at e
    exact e
   have C2:Hid (sumC (ya3 l) (k*12+2)≤(yag l).cnt):=yae (by omega)
   have S3:Hid (sumC (ya3 l) (k*12+3)=sumC (ya3 l) (k*12+2)+(Dat.val (.int .i64 (psAt l k).e.q)).cnt):=by
    have e:=yac (ya3 l) (k*12+2)
    rw [E2.out]at e
    exact e
   have C3:Hid (sumC (ya3 l) (k*12+3)≤(yag l).cnt):=yae (by omega)
   have S4:Hid (sumC (ya3 l) (k*12+4)=sumC (ya3 l) (k*12+3)+(Dat.val (.int .i64 (psAt l k).e.d)).cnt):=by
    have e:=yac (ya3 l) (k*12+3)
    rw [E3.out]at e
    exact e
   have C4:Hid (sumC (ya3 l) (k*12+4)≤(yag l).cnt):=yae (by omega)
   have S5:Hid (sumC (ya3 l) (k*12+5)=sumC (ya3 l) (k*12+4)+(Dat.val (.int .i64 (psAt l k).e.k)).cnt):=by
    have e:=yac (ya3 l) (k*12+4)
    rw [E4.out]at e
    exact e
   have C5:Hid (sumC (ya3 l) (k*12+5)≤(yag l).cnt):=yae (by omega)
   have S6:Hid (sumC (ya3 l) (k*12+6)=sumC (ya3 l) (k*12+5)+(Dat.val (.int .i64 (psAt l k).e.v)).cnt):=by
    have e:=yac (ya3 l) (k*12+5)
    rw [E5.out]at e
    exact e
   have C6:Hid (sumC (ya3 l) (k*12+6)≤(yag l).cnt):=yae (by omega)
   have S7:Hid (sumC (ya3 l) (k*12+7)=sumC (ya3 l) (k*12+6)+(Dat.val (.int .i64 (psAt l k).e.g)).cnt):=by
    have e:=yac (ya3 l) (k*12+6)
    rw [E6.out]at e
    exact e
   have C7:Hid (sumC (ya3 l) (k*12+7)≤(yag l).cnt):=yae (by omega)
   have S8:Hid (sumC (ya3 l) (k*12+8)=sumC (ya3 l) (k*12+7)+(ya9 (psAt l k).b.r).cnt):=by
    have e:=yac (ya3 l) (k*12+7)
    rw [E7.out]at e
    exact e
   have C8:Hid (sumC (ya3 l) (k*12+8)≤(yag l).cnt):=yae (by omega)
   have S9:Hid (sumC (ya3 l) (k*12+9)=sumC (ya3 l) (k*12+8)+(Dat.val (.int .i64 (psAt l k).b.q)).cnt):=by
    have e:=yac (ya3 l) (k*12+8)
    rw [E8.out]at e
    exact e
   have C9:Hid (sumC (ya3 l) (k*12+9)≤(yag l).cnt):=yae (by omega)
   have S10:Hid (sumC (ya3 l) (k*12+10)=sumC (ya3 l) (k*12+9)+(Dat.val (.int .i64 (psAt l k).b.d)).cnt):=by
    have e:=yac (ya3 l) (k*12+9)
    rw [E9.out]at e
    exact e
   have C10:Hid (sumC (ya3 l) (k*12+10)≤(yag l).cnt):=yae (by omega)
   have S11:Hid (sumC (ya3 l) (k*12+11)=sumC (ya3 l) (k*12+10)+(evsD (psAt l k).s).cnt):=by
    have e:=yac (ya3 l) (k*12+10)
    rw [E10.out]at e
    exact e
   have C11:Hid (sumC (ya3 l) (k*12+11)≤(yag l).cnt):=yae (by omega)
   have S12:Hid (sumC (ya3 l) (k*12+12)=sumC (ya3 l) (k*12+11)+(emsD (psAt l k).x).cnt):=by
    have e:=yac (ya3 l) (k*12+11)
    rw [E11.out]at e
    exact e
   have C12:Hid (sumC (ya3 l) (k*12+12)≤(yag l).cnt):=yae (by omega)
   obtain⟨y,hy⟩:∃y:Int,y=z+(sumC (ya3 l) (k*12):Int):=⟨_,rfl⟩
   have HY0:Hid (y=z+(sumC (ya3 l) (k*12):Int)):=hy
   have y0:0≤y:=by omega
   rw [←hy]
   clear hy hm
   obtain⟨x0,_,g0,z0,_⟩:=HR.out.step (j:=k*12) (by omega)
   obtain⟨Y1,hY1⟩:∃Y1,wr.setCell ⟨g,k*12,none⟩ (.int .i64 y)=Y1:=⟨_,rfl⟩
   have HR1:Hid (OwnD Y1 F (.slice (some ⟨g,0,none⟩) l.length cap) (.row 12 l.length (mkD (ya3 l) z (k*12+1)))):=hY1▸HR.out.mk_val (m:=k*12) (by omega) E0.out (by
    show _=Value.int .i64 (z+(sumC (ya3 l) (k*12):Int))
    rw [show y=z+(sumC (ya3 l) (k*12):Int)from by(have e:=HY0.out;simp only [Dat.cnt]at*;omega)])
   have HT1:Hid (Turns F w Y1):=HT.out.trans (hY1▸(ya2 _ _ _ _).mono (fun b e=>by subst e;exact HF.out))
   obtain⟨x1,_,g1,z1,_⟩:=HR1.out.step (j:=k*12+1) (by omega)
   obtain⟨Y2,hY2⟩:∃Y2,Y1.setCell ⟨g,k*12+1,none⟩ (.int .i64 (y+1))=Y2:=⟨_,rfl⟩
   have HR2:Hid (OwnD Y2 F (.slice (some ⟨g,0,none⟩) l.length cap) (.row 12 l.length (mkD (ya3 l) z (k*12+2)))):=hY2▸HR1.out.mk_val (m:=k*12+1) (by omega) E1.out (by
    show _=Value.int .i64 (z+(sumC (ya3 l) (k*12+1):Int))
    rw [show y+1=z+(sumC (ya3 l) (k*12+1):Int)from by(have e:=HY0.out;have e1:=S1.out;simp only [Dat.cnt]at*;omega)])
   have HT2:Hid (Turns F w Y2):=HT1.out.trans (hY2▸(ya2 _ _ _ _).mono (fun b e=>by subst e;exact HF.out))
   obtain⟨x2,_,g2,z2,_⟩:=HR2.out.step (j:=k*12+2) (by omega)
   obtain⟨Y3,hY3⟩:∃Y3,Y2.setCell ⟨g,k*12+2,none⟩ (.int .i64 (y+1+1))=Y3:=⟨_,rfl⟩
   have HR3:Hid (OwnD Y3 F (.slice (some ⟨g,0,none⟩) l.length cap) (.row 12 l.length (mkD (ya3 l) z (k*12+3)))):=hY3▸HR2.out.mk_val (m:=k*12+2) (by omega) E2.out (by
    show _=Value.int .i64 (z+(sumC (ya3 l) (k*12+2):Int))
    rw [show y+1+1=z+(sumC (ya3 l) (k*12+2):Int)from by(have e:=HY0.out;have e1:=S1.out;have e2:=S2.out;simp only [Dat.cnt]at*;omega)])
   have HT3:Hid (Turns F w Y3):=HT2.out.trans (hY3▸(ya2 _ _ _ _).mono (fun b e=>by subst e;exact HF.out))
   obtain⟨x3,_,g3,z3,_⟩:=HR3.out.step (j:=k*12+3) (by omega)
   obtain⟨Y4,hY4⟩:∃Y4,Y3.setCell ⟨g,k*12+3,none⟩ (.int .i64 (y+1+1+1))=Y4:=⟨_,rfl⟩
   have HR4:Hid (OwnD Y4 F (.slice (some ⟨g,0,none⟩) l.length cap) (.row 12 l.length (mkD (ya3 l) z (k*12+4)))):=hY4▸HR3.out.mk_val (m:=k*12+3) (by omega) E3.out (by
    show _=Value.int .i64 (z+(sumC (ya3 l) (k*12+3):Int))
    rw [show y+1+1+1=z+(sumC (ya3 l) (k*12+3):Int)from by(have e:=HY0.out;have e1:=S1.out;have e2:=S2.out;have e3:=S3.out;simp only [Dat.cnt]at*;omega)])
   have HT4:Hid (Turns F w Y4):=HT3.out.trans (hY4▸(ya2 _ _ _ _).mono (fun b e=>by subst e;exact HF.out))
   obtain⟨x4,_,g4,z4,_⟩:=HR4.out.step (j:=k*12+4) (by omega)
   obtain⟨Y5,hY5⟩:∃Y5,Y4.setCell ⟨g,k*12+4,none⟩ (.int .i64 (y+1+1+1+1))=Y5:=⟨_,rfl⟩
   have HR5:Hid (OwnD Y5 F (.slice (some ⟨g,0,none⟩) l.length cap) (.row 12 l.length (mkD (ya3 l) z (k*12+5)))):=hY5▸HR4.out.mk_val (m:=k*12+4) (by omega) E4.out (by
    show _=Value.int .i64 (z+(sumC (ya3 l) (k*12+4):Int))
    rw [show y+1+1+1+1=z+(sumC (ya3 l) (k*12+4):Int)from by(have e:=HY0.out;have e1:=S1.out;have e2:=S2.out;have e3:=S3.out;have e4:=S4.out;simp only [Dat.cnt]at*;omega)])
   have HT5:Hid (Turns F w Y5):=HT4.out.trans (hY5▸(ya2 _ _ _ _).mono (fun b e=>by subst e;exact HF.out))
   obtain⟨x5,_,g5,z5,_⟩:=HR5.out.step (j:=k*12+5) (by omega)
   obtain⟨Y6,hY6⟩:∃Y6,Y5.setCell ⟨g,k*12+5,none⟩ (.int .i64 (y+1+1+1+1+1))=Y6:=⟨_,rfl⟩
   have HR6:Hid (OwnD Y6 F (.slice (some ⟨g,0,none⟩) l.length cap) (.row 12 l.length (mkD (ya3 l) z (k*12+6)))):=hY6▸HR5.out.mk_val (m:=k*12+5) (by omega) E5.out (by
    show _=Value.int .i64 (z+(sumC (ya3 l) (k*12+5):Int))
    rw [show y+1+1+1+1+1=z+(sumC (ya3 l) (k*12+5):Int)from by(have e:=HY0.out;have e1:=S1.out;have e2:=S2.out;have e3:=S3.out;have e4:=S4.out;have e5:=S5.out;simp only [Dat.cnt]at*;omega)])
   have HT6:Hid (Turns F w Y6):=HT5.out.trans (hY6▸(ya2 _ _ _ _).mono (fun b e=>by subst e;exact HF.out))
   obtain⟨x6,_,g6,z6,_⟩:=HR6.out.step (j:=k*12+6) (by omega)
   obtain⟨Y7,hY7⟩:∃Y7,Y6.setCell ⟨g,k*12+6,none⟩ (.int .i64 (y+1+1+1+1+1+1))=Y7:=⟨_,rfl⟩
   have HR7:Hid (OwnD Y7 F (.slice (some ⟨g,0,none⟩) l.length cap) (.row 12 l.length (mkD (ya3 l) z (k*12+7)))):=hY7▸HR6.out.mk_val (m:=k*12+6) (by omega) E6.out (by
    show _=Value.int .i64 (z+(sumC (ya3 l) (k*12+6):Int))
    rw [show y+1+1+1+1+1+1=z+(sumC (ya3 l) (k*12+6):Int)from by(have e:=HY0.out;have e1:=S1.out;have e2:=S2.out;have e3:=S3.out;have e4:=S4.out;have e5:=S5.out;have e6:=S6.out;simp only [Dat.cnt]at*;omega)])
   have HT7:Hid (Turns F w Y7):=HT6.out.trans (hY7▸(ya2 _ _ _ _).mono (fun b e=>by subst e;exact HF.out))
   obtain⟨u7,K7,g7,o7,f7,b7⟩:=HR7.out.mk_row (m:=k*12+7) (by omega)
   rw [E7.out]at o7 b7
   have O7:Hid (OwnD Y7 K7 u7 (ya9 (psAt l k).b.r)):=o7
   have B7:Hid (∀w',OwnD w' K7 u7 ((ya9 (psAt l k).b.r).mark (z+(sumC (ya3 l) (k*12+7):Int)))→Turns K7 Y7 w'→OwnD w' F (.slice (some ⟨g,0,none⟩) l.length cap) (.row 12 l.length (mkD (ya3 l) z (k*12+8)))):=b7
   have F7:Hid (∀b,K7 b→F b):=f7
   clear o7 b7 f7
   have hq7:y+1+1+1+1+1+1+1=z+(sumC (ya3 l) (k*12+7):Int):=by(have e:=HY0.out;have e1:=S1.out;have e2:=S2.out;have e3:=S3.out;have e4:=S4.out;have e5:=S5.out;have e6:=S6.out;have e7:=S7.out;simp only [Dat.cnt]at*;omega)
   have hb7:y+1+1+1+1+1+1+1≤1073741824:=by have:=HZ.out;have:=C7.out;omega
   have Q7:Hid (y+1+1+1+1+1+1+1=z+(sumC (ya3 l) (k*12+7):Int)):=hq7
   clear hq7
   go_wp2_with fail
   clear g7 hY7 z6 g6 hY6 z5 g5 hY5 z4 g4 hY4 z3 g3 hY3 z2 g2 hY2 z1 g1 hY1 z0 g0
   refine(yd1 (F:=K7) (l:=(psAt l k).b.r) (y+1+1+1+1+1+1+1) (by omega) (by omega) (by omega) O7.out).mono ?_
   rintro e w8 ⟨rfl,hr,ht⟩
   rw [Q7.out]at hr
   have HR8:Hid (OwnD w8 F (.slice (some ⟨g,0,none⟩) l.length cap) (.row 12 l.length (mkD (ya3 l) z (k*12+8)))):=B7.out _ hr ht
   have HT8:Hid (Turns F w w8):=HT7.out.trans (ht.mono F7.out)
   clear hr ht
   obtain⟨y7,hy⟩:∃y7:Int,y7=y+1+1+1+1+1+1+1+((ya9 (psAt l k).b.r).cnt:Int):=⟨_,rfl⟩
   have HY8:Hid (y7=z+(sumC (ya3 l) (k*12+8):Int)):=by
    have h8:=S8.out
    have h9:=Q7.out
    show y7=_
    omega
   have y70:0≤y7:=by omega
   have y71:y7≤1073741824:=by have h7:=HZ.out;have h8:=C8.out;have h9:=HY8.out;omega
   rw [←hy]
   clear hy
   obtain⟨x8,_,g8,z8,_⟩:=HR8.out.step (j:=k*12+8) (by omega)
   obtain⟨Y9,hY9⟩:∃Y9,w8.setCell ⟨g,k*12+8,none⟩ (.int .i64 y7)=Y9:=⟨_,rfl⟩
   have HR9:Hid (OwnD Y9 F (.slice (some ⟨g,0,none⟩) l.length cap) (.row 12 l.length (mkD (ya3 l) z (k*12+9)))):=hY9▸HR8.out.mk_val (m:=k*12+8) (by omega) E8.out (by
    show _=Value.int .i64 (z+(sumC (ya3 l) (k*12+8):Int))
    rw [show y7=z+(sumC (ya3 l) (k*12+8):Int)from by(have e:=HY8.out;simp only [Dat.cnt]at*;omega)])
   have HT9:Hid (Turns F w Y9):=HT8.out.trans (hY9▸(ya2 _ _ _ _).mono (fun b e=>by subst e;exact HF.out))
   obtain⟨x9,_,g9,z9,_⟩:=HR9.out.step (j:=k*12+9) (by omega)
   obtain⟨Y10,hY10⟩:∃Y10,Y9.setCell ⟨g,k*12+9,none⟩ (.int .i64 (y7+1))=Y10:=⟨_,rfl⟩
   have HR10:Hid (OwnD Y10 F (.slice (some ⟨g,0,none⟩) l.length cap) (.row 12 l.length (mkD (ya3 l) z (k*12+10)))):=hY10▸HR9.out.mk_val (m:=k*12+9) (by omega) E9.out (by
    show _=Value.int .i64 (z+(sumC (ya3 l) (k*12+9):Int))
    rw [show y7+1=z+(sumC (ya3 l) (k*12+9):Int)from by(have e:=HY8.out;have e9:=S9.out;simp only [Dat.cnt]at*;omega)])
   have HT10:Hid (Turns F w Y10):=HT9.out.trans (hY10▸(ya2 _ _ _ _).mono (fun b e=>by subst e;exact HF.out))
   obtain⟨u10,K10,g10,o10,f10,b10⟩:=HR10.out.mk_row (m:=k*12+10) (by omega)
   rw [E10.out]at o10 b10
   have O10:Hid (OwnD Y10 K10 u10 (evsD (psAt l k).s)):=o10
   have B10:Hid (∀w',OwnD w' K10 u10 ((evsD (psAt l k).s).mark (z+(sumC (ya3 l) (k*12+10):Int)))→Turns K10 Y10 w'→OwnD w' F (.slice (some ⟨g,0,none⟩) l.length cap) (.row 12 l.length (mkD (ya3 l) z (k*12+11)))):=b10
   have F10:Hid (∀b,K10 b→F b):=f10
   clear o10 b10 f10
   have hq10:y7+1+1=z+(sumC (ya3 l) (k*12+10):Int):=by(have e:=HY8.out;have e9:=S9.out;have e10:=S10.out;simp only [Dat.cnt]at*;omega)
   have hb10:y7+1+1≤1073741824:=by have:=HZ.out;have:=C10.out;omega
   have Q10:Hid (y7+1+1=z+(sumC (ya3 l) (k*12+10):Int)):=hq10
   clear hq10
   go_wp2_with fail
   clear g10 hY10 z9 g9 hY9 z8 g8
   refine(yfu (F:=K10) (l:=(psAt l k).s) (y7+1+1) (by omega) (by omega) (by omega) O10.out).mono ?_
   rintro e w11 ⟨rfl,hr,ht⟩
   rw [Q10.out]at hr
   have HR11:Hid (OwnD w11 F (.slice (some ⟨g,0,none⟩) l.length cap) (.row 12 l.length (mkD (ya3 l) z (k*12+11)))):=B10.out _ hr ht
   have HT11:Hid (Turns F w w11):=HT10.out.trans (ht.mono F10.out)
   clear hr ht
   obtain⟨y10,hy⟩:∃y10:Int,y10=y7+1+1+((evsD (psAt l k).s).cnt:Int):=⟨_,rfl⟩
   have HY11:Hid (y10=z+(sumC (ya3 l) (k*12+11):Int)):=by
    have h8:=S11.out
    have h9:=Q10.out
    show y10=_
    omega
   have y100:0≤y10:=by omega
   have y101:y10≤1073741824:=by have h7:=HZ.out;have h8:=C11.out;have h9:=HY11.out;omega
   rw [←hy]
   clear hy
   obtain⟨u11,K11,g11,o11,f11,b11⟩:=HR11.out.mk_row (m:=k*12+11) (by omega)
   rw [E11.out]at o11 b11
   have O11:Hid (OwnD w11 K11 u11 (emsD (psAt l k).x)):=o11
   have B11:Hid (∀w',OwnD w' K11 u11 ((emsD (psAt l k).x).mark (z+(sumC (ya3 l) (k*12+11):Int)))→Turns K11 w11 w'→OwnD w' F (.slice (some ⟨g,0,none⟩) l.length cap) (.row 12 l.length (mkD (ya3 l) z (k*12+12)))):=b11
   have F11:Hid (∀b,K11 b→F b):=f11
   clear o11 b11 f11
   have hq11:y10=z+(sumC (ya3 l) (k*12+11):Int):=by(have e:=HY11.out;simp only [Dat.cnt]at*;omega)
   have hb11:y10≤1073741824:=by have:=HZ.out;have:=C11.out;omega
   have Q11:Hid (y10=z+(sumC (ya3 l) (k*12+11):Int)):=hq11
   clear hq11
   go_wp2_with fail
   clear g11
   refine(yl8 (F:=K11) (l:=(psAt l k).x) (y10) (by omega) (by omega) (by omega) O11.out).mono ?_
   rintro e w12 ⟨rfl,hr,ht⟩
   rw [Q11.out]at hr
   have HR12:Hid (OwnD w12 F (.slice (some ⟨g,0,none⟩) l.length cap) (.row 12 l.length (mkD (ya3 l) z (k*12+12)))):=B11.out _ hr ht
   have HT12:Hid (Turns F w w12):=HT11.out.trans (ht.mono F11.out)
   clear hr ht
   obtain⟨y11,hy⟩:∃y11:Int,y11=y10+((emsD (psAt l k).x).cnt:Int):=⟨_,rfl⟩
   have HY12:Hid (y11=z+(sumC (ya3 l) (k*12+12):Int)):=by
    have h8:=S12.out
    have h9:=Q11.out
    show y11=_
    omega
   have y110:0≤y11:=by omega
   have y111:y11≤1073741824:=by have h7:=HZ.out;have h8:=C12.out;have h9:=HY12.out;omega
   rw [←hy]
   clear hy
   go_wp2
   go_roundw
   case rel=>
    refine⟨k+1,by omega,by go_num,?_,?_,HT12.out⟩
    ·rw [show y11=z+(sumC (ya3 l) ((k+1)*12):Int)from by rw [show(k+1)*12=k*12+12 from by omega];(have e:=HY12.out;simp only [Dat.cnt]at*;omega)]
    ·rw [show(k+1)*12=k*12+12 from by omega]
     exact HR12.out
   case measure=>simp [intOf];omega
  ·go_wp2
   go_ret
   obtain rfl:k=l.length:=by omega
   exact⟨rfl,HR.out.mkAll,HT.out⟩
def yjh (w:World) (v v':Value):Prop:=v'.ownBlock=v.ownBlock∨ ∀k,v'.ownBlock=some k→w.heap.size≤k
theorem yg9 {P:Program} (w:World) (base:Nat) (t ty e:TypeId) (i:TypeInfo) (z:Value) (size bytes:Nat) (ht:P.underlying t=some (.slice e)) (hi:P.info? e=some i) (hz:i.zero=some z) (hsize:i.size=size) (hby:i.bytes=bytes) (hzs:z.cells.size=size) (hsz:0<size)
  (v:Value) (n:Nat) (xs:List Value) (hown:w.ownsRow base e size v n xs) (ad:Addr) (m c:Nat) (news:List Value) (hl:news.length=m*size) (hnews:∀j u,news[j]? =some u→w.cell? (ad.add j)=some u) (h1:∀u∈news,u.oneCell'=true)
  (h63:n+m≤maxLen) (hbytes:(n+m)*bytes≤140737488355328) (hbase:base≤w.heap.size):
  ∃v' w',(Builtin.append_ #[t,t] ty #[v,.slice (some ad) m c]).run P w= .ok v' w'∧w'.ownsRow base e size v' (n+m) (xs++news)∧w.grownBy w' v.ownBlock∧yjh w v v':=by
 obtain⟨v',w',hr,h2,h3,_⟩:=run_append_own (P:=P) w base t ty e i z size bytes ht hi hz hsize hby hzs hsz v n xs hown ad m c news hl hnews h1 h63 hbytes hbase
 refine⟨v',w',hr,h2,h3,?_⟩
 have hown':=hown
 obtain⟨_,⟨rfl,h0⟩|⟨g,cap,cur,rfl,hg,hc,hnc,hcm,hcs,htk⟩⟩:=hown
 ·right
  obtain⟨v2,w2,hr2,r1,_⟩:=run_append_own (P:=P) w w.heap.size t ty e i z size bytes ht hi hz hsize hby hzs hsz (.slice none 0 0) n xs ⟨hown'.1,.inl ⟨rfl,h0⟩⟩ ad m c news hl hnews h1 h63 hbytes (Nat.le_refl _)
  rw [hr]at hr2
  cases hr2
  exact fun k e=>(World.ownsRow.lt r1 k e).1
 ·by_cases hroom:n+m≤cap
  ·left
   obtain⟨w2,hr2,_⟩:=run_append_fits (P:=P) w base t ty e i size ht hi hsize g n cap xs hown' ad m c news hl hnews h1 hroom
   rw [hr]at hr2
   cases hr2
   rfl
  ·right
   obtain⟨v2,w2,hr2,r1,_⟩:=run_append_arg_grows (P:=P) w t ty e i z size bytes ht hi hz hsize hby hzs hsz ⟨g,0,none⟩ n cap xs hown'.1 (World.ownsRow.cells hown' rfl) ad m c news hl hnews (by omega) h63 hbytes
   rw [hr]at hr2
   cases hr2
   exact fun k e=>(World.ownsRow.lt r1 k e).1
theorem yom {w w':World} {B:Nat} {v:Value} {T:TypeId} {c n:Nat} {cs:List Value} (h:w.ownsRow B T c v n cs) (hb:∀k,v.ownBlock=some k→w'.heap[k]? =w.heap[k]?):w'.ownsRow B T c v n cs:=by
 obtain⟨h0,⟨e,h1⟩|⟨g,cap,cur,rfl,hg,hc,h1⟩⟩:=h
 ·exact⟨h0,.inl ⟨e,h1⟩⟩
 ·exact⟨h0,.inr ⟨g,cap,cur,rfl,hg,(hb g rfl).trans hc,h1⟩⟩
theorem ycg {S:Nat→Prop} {w w':World} {B:Nat} {v:Value} {T:TypeId} {c n:Nat} {cs:List Value} (h:w.ownsRow B T c v n cs) (ht:Turns S w w') (hS:∀k,v.ownBlock=some k→ ¬S k):w'.ownsRow B T c v n cs:=
 yom h fun k hk=>ht.block k (World.ownsRow.lt h k hk).2 (hS k hk)
theorem yao {w w':World} {row:Option Nat} (h:w.grownBy w' row):Turns (fun k=>row=some k) w w':=⟨h.os,h.tape,h.output,h.size,fun k hk hS=>h.block k hk (fun e=>hS e.symm)⟩
theorem yon {B:Nat} {e:TypeId} {size n:Nat} {w:World} {v:Value} {xs:List Value} (h:w.ownsRow B e size v n xs) {k:Nat} (hk:v.ownBlock=some k):k<w.heap.size:=by
 obtain⟨_,⟨rfl,_⟩|⟨g,cap,cur,rfl,_,hc,_⟩⟩:=h
 ·simp [Value.ownBlock]at hk
 ·simp [Value.ownBlock]at hk
  subst hk
  exact(Array.getElem?_eq_some_iff.1 hc).1
theorem ybv {B:Nat} {e:TypeId} {size n:Nat} {w:World} {v:Value} {xs:List Value} (h:w.ownsRow B e size v n xs):∃a cap,v= .slice a n cap:=by
 obtain⟨_,⟨rfl,h0⟩|⟨g,cap,cur,rfl,_⟩⟩:=h
 ·exact⟨none,0,by rw [h0]⟩
 ·exact⟨_,_,rfl⟩
theorem yen {P:Program} {ops:Array Oper} {rest:List Oper} {o:Oper} {a:Act} {Q:Exit→Act→World→Prop} (w:World) (hgd:o.guard=none) (s x:Operand) (t:TypeId)
  (ho:o.op= .call {callee:= .builtin .append,args:= #[s,x],argTypes:= #[t,t]})
  (base:Nat) (e:TypeId) (i:TypeInfo) (z:Value) (size bytes:Nat) (ht:P.underlying t=some (.slice e)) (hi:P.info? e=some i) (hz:i.zero=some z)
  (hsize:i.size=size) (hby:i.bytes=bytes) (hzs:z.cells.size=size) (hsz:0<size)
  (v:Value) (n:Nat) (xs:List Value) (hs:a.eval s=v) (hown:w.ownsRow base e size v n xs)
  (ad:Addr) (m c:Nat) (news:List Value) (hx:a.eval x= .slice (some ad) m c) (hl:news.length=m*size) (hnews:∀j u,news[j]? =some u→w.cell? (ad.add j)=some u) (h1:∀u∈news,u.oneCell'=true)
  (h63:n+m≤maxLen) (hbytes:(n+m)*bytes≤140737488355328) (hbase:base≤w.heap.size)
  (h:∀v' w',w'.ownsRow base e size v' (n+m) (xs++news)→w.grownBy w' v.ownBlock→yjh w v v'→wpList P ops Q rest (a.put o.dst v') w'):wpList P ops Q (o::rest) a w:=
 wpList_plain hgd fun _ hK=>by
  obtain⟨v',w',hr,q1,q2,q3⟩:=yg9 (P:=P) w base t o.type e i z size bytes ht hi hz hsize hby hzs hsz v n xs hown ad m c news hl hnews h1 h63 hbytes hbase
  unfold Oper.wp execOp
  simp only [ho,resolve,invoke,builtin,Sem.run_bind,Sem.run_pure,Result.andThen_ok,List.map_toArray,List.map_cons,List.map_nil,hs,hx,hr]
  exact hK _ _ (h v' w' q1 q2 q3)
end Go.Proofs.YtmobiieoecjmdaaGreat

/- Rows of numbers: eqByteS where both sides are the same, markByteS, heldByteS. -/
namespace Go.Proofs.YtmobiieoecjmdaaGreat.By
open Go.RowKit Go.Proofs.YtmobiieoecjmdaaGreat
def intAt (l:List UInt8) (i:Nat):UInt8:=l.getD i 0
def intCells (l:List UInt8):List Value:=l.map (fun z=>Value.int .u8 (z.toNat:Int))
def IntsAt (w:World) (b off:Nat) (l:List UInt8):Prop:=b<w.heap.size∧ ∀i,i<l.length→w.cell? ⟨b,off+i,none⟩=some (.int .u8 ((intAt l i).toNat:Int))
def IsI (w:World) (x:Value) (l:List UInt8):Prop:=∃a cap,x= .slice a l.length cap∧l.length≤cap∧cap≤maxLen∧(l= []∨ ∃b off,a=some ⟨b,off,none⟩∧IntsAt w b off l)
theorem IntsAt.below {w w':World} {B b off:Nat} {l:List UInt8} (h:IntsAt w b off l) (hb:Below B w w') (hB:b<B):IntsAt w' b off l:=
 ⟨Nat.lt_of_lt_of_le h.1 hb.size,fun i hi=>(hb.cell hB).trans (h.2 i hi)⟩
theorem IsI.below {w w':World} {x:Value} {l:List UInt8} (h:IsI w x l) (hb:Below w.heap.size w w'):IsI w' x l:=by
 obtain⟨a,cap,rfl,h1,h2,h⟩:=h
 exact⟨a,cap,rfl,h1,h2,h.imp id (fun⟨b,off,e,h⟩=>⟨b,off,e,h.below hb h.1⟩)⟩
theorem yha (w:World) (row:Option Nat):w.grownBy w row:=⟨rfl,rfl,rfl,Nat.le_refl _,fun _ _ _=>rfl⟩
def OwnI (B:Nat) (w:World) (x:Value) (l:List UInt8):Prop:=∃a cap,x= .slice a l.length cap∧l.length≤cap∧cap≤maxLen∧(l= []∨ ∃g,a=some ⟨g,0,none⟩∧B≤g∧(∀j,j<l.length→w.frozen? ⟨g,j,none⟩=false)∧IntsAt w g 0 l)
theorem OwnI.nil (B:Nat) (w:World):OwnI B w (.slice none 0 0) []:=⟨none,0,rfl,Nat.le_refl _,Nat.zero_le _,.inl rfl⟩
theorem OwnI.isI {B:Nat} {w:World} {x:Value} {l:List UInt8} (h:OwnI B w x l):IsI w x l:=by
 obtain⟨a,cap,rfl,h1,h2,h⟩:=h
 exact⟨a,cap,rfl,h1,h2,h.imp id (fun⟨g,e,_,_,hr⟩=>⟨g,0,e,hr⟩)⟩
theorem OwnI.mono {B B':Nat} {w:World} {x:Value} {l:List UInt8} (h:OwnI B w x l) (hb:B'≤B):OwnI B' w x l:=by
 obtain⟨a,cap,rfl,h1,h2,h⟩:=h
 exact⟨a,cap,rfl,h1,h2,h.imp id (fun⟨g,e,hg,hr⟩=>⟨g,e,Nat.le_trans hb hg,hr⟩)⟩
theorem OwnI.of_row {B:Nat} {w:World} {x:Value} {l:List UInt8} (h:w.ownsRow B 5 1 x l.length (intCells l)):OwnI B w x l:=by
 obtain⟨hl,⟨rfl,h0⟩|⟨g,cap,cur,rfl,hg,hc,h1,h2,h3,h4⟩⟩:=h
 ·exact⟨none,0,by rw [h0],by omega,by unfold maxLen;omega,.inl (List.eq_nil_of_length_eq_zero h0)⟩
 ·refine⟨_,cap,rfl,h1,h2,.inr ⟨g,rfl,hg,fun j hj=> ?_,(Array.getElem?_eq_some_iff.1 hc).1,fun i hi=> ?_⟩⟩
  ·have hj2:j<cur.size:=by omega
   simp [World.frozen?,hc]
  ·have e1:w.cell? ⟨g,i,none⟩=(intCells l)[i]? :=by
    rw [←h4,List.getElem?_take_of_lt (by omega)]
    simp [World.cell?,hc]
   rw [Nat.zero_add,e1]
   simp [intCells,intAt,hi]
def RowI (w:World) (g:Nat) (l:List UInt8):Prop:=g<w.heap.size∧ ∀j,j<l.length→w.cell? ⟨g,j,none⟩=some (.int .u8 ((intAt l j).toNat:Int))∧w.frozen? ⟨g,j,none⟩=false
def FillI (w:World) (g n:Nat) (l:List UInt8) (k:Nat):Prop:=g<w.heap.size∧(∀j,j<n→(w.cell? ⟨g,j,none⟩).isSome=true∧w.frozen? ⟨g,j,none⟩=false)∧ ∀i,i<k→w.cell? ⟨g,i,none⟩=some (.int .u8 ((intAt l i).toNat:Int))
theorem FillI.row {w:World} {g:Nat} {l:List UInt8} (h:FillI w g l.length l l.length):RowI w g l:=⟨h.1,fun j hj=>⟨h.2.2 j hj,(h.2.1 j hj).2⟩⟩
theorem FillI.put {w:World} {g n k:Nat} {l:List UInt8} (h:FillI w g n l k) (hk:k<n):FillI (w.setCell ⟨g,k,none⟩ (.int .u8 ((intAt l k).toNat:Int))) g n l (k+1):=by
 have e1:w.setCell ⟨g,k,none⟩ (.int .u8 ((intAt l k).toNat:Int))=w.setCells g k [.int .u8 ((intAt l k).toNat:Int)]:=rfl
 have hsame:∀j,j≠k→(w.setCell ⟨g,k,none⟩ (.int .u8 ((intAt l k).toNat:Int))).cell? ⟨g,j,none⟩=w.cell? ⟨g,j,none⟩:=fun j hj=>by
  rw [e1]
  exact World.cell?_setCells_out g _ k w ⟨g,j,none⟩ (fun _ _=>by simp;omega)
 have hat:(w.setCell ⟨g,k,none⟩ (.int .u8 ((intAt l k).toNat:Int))).cell? ⟨g,k,none⟩=some (.int .u8 ((intAt l k).toNat:Int)):=by
  rw [e1]
  have h0:=World.cell?_setCells_in g [.int .u8 ((intAt l k).toNat:Int)] k w (fun j hj=>by
   obtain rfl:j=0:=by simpa using hj
   exact(h.2.1 k hk).1) 0 (by simp)
  simpa using h0
 refine⟨by simpa using h.1,fun j hj=> ?_,fun i hi=> ?_⟩
 ·refine⟨?_,?_⟩
  ·by_cases e:j=k
   ·subst e;rw [hat];rfl
   ·rw [hsame j e];exact(h.2.1 j hj).1
  ·rw [e1,World.frozen?_setCells];exact(h.2.1 j hj).2
 ·by_cases e:i=k
  ·subst e;exact hat
  ·rw [hsame i e];exact h.2.2 i (by omega)
theorem FillI.made {w1:World} {B:Nat} {z:List Value} {n:Nat} {l:List UInt8} (h:w1.ownsRow B 5 1 (.slice (some ⟨B,0,none⟩) n n) n z):FillI w1 B n l 0:=by
 obtain⟨hl,h|⟨g,cap,cur,e,hg,hc,h1,h2,h3,h4⟩⟩:=h
 ·simp at h
 ·simp at e
  obtain⟨rfl,rfl⟩:=e
  have hlt:B<w1.heap.size:=(Array.getElem?_eq_some_iff.1 hc).1
  refine⟨hlt,fun j hj=> ?_,fun i hi=>by omega⟩
  have hj2:j<cur.size:=by omega
  simp [World.cell?,World.frozen?,hc,hj2]
theorem info5:(Tryz.prog.info? 5).map (fun i=>(i.zero,i.size,i.bytes))=some (some (.int .u8 0),1,1):=by kernel_rfl
end Go.Proofs.YtmobiieoecjmdaaGreat.By

/- Rows of bytes that grow. -/
namespace Go.Proofs.YtmobiieoecjmdaaGreat
set_option maxHeartbeats 1000000
set_option maxRecDepth 100000
open Go.RowKit
def byteOf (z:Int):UInt8:=UInt8.ofNat (z%256).toNat
theorem yhd (z:Int):((byteOf z).toNat:Int)=z%256:=by
 unfold byteOf
 have h1:0≤z%256:=Int.emod_nonneg _ (by omega)
 have h2:z%256<256:=Int.emod_lt_of_pos _ (by omega)
 rw [UInt8.toNat_ofNat']
 omega
def twoB (z:Int):List UInt8:= [byteOf (z/256),byteOf z]
def RowBy (B:Nat) (w:World) (x:Value) (l:List UInt8):Prop:=w.ownsRow B 5 1 x l.length (By.intCells l)
theorem ygu (l l':List UInt8):By.intCells (l++l')=By.intCells l++By.intCells l':=by simp [By.intCells]
theorem RowBy.own {B:Nat} {w:World} {x:Value} {l:List UInt8} (h:RowBy B w x l):By.OwnI B w x l:=By.OwnI.of_row h
theorem RowBy.mono {B B':Nat} {w:World} {x:Value} {l:List UInt8} (h:RowBy B w x l) (hB:B'≤B):RowBy B' w x l:=by
 obtain⟨h0,h1|⟨g,cap,cur,e,hg,h1⟩⟩:=h
 ·exact⟨h0,.inl h1⟩
 ·exact⟨h0,.inr ⟨g,cap,cur,e,Nat.le_trans hB hg,h1⟩⟩
theorem RowBy.below {B:Nat} {w w':World} {x:Value} {l:List UInt8} (h:RowBy B w x l) (hb:Below w.heap.size w w'):RowBy B w' x l:=by
 obtain⟨h0,h1|⟨g,cap,cur,e,hg,hc,h1⟩⟩:=h
 ·exact⟨h0,.inl h1⟩
 ·exact⟨h0,.inr ⟨g,cap,cur,e,hg,(hb.block g (Array.getElem?_eq_some_iff.1 hc).1).trans hc,h1⟩⟩
theorem RowBy.ne {B:Nat} {w:World} {x:Value} {l:List UInt8} (h:RowBy B w x l) {P:Nat} {T:TypeId} {vs:Array Value} (hb:Bk w P T vs) (hT:T≠5):¬x.ownBlock=some P:=by
 intro e
 obtain⟨_,⟨rfl,_⟩|⟨g,cap,cur,rfl,_,hc,_⟩⟩:=h
 ·simp [Value.ownBlock]at e
 ·simp [Value.ownBlock]at e
  subst e
  have hb':w.heap[g]? =some (.cells vs T):=hb
  rw [hb']at hc
  simp at hc
  exact hT hc.2
theorem yfc (w:World) (a b:Value):∀j u,[a,b][j]? =some u→(w.alloc (.cells #[a,b] 5)).cell? ((⟨w.heap.size,0,none⟩:Addr).add j)=some u:=by
 intro j u hu
 match j,hu with
 |0,hu=>simp at hu;subst hu;simp [Addr.add]
 |1,hu=>simp at hu;subst hu;simp [Addr.add]
 |(j+2),hu=>simp at hu
theorem yi6 (w:World) (a:Value):∀j u,[a][j]? =some u→(w.alloc (.cells #[a] 5)).cell? ((⟨w.heap.size,0,none⟩:Addr).add j)=some u:=by
 intro j u hu
 match j,hu with
 |0,hu=>simp at hu;subst hu;simp [Addr.add]
 |(j+1),hu=>simp at hu
theorem RowBy.grow {B:Nat} {w:World} {v:Value} {l r:List UInt8} {n:Nat} {cs:List Value} (h:w.ownsRow B 5 1 v (l.length+n) (By.intCells l++cs)) (hcs:By.intCells r=cs) (hn:r.length=n):RowBy B w v (l++r):=by
 subst hcs hn
 unfold RowBy
 rw [List.length_append,ygu]
 exact h
theorem cells_one (z:Int):By.intCells [byteOf z]= [.int .u8 (z%256)]:=by simp [By.intCells,yhd]
theorem ybr {z:Int} (h0:0≤z) (h1:z≤255):By.intCells [byteOf z]= [.int .u8 z]:=by rw [cells_one,show z%256=z by omega]
theorem yhc {z y:Int} (h0:0≤z) (h1:z≤255) (h2:0≤y) (h3:y≤255):By.intCells [byteOf z,byteOf y]= [.int .u8 z,.int .u8 y]:=by
 have e:By.intCells [byteOf z,byteOf y]=By.intCells [byteOf z]++By.intCells [byteOf y]:=rfl
 rw [e,ybr h0 h1,ybr h2 h3]
 rfl
theorem yje (z:Int):By.intCells (twoB z)= [.int .u8 (z/256%256),.int .u8 (z%256)]:=by simp [By.intCells,twoB,yhd]
theorem yni {z:Int} (h0:0≤z) (h1:z≤65535):By.intCells (twoB z)= [.int .u8 (z/256),.int .u8 (z%256)]:=by rw [yje,show z/256%256=z/256 by omega]
theorem ycb (B:Nat) (x:Value) (l:List UInt8) (z:Int) (w:World) (hB:B≤w.heap.size) (hl:l.length≤1000000) (h:RowBy B w x l):
  Calls Tryz.prog 137 #[x,.int .i64 z] w fun e w'=>∃y,e= .returned y∧RowBy B w' y (l++twoB z)∧Turns (fun k=>x.ownBlock=some k) w w':=by
 obtain⟨i0,hi,hz0,hz1,hz2⟩:=info_parts By.info5
 have HR:Hid (RowBy B w x l):=h
 clear h
 go_enter Tryz.func137,Tryz.ntmps137
 go_wp2_with (at_builtin;refine wpList_append_own _ rfl _ _ 127 rfl B 5 i0 (.int .u8 0) 1 1 Tryz.underlying127 hi hz0 hz1 hz2 rfl (by decide) x _ _ rfl (World.ownsRow.alloc HR.out _) ⟨w.heap.size,0,none⟩ 2 2 [.int .u8 (z/256%256),.int .u8 (z%256)] rfl rfl (yfc _ _ _) (fun u hu=>by simp at hu;first|(subst hu;rfl)|(rcases hu with rfl|rfl<;>rfl)) (by unfold maxLen;omega) (by omega) (by simp;omega) ?_;intro v' w2 hown hgrow hnil)
 go_ret
 exact⟨_,rfl,RowBy.grow hown (yje z) rfl,((Turns.refl _ w).alloc _).trans (yao hgrow)⟩
theorem ye1 (B:Nat) (x:Value) (l:List UInt8) (z:Int) (w:World) (hB:B≤w.heap.size) (hl:l.length≤1000000) (hz:0≤z) (hz9:z≤65535) (h:RowBy B w x l):
  Calls Tryz.prog 181 #[x,.int .i64 z] w fun e w'=>∃y,e= .returned y∧RowBy B w' y (l++twoB z)∧Turns (fun k=>x.ownBlock=some k) w w':=by
 obtain⟨i0,hi,hz0,hz1,hz2⟩:=info_parts By.info5
 have HR:Hid (RowBy B w x l):=h
 have HZ:Hid (0≤z∧z≤65535):=⟨hz,hz9⟩
 clear h
 go_enter Tryz.func181,Tryz.ntmps181
 go_wp2_with (at_builtin;refine wpList_append_own _ rfl _ _ 127 rfl B 5 i0 (.int .u8 0) 1 1 Tryz.underlying127 hi hz0 hz1 hz2 rfl (by decide) x _ _ rfl (World.ownsRow.alloc HR.out _) ⟨w.heap.size,0,none⟩ 2 2 [.int .u8 (z/256),.int .u8 (z%256)] rfl rfl (yfc _ _ _) (fun u hu=>by simp at hu;first|(subst hu;rfl)|(rcases hu with rfl|rfl<;>rfl)) (by unfold maxLen;omega) (by omega) (by simp;omega) ?_;intro v' w2 hown hgrow hnil)
 go_ret
 exact⟨_,rfl,RowBy.grow hown (yni HZ.out.1 HZ.out.2) rfl,((Turns.refl _ w).alloc _).trans (yao hgrow)⟩
set_option maxHeartbeats 4000000
set_option maxRecDepth 100000
open Go.RowKit
def opB (o:O):List UInt8:= [byteOf o.c,byteOf o.a]++twoB o.b++ [byteOf o.k]
def opsB (r:List O):Nat→List UInt8
 |0=> []
 |k+1=>opsB r k++opB (oAt r k)
def yhk (r:List O):List UInt8:= [byteOf (r.length:Int)]++opsB r r.length
def evB (e:Ev):List UInt8:=twoB e.t++ [byteOf e.d,byteOf e.k]++twoB e.v
theorem ymt (o:O):(opB o).length=5:=rfl
theorem ynd (e:Ev):(evB e).length=6:=rfl
theorem ydb (r:List O):∀k,(opsB r k).length=5*k
 |0=>rfl
 |k+1=>by simp [opsB,ydb r k,ymt];omega
theorem ybu (z:Int):(twoB z).length=2:=rfl
def small (o:O):Prop:=0≤o.c∧o.c≤255∧0≤o.a∧o.a≤255∧0≤o.b∧o.b≤65535∧0≤o.k∧o.k≤255
theorem ykb (B:Nat) (x u:Value) (l:List UInt8) (r:List O) (w:World) (hB:B≤w.heap.size) (hl:l.length≤10000) (hr:r.length≤255) (hsm:∀q,q<r.length→small (oAt r q)) (h:RowBy B w x l) (hu:∃a cap,u= .slice a r.length cap∧(r= []∨ ∃b off,a=some ⟨b,off,none⟩∧b<B∧OsAt w b off r)):
  Calls Tryz.prog 182 #[x,u] w fun e w'=>∃y,e= .returned y∧RowBy B w' y (l++yhk r)∧Below B w w':=by
 obtain⟨i0,hi,hz0,hz1,hz2⟩:=info_parts By.info5
 obtain⟨a1,c1,rfl,hu⟩:=hu
 have HR:Hid (RowBy B w x l):=h
 have HU:Hid (r= []∨ ∃b off,a1=some ⟨b,off,none⟩∧b<B∧OsAt w b off r):=hu
 have HSM:Hid (∀q,q<r.length→small (oAt r q)):=hsm
 have hr0:(0:Int)≤(r.length:Int):=by omega
 have hr1:(r.length:Int)≤255:=by omega
 clear h hu hsm
 go_enter Tryz.func182,Tryz.ntmps182
 go_wp2_with (at_builtin;refine wpList_append_own _ rfl _ _ 127 rfl B 5 i0 (.int .u8 0) 1 1 Tryz.underlying127 hi hz0 hz1 hz2 rfl (by decide) x _ _ rfl (World.ownsRow.alloc HR.out _) ⟨w.heap.size,0,none⟩ 1 1 [.int .u8 (r.length:Int)] rfl rfl (yi6 _ _) (fun u hu=>by simp at hu;first|(subst hu;rfl)|(rcases hu with rfl|rfl<;>rfl)) (by unfold maxLen;omega) (by omega) (by simp;omega) ?_;intro v1 w1 hown hgrow hnil)
 have HR1:Hid (RowBy B w1 v1 (l++ [byteOf (r.length:Int)])):=RowBy.grow hown (ybr hr0 hr1) rfl
 have HB1:Hid (Below B w w1):=((Below.refl B w).alloc hB _).grown hgrow (by simp;omega) (fun j e=>yb0 HR.out e)
 clear hown hgrow hnil
 have hll:(l++ [byteOf (r.length:Int)]).length=l.length+1:=by simp
 have HLL:Hid (l++yhk r=(l++ [byteOf (r.length:Int)])++opsB r r.length):=(by simp [yhk]:l++yhk r=(l++ [byteOf (r.length:Int)])++opsB r r.length)
 generalize l++ [byteOf (r.length:Int)]=l1 at HR1 HLL hll
 go_loopw [0,15] (fun o i wr=>∃(q:Nat) (v:Value),q≤r.length∧v=o∧i= .int .i64 q∧RowBy B wr o (l1++opsB r q)∧Below B w wr) (fun _ i _=>r.length-(intOf i).toNat)
 case atStart=>exact⟨0,_,Nat.zero_le _,rfl,rfl,by simpa [opsB] using HR1.out,HB1.out⟩
 case round=>
  clear HR1 HB1
  obtain⟨q,o,hq,rfl,rfl,hR,hBw⟩:=hrel
  have HR1:Hid (RowBy B wr o (l1++opsB r q)):=hR
  have HB1:Hid (Below B w wr):=hBw
  have hs1:B≤wr.heap.size:=Nat.le_trans hB hBw.size
  have hln:(l1++opsB r q).length≤12000:=by rw [List.length_append,ydb];omega
  have HN:Hid (l1++opsB r (q+1)=(l1++opsB r q)++opB (oAt r q)):=(by simp [opsB]:l1++opsB r (q+1)=(l1++opsB r q)++opB (oAt r q))
  generalize hlq:l1++opsB r q=lq at HR1 hln HN
  have HLQ:Hid (l1++opsB r q=lq):=hlq
  clear hlq
  clear hR
  by_cases hlt:q<r.length
  ·obtain⟨b,off,rfl,hb,hb2,hc⟩:=HU.out.resolve_left (by intro e;rw [e]at hlt;simp at hlt)
   obtain⟨g0,g1,g2,g3⟩:=(hc q hlt).below hBw hb
   obtain⟨s0,s1,s2,s3,s4,s5,s6,s7⟩:=HSM.out q hlt
   generalize oAt r q=e at g0 g1 g2 g3 HN s0 s1 s2 s3 s4 s5 s6 s7
   obtain⟨c,a,b2,k2⟩:=e
   simp only at s0 s1 s2 s3 s4 s5 s6 s7
   have HSS:Hid ((0≤c∧c≤255∧0≤a∧a≤255)∧(0≤b2∧b2≤65535)∧0≤k2∧k2≤255):=⟨⟨s0,s1,s2,s3⟩,⟨s4,s5⟩,s6,s7⟩
   clear hc hBw
   obtain⟨V,hV⟩:∃V,wr.alloc (.cells #[.int .i64 c,.int .i64 a,.int .i64 b2,.int .i64 k2] 182)=V:=⟨_,rfl⟩
   have hsV:B≤V.heap.size:=by rw [←hV];simp;omega
   have HBV:Hid (Below B w V):=hV▸HB1.out.alloc hs1 _
   have HRV:Hid (RowBy B V o lq):=hV▸World.ownsRow.alloc HR1.out _
   have HQV:Hid (Bk V wr.heap.size 182 #[.int .i64 c,.int .i64 a,.int .i64 b2,.int .i64 k2]):=hV▸Bk.new _ _ _
   have e0:=HQV.out.cell (i:=0) rfl
   have e1:=HQV.out.cell (i:=1) rfl
   clear HB1 HR1
   go_wp2_with (at_builtin;refine wpList_append_own _ rfl _ _ 127 rfl B 5 i0 (.int .u8 0) 1 1 Tryz.underlying127 hi hz0 hz1 hz2 rfl (by decide) o _ _ rfl (World.ownsRow.alloc HRV.out _) ⟨V.heap.size,0,none⟩ 2 2 [.int .u8 c,.int .u8 a] rfl rfl (yfc _ _ _) (fun u hu=>by simp at hu;first|(subst hu;rfl)|(rcases hu with rfl|rfl<;>rfl)) (by unfold maxLen;omega) (by omega) (by simp;omega) ?_;intro v2 w2 hown hgrow hnil;have HR2:Hid (RowBy B w2 v2 (lq++ [byteOf c,byteOf a])):=RowBy.grow hown (yhc HSS.out.1.1 HSS.out.1.2.1 HSS.out.1.2.2.1 HSS.out.1.2.2.2) rfl;have HB2:Hid (Below B w w2):=(HBV.out.alloc (by omega) _).grown hgrow (by simp;omega) (fun j e=>yb0 HRV.out e);have HQ2:Hid (Bk w2 wr.heap.size 182 #[.int .i64 c,.int .i64 a,.int .i64 b2,.int .i64 k2]):=(HQV.out.alloc _).turns (yao hgrow) (HRV.out.ne HQV.out (by decide));have e2:=HQ2.out.cell (i:=2) rfl;clear hown hgrow hnil)
   have hs2:B≤w2.heap.size:=Nat.le_trans hB HB2.out.size
   clear e0 e1 e2 g0 g1 g2 g3 hV HBV HRV HQV
   refine(ye1 B _ _ _ _ hs2 (by rw [List.length_append];simp;omega) HSS.out.2.1.1 HSS.out.2.1.2 HR2.out).mono ?_
   rintro e w3 ⟨v3,rfl,hr3,ht3⟩
   have HR3:Hid (RowBy B w3 v3 (lq++ [byteOf c,byteOf a]++twoB b2)):=hr3
   have HB3:Hid (Below B w w3):=HB2.out.trans (ht3.to_below (fun k e=>yb0 HR2.out e) hs2)
   have HQ3:Hid (Bk w3 wr.heap.size 182 #[.int .i64 c,.int .i64 a,.int .i64 b2,.int .i64 k2]):=HQ2.out.turns ht3 (HR2.out.ne HQ2.out (by decide))
   have e3:=HQ3.out.cell (i:=3) rfl
   have hs3:B≤w3.heap.size:=Nat.le_trans hB HB3.out.size
   have hl3:(lq++ [byteOf c,byteOf a]++twoB b2).length≤12004:=by rw [List.length_append,List.length_append,ybu];simp;omega
   clear hr3 ht3 HR2 HB2 HQ2
   go_wp2_with (at_builtin;refine wpList_append_own _ rfl _ _ 127 rfl B 5 i0 (.int .u8 0) 1 1 Tryz.underlying127 hi hz0 hz1 hz2 rfl (by decide) v3 _ _ rfl (World.ownsRow.alloc HR3.out _) ⟨w3.heap.size,0,none⟩ 1 1 [.int .u8 k2] rfl rfl (yi6 _ _) (fun u hu=>by simp at hu;first|(subst hu;rfl)|(rcases hu with rfl|rfl<;>rfl)) (by unfold maxLen;omega) (by omega) (by simp;omega) ?_;intro v4 w4 hown hgrow hnil)
   go_roundw
   case rel=>
    refine⟨q+1,_,by omega,rfl,by go_num,?_,(HB3.out.alloc hs3 _).grown hgrow (by simp;omega) (fun j e=>yb0 HR3.out e)⟩
    have:=RowBy.grow hown (ybr HSS.out.2.2.1 HSS.out.2.2.2) rfl
    rw [HN.out]
    simpa [opB] using this
   case measure=>simp [intOf];omega
  ·obtain rfl:q=r.length:=by omega
   clear hBw
   go_wp2
   go_ret
   exact⟨_,rfl,by rw [HLL.out,HLQ.out];exact HR1.out,HB1.out⟩
theorem yo2 (B:Nat) (x:Value) (l:List UInt8) (t s1 qq d kk v g:Int) (w:World) (hB:B≤w.heap.size) (hl:l.length≤10000) (ht0:0≤t) (ht1:t≤65535) (hd0:0≤d) (hd1:d≤255) (hk0:0≤kk) (hk1:kk≤255) (hv0:0≤v) (hv1:v≤65535) (h:RowBy B w x l):
  Calls Tryz.prog 183 #[x,.agg #[.int .i64 t,.int .i64 s1,.int .i64 qq,.int .i64 d,.int .i64 kk,.int .i64 v,.int .i64 g]] w fun e w'=>∃y,e= .returned y∧RowBy B w' y (l++evB ⟨t,s1,qq,d,kk,v,g⟩)∧Below B w w':=by
 obtain⟨i0,hi,hz0,hz1,hz2⟩:=info_parts By.info5
 obtain⟨V,hV⟩:∃V,w.alloc (.cells #[.int .i64 t,.int .i64 s1,.int .i64 qq,.int .i64 d,.int .i64 kk,.int .i64 v,.int .i64 g] 110)=V:=⟨_,rfl⟩
 have HBV:Hid (Below B w V):=hV▸(Below.refl B w).alloc hB _
 have HRV:Hid (RowBy B V x l):=hV▸World.ownsRow.alloc h _
 have HQV:Hid (Bk V w.heap.size 110 #[.int .i64 t,.int .i64 s1,.int .i64 qq,.int .i64 d,.int .i64 kk,.int .i64 v,.int .i64 g]):=hV▸Bk.new _ _ _
 have HT:Hid ((0≤t∧t≤65535)∧(0≤v∧v≤65535)):=⟨⟨ht0,ht1⟩,hv0,hv1⟩
 have hsV:B≤V.heap.size:=Nat.le_trans hB HBV.out.size
 have e0:=HQV.out.cell (i:=0) rfl
 clear h ht0 ht1 hv0 hv1
 go_enter Tryz.func183,Tryz.ntmps183
 go_wp2_with fail
 clear e0 hV
 refine(ye1 B _ _ _ _ hsV (by omega) HT.out.1.1 HT.out.1.2 HRV.out).mono ?_
 rintro e w2 ⟨v2,rfl,hr2,ht2⟩
 have HR2:Hid (RowBy B w2 v2 (l++twoB t)):=hr2
 have HB2:Hid (Below B w w2):=HBV.out.trans (ht2.to_below (fun k e=>yb0 HRV.out e) hsV)
 have HQ2:Hid (Bk w2 w.heap.size 110 #[.int .i64 t,.int .i64 s1,.int .i64 qq,.int .i64 d,.int .i64 kk,.int .i64 v,.int .i64 g]):=HQV.out.turns ht2 (HRV.out.ne HQV.out (by decide))
 have hs2:B≤w2.heap.size:=Nat.le_trans hB HB2.out.size
 have hl2:(l++twoB t).length≤10002:=by rw [List.length_append,ybu];omega
 have HLD:Hid (l++evB ⟨t,s1,qq,d,kk,v,g⟩=(l++twoB t)++ [byteOf d,byteOf kk]++twoB v):=(by simp [evB]:l++evB ⟨t,s1,qq,d,kk,v,g⟩=(l++twoB t)++ [byteOf d,byteOf kk]++twoB v)
 generalize l++twoB t=l2 at HR2 hl2 HLD
 have e3:=HQ2.out.cell (i:=3) rfl
 have e4:=HQ2.out.cell (i:=4) rfl
 clear hr2 ht2 HBV HRV HQV
 go_wp2_with (at_builtin;refine wpList_append_own _ rfl _ _ 127 rfl B 5 i0 (.int .u8 0) 1 1 Tryz.underlying127 hi hz0 hz1 hz2 rfl (by decide) v2 _ _ rfl (World.ownsRow.alloc HR2.out _) ⟨w2.heap.size,0,none⟩ 2 2 [.int .u8 d,.int .u8 kk] rfl rfl (yfc _ _ _) (fun u hu=>by simp at hu;first|(subst hu;rfl)|(rcases hu with rfl|rfl<;>rfl)) (by unfold maxLen;omega) (by omega) (by simp;omega) ?_;intro v3 w3 hown hgrow hnil;have HR3:Hid (RowBy B w3 v3 (l2++ [byteOf d,byteOf kk])):=RowBy.grow hown (yhc hd0 hd1 hk0 hk1) rfl;have HB3:Hid (Below B w w3):=(HB2.out.alloc hs2 _).grown hgrow (by simp;omega) (fun j e=>yb0 HR2.out e);have HQ3:Hid (Bk w3 w.heap.size 110 #[.int .i64 t,.int .i64 s1,.int .i64 qq,.int .i64 d,.int .i64 kk,.int .i64 v,.int .i64 g]):=(HQ2.out.alloc _).turns (yao hgrow) (HR2.out.ne HQ2.out (by decide));have e5:=HQ3.out.cell (i:=5) rfl;clear hown hgrow hnil)
 have hs3:B≤w3.heap.size:=Nat.le_trans hB HB3.out.size
 refine(ye1 B _ _ _ _ hs3 (by rw [List.length_append];simp;omega) HT.out.2.1 HT.out.2.2 HR3.out).mono ?_
 rintro e w4 ⟨v4,rfl,hr4,ht4⟩
 have HR4:Hid (RowBy B w4 v4 (l2++ [byteOf d,byteOf kk]++twoB v)):=hr4
 have HB4:Hid (Below B w w4):=HB3.out.trans (ht4.to_below (fun k e=>yb0 HR3.out e) hs3)
 clear hr4 ht4 e3 e4 e5
 go_wp2
 go_ret
 exact⟨_,rfl,by rw [HLD.out];exact HR4.out,HB4.out⟩
end Go.Proofs.YtmobiieoecjmdaaGreat

