/- TPsE, PLib, PApp, PGrow, PPst, RegZ, PTo, PTr -/
import Derived.Test.YtmobiieoecjmdaaGreatExactCommittedG04
import Derived.Test.YtmobiieoecjmdaaGreatExactCommittedG05
import Derived.Test.YtmobiieoecjmdaaGreatExactCommittedG01
import Derived.Test.YtmobiieoecjmdaaGreatExactCommittedG03
import Derived.Laws.OwnMore
import Derived.WalkSmall
import Derived.Deep.Cut
import Derived.Deep.CutBlock
import Derived.Deep.RegionHeld3
import Derived.ArgAppend
import Derived.Test.YtmobiieoecjmdaaGreatRows
import Derived.OrdersHeld
import Derived.Deep.RegionHeld
import Derived.Laws.Slices
/- markPastS: marks, cell by cell. -/
namespace Go.Proofs.YtmobiieoecjmdaaGreat
open Go.RowKit
set_option maxRecDepth 100000 in
set_option maxHeartbeats 8000000 in
theorem mark_pasts {F:Nat→Prop} {x:Value} {l:List Ps} {w:World} (z:Int) (hn:(pastsD l).wt≤1048577) (hz0:0≤z) (hz1:z+((pastsD l).cnt:Int)≤1073741824) (h:OwnD w F x (pastsD l)):
  Calls Tryz.prog 128 #[x,.int .i64 z] w fun e w'=>e= .returned (.int .i64 (z+((pastsD l).cnt:Int)))∧OwnD w' F x ((pastsD l).mark z)∧Turns F w w':=by
 obtain⟨a,cap,rfl,h1,h2,ha⟩:=OwnD.parts (c:=12) (n:=l.length) h
 have HR0:Hid (OwnD w F (.slice a l.length cap) (.row 12 l.length (mkD (pastsD_f l) z (0*12)))):=OwnD.mk0 z h
 have HS:Hid ((pastsD l).wt≤1048577):=hn
 have HZ:Hid (z+((pastsD l).cnt:Int)≤1073741824):=hz1
 have hl2:l.length≤1048577:=by rw [pastsD_wt]at hn;omega
 clear h hn hz1 h1 h2
 go_enter Tryz.func128,Tryz.ntmps128
 go_wp2
 go_loopw [5,1] (fun i y wr=>∃k:Nat,k≤l.length∧i= .int .i64 k∧y= .int .i64 (z+(sumC (pastsD_f l) (k*12):Int))∧OwnD wr F (.slice a l.length cap) (.row 12 l.length (mkD (pastsD_f l) z (k*12)))∧Turns F w wr) (fun i _ _=>l.length-(intOf i).toNat)
 case atStart=>exact⟨0,Nat.zero_le _,rfl,by simp [sumC,sumL],HR0.out,Turns.refl _ _⟩
 case round=>
  obtain⟨k,hk,rfl,rfl,hR,hT⟩:=hrel
  have HR:Hid (OwnD wr F (.slice a l.length cap) (.row 12 l.length (mkD (pastsD_f l) z (k*12)))):=hR
  have HT:Hid (Turns F w wr):=hT
  clear hR hT
  by_cases hlt:k<l.length
  ·obtain⟨g,rfl,_,hFg⟩:=ha.resolve_left (by omega)
   have HF:Hid (F g):=hFg
   have hwt:(psAt l k).wt≤1048577:=Nat.le_trans (Ps.wt_le hlt) HS.out
   unfold Ps.wt at hwt
   simp only [ems_wt,evs_wt,ints_wt]at hwt
   obtain⟨m,hm⟩:∃m,m=k*12:=⟨_,rfl⟩
   have E0:Hid ((pastsD_f l) (k*12+0)=Dat.val (.int .i64 (psAt l k).e.t)):=pastsD_at l k (r:=0) (by omega)
   have E1:Hid ((pastsD_f l) (k*12+1)=Dat.val (.int .i64 (psAt l k).e.s)):=pastsD_at l k (r:=1) (by omega)
   have E2:Hid ((pastsD_f l) (k*12+2)=Dat.val (.int .i64 (psAt l k).e.q)):=pastsD_at l k (r:=2) (by omega)
   have E3:Hid ((pastsD_f l) (k*12+3)=Dat.val (.int .i64 (psAt l k).e.d)):=pastsD_at l k (r:=3) (by omega)
   have E4:Hid ((pastsD_f l) (k*12+4)=Dat.val (.int .i64 (psAt l k).e.k)):=pastsD_at l k (r:=4) (by omega)
   have E5:Hid ((pastsD_f l) (k*12+5)=Dat.val (.int .i64 (psAt l k).e.v)):=pastsD_at l k (r:=5) (by omega)
   have E6:Hid ((pastsD_f l) (k*12+6)=Dat.val (.int .i64 (psAt l k).e.g)):=pastsD_at l k (r:=6) (by omega)
   have E7:Hid ((pastsD_f l) (k*12+7)=intsD (psAt l k).b.r):=pastsD_at l k (r:=7) (by omega)
   have E8:Hid ((pastsD_f l) (k*12+8)=Dat.val (.int .i64 (psAt l k).b.q)):=pastsD_at l k (r:=8) (by omega)
   have E9:Hid ((pastsD_f l) (k*12+9)=Dat.val (.int .i64 (psAt l k).b.d)):=pastsD_at l k (r:=9) (by omega)
   have E10:Hid ((pastsD_f l) (k*12+10)=evsD (psAt l k).s):=pastsD_at l k (r:=10) (by omega)
   have E11:Hid ((pastsD_f l) (k*12+11)=emsD (psAt l k).x):=pastsD_at l k (r:=11) (by omega)
   have C0:Hid (sumC (pastsD_f l) (k*12)≤(pastsD l).cnt):=sumC_le (by omega)
   have S1:Hid (sumC (pastsD_f l) (k*12+1)=sumC (pastsD_f l) (k*12)+(Dat.val (.int .i64 (psAt l k).e.t)).cnt):=by
    have e:=sumC_succ (pastsD_f l) (k*12+0)
    rw [E0.out]at e
    exact e
   have C1:Hid (sumC (pastsD_f l) (k*12+1)≤(pastsD l).cnt):=sumC_le (by omega)
   have S2:Hid (sumC (pastsD_f l) (k*12+2)=sumC (pastsD_f l) (k*12+1)+(Dat.val (.int .i64 (psAt l k).e.s)).cnt):=by
    have e:=sumC_succ (pastsD_f l) (k*12+1)
    rw [E1.out]at e
    exact e
   have C2:Hid (sumC (pastsD_f l) (k*12+2)≤(pastsD l).cnt):=sumC_le (by omega)
   have S3:Hid (sumC (pastsD_f l) (k*12+3)=sumC (pastsD_f l) (k*12+2)+(Dat.val (.int .i64 (psAt l k).e.q)).cnt):=by
    have e:=sumC_succ (pastsD_f l) (k*12+2)
    rw [E2.out]at e
    exact e
   have C3:Hid (sumC (pastsD_f l) (k*12+3)≤(pastsD l).cnt):=sumC_le (by omega)
   have S4:Hid (sumC (pastsD_f l) (k*12+4)=sumC (pastsD_f l) (k*12+3)+(Dat.val (.int .i64 (psAt l k).e.d)).cnt):=by
    have e:=sumC_succ (pastsD_f l) (k*12+3)
    rw [E3.out]at e
    exact e
   have C4:Hid (sumC (pastsD_f l) (k*12+4)≤(pastsD l).cnt):=sumC_le (by omega)
   have S5:Hid (sumC (pastsD_f l) (k*12+5)=sumC (pastsD_f l) (k*12+4)+(Dat.val (.int .i64 (psAt l k).e.k)).cnt):=by
    have e:=sumC_succ (pastsD_f l) (k*12+4)
    rw [E4.out]at e
    exact e
   have C5:Hid (sumC (pastsD_f l) (k*12+5)≤(pastsD l).cnt):=sumC_le (by omega)
   have S6:Hid (sumC (pastsD_f l) (k*12+6)=sumC (pastsD_f l) (k*12+5)+(Dat.val (.int .i64 (psAt l k).e.v)).cnt):=by
    have e:=sumC_succ (pastsD_f l) (k*12+5)
    rw [E5.out]at e
    exact e
   have C6:Hid (sumC (pastsD_f l) (k*12+6)≤(pastsD l).cnt):=sumC_le (by omega)
   have S7:Hid (sumC (pastsD_f l) (k*12+7)=sumC (pastsD_f l) (k*12+6)+(Dat.val (.int .i64 (psAt l k).e.g)).cnt):=by
    have e:=sumC_succ (pastsD_f l) (k*12+6)
    rw [E6.out]at e
    exact e
   have C7:Hid (sumC (pastsD_f l) (k*12+7)≤(pastsD l).cnt):=sumC_le (by omega)
   have S8:Hid (sumC (pastsD_f l) (k*12+8)=sumC (pastsD_f l) (k*12+7)+(intsD (psAt l k).b.r).cnt):=by
    have e:=sumC_succ (pastsD_f l) (k*12+7)
    rw [E7.out]at e
    exact e
   have C8:Hid (sumC (pastsD_f l) (k*12+8)≤(pastsD l).cnt):=sumC_le (by omega)
   have S9:Hid (sumC (pastsD_f l) (k*12+9)=sumC (pastsD_f l) (k*12+8)+(Dat.val (.int .i64 (psAt l k).b.q)).cnt):=by
    have e:=sumC_succ (pastsD_f l) (k*12+8)
    rw [E8.out]at e
    exact e
   have C9:Hid (sumC (pastsD_f l) (k*12+9)≤(pastsD l).cnt):=sumC_le (by omega)
   have S10:Hid (sumC (pastsD_f l) (k*12+10)=sumC (pastsD_f l) (k*12+9)+(Dat.val (.int .i64 (psAt l k).b.d)).cnt):=by
    have e:=sumC_succ (pastsD_f l) (k*12+9)
    rw [E9.out]at e
    exact e
   have C10:Hid (sumC (pastsD_f l) (k*12+10)≤(pastsD l).cnt):=sumC_le (by omega)
   have S11:Hid (sumC (pastsD_f l) (k*12+11)=sumC (pastsD_f l) (k*12+10)+(evsD (psAt l k).s).cnt):=by
    have e:=sumC_succ (pastsD_f l) (k*12+10)
    rw [E10.out]at e
    exact e
   have C11:Hid (sumC (pastsD_f l) (k*12+11)≤(pastsD l).cnt):=sumC_le (by omega)
   have S12:Hid (sumC (pastsD_f l) (k*12+12)=sumC (pastsD_f l) (k*12+11)+(emsD (psAt l k).x).cnt):=by
    have e:=sumC_succ (pastsD_f l) (k*12+11)
    rw [E11.out]at e
    exact e
   have C12:Hid (sumC (pastsD_f l) (k*12+12)≤(pastsD l).cnt):=sumC_le (by omega)
   obtain⟨y,hy⟩:∃y:Int,y=z+(sumC (pastsD_f l) (k*12):Int):=⟨_,rfl⟩
   have HY0:Hid (y=z+(sumC (pastsD_f l) (k*12):Int)):=hy
   have y0:0≤y:=by omega
   rw [←hy]
   clear hy hm
   obtain⟨x0,_,g0,z0,_⟩:=HR.out.step (j:=k*12) (by omega)
   obtain⟨Y1,hY1⟩:∃Y1,wr.setCell ⟨g,k*12,none⟩ (.int .i64 y)=Y1:=⟨_,rfl⟩
   have HR1:Hid (OwnD Y1 F (.slice (some ⟨g,0,none⟩) l.length cap) (.row 12 l.length (mkD (pastsD_f l) z (k*12+1)))):=hY1▸HR.out.mk_val (m:=k*12) (by omega) E0.out (by
    show _=Value.int .i64 (z+(sumC (pastsD_f l) (k*12):Int))
    rw [show y=z+(sumC (pastsD_f l) (k*12):Int)from by(have e:=HY0.out;simp only [Dat.cnt]at*;omega)])
   have HT1:Hid (Turns F w Y1):=HT.out.trans (hY1▸(put1_turns _ _ _ _).mono (fun b e=>by subst e;exact HF.out))
   obtain⟨x1,_,g1,z1,_⟩:=HR1.out.step (j:=k*12+1) (by omega)
   obtain⟨Y2,hY2⟩:∃Y2,Y1.setCell ⟨g,k*12+1,none⟩ (.int .i64 (y+1))=Y2:=⟨_,rfl⟩
   have HR2:Hid (OwnD Y2 F (.slice (some ⟨g,0,none⟩) l.length cap) (.row 12 l.length (mkD (pastsD_f l) z (k*12+2)))):=hY2▸HR1.out.mk_val (m:=k*12+1) (by omega) E1.out (by
    show _=Value.int .i64 (z+(sumC (pastsD_f l) (k*12+1):Int))
    rw [show y+1=z+(sumC (pastsD_f l) (k*12+1):Int)from by(have e:=HY0.out;have e1:=S1.out;simp only [Dat.cnt]at*;omega)])
   have HT2:Hid (Turns F w Y2):=HT1.out.trans (hY2▸(put1_turns _ _ _ _).mono (fun b e=>by subst e;exact HF.out))
   obtain⟨x2,_,g2,z2,_⟩:=HR2.out.step (j:=k*12+2) (by omega)
   obtain⟨Y3,hY3⟩:∃Y3,Y2.setCell ⟨g,k*12+2,none⟩ (.int .i64 (y+1+1))=Y3:=⟨_,rfl⟩
   have HR3:Hid (OwnD Y3 F (.slice (some ⟨g,0,none⟩) l.length cap) (.row 12 l.length (mkD (pastsD_f l) z (k*12+3)))):=hY3▸HR2.out.mk_val (m:=k*12+2) (by omega) E2.out (by
    show _=Value.int .i64 (z+(sumC (pastsD_f l) (k*12+2):Int))
    rw [show y+1+1=z+(sumC (pastsD_f l) (k*12+2):Int)from by(have e:=HY0.out;have e1:=S1.out;have e2:=S2.out;simp only [Dat.cnt]at*;omega)])
   have HT3:Hid (Turns F w Y3):=HT2.out.trans (hY3▸(put1_turns _ _ _ _).mono (fun b e=>by subst e;exact HF.out))
   obtain⟨x3,_,g3,z3,_⟩:=HR3.out.step (j:=k*12+3) (by omega)
   obtain⟨Y4,hY4⟩:∃Y4,Y3.setCell ⟨g,k*12+3,none⟩ (.int .i64 (y+1+1+1))=Y4:=⟨_,rfl⟩
   have HR4:Hid (OwnD Y4 F (.slice (some ⟨g,0,none⟩) l.length cap) (.row 12 l.length (mkD (pastsD_f l) z (k*12+4)))):=hY4▸HR3.out.mk_val (m:=k*12+3) (by omega) E3.out (by
    show _=Value.int .i64 (z+(sumC (pastsD_f l) (k*12+3):Int))
    rw [show y+1+1+1=z+(sumC (pastsD_f l) (k*12+3):Int)from by(have e:=HY0.out;have e1:=S1.out;have e2:=S2.out;have e3:=S3.out;simp only [Dat.cnt]at*;omega)])
   have HT4:Hid (Turns F w Y4):=HT3.out.trans (hY4▸(put1_turns _ _ _ _).mono (fun b e=>by subst e;exact HF.out))
   obtain⟨x4,_,g4,z4,_⟩:=HR4.out.step (j:=k*12+4) (by omega)
   obtain⟨Y5,hY5⟩:∃Y5,Y4.setCell ⟨g,k*12+4,none⟩ (.int .i64 (y+1+1+1+1))=Y5:=⟨_,rfl⟩
   have HR5:Hid (OwnD Y5 F (.slice (some ⟨g,0,none⟩) l.length cap) (.row 12 l.length (mkD (pastsD_f l) z (k*12+5)))):=hY5▸HR4.out.mk_val (m:=k*12+4) (by omega) E4.out (by
    show _=Value.int .i64 (z+(sumC (pastsD_f l) (k*12+4):Int))
    rw [show y+1+1+1+1=z+(sumC (pastsD_f l) (k*12+4):Int)from by(have e:=HY0.out;have e1:=S1.out;have e2:=S2.out;have e3:=S3.out;have e4:=S4.out;simp only [Dat.cnt]at*;omega)])
   have HT5:Hid (Turns F w Y5):=HT4.out.trans (hY5▸(put1_turns _ _ _ _).mono (fun b e=>by subst e;exact HF.out))
   obtain⟨x5,_,g5,z5,_⟩:=HR5.out.step (j:=k*12+5) (by omega)
   obtain⟨Y6,hY6⟩:∃Y6,Y5.setCell ⟨g,k*12+5,none⟩ (.int .i64 (y+1+1+1+1+1))=Y6:=⟨_,rfl⟩
   have HR6:Hid (OwnD Y6 F (.slice (some ⟨g,0,none⟩) l.length cap) (.row 12 l.length (mkD (pastsD_f l) z (k*12+6)))):=hY6▸HR5.out.mk_val (m:=k*12+5) (by omega) E5.out (by
    show _=Value.int .i64 (z+(sumC (pastsD_f l) (k*12+5):Int))
    rw [show y+1+1+1+1+1=z+(sumC (pastsD_f l) (k*12+5):Int)from by(have e:=HY0.out;have e1:=S1.out;have e2:=S2.out;have e3:=S3.out;have e4:=S4.out;have e5:=S5.out;simp only [Dat.cnt]at*;omega)])
   have HT6:Hid (Turns F w Y6):=HT5.out.trans (hY6▸(put1_turns _ _ _ _).mono (fun b e=>by subst e;exact HF.out))
   obtain⟨x6,_,g6,z6,_⟩:=HR6.out.step (j:=k*12+6) (by omega)
   obtain⟨Y7,hY7⟩:∃Y7,Y6.setCell ⟨g,k*12+6,none⟩ (.int .i64 (y+1+1+1+1+1+1))=Y7:=⟨_,rfl⟩
   have HR7:Hid (OwnD Y7 F (.slice (some ⟨g,0,none⟩) l.length cap) (.row 12 l.length (mkD (pastsD_f l) z (k*12+7)))):=hY7▸HR6.out.mk_val (m:=k*12+6) (by omega) E6.out (by
    show _=Value.int .i64 (z+(sumC (pastsD_f l) (k*12+6):Int))
    rw [show y+1+1+1+1+1+1=z+(sumC (pastsD_f l) (k*12+6):Int)from by(have e:=HY0.out;have e1:=S1.out;have e2:=S2.out;have e3:=S3.out;have e4:=S4.out;have e5:=S5.out;have e6:=S6.out;simp only [Dat.cnt]at*;omega)])
   have HT7:Hid (Turns F w Y7):=HT6.out.trans (hY7▸(put1_turns _ _ _ _).mono (fun b e=>by subst e;exact HF.out))
   obtain⟨u7,K7,g7,o7,f7,b7⟩:=HR7.out.mk_row (m:=k*12+7) (by omega)
   rw [E7.out]at o7 b7
   have O7:Hid (OwnD Y7 K7 u7 (intsD (psAt l k).b.r)):=o7
   have B7:Hid (∀w',OwnD w' K7 u7 ((intsD (psAt l k).b.r).mark (z+(sumC (pastsD_f l) (k*12+7):Int)))→Turns K7 Y7 w'→OwnD w' F (.slice (some ⟨g,0,none⟩) l.length cap) (.row 12 l.length (mkD (pastsD_f l) z (k*12+8)))):=b7
   have F7:Hid (∀b,K7 b→F b):=f7
   clear o7 b7 f7
   have hq7:y+1+1+1+1+1+1+1=z+(sumC (pastsD_f l) (k*12+7):Int):=by(have e:=HY0.out;have e1:=S1.out;have e2:=S2.out;have e3:=S3.out;have e4:=S4.out;have e5:=S5.out;have e6:=S6.out;have e7:=S7.out;simp only [Dat.cnt]at*;omega)
   have hb7:y+1+1+1+1+1+1+1≤1073741824:=by have:=HZ.out;have:=C7.out;omega
   have Q7:Hid (y+1+1+1+1+1+1+1=z+(sumC (pastsD_f l) (k*12+7):Int)):=hq7
   clear hq7
   go_wp2_with fail
   clear g7 hY7 z6 g6 hY6 z5 g5 hY5 z4 g4 hY4 z3 g3 hY3 z2 g2 hY2 z1 g1 hY1 z0 g0
   refine(mark_ints (F:=K7) (l:=(psAt l k).b.r) (y+1+1+1+1+1+1+1) (by omega) (by omega) (by omega) O7.out).mono ?_
   rintro e w8 ⟨rfl,hr,ht⟩
   rw [Q7.out]at hr
   have HR8:Hid (OwnD w8 F (.slice (some ⟨g,0,none⟩) l.length cap) (.row 12 l.length (mkD (pastsD_f l) z (k*12+8)))):=B7.out _ hr ht
   have HT8:Hid (Turns F w w8):=HT7.out.trans (ht.mono F7.out)
   clear hr ht
   obtain⟨y7,hy⟩:∃y7:Int,y7=y+1+1+1+1+1+1+1+((intsD (psAt l k).b.r).cnt:Int):=⟨_,rfl⟩
   have HY8:Hid (y7=z+(sumC (pastsD_f l) (k*12+8):Int)):=by
    have h8:=S8.out
    have h9:=Q7.out
    show y7=_
    omega
   have y70:0≤y7:=by omega
   have y71:y7≤1073741824:=by have h7:=HZ.out;have h8:=C8.out;have h9:=HY8.out;omega
   rw [←hy]
   clear hy
   obtain⟨x8,_,g8,z8,_⟩:=HR8.out.step (j:=k*12+8) (by omega)
   obtain⟨Y9,hY9⟩:∃Y9,w8.setCell ⟨g,k*12+8,none⟩ (.int .i64 y7)=Y9:=⟨_,rfl⟩
   have HR9:Hid (OwnD Y9 F (.slice (some ⟨g,0,none⟩) l.length cap) (.row 12 l.length (mkD (pastsD_f l) z (k*12+9)))):=hY9▸HR8.out.mk_val (m:=k*12+8) (by omega) E8.out (by
    show _=Value.int .i64 (z+(sumC (pastsD_f l) (k*12+8):Int))
    rw [show y7=z+(sumC (pastsD_f l) (k*12+8):Int)from by(have e:=HY8.out;simp only [Dat.cnt]at*;omega)])
   have HT9:Hid (Turns F w Y9):=HT8.out.trans (hY9▸(put1_turns _ _ _ _).mono (fun b e=>by subst e;exact HF.out))
   obtain⟨x9,_,g9,z9,_⟩:=HR9.out.step (j:=k*12+9) (by omega)
   obtain⟨Y10,hY10⟩:∃Y10,Y9.setCell ⟨g,k*12+9,none⟩ (.int .i64 (y7+1))=Y10:=⟨_,rfl⟩
   have HR10:Hid (OwnD Y10 F (.slice (some ⟨g,0,none⟩) l.length cap) (.row 12 l.length (mkD (pastsD_f l) z (k*12+10)))):=hY10▸HR9.out.mk_val (m:=k*12+9) (by omega) E9.out (by
    show _=Value.int .i64 (z+(sumC (pastsD_f l) (k*12+9):Int))
    rw [show y7+1=z+(sumC (pastsD_f l) (k*12+9):Int)from by(have e:=HY8.out;have e9:=S9.out;simp only [Dat.cnt]at*;omega)])
   have HT10:Hid (Turns F w Y10):=HT9.out.trans (hY10▸(put1_turns _ _ _ _).mono (fun b e=>by subst e;exact HF.out))
   obtain⟨u10,K10,g10,o10,f10,b10⟩:=HR10.out.mk_row (m:=k*12+10) (by omega)
   rw [E10.out]at o10 b10
   have O10:Hid (OwnD Y10 K10 u10 (evsD (psAt l k).s)):=o10
   have B10:Hid (∀w',OwnD w' K10 u10 ((evsD (psAt l k).s).mark (z+(sumC (pastsD_f l) (k*12+10):Int)))→Turns K10 Y10 w'→OwnD w' F (.slice (some ⟨g,0,none⟩) l.length cap) (.row 12 l.length (mkD (pastsD_f l) z (k*12+11)))):=b10
   have F10:Hid (∀b,K10 b→F b):=f10
   clear o10 b10 f10
   have hq10:y7+1+1=z+(sumC (pastsD_f l) (k*12+10):Int):=by(have e:=HY8.out;have e9:=S9.out;have e10:=S10.out;simp only [Dat.cnt]at*;omega)
   have hb10:y7+1+1≤1073741824:=by have:=HZ.out;have:=C10.out;omega
   have Q10:Hid (y7+1+1=z+(sumC (pastsD_f l) (k*12+10):Int)):=hq10
   clear hq10
   go_wp2_with fail
   clear g10 hY10 z9 g9 hY9 z8 g8
   refine(mark_evs (F:=K10) (l:=(psAt l k).s) (y7+1+1) (by omega) (by omega) (by omega) O10.out).mono ?_
   rintro e w11 ⟨rfl,hr,ht⟩
   rw [Q10.out]at hr
   have HR11:Hid (OwnD w11 F (.slice (some ⟨g,0,none⟩) l.length cap) (.row 12 l.length (mkD (pastsD_f l) z (k*12+11)))):=B10.out _ hr ht
   have HT11:Hid (Turns F w w11):=HT10.out.trans (ht.mono F10.out)
   clear hr ht
   obtain⟨y10,hy⟩:∃y10:Int,y10=y7+1+1+((evsD (psAt l k).s).cnt:Int):=⟨_,rfl⟩
   have HY11:Hid (y10=z+(sumC (pastsD_f l) (k*12+11):Int)):=by
    have h8:=S11.out
    have h9:=Q10.out
    show y10=_
    omega
   have y100:0≤y10:=by omega
   have y101:y10≤1073741824:=by have h7:=HZ.out;have h8:=C11.out;have h9:=HY11.out;omega
   rw [←hy]
   clear hy
   obtain⟨u11,K11,g11,o11,f11,b11⟩:=HR11.out.mk_row (m:=k*12+11) (by omega)
   rw [E11.out]at o11 b11
   have O11:Hid (OwnD w11 K11 u11 (emsD (psAt l k).x)):=o11
   have B11:Hid (∀w',OwnD w' K11 u11 ((emsD (psAt l k).x).mark (z+(sumC (pastsD_f l) (k*12+11):Int)))→Turns K11 w11 w'→OwnD w' F (.slice (some ⟨g,0,none⟩) l.length cap) (.row 12 l.length (mkD (pastsD_f l) z (k*12+12)))):=b11
   have F11:Hid (∀b,K11 b→F b):=f11
   clear o11 b11 f11
   have hq11:y10=z+(sumC (pastsD_f l) (k*12+11):Int):=by(have e:=HY11.out;simp only [Dat.cnt]at*;omega)
   have hb11:y10≤1073741824:=by have:=HZ.out;have:=C11.out;omega
   have Q11:Hid (y10=z+(sumC (pastsD_f l) (k*12+11):Int)):=hq11
   clear hq11
   go_wp2_with fail
   clear g11
   refine(mark_ems (F:=K11) (l:=(psAt l k).x) (y10) (by omega) (by omega) (by omega) O11.out).mono ?_
   rintro e w12 ⟨rfl,hr,ht⟩
   rw [Q11.out]at hr
   have HR12:Hid (OwnD w12 F (.slice (some ⟨g,0,none⟩) l.length cap) (.row 12 l.length (mkD (pastsD_f l) z (k*12+12)))):=B11.out _ hr ht
   have HT12:Hid (Turns F w w12):=HT11.out.trans (ht.mono F11.out)
   clear hr ht
   obtain⟨y11,hy⟩:∃y11:Int,y11=y10+((emsD (psAt l k).x).cnt:Int):=⟨_,rfl⟩
   have HY12:Hid (y11=z+(sumC (pastsD_f l) (k*12+12):Int)):=by
    have h8:=S12.out
    have h9:=Q11.out
    show y11=_
    omega
   have y110:0≤y11:=by omega
   have y111:y11≤1073741824:=by have h7:=HZ.out;have h8:=C12.out;have h9:=HY12.out;omega
   rw [←hy]
   clear hy
   go_wp2
   go_roundw
   case rel=>
    refine⟨k+1,by omega,by go_num,?_,?_,HT12.out⟩
    ·rw [show y11=z+(sumC (pastsD_f l) ((k+1)*12):Int)from by rw [show(k+1)*12=k*12+12 from by omega];(have e:=HY12.out;simp only [Dat.cnt]at*;omega)]
    ·rw [show(k+1)*12=k*12+12 from by omega]
     exact HR12.out
   case measure=>simp [intOf];omega
  ·go_wp2
   go_ret
   obtain rfl:k=l.length:=by omega
   exact⟨rfl,HR.out.mkAll,HT.out⟩
def NewRow (w:World) (v v':Value):Prop:=v'.ownBlock=v.ownBlock∨ ∀k,v'.ownBlock=some k→w.heap.size≤k
theorem run_append_own2 {P:Program} (w:World) (base:Nat) (t ty e:TypeId) (i:TypeInfo) (z:Value) (size bytes:Nat) (ht:P.underlying t=some (.slice e)) (hi:P.info? e=some i) (hz:i.zero=some z) (hsize:i.size=size) (hby:i.bytes=bytes) (hzs:z.cells.size=size) (hsz:0<size)
  (v:Value) (n:Nat) (xs:List Value) (hown:w.ownsRow base e size v n xs) (ad:Addr) (m c:Nat) (news:List Value) (hl:news.length=m*size) (hnews:∀j u,news[j]? =some u→w.cell? (ad.add j)=some u) (h1:∀u∈news,u.oneCell'=true)
  (h63:n+m≤maxLen) (hbytes:(n+m)*bytes≤140737488355328) (hbase:base≤w.heap.size):
  ∃v' w',(Builtin.append_ #[t,t] ty #[v,.slice (some ad) m c]).run P w= .ok v' w'∧w'.ownsRow base e size v' (n+m) (xs++news)∧w.grownBy w' v.ownBlock∧NewRow w v v':=by
 obtain⟨v',w',hr,h2,h3,_⟩:=run_append_own (P:=P) w base t ty e i z size bytes ht hi hz hsize hby hzs hsz v n xs hown ad m c news hl hnews h1 h63 hbytes hbase
 refine⟨v',w',hr,h2,h3,?_⟩
 have hown':=hown
 obtain⟨_,⟨rfl,h0⟩|⟨g,cap,cur,rfl,hg,hc,hnc,hcm,hcs,htk⟩⟩:=hown
 ·right
  obtain⟨v2,w2,hr2,r1,_⟩:=run_append_own (P:=P) w w.heap.size t ty e i z size bytes ht hi hz hsize hby hzs hsz (.slice none 0 0) n xs ⟨hown'.1,.inl ⟨rfl,h0⟩⟩ ad m c news hl hnews h1 h63 hbytes (Nat.le_refl _)
  rw [hr]at hr2
  cases hr2
  exact fun k e=>(World.ownsRow.lt r1 k e).1
 ·by_cases hroom:n+m≤cap
  ·left
   obtain⟨w2,hr2,_⟩:=run_append_fits (P:=P) w base t ty e i size ht hi hsize g n cap xs hown' ad m c news hl hnews h1 hroom
   rw [hr]at hr2
   cases hr2
   rfl
  ·right
   obtain⟨v2,w2,hr2,r1,_⟩:=run_append_arg_grows (P:=P) w t ty e i z size bytes ht hi hz hsize hby hzs hsz ⟨g,0,none⟩ n cap xs hown'.1 (World.ownsRow.cells hown' rfl) ad m c news hl hnews (by omega) h63 hbytes
   rw [hr]at hr2
   cases hr2
   exact fun k e=>(World.ownsRow.lt r1 k e).1
theorem step_append_own2 {P:Program} {ops:Array Oper} {o:Oper} {a:Act} {w:World} {K:Act→World→Prop} {Q:Exit→Act→World→Prop} {E:Prop}
  (hg:o.guard=none) (s x:Operand) (t:TypeId) (hop:o.op=Op.call {callee:=Callee.builtin Builtin.append,args:= #[s,x],argTypes:= #[t,t]})
  (base:Nat) (e:TypeId) (i:TypeInfo) (z:Value) (size bytes:Nat) (h1:P.underlying t=some (.slice e)) (h2:P.info? e=some i) (h3:i.zero=some z) (h4:i.size=size) (h5:i.bytes=bytes) (h6:z.cells.size=size) (h7:0<size)
  (v:Value) (n:Nat) (xs:List Value) (hs:a.eval s=v) (hown:w.ownsRow base e size v n xs)
  (ad:Addr) (m c:Nat) (news:List Value) (hx:a.eval x= .slice (some ad) m c) (hn:news.length=m*size) (hc:∀j u,news[j]? =some u→w.cell? (ad.add j)=some u) (h1c:∀u∈news,u.oneCell'=true)
  (b1:n+m≤maxLen) (b2:(n+m)*bytes≤140737488355328) (hbase:base≤w.heap.size)
  (hK:∀v' w',w'.ownsRow base e size v' (n+m) (xs++news)→w.grownBy w' v.ownBlock→NewRow w v v'→K (a.put o.dst v') w'):
  if Region.wanted o (yielded ops a.tmps)=true then Oper.wp P o a w K Q else E:=by
 have hw:Region.wanted o (yielded ops a.tmps)=true:=by simp [Region.wanted,hg]
 rw [if_pos hw]
 obtain⟨v',w',hr,q1,q2,q3⟩:=run_append_own2 (P:=P) w base t o.type e i z size bytes h1 h2 h3 h4 h5 h6 h7 v n xs hown ad m c news hn hc h1c b1 b2 hbase
 unfold Oper.wp execOp
 simp only [hop,resolve,invoke,builtin,Sem.run_bind,Sem.run_pure,Result.andThen_ok,List.map_toArray,List.map_cons,List.map_nil,hs,hx,hr]
 exact hK v' w' q1 q2 q3
theorem own_rowF {B:Nat} {T:TypeId} {w:World} {x:Value} {n c:Nat} {cs:List Value} (hcs:cs.length=n*c) (h:w.ownsRow B T c x n cs):RowF (fun k=>x.ownBlock=some k) w x n c cs:=by
 obtain⟨hl,⟨rfl,h0⟩|⟨g,cap,cur,rfl,hg,hc,h1,h2,h3,h4⟩⟩:=h
 ·exact⟨hcs,none,0,by rw [h0],by omega,by unfold maxLen;omega,.inl h0⟩
 ·have hlt:g<w.heap.size:=(Array.getElem?_eq_some_iff.1 hc).1
  refine⟨hcs,_,cap,rfl,h1,h2,.inr ⟨g,rfl,rfl,hlt,fun j hj=> ?_⟩⟩
  have hj2:j<cur.size:=by rw [h3];exact Nat.lt_of_lt_of_le hj (Nat.mul_le_mul_right c h1)
  refine⟨?_,by simp [World.frozen?,hc]⟩
  rw [←h4,List.getElem?_take_of_lt (by omega)]
  simp [World.cell?,hc]
theorem owns_same {w w':World} {B:Nat} {v:Value} {T:TypeId} {c n:Nat} {cs:List Value} (h:w.ownsRow B T c v n cs) (hb:∀k,v.ownBlock=some k→w'.heap[k]? =w.heap[k]?):w'.ownsRow B T c v n cs:=by
 obtain⟨h0,⟨e,h1⟩|⟨g,cap,cur,rfl,hg,hc,h1⟩⟩:=h
 ·exact⟨h0,.inl ⟨e,h1⟩⟩
 ·exact⟨h0,.inr ⟨g,cap,cur,rfl,hg,(hb g rfl).trans hc,h1⟩⟩
theorem owns_turns {S:Nat→Prop} {w w':World} {B:Nat} {v:Value} {T:TypeId} {c n:Nat} {cs:List Value} (h:w.ownsRow B T c v n cs) (ht:Turns S w w') (hS:∀k,v.ownBlock=some k→ ¬S k):w'.ownsRow B T c v n cs:=
 owns_same h fun k hk=>ht.block k (World.ownsRow.lt h k hk).2 (hS k hk)
theorem grown_turns {w w':World} {row:Option Nat} (h:w.grownBy w' row):Turns (fun k=>row=some k) w w':=⟨h.os,h.tape,h.output,h.size,fun k hk hS=>h.block k hk (fun e=>hS e.symm)⟩
theorem owns_ne {B:Nat} {e:TypeId} {size n:Nat} {w:World} {v:Value} {xs:List Value} (h:w.ownsRow B e size v n xs) {P:Nat} {T:TypeId} {vs:Array Value} (hb:Bk w P T vs) (hT:T≠e):¬v.ownBlock=some P:=by
 intro hE
 obtain⟨_,⟨rfl,_⟩|⟨g,cap,cur,rfl,_,hc,_⟩⟩:=h
 ·simp [Value.ownBlock]at hE
 ·simp [Value.ownBlock]at hE
  subst hE
  have hb':w.heap[g]? =some (.cells vs T):=hb
  rw [hb']at hc
  simp at hc
  exact hT hc.2
theorem owns_lt {B:Nat} {e:TypeId} {size n:Nat} {w:World} {v:Value} {xs:List Value} (h:w.ownsRow B e size v n xs) {k:Nat} (hk:v.ownBlock=some k):k<w.heap.size:=by
 obtain⟨_,⟨rfl,_⟩|⟨g,cap,cur,rfl,_,hc,_⟩⟩:=h
 ·simp [Value.ownBlock]at hk
 ·simp [Value.ownBlock]at hk
  subst hk
  exact(Array.getElem?_eq_some_iff.1 hc).1
theorem owns_mono {B B':Nat} {e:TypeId} {size n:Nat} {w:World} {v:Value} {xs:List Value} (h:w.ownsRow B e size v n xs) (hB:B'≤B):w.ownsRow B' e size v n xs:=by
 obtain⟨h0,h1|⟨g,cap,cur,e,hg,h2⟩⟩:=h
 ·exact⟨h0,.inl h1⟩
 ·exact⟨h0,.inr ⟨g,cap,cur,e,Nat.le_trans hB hg,h2⟩⟩
theorem owns_slice {B:Nat} {e:TypeId} {size n:Nat} {w:World} {v:Value} {xs:List Value} (h:w.ownsRow B e size v n xs):∃a cap,v= .slice a n cap:=by
 obtain⟨_,⟨rfl,h0⟩|⟨g,cap,cur,rfl,_⟩⟩:=h
 ·exact⟨none,0,by rw [h0]⟩
 ·exact⟨_,_,rfl⟩
theorem wpList_append_own2 {P:Program} {ops:Array Oper} {rest:List Oper} {o:Oper} {a:Act} {Q:Exit→Act→World→Prop} (w:World) (hgd:o.guard=none) (s x:Operand) (t:TypeId)
  (ho:o.op= .call {callee:= .builtin .append,args:= #[s,x],argTypes:= #[t,t]})
  (base:Nat) (e:TypeId) (i:TypeInfo) (z:Value) (size bytes:Nat) (ht:P.underlying t=some (.slice e)) (hi:P.info? e=some i) (hz:i.zero=some z)
  (hsize:i.size=size) (hby:i.bytes=bytes) (hzs:z.cells.size=size) (hsz:0<size)
  (v:Value) (n:Nat) (xs:List Value) (hs:a.eval s=v) (hown:w.ownsRow base e size v n xs)
  (ad:Addr) (m c:Nat) (news:List Value) (hx:a.eval x= .slice (some ad) m c) (hl:news.length=m*size) (hnews:∀j u,news[j]? =some u→w.cell? (ad.add j)=some u) (h1:∀u∈news,u.oneCell'=true)
  (h63:n+m≤maxLen) (hbytes:(n+m)*bytes≤140737488355328) (hbase:base≤w.heap.size)
  (h:∀v' w',w'.ownsRow base e size v' (n+m) (xs++news)→w.grownBy w' v.ownBlock→NewRow w v v'→wpList P ops Q rest (a.put o.dst v') w'):wpList P ops Q (o::rest) a w:=
 wpList_plain hgd fun _ hK=>by
  obtain⟨v',w',hr,q1,q2,q3⟩:=run_append_own2 (P:=P) w base t o.type e i z size bytes ht hi hz hsize hby hzs hsz v n xs hown ad m c news hl hnews h1 h63 hbytes hbase
  unfold Oper.wp execOp
  simp only [ho,resolve,invoke,builtin,Sem.run_bind,Sem.run_pure,Result.andThen_ok,List.map_toArray,List.map_cons,List.map_nil,hs,hx,hr]
  exact hK _ _ (h v' w' q1 q2 q3)
def SrcC (w:World) (x:Value) (size m:Nat) (news:List Value):Prop:=news.length=m*size∧ ∃a c,x= .slice a m c∧(m=0∨ ∃b off,a=some ⟨b,off,none⟩∧b<w.heap.size∧ ∀j,j<m*size→w.cell? ⟨b,off+j,none⟩=news[j]?)
theorem SrcC.below {w w':World} {x:Value} {size m:Nat} {news:List Value} (h:SrcC w x size m news) (hb:Below w.heap.size w w'):SrcC w' x size m news:=by
 obtain⟨hn,a,c,rfl,h⟩:=h
 refine⟨hn,a,c,rfl,h.imp id ?_⟩
 rintro ⟨b,off,rfl,hlt,hc⟩
 exact⟨b,off,rfl,Nat.lt_of_lt_of_le hlt hb.size,fun j hj=>(hb.cell (p:=⟨b,off+j,none⟩) hlt).trans (hc j hj)⟩
theorem IsD.src {w:World} {x:Value} {c n:Nat} {cs:List Value} (h:IsD w x (flat c n cs)) (hl:cs.length=n*c):SrcC w x c n cs:=by
 obtain⟨a,cap,rfl,h1,h2,h⟩:=IsD.parts (c:=c) (n:=n) h
 refine⟨hl,a,cap,rfl,h.imp id ?_⟩
 rintro ⟨b,off,rfl,hlt,hc⟩
 refine⟨b,off,rfl,hlt,fun j hj=> ?_⟩
 obtain⟨u,hu,hd⟩:=hc j hj
 have:=IsD.val_eq hd
 subst this
 rw [hu,List.getElem?_eq_getElem (by omega)]
 simp [show j<cs.length by omega]
theorem IsD.srcEv {w:World} {x:Value} {l:List Ev} (h:IsD w x (evsD l)):SrcC w x 7 l.length (cellsL l):=IsD.src h (cellsL_length l)
theorem IsD.srcX {w:World} {x:Value} {l:List Em} (h:IsD w x (emsD l)):SrcC w x 3 l.length (cellsX l):=IsD.src h (cellsX_length l)
theorem run_append_none_any {P:Program} {w:World} (base:Nat) (t ty e:TypeId) (i:TypeInfo) (size:Nat) (ht:P.underlying t=some (.slice e)) (hi:P.info? e=some i) (v:Value) (n c:Nat) (xs:List Value) (hown:w.ownsRow base e size v n xs):
  (Builtin.append_ #[t,t] ty #[v,.slice none 0 c]).run P w= .ok v w:=by
 rcases hown.2 with ⟨rfl,rfl⟩|⟨g,cap,cur,rfl,_,_,hnc,_⟩
 ·simp [Builtin.append_,run_underlying ht,sizeOf,typeInfo,hi,Builtin.lenOf,Builtin.firstCells]
 ·simp [Builtin.append_,run_underlying ht,sizeOf,typeInfo,hi,Builtin.lenOf,Builtin.firstCells,hnc,storeCells]
theorem step_append_src {P:Program} {ops:Array Oper} {o:Oper} {a:Act} {w:World} {K:Act→World→Prop} {Q:Exit→Act→World→Prop} {E:Prop}
  (hg:o.guard=none) (s x:Operand) (t:TypeId) (hop:o.op=Op.call {callee:=Callee.builtin Builtin.append,args:= #[s,x],argTypes:= #[t,t]})
  (base:Nat) (e:TypeId) (i:TypeInfo) (z:Value) (size bytes:Nat) (h1:P.underlying t=some (.slice e)) (h2:P.info? e=some i) (h3:i.zero=some z) (h4:i.size=size) (h5:i.bytes=bytes) (h6:z.cells.size=size) (h7:0<size)
  (v:Value) (n:Nat) (xs:List Value) (hs:a.eval s=v) (hown:w.ownsRow base e size v n xs)
  (u:Value) (m:Nat) (news:List Value) (hx:a.eval x=u) (hc:SrcC w u size m news) (h1c:∀u∈news,u.oneCell'=true)
  (b1:n+m≤maxLen) (b2:(n+m)*bytes≤140737488355328) (hbase:base≤w.heap.size)
  (hK:∀v' w',w'.ownsRow base e size v' (n+m) (xs++news)→w.grownBy w' v.ownBlock→NewRow w v v'→K (a.put o.dst v') w'):
  if Region.wanted o (yielded ops a.tmps)=true then Oper.wp P o a w K Q else E:=by
 obtain⟨hn,au,c,rfl,hc⟩:=hc
 have some_case:∀ad:Addr,au=some ad→(∀j u,news[j]? =some u→w.cell? (ad.add j)=some u)→(if Region.wanted o (yielded ops a.tmps)=true then Oper.wp P o a w K Q else E):=fun ad e1 e2=>by
  subst e1
  exact step_append_own2 hg s x t hop base e i z size bytes h1 h2 h3 h4 h5 h6 h7 v n xs hs hown ad m c news hx hn e2 h1c b1 b2 hbase hK
 rcases hc with rfl|⟨b,off,rfl,hlt,hcc⟩
 ·have hnil:news= []:=List.eq_nil_of_length_eq_zero (by simpa using hn)
  subst hnil
  cases au with
  |some ad=>exact some_case ad rfl (fun j u hu=>by simp at hu)
  |none=>
   have hw:Region.wanted o (yielded ops a.tmps)=true:=by simp [Region.wanted,hg]
   rw [if_pos hw]
   have hr:=run_append_none_any (P:=P) (w:=w) base t o.type e i size h1 h2 v n c xs hown
   unfold Oper.wp execOp
   simp only [hop,resolve,invoke,builtin,Sem.run_bind,Sem.run_pure,Result.andThen_ok,List.map_toArray,List.map_cons,List.map_nil,hs,hx,hr]
   exact hK v w (by simpa using hown) (grown_refl w _) (.inl rfl)
 ·refine some_case ⟨b,off,none⟩ rfl (fun j u hu=> ?_)
  have hj:j<m*size:=by rw [←hn];exact(List.getElem?_eq_some_iff.1 hu).1
  rw [Addr.add_lit,hcc j hj]
  exact hu
theorem wpList_append_src {P:Program} {ops:Array Oper} {rest:List Oper} {o:Oper} {a:Act} {Q:Exit→Act→World→Prop} (w:World) (hgd:o.guard=none) (s x:Operand) (t:TypeId)
  (ho:o.op= .call {callee:= .builtin .append,args:= #[s,x],argTypes:= #[t,t]})
  (base:Nat) (e:TypeId) (i:TypeInfo) (z:Value) (size bytes:Nat) (ht:P.underlying t=some (.slice e)) (hi:P.info? e=some i) (hz:i.zero=some z)
  (hsize:i.size=size) (hby:i.bytes=bytes) (hzs:z.cells.size=size) (hsz:0<size)
  (v:Value) (n:Nat) (xs:List Value) (hs:a.eval s=v) (hown:w.ownsRow base e size v n xs)
  (u:Value) (m:Nat) (news:List Value) (hx:a.eval x=u) (hc:SrcC w u size m news) (h1:∀u∈news,u.oneCell'=true)
  (h63:n+m≤maxLen) (hbytes:(n+m)*bytes≤140737488355328) (hbase:base≤w.heap.size)
  (h:∀v' w',w'.ownsRow base e size v' (n+m) (xs++news)→w.grownBy w' v.ownBlock→NewRow w v v'→wpList P ops Q rest (a.put o.dst v') w'):wpList P ops Q (o::rest) a w:=by
 obtain⟨hn,au,c,rfl,hc⟩:=hc
 have some_case:∀ad:Addr,au=some ad→(∀j u,news[j]? =some u→w.cell? (ad.add j)=some u)→wpList P ops Q (o::rest) a w:=fun ad e1 e2=>by
  subst e1
  exact wpList_append_own2 w hgd s x t ho base e i z size bytes ht hi hz hsize hby hzs hsz v n xs hs hown ad m c news hx hn e2 h1 h63 hbytes hbase h
 rcases hc with rfl|⟨b,off,rfl,hlt,hcc⟩
 ·have hnil:news= []:=List.eq_nil_of_length_eq_zero (by simpa using hn)
  subst hnil
  cases au with
  |some ad=>exact some_case ad rfl (fun j u hu=>by simp at hu)
  |none=>
   refine wpList_plain hgd fun _ hK=> ?_
   have hr:=run_append_none_any (P:=P) (w:=w) base t o.type e i size ht hi v n c xs hown
   unfold Oper.wp execOp
   simp only [ho,resolve,invoke,builtin,Sem.run_bind,Sem.run_pure,Result.andThen_ok,List.map_toArray,List.map_cons,List.map_nil,hs,hx,hr]
   exact hK _ _ (h v w (by simpa using hown) (grown_refl w _) (.inl rfl))
 ·refine some_case ⟨b,off,none⟩ rfl (fun j u hu=> ?_)
  have hj:j<m*size:=by rw [←hn];exact(List.getElem?_eq_some_iff.1 hu).1
  rw [Addr.add_lit,hcc j hj]
  exact hu
theorem cellsL_ones (l:List Ev):∀u∈cellsL l,u.oneCell'=true:=fun u hu=>by obtain⟨i,rfl⟩:=evs_plain l u hu;rfl
theorem cellsX_ones (l:List Em):∀u∈cellsX l,u.oneCell'=true:=fun u hu=>by obtain⟨i,rfl⟩:=ems_plain l u hu;rfl
set_option maxRecDepth 100000 in
set_option maxHeartbeats 2000000 in
theorem l1own_src (x:Value) (l:List Ev) (w:World) (hl:l.length≤1048577) (h:SrcC w x 7 l.length (cellsL l)):
  Calls Tryz.prog 102 #[x] w fun e w'=>∃y,e= .returned y∧w'.ownsRow w.heap.size 110 7 y l.length (cellsL l)∧Below w.heap.size w w':=by
 obtain⟨i0,hi,hz0,hz1,hz2⟩:=info_parts info25
 have hb:Below w.heap.size w (w.alloc (.cells #[] 110)):=(Below.refl _ w).alloc (Nat.le_refl _) _
 have HS:Hid (SrcC (w.alloc (.cells #[] 110)) x 7 l.length (cellsL l)):=h.below hb
 have HB:Hid (Below w.heap.size w (w.alloc (.cells #[] 110))):=hb
 obtain⟨_,a,c,rfl,_⟩:=h
 clear hb
 go_enter Tryz.func102,Tryz.ntmps102
 go_wp2_with (at_builtin;refine wpList_append_src _ rfl _ _ 34 rfl w.heap.size 110 i0 _ 7 56 Tryz.underlying34 hi hz0 hz1 hz2 rfl (by decide) (.slice (some ⟨w.heap.size,0,none⟩) 0 0) 0 [] rfl (row_empty w) (.slice a l.length c) l.length (cellsL l) rfl HS.out (cellsL_ones l) (by unfold maxLen;omega) (by omega) (by simp) ?_;intro v' w' hown hgrow hnew)
 go_ret
 rw [Nat.zero_add,List.nil_append]at hown
 exact⟨_,rfl,hown,HB.out.grown hgrow (by simp) (fun k e=>by cases e;exact Nat.le_refl _)⟩
def nthV (cs:List Value) (j:Nat):Value:=cs.getD j (.int .i64 0)
theorem infoPX:(Tryz.prog.info? 113).map (fun i=>(i.zero,i.size,i.bytes))=some (some (.agg #[.int .i64 0,.int .i64 0,.int .i64 0]),3,24):=by kernel_rfl
theorem infoPQ:(Tryz.prog.info? 115).map (fun i=>(i.zero,i.size,i.bytes))=some (some (.agg #[.int .i64 0,.int .i64 0,.int .i64 0,.int .i64 0,.int .i64 0,.int .i64 0,.int .i64 0,.slice none 0 0,.int .i64 0,.int .i64 0,.slice none 0 0,.slice none 0 0]),12,144):=by kernel_rfl
def pastL (q:Ps) (v7 v10 v11:Value):List Value:= [.int .i64 q.e.t,.int .i64 q.e.s,.int .i64 q.e.q,.int .i64 q.e.d,.int .i64 q.e.k,.int .i64 q.e.v,.int .i64 q.e.g,v7,.int .i64 q.b.q,.int .i64 q.b.d,v10,v11]
end Go.Proofs.YtmobiieoecjmdaaGreat

/- A drawn region whose last store need not keep what the others keep: an operation that the store waits for (by a chain) may be taken first in every world that meets S, where S is shown behind every operation but that store. -/
namespace Go.Proofs.YtmobiieoecjmdaaGreat
open Go
section
variable {P : Program} {ops : Array Oper} {Q : Exit → Act → World → Prop} {md : Region.Mode} {S : World → Prop} {z : Nat}
def wpAnyZ (P:Program) (md:Region.Mode) (ops:Array Oper) (Q:Exit→Act→World→Prop) (S:World→Prop) (z:Nat):Nat→Array Bool→Act→World→Prop
 |0,listed,a,w=>Region.ready md ops listed= []∧Q .normal a w
 |fuel+1,listed,a,w=>
  (Region.ready md ops listed= []→Q .normal a w)∧
  ∀i∈Region.ready md ops listed,wpOp P ops Q i (fun a' w'=>(i≠z→S w')∧wpAnyZ P md ops Q S z fuel (listed.setIfInBounds i true) a' w') a w
theorem wpAny_of_z:∀(fuel:Nat) (listed:Array Bool) (a:Act) (w:World),wpAnyZ P md ops Q S z fuel listed a w→wpAny P md ops Q fuel listed a w
 |0,_,_,_,h=>h
 |fuel+1,_,_,_,h=>⟨h.1,fun i hi=>wpOp_mono (fun a' w' h'=>wpAny_of_z fuel _ a' w' h'.2) (h.2 i hi)⟩
def chainB (md:Region.Mode) (ops:Array Oper) (i:Nat):Nat→List Nat→Bool
 |z,[]=>z==i
 |z,p::ps=>((ops[z]?).map fun o=>o.after.any fun e=>Region.binds md e&&e.on==p).getD false&&chainB md ops i p ps
theorem chain_wait {i p:Nat} {ps:List Nat} {listed:Array Bool} (h:chainB md ops i z (p::ps)=true) (hp:listed.getD p true=false):z ∉ Region.ready md ops listed:=by
 intro hz
 obtain⟨_,o,ho,hall⟩:=mem_ready.1 hz
 simp only [chainB,ho,Option.map_some,Option.getD_some,Bool.and_eq_true]at h
 obtain⟨e,he,h1⟩:∃e,e∈o.after∧(Region.binds md e=true∧e.on=p):=by
  have h0:=h.1
  simp only [Array.any_eq_true,Bool.and_eq_true,beq_iff_eq]at h0
  obtain⟨k,hk,h1⟩:=h0
  exact⟨o.after[k],Array.getElem_mem hk,h1⟩
 have h2:=hall e he h1.1
 rw [h1.2]at h2
 rcases Nat.lt_or_ge p listed.size with h'|h'
 ·simp [h']at hp h2
  rw [hp]at h2
  cases h2
 ·simp [Array.getElem?_eq_none h']at h2
theorem chain_mid {i:Nat} {listed:Array Bool}:∀(ps:List Nat) (z:Nat),chainB md ops i z ps=true→(∀p∈ps,listed.getD p true=false)→ ∀p∈ps,p≠i→p ∉ Region.ready md ops listed
 | [],_,_,_,p,hp,_=>by cases hp
 |q::ps,z,hc,hu,p,hp,hpi=>by
  have hc':chainB md ops i q ps=true:=by
   simp only [chainB,Bool.and_eq_true]at hc
   exact hc.2
  rcases List.mem_cons.1 hp with rfl|hp
  ·cases ps with
   |nil=>simp only [chainB,beq_iff_eq]at hc';exact absurd hc' hpi
   |cons r rs=>exact chain_wait hc' (hu r (List.mem_cons_of_mem _ List.mem_cons_self))
  ·exact chain_mid ps q hc' (fun p hp=>hu p (List.mem_cons_of_mem _ hp)) p hp hpi
theorem wpAnyZ_first {i:Nat} {oi:Oper} {v:Value} {q:Nat} {ps:List Nat} (hi:ops[i]? =some oi) (hsel:∀(j:Nat) (o:Oper) cs b,ops[j]? =some o→o.op≠.select cs b)
  (hQ:∀c a w,Q (.panic c) (a.put oi.dst v) w→Q (.panic c) a w) (hc:chainB md ops i z (q::ps)=true):
  ∀(fuel:Nat) (listed:Array Bool) (a:Act) (w:World),
   (∀p∈q::ps,listed.getD p true=false)→
   (∀j oj,ops[j]? =some oj→j≠i→listed.getD j true=false→(∀e∈oj.after,Region.binds md e=true→e.on≠i)→oi.apart ops oj=true)→
   i∈Region.ready md ops listed→YieldsIf P ops S oi v a→S w→
   wpAnyZ P md ops Q S z fuel (listed.setIfInBounds i true) (a.put oi.dst v) w→wpAnyZ P md ops Q S z (fuel+1) listed a w:=by
 intro fuel
 induction fuel with
 |zero=>
  intro listed a w hu _ hr hy hS H
  refine⟨fun h=>(by rw [h]at hr;cases hr),fun j hj=> ?_⟩
  by_cases hji:j=i
  ·subst hji;exact hy.wpOp hi hS ⟨fun _=>hS,H⟩
  ·have:=ready_mono hj hji
   rw [H.1]at this
   cases this
 |succ fuel ih=>
  intro listed a w hu hfree hr hy hS H
  refine⟨fun h=>(by rw [h]at hr;cases hr),fun j hj=> ?_⟩
  by_cases hji:j=i
  ·subst hji;exact hy.wpOp hi hS ⟨fun _=>hS,H⟩
  ·have hjz:j≠z:=fun e=>chain_wait hc (hu q List.mem_cons_self) (e▸hj)
   have h1:=H.2 j (ready_mono hj hji)
   obtain⟨hjun,oj,hoj,hall⟩:=mem_ready.1 hj
   have hnot:∀e∈oj.after,Region.binds md e=true→e.on≠i:=fun e he hb heq=>by
    have h1:=hall e he hb
    have h0:=(mem_ready.1 hr).1
    rw [heq]at h1
    rcases Nat.lt_or_ge i listed.size with h'|h'
    ·simp [h']at h0 h1;rw [h0]at h1;cases h1
    ·simp [Array.getElem?_eq_none h']at h1
   have h2:=wpOp_putIf hoj (hfree j oj hoj hji hjun hnot) (fun cs b=>hsel i oi cs b hi) (fun cs b=>hsel j oj cs b hoj) hQ hy h1
   have hfree':∀k ok,ops[k]? =some ok→k≠i→(listed.setIfInBounds j true).getD k true=false→
     (∀e∈ok.after,Region.binds md e=true→e.on≠i)→oi.apart ops ok=true:=fun k ok hk hki hun hno=>by
    refine hfree k ok hk hki ?_ hno
    by_cases hjk:j=k
    ·subst hjk;exact hjun
    ·rw [getD_set_ne true hjk]at hun;exact hun
   have hu':∀p∈q::ps,(listed.setIfInBounds j true).getD p true=false:=fun p hp=>by
    have hjp:j≠p:=fun e=>chain_mid (q::ps) z hc hu p hp (fun e'=>hji (e.trans e')) (e▸hj)
    rw [getD_set_ne true hjp]
    exact hu p hp
   refine wpOp_mono (fun a' w' h3=>⟨fun _=>h3.2.1 hjz,ih (listed.setIfInBounds j true) a' w' hu' hfree' (ready_mono hr (Ne.symm hji)) h3.1 (h3.2.1 hjz) ?_⟩) h2
   rw [Array.setIfInBounds_comm _ _ hji]
   exact h3.2.2
theorem wpAnyZ_take {i:Nat} {oi:Oper} {v:Value} {fuel:Nat} {listed:Array Bool} {a:Act} {w:World} (q:Nat) (ps:List Nat) (hi:ops[i]? =some oi)
  (hs:Region.noSelect ops=true) (hf:Region.free md ops listed i=true) (hr:(Region.ready md ops listed).contains i=true)
  (hc:chainB md ops i z (q::ps)=true) (hu:(q::ps).all (fun p=> !listed.getD p true)=true)
  (hQ:∀c a w,Q (.panic c) (a.put oi.dst v) w→Q (.panic c) a w) (hy:YieldsIf P ops S oi v a) (hS:S w)
  (h:wpAnyZ P md ops Q S z fuel (listed.setIfInBounds i true) (a.put oi.dst v) w):wpAnyZ P md ops Q S z (fuel+1) listed a w:=
 wpAnyZ_first hi (Region.noSelect_spec hs) hQ hc fuel listed a w (fun p hp=>by have:=List.all_eq_true.1 hu p hp;simpa using this) (Region.free_spec hi hf) (by simpa using hr) hy hS h
def AllReadyZ (P:Program) (md:Region.Mode) (ops:Array Oper) (Q:Exit→Act→World→Prop) (S:World→Prop) (z fuel:Nat) (listed:Array Bool) (a:Act) (w:World) (rs:List Nat):Prop:=
 ∀i∈rs,wpOp P ops Q i (fun a' w'=>(i≠z→S w')∧wpAnyZ P md ops Q S z fuel (listed.setIfInBounds i true) a' w') a w
theorem AllReadyZ.nil {fuel:Nat} {listed:Array Bool} {a:Act} {w:World}:AllReadyZ P md ops Q S z fuel listed a w []:=fun _ h=>by cases h
theorem AllReadyZ.cons {fuel:Nat} {listed:Array Bool} {a:Act} {w:World} {i:Nat} {o:Oper} {rs:List Nat} (ho:ops[i]? =some o)
  (h:∀K':Act→World→Prop,Shut (∀a w,S w→(S w→wpAnyZ P md ops Q S z fuel (listed.setIfInBounds i true) a w)→K' a w)→if Region.wanted o (yielded ops a.tmps)=true then Oper.wp P o a w K' Q else K' (a.put o.dst undef) w)
  (hs:AllReadyZ P md ops Q S z fuel listed a w rs):AllReadyZ P md ops Q S z fuel listed a w (i::rs):=fun j hj=>by
 rcases List.mem_cons.1 hj with rfl|hj
 ·exact wpOp_step ho (fun K' hK=>h K' (fun a w hS hW=>hK a w ⟨fun _=>hS,hW hS⟩))
 ·exact hs j hj
theorem AllReadyZ.last {fuel:Nat} {listed:Array Bool} {a:Act} {w:World} {o:Oper} (ho:ops[z]? =some o)
  (h:∀K':Act→World→Prop,Shut (∀a w,wpAnyZ P md ops Q S z fuel (listed.setIfInBounds z true) a w→K' a w)→if Region.wanted o (yielded ops a.tmps)=true then Oper.wp P o a w K' Q else K' (a.put o.dst undef) w):
  AllReadyZ P md ops Q S z fuel listed a w [z]:=fun j hj=>by
 rcases List.mem_cons.1 hj with rfl|hj
 ·exact wpOp_step ho (fun K' hK=>h K' (fun a w hW=>hK a w ⟨fun e=>absurd rfl e,hW⟩))
 ·cases hj
theorem wpAnyZ_ready {rs:List Nat} {fuel:Nat} {listed:Array Bool} {a:Act} {w:World} (hr:Region.ready md ops listed=rs) (hne:rs≠ [])
  (h:AllReadyZ P md ops Q S z fuel listed a w rs):wpAnyZ P md ops Q S z (fuel+1) listed a w:=⟨fun h0=>absurd (hr▸h0) hne,hr▸h⟩
theorem wpAnyZ_done {listed:Array Bool} {a:Act} {w:World} (hr:Region.ready md ops listed= []) (h:Q .normal a w):
  ∀fuel,wpAnyZ P md ops Q S z fuel listed a w
 |0=>⟨hr,h⟩
 |_+1=>⟨fun _=>h,by rw [hr];simp⟩
theorem wp_region_z {id:Nat} {a:Act} {w:World} (z:Nat) (S:World→Prop) (hm:P.follows .mixedOrders=true) (hS:S w.drew)
  (h:S w.drew→wpAnyZ P .any ops Q S z ops.size (Array.replicate ops.size false) a w.drew):(Code.region id ops true).wp P Q a w:=
 wp_region_any hm (wpAny_of_z _ _ _ _ (h hS))
end
end Go.Proofs.YtmobiieoecjmdaaGreat

/- The specification's copy of what was done; rows of data as sources of an append, and cut. -/
namespace Go.Proofs.YtmobiieoecjmdaaGreat
open Go.RowKit
theorem IsD.cells {w:World} {x:Value} {c n:Nat} {f:Nat→Dat} (h:IsD w x (.row c n f)):∃cs,SrcC w x c n cs∧ ∀j,j<n*c→IsD w (nthV cs j) (f j):=by
 obtain⟨a,cap,rfl,h1,h2,h⟩:=IsD.parts (c:=c) (n:=n) h
 rcases h with rfl|⟨b,off,rfl,hb,hc⟩
 ·exact⟨[],⟨by simp,a,cap,rfl,.inl rfl⟩,fun j hj=>by omega⟩
 ·refine⟨(List.range (n*c)).map (fun j=>((w.cell? ⟨b,off+j,none⟩).getD (.int .i64 0))),⟨by simp,some ⟨b,off,none⟩,cap,rfl,.inr ⟨b,off,rfl,hb,fun j hj=> ?_⟩⟩,fun j hj=> ?_⟩
  ·obtain⟨u,hu,_⟩:=hc j hj
   simp [hj,hu]
  ·obtain⟨u,hu,hd⟩:=hc j hj
   have:nthV ((List.range (n*c)).map (fun j=>((w.cell? ⟨b,off+j,none⟩).getD (.int .i64 0)))) j=u:=by
    unfold nthV
    simp [hj,hu]
   rw [this]
   exact hd
theorem psAt_take {l:List Ps} {k j:Nat} (h:j<k):psAt (l.take k) j=psAt l j:=by
 unfold psAt
 rw [List.getD_eq_getElem?_getD,List.getD_eq_getElem?_getD,List.getElem?_take_of_lt h]
theorem pasts_take {w:World} {a:Option Addr} {cap k:Nat} {l:List Ps} (h:IsD w (.slice a l.length cap) (pastsD l)) (hk:k≤l.length):IsD w (sliced a 0 k cap 12) (pastsD (l.take k)):=by
 obtain⟨a',cap',he,h1,h2,h⟩:=IsD.parts (c:=12) (n:=l.length) h
 obtain⟨rfl,rfl⟩:a=a'∧cap=cap':=by simpa using he
 unfold sliced pastsD
 rw [List.length_take,Nat.min_eq_left hk]
 refine IsD.of_parts (by omega) (by omega) ?_
 by_cases hn:k=0
 ·exact .inl (by omega)
 ·refine .inr ?_
  obtain⟨b,off,rfl,hb,hc⟩:=h.resolve_left (by omega)
  rw [if_neg (by omega)]
  refine⟨b,off,by simp [Addr.add_lit],hb,fun j hj=> ?_⟩
  obtain⟨u,hu,hd⟩:=hc j (by omega)
  refine⟨u,hu,?_⟩
  have e:pastsD_f (l.take k) j=pastsD_f l j:=by
   show(psAt (l.take k) (j/12)).cell (j%12)=_
   rw [psAt_take (by omega)]
   rfl
  rw [e]
  exact hd
theorem run_cutTo (a:Option Addr) (n cap k:Nat) (hk:k≤cap) (w:World):(Instr.sliceAt 95 (.slice a n cap) none (some (.int .i64 (k:Int))) none).run Tryz.prog w= .ok (sliced a 0 k cap 12) w:=by
 obtain⟨i0,hi,hz0,hz1,hz2⟩:=info_parts infoPQ
 have hu:Tryz.prog.underlying 95=some (.slice (Tryz.prog.elem 95)):=by kernel_rfl
 have he:Tryz.prog.elem 95=115:=by kernel_rfl
 rw [run_sliceAt_slice (h:=hu),run_slice_h (ht:=hu) (h0:=by omega) (h2:=by omega),he]
 simp [sizeOf,typeInfo,hi,hz1]
end Go.Proofs.YtmobiieoecjmdaaGreat

