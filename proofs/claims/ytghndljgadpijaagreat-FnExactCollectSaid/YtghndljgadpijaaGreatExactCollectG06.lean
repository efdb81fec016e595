/- TPsF, PLib, PApp, PGrow, PPst, RegZ, POwS, RegI, OwN -/
import Derived.Test.YtghndljgadpijaaGreatExactCollectG01
import Derived.Test.YtghndljgadpijaaGreatExactCollectG04
import Derived.Test.YtghndljgadpijaaGreatExactCollectG05
import Derived.Test.YtghndljgadpijaaGreatExactCollectG03
import Derived.Laws.OwnMore
import Derived.WalkSmall
import Derived.Deep.Cut
import Derived.Deep.CutBlock
import Derived.Deep.RegionHeld3
import Derived.ArgAppend
import Derived.Test.YtghndljgadpijaaGreatRows
import Derived.OrdersHeld
import Derived.Deep.RegionHeld
/- heldPastS: the marks are found again. -/
namespace Go.Proofs.YtghndljgadpijaaGreat
open Go.RowKit
theorem yxi {p:Prop} (h:p):Hid p:=h
set_option maxRecDepth 100000 in
set_option maxHeartbeats 8000000 in
theorem zmj {F:Nat→Prop} {x:Value} {l:List Ps} {w:World} (z:Int) (hn:(yw3 l).wt≤1048577) (hz0:0≤z) (hz1:z+((yw3 l).cnt:Int)≤1073741824) (h:OwnD w F x ((yw3 l).mark z)):
    Calls Tryz.prog 145 #[x,.int .i64 z] w fun e w'=>e= .returned (.int .i64 (z+((yw3 l).cnt:Int)))∧Below w.heap.size w w':=by
  obtain⟨a,cap,rfl,h2,ha⟩:=OwnD.mslice (c:=12) (n:=l.length) h
  have HR0:=yxi h
  have HS:=yxi hn
  have HZ:=yxi hz1
  have hl2:l.length≤1048577:=by rw [yxh]at hn;omega
  clear h hn hz1 h2
  go_enter Tryz.func145,Tryz.ntmps145
  go_wp2
  go_loopw [5,1] (fun i y wr=>∃k:Nat,k≤l.length∧i= .int .i64 k∧y= .int .i64 (z+(sumC (ydq l) (k*12):Int))∧Below w.heap.size w wr) (fun i _ _=>l.length-(intOf i).toNat)
  case atStart=>exact⟨0,Nat.zero_le _,rfl,by simp [sumC,sumL],Below.refl _ _⟩
  case round=>
    obtain⟨k,hk,rfl,rfl,hB⟩:=hrel
    have HB:=yxi hB
    clear hB
    by_cases hlt:k<l.length
    · obtain⟨g,rfl⟩:=ha.resolve_left (by omega)
      have HR:=yxi (HR0.out.under HB.out)
      have hwt:(psAt l k).wt≤1048577:=Nat.le_trans (Ps.wt_le hlt) HS.out
      unfold Ps.wt at hwt
      simp only [yy3,yx0,ywf]at hwt
      have E0:=yxi (ywn l k (r:=0) (by omega))
      have E1:=yxi (ywn l k (r:=1) (by omega))
      have E2:=yxi (ywn l k (r:=2) (by omega))
      have E3:=yxi (ywn l k (r:=3) (by omega))
      have E4:=yxi (ywn l k (r:=4) (by omega))
      have E5:=yxi (ywn l k (r:=5) (by omega))
      have E6:=yxi (ywn l k (r:=6) (by omega))
      have E7:=yxi (ywn l k (r:=7) (by omega))
      have E8:=yxi (ywn l k (r:=8) (by omega))
      have E9:=yxi (ywn l k (r:=9) (by omega))
      have E10:=yxi (ywn l k (r:=10) (by omega))
      have E11:=yxi (ywn l k (r:=11) (by omega))
      have C0:Hid (sumC (ydq l) (k*12)≤(yw3 l).cnt):=ywa (by omega)
      have S1:Hid (sumC (ydq l) (k*12+1)=sumC (ydq l) (k*12)+(Dat.val (.int .i64 (psAt l k).e.t)).cnt):=by
        have e:=yvk (ydq l) (k*12+0)
        rw [E0.out]at e
        exact e
      have C1:Hid (sumC (ydq l) (k*12+1)≤(yw3 l).cnt):=ywa (by omega)
      have S2:Hid (sumC (ydq l) (k*12+2)=sumC (ydq l) (k*12+1)+(Dat.val (.int .i64 (psAt l k).e.s)).cnt):=by
        have e:=yvk (ydq l) (k*12+1)
        rw [E1.out]at e
        exact e
      have C2:Hid (sumC (ydq l) (k*12+2)≤(yw3 l).cnt):=ywa (by omega)
      have S3:Hid (sumC (ydq l) (k*12+3)=sumC (ydq l) (k*12+2)+(Dat.val (.int .i64 (psAt l k).e.q)).cnt):=by
        have e:=yvk (ydq l) (k*12+2)
        rw [E2.out]at e
        exact e
      have C3:Hid (sumC (ydq l) (k*12+3)≤(yw3 l).cnt):=ywa (by omega)
      have S4:Hid (sumC (ydq l) (k*12+4)=sumC (ydq l) (k*12+3)+(Dat.val (.int .i64 (psAt l k).e.d)).cnt):=by
        have e:=yvk (ydq l) (k*12+3)
        rw [E3.out]at e
        exact e
      have C4:Hid (sumC (ydq l) (k*12+4)≤(yw3 l).cnt):=ywa (by omega)
      have S5:Hid (sumC (ydq l) (k*12+5)=sumC (ydq l) (k*12+4)+(Dat.val (.int .i64 (psAt l k).e.k)).cnt):=by
        have e:=yvk (ydq l) (k*12+4)
        rw [E4.out]at e
        exact e
      have C5:Hid (sumC (ydq l) (k*12+5)≤(yw3 l).cnt):=ywa (by omega)
      have S6:Hid (sumC (ydq l) (k*12+6)=sumC (ydq l) (k*12+5)+(Dat.val (.int .i64 (psAt l k).e.v)).cnt):=by
        have e:=yvk (ydq l) (k*12+5)
        rw [E5.out]at e
        exact e
      have C6:Hid (sumC (ydq l) (k*12+6)≤(yw3 l).cnt):=ywa (by omega)
      have S7:Hid (sumC (ydq l) (k*12+7)=sumC (ydq l) (k*12+6)+(Dat.val (.int .i64 (psAt l k).e.g)).cnt):=by
        have e:=yvk (ydq l) (k*12+6)
        rw [E6.out]at e
        exact e
      have C7:Hid (sumC (ydq l) (k*12+7)≤(yw3 l).cnt):=ywa (by omega)
      have S8:Hid (sumC (ydq l) (k*12+8)=sumC (ydq l) (k*12+7)+(ywr (psAt l k).b.r).cnt):=by
        have e:=yvk (ydq l) (k*12+7)
        rw [E7.out]at e
        exact e
      have C8:Hid (sumC (ydq l) (k*12+8)≤(yw3 l).cnt):=ywa (by omega)
      have S9:Hid (sumC (ydq l) (k*12+9)=sumC (ydq l) (k*12+8)+(Dat.val (.int .i64 (psAt l k).b.q)).cnt):=by
        have e:=yvk (ydq l) (k*12+8)
        rw [E8.out]at e
        exact e
      have C9:Hid (sumC (ydq l) (k*12+9)≤(yw3 l).cnt):=ywa (by omega)
      have S10:Hid (sumC (ydq l) (k*12+10)=sumC (ydq l) (k*12+9)+(Dat.val (.int .i64 (psAt l k).b.d)).cnt):=by
        have e:=yvk (ydq l) (k*12+9)
        rw [E9.out]at e
        exact e
      have C10:Hid (sumC (ydq l) (k*12+10)≤(yw3 l).cnt):=ywa (by omega)
      have S11:Hid (sumC (ydq l) (k*12+11)=sumC (ydq l) (k*12+10)+(evsD (psAt l k).s).cnt):=by
        have e:=yvk (ydq l) (k*12+10)
        rw [E10.out]at e
        exact e
      have C11:Hid (sumC (ydq l) (k*12+11)≤(yw3 l).cnt):=ywa (by omega)
      have S12:Hid (sumC (ydq l) (k*12+12)=sumC (ydq l) (k*12+11)+(emsD (psAt l k).x).cnt):=by
        have e:=yvk (ydq l) (k*12+11)
        rw [E11.out]at e
        exact e
      have C12:Hid (sumC (ydq l) (k*12+12)≤(yw3 l).cnt):=ywa (by omega)
      obtain⟨y,hy⟩:∃y:Int,y=z+(sumC (ydq l) (k*12):Int):=⟨_,rfl⟩
      have HY0:=yxi hy
      have y0:0≤y:=by omega
      rw [←hy]
      clear hy
      have g0:wr.cell? ⟨g,k*12,none⟩=some (.int .i64 y):=OwnD.marked_val (c:=12) (n:=l.length) (f:=(ydq l)) HR.out (j:=k*12) (by omega) E0.out (by
        show _=Value.int .i64 (z+(sumC (ydq l) (k*12):Int))
        rw [show y=z+(sumC (ydq l) (k*12):Int)from by(have e:=HY0.out;simp only [Dat.cnt]at*;omega)])
      have g1:wr.cell? ⟨g,k*12+1,none⟩=some (.int .i64 (y+1)):=OwnD.marked_val (c:=12) (n:=l.length) (f:=(ydq l)) HR.out (j:=k*12+1) (by omega) E1.out (by
        show _=Value.int .i64 (z+(sumC (ydq l) (k*12+1):Int))
        rw [show y+1=z+(sumC (ydq l) (k*12+1):Int)from by(have e:=HY0.out;have e1:=S1.out;simp only [Dat.cnt]at*;omega)])
      have g2:wr.cell? ⟨g,k*12+2,none⟩=some (.int .i64 (y+1+1)):=OwnD.marked_val (c:=12) (n:=l.length) (f:=(ydq l)) HR.out (j:=k*12+2) (by omega) E2.out (by
        show _=Value.int .i64 (z+(sumC (ydq l) (k*12+2):Int))
        rw [show y+1+1=z+(sumC (ydq l) (k*12+2):Int)from by(have e:=HY0.out;have e1:=S1.out;have e2:=S2.out;simp only [Dat.cnt]at*;omega)])
      have g3:wr.cell? ⟨g,k*12+3,none⟩=some (.int .i64 (y+1+1+1)):=OwnD.marked_val (c:=12) (n:=l.length) (f:=(ydq l)) HR.out (j:=k*12+3) (by omega) E3.out (by
        show _=Value.int .i64 (z+(sumC (ydq l) (k*12+3):Int))
        rw [show y+1+1+1=z+(sumC (ydq l) (k*12+3):Int)from by(have e:=HY0.out;have e1:=S1.out;have e2:=S2.out;have e3:=S3.out;simp only [Dat.cnt]at*;omega)])
      have g4:wr.cell? ⟨g,k*12+4,none⟩=some (.int .i64 (y+1+1+1+1)):=OwnD.marked_val (c:=12) (n:=l.length) (f:=(ydq l)) HR.out (j:=k*12+4) (by omega) E4.out (by
        show _=Value.int .i64 (z+(sumC (ydq l) (k*12+4):Int))
        rw [show y+1+1+1+1=z+(sumC (ydq l) (k*12+4):Int)from by(have e:=HY0.out;have e1:=S1.out;have e2:=S2.out;have e3:=S3.out;have e4:=S4.out;simp only [Dat.cnt]at*;omega)])
      have g5:wr.cell? ⟨g,k*12+5,none⟩=some (.int .i64 (y+1+1+1+1+1)):=OwnD.marked_val (c:=12) (n:=l.length) (f:=(ydq l)) HR.out (j:=k*12+5) (by omega) E5.out (by
        show _=Value.int .i64 (z+(sumC (ydq l) (k*12+5):Int))
        rw [show y+1+1+1+1+1=z+(sumC (ydq l) (k*12+5):Int)from by(have e:=HY0.out;have e1:=S1.out;have e2:=S2.out;have e3:=S3.out;have e4:=S4.out;have e5:=S5.out;simp only [Dat.cnt]at*;omega)])
      have g6:wr.cell? ⟨g,k*12+6,none⟩=some (.int .i64 (y+1+1+1+1+1+1)):=OwnD.marked_val (c:=12) (n:=l.length) (f:=(ydq l)) HR.out (j:=k*12+6) (by omega) E6.out (by
        show _=Value.int .i64 (z+(sumC (ydq l) (k*12+6):Int))
        rw [show y+1+1+1+1+1+1=z+(sumC (ydq l) (k*12+6):Int)from by(have e:=HY0.out;have e1:=S1.out;have e2:=S2.out;have e3:=S3.out;have e4:=S4.out;have e5:=S5.out;have e6:=S6.out;simp only [Dat.cnt]at*;omega)])
      obtain⟨u7,K7,g7,o7⟩:=OwnD.marked (c:=12) (n:=l.length) (f:=(ydq l)) HR.out (j:=k*12+7) (by omega)
      rw [E7.out]at o7
      have hq7:y+1+1+1+1+1+1+1=z+(sumC (ydq l) (k*12+7):Int):=by(have e:=HY0.out;have e1:=S1.out;have e2:=S2.out;have e3:=S3.out;have e4:=S4.out;have e5:=S5.out;have e6:=S6.out;have e7:=S7.out;simp only [Dat.cnt]at*;omega)
      have hb7:y+1+1+1+1+1+1+1≤1073741824:=by have:=HZ.out;have:=C7.out;omega
      rw [←hq7]at o7
      have O7:=yxi o7
      have Q7:=yxi hq7
      clear hq7 o7
      go_wp2_with fail
      clear g7 g6 g5 g4 g3 g2 g1 g0
      refine(zcz (F:=K7) (l:=(psAt l k).b.r) (y+1+1+1+1+1+1+1) (by omega) (by omega) (by omega) O7.out).mono ?_
      rintro e w8 ⟨rfl,hb⟩
      have HR8:=yxi (HR.out.under hb)
      have HB8:=trh HB hb
      clear hb
      obtain⟨y7,hy⟩:∃y7:Int,y7=y+1+1+1+1+1+1+1+((ywr (psAt l k).b.r).cnt:Int):=⟨_,rfl⟩
      have HY8:Hid (y7=z+(sumC (ydq l) (k*12+8):Int)):=by
        have h8:=S8.out
        have h9:=Q7.out
        show y7=_
        omega
      have y70:0≤y7:=by omega
      have y71:y7≤1073741824:=by have h7:=HZ.out;have h8:=C8.out;have h9:=HY8.out;omega
      have y72:¬(y7<0):=by omega
      rw [←hy]
      clear hy
      have g8:w8.cell? ⟨g,k*12+8,none⟩=some (.int .i64 y7):=OwnD.marked_val (c:=12) (n:=l.length) (f:=(ydq l)) HR8.out (j:=k*12+8) (by omega) E8.out (by
        show _=Value.int .i64 (z+(sumC (ydq l) (k*12+8):Int))
        rw [show y7=z+(sumC (ydq l) (k*12+8):Int)from by(have e:=HY8.out;simp only [Dat.cnt]at*;omega)])
      have g9:w8.cell? ⟨g,k*12+9,none⟩=some (.int .i64 (y7+1)):=OwnD.marked_val (c:=12) (n:=l.length) (f:=(ydq l)) HR8.out (j:=k*12+9) (by omega) E9.out (by
        show _=Value.int .i64 (z+(sumC (ydq l) (k*12+9):Int))
        rw [show y7+1=z+(sumC (ydq l) (k*12+9):Int)from by(have e:=HY8.out;have e9:=S9.out;simp only [Dat.cnt]at*;omega)])
      obtain⟨u10,K10,g10,o10⟩:=OwnD.marked (c:=12) (n:=l.length) (f:=(ydq l)) HR8.out (j:=k*12+10) (by omega)
      rw [E10.out]at o10
      have hq10:y7+1+1=z+(sumC (ydq l) (k*12+10):Int):=by(have e:=HY8.out;have e9:=S9.out;have e10:=S10.out;simp only [Dat.cnt]at*;omega)
      have hb10:y7+1+1≤1073741824:=by have:=HZ.out;have:=C10.out;omega
      rw [←hq10]at o10
      have O10:=yxi o10
      have Q10:=yxi hq10
      clear hq10 o10
      go_wp2_with fail
      clear g10 g9 g8
      refine(zgi (F:=K10) (l:=(psAt l k).s) (y7+1+1) (by omega) (by omega) (by omega) O10.out).mono ?_
      rintro e w11 ⟨rfl,hb⟩
      have HR11:=yxi (HR8.out.under hb)
      have HB11:=trh HB8 hb
      clear hb
      obtain⟨y10,hy⟩:∃y10:Int,y10=y7+1+1+((evsD (psAt l k).s).cnt:Int):=⟨_,rfl⟩
      have HY11:Hid (y10=z+(sumC (ydq l) (k*12+11):Int)):=by
        have h8:=S11.out
        have h9:=Q10.out
        show y10=_
        omega
      have y100:0≤y10:=by omega
      have y101:y10≤1073741824:=by have h7:=HZ.out;have h8:=C11.out;have h9:=HY11.out;omega
      have y102:¬(y10<0):=by omega
      rw [←hy]
      clear hy
      obtain⟨u11,K11,g11,o11⟩:=OwnD.marked (c:=12) (n:=l.length) (f:=(ydq l)) HR11.out (j:=k*12+11) (by omega)
      rw [E11.out]at o11
      have hq11:y10=z+(sumC (ydq l) (k*12+11):Int):=by(have e:=HY11.out;simp only [Dat.cnt]at*;omega)
      have hb11:y10≤1073741824:=by have:=HZ.out;have:=C11.out;omega
      rw [←hq11]at o11
      have O11:=yxi o11
      have Q11:=yxi hq11
      clear hq11 o11
      go_wp2_with fail
      clear g11
      refine(zkm (F:=K11) (l:=(psAt l k).x) (y10) (by omega) (by omega) (by omega) O11.out).mono ?_
      rintro e w12 ⟨rfl,hb⟩
      have HR12:=yxi (HR11.out.under hb)
      have HB12:=trh HB11 hb
      clear hb
      obtain⟨y11,hy⟩:∃y11:Int,y11=y10+((emsD (psAt l k).x).cnt:Int):=⟨_,rfl⟩
      have HY12:Hid (y11=z+(sumC (ydq l) (k*12+12):Int)):=by
        have h8:=S12.out
        have h9:=Q11.out
        show y11=_
        omega
      have y110:0≤y11:=by omega
      have y111:y11≤1073741824:=by have h7:=HZ.out;have h8:=C12.out;have h9:=HY12.out;omega
      have y112:¬(y11<0):=by omega
      rw [←hy]
      clear hy
      go_wp2
      go_roundw
      case rel=>
        refine⟨k+1,by omega,by go_num,?_,HB12.out⟩
        rw [show y11=z+(sumC (ydq l) ((k+1)*12):Int)from by rw [show(k+1)*12=k*12+12 from by omega];(have e:=HY12.out;simp only [Dat.cnt]at*;omega)]
      case measure=>simp [intOf];omega
    · go_wp2
      go_ret
      obtain rfl:k=l.length:=by omega
      exact⟨rfl,HB.out⟩
def zdc (w:World) (v v':Value):Prop:=v'.ownBlock=v.ownBlock∨ ∀k,v'.ownBlock=some k→w.heap.size≤k
theorem zbg {P:Program} (w:World) (base:Nat) (t ty e:TypeId) (i:TypeInfo) (z:Value) (size bytes:Nat) (ht:P.underlying t=some (.slice e)) (hi:P.info? e=some i) (hz:i.zero=some z) (hsize:i.size=size) (hby:i.bytes=bytes) (hzs:z.cells.size=size) (hsz:0<size)
    (v:Value) (n:Nat) (xs:List Value) (hown:w.ownsRow base e size v n xs) (ad:Addr) (m c:Nat) (news:List Value) (hl:news.length=m*size) (hnews:∀j u,news[j]? =some u→w.cell? (ad.add j)=some u) (h1:∀u∈news,u.oneCell'=true)
    (h63:n+m≤maxLen) (hbytes:(n+m)*bytes≤140737488355328) (hbase:base≤w.heap.size):
    ∃v' w',(Builtin.append_ #[t,t] ty #[v,.slice (some ad) m c]).run P w= .ok v' w'∧w'.ownsRow base e size v' (n+m) (xs++news)∧w.grownBy w' v.ownBlock∧zdc w v v':=by
  obtain⟨v',w',hr,h2,h3,_⟩:=run_append_own (P:=P) w base t ty e i z size bytes ht hi hz hsize hby hzs hsz v n xs hown ad m c news hl hnews h1 h63 hbytes hbase
  refine⟨v',w',hr,h2,h3,?_⟩
  have hown':=hown
  obtain⟨_,⟨rfl,h0⟩|⟨g,cap,cur,rfl,hg,hc,hnc,hcm,hcs,htk⟩⟩:=hown
  · right
    obtain⟨v2,w2,hr2,r1,_⟩:=run_append_own (P:=P) w w.heap.size t ty e i z size bytes ht hi hz hsize hby hzs hsz (.slice none 0 0) n xs ⟨hown'.1,.inl ⟨rfl,h0⟩⟩ ad m c news hl hnews h1 h63 hbytes (Nat.le_refl _)
    rw [hr]at hr2
    cases hr2
    exact fun k e=>(World.ownsRow.lt r1 k e).1
  · by_cases hroom:n+m≤cap
    · left
      obtain⟨w2,hr2,_⟩:=run_append_fits (P:=P) w base t ty e i size ht hi hsize g n cap xs hown' ad m c news hl hnews h1 hroom
      rw [hr]at hr2
      cases hr2
      rfl
    · right
      obtain⟨v2,w2,hr2,r1,_⟩:=run_append_arg_grows (P:=P) w t ty e i z size bytes ht hi hz hsize hby hzs hsz ⟨g,0,none⟩ n cap xs hown'.1 (World.ownsRow.cells hown' rfl) ad m c news hl hnews (by omega) h63 hbytes
      rw [hr]at hr2
      cases hr2
      exact fun k e=>(World.ownsRow.lt r1 k e).1
theorem yym {P:Program} {ops:Array Oper} {o:Oper} {a:Act} {w:World} {K:Act→World→Prop} {Q:Exit→Act→World→Prop} {E:Prop}
    (hg:o.guard=none) (s x:Operand) (t:TypeId) (hop:o.op=Op.call {callee:=Callee.builtin Builtin.append,args:= #[s,x],argTypes:= #[t,t]})
    (base:Nat) (e:TypeId) (i:TypeInfo) (z:Value) (size bytes:Nat) (h1:P.underlying t=some (.slice e)) (h2:P.info? e=some i) (h3:i.zero=some z) (h4:i.size=size) (h5:i.bytes=bytes) (h6:z.cells.size=size) (h7:0<size)
    (v:Value) (n:Nat) (xs:List Value) (hs:a.eval s=v) (hown:w.ownsRow base e size v n xs)
    (ad:Addr) (m c:Nat) (news:List Value) (hx:a.eval x= .slice (some ad) m c) (hn:news.length=m*size) (hc:∀j u,news[j]? =some u→w.cell? (ad.add j)=some u) (h1c:∀u∈news,u.oneCell'=true)
    (b1:n+m≤maxLen) (b2:(n+m)*bytes≤140737488355328) (hbase:base≤w.heap.size)
    (hK:∀v' w',w'.ownsRow base e size v' (n+m) (xs++news)→w.grownBy w' v.ownBlock→zdc w v v'→K (a.put o.dst v') w'):
    if Region.wanted o (yielded ops a.tmps)=true then Oper.wp P o a w K Q else E:=by
  have hw:Region.wanted o (yielded ops a.tmps)=true:=by simp [Region.wanted,hg]
  rw [if_pos hw]
  obtain⟨v',w',hr,q1,q2,q3⟩:=zbg (P:=P) w base t o.type e i z size bytes h1 h2 h3 h4 h5 h6 h7 v n xs hown ad m c news hn hc h1c b1 b2 hbase
  unfold Oper.wp execOp
  simp only [hop,resolve,invoke,builtin,Sem.run_bind,Sem.run_pure,Result.andThen_ok,List.map_toArray,List.map_cons,List.map_nil,hs,hx,hr]
  exact hK v' w' q1 q2 q3
theorem yxq {B:Nat} {T:TypeId} {w:World} {x:Value} {n c:Nat} {cs:List Value} (hcs:cs.length=n*c) (h:w.ownsRow B T c x n cs):RowF (fun k=>x.ownBlock=some k) w x n c cs:=by
  obtain⟨hl,⟨rfl,h0⟩|⟨g,cap,cur,rfl,hg,hc,h1,h2,h3,h4⟩⟩:=h
  · exact⟨hcs,none,0,by rw [h0],by omega,by unfold maxLen;omega,.inl h0⟩
  · have hlt:g<w.heap.size:=(Array.getElem?_eq_some_iff.1 hc).1
    refine⟨hcs,_,cap,rfl,h1,h2,.inr ⟨g,rfl,rfl,hlt,fun j hj=> ?_⟩⟩
    have hj2:j<cur.size:=by rw [h3];exact Nat.lt_of_lt_of_le hj (Nat.mul_le_mul_right c h1)
    refine⟨?_,by simp [World.frozen?,hc]⟩
    rw [←h4,List.getElem?_take_of_lt (by omega)]
    simp [World.cell?,hc]
theorem zo1 {w w':World} {B:Nat} {v:Value} {T:TypeId} {c n:Nat} {cs:List Value} (h:w.ownsRow B T c v n cs) (hb:∀k,v.ownBlock=some k→w'.heap[k]? =w.heap[k]?):w'.ownsRow B T c v n cs:=by
  obtain⟨h0,⟨e,h1⟩|⟨g,cap,cur,rfl,hg,hc,h1⟩⟩:=h
  · exact⟨h0,.inl ⟨e,h1⟩⟩
  · exact⟨h0,.inr ⟨g,cap,cur,rfl,hg,(hb g rfl).trans hc,h1⟩⟩
theorem ypa {S:Nat→Prop} {w w':World} {B:Nat} {v:Value} {T:TypeId} {c n:Nat} {cs:List Value} (h:w.ownsRow B T c v n cs) (ht:Turns S w w') (hS:∀k,v.ownBlock=some k→ ¬S k):w'.ownsRow B T c v n cs:=
  zo1 h fun k hk=>ht.block k (World.ownsRow.lt h k hk).2 (hS k hk)
theorem Turns.belowT {S:Nat→Prop} {a b c:World} (h:Turns S a b) (k:Below a.heap.size b c):Turns S a c:=
  ⟨k.os.trans h.os,k.tape.trans h.tape,k.output.trans h.output,Nat.le_trans h.size k.size,fun i hi hS=>(k.block i hi).trans (h.block i hi hS)⟩
theorem owB {w w':World} {B:Nat} {v:Value} {T:TypeId} {c n:Nat} {cs:List Value} (h:w.ownsRow B T c v n cs) (hb:Below w.heap.size w w'):w'.ownsRow B T c v n cs:=ypa (S:=fun _=>False) h (Turns.of_below hb) (fun _ _=>id)
theorem yw9 {w w':World} {row:Option Nat} (h:w.grownBy w' row):Turns (fun k=>row=some k) w w':=⟨h.os,h.tape,h.output,h.size,fun k hk hS=>h.block k hk (fun e=>hS e.symm)⟩
theorem ywp {B:Nat} {e:TypeId} {size n:Nat} {w:World} {v:Value} {xs:List Value} (h:w.ownsRow B e size v n xs) {P:Nat} {T:TypeId} {vs:Array Value} (hb:Bk w P T vs) (hT:T≠e):¬v.ownBlock=some P:=by
  intro hE
  obtain⟨_,⟨rfl,_⟩|⟨g,cap,cur,rfl,_,hc,_⟩⟩:=h
  · simp [Value.ownBlock]at hE
  · simp [Value.ownBlock]at hE
    subst hE
    have hb':w.heap[g]? =some (.cells vs T):=hb
    rw [hb']at hc
    simp at hc
    exact hT hc.2
theorem owN {w w':World} {B b:Nat} {v:Value} {T U:TypeId} {c n:Nat} {cs:List Value} {vs:Array Value} (h:w.ownsRow B T c v n cs) (ht:Turns (fun j=>j=b) w w') (hb:Bk w b U vs) (hT:U≠T:=by decide):w'.ownsRow B T c v n cs:=ypa h ht (fun _ hj e=>ywp h hb hT (e▸hj))
theorem owns_lt {B:Nat} {e:TypeId} {size n:Nat} {w:World} {v:Value} {xs:List Value} (h:w.ownsRow B e size v n xs) {k:Nat} (hk:v.ownBlock=some k):k<w.heap.size:=by
  obtain⟨_,⟨rfl,_⟩|⟨g,cap,cur,rfl,_,hc,_⟩⟩:=h
  · simp [Value.ownBlock]at hk
  · simp [Value.ownBlock]at hk
    subst hk
    exact(Array.getElem?_eq_some_iff.1 hc).1
theorem Turns.grownNew {S:Nat→Prop} {a w w':World} {row:Option Nat} (h:Turns S a w) (hg:w.grownBy w' row) (hr:∀k,row=some k→a.heap.size≤k):Turns S a w':=
  ⟨hg.os.trans h.os,hg.tape.trans h.tape,hg.output.trans h.output,Nat.le_trans h.size hg.size,fun k hk hS=>(hg.block k (Nat.lt_of_lt_of_le hk h.size) (fun e=>by have:=hr k e.symm;omega)).trans (h.block k hk hS)⟩
theorem yw0 {B B':Nat} {e:TypeId} {size n:Nat} {w:World} {v:Value} {xs:List Value} (h:w.ownsRow B e size v n xs) (hB:B'≤B):w.ownsRow B' e size v n xs:=by
  obtain⟨h0,h1|⟨g,cap,cur,e,hg,h2⟩⟩:=h
  · exact⟨h0,.inl h1⟩
  · exact⟨h0,.inr ⟨g,cap,cur,e,Nat.le_trans hB hg,h2⟩⟩
theorem yzh (l:List Int):∀u∈intCells l,u.oneCell'=true:=by
  intro u hu
  obtain⟨z,_,rfl⟩:=List.mem_map.1 hu
  rfl
theorem yfm {B:Nat} {e:TypeId} {size n:Nat} {w:World} {v:Value} {xs:List Value} (h:w.ownsRow B e size v n xs):∃a cap,v= .slice a n cap:=by
  obtain⟨_,⟨rfl,h0⟩|⟨g,cap,cur,rfl,_⟩⟩:=h
  · exact⟨none,0,by rw [h0]⟩
  · exact⟨_,_,rfl⟩
theorem yxy {B B':Nat} {e e':TypeId} {size n size' n':Nat} {w:World} {v v':Value} {xs xs':List Value} (h:w.ownsRow B e size v n xs) (h':w.ownsRow B' e' size' v' n' xs') (he:e≠e') {k:Nat} (hk:v.ownBlock=some k):¬v'.ownBlock=some k:=by
  intro hk'
  obtain⟨_,⟨rfl,_⟩|⟨g,cap,cur,rfl,_,hc,_⟩⟩:=h
  · simp [Value.ownBlock]at hk
  · obtain⟨_,⟨rfl,_⟩|⟨g',cap',cur',rfl,_,hc',_⟩⟩:=h'
    · simp [Value.ownBlock]at hk'
    · simp [Value.ownBlock]at hk hk'
      subst hk hk'
      rw [hc]at hc'
      simp at hc'
      exact he hc'.2
theorem zco {P:Program} {ops:Array Oper} {rest:List Oper} {o:Oper} {a:Act} {Q:Exit→Act→World→Prop} (w:World) (hgd:o.guard=none) (s x:Operand) (t:TypeId)
    (ho:o.op= .call {callee:= .builtin .append,args:= #[s,x],argTypes:= #[t,t]})
    (base:Nat) (e:TypeId) (i:TypeInfo) (z:Value) (size bytes:Nat) (ht:P.underlying t=some (.slice e)) (hi:P.info? e=some i) (hz:i.zero=some z)
    (hsize:i.size=size) (hby:i.bytes=bytes) (hzs:z.cells.size=size) (hsz:0<size)
    (v:Value) (n:Nat) (xs:List Value) (hs:a.eval s=v) (hown:w.ownsRow base e size v n xs)
    (ad:Addr) (m c:Nat) (news:List Value) (hx:a.eval x= .slice (some ad) m c) (hl:news.length=m*size) (hnews:∀j u,news[j]? =some u→w.cell? (ad.add j)=some u) (h1:∀u∈news,u.oneCell'=true)
    (h63:n+m≤maxLen) (hbytes:(n+m)*bytes≤140737488355328) (hbase:base≤w.heap.size)
    (h:∀v' w',w'.ownsRow base e size v' (n+m) (xs++news)→w.grownBy w' v.ownBlock→zdc w v v'→wpList P ops Q rest (a.put o.dst v') w'):wpList P ops Q (o::rest) a w:=
  wpList_plain hgd fun _ hK=>by
    obtain⟨v',w',hr,q1,q2,q3⟩:=zbg (P:=P) w base t o.type e i z size bytes ht hi hz hsize hby hzs hsz v n xs hown ad m c news hl hnews h1 h63 hbytes hbase
    unfold Oper.wp execOp
    simp only [ho,resolve,invoke,builtin,Sem.run_bind,Sem.run_pure,Result.andThen_ok,List.map_toArray,List.map_cons,List.map_nil,hs,hx,hr]
    exact hK _ _ (h v' w' q1 q2 q3)
abbrev put3s (w:World) (P:Nat) (v0 v1 v2:Value):World:=((w.setCell ⟨P,0,none⟩ v0).setCell ⟨P,1,none⟩ v1).setCell ⟨P,2,none⟩ v2
theorem zej (w:World) (P:Nat) (v0 v1 v2:Value):Turns (fun b=>b=P) w (put3s w P v0 v1 v2):=
  ((yag w P 0 v0).trans (yag _ P 1 v1)).trans (yag _ P 2 v2)
theorem Bk.put3s {w:World} {P:Nat} {T:TypeId} {a0 a1 a2:Value} (h:Bk w P T #[a0,a1,a2]) (v0 v1 v2:Value):Bk (put3s w P v0 v1 v2) P T #[v0,v1,v2]:=
  ((h.put 0 v0).put 1 v1).put 2 v2
abbrev put7s (w:World) (P:Nat) (v0 v1 v2 v3 v4 v5 v6:Value):World:=((((((w.setCell ⟨P,0,none⟩ v0).setCell ⟨P,1,none⟩ v1).setCell ⟨P,2,none⟩ v2).setCell ⟨P,3,none⟩ v3).setCell ⟨P,4,none⟩ v4).setCell ⟨P,5,none⟩ v5).setCell ⟨P,6,none⟩ v6
theorem yz7 (w:World) (P:Nat) (v0 v1 v2 v3 v4 v5 v6:Value):Turns (fun b=>b=P) w (put7s w P v0 v1 v2 v3 v4 v5 v6):=
  ((((((yag w P 0 v0).trans (yag _ P 1 v1)).trans (yag _ P 2 v2)).trans (yag _ P 3 v3)).trans (yag _ P 4 v4)).trans (yag _ P 5 v5)).trans (yag _ P 6 v6)
theorem Bk.put7s {w:World} {P:Nat} {T:TypeId} {a0 a1 a2 a3 a4 a5 a6:Value} (h:Bk w P T #[a0,a1,a2,a3,a4,a5,a6]) (v0 v1 v2 v3 v4 v5 v6:Value):Bk (put7s w P v0 v1 v2 v3 v4 v5 v6) P T #[v0,v1,v2,v3,v4,v5,v6]:=by
  have h0:Bk (w.setCell ⟨P,0,none⟩ v0) P T #[v0,a1,a2,a3,a4,a5,a6]:=h.put 0 v0
  have h1:Bk ((w.setCell ⟨P,0,none⟩ v0).setCell ⟨P,1,none⟩ v1) P T #[v0,v1,a2,a3,a4,a5,a6]:=h0.put 1 v1
  have h2:Bk (((w.setCell ⟨P,0,none⟩ v0).setCell ⟨P,1,none⟩ v1).setCell ⟨P,2,none⟩ v2) P T #[v0,v1,v2,a3,a4,a5,a6]:=h1.put 2 v2
  have h3:Bk ((((w.setCell ⟨P,0,none⟩ v0).setCell ⟨P,1,none⟩ v1).setCell ⟨P,2,none⟩ v2).setCell ⟨P,3,none⟩ v3) P T #[v0,v1,v2,v3,a4,a5,a6]:=h2.put 3 v3
  have h4:Bk (((((w.setCell ⟨P,0,none⟩ v0).setCell ⟨P,1,none⟩ v1).setCell ⟨P,2,none⟩ v2).setCell ⟨P,3,none⟩ v3).setCell ⟨P,4,none⟩ v4) P T #[v0,v1,v2,v3,v4,a5,a6]:=h3.put 4 v4
  have h5:Bk ((((((w.setCell ⟨P,0,none⟩ v0).setCell ⟨P,1,none⟩ v1).setCell ⟨P,2,none⟩ v2).setCell ⟨P,3,none⟩ v3).setCell ⟨P,4,none⟩ v4).setCell ⟨P,5,none⟩ v5) P T #[v0,v1,v2,v3,v4,v5,a6]:=h4.put 5 v5
  have h6:Bk (((((((w.setCell ⟨P,0,none⟩ v0).setCell ⟨P,1,none⟩ v1).setCell ⟨P,2,none⟩ v2).setCell ⟨P,3,none⟩ v3).setCell ⟨P,4,none⟩ v4).setCell ⟨P,5,none⟩ v5).setCell ⟨P,6,none⟩ v6) P T #[v0,v1,v2,v3,v4,v5,v6]:=h5.put 6 v6
  exact h6
theorem Turns.sub {S S':Nat→Prop} {w w':World} (h:Turns S w w') (hS:∀k,S k→S' k):Turns S' w w':=⟨h.os,h.tape,h.output,h.size,fun k hk hn=>h.block k hk (fun e=>hn (hS k e))⟩
theorem zor {p:Prop} (h:p):Hid p:=h
def SrcC (w:World) (x:Value) (size m:Nat) (news:List Value):Prop:=news.length=m*size∧ ∃a c,x= .slice a m c∧(m=0∨ ∃b off,a=some ⟨b,off,none⟩∧b<w.heap.size∧ ∀j,j<m*size→w.cell? ⟨b,off+j,none⟩=news[j]?)
theorem SrcC.below {w w':World} {x:Value} {size m:Nat} {news:List Value} (h:SrcC w x size m news) (hb:Below w.heap.size w w'):SrcC w' x size m news:=by
  obtain⟨hn,a,c,rfl,h⟩:=h
  refine⟨hn,a,c,rfl,h.imp id ?_⟩
  rintro ⟨b,off,rfl,hlt,hc⟩
  exact⟨b,off,rfl,Nat.lt_of_lt_of_le hlt hb.size,fun j hj=>(hb.cell (p:=⟨b,off+j,none⟩) hlt).trans (hc j hj)⟩
theorem IsD.src {w:World} {x:Value} {c n:Nat} {cs:List Value} (h:IsD w x (flat c n cs)) (hl:cs.length=n*c):SrcC w x c n cs:=by
  obtain⟨a,cap,rfl,h1,h2,h⟩:=IsD.parts (c:=c) (n:=n) h
  refine⟨hl,a,cap,rfl,h.imp id ?_⟩
  rintro ⟨b,off,rfl,hlt,hc⟩
  refine⟨b,off,rfl,hlt,fun j hj=> ?_⟩
  obtain⟨u,hu,hd⟩:=hc j hj
  have:=IsD.val_eq hd
  subst this
  rw [hu,List.getElem?_eq_getElem (by omega)]
  simp [show j<cs.length by omega]
theorem IsD.srcI {w:World} {x:Value} {l:List Int} (h:IsD w x (ywr l)):SrcC w x 1 l.length (intCells l):=IsD.src h (by rw [yws];omega)
theorem IsD.srcEv {w:World} {x:Value} {l:List Ev} (h:IsD w x (evsD l)):SrcC w x 7 l.length (yvz l):=IsD.src h (ywc l)
theorem IsD.srcX {w:World} {x:Value} {l:List Em} (h:IsD w x (emsD l)):SrcC w x 3 l.length (ywm l):=IsD.src h (yxd l)
theorem zab {P:Program} {w:World} (base:Nat) (t ty e:TypeId) (i:TypeInfo) (size:Nat) (ht:P.underlying t=some (.slice e)) (hi:P.info? e=some i) (v:Value) (n c:Nat) (xs:List Value) (hown:w.ownsRow base e size v n xs):
    (Builtin.append_ #[t,t] ty #[v,.slice none 0 c]).run P w= .ok v w:=by
  rcases hown.2 with ⟨rfl,rfl⟩|⟨g,cap,cur,rfl,_,_,hnc,_⟩
  · simp [Builtin.append_,run_underlying ht,sizeOf,typeInfo,hi,Builtin.lenOf,Builtin.firstCells]
  · simp [Builtin.append_,run_underlying ht,sizeOf,typeInfo,hi,Builtin.lenOf,Builtin.firstCells,hnc,storeCells]
theorem ywl {P:Program} {ops:Array Oper} {o:Oper} {a:Act} {w:World} {K:Act→World→Prop} {Q:Exit→Act→World→Prop} {E:Prop}
    (hg:o.guard=none) (s x:Operand) (t:TypeId) (hop:o.op=Op.call {callee:=Callee.builtin Builtin.append,args:= #[s,x],argTypes:= #[t,t]})
    (base:Nat) (e:TypeId) (i:TypeInfo) (z:Value) (size bytes:Nat) (h1:P.underlying t=some (.slice e)) (h2:P.info? e=some i) (h3:i.zero=some z) (h4:i.size=size) (h5:i.bytes=bytes) (h6:z.cells.size=size) (h7:0<size)
    (v:Value) (n:Nat) (xs:List Value) (hs:a.eval s=v) (hown:w.ownsRow base e size v n xs)
    (u:Value) (m:Nat) (news:List Value) (hx:a.eval x=u) (hc:SrcC w u size m news) (h1c:∀u∈news,u.oneCell'=true)
    (b1:n+m≤maxLen) (b2:(n+m)*bytes≤140737488355328) (hbase:base≤w.heap.size)
    (hK:∀v' w',w'.ownsRow base e size v' (n+m) (xs++news)→w.grownBy w' v.ownBlock→zdc w v v'→K (a.put o.dst v') w'):
    if Region.wanted o (yielded ops a.tmps)=true then Oper.wp P o a w K Q else E:=by
  obtain⟨hn,au,c,rfl,hc⟩:=hc
  have some_case:∀ad:Addr,au=some ad→(∀j u,news[j]? =some u→w.cell? (ad.add j)=some u)→(if Region.wanted o (yielded ops a.tmps)=true then Oper.wp P o a w K Q else E):=fun ad e1 e2=>by
    subst e1
    exact yym hg s x t hop base e i z size bytes h1 h2 h3 h4 h5 h6 h7 v n xs hs hown ad m c news hx hn e2 h1c b1 b2 hbase hK
  rcases hc with rfl|⟨b,off,rfl,hlt,hcc⟩
  · have hnil:news= []:=List.eq_nil_of_length_eq_zero (by simpa using hn)
    subst hnil
    cases au with
    |some ad=>exact some_case ad rfl (fun j u hu=>by simp at hu)
    |none=>
      have hw:Region.wanted o (yielded ops a.tmps)=true:=by simp [Region.wanted,hg]
      rw [if_pos hw]
      have hr:=zab (P:=P) (w:=w) base t o.type e i size h1 h2 v n c xs hown
      unfold Oper.wp execOp
      simp only [hop,resolve,invoke,builtin,Sem.run_bind,Sem.run_pure,Result.andThen_ok,List.map_toArray,List.map_cons,List.map_nil,hs,hx,hr]
      exact hK v w (by simpa using hown) (zfu w _) (.inl rfl)
  · refine some_case ⟨b,off,none⟩ rfl (fun j u hu=> ?_)
    have hj:j<m*size:=by rw [←hn];exact(List.getElem?_eq_some_iff.1 hu).1
    rw [Addr.add_lit,hcc j hj]
    exact hu
theorem ywg {P:Program} {ops:Array Oper} {rest:List Oper} {o:Oper} {a:Act} {Q:Exit→Act→World→Prop} (w:World) (hgd:o.guard=none) (s x:Operand) (t:TypeId)
    (ho:o.op= .call {callee:= .builtin .append,args:= #[s,x],argTypes:= #[t,t]})
    (base:Nat) (e:TypeId) (i:TypeInfo) (z:Value) (size bytes:Nat) (ht:P.underlying t=some (.slice e)) (hi:P.info? e=some i) (hz:i.zero=some z)
    (hsize:i.size=size) (hby:i.bytes=bytes) (hzs:z.cells.size=size) (hsz:0<size)
    (v:Value) (n:Nat) (xs:List Value) (hs:a.eval s=v) (hown:w.ownsRow base e size v n xs)
    (u:Value) (m:Nat) (news:List Value) (hx:a.eval x=u) (hc:SrcC w u size m news) (h1:∀u∈news,u.oneCell'=true)
    (h63:n+m≤maxLen) (hbytes:(n+m)*bytes≤140737488355328) (hbase:base≤w.heap.size)
    (h:∀v' w',w'.ownsRow base e size v' (n+m) (xs++news)→w.grownBy w' v.ownBlock→zdc w v v'→wpList P ops Q rest (a.put o.dst v') w'):wpList P ops Q (o::rest) a w:=by
  obtain⟨hn,au,c,rfl,hc⟩:=hc
  have some_case:∀ad:Addr,au=some ad→(∀j u,news[j]? =some u→w.cell? (ad.add j)=some u)→wpList P ops Q (o::rest) a w:=fun ad e1 e2=>by
    subst e1
    exact zco w hgd s x t ho base e i z size bytes ht hi hz hsize hby hzs hsz v n xs hs hown ad m c news hx hn e2 h1 h63 hbytes hbase h
  rcases hc with rfl|⟨b,off,rfl,hlt,hcc⟩
  · have hnil:news= []:=List.eq_nil_of_length_eq_zero (by simpa using hn)
    subst hnil
    cases au with
    |some ad=>exact some_case ad rfl (fun j u hu=>by simp at hu)
    |none=>
      refine wpList_plain hgd fun _ hK=> ?_
      have hr:=zab (P:=P) (w:=w) base t o.type e i size ht hi v n c xs hown
      unfold Oper.wp execOp
      simp only [ho,resolve,invoke,builtin,Sem.run_bind,Sem.run_pure,Result.andThen_ok,List.map_toArray,List.map_cons,List.map_nil,hs,hx,hr]
      exact hK _ _ (h v w (by simpa using hown) (zfu w _) (.inl rfl))
  · refine some_case ⟨b,off,none⟩ rfl (fun j u hu=> ?_)
    have hj:j<m*size:=by rw [←hn];exact(List.getElem?_eq_some_iff.1 hu).1
    rw [Addr.add_lit,hcc j hj]
    exact hu
theorem zcn (l:List Ev):∀u∈yvz l,u.oneCell'=true:=fun u hu=>by obtain⟨i,rfl⟩:=zd4 l u hu;rfl
theorem yyz (l:List Em):∀u∈ywm l,u.oneCell'=true:=fun u hu=>by obtain⟨i,rfl⟩:=zd5 l u hu;rfl
set_option maxRecDepth 100000 in
set_option maxHeartbeats 2000000 in
theorem yyc (x:Value) (l:List Ev) (w:World) (hl:l.length≤1048577) (h:SrcC w x 7 l.length (yvz l)):
    Calls Tryz.prog 106 #[x] w fun e w'=>∃y,e= .returned y∧w'.ownsRow w.heap.size 90 7 y l.length (yvz l)∧Below w.heap.size w w':=by
  obtain⟨i0,hi,hz0,hz1,hz2⟩:=info_parts info25
  have hb:Below w.heap.size w (w.alloc (.cells #[] 90)):=(Below.refl _ w).alloc (Nat.le_refl _) _
  have HS:=zor (h.below hb)
  have HB:=zor hb
  obtain⟨_,a,c,rfl,_⟩:=h
  clear hb
  go_enter Tryz.func106,Tryz.ntmps106
  go_wp2_with (at_builtin;refine ywg _ rfl _ _ 34 rfl w.heap.size 90 i0 _ 7 56 Tryz.underlying34 hi hz0 hz1 hz2 rfl (by decide) (.slice (some ⟨w.heap.size,0,none⟩) 0 0) 0 [] rfl (znl w) (.slice a l.length c) l.length (yvz l) rfl HS.out (zcn l) (by unfold maxLen;omega) (by omega) (by simp) ?_;intro v' w' hown hgrow hnew)
  go_ret
  rw [Nat.zero_add,List.nil_append]at hown
  exact⟨_,rfl,hown,HB.out.grown hgrow (by simp) (fun k e=>by cases e;exact Nat.le_refl _)⟩
def nthV (cs:List Value) (j:Nat):Value:=cs.getD j (.int .i64 0)
structure GrowD (B:Nat) (T:TypeId) (w:World) (v:Value) (c n:Nat) (cs:List Value) (f:Nat→Dat) (G:Nat→Nat→Prop):Prop where
  row:w.ownsRow B T c v n cs
  own:∀j,j<n*c→OwnD w (G j) (nthV cs j) (f j)
  lim:∀j,j<n*c→ ∀k,G j k→B≤k∧k<w.heap.size∧v.ownBlock≠some k
  dis:∀i j,i<n*c→j<n*c→i≠j→ ∀k,G i k→ ¬G j k
theorem GrowD.nil (B:Nat) (T:TypeId) (w:World) (c:Nat) (f:Nat→Dat) (G:Nat→Nat→Prop):GrowD B T w (.slice none 0 0) c 0 [] f G:=
  ⟨World.ownsRow_nil w B T c,fun j hj=>by omega,fun j hj=>by omega,fun i j hi=>by omega⟩
theorem GrowD.turns {S:Nat→Prop} {B:Nat} {T:TypeId} {w w':World} {v:Value} {c n:Nat} {cs:List Value} {f:Nat→Dat} {G:Nat→Nat→Prop} (h:GrowD B T w v c n cs f G) (ht:Turns S w w') (h1:∀k,v.ownBlock=some k→ ¬S k) (h2:∀j,j<n*c→ ∀k,G j k→ ¬S k):GrowD B T w' v c n cs f G:=
  ⟨ypa h.row ht h1,fun j hj=>(h.own j hj).turns ht (h2 j hj),fun j hj k hk=>⟨(h.lim j hj k hk).1,Nat.lt_of_lt_of_le (h.lim j hj k hk).2.1 ht.size,(h.lim j hj k hk).2.2⟩,h.dis⟩
theorem GrowD.below {B:Nat} {T:TypeId} {w w':World} {v:Value} {c n:Nat} {cs:List Value} {f:Nat→Dat} {G:Nat→Nat→Prop} (h:GrowD B T w v c n cs f G) (hb:Below w.heap.size w w'):GrowD B T w' v c n cs f G:=
  h.turns (S:=fun _=>False) (Turns.of_below hb) (fun _ _=>id) (fun _ _ _ _=>id)
theorem GrowD.low {S:Nat→Prop} {B:Nat} {T:TypeId} {w w':World} {v:Value} {c n:Nat} {cs:List Value} {f:Nat→Dat} {G:Nat→Nat→Prop} (h:GrowD B T w v c n cs f G) (ht:Turns S w w') (hS:∀k,B≤k→ ¬S k):GrowD B T w' v c n cs f G:=
  h.turns ht (fun k hk=>hS k (yx4 h.row hk)) (fun j hj k hk=>hS k (h.lim j hj k hk).1)
def zdl {α:Type} (m:Nat) (f g:Nat→α):Nat→α:=fun j=>if j<m then f j else g (j-m)
theorem GrowD.snoc {B:Nat} {T:TypeId} {w w3:World} {v v3:Value} {c n:Nat} {cs ns:List Value} {f d:Nat→Dat} {G K:Nat→Nat→Prop} (h:GrowD B T w v c n cs f G) (ho:w3.ownsRow B T c v3 (n+1) (cs++ns)) (hg:w.grownBy w3 v.ownBlock) (hw:zdc w v v3)
    (hd:∀r,r<c→OwnD w (K r) (nthV ns r) (d r)) (hK:∀r,r<c→ ∀k,K r k→B≤k∧k<w.heap.size∧v.ownBlock≠some k∧ ∀j,j<n*c→ ¬G j k) (hKK:∀i j,i<c→j<c→i≠j→ ∀k,K i k→ ¬K j k):
    GrowD B T w3 v3 c (n+1) (cs++ns) (zdl (n*c) f d) (zdl (n*c) G K):=by
  have hl:cs.length=n*c:=h.row.1
  have ht:=yw9 hg
  have hsz:w.heap.size≤w3.heap.size:=hg.size
  have hv3:∀k,k<w.heap.size→v.ownBlock≠some k→v3.ownBlock≠some k:=fun k hk hv e=>by
    rcases hw with h1|h1
    · exact hv (h1▸e)
    · have:=h1 k e;omega
  have hnc:(n+1)*c=n*c+c:=by rw [Nat.add_mul,Nat.one_mul]
  refine⟨ho,fun j hj=> ?_,fun j hj k hk=> ?_,fun i j hi hj hij k hk hk'=> ?_⟩
  · unfold zdl
    by_cases hlt:j<n*c
    · rw [if_pos hlt,if_pos hlt,show nthV (cs++ns) j=nthV cs j by unfold nthV;simp [List.getElem?_append_left (by omega:j<cs.length)]]
      exact(h.own j hlt).turns ht (fun k hk e=>(h.lim j hlt k hk).2.2 e)
    · rw [if_neg hlt,if_neg hlt,show nthV (cs++ns) j=nthV ns (j-n*c)by unfold nthV;rw [List.getD_eq_getElem?_getD,List.getElem?_append_right (by omega),hl,←List.getD_eq_getElem?_getD]]
      exact(hd (j-n*c) (by omega)).turns ht (fun k hk e=>(hK (j-n*c) (by omega) k hk).2.2.1 e)
  · unfold zdl at hk
    by_cases hlt:j<n*c
    · rw [if_pos hlt]at hk
      have:=h.lim j hlt k hk
      exact⟨this.1,by omega,hv3 k this.2.1 this.2.2⟩
    · rw [if_neg hlt]at hk
      have:=hK (j-n*c) (by omega) k hk
      exact⟨this.1,by omega,hv3 k this.2.1 this.2.2.1⟩
  · unfold zdl at hk hk'
    by_cases hi1:i<n*c<;>by_cases hj1:j<n*c
    · rw [if_pos hi1]at hk;rw [if_pos hj1]at hk'
      exact h.dis i j hi1 hj1 hij k hk hk'
    · rw [if_pos hi1]at hk;rw [if_neg hj1]at hk'
      exact(hK (j-n*c) (by omega) k hk').2.2.2 i hi1 hk
    · rw [if_neg hi1]at hk;rw [if_pos hj1]at hk'
      exact(hK (i-n*c) (by omega) k hk).2.2.2 j hj1 hk'
    · rw [if_neg hi1]at hk;rw [if_neg hj1]at hk'
      exact hKK (i-n*c) (j-n*c) (by omega) (by omega) (by omega) k hk hk'
def GrowD.blocks (v:Value) (c n:Nat) (G:Nat→Nat→Prop):Nat→Prop:=fun k=>v.ownBlock=some k∨ ∃j,j<n*c∧G j k
theorem GrowD.ownD {B:Nat} {T:TypeId} {w:World} {v:Value} {c n:Nat} {cs:List Value} {f:Nat→Dat} {G:Nat→Nat→Prop} (h:GrowD B T w v c n cs f G):OwnD w (GrowD.blocks v c n G) v (.row c n f):=by
  obtain⟨hl,⟨rfl,rfl⟩|⟨g,cap,cur,rfl,hg,hc,h1,h2,h3,h4⟩⟩:=h.row
  · exact .nil _ _ _ _ _ (Nat.zero_le _)
  · have hlt:g<w.heap.size:=(Array.getElem?_eq_some_iff.1 hc).1
    refine .row _ g n cap c f (nthV cs) G h1 h2 hlt (.inl rfl) (fun j hj=>⟨?_,by simp [World.frozen?,hc]⟩) h.own (fun j hj k hk=>⟨.inr ⟨j,hj,hk⟩,fun e=>(h.lim j hj k hk).2.2 (by rw [e];rfl)⟩) h.dis
    have hjc:j<cs.length:=by omega
    have h5:w.cell? ⟨g,j,none⟩=cs[j]? :=by
      rw [←h4,List.getElem?_take_of_lt hj]
      simp [World.cell?,hc]
    rw [h5,List.getElem?_eq_getElem hjc]
    simp [nthV,hjc]
theorem GrowD.blocks_ge {B:Nat} {T:TypeId} {w:World} {v:Value} {c n:Nat} {cs:List Value} {f:Nat→Dat} {G:Nat→Nat→Prop} (h:GrowD B T w v c n cs f G) {k:Nat} (hk:GrowD.blocks v c n G k):B≤k∧k<w.heap.size:=by
  rcases hk with hk|⟨j,hj,hk⟩
  · exact⟨yx4 h.row hk,owns_lt h.row hk⟩
  · exact⟨(h.lim j hj k hk).1,(h.lim j hj k hk).2.1⟩
theorem zfp:(Tryz.prog.info? 166).map (fun i=>(i.zero,i.size,i.bytes))=some (some (.agg #[.int .i64 0,.int .i64 0,.int .i64 0]),3,24):=by kernel_rfl
theorem zes:(Tryz.prog.info? 172).map (fun i=>(i.zero,i.size,i.bytes))=some (some (.agg #[.int .i64 0,.int .i64 0,.int .i64 0,.int .i64 0,.int .i64 0,.int .i64 0,.int .i64 0,.slice none 0 0,.int .i64 0,.int .i64 0,.slice none 0 0,.slice none 0 0]),12,144):=by kernel_rfl
theorem yx8 (w:World) (T:TypeId) (c:Nat):(w.alloc (.cells #[] T)).ownsRow w.heap.size T c (.slice (some ⟨w.heap.size,0,none⟩) 0 0) 0 []:=
  ⟨by simp,.inr ⟨w.heap.size,0,#[],rfl,Nat.le_refl _,(MapKept.heap_alloc w _).1,Nat.le_refl _,Nat.zero_le _,by simp,by simp⟩⟩
theorem Bk.src {w:World} {P:Nat} {T:TypeId} {l:List Value} (h:Bk w P T l.toArray):∀j u,l[j]? =some u→w.cell? ((⟨P,0,none⟩:Addr).add j)=some u:=fun j u hu=>by
  rw [Addr.add_lit]
  simpa using h.cell (i:=j) (by simpa using hu)
def pastL (q:Ps) (v7 v10 v11:Value):List Value:= [.int .i64 q.e.t,.int .i64 q.e.s,.int .i64 q.e.q,.int .i64 q.e.d,.int .i64 q.e.k,.int .i64 q.e.v,.int .i64 q.e.g,v7,.int .i64 q.b.q,.int .i64 q.b.d,v10,v11]
def zf5 (K7 K10 K11:Nat→Prop) (r:Nat):Nat→Prop:=if r=7 then K7 else if r=10 then K10 else if r=11 then K11 else fun _=>False
theorem past_own {w:World} {q:Ps} {v7 v10 v11:Value} {K7 K10 K11:Nat→Prop} (h7:OwnD w K7 v7 (ywr q.b.r)) (h10:OwnD w K10 v10 (evsD q.s)) (h11:OwnD w K11 v11 (emsD q.x)):∀r,r<12→OwnD w (zf5 K7 K10 K11 r) (nthV (pastL q v7 v10 v11) r) (q.cell r)
  |0,_=> .val _ _
  |1,_=> .val _ _
  |2,_=> .val _ _
  |3,_=> .val _ _
  |4,_=> .val _ _
  |5,_=> .val _ _
  |6,_=> .val _ _
  |7,_=>h7
  |8,_=> .val _ _
  |9,_=> .val _ _
  |10,_=>h10
  |11,_=>h11
theorem GrowD.snocPs {B:Nat} {T:TypeId} {V0 w w3:World} {v v3 v7 v10 v11:Value} {n:Nat} {cs:List Value} {l:List Ps} {G:Nat→Nat→Prop} {K7 K10 K11:Nat→Prop} (h0:GrowD B T V0 v 12 n cs (ydq l) G) (hb:Below V0.heap.size V0 w) (hB:B≤V0.heap.size)
    (h7:OwnD w K7 v7 (ywr (psAt l n).b.r)) (h10:OwnD w K10 v10 (evsD (psAt l n).s)) (h11:OwnD w K11 v11 (emsD (psAt l n).x))
    (l7:∀k,K7 k→V0.heap.size≤k∧k<w.heap.size) (l10:∀k,K10 k→V0.heap.size≤k∧k<w.heap.size) (l11:∀k,K11 k→V0.heap.size≤k∧k<w.heap.size)
    (d1:∀k,K7 k→ ¬K10 k) (d2:∀k,K7 k→ ¬K11 k) (d3:∀k,K10 k→ ¬K11 k)
    (ho:w3.ownsRow B T 12 v3 (n+1) (cs++pastL (psAt l n) v7 v10 v11)) (hg:w.grownBy w3 v.ownBlock) (hw:zdc w v v3):
    GrowD B T w3 v3 12 (n+1) (cs++pastL (psAt l n) v7 v10 v11) (ydq l) (zdl (n*12) G (zf5 K7 K10 K11)):=by
  have hK:∀r k,zf5 K7 K10 K11 r k→V0.heap.size≤k∧k<w.heap.size:=fun r k hk=>by
    unfold zf5 at hk
    split at hk
    · exact l7 k hk
    · split at hk
      · exact l10 k hk
      · split at hk
        · exact l11 k hk
        · exact hk.elim
  have hKK:∀i j,i≠j→ ∀k,zf5 K7 K10 K11 i k→ ¬zf5 K7 K10 K11 j k:=fun i j hij k h1 h2=>by
    unfold zf5 at h1 h2
    have e1:=d1 k
    have e2:=d2 k
    have e3:=d3 k
    split at h1<;>split at h2
    · omega
    · split at h2
      · exact e1 h1 h2
      · split at h2
        · exact e2 h1 h2
        · exact h2
    · split at h1
      · exact e1 h2 h1
      · split at h1
        · exact e2 h2 h1
        · exact h1
    · split at h1<;>split at h2
      · omega
      · split at h2
        · exact e3 h1 h2
        · exact h2
      · split at h1
        · exact e3 h2 h1
        · exact h1
      · split at h1<;>split at h2
        · omega
        · exact h2
        · exact h1
        · exact h2
  have hbl:∀k,GrowD.blocks v 12 n G k→k<V0.heap.size:=fun k hk=>(h0.blocks_ge hk).2
  have h:=(h0.below hb).snoc ho hg hw (past_own h7 h10 h11) (fun r hr k hk=>⟨by have:=hK r k hk;omega,(hK r k hk).2,fun e=>by have:=hbl k (.inl e);have:=hK r k hk;omega,fun j hj e=>by have:=hbl k (.inr ⟨j,hj,e⟩);have:=hK r k hk;omega⟩) (fun i j hi hj hij=>hKK i j hij)
  refine⟨h.row,fun j hj=> ?_,h.lim,h.dis⟩
  have:=h.own j hj
  have e:zdl (n*12) (ydq l) (psAt l n).cell j=ydq l j:=by
    unfold zdl
    split
    · rfl
    · rename_i hlt
      have:=ywn l n (r:=j-n*12) (by omega)
      rw [show n*12+(j-n*12)=j by omega]at this
      exact this.symm
  rw [e]at this
  exact this
end Go.Proofs.YtghndljgadpijaaGreat

/- A drawn region whose last store need not keep what the others keep: an operation that the store waits for (by a chain) may be taken first in every world that meets S, where S is shown behind every operation but that store. -/
namespace Go.Proofs.YtghndljgadpijaaGreat
open Go
section
variable {P : Program} {ops : Array Oper} {Q : Exit → Act → World → Prop} {md : Region.Mode} {S : World → Prop} {z : Nat}
def yx7 (P:Program) (md:Region.Mode) (ops:Array Oper) (Q:Exit→Act→World→Prop) (S:World→Prop) (z:Nat):Nat→Array Bool→Act→World→Prop
  |0,listed,a,w=>Region.ready md ops listed= []∧Q .normal a w
  |fuel+1,listed,a,w=>
    (Region.ready md ops listed= []→Q .normal a w)∧
    ∀i∈Region.ready md ops listed,wpOp P ops Q i (fun a' w'=>(i≠z→S w')∧yx7 P md ops Q S z fuel (listed.setIfInBounds i true) a' w') a w
theorem zfc:∀(fuel:Nat) (listed:Array Bool) (a:Act) (w:World),yx7 P md ops Q S z fuel listed a w→wpAny P md ops Q fuel listed a w
  |0,_,_,_,h=>h
  |fuel+1,_,_,_,h=>⟨h.1,fun i hi=>wpOp_mono (fun a' w' h'=>zfc fuel _ a' w' h'.2) (h.2 i hi)⟩
def yzl (md:Region.Mode) (ops:Array Oper) (i:Nat):Nat→List Nat→Bool
  |z,[]=>z==i
  |z,p::ps=>((ops[z]?).map fun o=>o.after.any fun e=>Region.binds md e&&e.on==p).getD false&&yzl md ops i p ps
theorem zfv {i p:Nat} {ps:List Nat} {listed:Array Bool} (h:yzl md ops i z (p::ps)=true) (hp:listed.getD p true=false):z ∉ Region.ready md ops listed:=by
  intro hz
  obtain⟨_,o,ho,hall⟩:=mem_ready.1 hz
  simp only [yzl,ho,Option.map_some,Option.getD_some,Bool.and_eq_true]at h
  obtain⟨e,he,h1⟩:∃e,e∈o.after∧(Region.binds md e=true∧e.on=p):=by
    have h0:=h.1
    simp only [Array.any_eq_true,Bool.and_eq_true,beq_iff_eq]at h0
    obtain⟨k,hk,h1⟩:=h0
    exact⟨o.after[k],Array.getElem_mem hk,h1⟩
  have h2:=hall e he h1.1
  rw [h1.2]at h2
  rcases Nat.lt_or_ge p listed.size with h'|h'
  · simp [h']at hp h2
    rw [hp]at h2
    cases h2
  · simp [Array.getElem?_eq_none h']at h2
theorem zie {i:Nat} {listed:Array Bool}:∀(ps:List Nat) (z:Nat),yzl md ops i z ps=true→(∀p∈ps,listed.getD p true=false)→ ∀p∈ps,p≠i→p ∉ Region.ready md ops listed
  | [],_,_,_,p,hp,_=>by cases hp
  |q::ps,z,hc,hu,p,hp,hpi=>by
    have hc':yzl md ops i q ps=true:=by
      simp only [yzl,Bool.and_eq_true]at hc
      exact hc.2
    rcases List.mem_cons.1 hp with rfl|hp
    · cases ps with
      |nil=>simp only [yzl,beq_iff_eq]at hc';exact absurd hc' hpi
      |cons r rs=>exact zfv hc' (hu r (List.mem_cons_of_mem _ List.mem_cons_self))
    · exact zie ps q hc' (fun p hp=>hu p (List.mem_cons_of_mem _ hp)) p hp hpi
theorem zh2 {i:Nat} {oi:Oper} {v:Value} {q:Nat} {ps:List Nat} (hi:ops[i]? =some oi) (hsel:∀(j:Nat) (o:Oper) cs b,ops[j]? =some o→o.op≠.select cs b)
    (hQ:∀c a w,Q (.panic c) (a.put oi.dst v) w→Q (.panic c) a w) (hc:yzl md ops i z (q::ps)=true):
    ∀(fuel:Nat) (listed:Array Bool) (a:Act) (w:World),
      (∀p∈q::ps,listed.getD p true=false)→
      (∀j oj,ops[j]? =some oj→j≠i→listed.getD j true=false→(∀e∈oj.after,Region.binds md e=true→e.on≠i)→oi.apart ops oj=true)→
      i∈Region.ready md ops listed→YieldsIf P ops S oi v a→S w→
      yx7 P md ops Q S z fuel (listed.setIfInBounds i true) (a.put oi.dst v) w→yx7 P md ops Q S z (fuel+1) listed a w:=by
  intro fuel
  induction fuel with
  |zero=>
    intro listed a w hu _ hr hy hS H
    refine⟨fun h=>(by rw [h]at hr;cases hr),fun j hj=> ?_⟩
    by_cases hji:j=i
    · subst hji;exact hy.wpOp hi hS ⟨fun _=>hS,H⟩
    · have:=ready_mono hj hji
      rw [H.1]at this
      cases this
  |succ fuel ih=>
    intro listed a w hu hfree hr hy hS H
    refine⟨fun h=>(by rw [h]at hr;cases hr),fun j hj=> ?_⟩
    by_cases hji:j=i
    · subst hji;exact hy.wpOp hi hS ⟨fun _=>hS,H⟩
    · have hjz:j≠z:=fun e=>zfv hc (hu q List.mem_cons_self) (e▸hj)
      have h1:=H.2 j (ready_mono hj hji)
      obtain⟨hjun,oj,hoj,hall⟩:=mem_ready.1 hj
      have hnot:∀e∈oj.after,Region.binds md e=true→e.on≠i:=fun e he hb heq=>by
        have h1:=hall e he hb
        have h0:=(mem_ready.1 hr).1
        rw [heq]at h1
        rcases Nat.lt_or_ge i listed.size with h'|h'
        · simp [h']at h0 h1;rw [h0]at h1;cases h1
        · simp [Array.getElem?_eq_none h']at h1
      have h2:=wpOp_putIf hoj (hfree j oj hoj hji hjun hnot) (fun cs b=>hsel i oi cs b hi) (fun cs b=>hsel j oj cs b hoj) hQ hy h1
      have hfree':∀k ok,ops[k]? =some ok→k≠i→(listed.setIfInBounds j true).getD k true=false→
          (∀e∈ok.after,Region.binds md e=true→e.on≠i)→oi.apart ops ok=true:=fun k ok hk hki hun hno=>by
        refine hfree k ok hk hki ?_ hno
        by_cases hjk:j=k
        · subst hjk;exact hjun
        · rw [getD_set_ne true hjk]at hun;exact hun
      have hu':∀p∈q::ps,(listed.setIfInBounds j true).getD p true=false:=fun p hp=>by
        have hjp:j≠p:=fun e=>zie (q::ps) z hc hu p hp (fun e'=>hji (e.trans e')) (e▸hj)
        rw [getD_set_ne true hjp]
        exact hu p hp
      refine wpOp_mono (fun a' w' h3=>⟨fun _=>h3.2.1 hjz,ih (listed.setIfInBounds j true) a' w' hu' hfree' (ready_mono hr (Ne.symm hji)) h3.1 (h3.2.1 hjz) ?_⟩) h2
      rw [Array.setIfInBounds_comm _ _ hji]
      exact h3.2.2
theorem ywe {i:Nat} {oi:Oper} {v:Value} {fuel:Nat} {listed:Array Bool} {a:Act} {w:World} (q:Nat) (ps:List Nat) (hi:ops[i]? =some oi)
    (hs:Region.noSelect ops=true) (hf:Region.free md ops listed i=true) (hr:(Region.ready md ops listed).contains i=true)
    (hc:yzl md ops i z (q::ps)=true) (hu:(q::ps).all (fun p=> !listed.getD p true)=true)
    (hQ:∀c a w,Q (.panic c) (a.put oi.dst v) w→Q (.panic c) a w) (hy:YieldsIf P ops S oi v a) (hS:S w)
    (h:yx7 P md ops Q S z fuel (listed.setIfInBounds i true) (a.put oi.dst v) w):yx7 P md ops Q S z (fuel+1) listed a w:=
  zh2 hi (Region.noSelect_spec hs) hQ hc fuel listed a w (fun p hp=>by have:=List.all_eq_true.1 hu p hp;simpa using this) (Region.free_spec hi hf) (by simpa using hr) hy hS h
def AllReadyZ (P:Program) (md:Region.Mode) (ops:Array Oper) (Q:Exit→Act→World→Prop) (S:World→Prop) (z fuel:Nat) (listed:Array Bool) (a:Act) (w:World) (rs:List Nat):Prop:=
  ∀i∈rs,wpOp P ops Q i (fun a' w'=>(i≠z→S w')∧yx7 P md ops Q S z fuel (listed.setIfInBounds i true) a' w') a w
theorem AllReadyZ.nil {fuel:Nat} {listed:Array Bool} {a:Act} {w:World}:AllReadyZ P md ops Q S z fuel listed a w []:=fun _ h=>by cases h
theorem AllReadyZ.cons {fuel:Nat} {listed:Array Bool} {a:Act} {w:World} {i:Nat} {o:Oper} {rs:List Nat} (ho:ops[i]? =some o)
    (h:∀K':Act→World→Prop,Shut (∀a w,S w→(S w→yx7 P md ops Q S z fuel (listed.setIfInBounds i true) a w)→K' a w)→if Region.wanted o (yielded ops a.tmps)=true then Oper.wp P o a w K' Q else K' (a.put o.dst undef) w)
    (hs:AllReadyZ P md ops Q S z fuel listed a w rs):AllReadyZ P md ops Q S z fuel listed a w (i::rs):=fun j hj=>by
  rcases List.mem_cons.1 hj with rfl|hj
  · exact wpOp_step ho (fun K' hK=>h K' (fun a w hS hW=>hK a w ⟨fun _=>hS,hW hS⟩))
  · exact hs j hj
theorem AllReadyZ.last {fuel:Nat} {listed:Array Bool} {a:Act} {w:World} {o:Oper} (ho:ops[z]? =some o)
    (h:∀K':Act→World→Prop,Shut (∀a w,yx7 P md ops Q S z fuel (listed.setIfInBounds z true) a w→K' a w)→if Region.wanted o (yielded ops a.tmps)=true then Oper.wp P o a w K' Q else K' (a.put o.dst undef) w):
    AllReadyZ P md ops Q S z fuel listed a w [z]:=fun j hj=>by
  rcases List.mem_cons.1 hj with rfl|hj
  · exact wpOp_step ho (fun K' hK=>h K' (fun a w hW=>hK a w ⟨fun e=>absurd rfl e,hW⟩))
  · cases hj
theorem yfb {rs:List Nat} {fuel:Nat} {listed:Array Bool} {a:Act} {w:World} (hr:Region.ready md ops listed=rs) (hne:rs≠ [])
    (h:AllReadyZ P md ops Q S z fuel listed a w rs):yx7 P md ops Q S z (fuel+1) listed a w:=⟨fun h0=>absurd (hr▸h0) hne,hr▸h⟩
theorem yx2 {listed:Array Bool} {a:Act} {w:World} (hr:Region.ready md ops listed= []) (h:Q .normal a w):
    ∀fuel,yx7 P md ops Q S z fuel listed a w
  |0=>⟨hr,h⟩
  |_+1=>⟨fun _=>h,by rw [hr];simp⟩
theorem yx1 {id:Nat} {a:Act} {w:World} (z:Nat) (S:World→Prop) (hm:P.follows .mixedOrders=true) (hS:S w.drew)
    (h:S w.drew→yx7 P .any ops Q S z ops.size (Array.replicate ops.size false) a w.drew):(Code.region id ops true).wp P Q a w:=
  wp_region_any hm (zfc _ _ _ _ (h hS))
end
end Go.Proofs.YtghndljgadpijaaGreat

/- The specification's copy of a state, registers of any number. -/
namespace Go.Proofs.YtghndljgadpijaaGreat
open Go.RowKit
theorem ze8 {P:Program} {md:Region.Mode} {ops:Array Oper} {Q:Exit→Act→World→Prop} {S:World→Prop} {z fuel:Nat} {listed:Array Bool} {a:Act} {w:World} (i:Nat) (oi:Oper) (v:Value)
  (h:yx7 P md ops Q S z fuel (listed.setIfInBounds i true) (a.put oi.dst v) w) (hi:ops[i]? =some oi:=by rfl)
  (hs:Region.noSelect ops=true:=by kernel_rfl) (hf:Region.free md ops listed i=true:=by kernel_rfl) (hr:(Region.ready md ops listed).contains i=true:=by kernel_rfl)
  (hc:yzl md ops i z [i]=true:=by kernel_rfl) (hu: [i].all (fun p=> !listed.getD p true)=true:=by kernel_rfl)
  (hQ:∀c a w,Q (.panic c) (a.put oi.dst v) w→Q (.panic c) a w:=by exact fun _ _ _ h=>h)
  (hy:YieldsIf P ops S oi v a:=by exact Or.inl ⟨by rfl,by(intro wX hSw;(try dsimp only at hSw);go_simp;(try exact IntWalk.i64_in _ (by omega)))⟩) (hS:S w:=by assumption):yx7 P md ops Q S z (fuel+1) listed a w:=
  ywe i [] hi hs hf hr hc hu hQ hy hS h
theorem zad {p:Prop} (h:p):Hid p:=h
theorem yxz {w:World} {B:Nat} {e:TypeId} {size n:Nat} {v:Value} {xs:List Value} (h:w.ownsRow B e size v n xs):∀k,v.ownBlock=some k→B≤k∧k<w.heap.size:=fun _ hk=>⟨yx4 h hk,owns_lt h hk⟩
theorem zdk {w w':World} {B g:Nat} {e:TypeId} {size n:Nat} {v v':Value} {xs:List Value} (hw:zdc w v v') (hv:v.ownBlock=some g) (h:w'.ownsRow B e size v' n xs):∀k,v'.ownBlock=some k→k=g∨(w.heap.size≤k∧k<w'.heap.size):=fun k hk=>by
  rcases hw with h9|h9
  · rw [h9,hv]at hk
    exact .inl (by simpa using hk.symm)
  · exact .inr ⟨h9 k hk,owns_lt h hk⟩
set_option maxRecDepth 100000 in
set_option maxHeartbeats 8000000 in
theorem zep (x vr:Value) (s:St) (w:World) (hl:s.r.length≤1048577) (hx:x= .agg #[vr,.int .i64 s.q,.int .i64 s.d]) (h:IsD w vr (ywr s.r)):
    Calls Tryz.prog 179 #[x] w fun r w'=>∃v,r= .returned (.agg #[v,.int .i64 s.q,.int .i64 s.d])∧w'.ownsRow w.heap.size 3 1 v s.r.length (intCells s.r)∧Below w.heap.size w w':=by
  obtain⟨ar,cr,rfl,_⟩:=IsD.len h
  subst hx
  obtain⟨i3,hi3,hiz0,hiz1,hiz2⟩:=info_parts zf8
  obtain⟨W0,hW0⟩:∃W0,(w.alloc (.cells #[.slice ar s.r.length cr,.int .i64 s.q,.int .i64 s.d] 94)).alloc (.cells #[.slice none 0 0,.int .i64 0,.int .i64 0] 94)=W0:=⟨_,rfl⟩
  have hz0:W0.heap.size=w.heap.size+1+1:=by rw [←hW0];simp
  have hb0:=beA2 hW0
  have HBw:=zad hb0
  have HW0:=zad hW0
  have BX:=hdq (bkA2 hW0)
  have BZ:=hdq (bkB2 hW0)
  have D1:=zad (h.under hb0)
  have hz0':W0.heap.size≤w.heap.size+1+1∧w.heap.size+1+1≤W0.heap.size:=by omega
  clear hW0 hb0 h hz0
  go_enter Tryz.func179,Tryz.ntmps179
  go_wp2_with fail
  rw [HW0.out]
  clear HW0
  have hzd:W0.drew.heap.size≤W0.heap.size∧W0.heap.size≤W0.drew.heap.size:=⟨Nat.le_refl _,Nat.le_refl _⟩
  have B_0:Hid (Below W0.heap.size W0 W0.drew):=(Below.refl _ W0).drew
  have X_0:=zad BX.out.drew
  have Z_0:=zad BZ.out.drew
  have D1_0:=zad (D1.out.under (Below.refl _ W0).drew)
  have Q_0:Hid (W0.drew.cell? ⟨w.heap.size,0,none⟩=some (.slice ar s.r.length cr)∧W0.drew.cell? ⟨w.heap.size,1,none⟩=some (.int .i64 s.q)∧W0.drew.cell? ⟨w.heap.size,2,none⟩=some (.int .i64 s.d)):=⟨X_0.out.cell rfl,X_0.out.cell rfl,X_0.out.cell rfl⟩
  refine yx1 9 (fun W=>W.cell? ⟨w.heap.size,0,none⟩=some (.slice ar s.r.length cr)∧W.cell? ⟨w.heap.size,1,none⟩=some (.int .i64 s.q)∧W.cell? ⟨w.heap.size,2,none⟩=some (.int .i64 s.d)) (by kernel_rfl) Q_0.out (fun hHeld=> ?_)
  refine ze8 1 {dst:=some 4,op:=Op.fieldAddr 94 (Operand.tmp 1) 0,type:=0,pos:=_,after:=_,guard:=none} (.pointer (some ⟨w.heap.size,0,none⟩)) ?_
  try simp only [Act.put,q1,q2,q3]
  refine ze8 2 {dst:=some 5,op:=Op.load 22 (Operand.tmp 4),type:=22,pos:=_,after:=_,guard:=none} (.slice ar s.r.length cr) ?_
  try simp only [Act.put,q1,q2,q3]
  refine ze8 4 {dst:=some 7,op:=Op.fieldAddr 94 (Operand.tmp 1) 1,type:=0,pos:=_,after:=_,guard:=none} (.pointer (some ⟨w.heap.size,1,none⟩)) ?_
  try simp only [Act.put,q1,q2,q3]
  refine ze8 5 {dst:=some 8,op:=Op.load 3 (Operand.tmp 7),type:=3,pos:=_,after:=_,guard:=none} (.int .i64 s.q) ?_
  try simp only [Act.put,q1,q2,q3]
  refine ze8 6 {dst:=some 9,op:=Op.fieldAddr 94 (Operand.tmp 1) 2,type:=0,pos:=_,after:=_,guard:=none} (.pointer (some ⟨w.heap.size,2,none⟩)) ?_
  try simp only [Act.put,q1,q2,q3]
  refine ze8 7 {dst:=some 10,op:=Op.load 3 (Operand.tmp 9),type:=3,pos:=_,after:=_,guard:=none} (.int .i64 s.d) ?_
  try simp only [Act.put,q1,q2,q3]
  refine yfb (rs:= [0]) (by kernel_rfl) (by simp) ?_
  refine AllReadyZ.cons (o:= {dst:=some 3,op:=Op.buildSlice 22 0 #[],type:=22,pos:=_,after:=_,guard:=none}) rfl (fun K hK=> ?_) AllReadyZ.nil
  obtain⟨g8,hg8⟩:∃g,g=W0.heap.size:=⟨_,rfl⟩
  obtain⟨w1,hw1⟩:∃V,(W0.alloc (.cells #[] 3)).drew=V:=⟨_,rfl⟩
  have HW1:=zad hw1
  have HG8:Hid (g8=W0.heap.size):=hg8
  have B_2:Hid (Below W0.heap.size W0 w1):=by(rw [←hw1];exact B_0.out.alloc B_0.out.size _)
  have X_2:Hid (Bk w1 w.heap.size 94 #[.slice ar s.r.length cr,.int .i64 s.q,.int .i64 s.d]):=by(rw [←hw1];exact X_0.out.alloc _)
  have Z_2:Hid (Bk w1 (w.heap.size+1) 94 #[.slice none 0 0,.int .i64 0,.int .i64 0]):=by(rw [←hw1];exact Z_0.out.alloc _)
  have D1_2:Hid (IsD w1 (.slice ar s.r.length cr) (ywr s.r)):=by(rw [←hw1];exact D1_0.out.under ((Below.refl _ _).alloc (Nat.le_refl _) _))
  clear B_0 X_0 Z_0 D1_0
  have E_2:Hid (w1.ownsRow W0.heap.size 3 1 (.slice (some ⟨g8,0,none⟩) 0 0) 0 []):=by(rw [←hw1,hg8];exact yx8 W0 3 1)
  have hz1:g8<w1.heap.size:=by(rw [←hw1,hg8];exact(Bk.new W0 3 #[]).lt)
  have hzy1:W0.heap.size≤g8∧g8≤W0.heap.size:=by omega
  clear hw1 hg8
  go_simp
  rw [HW1.out,←HG8.out]
  have Q_2:Hid (w1.cell? ⟨w.heap.size,0,none⟩=some (.slice ar s.r.length cr)∧w1.cell? ⟨w.heap.size,1,none⟩=some (.int .i64 s.q)∧w1.cell? ⟨w.heap.size,2,none⟩=some (.int .i64 s.d)):=⟨X_2.out.cell rfl,X_2.out.cell rfl,X_2.out.cell rfl⟩
  refine hK.out _ _ Q_2.out (fun hHeld=> ?_)
  clear hK K
  try simp only [Act.put,q1,q2,q3]
  refine yfb (rs:= [3]) (by kernel_rfl) (by simp) ?_
  refine AllReadyZ.cons (o:= {dst:=some 6,op:=Op.call {callee:=Callee.builtin Builtin.append,args:= #[Operand.tmp 3,Operand.tmp 5],argTypes:= #[22,22]},type:=22,pos:=_,after:=_,guard:=none}) rfl (fun K hK=> ?_) AllReadyZ.nil
  refine ywl (w:=w1) rfl (.tmp 3) (.tmp 5) 22 rfl W0.heap.size 3 i3 (.int .i64 0) 1 8 Tryz.underlying22 hi3 hiz0 hiz1 hiz2 rfl (by decide) (.slice (some ⟨g8,0,none⟩) 0 0) 0 [] rfl E_2.out (.slice ar s.r.length cr) s.r.length (intCells s.r) rfl D1_2.out.srcI (yzh _) (by unfold maxLen;omega) (by omega) B_2.out.size ?_
  intro va w3 hown hgrow hnew
  rw [Nat.zero_add,List.nil_append]at hown
  obtain⟨av,cv,hva⟩:=yfm hown
  subst hva
  have hgt:=yw9 hgrow
  have hS8:∀k,(Value.slice (some ⟨g8,0,none⟩) 0 0).ownBlock=some k→k=g8:=fun k e=>by simpa [Value.ownBlock] using e.symm
  have hz3:w1.heap.size≤w3.heap.size:=hgrow.size
  have B_4:=zad (B_2.out.grown hgrow B_2.out.size (fun k e=>by have:=hS8 k e;omega))
  have X_4:=zad (X_2.out.turns hgt (fun e=>by have:=hS8 _ e;omega))
  have Z_4:=zad (Z_2.out.turns hgt (fun e=>by have:=hS8 _ e;omega))
  clear B_2 X_2 Z_2 D1_2 E_2
  have A_4:=zad hown
  clear hown hgrow hnew hgt hS8
  have Q_4:Hid (w3.cell? ⟨w.heap.size,0,none⟩=some (.slice ar s.r.length cr)∧w3.cell? ⟨w.heap.size,1,none⟩=some (.int .i64 s.q)∧w3.cell? ⟨w.heap.size,2,none⟩=some (.int .i64 s.d)):=⟨X_4.out.cell rfl,X_4.out.cell rfl,X_4.out.cell rfl⟩
  refine hK.out _ _ Q_4.out (fun hHeld=> ?_)
  clear hK K
  try simp only [Act.put,q1,q2,q3]
  refine ze8 8 {dst:=some 11,op:=Op.build 94 #[(0,Operand.tmp 6),(1,Operand.tmp 8),(2,Operand.tmp 10)],type:=94,pos:=_,after:=_,guard:=none} (.agg #[.slice av s.r.length cv,.int .i64 s.q,.int .i64 s.d]) ?_
  try simp only [Act.put,q1,q2,q3]
  refine yfb (rs:= [9]) (by kernel_rfl) (by simp) ?_
  refine AllReadyZ.last (o:= {dst:=none,op:=Op.store 94 (Operand.tmp 2) (Operand.tmp 11),type:=0,pos:=_,after:=_,guard:=none}) rfl (fun K hK=> ?_)
  obtain⟨q0,q1,q2⟩:=c3_3 Z_4.out
  have qf:=Z_4.out.free
  go_simp
  clear qf q0 q1 q2
  refine hK.out _ _ ?_
  clear hK K
  try simp only [Act.put,q1,q2,q3]
  refine yx2 (by kernel_rfl) ?_ _
  obtain⟨X5,hX5⟩:∃X5,put3s w3 (w.heap.size+1) (.slice av s.r.length cv) (.int .i64 s.q) (.int .i64 s.d)=X5:=⟨_,rfl⟩
  have hP:=Z_4.out.put3s (.slice av s.r.length cv) (.int .i64 s.q) (.int .i64 s.d)
  have ht:=zej w3 (w.heap.size+1) (.slice av s.r.length cv) (.int .i64 s.q) (.int .i64 s.d)
  rw [hX5]at hP ht
  unfold put3s at hX5
  rw [hX5]
  clear hX5
  go_wp2
  obtain⟨t0,t1,t2⟩:=c3_3 hP
  refine bodyPost_ret (v:= .agg #[.slice av s.r.length cv,.int .i64 s.q,.int .i64 s.d]) (by simp [results,Tryz.results179,go_sem,t0,t1,t2]) rfl ⟨_,rfl,yw0 (ypa A_4.out ht (fun k hk e=>by have:=yx4 A_4.out hk;omega)) (by omega),(HBw.out.trans (B_4.out.mono (by omega))).trans (ht.to_below (fun k e=>by omega) (by have:=B_4.out.size;omega))⟩
end Go.Proofs.YtghndljgadpijaaGreat

/- A drawn region by one invariant over what has been listed, instead of one fact for each state: whatever is ready keeps it. -/
namespace Go.Proofs.YtghndljgadpijaaGreat
open Go
def unl (l:Array Bool):Nat:=l.toList.count false
theorem unl_zero {l:Array Bool} (h:unl l=0) (i:Nat):l.getD i true=true:=by
  cases e:l.getD i true with
  |true=>rfl
  |false=>
    have hi:i<l.size:=by
      rcases Nat.lt_or_ge i l.size with h1|h1
      · exact h1
      · simp [Array.getD,Nat.not_lt.2 h1]at e
    have:false∈l.toList:=by
      simp [Array.getD,hi]at e
      rw [←e]
      simp
    have:=List.count_pos_iff.2 this
    unfold unl at h
    omega
theorem unl_set {l:Array Bool} {i:Nat} (h:l.getD i true=false):unl (l.setIfInBounds i true)<unl l:=by
  have hi:i<l.size:=by
    rcases Nat.lt_or_ge i l.size with h1|h1
    · exact h1
    · simp [Array.getD,Nat.not_lt.2 h1]at h
  have he:l.toList[i]'(by simpa using hi)=false:=by
    simp [Array.getD,hi]at h
    simpa using h
  have hm:false∈l.toList:=he▸List.getElem_mem _
  have hp:=List.count_pos_iff.2 hm
  unfold unl
  rw [Array.toList_setIfInBounds,List.count_set (by simpa using hi),he]
  have e1:(true==false)=false:=rfl
  simp only [beq_self_eq_true,if_true,e1,Bool.false_eq_true,if_false]
  omega
theorem yk3 {l:Array Bool} {i j:Nat} {b:Bool} (h:l.getD j b=true):(l.setIfInBounds i true).getD j b=true:=by
  by_cases e:i=j
  · subst e
    rcases Nat.lt_or_ge i l.size with hj|hj
    · simp [Array.getD,hj]
    · simp [Array.getD,Nat.not_lt.2 hj]at h⊢
      exact h
  · rw [getD_set_ne b e]
    exact h
section
variable {P : Program} {ops : Array Oper} {Q : Exit → Act → World → Prop} {md : Region.Mode} {S : World → Prop} {z : Nat}
def topoB (md:Region.Mode) (ops:Array Oper):Bool:=(List.range ops.size).all fun i=>((ops[i]?).map fun o=>o.after.all fun e=> !Region.binds md e||decide (e.on<i)).getD false
theorem zm5 {l:Array Bool} (hT:topoB md ops=true) (hl:l.size=ops.size) (h:Region.ready md ops l= []):∀i,i<ops.size→l.getD i true=true:=by
  intro i
  induction i using Nat.strongRecOn with
  |ind i ih=>
    intro hi
    cases e:l.getD i true with
    |true=>rfl
    |false=>
      exfalso
      have h1:=List.all_eq_true.1 hT i (List.mem_range.2 hi)
      have hm:i∈Region.ready md ops l:=mem_ready.2 ⟨e,ops[i],Array.getElem?_eq_getElem hi,fun d hd hb=>by
        rw [Array.getElem?_eq_getElem hi]at h1
        have h2:=Array.all_eq_true'.1 (show(ops[i].after.all fun e=> !Region.binds md e||decide (e.on<i))=true from h1) d hd
        rw [hb]at h2
        have h3:d.on<i:=by simpa using h2
        have h4:=ih d.on h3 (by omega)
        have h5:d.on<l.size:=by omega
        simpa [Array.getD,h5] using h4⟩
      rw [h]at hm
      cases hm
theorem zdd (I:Array Bool→Act→World→Prop) (hT:topoB md ops=true) (hsz:∀l a w,I l a w→l.size=ops.size)
    (hend:∀l a w,I l a w→(∀i,i<ops.size→l.getD i true=true)→Q .normal a w)
    (hstep:∀l a w,I l a w→ ∀i o,ops[i]? =some o→l.getD i true=false→(∀e∈o.after,Region.binds md e=true→l.getD e.on false=true)→wpOp P ops Q i (fun a' w'=>(i≠z→S w')∧I (l.setIfInBounds i true) a' w') a w):
    ∀(fuel:Nat) (l:Array Bool) (a:Act) (w:World),I l a w→unl l≤fuel→yx7 P md ops Q S z fuel l a w
  |0,l,a,w,hI,hu=>by
    have hall:=unl_zero (l:=l) (by omega)
    refine⟨List.eq_nil_iff_forall_not_mem.2 fun i hi=> ?_,hend l a w hI fun i _=>hall i⟩
    have:=(mem_ready.1 hi).1
    rw [hall i]at this
    cases this
  |fuel+1,l,a,w,hI,hu=>by
    refine⟨fun h=>hend l a w hI (zm5 hT (hsz l a w hI) h),fun i hi=> ?_⟩
    obtain⟨hj,o,ho,hall⟩:=mem_ready.1 hi
    exact wpOp_mono (fun a' w' h=>⟨h.1,zdd I hT hsz hend hstep fuel _ a' w' h.2 (by have:=unl_set hj;omega)⟩) (hstep l a w hI i o ho hj hall)
def depB (md:Region.Mode) (ops:Array Oper) (i p:Nat):Bool:=((ops[i]?).map fun o=>o.after.any fun e=>Region.binds md e&&e.on==p).getD false
theorem dep_on {l:Array Bool} {i p:Nat} {o:Oper} (ho:ops[i]? =some o) (hd:∀e∈o.after,Region.binds md e=true→l.getD e.on false=true) (hc:depB md ops i p=true):l.getD p true=true:=by
  unfold depB at hc
  rw [ho]at hc
  obtain⟨e,he,h1⟩:∃e,e∈o.after∧(Region.binds md e=true∧e.on=p):=by
    have h0:(o.after.any fun e=>Region.binds md e&&e.on==p)=true:=hc
    simp only [Array.any_eq_true,Bool.and_eq_true,beq_iff_eq]at h0
    obtain⟨k,hk,h1⟩:=h0
    exact⟨o.after[k],Array.getElem_mem hk,h1⟩
  have h2:=hd e he h1.1
  rw [h1.2]at h2
  rcases Nat.lt_or_ge p l.size with h'|h'
  · simpa [Array.getD,h'] using h2
  · simp [Array.getD,Nat.not_lt.2 h']
theorem zpp {i n:Nat} (h:(List.range n).all (fun p=>depB md ops i p)=true) (p:Nat) (hp:p<n):depB md ops i p=true:=List.all_eq_true.1 h p (List.mem_range.2 hp)
theorem yxg {i:Nat} {o:Oper} {a:Act} {w:World} {J:Act→World→Prop} (ho:ops[i]? =some o)
    (h:∀K:Act→World→Prop,Shut (∀a w,(i≠z→S w)→J a w→K a w)→if Region.wanted o (yielded ops a.tmps)=true then Oper.wp P o a w K Q else K (a.put o.dst undef) w):wpOp P ops Q i (fun a' w'=>(i≠z→S w')∧J a' w') a w:=
  wpOp_step ho fun K hK=>h K (fun a w h1 h2=>hK a w ⟨h1,h2⟩)
end
end Go.Proofs.YtghndljgadpijaaGreat

/- A row of one's own or none; an append to a row that is empty; what is listed. -/
namespace Go.Proofs.YtghndljgadpijaaGreat
open Go.RowKit
theorem zb1 (W:World) (xs:Array Value) (T:TypeId):∃X V,Hid (X=W.heap.size)∧Hid (W.alloc (.cells xs T)=V)∧Below W.heap.size W V∧Bk V X T xs:=⟨_,_,rfl,rfl,(Below.refl _ W).alloc (Nat.le_refl _) _,Bk.new W _ _⟩
theorem zaf {w:World} {j:Nat} {T U:TypeId} (h:∃vs,Bk w j T vs) (k:∃vs,Bk w j U vs) (hT:T≠U):False:=by
  obtain⟨vs,h⟩:=h
  obtain⟨us,k⟩:=k
  have e:=h.symm.trans k
  simp only [Option.some.injEq,Obj.cells.injEq]at e
  exact hT e.2.1
theorem zov {P:Program} {ops:Array Oper} {o:Oper} {a:Act} {w:World} {K:Act→World→Prop} {Q:Exit→Act→World→Prop} {E:Prop}
    (hg:o.guard=none) (s x:Operand) (t:TypeId) (hop:o.op=Op.call {callee:=Callee.builtin Builtin.append,args:= #[s,x],argTypes:= #[t,t]})
    (e:TypeId) (i:TypeInfo) (z:Value) (size bytes:Nat) (h1:P.underlying t=some (.slice e)) (h2:P.info? e=some i) (h3:i.zero=some z) (h4:i.size=size) (h5:i.bytes=bytes) (h6:z.cells.size=size) (h7:0<size)
    (g:Nat) (hs:a.eval s= .slice (some ⟨g,0,none⟩) 0 0) (u:Value) (m:Nat) (news:List Value) (hx:a.eval x=u) (hc:SrcC w u size m news) (hm:0<m) (b1:m≤maxLen) (b2:m*bytes≤140737488355328)
    (hK:∀v' w',w'.ownsRow w.heap.size e size v' m news→Below w.heap.size w w'→K (a.put o.dst v') w'):
    if Region.wanted o (yielded ops a.tmps)=true then Oper.wp P o a w K Q else E:=by
  have hw:Region.wanted o (yielded ops a.tmps)=true:=by simp [Region.wanted,hg]
  rw [if_pos hw]
  obtain⟨hn,au,c,rfl,hc⟩:=hc
  obtain⟨b,off,rfl,hlt,hcc⟩:=hc.resolve_left (by omega)
  obtain⟨v',w',hrun,r1,r2⟩:=run_append_arg_grows (P:=P) w t o.type e i z size bytes h1 h2 h3 h4 h5 h6 h7 ⟨g,0,none⟩ 0 0 [] (by simp) (fun j u hu=>by simp at hu) ⟨b,off,none⟩ m c news hn (fun j u hu=>by
    have hj:j<m*size:=by rw [←hn];exact(List.getElem?_eq_some_iff.1 hu).1
    rw [Addr.add_lit,hcc j hj]
    exact hu) (by omega) (by omega) (by rw [Nat.zero_add];exact b2)
  rw [Nat.zero_add,List.nil_append]at r1
  unfold Oper.wp
  simp [execOp,hop,resolve,invoke,builtin,hs,hx,hrun,Result.andThen]
  exact hK v' w' r1 ((Below.refl _ w).grown r2 (Nat.le_refl _) (fun k e=>by cases e))
theorem zke {B:Nat} {e:TypeId} {size n:Nat} {w:World} {a:Option Addr} {l c:Nat} {xs:List Value} (h:w.ownsRow B e size (.slice a l c) n xs):c≤maxLen:=by
  obtain⟨_,⟨h1,_⟩|⟨g,cap,cur,h1,_,_,_,h2,_⟩⟩:=h
  · cases h1;exact Nat.zero_le _
  · cases h1;exact h2
def OwnN (B:Nat) (e:TypeId) (size:Nat) (w:World) (v:Value) (n:Nat) (xs:List Value):Prop:=∃a c,v= .slice a n c∧c≤maxLen∧(n=0∨w.ownsRow B e size v n xs)
theorem OwnN.turns {S:Nat→Prop} {B:Nat} {e T:TypeId} {size:Nat} {w w':World} {v:Value} {n:Nat} {xs:List Value} (h:OwnN B e size w v n xs) (ht:Turns S w w') (hS:∀j,S j→ ∃vs,Bk w j T vs) (hT:T≠e):OwnN B e size w' v n xs:=by
  obtain⟨a,c,h1,h2,h3⟩:=h
  refine⟨a,c,h1,h2,h3.imp id fun h=>ypa h ht fun j hj hs=> ?_⟩
  obtain⟨vs,hk⟩:=hS j hs
  exact ywp h hk hT hj
theorem OwnN.below {B:Nat} {e:TypeId} {size:Nat} {w w':World} {v:Value} {n:Nat} {xs:List Value} (h:OwnN B e size w v n xs) (hb:Below w.heap.size w w'):OwnN B e size w' v n xs:=by
  obtain⟨a,c,h1,h2,h3⟩:=h
  exact⟨a,c,h1,h2,h3.imp id fun h=>owB h hb⟩
theorem OwnN.own {B:Nat} {e:TypeId} {size:Nat} {w:World} {v:Value} {n:Nat} {xs:List Value} (h:OwnN B e size w v n xs) (hl:xs.length=n*size):∃A:Nat→Prop,OwnD w A v (flat size n xs)∧ ∀j,A j→B≤j∧j<w.heap.size∧ ∃vs,Bk w j e vs:=by
  obtain⟨a,c,rfl,h2,rfl|h⟩:=h
  · exact⟨fun _=>False,.nil _ _ _ _ _ h2,fun _ h=>h.elim⟩
  · refine⟨_,(yxq hl h).own,fun j hj=>⟨yx4 h hj,owns_lt h hj,?_⟩⟩
    obtain⟨_,⟨h9,_⟩|⟨g,cap,cur,h9,_,hc,_⟩⟩:=h
    · rw [h9]at hj;simp [Value.ownBlock]at hj
    · rw [h9]at hj;simp [Value.ownBlock]at hj
      subst hj
      exact⟨_,hc⟩
theorem zd2 {P:Program} {ops:Array Oper} {o:Oper} {a:Act} {w:World} {K:Act→World→Prop} {Q:Exit→Act→World→Prop} {E:Prop}
    (hg:o.guard=none) (s x:Operand) (t:TypeId) (hop:o.op=Op.call {callee:=Callee.builtin Builtin.append,args:= #[s,x],argTypes:= #[t,t]})
    (e:TypeId) (i:TypeInfo) (z:Value) (size bytes:Nat) (h1:P.underlying t=some (.slice e)) (h2:P.info? e=some i) (h3:i.zero=some z) (h4:i.size=size) (h5:i.bytes=bytes) (h6:z.cells.size=size) (h7:0<size)
    (g:Nat) (hs:a.eval s= .slice (some ⟨g,0,none⟩) 0 0) (u:Value) (m:Nat) (news:List Value) (hx:a.eval x=u) (hc:SrcC w u size m news) (b1:m≤maxLen) (b2:m*bytes≤140737488355328)
    (hK:∀av cv w',cv≤maxLen→(m=0∨w'.ownsRow w.heap.size e size (.slice av m cv) m news)→Below w.heap.size w w'→K (a.put o.dst (.slice av m cv)) w'):
    if Region.wanted o (yielded ops a.tmps)=true then Oper.wp P o a w K Q else E:=by
  rcases Nat.eq_zero_or_pos m with hm|hm
  · have hw:Region.wanted o (yielded ops a.tmps)=true:=by simp [Region.wanted,hg]
    rw [if_pos hw]
    subst hm
    obtain⟨_,au,c,rfl,_⟩:=hc
    have hr:(Builtin.append_ #[t,t] o.type #[.slice (some ⟨g,0,none⟩) 0 0,.slice au 0 c]).run P w= .ok (.slice (some ⟨g,0,none⟩) 0 0) w:=by
      cases au<;>simp [loadCells,loadCellsFrom,Builtin.append_,run_underlying h1,sizeOf,typeInfo,h2,Builtin.lenOf,Builtin.firstCells,storeCells]
    unfold Oper.wp execOp
    simp only [hop,resolve,invoke,builtin,Sem.run_bind,Sem.run_pure,Result.andThen_ok,List.map_toArray,List.map_cons,List.map_nil,hs,hx,hr]
    exact hK _ _ _ (Nat.zero_le _) (.inl rfl) (Below.refl _ w)
  · refine zov hg s x t hop e i z size bytes h1 h2 h3 h4 h5 h6 h7 g hs u m news hx hc hm b1 b2 fun v' w' ho hb=> ?_
    obtain⟨av,cv,rfl⟩:=yfm ho
    exact hK av cv w' (zke ho) (.inr ho) hb
abbrev T (l:Array Bool) (i:Nat):Prop:=l.getD i true=true
theorem off5 {l:Array Bool} {i:Nat} {p:Prop} (h:l.getD i true=false) (k:T l i):p:=by
  rw [T,h]at k
  cases k
end Go.Proofs.YtghndljgadpijaaGreat

