/- TPs, TPt, TPsA, TPsB, TPtA, TPsC, TPsD -/
import Derived.Test.YtghndljgadpijaaGreatExactCollectG03
import Derived.Test.YtghndljgadpijaaGreatExactCollectG01
import Derived.Deep.RegionHeld3
/- What was done: one event, the state ahead of it, what was sent and told; rows of it as data. -/
namespace Go.Proofs.YtghndljgadpijaaGreat
open Go.RowKit
theorem zk6 (L:Nat→Nat) (a:Nat):∀b,sumL L (a+b)=sumL L a+sumL (fun i=>L (a+i)) b
  |0=>by simp [sumL]
  |b+1=>by
    rw [←Nat.add_assoc]
    simp only [sumL]
    rw [zk6 L a b]
    omega
theorem zee {c:Nat} {h:Nat→Nat→Nat}:∀n,sumL (fun j=>h (j/c) (j%c)) (n*c)=sumL (fun i=>sumL (fun r=>h i r) c) n
  |0=>by simp [sumL]
  |n+1=>by
    rw [Nat.succ_mul,zk6,zee n]
    simp only [sumL]
    congr 1
    refine zar (fun r hr=> ?_)
    rw [Nat.mul_comm n c,Nat.mul_add_div (by omega),Nat.div_eq_of_lt hr,Nat.add_zero,Nat.mul_add_mod,Nat.mod_eq_of_lt hr]
theorem zk4 (L:Nat→Nat) {n i:Nat} (h:i<n):L i≤sumL L n:=by
  have h1:=zcs L (show i+1≤n from h)
  simp only [sumL]at h1
  omega
structure Ps where
  e:Ev
  b:St
  s:List Ev
  x:List Em
def psAt (l:List Ps) (i:Nat):Ps:=l.getD i ⟨⟨0,0,0,0,0,0,0⟩,⟨[],0,0⟩,[],[]⟩
def Ps.cell (p:Ps):Nat→Dat
  |0=>Dat.val (.int .i64 p.e.t)
  |1=>Dat.val (.int .i64 p.e.s)
  |2=>Dat.val (.int .i64 p.e.q)
  |3=>Dat.val (.int .i64 p.e.d)
  |4=>Dat.val (.int .i64 p.e.k)
  |5=>Dat.val (.int .i64 p.e.v)
  |6=>Dat.val (.int .i64 p.e.g)
  |7=>ywr p.b.r
  |8=>Dat.val (.int .i64 p.b.q)
  |9=>Dat.val (.int .i64 p.b.d)
  |10=>evsD p.s
  |11=>emsD p.x
  |_=> .val (.int .i64 0)
def Ps.wt (p:Ps):Nat:=(ywr p.b.r).wt+(evsD p.s).wt+(emsD p.x).wt
def ydq (l:List Ps):Nat→Dat:=fun j=>(psAt l (j/12)).cell (j%12)
def yw3 (l:List Ps):Dat:= .row 12 l.length (ydq l)
theorem ywn (l:List Ps) (i:Nat) {r:Nat} (hr:r<12):ydq l (i*12+r)=(psAt l i).cell r:=by
  show(psAt l ((i*12+r)/12)).cell ((i*12+r)%12)=_
  rw [show(i*12+r)/12=i from by omega,show(i*12+r)%12=r from by omega]
theorem yxh (l:List Ps):(yw3 l).wt=l.length+sumL (fun i=>(psAt l i).wt) l.length:=by
  show l.length+sumL (fun j=>((psAt l (j/12)).cell (j%12)).wt) (l.length*12)=_
  rw [zee (h:=fun i r=>((psAt l i).cell r).wt)]
  congr 1
  refine zar (fun i _=> ?_)
  simp only [sumL,Ps.cell,Ps.wt,Dat.wt,Nat.zero_add,Nat.add_zero]
theorem Ps.thin (p:Ps) (r:Nat):(p.cell r).thin:=by
  unfold Ps.cell
  split
  · trivial
  · trivial
  · trivial
  · trivial
  · trivial
  · trivial
  · trivial
  · exact zer _
  · trivial
  · trivial
  · exact zkp _
  · exact ems_thin _
  · trivial
theorem zlu (l:List Ps):(yw3 l).thin:=⟨by omega,fun j=>Ps.thin (psAt l (j/12)) (j%12)⟩
theorem Ps.wt_le {l:List Ps} {i:Nat} (h:i<l.length):(psAt l i).wt≤(yw3 l).wt:=by
  rw [yxh]
  have:=zk4 (fun i=>(psAt l i).wt) h
  omega
def IsPast (w:World) (x:Value) (p:Ps):Prop:=∃u7 u10 u11,x= .agg #[.int .i64 p.e.t,.int .i64 p.e.s,.int .i64 p.e.q,.int .i64 p.e.d,.int .i64 p.e.k,.int .i64 p.e.v,.int .i64 p.e.g,u7,.int .i64 p.b.q,.int .i64 p.b.d,u10,u11]∧IsD w u7 (ywr p.b.r)∧IsD w u10 (evsD p.s)∧IsD w u11 (emsD p.x)
theorem IsPast.under {w w':World} {x:Value} {p:Ps} (h:IsPast w x p) (hb:Below w.heap.size w w'):IsPast w' x p:=by
  obtain⟨u7,u10,u11,rfl,h7,h10,h11⟩:=h
  exact⟨u7,u10,u11,rfl,h7.under hb,h10.under hb,h11.under hb⟩
theorem yya {w:World} {b off n:Nat} {l:List Ps} (h:∀j,j<n*12→ ∃u,w.cell? ⟨b,off+j,none⟩=some u∧IsD w u ((psAt l (j/12)).cell (j%12))) {i:Nat} (hi:i<n):
    ∃u7 u10 u11,w.cell? ⟨b,off+i*12,none⟩=some (.int .i64 (psAt l i).e.t)∧w.cell? ⟨b,off+i*12+1,none⟩=some (.int .i64 (psAt l i).e.s)∧w.cell? ⟨b,off+i*12+2,none⟩=some (.int .i64 (psAt l i).e.q)∧w.cell? ⟨b,off+i*12+3,none⟩=some (.int .i64 (psAt l i).e.d)∧w.cell? ⟨b,off+i*12+4,none⟩=some (.int .i64 (psAt l i).e.k)∧w.cell? ⟨b,off+i*12+5,none⟩=some (.int .i64 (psAt l i).e.v)∧w.cell? ⟨b,off+i*12+6,none⟩=some (.int .i64 (psAt l i).e.g)∧w.cell? ⟨b,off+i*12+7,none⟩=some (u7)∧w.cell? ⟨b,off+i*12+8,none⟩=some (.int .i64 (psAt l i).b.q)∧w.cell? ⟨b,off+i*12+9,none⟩=some (.int .i64 (psAt l i).b.d)∧w.cell? ⟨b,off+i*12+10,none⟩=some (u10)∧w.cell? ⟨b,off+i*12+11,none⟩=some (u11)∧IsD w u7 (ywr (psAt l i).b.r)∧IsD w u10 (evsD (psAt l i).s)∧IsD w u11 (emsD (psAt l i).x):=by
  have hh:∀r,r<12→ ∃u,w.cell? ⟨b,off+i*12+r,none⟩=some u∧IsD w u ((psAt l i).cell r):=fun r hr=>by
    have:=h (i*12+r) (by omega)
    rw [show(i*12+r)/12=i from by omega,show(i*12+r)%12=r from by omega,←Nat.add_assoc]at this
    exact this
  obtain⟨u0,c0,d0⟩:=hh 0 (by omega)
  obtain⟨u1,c1,d1⟩:=hh 1 (by omega)
  obtain⟨u2,c2,d2⟩:=hh 2 (by omega)
  obtain⟨u3,c3,d3⟩:=hh 3 (by omega)
  obtain⟨u4,c4,d4⟩:=hh 4 (by omega)
  obtain⟨u5,c5,d5⟩:=hh 5 (by omega)
  obtain⟨u6,c6,d6⟩:=hh 6 (by omega)
  obtain⟨u7,c7,d7⟩:=hh 7 (by omega)
  obtain⟨u8,c8,d8⟩:=hh 8 (by omega)
  obtain⟨u9,c9,d9⟩:=hh 9 (by omega)
  obtain⟨u10,c10,d10⟩:=hh 10 (by omega)
  obtain⟨u11,c11,d11⟩:=hh 11 (by omega)
  obtain rfl:=d0.val_eq
  obtain rfl:=d1.val_eq
  obtain rfl:=d2.val_eq
  obtain rfl:=d3.val_eq
  obtain rfl:=d4.val_eq
  obtain rfl:=d5.val_eq
  obtain rfl:=d6.val_eq
  obtain rfl:=d8.val_eq
  obtain rfl:=d9.val_eq
  exact⟨u7,u10,u11,c0,c1,c2,c3,c4,c5,c6,c7,c8,c9,c10,c11,d7,d10,d11⟩
structure Pa where
  n:Int
  st:St
  p:List Ps
  t:List Ev
  a:List Int
def paAt (l:List Pa) (i:Nat):Pa:=l.getD i ⟨0,⟨[],0,0⟩,[],[],[]⟩
def Pa.cell (p:Pa):Nat→Dat
  |0=>Dat.val (.int .i64 p.n)
  |1=>ywr p.st.r
  |2=>Dat.val (.int .i64 p.st.q)
  |3=>Dat.val (.int .i64 p.st.d)
  |4=>yw3 p.p
  |5=>evsD p.t
  |6=>ywr p.a
  |_=> .val (.int .i64 0)
def Pa.wt (p:Pa):Nat:=(ywr p.st.r).wt+(yw3 p.p).wt+(evsD p.t).wt+(ywr p.a).wt
def yfa (l:List Pa):Nat→Dat:=fun j=>(paAt l (j/7)).cell (j%7)
def ywi (l:List Pa):Dat:= .row 7 l.length (yfa l)
theorem yxn (l:List Pa) (i:Nat) {r:Nat} (hr:r<7):yfa l (i*7+r)=(paAt l i).cell r:=by
  show(paAt l ((i*7+r)/7)).cell ((i*7+r)%7)=_
  rw [show(i*7+r)/7=i from by omega,show(i*7+r)%7=r from by omega]
theorem yyb (l:List Pa):(ywi l).wt=l.length+sumL (fun i=>(paAt l i).wt) l.length:=by
  show l.length+sumL (fun j=>((paAt l (j/7)).cell (j%7)).wt) (l.length*7)=_
  rw [zee (h:=fun i r=>((paAt l i).cell r).wt)]
  congr 1
  refine zar (fun i _=> ?_)
  simp only [sumL,Pa.cell,Pa.wt,Dat.wt,Nat.zero_add,Nat.add_zero]
theorem Pa.thin (p:Pa) (r:Nat):(p.cell r).thin:=by
  unfold Pa.cell
  split
  · trivial
  · exact zer _
  · trivial
  · trivial
  · exact zlu _
  · exact zkp _
  · exact zer _
  · trivial
theorem zlv (l:List Pa):(ywi l).thin:=⟨by omega,fun j=>Pa.thin (paAt l (j/7)) (j%7)⟩
theorem Pa.wt_le {l:List Pa} {i:Nat} (h:i<l.length):(paAt l i).wt≤(ywi l).wt:=by
  rw [yyb]
  have:=zk4 (fun i=>(paAt l i).wt) h
  omega
def IsPart (w:World) (x:Value) (p:Pa):Prop:=∃u1 u4 u5 u6,x= .agg #[.int .i64 p.n,u1,.int .i64 p.st.q,.int .i64 p.st.d,u4,u5,u6]∧IsD w u1 (ywr p.st.r)∧IsD w u4 (yw3 p.p)∧IsD w u5 (evsD p.t)∧IsD w u6 (ywr p.a)
theorem IsPart.under {w w':World} {x:Value} {p:Pa} (h:IsPart w x p) (hb:Below w.heap.size w w'):IsPart w' x p:=by
  obtain⟨u1,u4,u5,u6,rfl,h1,h4,h5,h6⟩:=h
  exact⟨u1,u4,u5,u6,rfl,h1.under hb,h4.under hb,h5.under hb,h6.under hb⟩
theorem yzg {w:World} {b off n:Nat} {l:List Pa} (h:∀j,j<n*7→ ∃u,w.cell? ⟨b,off+j,none⟩=some u∧IsD w u ((paAt l (j/7)).cell (j%7))) {i:Nat} (hi:i<n):
    ∃u1 u4 u5 u6,w.cell? ⟨b,off+i*7,none⟩=some (.int .i64 (paAt l i).n)∧w.cell? ⟨b,off+i*7+1,none⟩=some (u1)∧w.cell? ⟨b,off+i*7+2,none⟩=some (.int .i64 (paAt l i).st.q)∧w.cell? ⟨b,off+i*7+3,none⟩=some (.int .i64 (paAt l i).st.d)∧w.cell? ⟨b,off+i*7+4,none⟩=some (u4)∧w.cell? ⟨b,off+i*7+5,none⟩=some (u5)∧w.cell? ⟨b,off+i*7+6,none⟩=some (u6)∧IsD w u1 (ywr (paAt l i).st.r)∧IsD w u4 (yw3 (paAt l i).p)∧IsD w u5 (evsD (paAt l i).t)∧IsD w u6 (ywr (paAt l i).a):=by
  have hh:∀r,r<7→ ∃u,w.cell? ⟨b,off+i*7+r,none⟩=some u∧IsD w u ((paAt l i).cell r):=fun r hr=>by
    have:=h (i*7+r) (by omega)
    rw [show(i*7+r)/7=i from by omega,show(i*7+r)%7=r from by omega,←Nat.add_assoc]at this
    exact this
  obtain⟨u0,c0,d0⟩:=hh 0 (by omega)
  obtain⟨u1,c1,d1⟩:=hh 1 (by omega)
  obtain⟨u2,c2,d2⟩:=hh 2 (by omega)
  obtain⟨u3,c3,d3⟩:=hh 3 (by omega)
  obtain⟨u4,c4,d4⟩:=hh 4 (by omega)
  obtain⟨u5,c5,d5⟩:=hh 5 (by omega)
  obtain⟨u6,c6,d6⟩:=hh 6 (by omega)
  obtain rfl:=d0.val_eq
  obtain rfl:=d2.val_eq
  obtain rfl:=d3.val_eq
  exact⟨u1,u4,u5,u6,c0,c1,c2,c3,c4,c5,c6,d1,d4,d5,d6⟩
set_option maxHeartbeats 4000000
open Go.RowKit
theorem yy8 {p:Prop} (h:p):Hid p:=h
theorem zlj (x:Value) (p:Ps) (left:Int) (w:World) (h0:0≤left) (h1:left≤1048576) (h:IsPast w x p):
    Calls Tryz.prog 233 #[x,.int .i64 left] w fun e w'=>(∃r,e= .returned (.int .i64 r)∧SzR p.wt left r)∧Below w.heap.size w w':=by
  obtain⟨u7,u10,u11,rfl,h7,h10,h11⟩:=h
  have H7:=yy8 h7
  have H10:=yy8 h10
  have H11:=yy8 h11
  clear h7 h10 h11
  obtain⟨W0,hW0⟩:∃W0,w.alloc (.cells #[.int .i64 p.e.t,.int .i64 p.e.s,.int .i64 p.e.q,.int .i64 p.e.d,.int .i64 p.e.k,.int .i64 p.e.v,.int .i64 p.e.g,u7,.int .i64 p.b.q,.int .i64 p.b.d,u10,u11] 291)=W0:=⟨_,rfl⟩
  have HB0:=hdq (beA hW0)
  have HP0:=hdq (bkA hW0)
  have HW:=yy8 hW0
  clear hW0
  go_enter Tryz.func233,Tryz.ntmps233
  have p7:=HP0.out.cell (i:=7) rfl
  have p8:=HP0.out.cell (i:=8) rfl
  have p9:=HP0.out.cell (i:=9) rfl
  go_wp2_with fail
  rw [HW.out]
  clear HW
  clear p7 p8 p9
  refine(zh9 _ p.b _ _ h0 h1 ⟨_,rfl,(H7.out.under HB0.out).isI⟩).mono ?_
  rintro e w1 ⟨⟨r1,rfl,hr⟩,hb⟩
  have HB1:=trh HB0 hb
  have HP1:=yy8 (HP0.out.below hb)
  clear hb
  rcases hr with rfl|⟨r10,hr⟩
  · go_wp2
    go_ret
    exact⟨⟨_,rfl,.inl rfl⟩,HB1.out⟩
  have r11:r1≤1048576:=by omega
  have r12:¬(r1<0):=by omega
  have HR1:=yy8 hr
  clear hr
  have p10:=HP1.out.cell (i:=10) rfl
  go_wp2_with fail
  clear p10
  refine(zn9 _ p.s _ _ r10 r11 (H10.out.under HB1.out)).mono ?_
  rintro e w2 ⟨⟨r2,rfl,hr⟩,hb⟩
  have HB2:=trh HB1 hb
  have HP2:=yy8 (HP1.out.below hb)
  clear hb
  rcases hr with rfl|⟨r20,hr⟩
  · go_wp2
    go_ret
    exact⟨⟨_,rfl,.inl rfl⟩,HB2.out⟩
  have r21:r2≤1048576:=by omega
  have r22:¬(r2<0):=by omega
  have HR2:=yy8 hr
  clear hr
  have p11:=HP2.out.cell (i:=11) rfl
  go_wp2_with fail
  clear p11
  refine(sz_ems _ p.x _ _ r20 r21 (H11.out.under HB2.out)).mono ?_
  rintro e w3 ⟨⟨r3,rfl,hr⟩,hb⟩
  have HB3:=trh HB2 hb
  have HP3:=yy8 (HP2.out.below hb)
  clear hb
  rcases hr with rfl|⟨r30,hr⟩
  · go_wp2
    go_ret
    exact⟨⟨_,rfl,.inl rfl⟩,HB3.out⟩
  have r31:r3≤1048576:=by omega
  have r32:¬(r3<0):=by omega
  have HR3:=yy8 hr
  clear hr
  go_wp2
  go_ret
  refine⟨⟨_,rfl,.inr ⟨r30,?_⟩⟩,HB3.out⟩
  have:=HR1.out
  have:=HR2.out
  have:=HR3.out
  unfold Ps.wt
  omega
theorem sz_pasts (x:Value) (l:List Ps) (left:Int) (w:World) (h0:0≤left) (h1:left≤1048576) (h:IsD w x (yw3 l)):
    Calls Tryz.prog 172 #[x,.int .i64 left] w fun e w'=>(∃r,e= .returned (.int .i64 r)∧SzR (yw3 l).wt left r)∧Below w.heap.size w w':=by
  obtain⟨a,cap,rfl,hn1,hn,h⟩:=IsD.parts (c:=12) (n:=l.length) h
  have hn2:l.length≤9223372036854775807:=by unfold maxLen at hn;omega
  clear hn1 hn
  by_cases hp:left-(l.length:Int)<0
  · go_enter Tryz.func172,Tryz.ntmps172
    go_wp2
    go_ret
    exact⟨⟨_,rfl,.inl rfl⟩,Below.refl _ _⟩
  · have HLF:Hid (0≤left-(l.length:Int)):=(by omega:0≤left-(l.length:Int))
    go_enter Tryz.func172,Tryz.ntmps172
    go_wp2
    go_loopw [5,1] (fun i z wr=>∃k:Nat,k≤l.length∧i= .int .i64 k∧Below w.heap.size w wr∧ ∃lf:Int,z= .int .i64 lf∧0≤lf∧lf+(l.length:Int)+(sumL (fun i=>(psAt l i).wt) k:Int)=left) (fun i _ _=>l.length-(intOf i).toNat)
    case atStart=>exact⟨0,Nat.zero_le _,rfl,Below.refl _ _,left-(l.length:Int),rfl,HLF.out,by simp [sumL]⟩
    case round=>
      obtain⟨k,hk,rfl,hB,lf2,rfl,hz0,hz1⟩:=hrel
      have HZ:=yy8 hz1
      have HB:=yy8 hB
      have hz2:lf2≤1048576:=by omega
      clear hz1
      by_cases hlt:k<l.length
      · obtain⟨b,off,rfl,hb,hc⟩:=h.resolve_left (by omega)
        obtain⟨u7,u10,u11,f0,f1,f2,f3,f4,f5,f6,f7,f8,f9,f10,f11,d7,d10,d11⟩:=yya (fun j hj=>by
          obtain⟨u,hu,hd⟩:=hc j hj
          exact⟨u,(hB.cell (p:=⟨b,off+j,none⟩) hb).trans hu,hd.under hB⟩) hlt
        have HD:Hid (IsPast wr (.agg #[.int .i64 (psAt l k).e.t,.int .i64 (psAt l k).e.s,.int .i64 (psAt l k).e.q,.int .i64 (psAt l k).e.d,.int .i64 (psAt l k).e.k,.int .i64 (psAt l k).e.v,.int .i64 (psAt l k).e.g,u7,.int .i64 (psAt l k).b.q,.int .i64 (psAt l k).b.d,u10,u11]) (psAt l k)):=⟨u7,u10,u11,rfl,d7,d10,d11⟩
        clear h hc hB d7 d10 d11
        go_wp2_with fail
        clear f0 f1 f2 f3 f4 f5 f6 f7 f8 f9 f10 f11
        refine(zlj _ (psAt l k) _ _ hz0 hz2 HD.out).mono ?_
        rintro e w2 ⟨⟨r,rfl,hr⟩,hb2⟩
        have HB2:=trh HB hb2
        clear hb2
        rcases hr with rfl|⟨r0,hr⟩
        · go_wp2
          go_ret
          exact⟨⟨_,rfl,.inl rfl⟩,HB2.out⟩
        · have HR:=yy8 hr
          have r2:¬(r<0):=by omega
          clear hr
          go_wp2
          go_roundw
          case rel=>exact⟨k+1,by omega,by go_num,HB2.out,r,rfl,r0,by have:=HR.out;have:=HZ.out;simp only [sumL];omega⟩
          case measure=>simp [intOf];omega
      · clear h hB
        go_wp2
        go_ret
        obtain rfl:k=l.length:=by omega
        exact⟨⟨_,rfl,.inr ⟨hz0,by rw [yxh];have:=HZ.out;omega⟩⟩,HB.out⟩
theorem zji (x y:Value) (p:Ps) (w:World) (hw:p.wt≤1048576) (hx:IsPast w x p) (hy:IsPast w y p):
    Calls Tryz.prog 257 #[x,y] w fun e w'=>e= .returned (.bool true)∧Below w.heap.size w w':=by
  obtain⟨u7,u10,u11,rfl,h7,h10,h11⟩:=hx
  obtain⟨v7,v10,v11,rfl,k7,k10,k11⟩:=hy
  have H7:Hid (IsD w u7 (ywr p.b.r)∧IsD w v7 (ywr p.b.r)):=⟨h7,k7⟩
  have H10:Hid (IsD w u10 (evsD p.s)∧IsD w v10 (evsD p.s)):=⟨h10,k10⟩
  have H11:Hid (IsD w u11 (emsD p.x)∧IsD w v11 (emsD p.x)):=⟨h11,k11⟩
  have HS:Hid (p.wt≤1048576):=hw
  clear hw h7 k7 h10 k10 h11 k11
  obtain⟨W0,hW0⟩:∃W0,(w.alloc (.cells #[.int .i64 p.e.t,.int .i64 p.e.s,.int .i64 p.e.q,.int .i64 p.e.d,.int .i64 p.e.k,.int .i64 p.e.v,.int .i64 p.e.g,u7,.int .i64 p.b.q,.int .i64 p.b.d,u10,u11] 172)).alloc (.cells #[.int .i64 p.e.t,.int .i64 p.e.s,.int .i64 p.e.q,.int .i64 p.e.d,.int .i64 p.e.k,.int .i64 p.e.v,.int .i64 p.e.g,v7,.int .i64 p.b.q,.int .i64 p.b.d,v10,v11] 172)=W0:=⟨_,rfl⟩
  have HB0:=hdq (beA2 hW0)
  have HP0:=hdq (bkA2 hW0)
  have HQ0:=hdq (bkB2 hW0)
  have HW:=yy8 hW0
  clear hW0
  go_enter Tryz.func257,Tryz.ntmps257
  have p0:=HP0.out.cell (i:=0) rfl
  have q0:=HQ0.out.cell (i:=0) rfl
  have p1:=HP0.out.cell (i:=1) rfl
  have q1:=HQ0.out.cell (i:=1) rfl
  have p2:=HP0.out.cell (i:=2) rfl
  have q2:=HQ0.out.cell (i:=2) rfl
  have p3:=HP0.out.cell (i:=3) rfl
  have q3:=HQ0.out.cell (i:=3) rfl
  have p4:=HP0.out.cell (i:=4) rfl
  have q4:=HQ0.out.cell (i:=4) rfl
  have p5:=HP0.out.cell (i:=5) rfl
  have q5:=HQ0.out.cell (i:=5) rfl
  have p6:=HP0.out.cell (i:=6) rfl
  have q6:=HQ0.out.cell (i:=6) rfl
  go_wp2_with fail
  rw [HW.out]
  clear HW
  clear p0 q0 p1 q1 p2 q2 p3 q3 p4 q4 p5 q5 p6 q6
  refine(zbp _ _ _ _ _ _ _ _).mono ?_
  rintro e w1 ⟨rfl,hb⟩
  have HB1:=trh HB0 hb
  have HP1:=yy8 (HP0.out.below hb)
  have HQ1:=yy8 (HQ0.out.below hb)
  clear hb
  have p7:=HP1.out.cell (i:=7) rfl
  have q7:=HQ1.out.cell (i:=7) rfl
  have p8:=HP1.out.cell (i:=8) rfl
  have q8:=HQ1.out.cell (i:=8) rfl
  have p9:=HP1.out.cell (i:=9) rfl
  have q9:=HQ1.out.cell (i:=9) rfl
  go_wp2_with fail
  clear p7 q7 p8 q8 p9 q9
  refine(zdt _ _ p.b _ (by have:=HS.out;unfold Ps.wt at this;simp only [yy3,yx0,ywf]at this;omega) ⟨_,rfl,(H7.out.1.under HB1.out).isI⟩ ⟨_,rfl,(H7.out.2.under HB1.out).isI⟩).mono ?_
  rintro e w2 ⟨rfl,hb⟩
  have HB2:=trh HB1 hb
  have HP2:=yy8 (HP1.out.below hb)
  have HQ2:=yy8 (HQ1.out.below hb)
  clear hb
  have p10:=HP2.out.cell (i:=10) rfl
  have q10:=HQ2.out.cell (i:=10) rfl
  go_wp2_with fail
  clear p10 q10
  refine(zp0 _ _ p.s _ (by have:=HS.out;unfold Ps.wt at this;simp only [yy3,yx0,ywf]at this;omega) (H10.out.1.under HB2.out) (H10.out.2.under HB2.out)).mono ?_
  rintro e w3 ⟨rfl,hb⟩
  have HB3:=trh HB2 hb
  have HP3:=yy8 (HP2.out.below hb)
  have HQ3:=yy8 (HQ2.out.below hb)
  clear hb
  have p11:=HP3.out.cell (i:=11) rfl
  have q11:=HQ3.out.cell (i:=11) rfl
  go_wp2_with fail
  clear p11 q11
  refine(eq_ems _ _ p.x _ (by have:=HS.out;unfold Ps.wt at this;simp only [yy3,yx0,ywf]at this;omega) (H11.out.1.under HB3.out) (H11.out.2.under HB3.out)).mono ?_
  rintro e w4 ⟨rfl,hb⟩
  have HB4:=trh HB3 hb
  have HP4:=yy8 (HP3.out.below hb)
  have HQ4:=yy8 (HQ3.out.below hb)
  clear hb
  go_wp2
  go_ret
  exact⟨rfl,HB4.out⟩
theorem zev {p:Prop} (h:p):Hid p:=h
set_option maxHeartbeats 8000000 in
theorem eq_pasts (x y:Value) (l:List Ps) (w:World) (hl:(yw3 l).wt≤1048576) (hx:IsD w x (yw3 l)) (hy:IsD w y (yw3 l)):
    Calls Tryz.prog 206 #[x,y] w fun e w'=>e= .returned (.bool true)∧Below w.heap.size w w':=by
  obtain⟨a,cap,rfl,h1,h2,h⟩:=IsD.parts (c:=12) (n:=l.length) hx
  obtain⟨a',cap',rfl,h1',h2',h'⟩:=IsD.parts (c:=12) (n:=l.length) hy
  have HS:=zev hl
  have hl2:l.length≤1048576:=by rw [yxh]at hl;omega
  clear h1 h2 h1' h2' hx hy hl
  go_enter Tryz.func206,Tryz.ntmps206
  go_wp2
  go_loopw [5] (fun i wr=>∃k:Nat,k≤l.length∧i= .int .i64 k∧Below w.heap.size w wr) (fun i _=>l.length-(intOf i).toNat)
  case atStart=>exact⟨0,Nat.zero_le _,rfl,Below.refl _ _⟩
  case round=>
    obtain⟨k,hk,rfl,hB⟩:=hrel
    have HB:=zev hB
    by_cases hlt:k<l.length
    · obtain⟨b,off,rfl,hb,hc⟩:=h.resolve_left (by omega)
      obtain⟨b',off',rfl,hb',hc'⟩:=h'.resolve_left (by omega)
      obtain⟨u7,u10,u11,f0,f1,f2,f3,f4,f5,f6,f7,f8,f9,f10,f11,d7,d10,d11⟩:=yya (fun j hj=>by
        obtain⟨u,hu,hd⟩:=hc j hj
        exact⟨u,(hB.cell (p:=⟨b,off+j,none⟩) hb).trans hu,hd.under hB⟩) hlt
      obtain⟨v7,v10,v11,e0,e1,e2,e3,e4,e5,e6,e7,e8,e9,e10,e11,g7,g10,g11⟩:=yya (fun j hj=>by
        obtain⟨u,hu,hd⟩:=hc' j hj
        exact⟨u,(hB.cell (p:=⟨b',off'+j,none⟩) hb').trans hu,hd.under hB⟩) hlt
      have HD:=zev (IsPast.under (w:=wr) ⟨u7,u10,u11,rfl,d7,d10,d11⟩ (Below.refl _ wr).drew)
      have HG:=zev (IsPast.under (w:=wr) ⟨v7,v10,v11,rfl,g7,g10,g11⟩ (Below.refl _ wr).drew)
      have HW:=zev (Nat.le_trans (Ps.wt_le hlt) HS.out)
      have hbr:b<wr.heap.size:=Nat.lt_of_lt_of_le hb hB.size
      have hbr':b'<wr.heap.size:=Nat.lt_of_lt_of_le hb' hB.size
      clear hB hc hc' h h' d7 d10 d11 g7 g10 g11
      go_wp2_with fail
      go_region_held3 (fun W=>W.cell? ⟨b,off+k*12,none⟩=some (.int .i64 (psAt l k).e.t)∧W.cell? ⟨b,off+k*12+1,none⟩=some (.int .i64 (psAt l k).e.s)∧W.cell? ⟨b,off+k*12+2,none⟩=some (.int .i64 (psAt l k).e.q)∧W.cell? ⟨b,off+k*12+3,none⟩=some (.int .i64 (psAt l k).e.d)∧W.cell? ⟨b,off+k*12+4,none⟩=some (.int .i64 (psAt l k).e.k)∧W.cell? ⟨b,off+k*12+5,none⟩=some (.int .i64 (psAt l k).e.v)∧W.cell? ⟨b,off+k*12+6,none⟩=some (.int .i64 (psAt l k).e.g)∧W.cell? ⟨b,off+k*12+7,none⟩=some (u7)∧W.cell? ⟨b,off+k*12+8,none⟩=some (.int .i64 (psAt l k).b.q)∧W.cell? ⟨b,off+k*12+9,none⟩=some (.int .i64 (psAt l k).b.d)∧W.cell? ⟨b,off+k*12+10,none⟩=some (u10)∧W.cell? ⟨b,off+k*12+11,none⟩=some (u11)∧W.cell? ⟨b',off'+k*12,none⟩=some (.int .i64 (psAt l k).e.t)∧W.cell? ⟨b',off'+k*12+1,none⟩=some (.int .i64 (psAt l k).e.s)∧W.cell? ⟨b',off'+k*12+2,none⟩=some (.int .i64 (psAt l k).e.q)∧W.cell? ⟨b',off'+k*12+3,none⟩=some (.int .i64 (psAt l k).e.d)∧W.cell? ⟨b',off'+k*12+4,none⟩=some (.int .i64 (psAt l k).e.k)∧W.cell? ⟨b',off'+k*12+5,none⟩=some (.int .i64 (psAt l k).e.v)∧W.cell? ⟨b',off'+k*12+6,none⟩=some (.int .i64 (psAt l k).e.g)∧W.cell? ⟨b',off'+k*12+7,none⟩=some (v7)∧W.cell? ⟨b',off'+k*12+8,none⟩=some (.int .i64 (psAt l k).b.q)∧W.cell? ⟨b',off'+k*12+9,none⟩=some (.int .i64 (psAt l k).b.d)∧W.cell? ⟨b',off'+k*12+10,none⟩=some (v10)∧W.cell? ⟨b',off'+k*12+11,none⟩=some (v11)) ((repeat' apply And.intro)<;>first|(go_keep;done)|(rw [hcA _ _ (by first|omega|(simp;omega)|simp [*])];simp [*];done))
        (first|(go_at_call 257;refine(zji _ _ (psAt l k) _ HW.out HD.out HG.out).mono ?_;rintro e w2 ⟨rfl,hb2⟩;obtain⟨hcA,hfA⟩:=zdb hb2))
      clear hcA hfA
      go_wp2
      go_roundw
      case rel=>exact⟨k+1,by omega,by go_num,HB.out.drew.trans (hb2.mono (by have:=HB.out.size;simpa using this))⟩
      case measure=>simp [intOf];omega
    · clear hB h h'
      go_wp2
      go_ret
      exact⟨rfl,HB.out⟩
set_option maxHeartbeats 4000000
open Go.RowKit
theorem yy7 {p:Prop} (h:p):Hid p:=h
theorem zlk (x:Value) (p:Pa) (left:Int) (w:World) (h0:0≤left) (h1:left≤1048576) (h:IsPart w x p):
    Calls Tryz.prog 98 #[x,.int .i64 left] w fun e w'=>(∃r,e= .returned (.int .i64 r)∧SzR p.wt left r)∧Below w.heap.size w w':=by
  obtain⟨u1,u4,u5,u6,rfl,h1,h4,h5,h6⟩:=h
  have H1:=yy7 h1
  have H4:=yy7 h4
  have H5:=yy7 h5
  have H6:=yy7 h6
  clear h1 h4 h5 h6
  obtain⟨W0,hW0⟩:∃W0,w.alloc (.cells #[.int .i64 p.n,u1,.int .i64 p.st.q,.int .i64 p.st.d,u4,u5,u6] 146)=W0:=⟨_,rfl⟩
  have HB0:=hdq (beA hW0)
  have HP0:=hdq (bkA hW0)
  have HW:=yy7 hW0
  clear hW0
  go_enter Tryz.func98,Tryz.ntmps98
  have p1:=HP0.out.cell (i:=1) rfl
  have p2:=HP0.out.cell (i:=2) rfl
  have p3:=HP0.out.cell (i:=3) rfl
  go_wp2_with fail
  rw [HW.out]
  clear HW
  clear p1 p2 p3
  refine(zh9 _ p.st _ _ h0 h1 ⟨_,rfl,(H1.out.under HB0.out).isI⟩).mono ?_
  rintro e w1 ⟨⟨r1,rfl,hr⟩,hb⟩
  have HB1:=trh HB0 hb
  have HP1:=yy7 (HP0.out.below hb)
  clear hb
  rcases hr with rfl|⟨r10,hr⟩
  · go_wp2
    go_ret
    exact⟨⟨_,rfl,.inl rfl⟩,HB1.out⟩
  have r11:r1≤1048576:=by omega
  have r12:¬(r1<0):=by omega
  have HR1:=yy7 hr
  clear hr
  have p4:=HP1.out.cell (i:=4) rfl
  go_wp2_with fail
  clear p4
  refine(sz_pasts _ p.p _ _ r10 r11 (H4.out.under HB1.out)).mono ?_
  rintro e w2 ⟨⟨r2,rfl,hr⟩,hb⟩
  have HB2:=trh HB1 hb
  have HP2:=yy7 (HP1.out.below hb)
  clear hb
  rcases hr with rfl|⟨r20,hr⟩
  · go_wp2
    go_ret
    exact⟨⟨_,rfl,.inl rfl⟩,HB2.out⟩
  have r21:r2≤1048576:=by omega
  have r22:¬(r2<0):=by omega
  have HR2:=yy7 hr
  clear hr
  have p5:=HP2.out.cell (i:=5) rfl
  go_wp2_with fail
  clear p5
  refine(zn9 _ p.t _ _ r20 r21 (H5.out.under HB2.out)).mono ?_
  rintro e w3 ⟨⟨r3,rfl,hr⟩,hb⟩
  have HB3:=trh HB2 hb
  have HP3:=yy7 (HP2.out.below hb)
  clear hb
  rcases hr with rfl|⟨r30,hr⟩
  · go_wp2
    go_ret
    exact⟨⟨_,rfl,.inl rfl⟩,HB3.out⟩
  have r31:r3≤1048576:=by omega
  have r32:¬(r3<0):=by omega
  have HR3:=yy7 hr
  clear hr
  have p6:=HP3.out.cell (i:=6) rfl
  go_wp2_with fail
  clear p6
  refine(zio _ p.a _ _ r30 r31 (H6.out.under HB3.out)).mono ?_
  rintro e w4 ⟨⟨r4,rfl,hr⟩,hb⟩
  have HB4:=trh HB3 hb
  have HP4:=yy7 (HP3.out.below hb)
  clear hb
  rcases hr with rfl|⟨r40,hr⟩
  · go_wp2
    go_ret
    exact⟨⟨_,rfl,.inl rfl⟩,HB4.out⟩
  have r41:r4≤1048576:=by omega
  have r42:¬(r4<0):=by omega
  have HR4:=yy7 hr
  clear hr
  go_wp2
  go_ret
  refine⟨⟨_,rfl,.inr ⟨r40,?_⟩⟩,HB4.out⟩
  have:=HR1.out
  have:=HR2.out
  have:=HR3.out
  have:=HR4.out
  unfold Pa.wt
  omega
theorem zjj (x y:Value) (p:Pa) (w:World) (hw:p.wt≤1048576) (hx:IsPart w x p) (hy:IsPart w y p):
    Calls Tryz.prog 138 #[x,y] w fun e w'=>e= .returned (.bool true)∧Below w.heap.size w w':=by
  obtain⟨u1,u4,u5,u6,rfl,h1,h4,h5,h6⟩:=hx
  obtain⟨v1,v4,v5,v6,rfl,k1,k4,k5,k6⟩:=hy
  have H1:Hid (IsD w u1 (ywr p.st.r)∧IsD w v1 (ywr p.st.r)):=⟨h1,k1⟩
  have H4:Hid (IsD w u4 (yw3 p.p)∧IsD w v4 (yw3 p.p)):=⟨h4,k4⟩
  have H5:Hid (IsD w u5 (evsD p.t)∧IsD w v5 (evsD p.t)):=⟨h5,k5⟩
  have H6:Hid (IsD w u6 (ywr p.a)∧IsD w v6 (ywr p.a)):=⟨h6,k6⟩
  have HS:Hid (p.wt≤1048576):=hw
  clear hw h1 k1 h4 k4 h5 k5 h6 k6
  obtain⟨W0,hW0⟩:∃W0,(w.alloc (.cells #[.int .i64 p.n,u1,.int .i64 p.st.q,.int .i64 p.st.d,u4,u5,u6] 97)).alloc (.cells #[.int .i64 p.n,v1,.int .i64 p.st.q,.int .i64 p.st.d,v4,v5,v6] 97)=W0:=⟨_,rfl⟩
  have HB0:=hdq (beA2 hW0)
  have HP0:=hdq (bkA2 hW0)
  have HQ0:=hdq (bkB2 hW0)
  have HW:=yy7 hW0
  clear hW0
  go_enter Tryz.func138,Tryz.ntmps138
  have p0:=HP0.out.cell (i:=0) rfl
  have q0:=HQ0.out.cell (i:=0) rfl
  have p1:=HP0.out.cell (i:=1) rfl
  have q1:=HQ0.out.cell (i:=1) rfl
  have p2:=HP0.out.cell (i:=2) rfl
  have q2:=HQ0.out.cell (i:=2) rfl
  have p3:=HP0.out.cell (i:=3) rfl
  have q3:=HQ0.out.cell (i:=3) rfl
  go_wp2_with fail
  rw [HW.out]
  clear HW
  clear p0 q0 p1 q1 p2 q2 p3 q3
  refine(zdt _ _ p.st _ (by have:=HS.out;unfold Pa.wt at this;simp only [yx0,ywf]at this;omega) ⟨_,rfl,(H1.out.1.under HB0.out).isI⟩ ⟨_,rfl,(H1.out.2.under HB0.out).isI⟩).mono ?_
  rintro e w1 ⟨rfl,hb⟩
  have HB1:=trh HB0 hb
  have HP1:=yy7 (HP0.out.below hb)
  have HQ1:=yy7 (HQ0.out.below hb)
  clear hb
  have p4:=HP1.out.cell (i:=4) rfl
  have q4:=HQ1.out.cell (i:=4) rfl
  go_wp2_with fail
  clear p4 q4
  refine(eq_pasts _ _ p.p _ (by have:=HS.out;unfold Pa.wt at this;simp only [yx0,ywf]at this;omega) (H4.out.1.under HB1.out) (H4.out.2.under HB1.out)).mono ?_
  rintro e w2 ⟨rfl,hb⟩
  have HB2:=trh HB1 hb
  have HP2:=yy7 (HP1.out.below hb)
  have HQ2:=yy7 (HQ1.out.below hb)
  clear hb
  have p5:=HP2.out.cell (i:=5) rfl
  have q5:=HQ2.out.cell (i:=5) rfl
  go_wp2_with fail
  clear p5 q5
  refine(zp0 _ _ p.t _ (by have:=HS.out;unfold Pa.wt at this;simp only [yx0,ywf]at this;omega) (H5.out.1.under HB2.out) (H5.out.2.under HB2.out)).mono ?_
  rintro e w3 ⟨rfl,hb⟩
  have HB3:=trh HB2 hb
  have HP3:=yy7 (HP2.out.below hb)
  have HQ3:=yy7 (HQ2.out.below hb)
  clear hb
  have p6:=HP3.out.cell (i:=6) rfl
  have q6:=HQ3.out.cell (i:=6) rfl
  go_wp2_with fail
  clear p6 q6
  refine(zoz _ _ p.a _ (by have:=HS.out;unfold Pa.wt at this;simp only [yx0,ywf]at this;omega) (H6.out.1.under HB3.out) (H6.out.2.under HB3.out)).mono ?_
  rintro e w4 ⟨rfl,hb⟩
  have HB4:=trh HB3 hb
  have HP4:=yy7 (HP3.out.below hb)
  have HQ4:=yy7 (HQ3.out.below hb)
  clear hb
  go_wp2
  go_ret
  exact⟨rfl,HB4.out⟩
theorem ywu {p:Prop} (h:p):Hid p:=h
def putN (w:World) (g m:Nat) (U:Nat→Value):Nat→World
  |0=>w
  |N+1=>(putN w g m U N).setCell ⟨g,m+N,none⟩ (U N)
theorem zbx (w:World) (g m:Nat) (U:Nat→Value):∀N,Turns (fun k=>k=g) w (putN w g m U N)
  |0=>Turns.refl _ _
  |N+1=>(zbx w g m U N).trans (yag _ _ _ _)
theorem OwnD.fillN {F:Nat→Prop} {w:World} {g n cap c m:Nat} {f:Nat→Dat} {zs:List Value} {G:Nat→Nat→Prop} {U:Nat→Value} (h:OwnD w F (.slice (some ⟨g,0,none⟩) n cap) (.row c n (toC f zs m))) (hF:F g):
    ∀N,m+N≤n*c→(∀i,i<N→OwnD w (G i) (U i) (f (m+i)))→(∀i,i<N→ ∀k,G i k→ ¬F k)→(∀i j,i<N→j<N→i≠j→ ∀k,G i k→ ¬G j k)→
      OwnD (putN w g m U N) (fun k=>F k∨ ∃i,i<N∧G i k) (.slice (some ⟨g,0,none⟩) n cap) (.row c n (toC f zs (m+N)))
  |0,_,_,_,_=>h.mono (fun _ hk=> .inl hk)
  |N+1,hm,hU,hGF,hGG=>by
    have q:=OwnD.fillN h hF N (by omega) (fun i hi=>hU i (by omega)) (fun i hi=>hGF i (by omega)) (fun i j hi hj=>hGG i j (by omega) (by omega))
    have hN:=(hU N (by omega)).turns (zbx w g m U N) (fun k hk e=>hGF N (by omega) k hk (e▸hF))
    refine(q.fill (by omega) hN (fun k hk hk'=> ?_)).mono (fun k hk=> ?_)
    · rcases hk' with hk'|⟨i,hi,hk'⟩
      · exact hGF N (by omega) k hk hk'
      · exact hGG N i (by omega) (by omega) (by omega) k hk hk'
    · rcases hk with (hk|⟨i,hi,hk⟩)|hk
      · exact .inl hk
      · exact .inr ⟨i,by omega,hk⟩
      · exact .inr ⟨N,by omega,hk⟩
def PastF (F:Nat→Prop) (w:World) (y:Value) (p:Ps):Prop:=
  ∃(A7 A10 A11:Nat→Prop) (u7 u10 u11:Value),y= .agg #[.int .i64 p.e.t,.int .i64 p.e.s,.int .i64 p.e.q,.int .i64 p.e.d,.int .i64 p.e.k,.int .i64 p.e.v,.int .i64 p.e.g,u7,.int .i64 p.b.q,.int .i64 p.b.d,u10,u11]∧OwnD w A7 u7 (ywr p.b.r)∧OwnD w A10 u10 (evsD p.s)∧OwnD w A11 u11 (emsD p.x)∧(∀k,A7 k→F k∧ ¬A10 k∧ ¬A11 k)∧(∀k,A10 k→F k∧ ¬A11 k)∧(∀k,A11 k→F k)
set_option maxHeartbeats 8000000 in
theorem zld (x:Value) (p:Ps) (w:World) (hw:p.wt≤1048576) (h:IsPast w x p):
    Calls Tryz.prog 242 #[x] w fun e w'=>∃y,e= .returned y∧Below w.heap.size w w'∧PastF (fun k=>w.heap.size≤k∧k<w'.heap.size) w' y p:=by
  obtain⟨u7,u10,u11,rfl,h7,h10,h11⟩:=h
  have HS:Hid (p.wt≤1048576):=hw
  have H7:=ywu h7
  have H10:=ywu h10
  have H11:=ywu h11
  clear hw h7 h10 h11
  obtain⟨V0,hV0⟩:∃V0,((w.alloc (.cells #[.int .i64 p.e.t,.int .i64 p.e.s,.int .i64 p.e.q,.int .i64 p.e.d,.int .i64 p.e.k,.int .i64 p.e.v,.int .i64 p.e.g,u7,.int .i64 p.b.q,.int .i64 p.b.d,u10,u11] 291)).alloc (.cells #[.int .i64 0,.int .i64 0,.int .i64 0,.int .i64 0,.int .i64 0,.int .i64 0,.int .i64 0,.slice none 0 0,.int .i64 0,.int .i64 0,.slice none 0 0,.slice none 0 0] 172)).alloc (.cells #[.int .i64 0,.int .i64 0,.int .i64 0,.int .i64 0,.int .i64 0,.int .i64 0,.int .i64 0,.slice none 0 0,.int .i64 0,.int .i64 0,.slice none 0 0,.slice none 0 0] 172)=V0:=⟨_,rfl⟩
  have HX0:Hid (Below w.heap.size w V0):=by rw [←hV0];exact(((Below.refl _ w).alloc (Nat.le_refl _) _).alloc (by simp) _).alloc (by simp;omega) _
  have hs0:w.heap.size+3≤V0.heap.size:=by rw [←hV0];simp
  have HP0:Hid (Bk V0 w.heap.size 291 #[.int .i64 p.e.t,.int .i64 p.e.s,.int .i64 p.e.q,.int .i64 p.e.d,.int .i64 p.e.k,.int .i64 p.e.v,.int .i64 p.e.g,u7,.int .i64 p.b.q,.int .i64 p.b.d,u10,u11]):=by rw [←hV0];exact((Bk.new w _ _).alloc _).alloc _
  have HR0:Hid (Bk V0 (w.heap.size+1) 172 #[.int .i64 0,.int .i64 0,.int .i64 0,.int .i64 0,.int .i64 0,.int .i64 0,.int .i64 0,.slice none 0 0,.int .i64 0,.int .i64 0,.slice none 0 0,.slice none 0 0]):=by rw [←hV0];exact(Bk.newAt (by simp) _ _).alloc _
  have HQ0:Hid (Bk V0 (w.heap.size+1+1) 172 #[.int .i64 0,.int .i64 0,.int .i64 0,.int .i64 0,.int .i64 0,.int .i64 0,.int .i64 0,.slice none 0 0,.int .i64 0,.int .i64 0,.slice none 0 0,.slice none 0 0]):=by rw [←hV0];exact Bk.newAt (by simp) _ _
  have HW0:=ywu hV0
  clear hV0
  go_enter Tryz.func242,Tryz.ntmps242
  have p0:=HP0.out.cell (i:=0) rfl
  have p1:=HP0.out.cell (i:=1) rfl
  have p2:=HP0.out.cell (i:=2) rfl
  have p3:=HP0.out.cell (i:=3) rfl
  have p4:=HP0.out.cell (i:=4) rfl
  have p5:=HP0.out.cell (i:=5) rfl
  have p6:=HP0.out.cell (i:=6) rfl
  go_wp2_with fail
  rw [HW0.out]
  clear p0 p1 p2 p3 p4 p5 p6
  refine(zca _ _ _ _ _ _ _ _).mono ?_
  rintro e w1 ⟨rfl,hb⟩
  have hz0:V0.heap.size≤w1.heap.size:=hb.size
  have HXb0:=ywu (HX0.out.trans (hb.mono (by omega)))
  have HPb0:=ywu (HP0.out.below hb)
  have HRb0:=ywu (HR0.out.below hb)
  have HQb0:=ywu (HQ0.out.below hb)
  clear hb
  obtain⟨V1,hV1⟩:∃V1,(((((((w1.setCell ⟨(w.heap.size+1+1),0,none⟩ (.int .i64 p.e.t)).setCell ⟨(w.heap.size+1+1),1,none⟩ (.int .i64 p.e.s)).setCell ⟨(w.heap.size+1+1),2,none⟩ (.int .i64 p.e.q)).setCell ⟨(w.heap.size+1+1),3,none⟩ (.int .i64 p.e.d)).setCell ⟨(w.heap.size+1+1),4,none⟩ (.int .i64 p.e.k)).setCell ⟨(w.heap.size+1+1),5,none⟩ (.int .i64 p.e.v)).setCell ⟨(w.heap.size+1+1),6,none⟩ (.int .i64 p.e.g))=V1:=⟨_,rfl⟩
  have qq0:=HQb0.out.cell (i:=0) rfl
  have qq1:=HQb0.out.cell (i:=1) rfl
  have qq2:=HQb0.out.cell (i:=2) rfl
  have qq3:=HQb0.out.cell (i:=3) rfl
  have qq4:=HQb0.out.cell (i:=4) rfl
  have qq5:=HQb0.out.cell (i:=5) rfl
  have qq6:=HQb0.out.cell (i:=6) rfl
  have qf0:=HQb0.out.free
  have HQ1:Hid (Bk V1 (w.heap.size+1+1) 172 #[.int .i64 p.e.t,.int .i64 p.e.s,.int .i64 p.e.q,.int .i64 p.e.d,.int .i64 p.e.k,.int .i64 p.e.v,.int .i64 p.e.g,.slice none 0 0,.int .i64 0,.int .i64 0,.slice none 0 0,.slice none 0 0]):=by rw [←hV1];exact((((((HQb0.out.put 0 _).put 1 _).put 2 _).put 3 _).put 4 _).put 5 _).put 6 _
  have HP1:Hid (Bk V1 w.heap.size 291 #[.int .i64 p.e.t,.int .i64 p.e.s,.int .i64 p.e.q,.int .i64 p.e.d,.int .i64 p.e.k,.int .i64 p.e.v,.int .i64 p.e.g,u7,.int .i64 p.b.q,.int .i64 p.b.d,u10,u11]):=by rw [←hV1];exact(((((((HPb0.out.other 0 _ (by omega)).other 1 _ (by omega)).other 2 _ (by omega)).other 3 _ (by omega)).other 4 _ (by omega)).other 5 _ (by omega)).other 6 _ (by omega))
  have HR1:Hid (Bk V1 (w.heap.size+1) 172 #[.int .i64 0,.int .i64 0,.int .i64 0,.int .i64 0,.int .i64 0,.int .i64 0,.int .i64 0,.slice none 0 0,.int .i64 0,.int .i64 0,.slice none 0 0,.slice none 0 0]):=by rw [←hV1];exact(((((((HRb0.out.other 0 _ (by omega)).other 1 _ (by omega)).other 2 _ (by omega)).other 3 _ (by omega)).other 4 _ (by omega)).other 5 _ (by omega)).other 6 _ (by omega))
  have HT1:Hid (Turns (fun k=>k=(w.heap.size+1+1)) w1 V1):=by rw [←hV1];exact((((((yag _ _ 0 _).trans (yag _ _ 1 _)).trans (yag _ _ 2 _)).trans (yag _ _ 3 _)).trans (yag _ _ 4 _)).trans (yag _ _ 5 _)).trans (yag _ _ 6 _)
  have hy1:w1.heap.size≤V1.heap.size:=HT1.out.size
  have HX1:=ywu (HXb0.out.trans (HT1.out.to_below (fun k e=>by omega) (by omega)))
  clear HPb0 HRb0 HQb0 HXb0 HP0 HR0 HQ0 HX0
  have p7:=HP1.out.cell (i:=7) rfl
  have p8:=HP1.out.cell (i:=8) rfl
  have p9:=HP1.out.cell (i:=9) rfl
  go_wp2_with fail
  clear qq0 qq1 qq2 qq3 qq4 qq5 qq6 qf0 hV1 p7 p8 p9
  refine(zea _ p.b _ (by have:=HS.out;unfold Ps.wt at this;simp only [yy3,yx0,ywf]at this;omega) ⟨_,rfl,(H7.out.under HX1.out).isI⟩).mono ?_
  rintro e w2 ⟨y7,rfl,hb,vr7,rfl,ho7⟩
  have HO7:=ywu ho7.own
  obtain⟨_,a7,c7,rfl,_⟩:=ho7
  have hz1:V1.heap.size≤w2.heap.size:=hb.size
  have HXb1:=ywu (HX1.out.trans (hb.mono (by omega)))
  have HPb1:=ywu (HP1.out.below hb)
  have HRb1:=ywu (HR1.out.below hb)
  have HQb1:=ywu (HQ1.out.below hb)
  clear hb
  obtain⟨V2,hV2⟩:∃V2,(((w2.setCell ⟨(w.heap.size+1+1),7,none⟩ (.slice a7 p.b.r.length c7)).setCell ⟨(w.heap.size+1+1),8,none⟩ (.int .i64 p.b.q)).setCell ⟨(w.heap.size+1+1),9,none⟩ (.int .i64 p.b.d))=V2:=⟨_,rfl⟩
  have qq7:=HQb1.out.cell (i:=7) rfl
  have qq8:=HQb1.out.cell (i:=8) rfl
  have qq9:=HQb1.out.cell (i:=9) rfl
  have qf1:=HQb1.out.free
  have HQ2:Hid (Bk V2 (w.heap.size+1+1) 172 #[.int .i64 p.e.t,.int .i64 p.e.s,.int .i64 p.e.q,.int .i64 p.e.d,.int .i64 p.e.k,.int .i64 p.e.v,.int .i64 p.e.g,.slice a7 p.b.r.length c7,.int .i64 p.b.q,.int .i64 p.b.d,.slice none 0 0,.slice none 0 0]):=by rw [←hV2];exact((HQb1.out.put 7 _).put 8 _).put 9 _
  have HP2:Hid (Bk V2 w.heap.size 291 #[.int .i64 p.e.t,.int .i64 p.e.s,.int .i64 p.e.q,.int .i64 p.e.d,.int .i64 p.e.k,.int .i64 p.e.v,.int .i64 p.e.g,u7,.int .i64 p.b.q,.int .i64 p.b.d,u10,u11]):=by rw [←hV2];exact(((HPb1.out.other 7 _ (by omega)).other 8 _ (by omega)).other 9 _ (by omega))
  have HR2:Hid (Bk V2 (w.heap.size+1) 172 #[.int .i64 0,.int .i64 0,.int .i64 0,.int .i64 0,.int .i64 0,.int .i64 0,.int .i64 0,.slice none 0 0,.int .i64 0,.int .i64 0,.slice none 0 0,.slice none 0 0]):=by rw [←hV2];exact(((HRb1.out.other 7 _ (by omega)).other 8 _ (by omega)).other 9 _ (by omega))
  have HT2:Hid (Turns (fun k=>k=(w.heap.size+1+1)) w2 V2):=by rw [←hV2];exact((yag _ _ 7 _).trans (yag _ _ 8 _)).trans (yag _ _ 9 _)
  have hy2:w2.heap.size≤V2.heap.size:=HT2.out.size
  have HX2:=ywu (HXb1.out.trans (HT2.out.to_below (fun k e=>by omega) (by omega)))
  replace HO7:=ywu (HO7.out.turns HT2.out (fun k e=>by omega))
  clear HPb1 HRb1 HQb1 HXb1 HP1 HR1 HQ1 HX1
  have p10:=HP2.out.cell (i:=10) rfl
  go_wp2_with fail
  clear qq7 qq8 qq9 qf1 hV2 p10
  refine(zn6 _ p.s _ (by have:=HS.out;unfold Ps.wt at this;simp only [yy3,yx0,ywf]at this;omega) (H10.out.under HX2.out)).mono ?_
  rintro e w3 ⟨y10,rfl,hb,ho10⟩
  have HO10:=ywu ho10
  obtain⟨a10,c10,rfl,_⟩:=OwnD.parts (c:=7) (n:=p.s.length) ho10
  clear ho10
  have hz2:V2.heap.size≤w3.heap.size:=hb.size
  have HXb2:=ywu (HX2.out.trans (hb.mono (by omega)))
  have HPb2:=ywu (HP2.out.below hb)
  have HRb2:=ywu (HR2.out.below hb)
  have HQb2:=ywu (HQ2.out.below hb)
  replace HO7:=ywu (HO7.out.under hb)
  clear hb
  obtain⟨V3,hV3⟩:∃V3,(w3.setCell ⟨(w.heap.size+1+1),10,none⟩ (.slice a10 p.s.length c10))=V3:=⟨_,rfl⟩
  have qq10:=HQb2.out.cell (i:=10) rfl
  have qf2:=HQb2.out.free
  have HQ3:Hid (Bk V3 (w.heap.size+1+1) 172 #[.int .i64 p.e.t,.int .i64 p.e.s,.int .i64 p.e.q,.int .i64 p.e.d,.int .i64 p.e.k,.int .i64 p.e.v,.int .i64 p.e.g,.slice a7 p.b.r.length c7,.int .i64 p.b.q,.int .i64 p.b.d,.slice a10 p.s.length c10,.slice none 0 0]):=by rw [←hV3];exact HQb2.out.put 10 _
  have HP3:=ywu (ot1 hV3 HPb2.out (by omega))
  have HR3:=ywu (ot1 hV3 HRb2.out (by omega))
  have HT3:=ywu (tu1 hV3)
  have hy3:w3.heap.size≤V3.heap.size:=HT3.out.size
  have HX3:=ywu (HXb2.out.trans (HT3.out.to_below (fun k e=>by omega) (by omega)))
  replace HO7:=ywu (HO7.out.turns HT3.out (fun k e=>by omega))
  replace HO10:=ywu (HO10.out.turns HT3.out (fun k e=>by omega))
  clear HPb2 HRb2 HQb2 HXb2 HP2 HR2 HQ2 HX2
  have p11:=HP3.out.cell (i:=11) rfl
  go_wp2_with fail
  clear qq10 qf2 hV3 p11
  refine(to_ems _ p.x _ (by have:=HS.out;unfold Ps.wt at this;simp only [yy3,yx0,ywf]at this;omega) (H11.out.under HX3.out)).mono ?_
  rintro e w4 ⟨y11,rfl,hb,ho11⟩
  have HO11:=ywu ho11
  obtain⟨a11,c11,rfl,_⟩:=OwnD.parts (c:=3) (n:=p.x.length) ho11
  clear ho11
  have hz3:V3.heap.size≤w4.heap.size:=hb.size
  have HXb3:=ywu (HX3.out.trans (hb.mono (by omega)))
  have HPb3:=ywu (HP3.out.below hb)
  have HRb3:=ywu (HR3.out.below hb)
  have HQb3:=ywu (HQ3.out.below hb)
  replace HO7:=ywu (HO7.out.under hb)
  replace HO10:=ywu (HO10.out.under hb)
  clear hb
  obtain⟨V4,hV4⟩:∃V4,(w4.setCell ⟨(w.heap.size+1+1),11,none⟩ (.slice a11 p.x.length c11))=V4:=⟨_,rfl⟩
  have qq11:=HQb3.out.cell (i:=11) rfl
  have qf3:=HQb3.out.free
  have HQ4:Hid (Bk V4 (w.heap.size+1+1) 172 #[.int .i64 p.e.t,.int .i64 p.e.s,.int .i64 p.e.q,.int .i64 p.e.d,.int .i64 p.e.k,.int .i64 p.e.v,.int .i64 p.e.g,.slice a7 p.b.r.length c7,.int .i64 p.b.q,.int .i64 p.b.d,.slice a10 p.s.length c10,.slice a11 p.x.length c11]):=by rw [←hV4];exact HQb3.out.put 11 _
  have HP4:=ywu (ot1 hV4 HPb3.out (by omega))
  have HR4:=ywu (ot1 hV4 HRb3.out (by omega))
  have HT4:=ywu (tu1 hV4)
  have hy4:w4.heap.size≤V4.heap.size:=HT4.out.size
  have HX4:=ywu (HXb3.out.trans (HT4.out.to_below (fun k e=>by omega) (by omega)))
  replace HO7:=ywu (HO7.out.turns HT4.out (fun k e=>by omega))
  replace HO10:=ywu (HO10.out.turns HT4.out (fun k e=>by omega))
  replace HO11:=ywu (HO11.out.turns HT4.out (fun k e=>by omega))
  clear HPb3 HRb3 HQb3 HXb3 HP3 HR3 HQ3 HX3
  have oo0:=HQ4.out.cell (i:=0) rfl
  have rr0:=HR4.out.cell (i:=0) rfl
  have oo1:=HQ4.out.cell (i:=1) rfl
  have rr1:=HR4.out.cell (i:=1) rfl
  have oo2:=HQ4.out.cell (i:=2) rfl
  have rr2:=HR4.out.cell (i:=2) rfl
  have oo3:=HQ4.out.cell (i:=3) rfl
  have rr3:=HR4.out.cell (i:=3) rfl
  have oo4:=HQ4.out.cell (i:=4) rfl
  have rr4:=HR4.out.cell (i:=4) rfl
  have oo5:=HQ4.out.cell (i:=5) rfl
  have rr5:=HR4.out.cell (i:=5) rfl
  have oo6:=HQ4.out.cell (i:=6) rfl
  have rr6:=HR4.out.cell (i:=6) rfl
  have oo7:=HQ4.out.cell (i:=7) rfl
  have rr7:=HR4.out.cell (i:=7) rfl
  have oo8:=HQ4.out.cell (i:=8) rfl
  have rr8:=HR4.out.cell (i:=8) rfl
  have oo9:=HQ4.out.cell (i:=9) rfl
  have rr9:=HR4.out.cell (i:=9) rfl
  have oo10:=HQ4.out.cell (i:=10) rfl
  have rr10:=HR4.out.cell (i:=10) rfl
  have oo11:=HQ4.out.cell (i:=11) rfl
  have rr11:=HR4.out.cell (i:=11) rfl
  have rf:=HR4.out.free
  go_wp2
  clear rf oo0 rr0 oo1 rr1 oo2 rr2 oo3 rr3 oo4 rr4 oo5 rr5 oo6 rr6 oo7 rr7 oo8 rr8 oo9 rr9 oo10 rr10 oo11 rr11 qq11 qf3 hV4
  have HY0:=HR4.out
  have HU0:Turns (fun k=>k=(w.heap.size+1)) V4 V4:=Turns.refl _ _
  obtain⟨Y1,hY1⟩:∃Y1,V4.setCell ⟨(w.heap.size+1),0,none⟩ (.int .i64 p.e.t)=Y1:=⟨_,rfl⟩
  have HY1:Bk Y1 (w.heap.size+1) 172 #[.int .i64 p.e.t,.int .i64 0,.int .i64 0,.int .i64 0,.int .i64 0,.int .i64 0,.int .i64 0,.slice none 0 0,.int .i64 0,.int .i64 0,.slice none 0 0,.slice none 0 0]:=hY1▸HY0.put 0 _
  have HU1:Turns (fun k=>k=(w.heap.size+1)) V4 Y1:=HU0.trans (hY1▸yag _ _ 0 _)
  clear HY0 HU0
  obtain⟨Y2,hY2⟩:∃Y2,Y1.setCell ⟨(w.heap.size+1),1,none⟩ (.int .i64 p.e.s)=Y2:=⟨_,rfl⟩
  have HY2:Bk Y2 (w.heap.size+1) 172 #[.int .i64 p.e.t,.int .i64 p.e.s,.int .i64 0,.int .i64 0,.int .i64 0,.int .i64 0,.int .i64 0,.slice none 0 0,.int .i64 0,.int .i64 0,.slice none 0 0,.slice none 0 0]:=hY2▸HY1.put 1 _
  have HU2:Turns (fun k=>k=(w.heap.size+1)) V4 Y2:=HU1.trans (hY2▸yag _ _ 1 _)
  clear HY1 HU1
  obtain⟨Y3,hY3⟩:∃Y3,Y2.setCell ⟨(w.heap.size+1),2,none⟩ (.int .i64 p.e.q)=Y3:=⟨_,rfl⟩
  have HY3:Bk Y3 (w.heap.size+1) 172 #[.int .i64 p.e.t,.int .i64 p.e.s,.int .i64 p.e.q,.int .i64 0,.int .i64 0,.int .i64 0,.int .i64 0,.slice none 0 0,.int .i64 0,.int .i64 0,.slice none 0 0,.slice none 0 0]:=hY3▸HY2.put 2 _
  have HU3:Turns (fun k=>k=(w.heap.size+1)) V4 Y3:=HU2.trans (hY3▸yag _ _ 2 _)
  clear HY2 HU2
  obtain⟨Y4,hY4⟩:∃Y4,Y3.setCell ⟨(w.heap.size+1),3,none⟩ (.int .i64 p.e.d)=Y4:=⟨_,rfl⟩
  have HY4:Bk Y4 (w.heap.size+1) 172 #[.int .i64 p.e.t,.int .i64 p.e.s,.int .i64 p.e.q,.int .i64 p.e.d,.int .i64 0,.int .i64 0,.int .i64 0,.slice none 0 0,.int .i64 0,.int .i64 0,.slice none 0 0,.slice none 0 0]:=hY4▸HY3.put 3 _
  have HU4:Turns (fun k=>k=(w.heap.size+1)) V4 Y4:=HU3.trans (hY4▸yag _ _ 3 _)
  clear HY3 HU3
  obtain⟨Y5,hY5⟩:∃Y5,Y4.setCell ⟨(w.heap.size+1),4,none⟩ (.int .i64 p.e.k)=Y5:=⟨_,rfl⟩
  have HY5:Bk Y5 (w.heap.size+1) 172 #[.int .i64 p.e.t,.int .i64 p.e.s,.int .i64 p.e.q,.int .i64 p.e.d,.int .i64 p.e.k,.int .i64 0,.int .i64 0,.slice none 0 0,.int .i64 0,.int .i64 0,.slice none 0 0,.slice none 0 0]:=hY5▸HY4.put 4 _
  have HU5:Turns (fun k=>k=(w.heap.size+1)) V4 Y5:=HU4.trans (hY5▸yag _ _ 4 _)
  clear HY4 HU4
  obtain⟨Y6,hY6⟩:∃Y6,Y5.setCell ⟨(w.heap.size+1),5,none⟩ (.int .i64 p.e.v)=Y6:=⟨_,rfl⟩
  have HY6:Bk Y6 (w.heap.size+1) 172 #[.int .i64 p.e.t,.int .i64 p.e.s,.int .i64 p.e.q,.int .i64 p.e.d,.int .i64 p.e.k,.int .i64 p.e.v,.int .i64 0,.slice none 0 0,.int .i64 0,.int .i64 0,.slice none 0 0,.slice none 0 0]:=hY6▸HY5.put 5 _
  have HU6:Turns (fun k=>k=(w.heap.size+1)) V4 Y6:=HU5.trans (hY6▸yag _ _ 5 _)
  clear HY5 HU5
  obtain⟨Y7,hY7⟩:∃Y7,Y6.setCell ⟨(w.heap.size+1),6,none⟩ (.int .i64 p.e.g)=Y7:=⟨_,rfl⟩
  have HY7:Bk Y7 (w.heap.size+1) 172 #[.int .i64 p.e.t,.int .i64 p.e.s,.int .i64 p.e.q,.int .i64 p.e.d,.int .i64 p.e.k,.int .i64 p.e.v,.int .i64 p.e.g,.slice none 0 0,.int .i64 0,.int .i64 0,.slice none 0 0,.slice none 0 0]:=hY7▸HY6.put 6 _
  have HU7:Turns (fun k=>k=(w.heap.size+1)) V4 Y7:=HU6.trans (hY7▸yag _ _ 6 _)
  clear HY6 HU6
  obtain⟨Y8,hY8⟩:∃Y8,Y7.setCell ⟨(w.heap.size+1),7,none⟩ (.slice a7 p.b.r.length c7)=Y8:=⟨_,rfl⟩
  have HY8:Bk Y8 (w.heap.size+1) 172 #[.int .i64 p.e.t,.int .i64 p.e.s,.int .i64 p.e.q,.int .i64 p.e.d,.int .i64 p.e.k,.int .i64 p.e.v,.int .i64 p.e.g,.slice a7 p.b.r.length c7,.int .i64 0,.int .i64 0,.slice none 0 0,.slice none 0 0]:=hY8▸HY7.put 7 _
  have HU8:Turns (fun k=>k=(w.heap.size+1)) V4 Y8:=HU7.trans (hY8▸yag _ _ 7 _)
  clear HY7 HU7
  obtain⟨Y9,hY9⟩:∃Y9,Y8.setCell ⟨(w.heap.size+1),8,none⟩ (.int .i64 p.b.q)=Y9:=⟨_,rfl⟩
  have HY9:Bk Y9 (w.heap.size+1) 172 #[.int .i64 p.e.t,.int .i64 p.e.s,.int .i64 p.e.q,.int .i64 p.e.d,.int .i64 p.e.k,.int .i64 p.e.v,.int .i64 p.e.g,.slice a7 p.b.r.length c7,.int .i64 p.b.q,.int .i64 0,.slice none 0 0,.slice none 0 0]:=hY9▸HY8.put 8 _
  have HU9:Turns (fun k=>k=(w.heap.size+1)) V4 Y9:=HU8.trans (hY9▸yag _ _ 8 _)
  clear HY8 HU8
  obtain⟨Y10,hY10⟩:∃Y10,Y9.setCell ⟨(w.heap.size+1),9,none⟩ (.int .i64 p.b.d)=Y10:=⟨_,rfl⟩
  have HY10:Bk Y10 (w.heap.size+1) 172 #[.int .i64 p.e.t,.int .i64 p.e.s,.int .i64 p.e.q,.int .i64 p.e.d,.int .i64 p.e.k,.int .i64 p.e.v,.int .i64 p.e.g,.slice a7 p.b.r.length c7,.int .i64 p.b.q,.int .i64 p.b.d,.slice none 0 0,.slice none 0 0]:=hY10▸HY9.put 9 _
  have HU10:Turns (fun k=>k=(w.heap.size+1)) V4 Y10:=HU9.trans (hY10▸yag _ _ 9 _)
  clear HY9 HU9
  obtain⟨Y11,hY11⟩:∃Y11,Y10.setCell ⟨(w.heap.size+1),10,none⟩ (.slice a10 p.s.length c10)=Y11:=⟨_,rfl⟩
  have HY11:Bk Y11 (w.heap.size+1) 172 #[.int .i64 p.e.t,.int .i64 p.e.s,.int .i64 p.e.q,.int .i64 p.e.d,.int .i64 p.e.k,.int .i64 p.e.v,.int .i64 p.e.g,.slice a7 p.b.r.length c7,.int .i64 p.b.q,.int .i64 p.b.d,.slice a10 p.s.length c10,.slice none 0 0]:=hY11▸HY10.put 10 _
  have HU11:Turns (fun k=>k=(w.heap.size+1)) V4 Y11:=HU10.trans (hY11▸yag _ _ 10 _)
  clear HY10 HU10
  obtain⟨Y12,hY12⟩:∃Y12,Y11.setCell ⟨(w.heap.size+1),11,none⟩ (.slice a11 p.x.length c11)=Y12:=⟨_,rfl⟩
  have HY12:Bk Y12 (w.heap.size+1) 172 #[.int .i64 p.e.t,.int .i64 p.e.s,.int .i64 p.e.q,.int .i64 p.e.d,.int .i64 p.e.k,.int .i64 p.e.v,.int .i64 p.e.g,.slice a7 p.b.r.length c7,.int .i64 p.b.q,.int .i64 p.b.d,.slice a10 p.s.length c10,.slice a11 p.x.length c11]:=hY12▸HY11.put 11 _
  have HU12:Turns (fun k=>k=(w.heap.size+1)) V4 Y12:=HU11.trans (hY12▸yag _ _ 11 _)
  clear HY11 HU11
  rw [hY1,hY2,hY3,hY4,hY5,hY6,hY7,hY8,hY9,hY10,hY11,hY12]
  have hR:=HY12
  have hT:=HU12
  obtain⟨t0,t1,t2,t3,t4,t5,t6,t7,t8,t9,t10,t11⟩:=zpj hR
  have hsz:=hT.size
  refine bodyPost_ret (v:= .agg #[.int .i64 p.e.t,.int .i64 p.e.s,.int .i64 p.e.q,.int .i64 p.e.d,.int .i64 p.e.k,.int .i64 p.e.v,.int .i64 p.e.g,.slice a7 p.b.r.length c7,.int .i64 p.b.q,.int .i64 p.b.d,.slice a10 p.s.length c10,.slice a11 p.x.length c11]) (by simp [results,Tryz.results242,go_sem,t0,t1,t2,t3,t4,t5,t6,t7,t8,t9,t10,t11]) rfl
    ⟨_,rfl,HX4.out.trans (hT.to_below (fun k e=>by omega) (by omega)),_,_,_,_,_,_,rfl,HO7.out.turns hT (fun k e=>by omega),HO10.out.turns hT (fun k e=>by omega),HO11.out.turns hT (fun k e=>by omega),fun k e=>⟨⟨by omega,by omega⟩,by omega,by omega⟩,fun k e=>⟨⟨by omega,by omega⟩,by omega⟩,fun k e=>⟨by omega,by omega⟩⟩
theorem yzv {p:Prop} (h:p):Hid p:=h
theorem zno (w:World) (g m:Nat) (v0 v1 v2 v3 v4 v5 v6 v7 v8 v9 v10 v11:Value):putN w g m (fun i=> [v0,v1,v2,v3,v4,v5,v6,v7,v8,v9,v10,v11].getD i (.int .i64 0)) 12=((((((((((((w.setCell ⟨g,m,none⟩ (v0)).setCell ⟨g,m+1,none⟩ (v1)).setCell ⟨g,m+2,none⟩ (v2)).setCell ⟨g,m+3,none⟩ (v3)).setCell ⟨g,m+4,none⟩ (v4)).setCell ⟨g,m+5,none⟩ (v5)).setCell ⟨g,m+6,none⟩ (v6)).setCell ⟨g,m+7,none⟩ (v7)).setCell ⟨g,m+8,none⟩ (v8)).setCell ⟨g,m+9,none⟩ (v9)).setCell ⟨g,m+10,none⟩ (v10)).setCell ⟨g,m+11,none⟩ (v11)):=rfl
theorem zix (w:World) (g m:Nat) (v0 v1 v2 v3 v4 v5 v6 v7 v8 v9 v10 v11:Value):Turns (fun k=>k=g) w ((((((((((((w.setCell ⟨g,m,none⟩ (v0)).setCell ⟨g,m+1,none⟩ (v1)).setCell ⟨g,m+2,none⟩ (v2)).setCell ⟨g,m+3,none⟩ (v3)).setCell ⟨g,m+4,none⟩ (v4)).setCell ⟨g,m+5,none⟩ (v5)).setCell ⟨g,m+6,none⟩ (v6)).setCell ⟨g,m+7,none⟩ (v7)).setCell ⟨g,m+8,none⟩ (v8)).setCell ⟨g,m+9,none⟩ (v9)).setCell ⟨g,m+10,none⟩ (v10)).setCell ⟨g,m+11,none⟩ (v11)):=zno w g m v0 v1 v2 v3 v4 v5 v6 v7 v8 v9 v10 v11▸zbx w g m _ 12
theorem infoPast:(Tryz.prog.info? 172).map (fun i=>(i.zero,i.size,i.bytes))=some (some (.agg #[.int .i64 0,.int .i64 0,.int .i64 0,.int .i64 0,.int .i64 0,.int .i64 0,.int .i64 0,.slice none 0 0,.int .i64 0,.int .i64 0,.slice none 0 0,.slice none 0 0]),12,144):=by kernel_rfl
set_option maxHeartbeats 8000000 in
theorem to_pasts (x:Value) (l:List Ps) (w:World) (hl:(yw3 l).wt≤1048576) (h:IsD w x (yw3 l)):
    Calls Tryz.prog 183 #[x] w fun e w'=>∃y,e= .returned y∧Below w.heap.size w w'∧OwnD w' (fun k=>w.heap.size≤k∧k<w'.heap.size) y (yw3 l):=by
  obtain⟨a,cap,rfl,h1,h2,h⟩:=IsD.parts (c:=12) (n:=l.length) h
  have HS:=yzv hl
  have hl2:l.length≤1048576:=by rw [yxh]at hl;omega
  have hp:(0:Int)≤(l.length:Int):=by omega
  clear hl
  obtain⟨i0,hi,hz0,hz1,hz2⟩:=info_parts infoPast
  go_enter Tryz.func183,Tryz.ntmps183
  go_wp2_with (at_make;refine wpList_make_full _ rfl _ _ 95 rfl w.heap.size 172 i0 _ 12 Tryz.underlying95 hi hz0 hz1 .i64 .i64 l.length l.length l.length rfl rfl rfl rfl (by rw [hz2];omega) (by unfold maxLen;omega) (Nat.le_refl _) ?_;intro w1 hown hgrow)
  have hB1:Hid (Below w.heap.size w w1):=(Below.refl _ _).grown hgrow (Nat.le_refl _) (fun k e=>by cases e)
  obtain⟨zs,hR0⟩:=OwnD.made0 (ydq l) hown
  have hR1:=yzv hR0
  clear hown hgrow hi hz0 hz1 hz2 hR0
  go_loopw [4] (fun i wr=>∃k:Nat,k≤l.length∧i= .int .i64 k∧Below w.heap.size w wr∧OwnD wr (fun k=>w.heap.size≤k∧k<wr.heap.size) (sl w.heap.size l.length) (.row 12 l.length (toC (ydq l) zs (k*12)))) (fun i _=>l.length-(intOf i).toNat)
  case atStart=>exact⟨0,Nat.zero_le _,rfl,hB1.out,hR1.out⟩
  case round=>
    obtain⟨k,hk,rfl,hB,hR⟩:=hrel
    have HB:=yzv hB
    have HR:=yzv hR
    clear hR
    by_cases hlt:k<l.length
    · obtain⟨b,off,rfl,hb,hc⟩:=h.resolve_left (by omega)
      obtain⟨u7,u10,u11,f0,f1,f2,f3,f4,f5,f6,f7,f8,f9,f10,f11,d7,d10,d11⟩:=yya (fun j hj=>by
        obtain⟨u,hu,hd⟩:=hc j hj
        exact⟨u,(hB.cell (p:=⟨b,off+j,none⟩) hb).trans hu,hd.under hB⟩) hlt
      have HD:Hid (IsPast wr (.agg #[.int .i64 (psAt l k).e.t,.int .i64 (psAt l k).e.s,.int .i64 (psAt l k).e.q,.int .i64 (psAt l k).e.d,.int .i64 (psAt l k).e.k,.int .i64 (psAt l k).e.v,.int .i64 (psAt l k).e.g,u7,.int .i64 (psAt l k).b.q,.int .i64 (psAt l k).b.d,u10,u11]) (psAt l k)):=⟨u7,u10,u11,rfl,d7,d10,d11⟩
      have hg:w.heap.size<wr.heap.size:=(HR.out.lt (by omega)).1
      clear hB hB1 hR1 h hc d7 d10 d11
      go_wp2_with fail
      clear f0 f1 f2 f3 f4 f5 f6 f7 f8 f9 f10 f11
      refine(zld _ (psAt l k) _ (Nat.le_trans (Ps.wt_le hlt) HS.out) HD.out).mono ?_
      rintro e w2 ⟨y,rfl,hb2,A7,A10,A11,v7,v10,v11,rfl,o7,o10,o11,d7,d10,d11⟩
      have HB2:=yzv hb2
      have HR2:=yzv (HR.out.under hb2)
      obtain⟨a7,c7,rfl,_⟩:=OwnD.parts (c:=1) (n:=(psAt l k).b.r.length) o7
      have O7:=yzv o7
      obtain⟨a10,c10,rfl,_⟩:=OwnD.parts (c:=7) (n:=(psAt l k).s.length) o10
      have O10:=yzv o10
      obtain⟨a11,c11,rfl,_⟩:=OwnD.parts (c:=3) (n:=(psAt l k).x.length) o11
      have O11:=yzv o11
      obtain⟨x0,_,g0,z0,_⟩:=HR2.out.step (j:=k*12) (by omega)
      obtain⟨x1,_,g1,z1,_⟩:=HR2.out.step (j:=k*12+1) (by omega)
      obtain⟨x2,_,g2,z2,_⟩:=HR2.out.step (j:=k*12+2) (by omega)
      obtain⟨x3,_,g3,z3,_⟩:=HR2.out.step (j:=k*12+3) (by omega)
      obtain⟨x4,_,g4,z4,_⟩:=HR2.out.step (j:=k*12+4) (by omega)
      obtain⟨x5,_,g5,z5,_⟩:=HR2.out.step (j:=k*12+5) (by omega)
      obtain⟨x6,_,g6,z6,_⟩:=HR2.out.step (j:=k*12+6) (by omega)
      obtain⟨x7,_,g7,z7,_⟩:=HR2.out.step (j:=k*12+7) (by omega)
      obtain⟨x8,_,g8,z8,_⟩:=HR2.out.step (j:=k*12+8) (by omega)
      obtain⟨x9,_,g9,z9,_⟩:=HR2.out.step (j:=k*12+9) (by omega)
      obtain⟨x10,_,g10,z10,_⟩:=HR2.out.step (j:=k*12+10) (by omega)
      obtain⟨x11,_,g11,z11,_⟩:=HR2.out.step (j:=k*12+11) (by omega)
      have D7:=yzv d7
      have D10:=yzv d10
      have D11:=yzv d11
      clear hb2 o7 d7 o10 d10 o11 d11
      go_wp2
      go_roundw
      case rel=>
        have hG:∀i b,(fun i=>if i=7 then A7 else if i=10 then A10 else if i=11 then A11 else fun _=>False) i b→wr.heap.size≤b∧b<w2.heap.size:=by
          intro i b hb
          by_cases e:i=7∨i=10∨i=11
          · rcases e with rfl|rfl|rfl
            · exact(D7.out b hb).1
            · exact(D10.out b hb).1
            · exact(D11.out b hb)
          · simp only [not_or]at e
            simp [e]at hb
        have hGG:∀i j,i≠j→ ∀b,(fun i=>if i=7 then A7 else if i=10 then A10 else if i=11 then A11 else fun _=>False) i b→ ¬(fun i=>if i=7 then A7 else if i=10 then A10 else if i=11 then A11 else fun _=>False) j b:=by
          intro i j hij b hb hb'
          by_cases e:i=7∨i=10∨i=11
          · by_cases e':j=7∨j=10∨j=11
            · rcases e with rfl|rfl|rfl<;>rcases e' with rfl|rfl|rfl
              · exact hij rfl
              · exact(D7.out b hb).2.1 hb'
              · exact(D7.out b hb).2.2 hb'
              · exact(D7.out b hb').2.1 hb
              · exact hij rfl
              · exact(D10.out b hb).2 hb'
              · exact(D7.out b hb').2.2 hb
              · exact(D10.out b hb').2 hb
              · exact hij rfl
            · simp only [not_or]at e'
              simp [e']at hb'
          · simp only [not_or]at e
            simp [e]at hb
        have q:=OwnD.fillN (G:=(fun i=>if i=7 then A7 else if i=10 then A10 else if i=11 then A11 else fun _=>False)) (U:=(fun i=> [.int .i64 (psAt l k).e.t,.int .i64 (psAt l k).e.s,.int .i64 (psAt l k).e.q,.int .i64 (psAt l k).e.d,.int .i64 (psAt l k).e.k,.int .i64 (psAt l k).e.v,.int .i64 (psAt l k).e.g,.slice a7 (psAt l k).b.r.length c7,.int .i64 (psAt l k).b.q,.int .i64 (psAt l k).b.d,.slice a10 (psAt l k).s.length c10,.slice a11 (psAt l k).x.length c11].getD i (.int .i64 0))) HR2.out ⟨Nat.le_refl _,hg⟩ 12 (by omega) (fun i hi=>by
          have hat:ydq l (k*12+i)=(psAt l k).cell i:=ywn l k (r:=i) hi
          match i,hi,hat with
          |0,_,hat=>rw [hat];exact OwnD.val _ _
          |1,_,hat=>rw [hat];exact OwnD.val _ _
          |2,_,hat=>rw [hat];exact OwnD.val _ _
          |3,_,hat=>rw [hat];exact OwnD.val _ _
          |4,_,hat=>rw [hat];exact OwnD.val _ _
          |5,_,hat=>rw [hat];exact OwnD.val _ _
          |6,_,hat=>rw [hat];exact OwnD.val _ _
          |7,_,hat=>rw [hat];exact O7.out
          |8,_,hat=>rw [hat];exact OwnD.val _ _
          |9,_,hat=>rw [hat];exact OwnD.val _ _
          |10,_,hat=>rw [hat];exact O10.out
          |11,_,hat=>rw [hat];exact O11.out
          |_+12,h,_=>exact absurd h (by omega)) (fun i _ b hb hb'=>by have:=hG i b hb;omega) (fun i j _ _ hij b hb hb'=>hGG i j hij b hb hb')
        rw [zno]at q
        have hT:=zix w2 w.heap.size (k*12) (.int .i64 (psAt l k).e.t) (.int .i64 (psAt l k).e.s) (.int .i64 (psAt l k).e.q) (.int .i64 (psAt l k).e.d) (.int .i64 (psAt l k).e.k) (.int .i64 (psAt l k).e.v) (.int .i64 (psAt l k).e.g) (.slice a7 (psAt l k).b.r.length c7) (.int .i64 (psAt l k).b.q) (.int .i64 (psAt l k).b.d) (.slice a10 (psAt l k).s.length c10) (.slice a11 (psAt l k).x.length c11)
        have hsz:=hT.size
        refine⟨k+1,by omega,by go_num,(HB.out.trans (HB2.out.mono (by omega))).trans (hT.to_below (fun b e=>by omega) (by have:=HB2.out.size;omega)),?_⟩
        rw [show(k+1)*12=k*12+12 from by omega]
        refine q.mono (fun b hb=> ?_)
        have hs2:=HB2.out.size
        rcases hb with hb|⟨i,_,hb⟩
        · exact⟨hb.1,Nat.lt_of_lt_of_le hb.2 (Nat.le_trans hs2 hsz)⟩
        · have:=hG i b hb
          exact⟨by omega,Nat.lt_of_lt_of_le this.2 hsz⟩
      case measure=>simp [intOf];omega
    · clear hB hB1 hR1 h
      go_wp2
      go_ret
      obtain rfl:k=l.length:=by omega
      exact⟨_,rfl,HB.out,HR.out.toAll rfl⟩
end Go.Proofs.YtghndljgadpijaaGreat

