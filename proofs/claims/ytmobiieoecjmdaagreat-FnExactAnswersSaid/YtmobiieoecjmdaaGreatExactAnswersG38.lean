/- KDa, KDb, TPpE -/
import Derived.Test.YtmobiieoecjmdaaGreatExactAnswersG37
namespace Go.Proofs.YtmobiieoecjmdaaGreat
set_option maxHeartbeats 4000000
open Go.RowKit
theorem yht {p:Prop} (h:p):Hid p:=h
theorem ymy:∀(l:List O),∀u∈yer l,∃i,u= .int .i64 i
 | [],u,hu=>by cases hu
 |e::l,u,hu=>by
  rcases List.mem_append.1 hu with h|h
  ·simp [O.cs]at h
   rcases h with rfl|rfl|rfl|rfl<;>exact⟨_,rfl⟩
  ·exact ymy l u h
def opsD (l:List O):Dat:=flat 4 l.length (yer l)
theorem yu0 (l:List O):(opsD l).wt=l.length:=yjw _ _ _
theorem ops_cnt (l:List O):(opsD l).cnt=l.length*4:=yj0 _ _ _
theorem ops_thin (l:List O):(opsD l).thin:=yg7 (by omega)
theorem mark_ops {F:Nat→Prop} {x:Value} {l:List O} {w:World} (z:Int) (hn:l.length≤1048577) (hz0:0≤z) (hz1:z≤1073741824) (h:OwnD w F x (opsD l)):
  Calls Tryz.prog 145 #[x,.int .i64 z] w fun e w'=>e= .returned (.int .i64 (z+((opsD l).cnt:Int)))∧OwnD w' F x ((opsD l).mark z)∧Turns F w w':=by
 refine(markOF z hn hz0 hz1 (OwnD.rowF (c:=4) h (yfn l))).mono ?_
 rintro e w' ⟨rfl,hr,ht⟩
 refine⟨yau ?_,yfk hr.own (ymy l),ht⟩
 rw [ops_cnt]
 omega
def yh7 (l:List (List O)):Nat→Dat:=fun j=>opsD (hAt l j)
def hsD (l:List (List O)):Dat:= .row 1 l.length (yh7 l)
theorem hsD_at (l:List (List O)) (i:Nat) {r:Nat} (hr:r<1):yh7 l (i*1+r)=opsD (hAt l i):=by
 obtain rfl:r=0:=by omega
 rw [Nat.mul_one,Nat.add_zero]
 rfl
theorem ypy (l:List (List O)):(hsD l).wt=l.length+sumL (fun i=>(opsD (hAt l i)).wt) l.length:=by
 show l.length+sumL (fun j=>(yh7 l j).wt) (l.length*1)=_
 rw [Nat.mul_one]
 rfl
theorem hsD_le {l:List (List O)} {i:Nat} (h:i<l.length):(hAt l i).length≤(hsD l).wt:=by
 rw [ypy]
 have:=yfd (fun i=>(opsD (hAt l i)).wt) h
 have h2:(opsD (hAt l i)).wt=(hAt l i).length:=yu0 _
 omega
theorem hs_thin (l:List (List O)):(hsD l).thin:=⟨by omega,fun j=>ops_thin _⟩
theorem HsF.own {F:Nat→Prop} {w:World} {x:Value} {l:List (List O)} (h:HsF F w x l):OwnD w F x (hsD l):=by
 obtain⟨U,F0,G,⟨hl,a,cap,rfl,h1,h2,h⟩,hF,h3,h4⟩:=h
 rcases h with h|⟨g,rfl,hg0,hg,hc⟩
 ·rw [h]
  have:l= []:=List.eq_nil_of_length_eq_zero h
  subst this
  exact .nil F a cap 1 _ h2
 ·refine .row F g l.length cap 1 _ U G h1 h2 hg (hF g hg0) (fun j hj=>⟨?_,(hc j hj).2⟩) (fun j hj=>(h3 j (by omega)).1.own) (fun j hj k hk=>⟨((h3 j (by omega)).2 k hk).1,fun e=>((h3 j (by omega)).2 k hk).2 (e▸hg0)⟩) (fun i j hi hj=>h4 i j (by omega) (by omega))
  rw [(hc j hj).1]
  simp [show j<l.length by omega]
theorem IsD.isOs {w:World} {x:Value} {l:List O} (h:IsD w x (opsD l)):IsO w x l:=by
 obtain⟨a,cap,rfl,h1,h2,h⟩:=IsD.parts (c:=4) (n:=l.length) h
 refine⟨a,cap,rfl,h1,h2,h.imp List.eq_nil_of_length_eq_zero ?_⟩
 rintro ⟨b,off,rfl,hb,hc⟩
 refine⟨b,off,rfl,hb,fun i hi=> ?_⟩
 have hget:∀r,r<4→w.cell? ⟨b,off+i*4+r,none⟩=(oAt l i).cs[r]? :=fun r hr=>by
  obtain⟨u,hu,hd⟩:=hc (i*4+r) (by omega)
  rw [Nat.add_assoc,hu,hd.val_eq]
  have hg:=yfa l i r hi hr
  have:r<(oAt l i).cs.length:=by simpa [O.cs] using hr
  rw [List.getElem?_eq_getElem this]at hg⊢
  rw [yba hg]
 exact⟨hget 0 (by omega),hget 1 (by omega),hget 2 (by omega),hget 3 (by omega)⟩
theorem IsD.isHs {w:World} {x:Value} {l:List (List O)} (h:IsD w x (hsD l)):IsH w x l:=by
 obtain⟨a,cap,rfl,h1,h2,h⟩:=IsD.parts (c:=1) (n:=l.length) h
 refine⟨a,cap,rfl,h1,h2,h.imp List.eq_nil_of_length_eq_zero ?_⟩
 rintro ⟨b,off,rfl,hb,hc⟩
 refine⟨b,off,rfl,hb,fun i hi=> ?_⟩
 obtain⟨u,hu,hd⟩:=hc i (by omega)
 exact⟨u,hu,IsD.isOs hd⟩
def Kn.cell (p:Kn):Nat→Dat
 |0=>Dat.val (.int .i64 p.m.n)
 |1=>Dat.val (.int .i64 p.m.s)
 |2=>yaq p.m.i
 |3=>hsD p.m.h
 |4=>evsD p.m.e
 |5=>Dat.val (.int .i64 p.m.z)
 |6=>yaq p.d
 |7=>yb8 p.p
 |8=>ybh p.b
 |9=>Dat.val (.int .i64 p.t)
 |10=>Dat.val (.int .i64 p.q)
 |11=>Dat.val (.bool p.f)
 |12=>evsD p.s
 |13=>emsD p.x
 |_=> .val (.int .i64 0)
def Kn.wd (p:Kn):Nat:=(yaq p.m.i).wt+(hsD p.m.h).wt+(evsD p.m.e).wt+(yaq p.d).wt+(yb8 p.p).wt+(ybh p.b).wt+(evsD p.s).wt+(emsD p.x).wt
def yaa (l:List Kn):Nat→Dat:=fun j=>(knAt l (j/14)).cell (j%14)
def knsD (l:List Kn):Dat:= .row 14 l.length (yaa l)
theorem yd2 (l:List Kn) (i:Nat) {r:Nat} (hr:r<14):yaa l (i*14+r)=(knAt l i).cell r:=by
 show(knAt l ((i*14+r)/14)).cell ((i*14+r)%14)=_
 rw [show(i*14+r)/14=i from by omega,show(i*14+r)%14=r from by omega]
theorem ylm (l:List Kn):(knsD l).wt=l.length+sumL (fun i=>(knAt l i).wd) l.length:=by
 show l.length+sumL (fun j=>((knAt l (j/14)).cell (j%14)).wt) (l.length*14)=_
 rw [yhk (h:=fun i r=>((knAt l i).cell r).wt)]
 congr 1
 refine yf0 (fun i _=> ?_)
 simp only [sumL,Kn.cell,Kn.wd,Dat.wt,Nat.zero_add,Nat.add_zero]
theorem Kn.thin (p:Kn) (r:Nat):(p.cell r).thin:=by
 unfold Kn.cell
 split
 ·trivial
 ·trivial
 ·exact yf3 _
 ·exact hs_thin _
 ·exact yj1 _
 ·trivial
 ·exact yf3 _
 ·exact yrh _
 ·exact yrw _
 ·trivial
 ·trivial
 ·trivial
 ·exact yj1 _
 ·exact yq8 _
 ·trivial
theorem yn6 (l:List Kn):(knsD l).thin:=⟨by omega,fun j=>Kn.thin (knAt l (j/14)) (j%14)⟩
theorem Kn.wd_le {l:List Kn} {i:Nat} (h:i<l.length):(knAt l i).wd≤(knsD l).wt:=by
 rw [ylm]
 have:=yfd (fun i=>(knAt l i).wd) h
 omega
theorem knsD_in {w:World} {b off n:Nat} {l:List Kn} (h:∀j,j<n*14→ ∃u,w.cell? ⟨b,off+j,none⟩=some u∧IsD w u ((knAt l (j/14)).cell (j%14))) {i:Nat} (hi:i<n):
  ∃u2 u3 u4 u6 u7 u8 u12 u13,w.cell? ⟨b,off+i*14,none⟩=some (.int .i64 (knAt l i).m.n)∧w.cell? ⟨b,off+i*14+1,none⟩=some (.int .i64 (knAt l i).m.s)∧w.cell? ⟨b,off+i*14+2,none⟩=some (u2)∧w.cell? ⟨b,off+i*14+3,none⟩=some (u3)∧w.cell? ⟨b,off+i*14+4,none⟩=some (u4)∧w.cell? ⟨b,off+i*14+5,none⟩=some (.int .i64 (knAt l i).m.z)∧w.cell? ⟨b,off+i*14+6,none⟩=some (u6)∧w.cell? ⟨b,off+i*14+7,none⟩=some (u7)∧w.cell? ⟨b,off+i*14+8,none⟩=some (u8)∧w.cell? ⟨b,off+i*14+9,none⟩=some (.int .i64 (knAt l i).t)∧w.cell? ⟨b,off+i*14+10,none⟩=some (.int .i64 (knAt l i).q)∧w.cell? ⟨b,off+i*14+11,none⟩=some (.bool (knAt l i).f)∧w.cell? ⟨b,off+i*14+12,none⟩=some (u12)∧w.cell? ⟨b,off+i*14+13,none⟩=some (u13)∧IsD w u2 (yaq (knAt l i).m.i)∧IsD w u3 (hsD (knAt l i).m.h)∧IsD w u4 (evsD (knAt l i).m.e)∧IsD w u6 (yaq (knAt l i).d)∧IsD w u7 (yb8 (knAt l i).p)∧IsD w u8 (ybh (knAt l i).b)∧IsD w u12 (evsD (knAt l i).s)∧IsD w u13 (emsD (knAt l i).x):=by
 have hh:∀r,r<14→ ∃u,w.cell? ⟨b,off+i*14+r,none⟩=some u∧IsD w u ((knAt l i).cell r):=fun r hr=>by
  have:=h (i*14+r) (by omega)
  rw [show(i*14+r)/14=i from by omega,show(i*14+r)%14=r from by omega,←Nat.add_assoc]at this
  exact this
 obtain⟨u0,c0,d0⟩:=hh 0 (by omega)
 obtain⟨u1,c1,d1⟩:=hh 1 (by omega)
 obtain⟨u2,c2,d2⟩:=hh 2 (by omega)
 obtain⟨u3,c3,d3⟩:=hh 3 (by omega)
 obtain⟨u4,c4,d4⟩:=hh 4 (by omega)
 obtain⟨u5,c5,d5⟩:=hh 5 (by omega)
 obtain⟨u6,c6,d6⟩:=hh 6 (by omega)
 obtain⟨u7,c7,d7⟩:=hh 7 (by omega)
 obtain⟨u8,c8,d8⟩:=hh 8 (by omega)
 obtain⟨u9,c9,d9⟩:=hh 9 (by omega)
 obtain⟨u10,c10,d10⟩:=hh 10 (by omega)
 obtain⟨u11,c11,d11⟩:=hh 11 (by omega)
 obtain⟨u12,c12,d12⟩:=hh 12 (by omega)
 obtain⟨u13,c13,d13⟩:=hh 13 (by omega)
 obtain rfl:=d0.val_eq
 obtain rfl:=d1.val_eq
 obtain rfl:=d5.val_eq
 obtain rfl:=d9.val_eq
 obtain rfl:=d10.val_eq
 obtain rfl:=d11.val_eq
 exact⟨u2,u3,u4,u6,u7,u8,u12,u13,c0,c1,c2,c3,c4,c5,c6,c7,c8,c9,c10,c11,c12,c13,d2,d3,d4,d6,d7,d8,d12,d13⟩
theorem IsD.isKs {w:World} {x:Value} {l:List Kn} (h:IsD w x (knsD l)):IsKs w x l:=by
 obtain⟨a,cap,rfl,h1,h2,h⟩:=IsD.parts (c:=14) (n:=l.length) h
 refine⟨a,cap,rfl,h1,h2,h.imp id ?_⟩
 rintro ⟨b,off,rfl,hb,hc⟩
 refine⟨b,off,rfl,hb,fun i hi=> ?_⟩
 obtain⟨u2,u3,u4,u6,u7,u8,u12,u13,c0,c1,c2,c3,c4,c5,c6,c7,c8,c9,c10,c11,c12,c13,d2,d3,d4,d6,d7,d8,d12,d13⟩:=knsD_in hc hi
 exact⟨u2,u3,u4,u6,u7,u8,u12,u13,⟨c0,c1,c2,c3,c4,c5,c6,c7,c8,c9,c10,c11,c12,c13⟩,u2,u3,u4,u6,u7,u8,u12,u13,rfl,⟨_,_,_,rfl,d2.isI,IsD.isHs d3,d4.isEvs⟩,d6,d7,d8,d12,d13⟩
theorem mark_hs {F:Nat→Prop} {x:Value} {l:List (List O)} {w:World} (z:Int) (hn:(hsD l).wt≤1048577) (hz0:0≤z) (hz1:z+((hsD l).cnt:Int)≤1073741824) (h:OwnD w F x (hsD l)):
  Calls Tryz.prog 96 #[x,.int .i64 z] w fun e w'=>e= .returned (.int .i64 (z+((hsD l).cnt:Int)))∧OwnD w' F x ((hsD l).mark z)∧Turns F w w':=by
 obtain⟨a,cap,rfl,h1,h2,ha⟩:=OwnD.parts (c:=1) (n:=l.length) h
 have HR0:=yht (OwnD.mk0 z h)
 have HS:=yht hn
 have HZ:=yht hz1
 have hl2:l.length≤1048577:=by rw [ypy]at hn;omega
 clear h hn hz1 h1 h2
 go_enter Tryz.func96,Tryz.ntmps96
 go_wp2
 go_loopw [5,1] (fun i y wr=>∃k:Nat,k≤l.length∧i= .int .i64 k∧y= .int .i64 (z+(sumC (yh7 l) (k*1):Int))∧OwnD wr F (.slice a l.length cap) (.row 1 l.length (mkD (yh7 l) z (k*1)))∧Turns F w wr) (fun i _ _=>l.length-(intOf i).toNat)
 case atStart=>exact⟨0,Nat.zero_le _,rfl,by simp [sumC,sumL],HR0.out,Turns.refl _ _⟩
 case round=>
  obtain⟨k,hk,rfl,rfl,hR,hT⟩:=hrel
  have HR:=yht hR
  have HT:Hid (Turns F w wr):=hT
  clear hR hT
  by_cases hlt:k<l.length
  ·obtain⟨g,rfl,_,hFg⟩:=ha.resolve_left (by omega)
   have HF:Hid (F g):=hFg
   have hwt:(hAt l k).length≤1048577:=Nat.le_trans (hsD_le hlt) HS.out
   obtain⟨m,hm⟩:∃m,m=k*1:=⟨_,rfl⟩
   have E0:Hid ((yh7 l) (k*1)=opsD (hAt l k)):=hsD_at l k (r:=0) (by omega)
   have C0:Hid (sumC (yh7 l) (k*1)≤(hsD l).cnt):=yai (by omega)
   have S1:Hid (sumC (yh7 l) (k*1+1)=sumC (yh7 l) (k*1)+(opsD (hAt l k)).cnt):=by
    have e:=yaf (yh7 l) (k*1)
    rw [E0.out]at e
    exact e
   have C1:Hid (sumC (yh7 l) (k*1+1)≤(hsD l).cnt):=yai (by omega)
   obtain⟨y,hy⟩:∃y:Int,y=z+(sumC (yh7 l) (k*1):Int):=⟨_,rfl⟩
   have HY0:=yht hy
   have y0:0≤y:=by omega
   rw [←hy]
   clear hy hm
   obtain⟨u0,K0,g0,o0,f0,b0⟩:=HR.out.mk_row (m:=k*1) (by omega)
   rw [Nat.mul_one]at g0
   rw [E0.out]at o0 b0
   have O0:=yht o0
   have B0:=yht b0
   have F0:Hid (∀b,K0 b→F b):=f0
   clear o0 b0 f0
   have hq0:y=z+(sumC (yh7 l) (k*1):Int):=by(have e:=HY0.out;omega)
   have hb0:y≤1073741824:=by have:=HZ.out;have:=C0.out;omega
   have Q0:=yht hq0
   clear hq0
   go_wp2_with fail
   clear g0
   refine(mark_ops (F:=K0) (l:=(hAt l k)) (y) (by omega) (by omega) (by omega) O0.out).mono ?_
   rintro e w1 ⟨rfl,hr,ht⟩
   rw [Q0.out]at hr
   have HR1:=yht (B0.out _ hr ht)
   have HT1:Hid (Turns F w w1):=HT.out.trans (ht.mono F0.out)
   clear hr ht
   obtain⟨y0,hy⟩:∃y0:Int,y0=y+((opsD (hAt l k)).cnt:Int):=⟨_,rfl⟩
   have HY1:Hid (y0=z+(sumC (yh7 l) (k*1+1):Int)):=by
    have h8:=S1.out
    have h9:=Q0.out
    show y0=_
    omega
   have y00:0≤y0:=by omega
   have y01:y0≤1073741824:=by have h7:=HZ.out;have h8:=C1.out;have h9:=HY1.out;omega
   rw [←hy]
   clear hy
   go_wp2
   go_roundw
   case rel=>
    refine⟨k+1,by omega,by go_num,?_,?_,HT1.out⟩
    ·rw [show y0=z+(sumC (yh7 l) ((k+1)*1):Int)from by rw [show(k+1)*1=k*1+1 from by omega];(have e:=HY1.out;omega)]
    ·rw [show(k+1)*1=k*1+1 from by omega]
     exact HR1.out
   case measure=>simp [intOf];omega
  ·go_wp2
   go_ret
   obtain rfl:k=l.length:=by omega
   exact⟨rfl,HR.out.mkAll,HT.out⟩
end Go.Proofs.YtmobiieoecjmdaaGreat

namespace Go.Proofs.YtmobiieoecjmdaaGreat
open Go.RowKit
theorem yf6 {p:Prop} (h:p):Hid p:=h
def ya4 (l:List Ml):Nat→Dat:=fun j=> .val ((ych l).getD j (.int .i64 0))
theorem ydw (l:List Ml) {i r:Nat} (hi:i<l.length) (hr:r<8):ya4 l (i*8+r)= .val ((mlAt l i).cs.getD r (.int .i64 0)):=by
 unfold ya4
 congr 1
 have h1:=ybm l i r hi hr
 have h2:r<(mlAt l i).cs.length:=by simpa [Ml.cs] using hr
 rw [List.getElem?_eq_getElem h2]at h1
 rw [yba h1,yba (List.getElem?_eq_getElem h2)]
set_option maxRecDepth 100000 in
set_option maxHeartbeats 8000000 in
theorem yrt {F:Nat→Prop} {x:Value} {l:List Ml} {w:World} (z:Int) (hn:(ybh l).wt≤1048577) (hz0:0≤z) (hz1:z+((ybh l).cnt:Int)≤1073741824) (h:OwnD w F x (ybh l)):
  Calls Tryz.prog 73 #[x,.int .i64 z] w fun e w'=>e= .returned (.int .i64 (z+((ybh l).cnt:Int)))∧OwnD w' F x ((ybh l).mark z)∧Turns F w w':=by
 obtain⟨a,cap,rfl,h1,h2,ha⟩:=OwnD.parts (c:=8) (n:=l.length) h
 have HR0:=yf6 (OwnD.mk0 z h)
 have HS:=yf6 hn
 have HZ:=yf6 hz1
 have hl2:l.length≤1048577:=by rw [yci]at hn;omega
 clear h hn hz1 h1 h2
 go_enter Tryz.func73,Tryz.ntmps73
 go_wp2
 go_loopw [5,1] (fun i y wr=>∃k:Nat,k≤l.length∧i= .int .i64 k∧y= .int .i64 (z+(sumC (ya4 l) (k*8):Int))∧OwnD wr F (.slice a l.length cap) (.row 8 l.length (mkD (ya4 l) z (k*8)))∧Turns F w wr) (fun i _ _=>l.length-(intOf i).toNat)
 case atStart=>exact⟨0,Nat.zero_le _,rfl,by simp [sumC,sumL],HR0.out,Turns.refl _ _⟩
 case round=>
  obtain⟨k,hk,rfl,rfl,hR,hT⟩:=hrel
  have HR:=yf6 hR
  have HT:Hid (Turns F w wr):=hT
  clear hR hT
  by_cases hlt:k<l.length
  ·obtain⟨g,rfl,_,hFg⟩:=ha.resolve_left (by omega)
   have HF:Hid (F g):=hFg
   obtain⟨m,hm⟩:∃m,m=k*8:=⟨_,rfl⟩
   have E0:=yf6 (ydw l hlt (r:=0) (by omega))
   have E1:=yf6 (ydw l hlt (r:=1) (by omega))
   have E2:=yf6 (ydw l hlt (r:=2) (by omega))
   have E3:=yf6 (ydw l hlt (r:=3) (by omega))
   have E4:=yf6 (ydw l hlt (r:=4) (by omega))
   have E5:=yf6 (ydw l hlt (r:=5) (by omega))
   have E6:=yf6 (ydw l hlt (r:=6) (by omega))
   have E7:=yf6 (ydw l hlt (r:=7) (by omega))
   have C0:Hid (sumC (ya4 l) (k*8)≤(ybh l).cnt):=yai (by omega)
   have S1:Hid (sumC (ya4 l) (k*8+1)=sumC (ya4 l) (k*8)+(Dat.val (.int .i64 (mlAt l k).e.t)).cnt):=by
    have e:=yaf (ya4 l) (k*8+0)
    rw [E0.out]at e
    exact e
   have C1:Hid (sumC (ya4 l) (k*8+1)≤(ybh l).cnt):=yai (by omega)
   have S2:Hid (sumC (ya4 l) (k*8+2)=sumC (ya4 l) (k*8+1)+(Dat.val (.int .i64 (mlAt l k).e.s)).cnt):=by
    have e:=yaf (ya4 l) (k*8+1)
    rw [E1.out]at e
    exact e
   have C2:Hid (sumC (ya4 l) (k*8+2)≤(ybh l).cnt):=yai (by omega)
   have S3:Hid (sumC (ya4 l) (k*8+3)=sumC (ya4 l) (k*8+2)+(Dat.val (.int .i64 (mlAt l k).e.q)).cnt):=by
    have e:=yaf (ya4 l) (k*8+2)
    rw [E2.out]at e
    exact e
   have C3:Hid (sumC (ya4 l) (k*8+3)≤(ybh l).cnt):=yai (by omega)
   have S4:Hid (sumC (ya4 l) (k*8+4)=sumC (ya4 l) (k*8+3)+(Dat.val (.int .i64 (mlAt l k).e.d)).cnt):=by
    have e:=yaf (ya4 l) (k*8+3)
    rw [E3.out]at e
    exact e
   have C4:Hid (sumC (ya4 l) (k*8+4)≤(ybh l).cnt):=yai (by omega)
   have S5:Hid (sumC (ya4 l) (k*8+5)=sumC (ya4 l) (k*8+4)+(Dat.val (.int .i64 (mlAt l k).e.k)).cnt):=by
    have e:=yaf (ya4 l) (k*8+4)
    rw [E4.out]at e
    exact e
   have C5:Hid (sumC (ya4 l) (k*8+5)≤(ybh l).cnt):=yai (by omega)
   have S6:Hid (sumC (ya4 l) (k*8+6)=sumC (ya4 l) (k*8+5)+(Dat.val (.int .i64 (mlAt l k).e.v)).cnt):=by
    have e:=yaf (ya4 l) (k*8+5)
    rw [E5.out]at e
    exact e
   have C6:Hid (sumC (ya4 l) (k*8+6)≤(ybh l).cnt):=yai (by omega)
   have S7:Hid (sumC (ya4 l) (k*8+7)=sumC (ya4 l) (k*8+6)+(Dat.val (.int .i64 (mlAt l k).e.g)).cnt):=by
    have e:=yaf (ya4 l) (k*8+6)
    rw [E6.out]at e
    exact e
   have C7:Hid (sumC (ya4 l) (k*8+7)≤(ybh l).cnt):=yai (by omega)
   have S8:Hid (sumC (ya4 l) (k*8+8)=sumC (ya4 l) (k*8+7)+(Dat.val (.bool (mlAt l k).a)).cnt):=by
    have e:=yaf (ya4 l) (k*8+7)
    rw [E7.out]at e
    exact e
   have C8:Hid (sumC (ya4 l) (k*8+8)≤(ybh l).cnt):=yai (by omega)
   have T0:sumC (ya4 l) (k*8)=sumC (ya4 l) (k*8)+0:=rfl
   have T1:sumC (ya4 l) (k*8+1)=sumC (ya4 l) (k*8)+1:=by have e1:=S1.out;have e2:=T0;exact e1.trans (by show sumC (ya4 l) (k*8)+1=_;omega)
   have T2:sumC (ya4 l) (k*8+2)=sumC (ya4 l) (k*8)+2:=by have e1:=S2.out;have e2:=T1;exact e1.trans (by show sumC (ya4 l) (k*8+1)+1=_;omega)
   have T3:sumC (ya4 l) (k*8+3)=sumC (ya4 l) (k*8)+3:=by have e1:=S3.out;have e2:=T2;exact e1.trans (by show sumC (ya4 l) (k*8+2)+1=_;omega)
   have T4:sumC (ya4 l) (k*8+4)=sumC (ya4 l) (k*8)+4:=by have e1:=S4.out;have e2:=T3;exact e1.trans (by show sumC (ya4 l) (k*8+3)+1=_;omega)
   have T5:sumC (ya4 l) (k*8+5)=sumC (ya4 l) (k*8)+5:=by have e1:=S5.out;have e2:=T4;exact e1.trans (by show sumC (ya4 l) (k*8+4)+1=_;omega)
   have T6:sumC (ya4 l) (k*8+6)=sumC (ya4 l) (k*8)+6:=by have e1:=S6.out;have e2:=T5;exact e1.trans (by show sumC (ya4 l) (k*8+5)+1=_;omega)
   have T7:sumC (ya4 l) (k*8+7)=sumC (ya4 l) (k*8)+7:=by have e1:=S7.out;have e2:=T6;exact e1.trans (by show sumC (ya4 l) (k*8+6)+1=_;omega)
   have T8:sumC (ya4 l) (k*8+8)=sumC (ya4 l) (k*8)+8:=by have e1:=S8.out;have e2:=T7;exact e1.trans (by show sumC (ya4 l) (k*8+7)+1=_;omega)
   have TT:Hid (sumC (ya4 l) (k*8+1)=sumC (ya4 l) (k*8)+1∧sumC (ya4 l) (k*8+2)=sumC (ya4 l) (k*8)+2∧sumC (ya4 l) (k*8+3)=sumC (ya4 l) (k*8)+3∧sumC (ya4 l) (k*8+4)=sumC (ya4 l) (k*8)+4∧sumC (ya4 l) (k*8+5)=sumC (ya4 l) (k*8)+5∧sumC (ya4 l) (k*8+6)=sumC (ya4 l) (k*8)+6∧sumC (ya4 l) (k*8+7)=sumC (ya4 l) (k*8)+7∧sumC (ya4 l) (k*8+8)=sumC (ya4 l) (k*8)+8):=⟨T1,T2,T3,T4,T5,T6,T7,T8⟩
   clear T0 T1 T2 T3 T4 T5 T6 T7 T8
   obtain⟨y,hy⟩:∃y:Int,y=z+(sumC (ya4 l) (k*8):Int):=⟨_,rfl⟩
   have HY0:=yf6 hy
   have y0:0≤y:=by omega
   have y1:y≤1073741824:=by have:=HZ.out;have:=C0.out;omega
   rw [←hy]
   clear hy hm
   obtain⟨x0,_,g0,z0,_⟩:=HR.out.step (j:=k*8) (by omega)
   obtain⟨x1,_,g1,z1,_⟩:=HR.out.step (j:=k*8+1) (by omega)
   obtain⟨x2,_,g2,z2,_⟩:=HR.out.step (j:=k*8+2) (by omega)
   obtain⟨x3,_,g3,z3,_⟩:=HR.out.step (j:=k*8+3) (by omega)
   obtain⟨x4,_,g4,z4,_⟩:=HR.out.step (j:=k*8+4) (by omega)
   obtain⟨x5,_,g5,z5,_⟩:=HR.out.step (j:=k*8+5) (by omega)
   obtain⟨x6,_,g6,z6,_⟩:=HR.out.step (j:=k*8+6) (by omega)
   obtain⟨x7,_,g7,z7,_⟩:=HR.out.step (j:=k*8+7) (by omega)
   go_wp2
   go_roundw
   case rel=>
    have hY:=HY0.out
    obtain⟨t1,t2,t3,t4,t5,t6,t7,t8⟩:=TT.out
    refine⟨k+1,by omega,by go_num,?_,?_,HT.out.trans ((((((((((Turns.refl _ _).trans (ya1 _ _ _ _)).trans (ya1 _ _ _ _)).trans (ya1 _ _ _ _)).trans (ya1 _ _ _ _)).trans (ya1 _ _ _ _)).trans (ya1 _ _ _ _)).trans (ya1 _ _ _ _)).trans (ya1 _ _ _ _)).mono (fun b e=>e▸HF.out))⟩
    ·rw [show y+1+1+1+1+1+1+1+1=z+(sumC (ya4 l) ((k+1)*8):Int)from by rw [show(k+1)*8=k*8+8 from by omega];omega]
    ·rw [show(k+1)*8=k*8+8 from by omega]
     exact((((((((HR.out.mk_val (m:=k*8) (by omega) E0.out (by show Value.int .i64 (y)=Value.int .i64 (z+(sumC (ya4 l) (k*8):Int));rw [show y=z+(sumC (ya4 l) (k*8):Int)from by omega])).mk_val (m:=k*8+1) (by omega) E1.out (by show Value.int .i64 (y+1)=Value.int .i64 (z+(sumC (ya4 l) (k*8+1):Int));rw [show y+1=z+(sumC (ya4 l) (k*8+1):Int)from by omega])).mk_val (m:=k*8+2) (by omega) E2.out (by show Value.int .i64 (y+1+1)=Value.int .i64 (z+(sumC (ya4 l) (k*8+2):Int));rw [show y+1+1=z+(sumC (ya4 l) (k*8+2):Int)from by omega])).mk_val (m:=k*8+3) (by omega) E3.out (by show Value.int .i64 (y+1+1+1)=Value.int .i64 (z+(sumC (ya4 l) (k*8+3):Int));rw [show y+1+1+1=z+(sumC (ya4 l) (k*8+3):Int)from by omega])).mk_val (m:=k*8+4) (by omega) E4.out (by show Value.int .i64 (y+1+1+1+1)=Value.int .i64 (z+(sumC (ya4 l) (k*8+4):Int));rw [show y+1+1+1+1=z+(sumC (ya4 l) (k*8+4):Int)from by omega])).mk_val (m:=k*8+5) (by omega) E5.out (by show Value.int .i64 (y+1+1+1+1+1)=Value.int .i64 (z+(sumC (ya4 l) (k*8+5):Int));rw [show y+1+1+1+1+1=z+(sumC (ya4 l) (k*8+5):Int)from by omega])).mk_val (m:=k*8+6) (by omega) E6.out (by show Value.int .i64 (y+1+1+1+1+1+1)=Value.int .i64 (z+(sumC (ya4 l) (k*8+6):Int));rw [show y+1+1+1+1+1+1=z+(sumC (ya4 l) (k*8+6):Int)from by omega])).mk_val (m:=k*8+7) (by omega) E7.out (by show Value.bool ((y+1+1+1+1+1+1+1)%3==0)=Value.bool ((z+(sumC (ya4 l) (k*8+7):Int))%3==0);rw [show y+1+1+1+1+1+1+1=z+(sumC (ya4 l) (k*8+7):Int)from by omega]))
   case measure=>simp [intOf];omega
  ·go_wp2
   go_ret
   obtain rfl:k=l.length:=by omega
   exact⟨rfl,HR.out.mkAll,HT.out⟩
theorem yb9 {p:Prop} (h:p):Hid p:=h
set_option maxRecDepth 100000 in
set_option maxHeartbeats 8000000 in
theorem yrs {F:Nat→Prop} {x:Value} {l:List Pa} {w:World} (z:Int) (hn:(yb8 l).wt≤1048577) (hz0:0≤z) (hz1:z+((yb8 l).cnt:Int)≤1073741824) (h:OwnD w F x (yb8 l)):
  Calls Tryz.prog 72 #[x,.int .i64 z] w fun e w'=>e= .returned (.int .i64 (z+((yb8 l).cnt:Int)))∧OwnD w' F x ((yb8 l).mark z)∧Turns F w w':=by
 obtain⟨a,cap,rfl,h1,h2,ha⟩:=OwnD.parts (c:=7) (n:=l.length) h
 have HR0:=yb9 (OwnD.mk0 z h)
 have HS:=yb9 hn
 have HZ:=yb9 hz1
 have hl2:l.length≤1048577:=by rw [yed]at hn;omega
 clear h hn hz1 h1 h2
 go_enter Tryz.func72,Tryz.ntmps72
 go_wp2
 go_loopw [5,1] (fun i y wr=>∃k:Nat,k≤l.length∧i= .int .i64 k∧y= .int .i64 (z+(sumC (yab l) (k*7):Int))∧OwnD wr F (.slice a l.length cap) (.row 7 l.length (mkD (yab l) z (k*7)))∧Turns F w wr) (fun i _ _=>l.length-(intOf i).toNat)
 case atStart=>exact⟨0,Nat.zero_le _,rfl,by simp [sumC,sumL],HR0.out,Turns.refl _ _⟩
 case round=>
  obtain⟨k,hk,rfl,rfl,hR,hT⟩:=hrel
  have HR:=yb9 hR
  have HT:Hid (Turns F w wr):=hT
  clear hR hT
  by_cases hlt:k<l.length
  ·obtain⟨g,rfl,_,hFg⟩:=ha.resolve_left (by omega)
   have HF:Hid (F g):=hFg
   have hwt:(paAt l k).wt≤1048577:=Nat.le_trans (Pa.wt_le hlt) HS.out
   unfold Pa.wt at hwt
   simp only [yb2,yal]at hwt
   obtain⟨m,hm⟩:∃m,m=k*7:=⟨_,rfl⟩
   have E0:=yb9 (ydv l k (r:=0) (by omega))
   have E1:=yb9 (ydv l k (r:=1) (by omega))
   have E2:=yb9 (ydv l k (r:=2) (by omega))
   have E3:=yb9 (ydv l k (r:=3) (by omega))
   have E4:=yb9 (ydv l k (r:=4) (by omega))
   have E5:=yb9 (ydv l k (r:=5) (by omega))
   have E6:=yb9 (ydv l k (r:=6) (by omega))
   have C0:Hid (sumC (yab l) (k*7)≤(yb8 l).cnt):=yai (by omega)
   have S1:Hid (sumC (yab l) (k*7+1)=sumC (yab l) (k*7)+(Dat.val (.int .i64 (paAt l k).n)).cnt):=by
    have e:=yaf (yab l) (k*7+0)
    rw [E0.out]at e
    exact e
   have C1:Hid (sumC (yab l) (k*7+1)≤(yb8 l).cnt):=yai (by omega)
   have S2:Hid (sumC (yab l) (k*7+2)=sumC (yab l) (k*7+1)+(yaq (paAt l k).st.r).cnt):=by
    have e:=yaf (yab l) (k*7+1)
    rw [E1.out]at e
    exact e
   have C2:Hid (sumC (yab l) (k*7+2)≤(yb8 l).cnt):=yai (by omega)
   have S3:Hid (sumC (yab l) (k*7+3)=sumC (yab l) (k*7+2)+(Dat.val (.int .i64 (paAt l k).st.q)).cnt):=by
    have e:=yaf (yab l) (k*7+2)
    rw [E2.out]at e
    exact e
   have C3:Hid (sumC (yab l) (k*7+3)≤(yb8 l).cnt):=yai (by omega)
   have S4:Hid (sumC (yab l) (k*7+4)=sumC (yab l) (k*7+3)+(Dat.val (.int .i64 (paAt l k).st.d)).cnt):=by
    have e:=yaf (yab l) (k*7+3)
    rw [E3.out]at e
    exact e
   have C4:Hid (sumC (yab l) (k*7+4)≤(yb8 l).cnt):=yai (by omega)
   have S5:Hid (sumC (yab l) (k*7+5)=sumC (yab l) (k*7+4)+(yay (paAt l k).p).cnt):=by
    have e:=yaf (yab l) (k*7+4)
    rw [E4.out]at e
    exact e
   have C5:Hid (sumC (yab l) (k*7+5)≤(yb8 l).cnt):=yai (by omega)
   have S6:Hid (sumC (yab l) (k*7+6)=sumC (yab l) (k*7+5)+(evsD (paAt l k).t).cnt):=by
    have e:=yaf (yab l) (k*7+5)
    rw [E5.out]at e
    exact e
   have C6:Hid (sumC (yab l) (k*7+6)≤(yb8 l).cnt):=yai (by omega)
   have S7:Hid (sumC (yab l) (k*7+7)=sumC (yab l) (k*7+6)+(yaq (paAt l k).a).cnt):=by
    have e:=yaf (yab l) (k*7+6)
    rw [E6.out]at e
    exact e
   have C7:Hid (sumC (yab l) (k*7+7)≤(yb8 l).cnt):=yai (by omega)
   obtain⟨y,hy⟩:∃y:Int,y=z+(sumC (yab l) (k*7):Int):=⟨_,rfl⟩
   have HY0:=yb9 hy
   have y0:0≤y:=by omega
   rw [←hy]
   clear hy hm
   obtain⟨x0,_,g0,z0,_⟩:=HR.out.step (j:=k*7) (by omega)
   obtain⟨Y1,hY1⟩:∃Y1,wr.setCell ⟨g,k*7,none⟩ (.int .i64 y)=Y1:=⟨_,rfl⟩
   have HR1:Hid (OwnD Y1 F (.slice (some ⟨g,0,none⟩) l.length cap) (.row 7 l.length (mkD (yab l) z (k*7+1)))):=hY1▸HR.out.mk_val (m:=k*7) (by omega) E0.out (by
    show _=Value.int .i64 (z+(sumC (yab l) (k*7):Int))
    rw [show y=z+(sumC (yab l) (k*7):Int)from by(have e:=HY0.out;simp only [Dat.cnt]at*;omega)])
   have HT1:Hid (Turns F w Y1):=HT.out.trans (hY1▸(ya1 _ _ _ _).mono (fun b e=>by subst e;exact HF.out))
   obtain⟨u1,K1,g1,o1,f1,b1⟩:=HR1.out.mk_row (m:=k*7+1) (by omega)
   rw [E1.out]at o1 b1
   have O1:=yb9 o1
   have B1:=yb9 b1
   have F1:Hid (∀b,K1 b→F b):=f1
   clear o1 b1 f1
   have hq1:y+1=z+(sumC (yab l) (k*7+1):Int):=by(have e:=HY0.out;have e1:=S1.out;simp only [Dat.cnt]at*;omega)
   have hb1:y+1≤1073741824:=by have:=HZ.out;have:=C1.out;omega
   have Q1:=yb9 hq1
   clear hq1
   go_wp2_with fail
   clear g1 hY1 z0 g0
   refine(yee (F:=K1) (l:=(paAt l k).st.r) (y+1) (by omega) (by omega) (by omega) O1.out).mono ?_
   rintro e w2 ⟨rfl,hr,ht⟩
   rw [Q1.out]at hr
   have HR2:=yb9 (B1.out _ hr ht)
   have HT2:Hid (Turns F w w2):=HT1.out.trans (ht.mono F1.out)
   clear hr ht
   obtain⟨y1,hy⟩:∃y1:Int,y1=y+1+((yaq (paAt l k).st.r).cnt:Int):=⟨_,rfl⟩
   have HY2:Hid (y1=z+(sumC (yab l) (k*7+2):Int)):=by
    have h8:=S2.out
    have h9:=Q1.out
    show y1=_
    omega
   have y10:0≤y1:=by omega
   have y11:y1≤1073741824:=by have h7:=HZ.out;have h8:=C2.out;have h9:=HY2.out;omega
   rw [←hy]
   clear hy
   obtain⟨x2,_,g2,z2,_⟩:=HR2.out.step (j:=k*7+2) (by omega)
   obtain⟨Y3,hY3⟩:∃Y3,w2.setCell ⟨g,k*7+2,none⟩ (.int .i64 y1)=Y3:=⟨_,rfl⟩
   have HR3:Hid (OwnD Y3 F (.slice (some ⟨g,0,none⟩) l.length cap) (.row 7 l.length (mkD (yab l) z (k*7+3)))):=hY3▸HR2.out.mk_val (m:=k*7+2) (by omega) E2.out (by
    show _=Value.int .i64 (z+(sumC (yab l) (k*7+2):Int))
    rw [show y1=z+(sumC (yab l) (k*7+2):Int)from by(have e:=HY2.out;simp only [Dat.cnt]at*;omega)])
   have HT3:Hid (Turns F w Y3):=HT2.out.trans (hY3▸(ya1 _ _ _ _).mono (fun b e=>by subst e;exact HF.out))
   obtain⟨x3,_,g3,z3,_⟩:=HR3.out.step (j:=k*7+3) (by omega)
   obtain⟨Y4,hY4⟩:∃Y4,Y3.setCell ⟨g,k*7+3,none⟩ (.int .i64 (y1+1))=Y4:=⟨_,rfl⟩
   have HR4:Hid (OwnD Y4 F (.slice (some ⟨g,0,none⟩) l.length cap) (.row 7 l.length (mkD (yab l) z (k*7+4)))):=hY4▸HR3.out.mk_val (m:=k*7+3) (by omega) E3.out (by
    show _=Value.int .i64 (z+(sumC (yab l) (k*7+3):Int))
    rw [show y1+1=z+(sumC (yab l) (k*7+3):Int)from by(have e:=HY2.out;have e3:=S3.out;simp only [Dat.cnt]at*;omega)])
   have HT4:Hid (Turns F w Y4):=HT3.out.trans (hY4▸(ya1 _ _ _ _).mono (fun b e=>by subst e;exact HF.out))
   obtain⟨u4,K4,g4,o4,f4,b4⟩:=HR4.out.mk_row (m:=k*7+4) (by omega)
   rw [E4.out]at o4 b4
   have O4:=yb9 o4
   have B4:=yb9 b4
   have F4:Hid (∀b,K4 b→F b):=f4
   clear o4 b4 f4
   have hq4:y1+1+1=z+(sumC (yab l) (k*7+4):Int):=by(have e:=HY2.out;have e3:=S3.out;have e4:=S4.out;simp only [Dat.cnt]at*;omega)
   have hb4:y1+1+1≤1073741824:=by have:=HZ.out;have:=C4.out;omega
   have Q4:=yb9 hq4
   clear hq4
   go_wp2_with fail
   clear g4 hY4 z3 g3 hY3 z2 g2
   refine(yrr (F:=K4) (l:=(paAt l k).p) (y1+1+1) (by omega) (by omega) (by have h6:=S5.out;have h7:=HZ.out;have h8:=C5.out;have h9:=Q4.out;omega) O4.out).mono ?_
   rintro e w5 ⟨rfl,hr,ht⟩
   rw [Q4.out]at hr
   have HR5:=yb9 (B4.out _ hr ht)
   have HT5:Hid (Turns F w w5):=HT4.out.trans (ht.mono F4.out)
   clear hr ht
   obtain⟨y4,hy⟩:∃y4:Int,y4=y1+1+1+((yay (paAt l k).p).cnt:Int):=⟨_,rfl⟩
   have HY5:Hid (y4=z+(sumC (yab l) (k*7+5):Int)):=by
    have h8:=S5.out
    have h9:=Q4.out
    show y4=_
    omega
   have y40:0≤y4:=by omega
   have y41:y4≤1073741824:=by have h7:=HZ.out;have h8:=C5.out;have h9:=HY5.out;omega
   rw [←hy]
   clear hy
   obtain⟨u5,K5,g5,o5,f5,b5⟩:=HR5.out.mk_row (m:=k*7+5) (by omega)
   rw [E5.out]at o5 b5
   have O5:=yb9 o5
   have B5:=yb9 b5
   have F5:Hid (∀b,K5 b→F b):=f5
   clear o5 b5 f5
   have hq5:y4=z+(sumC (yab l) (k*7+5):Int):=by(have e:=HY5.out;simp only [Dat.cnt]at*;omega)
   have hb5:y4≤1073741824:=by have:=HZ.out;have:=C5.out;omega
   have Q5:=yb9 hq5
   clear hq5
   go_wp2_with fail
   clear g5
   refine(yiz (F:=K5) (l:=(paAt l k).t) (y4) (by omega) (by omega) (by omega) O5.out).mono ?_
   rintro e w6 ⟨rfl,hr,ht⟩
   rw [Q5.out]at hr
   have HR6:=yb9 (B5.out _ hr ht)
   have HT6:Hid (Turns F w w6):=HT5.out.trans (ht.mono F5.out)
   clear hr ht
   obtain⟨y5,hy⟩:∃y5:Int,y5=y4+((evsD (paAt l k).t).cnt:Int):=⟨_,rfl⟩
   have HY6:Hid (y5=z+(sumC (yab l) (k*7+6):Int)):=by
    have h8:=S6.out
    have h9:=Q5.out
    show y5=_
    omega
   have y50:0≤y5:=by omega
   have y51:y5≤1073741824:=by have h7:=HZ.out;have h8:=C6.out;have h9:=HY6.out;omega
   rw [←hy]
   clear hy
   obtain⟨u6,K6,g6,o6,f6,b6⟩:=HR6.out.mk_row (m:=k*7+6) (by omega)
   rw [E6.out]at o6 b6
   have O6:=yb9 o6
   have B6:=yb9 b6
   have F6:Hid (∀b,K6 b→F b):=f6
   clear o6 b6 f6
   have hq6:y5=z+(sumC (yab l) (k*7+6):Int):=by(have e:=HY6.out;simp only [Dat.cnt]at*;omega)
   have hb6:y5≤1073741824:=by have:=HZ.out;have:=C6.out;omega
   have Q6:=yb9 hq6
   clear hq6
   go_wp2_with fail
   clear g6
   refine(yee (F:=K6) (l:=(paAt l k).a) (y5) (by omega) (by omega) (by omega) O6.out).mono ?_
   rintro e w7 ⟨rfl,hr,ht⟩
   rw [Q6.out]at hr
   have HR7:=yb9 (B6.out _ hr ht)
   have HT7:Hid (Turns F w w7):=HT6.out.trans (ht.mono F6.out)
   clear hr ht
   obtain⟨y6,hy⟩:∃y6:Int,y6=y5+((yaq (paAt l k).a).cnt:Int):=⟨_,rfl⟩
   have HY7:Hid (y6=z+(sumC (yab l) (k*7+7):Int)):=by
    have h8:=S7.out
    have h9:=Q6.out
    show y6=_
    omega
   have y60:0≤y6:=by omega
   have y61:y6≤1073741824:=by have h7:=HZ.out;have h8:=C7.out;have h9:=HY7.out;omega
   rw [←hy]
   clear hy
   go_wp2
   go_roundw
   case rel=>
    refine⟨k+1,by omega,by go_num,?_,?_,HT7.out⟩
    ·rw [show y6=z+(sumC (yab l) ((k+1)*7):Int)from by rw [show(k+1)*7=k*7+7 from by omega];(have e:=HY7.out;simp only [Dat.cnt]at*;omega)]
    ·rw [show(k+1)*7=k*7+7 from by omega]
     exact HR7.out
   case measure=>simp [intOf];omega
  ·go_wp2
   go_ret
   obtain rfl:k=l.length:=by omega
   exact⟨rfl,HR.out.mkAll,HT.out⟩
end Go.Proofs.YtmobiieoecjmdaaGreat

