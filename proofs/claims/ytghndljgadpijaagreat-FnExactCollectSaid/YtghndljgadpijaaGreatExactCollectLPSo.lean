/- The specification's PartOk. -/
import Derived.Test.YtghndljgadpijaaGreatExactCollectG01
import Derived.Test.YtghndljgadpijaaGreatExactCollectG13
namespace Go.Proofs.YtghndljgadpijaaGreat
open Go.RowKit
theorem ywo {p:Prop} (h:p):Hid p:=h
theorem zax (x:Value) (s:St) (b:Bool) (hb:s.ok=b) (w:World) (h:IsS w x s):Calls Tryz.prog 235 #[x] w fun e w'=>e= .returned (.bool b)∧Below w.heap.size w w':=hb▸sStOk x s w h
theorem zcu (x:Value) (l:List Em) (b:Bool) (hb:emsB l=b) (w:World) (hl:l.length≤1048576) (h:IsX w x l):Calls Tryz.prog 239 #[x] w fun e w'=>e= .returned (.bool b)∧Below w.heap.size w w':=hb▸sEmits x l w hl h
theorem za0 (a:Option Addr) (n cap:Nat) (l:List Ps) (tag:Int) (b:Bool) (hb:hasB l n tag=b) (w:World) (hl:n≤1048576) (h:n=0∨ ∃b off,a=some ⟨b,off,none⟩∧ ∀j,j<n→w.cell? ⟨b,off+j*12+6,none⟩=some (.int .i64 (psAt l j).e.g)):
    Calls Tryz.prog 238 #[.slice a n cap,.int .i64 tag] w fun e w'=>e= .returned (.bool b)∧Below w.heap.size w w':=hb▸sPast a n cap l tag w hl h
theorem zbu (n q d:Int) (v1 v4 v5 v6 ua ub uc:Value) (p:Ps) (b:Bool) (hb:yzf n p=b) (w:World) (hl:p.s.length≤1048576) (h:IsD w ub (evsD p.s)):
    Calls Tryz.prog 237 #[.agg #[.int .i64 n,v1,.int .i64 q,.int .i64 d,v4,v5,v6],.agg #[.int .i64 p.e.t,.int .i64 p.e.s,.int .i64 p.e.q,.int .i64 p.e.d,.int .i64 p.e.k,.int .i64 p.e.v,.int .i64 p.e.g,ua,.int .i64 p.b.q,.int .i64 p.b.d,ub,uc]] w fun e w'=>e= .returned (.bool b)∧Below w.heap.size w w':=hb▸sSent n q d v1 v4 v5 v6 ua ub uc p w hl h
theorem zcf {p:Pa} {k:Nat} (hk:k<p.p.length) (h:¬Past1 p k):¬GoodS p:=fun e=>h (e.2.1 k hk)
theorem zj6 {p:Pa} {k:Nat} (hk:k<p.t.length) (h:¬Todo1 p k):¬GoodS p:=fun e=>h (e.2.2.1 k hk)
theorem zj7 {p:Pa} {k:Nat} (hk:k<p.a.length) (h:¬Asc1 p.a k):¬GoodS p:=fun e=>h (e.2.2.2 k hk)
set_option maxRecDepth 100000 in
set_option maxHeartbeats 32000000 in
theorem sPartOk (x:Value) (p:Pa) (w:World) (hw:p.wt≤1048576) (h:IsPart w x p):
    Calls Tryz.prog 175 #[x] w fun e w'=>Says e (GoodS p)∧Below w.heap.size w w':=by
  obtain⟨v1,v4,v5,v6,rfl,h1,h4,h5,h6⟩:=h
  have hwt:=hw
  unfold Pa.wt at hwt
  simp only [ywf,yx0]at hwt
  have hpl:p.p.length≤1048576:=by have:=yxh p.p;omega
  have HWP:Hid (∀i,i<p.p.length→(psAt p.p i).b.r.length≤1048576∧(psAt p.p i).s.length≤1048576∧(psAt p.p i).x.length≤1048576):=fun i hi=>by
    have h9:(psAt p.p i).wt≤(yw3 p.p).wt:=Ps.wt_le hi
    unfold Ps.wt at h9
    simp only [ywf,yx0,yy3]at h9
    omega
  have htl:p.t.length≤1048576:=by omega
  have hal:p.a.length≤1048576:=by omega
  have H1:Hid (IsS w (.agg #[v1,.int .i64 p.st.q,.int .i64 p.st.d]) p.st):=⟨v1,rfl,h1.isI⟩
  obtain⟨pa,pc,rfl,hpc,hpm,h4⟩:=IsD.parts (c:=12) (n:=p.p.length) h4
  have H5:Hid (IsEvs w v5 p.t):=h5.isEvs
  obtain⟨ta,tc,rfl,_,_,h5⟩:=h5.isEvs
  obtain⟨aa,ac,rfl,_,_,h6⟩:=h6.isI
  have H4:=ywo h4
  have H6:=ywo h6
  have HT:=ywo h5
  clear h1 h4 h5 h6 hw hwt
  obtain⟨W0,hW0⟩:∃W0,w.alloc (.cells #[.int .i64 p.n,v1,.int .i64 p.st.q,.int .i64 p.st.d,.slice pa p.p.length pc,.slice ta p.t.length tc,.slice aa p.a.length ac] 97)=W0:=⟨_,rfl⟩
  have HB0:=hdq (beA hW0)
  have HP0:=hdq (bkA hW0)
  have hs0:w.heap.size<W0.heap.size:=HP0.out.lt
  have HW:=ywo hW0
  obtain⟨p0,p1,p2,p3,p4,p5,p6⟩:=c7_7 HP0.out
  by_cases c1:p.n<0
  · go_enter Tryz.func175,Tryz.ntmps175
    go_wp2
    go_ret
    exact⟨Says.no (fun h=>by have:=h.1.1;omega),HB0.out⟩
  by_cases c2:4≤p.n
  · go_enter Tryz.func175,Tryz.ntmps175
    go_wp2
    go_ret
    exact⟨Says.no (fun h=>by have:=h.1.2.1;omega),HB0.out⟩
  have HC:Hid (0≤p.n∧p.n<4):=⟨by omega,by omega⟩
  go_enter Tryz.func175,Tryz.ntmps175
  go_wp2_with fail
  clear hW0
  refine(sStOk _ p.st _ (H1.out.below HB0.out)).mono ?_
  rintro e w1 ⟨rfl,hb⟩
  have HB1:=trh HB0 hb
  have HP1:=ywo (HP0.out.below hb)
  clear hb p0 p1 p2 p3 p4 p5 p6 c1 c2
  have q4:=HP1.out.cell (i:=4) rfl
  have q5:=HP1.out.cell (i:=5) rfl
  cases hst:p.st.ok
  · have HS:Hid (p.st.ok=false):=hst
    clear hst
    go_wp2
    go_ret
    exact⟨Says.no (fun h=>by have:=h.1.2.2.1;rw [HS.out]at this;cases this),HB1.out⟩
  have HS:Hid (p.st.ok=true):=hst
  clear hst
  by_cases c3:200<p.p.length
  · have c3':(200:Int)<(p.p.length:Int):=by omega
    go_wp2
    go_ret
    exact⟨Says.no (fun h=>by have:=h.1.2.2.2.1;omega),HB1.out⟩
  have c3':¬(200:Int)<(p.p.length:Int):=by omega
  have HL:Hid (p.p.length≤200):=by show p.p.length≤200;omega
  go_wp2_with fail
  refine(zln _ p.t _ htl (H5.out.below HB1.out)).mono ?_
  rintro e w2 ⟨⟨bq,rfl,hq⟩,hb⟩
  have HQ:=ywo hq
  have HB2:=trh HB1 hb
  have HP2:=ywo (HP1.out.below hb)
  clear hb hq q4 q5 c3
  have q6:=HP2.out.cell (i:=6) rfl
  cases bq
  · go_wp2
    go_ret
    exact⟨Says.no (fun h=>by have:=HQ.out.2 h.1.2.2.2.2.1;cases this),HB2.out⟩
  have HGQ:Hid (zpr p.t):=HQ.out.1 rfl
  by_cases c4:2000<p.a.length
  · have c4':(2000:Int)<(p.a.length:Int):=by omega
    go_wp2
    go_ret
    exact⟨Says.no (fun h=>by have:=h.1.2.2.2.2.2;omega),HB2.out⟩
  have c4':¬(2000:Int)<(p.a.length:Int):=by omega
  have HAL:Hid (p.a.length≤2000):=by show p.a.length≤2000;omega
  have HHD:Hid (0≤p.n∧p.n<4∧p.st.ok=true∧p.p.length≤200∧zpr p.t∧p.a.length≤2000):=⟨HC.out.1,HC.out.2,HS.out,HL.out,HGQ.out,HAL.out⟩
  clear HQ HC HS HL HGQ HAL
  go_wp2
  clear q6 c4
  go_loopw [3] (fun i wr=>∃k:Nat,k≤p.p.length∧i= .int .i64 k∧Hid (∀j,j<k→Past1 p j)∧Below w2.heap.size w2 wr) (fun i _=>p.p.length-(intOf i).toNat)
  case atStart=>exact⟨0,Nat.zero_le _,rfl,fun j hj=>by omega,Below.refl _ _⟩
  case round=>
    obtain⟨k,hk,rfl,HA,hB⟩:=hrel
    have hz2:w.heap.size<w2.heap.size:=HP2.out.lt
    have HBr:=ywo hB
    have HBw:=ywo (HB2.out.trans (hB.mono (by omega)))
    have HPr:=ywo (HP2.out.below hB)
    have hsr:w2.heap.size≤wr.heap.size:=hB.size
    have q4:=HPr.out.cell (i:=4) rfl
    clear hB
    by_cases hlt:k<p.p.length
    · obtain⟨b,off,rfl,hb,hc⟩:=H4.out.resolve_left (by omega)
      obtain⟨ua,ub,uc,f0,f1,f2,f3,f4,f5,f6,f7,f8,f9,f10,f11,d7,d10,d11⟩:=yya (l:=p.p) (n:=p.p.length) (fun j hj=>by
        obtain⟨u,hu,hd⟩:=hc j hj
        exact⟨u,(HBw.out.cell (p:=⟨b,off+j,none⟩) hb).trans hu,hd.under HBw.out⟩) hlt
      obtain⟨a7,c7,rfl,_⟩:=IsD.len (c:=1) (n:=(psAt p.p k).b.r.length) d7
      obtain⟨a10,c10,rfl,_⟩:=IsD.len (c:=7) (n:=(psAt p.p k).s.length) d10
      obtain⟨a11,c11,rfl,_⟩:=IsD.len (c:=3) (n:=(psAt p.p k).x.length) d11
      have hki:(k:Int)<(p.p.length:Int):=by omega
      have hbr:b<wr.heap.size:=Nat.lt_of_lt_of_le hb HBw.out.size
      obtain⟨W1,hW1⟩:∃W1,wr.alloc (.cells #[.int .i64 (psAt p.p k).e.t,.int .i64 (psAt p.p k).e.s,.int .i64 (psAt p.p k).e.q,.int .i64 (psAt p.p k).e.d,.int .i64 (psAt p.p k).e.k,.int .i64 (psAt p.p k).e.v,.int .i64 (psAt p.p k).e.g,.slice a7 (psAt p.p k).b.r.length c7,.int .i64 (psAt p.p k).b.q,.int .i64 (psAt p.p k).b.d,.slice a10 (psAt p.p k).s.length c10,.slice a11 (psAt p.p k).x.length c11] 172)=W1:=⟨_,rfl⟩
      have hB1:=beA hW1
      have HX:=bkA hW1
      have HPx:Bk W1 w.heap.size 97 #[.int .i64 p.n,v1,.int .i64 p.st.q,.int .i64 p.st.d,.slice (some ⟨b,off,none⟩) p.p.length pc,.slice ta p.t.length tc,.slice aa p.a.length ac]:=HPr.out.below hB1
      have HB1':Hid (Below w.heap.size w W1):=trm HBw.out hB1
      have HB1r:=ywo (HBr.out.trans (hB1.mono hsr))
      have hbW:b<W1.heap.size:=Nat.lt_of_lt_of_le hbr hB1.size
      have x0:∀q:Beyond W1,q.w.cell? ⟨wr.heap.size,0,none⟩=some (.int .i64 (psAt p.p k).e.t):=fun q=>q.cell HX.lt (HX.cell (i:=0) rfl)
      have x1:∀q:Beyond W1,q.w.cell? ⟨wr.heap.size,1,none⟩=some (.int .i64 (psAt p.p k).e.s):=fun q=>q.cell HX.lt (HX.cell (i:=1) rfl)
      have x2:∀q:Beyond W1,q.w.cell? ⟨wr.heap.size,2,none⟩=some (.int .i64 (psAt p.p k).e.q):=fun q=>q.cell HX.lt (HX.cell (i:=2) rfl)
      have x3:∀q:Beyond W1,q.w.cell? ⟨wr.heap.size,3,none⟩=some (.int .i64 (psAt p.p k).e.d):=fun q=>q.cell HX.lt (HX.cell (i:=3) rfl)
      have x4:∀q:Beyond W1,q.w.cell? ⟨wr.heap.size,4,none⟩=some (.int .i64 (psAt p.p k).e.k):=fun q=>q.cell HX.lt (HX.cell (i:=4) rfl)
      have x5:∀q:Beyond W1,q.w.cell? ⟨wr.heap.size,5,none⟩=some (.int .i64 (psAt p.p k).e.v):=fun q=>q.cell HX.lt (HX.cell (i:=5) rfl)
      have x6:∀q:Beyond W1,q.w.cell? ⟨wr.heap.size,6,none⟩=some (.int .i64 (psAt p.p k).e.g):=fun q=>q.cell HX.lt (HX.cell (i:=6) rfl)
      have x7:∀q:Beyond W1,q.w.cell? ⟨wr.heap.size,7,none⟩=some (.slice a7 (psAt p.p k).b.r.length c7):=fun q=>q.cell HX.lt (HX.cell (i:=7) rfl)
      have x8:∀q:Beyond W1,q.w.cell? ⟨wr.heap.size,8,none⟩=some (.int .i64 (psAt p.p k).b.q):=fun q=>q.cell HX.lt (HX.cell (i:=8) rfl)
      have x9:∀q:Beyond W1,q.w.cell? ⟨wr.heap.size,9,none⟩=some (.int .i64 (psAt p.p k).b.d):=fun q=>q.cell HX.lt (HX.cell (i:=9) rfl)
      have x10:∀q:Beyond W1,q.w.cell? ⟨wr.heap.size,10,none⟩=some (.slice a10 (psAt p.p k).s.length c10):=fun q=>q.cell HX.lt (HX.cell (i:=10) rfl)
      have x11:∀q:Beyond W1,q.w.cell? ⟨wr.heap.size,11,none⟩=some (.slice a11 (psAt p.p k).x.length c11):=fun q=>q.cell HX.lt (HX.cell (i:=11) rfl)
      have y0:∀q:Beyond W1,q.w.cell? ⟨w.heap.size,0,none⟩=some (.int .i64 p.n):=fun q=>q.cell HPx.lt (HPx.cell (i:=0) rfl)
      have y1:∀q:Beyond W1,q.w.cell? ⟨w.heap.size,1,none⟩=some (v1):=fun q=>q.cell HPx.lt (HPx.cell (i:=1) rfl)
      have y2:∀q:Beyond W1,q.w.cell? ⟨w.heap.size,2,none⟩=some (.int .i64 p.st.q):=fun q=>q.cell HPx.lt (HPx.cell (i:=2) rfl)
      have y3:∀q:Beyond W1,q.w.cell? ⟨w.heap.size,3,none⟩=some (.int .i64 p.st.d):=fun q=>q.cell HPx.lt (HPx.cell (i:=3) rfl)
      have y4:∀q:Beyond W1,q.w.cell? ⟨w.heap.size,4,none⟩=some (.slice (some ⟨b,off,none⟩) p.p.length pc):=fun q=>q.cell HPx.lt (HPx.cell (i:=4) rfl)
      have y5:∀q:Beyond W1,q.w.cell? ⟨w.heap.size,5,none⟩=some (.slice ta p.t.length tc):=fun q=>q.cell HPx.lt (HPx.cell (i:=5) rfl)
      have y6:∀q:Beyond W1,q.w.cell? ⟨w.heap.size,6,none⟩=some (.slice aa p.a.length ac):=fun q=>q.cell HPx.lt (HPx.cell (i:=6) rfl)
      have HSt:Hid (∀q:Beyond W1,IsS q.w (.agg #[.slice a7 (psAt p.p k).b.r.length c7,.int .i64 (psAt p.p k).b.q,.int .i64 (psAt p.p k).b.d]) (psAt p.p k).b):=fun q=>⟨_,rfl,((d7.under hB1).under q.h).isI⟩
      have HSe:Hid (∀q:Beyond W1,IsD q.w (.slice a10 (psAt p.p k).s.length c10) (evsD (psAt p.p k).s)):=fun q=>(d10.under hB1).under q.h
      have HEm:Hid (∀q:Beyond W1,IsX q.w (.slice a11 (psAt p.p k).x.length c11) (psAt p.p k).x):=fun q=>((d11.under hB1).under q.h).isX
      have hg6:∀j,j<p.p.length→W1.cell? ⟨b,off+j*12+6,none⟩=some (.int .i64 (psAt p.p j).e.g):=fun j hj=>by
        obtain⟨u,hu,hd⟩:=hc (j*12+6) (by omega)
        rw [ywn p.p j (r:=6) (by omega)]at hd
        have e:=hd.val_eq
        rw [HB1'.out.cell (p:=⟨b,off+j*12+6,none⟩) hb,Nat.add_assoc,hu,e]
      have HPa:Hid (∀q:Beyond W1,k=0∨ ∃b' off',(some ⟨b,off,none⟩:Option Addr)=some ⟨b',off',none⟩∧ ∀j,j<k→q.w.cell? ⟨b',off'+j*12+6,none⟩=some (.int .i64 (psAt p.p j).e.g)):=fun q=> .inr ⟨b,off,rfl,fun j hj=>q.cell hbW (hg6 j (by omega))⟩
      have HWk:=ywo (HWP.out k hlt)
      have HEv:Hid (∀j,j<p.p.length→Ev.In W1 b (off+j*12) (psAt p.p j).e):=fun j hj=>by
        have hh:∀r,r<7→W1.cell? ⟨b,off+j*12+r,none⟩=some ((psAt p.p j).e.cs.getD r (.int .i64 0)):=fun r hr=>by
          obtain⟨u,hu,hd⟩:=hc (j*12+r) (by omega)
          rw [ywn p.p j (r:=r) (by omega)]at hd
          rw [HB1'.out.cell (p:=⟨b,off+j*12+r,none⟩) hb,Nat.add_assoc,hu]
          match r,hr,hd with
          |0,_,hd=>rw [hd.val_eq];rfl
          |1,_,hd=>rw [hd.val_eq];rfl
          |2,_,hd=>rw [hd.val_eq];rfl
          |3,_,hd=>rw [hd.val_eq];rfl
          |4,_,hd=>rw [hd.val_eq];rfl
          |5,_,hd=>rw [hd.val_eq];rfl
          |6,_,hd=>rw [hd.val_eq];rfl
        exact⟨hh 0 (by omega),hh 1 (by omega),hh 2 (by omega),hh 3 (by omega),hh 4 (by omega),hh 5 (by omega),hh 6 (by omega)⟩
      have hne:=neB W1
      have hkc:(k:Int)≤(pc:Int):=by omega
      clear hc hg6 d7 d10 d11 HX HPx hB1
      cases k1:(psAt p.p k).e.ok
      · have K1:=ywo k1
        clear k1
        go_wp2_with fail
        refine wrb ?_
        repeat(go_big_quiet_step (first|(go_at_call 174;exact Beyond.of (zaj (psAt p.p k).e false K1.out _))))
        refine wpQuiet_nil ?_
        rintro w3 ⟨⟨_,hb3⟩,rfl⟩
        have HB3:=ywo hb3
        clear hb3
        go_wp2
        go_ret
        exact⟨Says.no (zcf hlt (fun h=>by have:=h.1;rw [K1.out]at this;cases this)),HB1'.out.trans (HB3.out.mono HB1'.out.size)⟩
      have K1:=ywo k1
      clear k1
      by_cases k2:(psAt p.p k).e.d=p.n
      case neg=>
        have k2':((psAt p.p k).e.d !=p.n)=true:=by simpa using k2
        have K2:=ywo k2
        clear k2
        go_wp2_with fail
        refine wrb ?_
        repeat(go_big_quiet_step (first|(go_at_call 174;exact Beyond.of (zaj (psAt p.p k).e true K1.out _))))
        refine wpQuiet_nil ?_
        rintro w3 ⟨⟨_,hb3⟩,rfl⟩
        have HB3:=ywo hb3
        clear hb3
        go_wp2
        go_ret
        exact⟨Says.no (zcf hlt (fun h=>K2.out h.2.1)),HB1'.out.trans (HB3.out.mono HB1'.out.size)⟩
      have k2':((psAt p.p k).e.d !=p.n)=false:=by simpa using k2
      have K2:=ywo k2
      clear k2
      cases k3:(psAt p.p k).b.ok
      · have K3:=ywo k3
        clear k3
        go_wp2_with fail
        refine wrb ?_
        repeat(go_big_quiet_step (first|(go_at_call 174;exact Beyond.of (zaj (psAt p.p k).e true K1.out _))|(go_at_call 235;exact Beyond.of (zax _ (psAt p.p k).b false K3.out _ (HSt.out _)))))
        refine wpQuiet_nil ?_
        rintro w3 ⟨⟨_,hb3⟩,rfl⟩
        have HB3:=ywo hb3
        clear hb3
        go_wp2
        go_ret
        exact⟨Says.no (zcf hlt (fun h=>by have:=h.2.2.1;rw [K3.out]at this;cases this)),HB1'.out.trans (HB3.out.mono HB1'.out.size)⟩
      have K3:=ywo k3
      clear k3
      cases k4:yzf p.n (psAt p.p k)
      · have K4:=ywo k4
        clear k4
        go_wp2_with fail
        refine wrb ?_
        repeat(go_big_quiet_step (first|(go_at_call 174;exact Beyond.of (zaj (psAt p.p k).e true K1.out _))|(go_at_call 235;exact Beyond.of (zax _ (psAt p.p k).b true K3.out _ (HSt.out _)))|(go_at_call 237;exact Beyond.of (zbu _ _ _ _ _ _ _ _ _ _ (psAt p.p k) false K4.out _ HWk.out.2.1 (HSe.out _)))))
        refine wpQuiet_nil ?_
        rintro w3 ⟨⟨_,hb3⟩,rfl⟩
        have HB3:=ywo hb3
        clear hb3
        go_wp2
        go_ret
        exact⟨Says.no (zcf hlt (fun h=>by have:=h.2.2.2.1;rw [K4.out]at this;cases this)),HB1'.out.trans (HB3.out.mono HB1'.out.size)⟩
      have K4:=ywo k4
      clear k4
      cases k5:hasB p.p k (psAt p.p k).e.g
      case true=>
        have K5:=ywo k5
        clear k5
        go_wp2_with fail
        refine wrb ?_
        repeat(go_big_quiet_step (first|(go_at_call 174;exact Beyond.of (zaj (psAt p.p k).e true K1.out _))|(go_at_call 235;exact Beyond.of (zax _ (psAt p.p k).b true K3.out _ (HSt.out _)))|(go_at_call 237;exact Beyond.of (zbu _ _ _ _ _ _ _ _ _ _ (psAt p.p k) true K4.out _ HWk.out.2.1 (HSe.out _)))|(go_at_call 238;exact Beyond.of (za0 _ _ _ p.p _ true K5.out _ (by omega) (HPa.out _)))))
        refine wpQuiet_nil ?_
        rintro w3 ⟨⟨_,hb3⟩,rfl⟩
        have HB3:=ywo hb3
        clear hb3
        go_wp2
        go_ret
        exact⟨Says.no (zcf hlt (fun h=>by have:=h.2.2.2.2.1;rw [K5.out]at this;cases this)),HB1'.out.trans (HB3.out.mono HB1'.out.size)⟩
      have K5:=ywo k5
      clear k5
      cases k6:emsB (psAt p.p k).x
      · have K6:=ywo k6
        clear k6
        go_wp2_with fail
        refine wrb ?_
        repeat(go_big_quiet_step (first|(go_at_call 174;exact Beyond.of (zaj (psAt p.p k).e true K1.out _))|(go_at_call 235;exact Beyond.of (zax _ (psAt p.p k).b true K3.out _ (HSt.out _)))|(go_at_call 237;exact Beyond.of (zbu _ _ _ _ _ _ _ _ _ _ (psAt p.p k) true K4.out _ HWk.out.2.1 (HSe.out _)))|(go_at_call 238;exact Beyond.of (za0 _ _ _ p.p _ false K5.out _ (by omega) (HPa.out _)))|(go_at_call 239;exact Beyond.of (zcu _ (psAt p.p k).x false K6.out _ HWk.out.2.2 (HEm.out _)))))
        refine wpQuiet_nil ?_
        rintro w3 ⟨⟨_,hb3⟩,rfl⟩
        have HB3:=ywo hb3
        clear hb3
        go_wp2
        go_ret
        exact⟨Says.no (zcf hlt (fun h=>by have:=h.2.2.2.2.2.1;rw [K6.out]at this;cases this)),HB1'.out.trans (HB3.out.mono HB1'.out.size)⟩
      have K6:=ywo k6
      clear k6
      by_cases k0:k=0
      · have hd:decide (0<k)=false:=decide_eq_false (by omega)
        have HK:Hid (k=0):=k0
        clear k0
        go_wp2_with fail
        refine wrb ?_
        repeat(go_big_quiet_step (first|(go_at_call 174;exact Beyond.of (zaj (psAt p.p k).e true K1.out _))|(go_at_call 235;exact Beyond.of (zax _ (psAt p.p k).b true K3.out _ (HSt.out _)))|(go_at_call 237;exact Beyond.of (zbu _ _ _ _ _ _ _ _ _ _ (psAt p.p k) true K4.out _ HWk.out.2.1 (HSe.out _)))|(go_at_call 238;exact Beyond.of (za0 _ _ _ p.p _ false K5.out _ (by omega) (HPa.out _)))|(go_at_call 239;exact Beyond.of (zcu _ (psAt p.p k).x true K6.out _ HWk.out.2.2 (HEm.out _)))))
        refine wpQuiet_nil ?_
        rintro w3 ⟨⟨_,hb3⟩,rfl⟩
        have HB3:=ywo hb3
        clear hb3
        go_wp2
        go_roundw
        case rel=>exact⟨k+1,by omega,by go_num,fun j hj=>by
          by_cases e:j=k
          · subst e;exact⟨K1.out,K2.out,K3.out,K4.out,K5.out,K6.out,fun h0=>absurd h0 (by have:=HK.out;omega)⟩
          · exact HA.out j (by omega),trm HB1r.out HB3.out⟩
        case measure=>simp [intOf];omega
      have hd:decide (0<k)=true:=decide_eq_true (by omega)
      have hkp:(1:Int)≤(k:Int):=by omega
      have ek:((k:Int)-1).toNat=k-1:=by omega
      obtain⟨g0,g1,g2,g3,g4,g5,g6⟩:=(HEv.out (k-1) (by omega)).beyond hbW
      generalize hz:(psAt p.p (k-1)).e.cmp (psAt p.p k).e=z
      have KZ:=ywo hz
      have HK:Hid (¬k=0):=k0
      clear hz k0
      by_cases hz0:0≤z
      · have hdz:decide ((0:Int)≤z)=true:=by simpa using hz0
        go_wp2_with fail
        refine wrb ?_
        repeat(go_big_quiet_step (first|(go_at_call 174;exact Beyond.of (zaj (psAt p.p k).e true K1.out _))|(go_at_call 235;exact Beyond.of (zax _ (psAt p.p k).b true K3.out _ (HSt.out _)))|(go_at_call 237;exact Beyond.of (zbu _ _ _ _ _ _ _ _ _ _ (psAt p.p k) true K4.out _ HWk.out.2.1 (HSe.out _)))|(go_at_call 238;exact Beyond.of (za0 _ _ _ p.p _ false K5.out _ (by omega) (HPa.out _)))|(go_at_call 239;exact Beyond.of (zcu _ (psAt p.p k).x true K6.out _ HWk.out.2.2 (HEm.out _)))|(go_at_call 176;exact Beyond.of (yxa (psAt p.p (k-1)).e (psAt p.p k).e z KZ.out _))))
        refine wpQuiet_nil ?_
        rintro w3 ⟨⟨_,hb3⟩,rfl⟩
        have HB3:=ywo hb3
        clear hb3
        go_wp2
        go_ret
        exact⟨Says.no (zcf hlt (fun h=>by have:=h.2.2.2.2.2.2 (by have:=HK.out;omega);rw [KZ.out]at this;omega)),HB1'.out.trans (HB3.out.mono HB1'.out.size)⟩
      · have hdz:decide ((0:Int)≤z)=false:=by simpa using hz0
        go_wp2_with fail
        refine wrb ?_
        repeat(go_big_quiet_step (first|(go_at_call 174;exact Beyond.of (zaj (psAt p.p k).e true K1.out _))|(go_at_call 235;exact Beyond.of (zax _ (psAt p.p k).b true K3.out _ (HSt.out _)))|(go_at_call 237;exact Beyond.of (zbu _ _ _ _ _ _ _ _ _ _ (psAt p.p k) true K4.out _ HWk.out.2.1 (HSe.out _)))|(go_at_call 238;exact Beyond.of (za0 _ _ _ p.p _ false K5.out _ (by omega) (HPa.out _)))|(go_at_call 239;exact Beyond.of (zcu _ (psAt p.p k).x true K6.out _ HWk.out.2.2 (HEm.out _)))|(go_at_call 176;exact Beyond.of (yxa (psAt p.p (k-1)).e (psAt p.p k).e z KZ.out _))))
        refine wpQuiet_nil ?_
        rintro w3 ⟨⟨_,hb3⟩,rfl⟩
        have HB3:=ywo hb3
        clear hb3
        go_wp2
        go_roundw
        case rel=>exact⟨k+1,by omega,by go_num,fun j hj=>by
          by_cases e:j=k
          · subst e;exact⟨K1.out,K2.out,K3.out,K4.out,K5.out,K6.out,fun h0=>by rw [KZ.out];omega⟩
          · exact HA.out j (by omega),trm HB1r.out HB3.out⟩
        case measure=>simp [intOf];omega
    · have HPA:Hid (∀j,j<p.p.length→Past1 p j):=fun j hj=>HA.out j (by omega)
      obtain⟨W2,rfl⟩:∃W2,W2=wr:=⟨wr,rfl⟩
      have HW2:=ywo HBw.out
      have HPW:=ywo HPr.out
      clear HA HBr HBw HPr
      go_wp2
      clear q4
      go_loopw [5] (fun i wr=>∃k:Nat,k≤p.t.length∧i= .int .i64 k∧Hid (∀j,j<k→Todo1 p j)∧Below W2.heap.size W2 wr) (fun i _=>p.t.length-(intOf i).toNat)
      case atStart=>exact⟨0,Nat.zero_le _,rfl,fun j hj=>by omega,Below.refl _ _⟩
      case round=>
        obtain⟨k,hk,rfl,HA,hB⟩:=hrel
        have hzW:w.heap.size<W2.heap.size:=HPW.out.lt
        have HBr:=ywo hB
        have HBw:=ywo (HW2.out.trans (hB.mono (by omega)))
        have HPr:=ywo (HPW.out.below hB)
        have hsr:W2.heap.size≤wr.heap.size:=hB.size
        have hsw:w.heap.size≤wr.heap.size:=HBw.out.size
        clear hB
        by_cases hlt:k<p.t.length
        · obtain⟨b,off,rfl,hI⟩:=HT.out.resolve_left (by intro e;rw [e]at hlt;simp at hlt)
          have hbr:b<wr.heap.size:=Nat.lt_of_lt_of_le hI.1 HBw.out.size
          obtain⟨e0,e1,e2,e3,e4,e5,e6⟩:=((hI.below HBw.out hI.1).2 k hlt).beyond hbr
          have HPx:=HPr.out
          have hki:(k:Int)<(p.t.length:Int):=by omega
          have q5:=HPr.out.cell (i:=5) rfl
          have y0:∀q:Beyond wr,q.w.cell? ⟨w.heap.size,0,none⟩=some (.int .i64 p.n):=fun q=>q.cell HPx.lt (HPx.cell (i:=0) rfl)
          have y4:∀q:Beyond wr,q.w.cell? ⟨w.heap.size,4,none⟩=some (.slice pa p.p.length pc):=fun q=>q.cell HPx.lt (HPx.cell (i:=4) rfl)
          have y5:∀q:Beyond wr,q.w.cell? ⟨w.heap.size,5,none⟩=some (.slice (some ⟨b,off,none⟩) p.t.length tc):=fun q=>q.cell HPx.lt (HPx.cell (i:=5) rfl)
          have HPa:Hid (∀q:Beyond wr,p.p.length=0∨ ∃b' off',pa=some ⟨b',off',none⟩∧ ∀j,j<p.p.length→q.w.cell? ⟨b',off'+j*12+6,none⟩=some (.int .i64 (psAt p.p j).e.g)):=fun q=>H4.out.imp id (fun⟨b',off',e,hb',hc⟩=>⟨b',off',e,fun j hj=>by
            obtain⟨u,hu,hd⟩:=hc (j*12+6) (by omega)
            rw [ywn p.p j (r:=6) (by omega)]at hd
            refine q.cell (Nat.lt_of_lt_of_le hb' hsw) ?_
            rw [HBw.out.cell (p:=⟨b',off'+j*12+6,none⟩) hb',Nat.add_assoc,hu,hd.val_eq]⟩)
          have hne:=neB wr
          clear hI HPx
          by_cases k1:(evAt p.t k).d=p.n
          case neg=>
            have k1':((evAt p.t k).d !=p.n)=true:=by simpa using k1
            have K1:=ywo k1
            clear k1
            go_wp2_with fail
            refine wrb ?_
            repeat(go_big_quiet_step (fail))
            refine wpQuiet_nil ?_
            rintro w3 ⟨⟨_,hb3⟩,rfl⟩
            have HB3:=ywo hb3
            clear hb3
            go_wp2
            go_ret
            exact⟨Says.no (zj6 hlt (fun h=>K1.out h.1)),trm HBw.out HB3.out⟩
          have k1':((evAt p.t k).d !=p.n)=false:=by simpa using k1
          have K1:=ywo k1
          clear k1
          cases k2:hasB p.p p.p.length (evAt p.t k).g
          case true=>
            have K2:=ywo k2
            clear k2
            go_wp2_with fail
            refine wrb ?_
            repeat(go_big_quiet_step (first|(go_at_call 238;exact Beyond.of (za0 _ _ _ p.p _ true K2.out _ (by omega) (HPa.out _)))))
            refine wpQuiet_nil ?_
            rintro w3 ⟨⟨_,hb3⟩,rfl⟩
            have HB3:=ywo hb3
            clear hb3
            go_wp2
            go_ret
            exact⟨Says.no (zj6 hlt (fun h=>by have:=h.2.1;rw [K2.out]at this;cases this)),trm HBw.out HB3.out⟩
          have K2:=ywo k2
          clear k2
          by_cases k0:p.p.length=0
          · have hd:decide (0<p.p.length)=false:=decide_eq_false (by omega)
            have HK:Hid (p.p.length=0):=k0
            clear k0
            go_wp2_with fail
            refine wrb ?_
            repeat(go_big_quiet_step (first|(go_at_call 238;exact Beyond.of (za0 _ _ _ p.p _ false K2.out _ (by omega) (HPa.out _)))))
            refine wpQuiet_nil ?_
            rintro w3 ⟨⟨_,hb3⟩,rfl⟩
            have HB3:=ywo hb3
            clear hb3
            go_wp2
            go_roundw
            case rel=>exact⟨k+1,by omega,by go_num,fun j hj=>by
              by_cases e:j=k
              · subst e;exact⟨K1.out,K2.out,fun h0=>absurd h0 (by have:=HK.out;omega)⟩
              · exact HA.out j (by omega),trm HBr.out HB3.out⟩
            case measure=>simp [intOf];omega
          have hd:decide (0<p.p.length)=true:=decide_eq_true (by omega)
          have hkp:(1:Int)≤(p.p.length:Int):=by omega
          have ek:((p.p.length:Int)-1).toNat=p.p.length-1:=by omega
          obtain⟨b',off',rfl,hb',hc⟩:=H4.out.resolve_left k0
          have hEv:Ev.In wr b' (off'+(p.p.length-1)*12) (psAt p.p (p.p.length-1)).e:=by
            have hh:∀r,r<7→wr.cell? ⟨b',off'+(p.p.length-1)*12+r,none⟩=some ((psAt p.p (p.p.length-1)).e.cs.getD r (.int .i64 0)):=fun r hr=>by
              obtain⟨u,hu,hd⟩:=hc ((p.p.length-1)*12+r) (by omega)
              rw [ywn p.p (p.p.length-1) (r:=r) (by omega)]at hd
              rw [HBw.out.cell (p:=⟨b',off'+(p.p.length-1)*12+r,none⟩) hb',Nat.add_assoc,hu]
              match r,hr,hd with
              |0,_,hd=>rw [hd.val_eq];rfl
              |1,_,hd=>rw [hd.val_eq];rfl
              |2,_,hd=>rw [hd.val_eq];rfl
              |3,_,hd=>rw [hd.val_eq];rfl
              |4,_,hd=>rw [hd.val_eq];rfl
              |5,_,hd=>rw [hd.val_eq];rfl
              |6,_,hd=>rw [hd.val_eq];rfl
            exact⟨hh 0 (by omega),hh 1 (by omega),hh 2 (by omega),hh 3 (by omega),hh 4 (by omega),hh 5 (by omega),hh 6 (by omega)⟩
          obtain⟨g0,g1,g2,g3,g4,g5,g6⟩:=hEv.beyond (Nat.lt_of_lt_of_le hb' hsw)
          clear hEv hc
          generalize hz:(psAt p.p (p.p.length-1)).e.cmp (evAt p.t k)=z
          have KZ:=ywo hz
          have HK:Hid (¬p.p.length=0):=k0
          clear hz k0
          by_cases hz0:0≤z
          · have hdz:decide ((0:Int)≤z)=true:=by simpa using hz0
            go_wp2_with fail
            refine wrb ?_
            repeat(go_big_quiet_step (first|(go_at_call 238;exact Beyond.of (za0 _ _ _ p.p _ false K2.out _ (by omega) (HPa.out _)))|(go_at_call 176;exact Beyond.of (yxa (psAt p.p (p.p.length-1)).e (evAt p.t k) z KZ.out _))))
            refine wpQuiet_nil ?_
            rintro w3 ⟨⟨_,hb3⟩,rfl⟩
            have HB3:=ywo hb3
            clear hb3
            go_wp2
            go_ret
            exact⟨Says.no (zj6 hlt (fun h=>by have:=h.2.2 (by have:=HK.out;omega);rw [KZ.out]at this;omega)),trm HBw.out HB3.out⟩
          · have hdz:decide ((0:Int)≤z)=false:=by simpa using hz0
            go_wp2_with fail
            refine wrb ?_
            repeat(go_big_quiet_step (first|(go_at_call 238;exact Beyond.of (za0 _ _ _ p.p _ false K2.out _ (by omega) (HPa.out _)))|(go_at_call 176;exact Beyond.of (yxa (psAt p.p (p.p.length-1)).e (evAt p.t k) z KZ.out _))))
            refine wpQuiet_nil ?_
            rintro w3 ⟨⟨_,hb3⟩,rfl⟩
            have HB3:=ywo hb3
            clear hb3
            go_wp2
            go_roundw
            case rel=>exact⟨k+1,by omega,by go_num,fun j hj=>by
              by_cases e:j=k
              · subst e;exact⟨K1.out,K2.out,fun h0=>by rw [KZ.out];omega⟩
              · exact HA.out j (by omega),trm HBr.out HB3.out⟩
            case measure=>simp [intOf];omega
        · have HTA:Hid (∀j,j<p.t.length→Todo1 p j):=fun j hj=>HA.out j (by omega)
          obtain⟨W3,rfl⟩:∃W3,W3=wr:=⟨wr,rfl⟩
          have HW3:=ywo HBw.out
          have HPV:=ywo HPr.out
          have q5:=HPr.out.cell (i:=5) rfl
          clear HA HBr HBw HPr
          go_wp2
          clear q5
          go_loopw [6] (fun i wr=>∃k:Nat,k≤p.a.length∧i= .int .i64 k∧Hid (∀j,j<k→Asc1 p.a j)∧Below W3.heap.size W3 wr) (fun i _=>p.a.length-(intOf i).toNat)
          case atStart=>exact⟨0,Nat.zero_le _,rfl,fun j hj=>by omega,Below.refl _ _⟩
          case round=>
            obtain⟨k,hk,rfl,HA,hB⟩:=hrel
            have hzW:w.heap.size<W3.heap.size:=HPV.out.lt
            have HBr:=ywo hB
            have HBw:=ywo (HW3.out.trans (hB.mono (by omega)))
            have HPr:=ywo (HPV.out.below hB)
            have q6:=HPr.out.cell (i:=6) rfl
            clear hB
            by_cases hlt:k<p.a.length
            · obtain⟨b,off,rfl,hb,hc⟩:=H6.out.resolve_left (by intro e;rw [e]at hlt;simp at hlt)
              have hbr:b<wr.heap.size:=Nat.lt_of_lt_of_le hb HBw.out.size
              have hcr:∀i,i<p.a.length→ ∀q:Beyond wr,q.w.cell? ⟨b,off+i,none⟩=some (.int .i64 (intAt p.a i)):=fun i hi q=>q.cell hbr ((HBw.out.cell (p:=⟨b,off+i,none⟩) hb).trans (hc i hi))
              have HC:=ywo hcr
              have f0:=hcr k hlt
              have HPx:=HPr.out
              have hki:(k:Int)<(p.a.length:Int):=by omega
              have y6:∀q:Beyond wr,q.w.cell? ⟨w.heap.size,6,none⟩=some (.slice (some ⟨b,off,none⟩) p.a.length ac):=fun q=>q.cell HPx.lt (HPx.cell (i:=6) rfl)
              have hne:=neB wr
              clear hc hcr HPx
              obtain⟨v,hv⟩:∃v,v=intAt p.a k:=⟨_,rfl⟩
              have HV:Hid (v=intAt p.a k):=hv
              rw [←hv]at f0
              clear hv
              by_cases k1:v<0
              · have k1':decide (v<0)=true:=by simpa using k1
                go_wp2_with fail
                refine wrb ?_
                repeat(go_big_quiet_step (fail))
                refine wpQuiet_nil ?_
                rintro w3 ⟨⟨_,hb3⟩,rfl⟩
                have HB3:=ywo hb3
                clear hb3
                go_wp2
                go_ret
                exact⟨Says.no (zj7 hlt (fun h=>by have:=h.1;rw [←HV.out]at this;omega)),trm HBw.out HB3.out⟩
              have k1':decide (v<0)=false:=by simpa using k1
              by_cases k2:100000<v
              · have k2':decide ((100000:Int)<v)=true:=by simpa using k2
                go_wp2_with fail
                refine wrb ?_
                repeat(go_big_quiet_step (fail))
                refine wpQuiet_nil ?_
                rintro w3 ⟨⟨_,hb3⟩,rfl⟩
                have HB3:=ywo hb3
                clear hb3
                go_wp2
                go_ret
                exact⟨Says.no (zj7 hlt (fun h=>by have:=h.2.1;rw [←HV.out]at this;omega)),trm HBw.out HB3.out⟩
              have k2':decide ((100000:Int)<v)=false:=by simpa using k2
              by_cases k0:k=0
              · have hd:decide (0<k)=false:=decide_eq_false (by omega)
                have HK:Hid (k=0):=k0
                clear k0
                go_wp2_with fail
                refine wrb ?_
                repeat(go_big_quiet_step (fail))
                refine wpQuiet_nil ?_
                rintro w3 ⟨⟨_,hb3⟩,rfl⟩
                have HB3:=ywo hb3
                clear hb3
                go_wp2
                go_roundw
                case rel=>exact⟨k+1,by omega,by go_num,fun j hj=>by
                  by_cases e:j=k
                  · subst e;exact⟨by rw [←HV.out];omega,by rw [←HV.out];omega,fun h0=>absurd h0 (by have:=HK.out;omega)⟩
                  · exact HA.out j (by omega),trm HBr.out HB3.out⟩
                case measure=>simp [intOf];omega
              have hd:decide (0<k)=true:=decide_eq_true (by omega)
              have hkp:(1:Int)≤(k:Int):=by omega
              have ek:((k:Int)-1).toNat=k-1:=by omega
              have g0:=HC.out (k-1) (by omega)
              obtain⟨u,hu⟩:∃u,u=intAt p.a (k-1):=⟨_,rfl⟩
              have HU:=ywo hu
              rw [←hu]at g0
              have HK:Hid (¬k=0):=k0
              clear hu k0
              by_cases k3:v≤u
              · have k3':decide (v≤u)=true:=by simpa using k3
                go_wp2_with fail
                refine wrb ?_
                repeat(go_big_quiet_step (fail))
                refine wpQuiet_nil ?_
                rintro w3 ⟨⟨_,hb3⟩,rfl⟩
                have HB3:=ywo hb3
                clear hb3
                go_wp2
                go_ret
                exact⟨Says.no (zj7 hlt (fun h=>by have:=h.2.2 (by have:=HK.out;omega);rw [←HV.out,←HU.out]at this;omega)),trm HBw.out HB3.out⟩
              · have k3':decide (v≤u)=false:=by simpa using k3
                go_wp2_with fail
                refine wrb ?_
                repeat(go_big_quiet_step (fail))
                refine wpQuiet_nil ?_
                rintro w3 ⟨⟨_,hb3⟩,rfl⟩
                have HB3:=ywo hb3
                clear hb3
                go_wp2
                go_roundw
                case rel=>exact⟨k+1,by omega,by go_num,fun j hj=>by
                  by_cases e:j=k
                  · subst e;exact⟨by rw [←HV.out];omega,by rw [←HV.out];omega,fun h0=>by rw [←HV.out,←HU.out];omega⟩
                  · exact HA.out j (by omega),trm HBr.out HB3.out⟩
                case measure=>simp [intOf];omega
            · have HAA:Hid (∀j,j<p.a.length→Asc1 p.a j):=fun j hj=>HA.out j (by omega)
              go_wp2
              go_ret
              exact⟨Says.yes ⟨HHD.out,HPA.out,HTA.out,HAA.out⟩,HBw.out⟩
end Go.Proofs.YtghndljgadpijaaGreat
