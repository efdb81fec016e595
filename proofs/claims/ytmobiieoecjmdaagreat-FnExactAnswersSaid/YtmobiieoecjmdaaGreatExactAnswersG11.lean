/- MOpM, MOk, MOkI, MOkJ, VBase, KPu, KFm, QueueS -/
import Derived.Test.YtmobiieoecjmdaaGreatExactAnswersG08
import Derived.Test.YtmobiieoecjmdaaGreatExactAnswersLMOpJ
import Derived.BigRegion
namespace Go.Proofs.YtmobiieoecjmdaaGreat
open Go.RowKit
theorem sOpM (x:Value) (m:Md) (c a b k:Int) (w:World) (h:IsM w x m):
  Calls Tryz.prog 135 #[x,.agg #[.int .i64 c,.int .i64 a,.int .i64 b,.int .i64 k]] w fun e w'=>e= .returned (.bool (okO m.n m.h.length c a b k))∧Below w.heap.size w w':=by
 obtain⟨vi,vh,vs,rfl,_,⟨ah,cap,rfl,_⟩,_⟩:=h
 exact sOp_any _ _ _ _ _ _ _ _ _ _ _ _ _
theorem iOpM (x:Value) (m:Md) (c a b k:Int) (w:World) (h:IsM w x m):
  Calls Tryz.prog 214 #[x,.agg #[.int .i64 c,.int .i64 a,.int .i64 b,.int .i64 k]] w fun e w'=>e= .returned (.bool (okO m.n m.h.length c a b k))∧Below w.heap.size w w':=by
 obtain⟨vi,vh,vs,rfl,_,⟨ah,cap,rfl,_⟩,_⟩:=h
 exact iOp_any _ _ _ _ _ _ _ _ _ _ _ _ _
def Md.hd (m:Md):Prop:=1≤m.n∧m.n≤4∧0≤m.s∧m.s≤65535∧(m.i.length:Int)=m.n∧1≤m.h.length∧m.h.length≤4∧m.e.length≤6∧0≤m.z∧m.z≤950
instance (m : Md) : Decidable m.hd := by unfold Md.hd; infer_instance
def Md.okI (m:Md):Bool:=(List.range m.i.length).all fun j=>inB (intAt m.i j)
def rowB (m:Md) (r:List O):Bool:=decide (r.length≤8)&&(List.range r.length).all fun q=>(oAt r q).ok m.n m.h.length
def Md.okH (m:Md):Bool:=(List.range m.h.length).all fun j=>rowB m (hAt m.h j)
def stB (m:Md) (j:Nat) (e:Ev):Bool:=e.ok&&decide (e.s= -1∧e.q=(j:Int)∧e.g=(j:Int)∧e.d<m.n∧e.k<(m.h.length:Int)∧e.t≤m.z)
def Md.okE (m:Md):Bool:=(List.range m.e.length).all fun j=>stB m j (evAt m.e j)
def Md.ok (m:Md):Bool:=decide m.hd&&m.okI&&m.okH&&m.okE
theorem ycs {n:Nat} {f:Nat→Bool} {k:Nat} (hk:k<n) (h:f k=false):(List.range n).all f=false:=by
 rw [List.all_eq_false];exact⟨k,by simpa using hk,by simp [h]⟩
theorem ydt {n:Nat} {f:Nat→Bool} (h:∀k,k<n→f k=true):(List.range n).all f=true:=by
 rw [List.all_eq_true];intro k hk;exact h k (by simpa using hk)
theorem yk7 {m:Md} (h:¬m.hd):m.ok=false:=by simp [Md.ok,h]
theorem ok_i {m:Md} (h:m.okI=false):m.ok=false:=by simp [Md.ok,h]
theorem ok_h {m:Md} (h:m.okH=false):m.ok=false:=by simp [Md.ok,h]
theorem ok_e {m:Md} (h:m.okE=false):m.ok=false:=by simp [Md.ok,h]
theorem ok_yes {m:Md} (h:m.hd) (hi:m.okI=true) (hh:m.okH=true) (he:m.okE=true):m.ok=true:=by simp [Md.ok,h,hi,hh,he]
set_option maxHeartbeats 4000000
set_option maxRecDepth 100000
open Go.RowKit
theorem ycp {p:Prop} (h:p):Hid p:=h
theorem ys2 (x:Value) (m:Md) (w:World) (hs:SmallM m) (h:IsM w x m):
  Calls Tryz.prog 154 #[x] w fun e w'=>e= .returned (.bool (decide ((m.i.length:Int)=m.n)&&m.okI))∧Below w.heap.size w w':=by
 have HX:Hid (IsM w x m):=h
 obtain⟨vi,vh,vs,rfl,⟨ai,ci,rfl,hi1,hi2,hi3⟩,⟨ah,ch,rfl,hh1,hh2,hh3⟩,⟨ae,ce,rfl,he1,he2,he3⟩⟩:=h
 have hi0:m.i.length≤1048576:=hs.i
 have hh0:m.h.length≤1048576:=hs.h
 have he0:m.e.length≤1048576:=hs.e
 have HS:Hid (SmallM m):=hs
 clear hs hi1 hi2 hh1 hh2 he1 he2
 clear hh3 he3 HX HS
 obtain⟨W0,hW0⟩:∃W0,w.alloc (.cells #[.int .i64 m.n,.int .i64 m.s,.slice ai m.i.length ci,.slice ah m.h.length ch,.slice ae m.e.length ce,.int .i64 m.z] 36)=W0:=⟨_,rfl⟩
 have HB0:=hdq (beA hW0)
 have HP0:=hdq (bkA hW0)
 have p0:=HP0.out.cell (i:=0) rfl
 have p2:=HP0.out.cell (i:=2) rfl
 by_cases c0:(m.i.length:Int)=m.n
 case neg=>
  clear hi3
  go_enter Tryz.func154,Tryz.ntmps154
  go_wp2
  go_ret
  exact⟨ya0 (by simp [c0]),HB0.out⟩
 have HI:Hid (m.i= []∨ ∃b off,ai=some ⟨b,off,none⟩∧IntsAt W0 b off m.i):=hi3.imp id (fun⟨b,off,e,h⟩=>⟨b,off,e,h.below HB0.out h.1⟩)
 have HOK:Hid (∀b,m.okI=b→(decide ((m.i.length:Int)=m.n)&&m.okI)=b):=fun b e=>by rw [e,c0];simp
 generalize (decide ((m.i.length:Int)=m.n)&&m.okI)=okv at HOK⊢
 clear hi3
 go_enter Tryz.func154,Tryz.ntmps154
 go_wp2
 clear hW0
 have hn0:m.n≤1048576:=by omega
 have hn1:0≤m.n:=by omega
 go_loop [14] (fun i=>∃k:Nat,k≤m.i.length∧i= .int .i64 k∧ ∀j,j<k→inB (intAt m.i j)=true) (fun i=>m.i.length-(intOf i).toNat)
 case atStart=>exact⟨0,Nat.zero_le _,rfl,fun j hj=>by omega⟩
 case round=>
  obtain⟨k,hk,rfl,hall⟩:=hrel
  have HA:=ycp hall
  clear hall
  by_cases hlt:k<m.i.length
  ·obtain⟨b,off,rfl,hb,hc⟩:=HI.out.resolve_left (by intro e;rw [e]at hlt;simp at hlt)
   have f0:=hc k hlt
   obtain⟨y,hy⟩:∃y,y=intAt m.i k:=⟨_,rfl⟩
   have HY:Hid (y=intAt m.i k):=hy
   rw [←hy]at f0
   have hkn:(k:Int)<m.n:=by omega
   clear hc hy hb
   go_wp2_with fail
   refine(yad _ _ _ _).mono ?_
   rintro e w2 ⟨rfl,hw⟩
   have hw':=hw.symm
   clear hw
   subst hw'
   by_cases y0:0≤y∧y≤999
   ·rw [show(decide (0≤y)&&decide (y≤999))=true from by simp [y0]]
    have HN:Hid (inB y=true):=decide_eq_true y0
    clear y0
    go_wp2
    go_round
    case rel=>exact⟨k+1,by omega,by go_num,fun j hj=>by
     by_cases e:j<k
     ·exact HA.out j e
     ·rw [show j=k by omega,←HY.out];exact HN.out⟩
    case measure=>simp [intOf];omega
   ·rw [show(decide (0≤y)&&decide (y≤999))=false from by simp;omega]
    have hno:okv=false:=HOK.out _ (ycs hlt (by rw [←HY.out];exact decide_eq_false y0))
    subst hno
    clear y0
    go_wp2
    go_ret
    exact⟨rfl,HB0.out⟩
  ·have hyes:okv=true:=HOK.out _ (ydt (fun j hj=>HA.out j (by omega)))
   subst hyes
   have hkn:¬(k:Int)<m.n:=by omega
   go_wp2
   go_ret
   exact⟨rfl,HB0.out⟩
def yms (m:Md) (r:List O):Bool:=(List.range r.length).all fun q=>(oAt r q).ok m.n m.h.length
theorem yu1 (x u:Value) (m:Md) (r:List O) (w:World) (hs:SmallM m) (hr:r.length≤1048576) (h:IsM w x m) (hu:IsO w u r):
  Calls Tryz.prog 192 #[x,u] w fun e w'=>e= .returned (.bool (yms m r))∧Below w.heap.size w w':=by
 have HX:Hid (IsM w x m):=h
 obtain⟨vi,vh,vs,rfl,⟨ai,ci,rfl,hi1,hi2,hi3⟩,⟨ah,ch,rfl,hh1,hh2,hh3⟩,⟨ae,ce,rfl,he1,he2,he3⟩⟩:=h
 have hi0:m.i.length≤1048576:=hs.i
 have hh0:m.h.length≤1048576:=hs.h
 have he0:m.e.length≤1048576:=hs.e
 have HS:Hid (SmallM m):=hs
 clear hs hi1 hi2 hh1 hh2 he1 he2
 clear hi3 hh3 he3 HS hi0 hh0 he0
 obtain⟨a1,c1,rfl,_,_,hu⟩:=hu
 have HU:=ycp hu
 have HOK:Hid (∀b,((List.range r.length).all fun q=>(oAt r q).ok m.n m.h.length)=b→yms m r=b):=fun b e=>e
 generalize yms m r=okv at HOK⊢
 clear hu
 go_enter Tryz.func192,Tryz.ntmps192
 go_wp2
 go_loopw [9] (fun i wr=>∃k:Nat,k≤r.length∧i= .int .i64 k∧(∀j,j<k→(oAt r j).ok m.n m.h.length=true)∧Below w.heap.size w wr∧Bk wr w.heap.size 36 #[.int .i64 m.n,.int .i64 m.s,.slice ai m.i.length ci,.slice ah m.h.length ch,.slice ae m.e.length ce,.int .i64 m.z]) (fun i _=>r.length-(intOf i).toNat)
 case atStart=>exact⟨0,Nat.zero_le _,rfl,fun j hj=>by omega,(Below.refl _ w).alloc (Nat.le_refl _) _,Bk.new w _ _⟩
 case round=>
  obtain⟨k,hk,rfl,hall,hB,hP⟩:=hrel
  have HA:=ycp hall
  have HB0:=ycp hB
  have HP0:=ycp hP
  clear hall hP
  by_cases hlt:k<r.length
  ·obtain⟨b,off,rfl,hb,hc⟩:=HU.out.resolve_left (by intro e;rw [e]at hlt;simp at hlt)
   obtain⟨f0,f1,f2,f3⟩:=(hc k hlt).below hB hb
   clear hB hc
   generalize hev:oAt r k=e at f0 f1 f2 f3
   have HEV:Hid (oAt r k=e):=hev
   obtain⟨c,a,b2,k2⟩:=e
   clear hev
   obtain⟨V,hV⟩:∃V,wr.alloc (.cells #[.int .i64 c,.int .i64 a,.int .i64 b2,.int .i64 k2] 182)=V:=⟨_,rfl⟩
   have hbV:=beA hV
   have HBV:=trh HB0 hbV
   have HPV:=ycp (HP0.out.below hbV)
   have hQV:=bkA hV
   obtain⟨p0,p1,p2,p3,p4,p5⟩:=c6_6 HPV.out
   obtain⟨e0,e1,e2,e3⟩:=c4_4 hQV
   clear hbV hQV HB0 HP0
   go_wp2_with fail
   clear f0 f1 f2 f3 e0 e1 e2 e3 p0 p1 p2 p3 p4 p5 hV
   refine(iOpM _ m _ _ _ _ _ (HX.out.below HBV.out)).mono ?_
   rintro e w2 ⟨rfl,hb2⟩
   have HB2:=trh HBV hb2
   have HP2:=ycp (HPV.out.below hb2)
   clear hb2 HBV HPV
   cases hv:okO m.n (m.h.length:Int) c a b2 k2
   ·have hno:okv=false:=HOK.out _ (ycs hlt (by rw [HEV.out];exact hv))
    subst hno
    clear hv
    go_wp2
    go_ret
    exact⟨rfl,HB2.out⟩
   ·have HV:=ycp hv
    clear hv
    go_wp2
    go_roundw
    case rel=>exact⟨k+1,by omega,by go_num,fun j hj=>by
     by_cases e:j<k
     ·exact HA.out j e
     ·rw [show j=k by omega,HEV.out];exact HV.out,HB2.out,HP2.out⟩
    case measure=>simp [intOf];omega
  ·have hyes:okv=true:=HOK.out _ (ydt (fun j hj=>HA.out j (by omega)))
   subst hyes
   clear hB
   go_wp2
   go_ret
   exact⟨rfl,HB0.out⟩
theorem yka (x:Value) (m:Md) (w:World) (hs:SmallM m) (h:IsM w x m):
  Calls Tryz.prog 155 #[x] w fun e w'=>e= .returned (.bool (decide (1≤m.h.length∧m.h.length≤4)&&m.okH))∧Below w.heap.size w w':=by
 have HX:Hid (IsM w x m):=h
 obtain⟨vi,vh,vs,rfl,⟨ai,ci,rfl,hi1,hi2,hi3⟩,⟨ah,ch,rfl,hh1,hh2,hh3⟩,⟨ae,ce,rfl,he1,he2,he3⟩⟩:=h
 have hi0:m.i.length≤1048576:=hs.i
 have hh0:m.h.length≤1048576:=hs.h
 have he0:m.e.length≤1048576:=hs.e
 have HS:Hid (SmallM m):=hs
 clear hs hi1 hi2 hh1 hh2 he1 he2
 clear hi3 he3
 have HH:=ycp hh3
 clear hh3
 obtain⟨W0,hW0⟩:∃W0,w.alloc (.cells #[.int .i64 m.n,.int .i64 m.s,.slice ai m.i.length ci,.slice ah m.h.length ch,.slice ae m.e.length ce,.int .i64 m.z] 36)=W0:=⟨_,rfl⟩
 have HB0:=hdq (beA hW0)
 have HP0:=hdq (bkA hW0)
 obtain⟨p0,p1,p2,p3,p4,p5⟩:=c6_6 HP0.out
 by_cases c0:1≤m.h.length∧m.h.length≤4
 case neg=>
  have d0:(decide ((1:Int)≤(m.h.length:Int))&&decide ((m.h.length:Int)≤4))=false:=by simp;omega
  have HC:=ycp c0
  clear c0
  go_enter Tryz.func155,Tryz.ntmps155
  go_wp2_with fail
  refine(yad _ _ _ _).mono ?_
  rintro e w2 ⟨rfl,hw⟩
  have hw':=hw.symm
  clear hw
  subst hw'
  rw [d0]
  clear d0
  go_wp2
  go_ret
  exact⟨ya0 (by rw [decide_eq_false HC.out];rfl),HB0.out⟩
 have d0:(decide ((1:Int)≤(m.h.length:Int))&&decide ((m.h.length:Int)≤4))=true:=by simp;omega
 have HOK:Hid (∀b,m.okH=b→(decide (1≤m.h.length∧m.h.length≤4)&&m.okH)=b):=fun b e=>by rw [e,decide_eq_true c0];simp
 generalize (decide (1≤m.h.length∧m.h.length≤4)&&m.okH)=okv at HOK⊢
 clear c0
 go_enter Tryz.func155,Tryz.ntmps155
 go_wp2_with fail
 refine(yad _ _ _ _).mono ?_
 rintro e w2 ⟨rfl,hw⟩
 have hw':=hw.symm
 clear hw
 subst hw'
 rw [d0]
 clear d0
 go_wp2
 clear hW0 p0 p1 p2 p3 p4 p5
 go_loopw [13] (fun i wr=>∃k:Nat,k≤m.h.length∧i= .int .i64 k∧(∀j,j<k→rowB m (hAt m.h j)=true)∧Below w.heap.size w wr∧Bk wr w.heap.size 36 #[.int .i64 m.n,.int .i64 m.s,.slice ai m.i.length ci,.slice ah m.h.length ch,.slice ae m.e.length ce,.int .i64 m.z]) (fun i _=>m.h.length-(intOf i).toNat)
 case atStart=>exact⟨0,Nat.zero_le _,rfl,fun j hj=>by omega,HB0.out,HP0.out⟩
 case round=>
  clear HB0 HP0
  obtain⟨k,hk,rfl,hall,hB,hP⟩:=hrel
  have HA:=ycp hall
  have HB0:=ycp hB
  have HP0:=ycp hP
  clear hall hP
  obtain⟨p0,p1,p2,p3,p4,p5⟩:=c6_6 HP0.out
  by_cases hlt:k<m.h.length
  ·obtain⟨b,off,rfl,hb,hc⟩:=HH.out.resolve_left (by intro e;rw [e]at hlt;simp at hlt)
   obtain⟨u,f0,hu⟩:=hc k hlt
   replace f0:=(hB.cell (p:=⟨b,off+k,none⟩) hb).trans f0
   have HL:=ycp (HS.out.r k)
   have HU:=ycp hu
   obtain⟨a1,c1,rfl,_,_,_⟩:=hu
   clear hB hc
   by_cases h8:8<((hAt m.h k).length:Int)
   ·have hno:okv=false:=HOK.out _ (ycs hlt (by simp [rowB];omega))
    subst hno
    go_wp2
    go_ret
    exact⟨rfl,HB0.out⟩
   ·have HROW:Hid (∀b,yms m (hAt m.h k)=b→rowB m (hAt m.h k)=b):=fun b e=>by
     have:decide ((hAt m.h k).length≤8)=true:=by simp;omega
     unfold rowB
     rw [this,Bool.true_and]
     exact e
    go_wp2_with fail
    refine(yu1 _ _ m (hAt m.h k) _ HS.out HL.out (HX.out.below HB0.out) (HU.out.below HB0.out)).mono ?_
    rintro e w2 ⟨rfl,hb2⟩
    have HB2:=trh HB0 hb2
    have HP2:=ycp (HP0.out.below hb2)
    clear hb2 HB0 HP0 f0 p0 p1 p2 p3 p4 p5
    cases hv:yms m (hAt m.h k)
    ·have hno:okv=false:=HOK.out _ (ycs hlt (HROW.out _ hv))
     subst hno
     clear hv
     go_wp2
     go_ret
     exact⟨rfl,HB2.out⟩
    ·have HV:=ycp (HROW.out _ hv)
     clear hv
     go_wp2
     go_roundw
     case rel=>exact⟨k+1,by omega,by go_num,fun j hj=>by
      by_cases e:j<k
      ·exact HA.out j e
      ·rw [show j=k by omega];exact HV.out,HB2.out,HP2.out⟩
     case measure=>simp [intOf];omega
  ·have hyes:okv=true:=HOK.out _ (ydt (fun j hj=>HA.out j (by omega)))
   subst hyes
   clear hB
   go_wp2
   go_ret
   exact⟨rfl,HB0.out⟩
set_option maxHeartbeats 4000000
set_option maxRecDepth 100000
open Go.RowKit
theorem ye0 {p:Prop} (h:p):Hid p:=h
def fitB (m:Md) (t d kk:Int):Bool:=decide (0≤d∧d<m.n∧0≤kk∧kk<(m.h.length:Int)∧t≤m.z)
theorem yq4 (x:Value) (m:Md) (t s1 qq d kk v g:Int) (w:World) (h:IsM w x m):
  Calls Tryz.prog 165 #[x,.agg #[.int .i64 t,.int .i64 s1,.int .i64 qq,.int .i64 d,.int .i64 kk,.int .i64 v,.int .i64 g]] w fun e w'=>e= .returned (.bool (fitB m t d kk))∧Below w.heap.size w w':=by
 obtain⟨vi,vh,vs,rfl,⟨ai,ci,rfl,hi1,hi2,hi3⟩,⟨ah,ch,rfl,hh1,hh2,hh3⟩,⟨ae,ce,rfl,he1,he2,he3⟩⟩:=h
 clear hi1 hi2 hh1 hh2 he1 he2 hi3 hh3 he3
 go_enter Tryz.func165,Tryz.ntmps165
 go_wp2_with (go_at_call 83;refine(ydu _ _ _).mono ?_;rintro e w2 ⟨rfl,hw⟩;have hw':=hw.symm;clear hw;subst hw')
 all_goals
  go_ret
  refine⟨?_,((Below.refl _ _).alloc (Nat.le_refl _) _).alloc (by simp) _⟩
  first|exact ya0 (by unfold fitB;rw [Bool.eq_iff_iff];(try simp only [Bool.and_eq_true]);simp only [decide_eq_true_eq];omega)|exact ya0 (by unfold fitB;simp;omega)|exact ya0 (by unfold fitB;simp [*])
def begB (place s1 qq g:Int):Bool:=decide (s1= -1∧qq=place∧g=place)
theorem yor (place t s1 qq d kk v g:Int) (w:World):
  Calls Tryz.prog 193 #[.agg #[.int .i64 t,.int .i64 s1,.int .i64 qq,.int .i64 d,.int .i64 kk,.int .i64 v,.int .i64 g],.int .i64 place] w fun e w'=>e= .returned (.bool (begB place s1 qq g))∧Below w.heap.size w w':=by
 by_cases c0:s1= -1
 ·by_cases c1:qq=place
  ·by_cases c2:g=place
   all_goals
    go_enter Tryz.func193,Tryz.ntmps193
    go_wp2
    go_ret
    exact⟨ya0 (by simp [begB, *]),(Below.refl _ _).alloc (Nat.le_refl _) _⟩
  ·go_enter Tryz.func193,Tryz.ntmps193
   go_wp2
   go_ret
   exact⟨ya0 (by simp [begB, *]),(Below.refl _ _).alloc (Nat.le_refl _) _⟩
 ·go_enter Tryz.func193,Tryz.ntmps193
  go_wp2
  go_ret
  exact⟨ya0 (by simp [begB, *]),(Below.refl _ _).alloc (Nat.le_refl _) _⟩
theorem yt3 (m:Md) (k:Nat) (t s1 qq d kk v g:Int):stB m k ⟨t,s1,qq,d,kk,v,g⟩=(okB t s1 qq d kk v g&&(fitB m t d kk&&begB (k:Int) s1 qq g)):=by
 unfold stB Ev.ok fitB begB okB
 rw [Bool.eq_iff_iff]
 simp only [Bool.and_eq_true,decide_eq_true_eq]
 omega
theorem yo5 (x:Value) (m:Md) (w:World) (hs:SmallM m) (h:IsM w x m):
  Calls Tryz.prog 156 #[x] w fun e w'=>e= .returned (.bool (decide (m.e.length≤6)&&m.okE))∧Below w.heap.size w w':=by
 have HX:Hid (IsM w x m):=h
 obtain⟨vi,vh,vs,rfl,⟨ai,ci,rfl,hi1,hi2,hi3⟩,⟨ah,ch,rfl,hh1,hh2,hh3⟩,⟨ae,ce,rfl,he1,he2,he3⟩⟩:=h
 have hi0:m.i.length≤1048576:=hs.i
 have hh0:m.h.length≤1048576:=hs.h
 have he0:m.e.length≤1048576:=hs.e
 have HS:Hid (SmallM m):=hs
 clear hs hi1 hi2 hh1 hh2 he1 he2
 clear hi3 hh3
 have HE:=ye0 he3
 clear he3
 obtain⟨W0,hW0⟩:∃W0,w.alloc (.cells #[.int .i64 m.n,.int .i64 m.s,.slice ai m.i.length ci,.slice ah m.h.length ch,.slice ae m.e.length ce,.int .i64 m.z] 36)=W0:=⟨_,rfl⟩
 have HB0:=hdq (beA hW0)
 have HP0:=hdq (bkA hW0)
 obtain⟨p0,p1,p2,p3,p4,p5⟩:=c6_6 HP0.out
 by_cases c0:6<(m.e.length:Int)
 case pos=>
  go_enter Tryz.func156,Tryz.ntmps156
  go_wp2
  go_ret
  exact⟨ya0 (by rw [decide_eq_false (by omega)];rfl),HB0.out⟩
 have HOK:Hid (∀b,m.okE=b→(decide (m.e.length≤6)&&m.okE)=b):=fun b e=>by rw [e,decide_eq_true (by omega)];simp
 generalize (decide (m.e.length≤6)&&m.okE)=okv at HOK⊢
 go_enter Tryz.func156,Tryz.ntmps156
 go_wp2
 clear hW0 p0 p1 p2 p3 p4 p5
 go_loopw [12] (fun i wr=>∃k:Nat,k≤m.e.length∧i= .int .i64 k∧(∀j,j<k→stB m j (evAt m.e j)=true)∧Below w.heap.size w wr∧Bk wr w.heap.size 36 #[.int .i64 m.n,.int .i64 m.s,.slice ai m.i.length ci,.slice ah m.h.length ch,.slice ae m.e.length ce,.int .i64 m.z]) (fun i _=>m.e.length-(intOf i).toNat)
 case atStart=>exact⟨0,Nat.zero_le _,rfl,fun j hj=>by omega,HB0.out,HP0.out⟩
 case round=>
  clear HB0 HP0
  obtain⟨k,hk,rfl,hall,hB,hP⟩:=hrel
  have HA:=ye0 hall
  have HB0:=ye0 hB
  have HP0:=ye0 hP
  clear hall hP
  by_cases hlt:k<m.e.length
  ·obtain⟨b,off,rfl,hb,hc⟩:=HE.out.resolve_left (by intro e;rw [e]at hlt;simp at hlt)
   obtain⟨f0,f1,f2,f3,f4,f5,f6⟩:=(hc k hlt).below hB hb
   clear hB hc
   generalize hev:evAt m.e k=e at f0 f1 f2 f3 f4 f5 f6
   have HEV:Hid (evAt m.e k=e):=hev
   obtain⟨t,s1,qq,d,kk,v,g⟩:=e
   clear hev
   obtain⟨V,hV⟩:∃V,wr.alloc (.cells #[.int .i64 t,.int .i64 s1,.int .i64 qq,.int .i64 d,.int .i64 kk,.int .i64 v,.int .i64 g] 110)=V:=⟨_,rfl⟩
   have hbV:=beA hV
   have HBV:=trh HB0 hbV
   have HPV:=ye0 (HP0.out.below hbV)
   have HQV:=hdq (bkA hV)
   obtain⟨p0,p1,p2,p3,p4,p5⟩:=c6_6 HPV.out
   obtain⟨e0,e1,e2,e3,e4,e5,e6⟩:=c7_7 HQV.out
   clear hbV HB0 HP0
   go_wp2_with fail
   clear f0 f1 f2 f3 f4 f5 f6 e0 e1 e2 e3 e4 e5 e6 p0 p1 p2 p3 p4 p5 hV
   refine(yov _ _ _ _ _ _ _ _).mono ?_
   rintro e w2 ⟨rfl,hb2⟩
   have HB2:=trh HBV hb2
   have HP2:=ye0 (HPV.out.below hb2)
   have HQ2:=ye0 (HQV.out.below hb2)
   clear hb2 HBV HPV HQV
   have HST:Hid (stB m k (evAt m.e k)=(okB t s1 qq d kk v g&&(fitB m t d kk&&begB (k:Int) s1 qq g))):=HEV.out▸yt3 m k t s1 qq d kk v g
   cases hokb:okB t s1 qq d kk v g
   ·have hno:=HOK.out _ (ycs hlt (by rw [HST.out,hokb];rfl))
    subst hno
    clear hokb
    obtain⟨p0,p1,p2,p3,p4,p5⟩:=c6_6 HP2.out
    obtain⟨e0,e1,e2,e3,e4,e5,e6⟩:=c7_7 HQ2.out
    go_wp2
    go_ret
    exact⟨rfl,HB2.out⟩
   ·have HOB:=ye0 hokb
    clear hokb
    obtain⟨p0,p1,p2,p3,p4,p5⟩:=c6_6 HP2.out
    obtain⟨e0,e1,e2,e3,e4,e5,e6⟩:=c7_7 HQ2.out
    go_wp2_with fail
    clear e0 e1 e2 e3 e4 e5 e6 p0 p1 p2 p3 p4 p5
    refine(yq4 _ m _ _ _ _ _ _ _ _ (HX.out.below HB2.out)).mono ?_
    rintro e w3 ⟨rfl,hb3⟩
    have HB3:=trh HB2 hb3
    have HP3:=ye0 (HP2.out.below hb3)
    have HQ3:=ye0 (HQ2.out.below hb3)
    clear hb3 HB2 HP2 HQ2
    cases hfit:fitB m t d kk
    ·have hno:=HOK.out _ (ycs hlt (by rw [HST.out,hfit];simp))
     subst hno
     clear hfit
     obtain⟨e0,e1,e2,e3,e4,e5,e6⟩:=c7_7 HQ3.out
     go_wp2
     go_ret
     exact⟨rfl,HB3.out⟩
    ·have HFI:=ye0 hfit
     clear hfit
     obtain⟨e0,e1,e2,e3,e4,e5,e6⟩:=c7_7 HQ3.out
     go_wp2_with fail
     clear e0 e1 e2 e3 e4 e5 e6
     refine(yor _ _ _ _ _ _ _ _ _).mono ?_
     rintro e w4 ⟨rfl,hb4⟩
     have HB4:=trh HB3 hb4
     have HP4:=ye0 (HP3.out.below hb4)
     clear hb4 HB3 HP3 HQ3
     cases hbeg:begB (k:Int) s1 qq g
     ·have hno:=HOK.out _ (ycs hlt (by rw [HST.out,hbeg];simp))
      subst hno
      clear hbeg
      go_wp2
      go_ret
      exact⟨rfl,HB4.out⟩
     ·have HV:Hid (stB m k (evAt m.e k)=true):=by rw [HST.out,HOB.out,HFI.out,hbeg];rfl
      clear hbeg
      go_wp2
      go_roundw
      case rel=>exact⟨k+1,by omega,by go_num,fun j hj=>by
       by_cases e:j<k
       ·exact HA.out j e
       ·rw [show j=k by omega];exact HV.out,HB4.out,HP4.out⟩
      case measure=>simp [intOf];omega
  ·have hyes:okv=true:=HOK.out _ (ydt (fun j hj=>HA.out j (by omega)))
   subst hyes
   clear hB
   go_wp2
   go_ret
   exact⟨rfl,HB0.out⟩
def yu5 (z:Int):Bool:=decide (-1≤z)&&decide (z≤1)
def vok (l:List Int):Bool:=l.all yu5&&decide (l.length=4)
theorem numOk_iff {z:Int}:yu5 z=true↔ -1≤z∧z≤1:=by simp [yu5]
theorem yiw {l:List Int} (h:vok l=true):∃a b c d:Int,l= [a,b,c,d]∧(-1≤a∧a≤1)∧(-1≤b∧b≤1)∧(-1≤c∧c≤1)∧(-1≤d∧d≤1):=by
 simp only [vok,Bool.and_eq_true,decide_eq_true_eq]at h
 obtain⟨h,hl⟩:=h
 match l,hl with
 | [a,b,c,d],_=>
  simp only [List.all_cons,List.all_nil,Bool.and_eq_true,numOk_iff]at h
  exact⟨a,b,c,d,rfl,h.1,h.2.1,h.2.2.1,h.2.2.2.1⟩
def evIn (m:Md) (e:Ev):Bool:=e.ok&&fitB m e.t e.d e.k
def allB (n:Nat) (f:Nat→Bool):Bool:=(List.range n).all f
theorem allB_iff {n:Nat} {f:Nat→Bool}:allB n f=true↔ ∀i,i<n→f i=true:=by
 unfold allB
 rw [List.all_eq_true]
 exact⟨fun h i hi=>h i (List.mem_range.2 hi),fun h i hi=>h i (List.mem_range.1 hi)⟩
theorem allB_yes {n:Nat} {f:Nat→Bool} (h:∀i,i<n→f i=true):allB n f=true:=allB_iff.2 h
theorem allB_no {n:Nat} {f:Nat→Bool} {i:Nat} (hi:i<n) (h:f i=false):allB n f=false:=by
 cases e:allB n f
 ·rfl
 ·rw [allB_iff.1 e i hi]at h;cases h
noncomputable def modB (m : Md) (p : Pa) : Bool := m.ok && p.ok && decide (p.n < m.n) && allB p.t.length (fun i => evIn m (evAt p.t i))
def yls (p:Pa):List Ev:=p.t.take 1
def yb0 (l:List Pa):List Ev:=l.flatMap yls
def gvtL (k:Kn):List Ev:=yb0 k.p++k.b.map (·.e)
def yo4 (o:Option Ev) (e:Ev):Option Ev:=match o with
 |none=>some e
 |some g=>if e.cmp g<0 then some e else some g
def minE (l:List Ev):Option Ev:=l.foldl yo4 none
theorem yg1 (l:List Ev) (e:Ev):minE (l++ [e])=yo4 (minE l) e:=by simp [minE]
theorem ylr (l l':List Pa):yb0 (l++l')=yb0 l++yb0 l':=by simp [yb0]
theorem ys9 (p:Pa):yb0 [p]=yls p:=by simp [yb0]
def gvtE (k:Kn):Option Ev:=minE (gvtL k)
def ycg (l:List Ev):Ev:=evAt l (l.length-1)
def behB (s:List Ev) (e:Ev):Bool:=decide (s= [])||decide (0<e.cmp (ycg s))
def gvtB (k:Kn):Bool:=match gvtE k with
 |none=>true
 |some g=>behB k.s g
def yfq (s:List Ev) (p:Pa):Bool:=decide (p.p= [])||behB s (psAt p.p 0).e
def ymk (m:Md) (s:List Ev) (i:Nat):Bool:=evIn m (evAt s i)&&decide ((evAt s i).g=0)&&decide (0<i→(evAt s (i-1)).cmp (evAt s i)<0)
def yez (k:Kn):Bool:=decide (k.s.length≤2000)&&decide (k.x.length≤16000)&&allB k.s.length (ymk k.m k.s)&&allB k.x.length (fun i=>(xAt k.x i).okB)&&gvtB k&&allB k.p.length (fun i=>yfq k.s (paAt k.p i))
def bagT (l:List Ml):List Int:=l.flatMap (fun m=>if m.a then []else [m.e.g])
def yo1 (p:Pa):List Int:=p.t.map (·.g)
def ymv (p:Pa):List Int:=p.p.map (·.e.g)
def ytt (p:Pa):List Int:=yo1 p++ymv p
def yc6 (l:List Pa):List Int:=l.flatMap ytt
def yk5 (k:Kn):List Int:=bagT k.b++yc6 k.p
def ytc (k:Kn) (x:Ps):Bool:=allB x.s.length (fun i=>evIn k.m (evAt x.s i)&&decide ((evAt x.s i).g<k.t))
def antiK (k:Kn) (p:Pa):Bool:=allB p.a.length (fun i=>decide (intAt p.a i<k.t))
def ytu (k:Kn) (p:Pa):Bool:=allB p.p.length (fun i=>ytc k (psAt p.p i))&&antiK k p
def hasI (l:List Int) (n:Nat) (z:Int):Bool:= !allB n (fun i=> !decide (intAt l i=z))
def ynp (t:Int) (l:List Int):Bool:=allB l.length (fun i=>decide (intAt l i<t)&& !hasI l i (intAt l i))
def yfv (k:Kn):Bool:=allB k.p.length (fun i=>ytu k (paAt k.p i))&&ynp k.t (yk5 k)
noncomputable def yrl (k : Kn) (i : Nat) : Bool := modB k.m (paAt k.p i) && decide ((paAt k.p i).n = (i : Int))
def bag1 (k:Kn) (i:Nat):Bool:=evIn k.m (mlAt k.b i).e&&decide ((mlAt k.b i).e.g<k.t)
def yuy (k:Kn):Bool:=k.m.ok&&vok k.d&&decide ((k.p.length:Int)=k.m.n)&&decide (k.b.length≤2000)&&decide (6≤k.t)&&decide (k.t≤99992)&&decide (-1≤k.q)&&decide (k.q<4)
noncomputable def Kn.ok (k : Kn) : Bool := yuy k && allB k.p.length (yrl k) && allB k.b.length (bag1 k) && yez k && yfv k
theorem IsMl.rows {w:World} {a:Option Addr} {cap:Nat} {l:List Ml} (h:IsMl w (.slice a l.length cap) l):l= []∨ ∃b off,a=some ⟨b,off,none⟩∧MlsAt w b off l:=by
 obtain⟨a',c',e,_,_,h⟩:=h
 cases e
 exact h
theorem IsEvs.rows {w:World} {a:Option Addr} {cap:Nat} {l:List Ev} (h:IsEvs w (.slice a l.length cap) l):l= []∨ ∃b off,a=some ⟨b,off,none⟩∧EvsAt w b off l:=by
 obtain⟨a',c',e,_,_,h⟩:=h
 cases e
 exact h
theorem IsX.rows {w:World} {a:Option Addr} {cap:Nat} {l:List Em} (h:IsX w (.slice a l.length cap) l):l= []∨ ∃b off,a=some ⟨b,off,none⟩∧XsAt w b off l:=by
 obtain⟨a',c',e,_,_,h⟩:=h
 cases e
 exact h
theorem IsI.rows {w:World} {a:Option Addr} {cap:Nat} {l:List Int} (h:IsI w (.slice a l.length cap) l):l= []∨ ∃b off,a=some ⟨b,off,none⟩∧IntsAt w b off l:=by
 obtain⟨a',c',e,_,_,h⟩:=h
 cases e
 exact h
structure PaAt (w:World) (b o:Nat) (p:Pa) (a1:Option Addr) (c1:Nat) (a4:Option Addr) (c4:Nat) (a5:Option Addr) (c5:Nat) (a6:Option Addr) (c6:Nat):Prop where
 f0:w.cell? ⟨b,o,none⟩=some (.int .i64 p.n)
 f1:w.cell? ⟨b,o+1,none⟩=some (.slice a1 p.st.r.length c1)
 f2:w.cell? ⟨b,o+2,none⟩=some (.int .i64 p.st.q)
 f3:w.cell? ⟨b,o+3,none⟩=some (.int .i64 p.st.d)
 f4:w.cell? ⟨b,o+4,none⟩=some (.slice a4 p.p.length c4)
 f5:w.cell? ⟨b,o+5,none⟩=some (.slice a5 p.t.length c5)
 f6:w.cell? ⟨b,o+6,none⟩=some (.slice a6 p.a.length c6)
 d1:IsD w (.slice a1 p.st.r.length c1) (yaq p.st.r)
 d4:IsD w (.slice a4 p.p.length c4) (yay p.p)
 d5:IsD w (.slice a5 p.t.length c5) (evsD p.t)
 d6:IsD w (.slice a6 p.a.length c6) (yaq p.a)
theorem PaAt.below {w w':World} {b o:Nat} {p:Pa} {a1:Option Addr} {c1:Nat} {a4:Option Addr} {c4:Nat} {a5:Option Addr} {c5:Nat} {a6:Option Addr} {c6:Nat} (h:PaAt w b o p a1 c1 a4 c4 a5 c5 a6 c6) (hb:Below w.heap.size w w') (hlt:b<w.heap.size):PaAt w' b o p a1 c1 a4 c4 a5 c5 a6 c6:=
 ⟨(hb.cell (p:=⟨b,_,none⟩) hlt).trans h.f0,(hb.cell (p:=⟨b,_,none⟩) hlt).trans h.f1,(hb.cell (p:=⟨b,_,none⟩) hlt).trans h.f2,(hb.cell (p:=⟨b,_,none⟩) hlt).trans h.f3,(hb.cell (p:=⟨b,_,none⟩) hlt).trans h.f4,(hb.cell (p:=⟨b,_,none⟩) hlt).trans h.f5,(hb.cell (p:=⟨b,_,none⟩) hlt).trans h.f6,h.d1.under hb,h.d4.under hb,h.d5.under hb,h.d6.under hb⟩
theorem PaAt.isPart {w:World} {b o:Nat} {p:Pa} {a1:Option Addr} {c1:Nat} {a4:Option Addr} {c4:Nat} {a5:Option Addr} {c5:Nat} {a6:Option Addr} {c6:Nat} (h:PaAt w b o p a1 c1 a4 c4 a5 c5 a6 c6):IsPart w (.agg #[.int .i64 p.n,.slice a1 p.st.r.length c1,.int .i64 p.st.q,.int .i64 p.st.d,.slice a4 p.p.length c4,.slice a5 p.t.length c5,.slice a6 p.a.length c6]) p:=⟨_,_,_,_,rfl,h.d1,h.d4,h.d5,h.d6⟩
def PasAt (w:World) (b off:Nat) (l:List Pa):Prop:=b<w.heap.size∧ ∀i,i<l.length→ ∃a1 c1 a4 c4 a5 c5 a6 c6,PaAt w b (off+i*7) (paAt l i) a1 c1 a4 c4 a5 c5 a6 c6
theorem PasAt.below {w w':World} {b off:Nat} {l:List Pa} (h:PasAt w b off l) (hb:Below w.heap.size w w'):PasAt w' b off l:=
 ⟨Nat.lt_of_lt_of_le h.1 hb.size,fun i hi=>by
  obtain⟨a1,c1,a4,c4,a5,c5,a6,c6,hp⟩:=h.2 i hi
  exact⟨a1,c1,a4,c4,a5,c5,a6,c6,hp.below hb h.1⟩⟩
theorem ybo {w:World} {u:Value} {c n:Nat} {f:Nat→Dat} (h:IsD w u (.row c n f)):∃a cap,u= .slice a n cap:=by
 obtain⟨a,cap,rfl,_⟩:=h.parts
 exact⟨a,cap,rfl⟩
theorem yri {w:World} {a:Option Addr} {cap:Nat} {l:List Pa} (h:IsD w (.slice a l.length cap) (yb8 l)):l= []∨ ∃b off,a=some ⟨b,off,none⟩∧PasAt w b off l:=by
 obtain⟨a',c',e,_,_,h⟩:=IsD.parts (c:=7) (n:=l.length) h
 cases e
 rcases h with h|⟨b,off,rfl,hb,hc⟩
 ·exact .inl (List.length_eq_zero_iff.1 h)
 ·refine .inr ⟨b,off,rfl,hb,fun i hi=> ?_⟩
  obtain⟨u1,u4,u5,u6,f0,f1,f2,f3,f4,f5,f6,d1,d4,d5,d6⟩:=yg0 hc hi
  obtain⟨a1,c1,rfl⟩:=ybo (c:=1) (n:=(paAt l i).st.r.length) d1
  obtain⟨a4,c4,rfl⟩:=ybo (c:=12) (n:=(paAt l i).p.length) d4
  obtain⟨a5,c5,rfl⟩:=ybo (c:=7) (n:=(paAt l i).t.length) d5
  obtain⟨a6,c6,rfl⟩:=ybo (c:=1) (n:=(paAt l i).a.length) d6
  exact⟨a1,c1,a4,c4,a5,c5,a6,c6,f0,f1,f2,f3,f4,f5,f6,d1,d4,d5,d6⟩
structure PpAt (w:World) (b o:Nat) (p:Ps) (a7:Option Addr) (c7:Nat) (a10:Option Addr) (c10:Nat) (a11:Option Addr) (c11:Nat):Prop where
 ev:Ev.In w b o p.e
 f7:w.cell? ⟨b,o+7,none⟩=some (.slice a7 p.b.r.length c7)
 f8:w.cell? ⟨b,o+8,none⟩=some (.int .i64 p.b.q)
 f9:w.cell? ⟨b,o+9,none⟩=some (.int .i64 p.b.d)
 f10:w.cell? ⟨b,o+10,none⟩=some (.slice a10 p.s.length c10)
 f11:w.cell? ⟨b,o+11,none⟩=some (.slice a11 p.x.length c11)
 d10:IsD w (.slice a10 p.s.length c10) (evsD p.s)
 d11:IsD w (.slice a11 p.x.length c11) (emsD p.x)
def PpsAt (w:World) (b off:Nat) (l:List Ps):Prop:=b<w.heap.size∧ ∀i,i<l.length→ ∃a7 c7 a10 c10 a11 c11,PpAt w b (off+i*12) (psAt l i) a7 c7 a10 c10 a11 c11
theorem yct {w:World} {a:Option Addr} {cap:Nat} {l:List Ps} (h:IsD w (.slice a l.length cap) (yay l)):l= []∨ ∃b off,a=some ⟨b,off,none⟩∧PpsAt w b off l:=by
 obtain⟨a',c',e,_,_,h⟩:=IsD.parts (c:=12) (n:=l.length) h
 cases e
 rcases h with h|⟨b,off,rfl,hb,hc⟩
 ·exact .inl (List.length_eq_zero_iff.1 h)
 ·refine .inr ⟨b,off,rfl,hb,fun i hi=> ?_⟩
  obtain⟨u7,u10,u11,f0,f1,f2,f3,f4,f5,f6,f7,f8,f9,f10,f11,d7,d10,d11⟩:=ycw hc hi
  obtain⟨a7,c7,rfl⟩:=ybo (c:=1) (n:=(psAt l i).b.r.length) d7
  obtain⟨a10,c10,rfl⟩:=ybo (c:=7) (n:=(psAt l i).s.length) d10
  obtain⟨a11,c11,rfl⟩:=ybo (c:=3) (n:=(psAt l i).x.length) d11
  exact⟨a7,c7,a10,c10,a11,c11,⟨f0,f1,f2,f3,f4,f5,f6⟩,f7,f8,f9,f10,f11,d10,d11⟩
theorem IsKern.form {w:World} {x:Value} {k:Kn} (h:IsKern w x k):∃ai ci ah ch ae ce ad cd ap cp ab cb au cu ax cx,x= .agg #[.int .i64 k.m.n,.int .i64 k.m.s,.slice ai k.m.i.length ci,.slice ah k.m.h.length ch,.slice ae k.m.e.length ce,.int .i64 k.m.z,.slice ad k.d.length cd,.slice ap k.p.length cp,.slice ab k.b.length cb,.int .i64 k.t,.int .i64 k.q,.bool k.f,.slice au k.s.length cu,.slice ax k.x.length cx]∧IsM w (.agg #[.int .i64 k.m.n,.int .i64 k.m.s,.slice ai k.m.i.length ci,.slice ah k.m.h.length ch,.slice ae k.m.e.length ce,.int .i64 k.m.z]) k.m∧IsI w (.slice ad k.d.length cd) k.d∧
  (k.p= []∨ ∃b off,ap=some ⟨b,off,none⟩∧PasAt w b off k.p)∧IsMl w (.slice ab k.b.length cb) k.b∧IsEvs w (.slice au k.s.length cu) k.s∧IsX w (.slice ax k.x.length cx) k.x:=by
 obtain⟨vi,vh,vs,u6,u7,u8,u12,u13,rfl,hm,h6,h7,h8,h12,h13⟩:=h
 have hm':=hm
 obtain⟨_,_,_,e,⟨ai,ci,rfl,_⟩,⟨ah,ch,rfl,_⟩,⟨ae,ce,rfl,_⟩⟩:=hm'
 simp at e
 obtain⟨rfl,rfl,rfl⟩:=e
 have g6:=h6.isI
 have g8:=h8.isMl
 have g12:=h12.isEvs
 have g13:=h13.isX
 obtain⟨ad,cd,rfl,_⟩:=h6.isI
 obtain⟨ap,cp,rfl⟩:=ybo (c:=7) (n:=k.p.length) h7
 obtain⟨ab,cb,rfl,_⟩:=h8.isMl
 obtain⟨au,cu,rfl,_⟩:=h12.isEvs
 obtain⟨ax,cx,rfl,_⟩:=h13.isX
 exact⟨ai,ci,ah,ch,ae,ce,ad,cd,ap,cp,ab,cb,au,cu,ax,cx,rfl,hm,g6,yri h7,g8,g12,g13⟩
theorem yda {k:Kn} (h:k.wt≤1048576):k.d.length≤1048576∧k.p.length≤1048576∧k.b.length≤1048576∧k.s.length≤1048576∧k.x.length≤1048576:=by
 unfold Kn.wt at h
 simp only [yal,yb2,ycm,yci,yed]at h
 omega
theorem yd0 {k:Kn} (h:k.wt≤1048576):∀i,i<k.p.length→(paAt k.p i).wt≤1048576:=fun i hi=>by
 have h1:(paAt k.p i).wt≤(yb8 k.p).wt:=Pa.wt_le hi
 unfold Kn.wt at h
 omega
theorem ydg {p:Prop} (h:p):Hid p:=h
set_option maxHeartbeats 2000000 in
theorem yr5 (x:Value) (l:List Ev) (w:World) (hl:l.length≤1048576) (hx:IsEvs w x l):
  Calls Tryz.prog 187 #[x] w fun e w'=>Says e (yvx l)∧Below w.heap.size w w':=by
 obtain⟨a,cap,rfl,h1,h2,h⟩:=hx
 clear h1 h2
 by_cases hz:l= []
 ·subst hz
  clear h
  go_enter Tryz.func187,Tryz.ntmps187
  go_wp2
  go_loop [3] (fun i=>i= .int .i64 0) (fun _=>0)
  case atStart=>rfl
  case round=>
   subst hrel
   go_wp2
   go_ret
   exact⟨Says.yes ⟨by simp,fun i hi=>by simp at hi⟩,Below.refl _ _⟩
 ·obtain⟨b,off,rfl,hb,hc⟩:=h.resolve_left hz
  clear h hz
  have HC:=ydg hc
  clear hc
  go_enter Tryz.func187,Tryz.ntmps187
  go_wp2
  go_loopw [3,4] (fun i _ wr=>∃k:Nat,k≤l.length∧i= .int .i64 k∧Below w.heap.size w wr∧Hid (∀i,i<k→Good1 l i)) (fun i _ _=>l.length-(intOf i).toNat)
  case atStart=>exact⟨0,Nat.zero_le _,rfl,Below.refl _ _,fun i hi=>by omega⟩
  case round=>
   obtain⟨k,hk,rfl,hB,HG⟩:=hrel
   have HB:=ydg hB
   by_cases hlt:k<l.length
   ·have hbr:b<wr.heap.size:=Nat.lt_of_lt_of_le hb hB.size
    obtain⟨f0,f1,f2,f3,f4,f5,f6⟩:=((HC.out k hlt).below hB hb).beyond hbr
    have hkn:(k:Int)<(l.length:Int):=by omega
    cases hok:(evAt l k).ok
    ·have HOK:=ydg hok
     clear hok hB
     have hne:=neB wr
     go_wp2_with fail
     refine wrb ?_
     repeat(go_big_quiet_step (first|(go_at_call 136;exact Beyond.of (yem (evAt l k) false HOK.out _))))
     refine wpQuiet_nil ?_
     rintro w2 ⟨⟨_,hb2⟩,rfl⟩
     clear f0 f1 f2 f3 f4 f5 f6
     go_wp2
     go_ret
     exact⟨Says.no (yli hlt (fun h=>by rw [Good1,HOK.out]at h;cases h.1)),trm HB.out hb2⟩
    ·have HOK:=ydg hok
     clear hok
     --the test ahead of the inner loop,at place 0 and behind it
     have inner:∀w2:World,Hid (Below w.heap.size w w2)→Hid (0<k→(evAt l (k-1)).cmp (evAt l k)<0)→True:=fun _ _ _=>trivial
     clear inner
     have hne:=neB wr
     by_cases hk0:k=0
     ·have hd:decide (0<k)=false:=by simp;omega
      have HK:Hid (k=0):=hk0
      clear hk0 hB
      go_wp2_with fail
      refine wrb ?_
      repeat(go_big_quiet_step (first|(go_at_call 136;exact Beyond.of (yem (evAt l k) true HOK.out _))))
      refine wpQuiet_nil ?_
      rintro w2 ⟨⟨_,hb2⟩,rfl⟩
      clear f0 f1 f2 f3 f4 f5 f6 hne hd
      have HB2:=trh HB hb2
      clear hb2 hbr
      clear HB
      go_wp2
      go_loopw [4] (fun j wr2=>∃j0:Nat,j0≤k∧j= .int .i64 j0∧Hid (Below w.heap.size w wr2)∧Hid (∀i,i<j0→(evAt l i).g≠(evAt l k).g)) (fun j _=>k-(intOf j).toNat)
      case atStart=>exact⟨0,Nat.zero_le _,rfl,HB2,fun i hi=>by omega⟩
      case round=>
       clear HB2
       obtain⟨j0,hj,rfl,HB3,HT⟩:=hrel
       by_cases hjl:j0<k
       ·have hbr3:b<wr.heap.size:=Nat.lt_of_lt_of_le hb HB3.out.size
        have fk:=(((HC.out k hlt).below HB3.out hb).beyond hbr3).2.2.2.2.2.2
        have fj:=(((HC.out j0 (by omega)).below HB3.out hb).beyond hbr3).2.2.2.2.2.2
        have hne:=neB wr
        have hjn:(j0:Int)<(l.length:Int):=by omega
        have hjk:(j0:Int)<(k:Int):=by omega
        by_cases hg:(evAt l j0).g=(evAt l k).g
        ·have hge:((evAt l j0).g==(evAt l k).g)=true:=by simpa using hg
         have HE:=ydg hg
         clear hg
         go_wp2_with fail
         refine wrb ?_
         repeat(go_big_quiet_step (fail))
         refine wpQuiet_nil ?_
         rintro w3 ⟨⟨_,hb3⟩,rfl⟩
         clear fk fj hne
         go_wp2
         go_ret
         exact⟨Says.no (yli hlt (fun h=>h.2.2 j0 hjl HE.out)),trm HB3.out hb3⟩
        ·have hge:((evAt l j0).g==(evAt l k).g)=false:=by simpa using hg
         have HE:=ydg hg
         clear hg
         go_wp2_with fail
         refine wrb ?_
         repeat(go_big_quiet_step (fail))
         refine wpQuiet_nil ?_
         rintro w3 ⟨⟨_,hb3⟩,rfl⟩
         clear fk fj hne
         go_wp2
         go_roundw
         case rel=>exact⟨j0+1,by omega,by go_num,trm HB3.out hb3,fun i hi=>by
          by_cases e:i=j0
          ·subst e;exact HE.out
          ·exact HT.out i (by omega)⟩
         case measure=>simp [intOf];omega
       ·go_wp2
        go_roundw
        case rel=>exact⟨k+1,by omega,by go_num,HB3.out,fun i hi=>by
         by_cases e:i=k
         ·subst e;exact⟨HOK.out,fun h=>absurd h (by have:=HK.out;omega),fun j hj=>HT.out j (by omega)⟩
         ·exact HG.out i (by omega)⟩
        case measure=>simp [intOf];omega
     ·have hd:decide (0<k)=true:=by simp;omega
      have hkp:(1:Int)≤(k:Int):=by omega
      have ek:((k:Int)-1).toNat=k-1:=by omega
      obtain⟨e0,e1,e2,e3,e4,e5,e6⟩:=((HC.out (k-1) (by omega)).below hB hb).beyond hbr
      have HK:Hid (¬k=0):=hk0
      clear hk0 hB
      generalize hz:(evAt l (k-1)).cmp (evAt l k)=z
      have HZ:=ydg hz
      clear hz
      by_cases hz0:0≤z
      ·have hdz:decide ((0:Int)≤z)=true:=by simpa using hz0
       go_wp2_with fail
       refine wrb ?_
       repeat(go_big_quiet_step (first|(go_at_call 136;exact Beyond.of (yem (evAt l k) true HOK.out _))|(go_at_call 104;exact Beyond.of (ybd (evAt l (k-1)) (evAt l k) z HZ.out _))))
       refine wpQuiet_nil ?_
       rintro w2 ⟨⟨_,hb2⟩,rfl⟩
       clear f0 f1 f2 f3 f4 f5 f6 e0 e1 e2 e3 e4 e5 e6 hne hd
       go_wp2
       go_ret
       exact⟨Says.no (yli hlt (fun h=>by have h2:=h.2.1 (by have:=HK.out;omega);rw [HZ.out]at h2;omega)),trm HB.out hb2⟩
      ·have hdz:decide ((0:Int)≤z)=false:=by simpa using hz0
       go_wp2_with fail
       refine wrb ?_
       repeat(go_big_quiet_step (first|(go_at_call 136;exact Beyond.of (yem (evAt l k) true HOK.out _))|(go_at_call 104;exact Beyond.of (ybd (evAt l (k-1)) (evAt l k) z HZ.out _))))
       refine wpQuiet_nil ?_
       rintro w2 ⟨⟨_,hb2⟩,rfl⟩
       clear f0 f1 f2 f3 f4 f5 f6 e0 e1 e2 e3 e4 e5 e6 hne hd
       have HB2:=trh HB hb2
       clear hb2 hbr
       clear HB
       go_wp2
       go_loopw [4] (fun j wr2=>∃j0:Nat,j0≤k∧j= .int .i64 j0∧Hid (Below w.heap.size w wr2)∧Hid (∀i,i<j0→(evAt l i).g≠(evAt l k).g)) (fun j _=>k-(intOf j).toNat)
       case atStart=>exact⟨0,Nat.zero_le _,rfl,HB2,fun i hi=>by omega⟩
       case round=>
        clear HB2
        obtain⟨j0,hj,rfl,HB3,HT⟩:=hrel
        by_cases hjl:j0<k
        ·have hbr3:b<wr.heap.size:=Nat.lt_of_lt_of_le hb HB3.out.size
         have fk:=(((HC.out k hlt).below HB3.out hb).beyond hbr3).2.2.2.2.2.2
         have fj:=(((HC.out j0 (by omega)).below HB3.out hb).beyond hbr3).2.2.2.2.2.2
         have hne:=neB wr
         have hjn:(j0:Int)<(l.length:Int):=by omega
         have hjk:(j0:Int)<(k:Int):=by omega
         by_cases hg:(evAt l j0).g=(evAt l k).g
         ·have hge:((evAt l j0).g==(evAt l k).g)=true:=by simpa using hg
          have HE:=ydg hg
          clear hg
          go_wp2_with fail
          refine wrb ?_
          repeat(go_big_quiet_step (fail))
          refine wpQuiet_nil ?_
          rintro w3 ⟨⟨_,hb3⟩,rfl⟩
          clear fk fj hne
          go_wp2
          go_ret
          exact⟨Says.no (yli hlt (fun h=>h.2.2 j0 hjl HE.out)),trm HB3.out hb3⟩
         ·have hge:((evAt l j0).g==(evAt l k).g)=false:=by simpa using hg
          have HE:=ydg hg
          clear hg
          go_wp2_with fail
          refine wrb ?_
          repeat(go_big_quiet_step (fail))
          refine wpQuiet_nil ?_
          rintro w3 ⟨⟨_,hb3⟩,rfl⟩
          clear fk fj hne
          go_wp2
          go_roundw
          case rel=>exact⟨j0+1,by omega,by go_num,trm HB3.out hb3,fun i hi=>by
           by_cases e:i=j0
           ·subst e;exact HE.out
           ·exact HT.out i (by omega)⟩
          case measure=>simp [intOf];omega
        ·go_wp2
         go_roundw
         case rel=>exact⟨k+1,by omega,by go_num,HB3.out,fun i hi=>by
          by_cases e:i=k
          ·subst e;exact⟨HOK.out,fun _=>by rw [HZ.out];omega,fun j hj=>HT.out j (by omega)⟩
          ·exact HG.out i (by omega)⟩
         case measure=>simp [intOf];omega
   ·clear hB
    go_wp2
    go_ret
    exact⟨Says.dec ⟨fun h=>⟨by omega,fun i hi=>HG.out i (by omega)⟩,fun h=>by have:=h.1;omega⟩,HB.out⟩
end Go.Proofs.YtmobiieoecjmdaaGreat

