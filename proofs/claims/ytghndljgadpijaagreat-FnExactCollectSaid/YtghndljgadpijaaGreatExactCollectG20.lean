/- MOpS, MOpM, MOk, MOkI -/
import Derived.Test.YtghndljgadpijaaGreatExactCollectG01
import Derived.Test.YtghndljgadpijaaGreatExactCollectLMOpJ
import Derived.Test.YtghndljgadpijaaGreatExactCollectG03
import Derived.Test.YtghndljgadpijaaGreatExactCollectLOkS
import Derived.Test.YtghndljgadpijaaGreatExactCollectG11
/- The specification's OpOk. -/
namespace Go.Proofs.YtghndljgadpijaaGreat
set_option maxHeartbeats 4000000
open Go.RowKit
theorem zbh (x:Int) (w:World):Calls Tryz.prog 234 #[.int .i64 x] w fun e w'=>e= .returned (.bool (decide (0≤x)&&decide (x<2)))∧w'=w:=by
  go_enter Tryz.func234,Tryz.ntmps234
  go_wp2
  all_goals
    go_ret
    first|exact⟨yy5 (by simp_all),rfl⟩|exact⟨ye8 (by simp;omega),rfl⟩
theorem sOp_any (n s z:Int) (vi vs:Value) (ah:Option Addr) (len cap:Nat) (c a b k:Int) (w:World):
    Calls Tryz.prog 173 #[.agg #[.int .i64 n,.int .i64 s,vi,.slice ah len cap,vs,.int .i64 z],.agg #[.int .i64 c,.int .i64 a,.int .i64 b,.int .i64 k]] w fun e w'=>
      e= .returned (.bool (okO n len c a b k))∧Below w.heap.size w w':=by
  have hc:c=0∨c=1∨c=2∨c=3∨c=4∨c=5∨c=6∨(¬c=0∧ ¬c=1∧ ¬c=2∧ ¬c=3∧ ¬c=4∧ ¬c=5∧ ¬c=6):=by omega
  rcases hc with rfl|rfl|rfl|rfl|rfl|rfl|rfl|⟨c0,c1,c2,c3,c4,c5,c6⟩
  · go_enter Tryz.func173,Tryz.ntmps173
    go_wp2_with (go_at_call 234;refine(zbh _ _).mono ?_;rintro e w2 ⟨rfl,hw⟩;have hw':=hw.symm;clear hw;subst hw')
    all_goals
      go_ret
      refine⟨?_,((Below.refl _ _).alloc (Nat.le_refl _) _).alloc (by simp) _⟩
      first|exact yy5 (by simp [okO];omega)|exact ye8 (by simp [okO];omega)|exact ye8 (by simp [okO])
  · go_enter Tryz.func173,Tryz.ntmps173
    go_wp2_with (go_at_call 234;refine(zbh _ _).mono ?_;rintro e w2 ⟨rfl,hw⟩;have hw':=hw.symm;clear hw;subst hw')
    all_goals
      go_ret
      refine⟨?_,((Below.refl _ _).alloc (Nat.le_refl _) _).alloc (by simp) _⟩
      first|exact yy5 (by simp [okO];omega)|exact ye8 (by simp [okO];omega)|exact ye8 (by simp [okO])
  · go_enter Tryz.func173,Tryz.ntmps173
    go_wp2_with (go_at_call 234;refine(zbh _ _).mono ?_;rintro e w2 ⟨rfl,hw⟩;have hw':=hw.symm;clear hw;subst hw')
    all_goals
      go_ret
      refine⟨?_,((Below.refl _ _).alloc (Nat.le_refl _) _).alloc (by simp) _⟩
      first|exact yy5 (by simp [okO];omega)|exact ye8 (by simp [okO];omega)|exact ye8 (by simp [okO])
  · go_enter Tryz.func173,Tryz.ntmps173
    go_wp2_with (go_at_call 234;refine(zbh _ _).mono ?_;rintro e w2 ⟨rfl,hw⟩;have hw':=hw.symm;clear hw;subst hw')
    all_goals
      go_ret
      refine⟨?_,((Below.refl _ _).alloc (Nat.le_refl _) _).alloc (by simp) _⟩
      first|exact yy5 (by simp [okO];omega)|exact ye8 (by simp [okO];omega)|exact ye8 (by simp [okO])
  · go_enter Tryz.func173,Tryz.ntmps173
    go_wp2_with (go_at_call 234;refine(zbh _ _).mono ?_;rintro e w2 ⟨rfl,hw⟩;have hw':=hw.symm;clear hw;subst hw')
    all_goals
      go_ret
      refine⟨?_,((Below.refl _ _).alloc (Nat.le_refl _) _).alloc (by simp) _⟩
      first|exact yy5 (by simp [okO];omega)|exact ye8 (by simp [okO];omega)|exact ye8 (by simp [okO])
  · go_enter Tryz.func173,Tryz.ntmps173
    go_wp2_with (go_at_call 234;refine(zbh _ _).mono ?_;rintro e w2 ⟨rfl,hw⟩;have hw':=hw.symm;clear hw;subst hw')
    all_goals
      go_ret
      refine⟨?_,((Below.refl _ _).alloc (Nat.le_refl _) _).alloc (by simp) _⟩
      first|exact yy5 (by simp [okO];omega)|exact ye8 (by simp [okO];omega)|exact ye8 (by simp [okO])
  · go_enter Tryz.func173,Tryz.ntmps173
    go_wp2_with (go_at_call 234;refine(zbh _ _).mono ?_;rintro e w2 ⟨rfl,hw⟩;have hw':=hw.symm;clear hw;subst hw')
    all_goals
      go_ret
      refine⟨?_,((Below.refl _ _).alloc (Nat.le_refl _) _).alloc (by simp) _⟩
      first|exact yy5 (by simp [okO];omega)|exact ye8 (by simp [okO];omega)|exact ye8 (by simp [okO])
  · go_enter Tryz.func173,Tryz.ntmps173
    go_wp2_with (go_at_call 234;refine(zbh _ _).mono ?_;rintro e w2 ⟨rfl,hw⟩;have hw':=hw.symm;clear hw;subst hw')
    all_goals
      go_ret
      refine⟨?_,((Below.refl _ _).alloc (Nat.le_refl _) _).alloc (by simp) _⟩
      first|exact yy5 (by simp [okO];omega)|exact ye8 (by simp [okO];omega)|exact ye8 (by simp [okO])
end Go.Proofs.YtghndljgadpijaaGreat

/- Both OpOk, of a model that is read. -/
namespace Go.Proofs.YtghndljgadpijaaGreat
open Go.RowKit
theorem sOpM (x:Value) (m:Md) (c a b k:Int) (w:World) (h:IsM w x m):
    Calls Tryz.prog 173 #[x,.agg #[.int .i64 c,.int .i64 a,.int .i64 b,.int .i64 k]] w fun e w'=>e= .returned (.bool (okO m.n m.h.length c a b k))∧Below w.heap.size w w':=by
  obtain⟨vi,vh,vs,rfl,_,⟨ah,cap,rfl,_⟩,_⟩:=h
  exact sOp_any _ _ _ _ _ _ _ _ _ _ _ _ _
theorem iOpM (x:Value) (m:Md) (c a b k:Int) (w:World) (h:IsM w x m):
    Calls Tryz.prog 289 #[x,.agg #[.int .i64 c,.int .i64 a,.int .i64 b,.int .i64 k]] w fun e w'=>e= .returned (.bool (okO m.n m.h.length c a b k))∧Below w.heap.size w w':=by
  obtain⟨vi,vh,vs,rfl,_,⟨ah,cap,rfl,_⟩,_⟩:=h
  exact iOp_any _ _ _ _ _ _ _ _ _ _ _ _ _
def Md.hd (m:Md):Prop:=1≤m.n∧m.n≤4∧0≤m.s∧m.s≤65535∧(m.i.length:Int)=m.n∧1≤m.h.length∧m.h.length≤4∧m.e.length≤6∧0≤m.z∧m.z≤950
instance (m : Md) : Decidable m.hd := by unfold Md.hd; infer_instance
def Md.okI (m:Md):Bool:=(List.range m.i.length).all fun j=>inB (intAt m.i j)
def rowB (m:Md) (r:List O):Bool:=decide (r.length≤8)&&(List.range r.length).all fun q=>(oAt r q).ok m.n m.h.length
def Md.okH (m:Md):Bool:=(List.range m.h.length).all fun j=>rowB m (hAt m.h j)
def stB (m:Md) (j:Nat) (e:Ev):Bool:=e.ok&&decide (e.s= -1∧e.q=(j:Int)∧e.g=(j:Int)∧e.d<m.n∧e.k<(m.h.length:Int)∧e.t≤m.z)
def Md.okE (m:Md):Bool:=(List.range m.e.length).all fun j=>stB m j (evAt m.e j)
def Md.ok (m:Md):Bool:=decide m.hd&&m.okI&&m.okH&&m.okE
theorem yz0 {n:Nat} {f:Nat→Bool} {k:Nat} (hk:k<n) (h:f k=false):(List.range n).all f=false:=by
  rw [List.all_eq_false];exact⟨k,by simpa using hk,by simp [h]⟩
theorem yzq {n:Nat} {f:Nat→Bool} (h:∀k,k<n→f k=true):(List.range n).all f=true:=by
  rw [List.all_eq_true];intro k hk;exact h k (by simpa using hk)
theorem zf6 {m:Md} (h:¬m.hd):m.ok=false:=by simp [Md.ok,h]
theorem ok_i {m:Md} (h:m.okI=false):m.ok=false:=by simp [Md.ok,h]
theorem ok_h {m:Md} (h:m.okH=false):m.ok=false:=by simp [Md.ok,h]
theorem ok_e {m:Md} (h:m.okE=false):m.ok=false:=by simp [Md.ok,h]
theorem ok_yes {m:Md} (h:m.hd) (hi:m.okI=true) (hh:m.okH=true) (he:m.okE=true):m.ok=true:=by simp [Md.ok,h,hi,hh,he]
set_option maxHeartbeats 4000000
set_option maxRecDepth 100000
open Go.RowKit
theorem yyx {p:Prop} (h:p):Hid p:=h
theorem zmd (x:Value) (m:Md) (w:World) (hs:SmallM m) (h:IsM w x m):
    Calls Tryz.prog 191 #[x] w fun e w'=>e= .returned (.bool (decide ((m.i.length:Int)=m.n)&&m.okI))∧Below w.heap.size w w':=by
  have HX:Hid (IsM w x m):=h
  obtain⟨vi,vh,vs,rfl,⟨ai,ci,rfl,hi1,hi2,hi3⟩,⟨ah,ch,rfl,hh1,hh2,hh3⟩,⟨ae,ce,rfl,he1,he2,he3⟩⟩:=h
  have hi0:m.i.length≤1048576:=hs.i
  have hh0:m.h.length≤1048576:=hs.h
  have he0:m.e.length≤1048576:=hs.e
  have HS:Hid (SmallM m):=hs
  clear hs hi1 hi2 hh1 hh2 he1 he2
  clear hh3 he3 HX HS
  obtain⟨W0,hW0⟩:∃W0,w.alloc (.cells #[.int .i64 m.n,.int .i64 m.s,.slice ai m.i.length ci,.slice ah m.h.length ch,.slice ae m.e.length ce,.int .i64 m.z] 36)=W0:=⟨_,rfl⟩
  have HB0:=hdq (beA hW0)
  have HP0:=hdq (bkA hW0)
  have p0:=HP0.out.cell (i:=0) rfl
  have p2:=HP0.out.cell (i:=2) rfl
  by_cases c0:(m.i.length:Int)=m.n
  case neg=>
    clear hi3
    go_enter Tryz.func191,Tryz.ntmps191
    go_wp2
    go_ret
    exact⟨ye8 (by simp [c0]),HB0.out⟩
  have HI:Hid (m.i= []∨ ∃b off,ai=some ⟨b,off,none⟩∧IntsAt W0 b off m.i):=hi3.imp id (fun⟨b,off,e,h⟩=>⟨b,off,e,h.below HB0.out h.1⟩)
  have HOK:Hid (∀b,m.okI=b→(decide ((m.i.length:Int)=m.n)&&m.okI)=b):=fun b e=>by rw [e,c0];simp
  generalize (decide ((m.i.length:Int)=m.n)&&m.okI)=okv at HOK⊢
  clear hi3
  go_enter Tryz.func191,Tryz.ntmps191
  go_wp2
  clear hW0
  have hn0:m.n≤1048576:=by omega
  have hn1:0≤m.n:=by omega
  go_loop [14] (fun i=>∃k:Nat,k≤m.i.length∧i= .int .i64 k∧ ∀j,j<k→inB (intAt m.i j)=true) (fun i=>m.i.length-(intOf i).toNat)
  case atStart=>exact⟨0,Nat.zero_le _,rfl,fun j hj=>by omega⟩
  case round=>
    obtain⟨k,hk,rfl,hall⟩:=hrel
    have HA:=yyx hall
    clear hall
    by_cases hlt:k<m.i.length
    · obtain⟨b,off,rfl,hb,hc⟩:=HI.out.resolve_left (by intro e;rw [e]at hlt;simp at hlt)
      have f0:=hc k hlt
      obtain⟨y,hy⟩:∃y,y=intAt m.i k:=⟨_,rfl⟩
      have HY:Hid (y=intAt m.i k):=hy
      rw [←hy]at f0
      have hkn:(k:Int)<m.n:=by omega
      clear hc hy hb
      go_wp2_with fail
      refine(yw5 _ _ _ _).mono ?_
      rintro e w2 ⟨rfl,hw⟩
      have hw':=hw.symm
      clear hw
      subst hw'
      by_cases y0:0≤y∧y≤999
      · rw [show(decide (0≤y)&&decide (y≤999))=true from by simp [y0]]
        have HN:Hid (inB y=true):=decide_eq_true y0
        clear y0
        go_wp2
        go_round
        case rel=>exact⟨k+1,by omega,by go_num,fun j hj=>by
          by_cases e:j<k
          · exact HA.out j e
          · rw [show j=k by omega,←HY.out];exact HN.out⟩
        case measure=>simp [intOf];omega
      · rw [show(decide (0≤y)&&decide (y≤999))=false from by simp;omega]
        have hno:okv=false:=HOK.out _ (yz0 hlt (by rw [←HY.out];exact decide_eq_false y0))
        subst hno
        clear y0
        go_wp2
        go_ret
        exact⟨rfl,HB0.out⟩
    · have hyes:okv=true:=HOK.out _ (yzq (fun j hj=>HA.out j (by omega)))
      subst hyes
      have hkn:¬(k:Int)<m.n:=by omega
      go_wp2
      go_ret
      exact⟨rfl,HB0.out⟩
def zhg (m:Md) (r:List O):Bool:=(List.range r.length).all fun q=>(oAt r q).ok m.n m.h.length
theorem zo4 (x u:Value) (m:Md) (r:List O) (w:World) (hs:SmallM m) (hr:r.length≤1048576) (h:IsM w x m) (hu:IsO w u r):
    Calls Tryz.prog 246 #[x,u] w fun e w'=>e= .returned (.bool (zhg m r))∧Below w.heap.size w w':=by
  have HX:Hid (IsM w x m):=h
  obtain⟨vi,vh,vs,rfl,⟨ai,ci,rfl,hi1,hi2,hi3⟩,⟨ah,ch,rfl,hh1,hh2,hh3⟩,⟨ae,ce,rfl,he1,he2,he3⟩⟩:=h
  have hi0:m.i.length≤1048576:=hs.i
  have hh0:m.h.length≤1048576:=hs.h
  have he0:m.e.length≤1048576:=hs.e
  have HS:Hid (SmallM m):=hs
  clear hs hi1 hi2 hh1 hh2 he1 he2
  clear hi3 hh3 he3 HS hi0 hh0 he0
  obtain⟨a1,c1,rfl,_,_,hu⟩:=hu
  have HU:=yyx hu
  have HOK:Hid (∀b,((List.range r.length).all fun q=>(oAt r q).ok m.n m.h.length)=b→zhg m r=b):=fun b e=>e
  generalize zhg m r=okv at HOK⊢
  clear hu
  go_enter Tryz.func246,Tryz.ntmps246
  go_wp2
  go_loopw [9] (fun i wr=>∃k:Nat,k≤r.length∧i= .int .i64 k∧(∀j,j<k→(oAt r j).ok m.n m.h.length=true)∧Below w.heap.size w wr∧Bk wr w.heap.size 36 #[.int .i64 m.n,.int .i64 m.s,.slice ai m.i.length ci,.slice ah m.h.length ch,.slice ae m.e.length ce,.int .i64 m.z]) (fun i _=>r.length-(intOf i).toNat)
  case atStart=>exact⟨0,Nat.zero_le _,rfl,fun j hj=>by omega,(Below.refl _ w).alloc (Nat.le_refl _) _,Bk.new w _ _⟩
  case round=>
    obtain⟨k,hk,rfl,hall,hB,hP⟩:=hrel
    have HA:=yyx hall
    have HB0:=yyx hB
    have HP0:=yyx hP
    clear hall hP
    by_cases hlt:k<r.length
    · obtain⟨b,off,rfl,hb,hc⟩:=HU.out.resolve_left (by intro e;rw [e]at hlt;simp at hlt)
      obtain⟨f0,f1,f2,f3⟩:=(hc k hlt).below hB hb
      clear hB hc
      generalize hev:oAt r k=e at f0 f1 f2 f3
      have HEV:Hid (oAt r k=e):=hev
      obtain⟨c,a,b2,k2⟩:=e
      clear hev
      obtain⟨V,hV⟩:∃V,wr.alloc (.cells #[.int .i64 c,.int .i64 a,.int .i64 b2,.int .i64 k2] 244)=V:=⟨_,rfl⟩
      have hbV:=beA hV
      have HBV:=trh HB0 hbV
      have HPV:=yyx (HP0.out.below hbV)
      have hQV:=bkA hV
      obtain⟨p0,p1,p2,p3,p4,p5⟩:=c6_6 HPV.out
      obtain⟨e0,e1,e2,e3⟩:=c4_4 hQV
      clear hbV hQV HB0 HP0
      go_wp2_with fail
      clear f0 f1 f2 f3 e0 e1 e2 e3 p0 p1 p2 p3 p4 p5 hV
      refine(iOpM _ m _ _ _ _ _ (HX.out.below HBV.out)).mono ?_
      rintro e w2 ⟨rfl,hb2⟩
      have HB2:=trh HBV hb2
      have HP2:=yyx (HPV.out.below hb2)
      clear hb2 HBV HPV
      cases hv:okO m.n (m.h.length:Int) c a b2 k2
      · have hno:okv=false:=HOK.out _ (yz0 hlt (by rw [HEV.out];exact hv))
        subst hno
        clear hv
        go_wp2
        go_ret
        exact⟨rfl,HB2.out⟩
      · have HV:=yyx hv
        clear hv
        go_wp2
        go_roundw
        case rel=>exact⟨k+1,by omega,by go_num,fun j hj=>by
          by_cases e:j<k
          · exact HA.out j e
          · rw [show j=k by omega,HEV.out];exact HV.out,HB2.out,HP2.out⟩
        case measure=>simp [intOf];omega
    · have hyes:okv=true:=HOK.out _ (yzq (fun j hj=>HA.out j (by omega)))
      subst hyes
      clear hB
      go_wp2
      go_ret
      exact⟨rfl,HB0.out⟩
theorem zf9 (x:Value) (m:Md) (w:World) (hs:SmallM m) (h:IsM w x m):
    Calls Tryz.prog 192 #[x] w fun e w'=>e= .returned (.bool (decide (1≤m.h.length∧m.h.length≤4)&&m.okH))∧Below w.heap.size w w':=by
  have HX:Hid (IsM w x m):=h
  obtain⟨vi,vh,vs,rfl,⟨ai,ci,rfl,hi1,hi2,hi3⟩,⟨ah,ch,rfl,hh1,hh2,hh3⟩,⟨ae,ce,rfl,he1,he2,he3⟩⟩:=h
  have hi0:m.i.length≤1048576:=hs.i
  have hh0:m.h.length≤1048576:=hs.h
  have he0:m.e.length≤1048576:=hs.e
  have HS:Hid (SmallM m):=hs
  clear hs hi1 hi2 hh1 hh2 he1 he2
  clear hi3 he3
  have HH:=yyx hh3
  clear hh3
  obtain⟨W0,hW0⟩:∃W0,w.alloc (.cells #[.int .i64 m.n,.int .i64 m.s,.slice ai m.i.length ci,.slice ah m.h.length ch,.slice ae m.e.length ce,.int .i64 m.z] 36)=W0:=⟨_,rfl⟩
  have HB0:=hdq (beA hW0)
  have HP0:=hdq (bkA hW0)
  obtain⟨p0,p1,p2,p3,p4,p5⟩:=c6_6 HP0.out
  by_cases c0:1≤m.h.length∧m.h.length≤4
  case neg=>
    have d0:(decide ((1:Int)≤(m.h.length:Int))&&decide ((m.h.length:Int)≤4))=false:=by simp;omega
    have HC:=yyx c0
    clear c0
    go_enter Tryz.func192,Tryz.ntmps192
    go_wp2_with fail
    refine(yw5 _ _ _ _).mono ?_
    rintro e w2 ⟨rfl,hw⟩
    have hw':=hw.symm
    clear hw
    subst hw'
    rw [d0]
    clear d0
    go_wp2
    go_ret
    exact⟨ye8 (by rw [decide_eq_false HC.out];rfl),HB0.out⟩
  have d0:(decide ((1:Int)≤(m.h.length:Int))&&decide ((m.h.length:Int)≤4))=true:=by simp;omega
  have HOK:Hid (∀b,m.okH=b→(decide (1≤m.h.length∧m.h.length≤4)&&m.okH)=b):=fun b e=>by rw [e,decide_eq_true c0];simp
  generalize (decide (1≤m.h.length∧m.h.length≤4)&&m.okH)=okv at HOK⊢
  clear c0
  go_enter Tryz.func192,Tryz.ntmps192
  go_wp2_with fail
  refine(yw5 _ _ _ _).mono ?_
  rintro e w2 ⟨rfl,hw⟩
  have hw':=hw.symm
  clear hw
  subst hw'
  rw [d0]
  clear d0
  go_wp2
  clear hW0 p0 p1 p2 p3 p4 p5
  go_loopw [13] (fun i wr=>∃k:Nat,k≤m.h.length∧i= .int .i64 k∧(∀j,j<k→rowB m (hAt m.h j)=true)∧Below w.heap.size w wr∧Bk wr w.heap.size 36 #[.int .i64 m.n,.int .i64 m.s,.slice ai m.i.length ci,.slice ah m.h.length ch,.slice ae m.e.length ce,.int .i64 m.z]) (fun i _=>m.h.length-(intOf i).toNat)
  case atStart=>exact⟨0,Nat.zero_le _,rfl,fun j hj=>by omega,HB0.out,HP0.out⟩
  case round=>
    clear HB0 HP0
    obtain⟨k,hk,rfl,hall,hB,hP⟩:=hrel
    have HA:=yyx hall
    have HB0:=yyx hB
    have HP0:=yyx hP
    clear hall hP
    obtain⟨p0,p1,p2,p3,p4,p5⟩:=c6_6 HP0.out
    by_cases hlt:k<m.h.length
    · obtain⟨b,off,rfl,hb,hc⟩:=HH.out.resolve_left (by intro e;rw [e]at hlt;simp at hlt)
      obtain⟨u,f0,hu⟩:=hc k hlt
      replace f0:=(hB.cell (p:=⟨b,off+k,none⟩) hb).trans f0
      have HL:=yyx (HS.out.r k)
      have HU:=yyx hu
      obtain⟨a1,c1,rfl,_,_,_⟩:=hu
      clear hB hc
      by_cases h8:8<((hAt m.h k).length:Int)
      · have hno:okv=false:=HOK.out _ (yz0 hlt (by simp [rowB];omega))
        subst hno
        go_wp2
        go_ret
        exact⟨rfl,HB0.out⟩
      · have HROW:Hid (∀b,zhg m (hAt m.h k)=b→rowB m (hAt m.h k)=b):=fun b e=>by
          have:decide ((hAt m.h k).length≤8)=true:=by simp;omega
          unfold rowB
          rw [this,Bool.true_and]
          exact e
        go_wp2_with fail
        refine(zo4 _ _ m (hAt m.h k) _ HS.out HL.out (HX.out.below HB0.out) (HU.out.below HB0.out)).mono ?_
        rintro e w2 ⟨rfl,hb2⟩
        have HB2:=trh HB0 hb2
        have HP2:=yyx (HP0.out.below hb2)
        clear hb2 HB0 HP0 f0 p0 p1 p2 p3 p4 p5
        cases hv:zhg m (hAt m.h k)
        · have hno:okv=false:=HOK.out _ (yz0 hlt (HROW.out _ hv))
          subst hno
          clear hv
          go_wp2
          go_ret
          exact⟨rfl,HB2.out⟩
        · have HV:=yyx (HROW.out _ hv)
          clear hv
          go_wp2
          go_roundw
          case rel=>exact⟨k+1,by omega,by go_num,fun j hj=>by
            by_cases e:j<k
            · exact HA.out j e
            · rw [show j=k by omega];exact HV.out,HB2.out,HP2.out⟩
          case measure=>simp [intOf];omega
    · have hyes:okv=true:=HOK.out _ (yzq (fun j hj=>HA.out j (by omega)))
      subst hyes
      clear hB
      go_wp2
      go_ret
      exact⟨rfl,HB0.out⟩
end Go.Proofs.YtghndljgadpijaaGreat

