/- The specification's l4emits, l4past, l4sent. -/
import Derived.Test.YtmobiieoecjmdaaGreatExactAnswersG11
namespace Go.Proofs.YtmobiieoecjmdaaGreat
set_option maxHeartbeats 4000000
open Go.RowKit
theorem yhr {p:Prop} (h:p):Hid p:=h
theorem sEmits (x:Value) (l:List Em) (w:World) (hl:l.length≤1048576) (h:IsX w x l):
  Calls Tryz.prog 190 #[x] w fun e w'=>e= .returned (.bool (emsB l))∧Below w.heap.size w w':=by
 obtain⟨a,cap,rfl,h1,h2,h⟩:=h
 clear h1 h2
 go_enter Tryz.func190,Tryz.ntmps190
 go_wp2
 go_loop [3] (fun i=>∃k:Nat,k≤l.length∧i= .int .i64 k∧Hid (∀j,j<k→(xAt l j).okB=true)) (fun i=>l.length-(intOf i).toNat)
 case atStart=>exact⟨0,Nat.zero_le _,rfl,fun j hj=>by omega⟩
 case round=>
  obtain⟨k,hk,rfl,HA⟩:=hrel
  by_cases hlt:k<l.length
  ·obtain⟨b,off,rfl,hb,hc⟩:=h.resolve_left (by intro e;subst e;simp at hlt)
   obtain⟨f0,f1,f2⟩:=hc k hlt
   clear hc h
   have HNO:Hid ((xAt l k).okB=false→emsB l=false):=fun h=>by unfold emsB;rw [yqk hlt h,Bool.and_false]
   have HDEF:Hid ((xAt l k).okB=decide (0≤(xAt l k).t∧(xAt l k).t≤1000∧0≤(xAt l k).l∧(xAt l k).l≤3∧0≤(xAt l k).v∧(xAt l k).v≤999)):=rfl
   generalize (xAt l k).t=et at f0 HDEF
   generalize (xAt l k).l=el at f1 HDEF
   generalize (xAt l k).v=ev at f2 HDEF
   by_cases c0:et<0
   ·have HN:Hid (emsB l=false):=HNO.out (by rw [HDEF.out];exact decide_eq_false (by omega))
    go_wp2
    go_ret
    exact⟨ya0 HN.out.symm,Below.refl _ _⟩
   by_cases c1:(1000:Int)<et
   ·have HN:Hid (emsB l=false):=HNO.out (by rw [HDEF.out];exact decide_eq_false (by omega))
    go_wp2
    go_ret
    exact⟨ya0 HN.out.symm,Below.refl _ _⟩
   by_cases c2:el<0
   ·have HN:Hid (emsB l=false):=HNO.out (by rw [HDEF.out];exact decide_eq_false (by omega))
    go_wp2
    go_ret
    exact⟨ya0 HN.out.symm,Below.refl _ _⟩
   by_cases c3:(4:Int)≤el
   ·have HN:Hid (emsB l=false):=HNO.out (by rw [HDEF.out];exact decide_eq_false (by omega))
    go_wp2
    go_ret
    exact⟨ya0 HN.out.symm,Below.refl _ _⟩
   by_cases c4:ev<0
   ·have HN:Hid (emsB l=false):=HNO.out (by rw [HDEF.out];exact decide_eq_false (by omega))
    go_wp2
    go_ret
    exact⟨ya0 HN.out.symm,Below.refl _ _⟩
   by_cases c5:(1000:Int)≤ev
   ·have HN:Hid (emsB l=false):=HNO.out (by rw [HDEF.out];exact decide_eq_false (by omega))
    go_wp2
    go_ret
    exact⟨ya0 HN.out.symm,Below.refl _ _⟩
   have HY:Hid ((xAt l k).okB=true):=by rw [HDEF.out];exact decide_eq_true (by omega)
   go_wp2
   go_round
   case rel=>exact⟨k+1,by omega,by go_num,fun j hj=>by
    by_cases e:j=k
    ·subst e;exact HY.out
    ·exact HA.out j (by omega)⟩
   case measure=>simp [intOf];omega
  ·have he:k=l.length:=by omega
   have HYES:Hid (emsB l=decide (l.length≤8)):=by
    show emsB l=_
    unfold emsB
    rw [ym7 (fun j hj=>HA.out j (by omega)),Bool.and_true]
   clear h he
   go_wp2
   go_ret
   exact⟨ya0 (by rw [HYES.out,decide_eq_decide];omega),Below.refl _ _⟩
theorem sPast (a:Option Addr) (n cap:Nat) (l:List Ps) (tag:Int) (w:World) (hl:n≤1048576) (h:n=0∨ ∃b off,a=some ⟨b,off,none⟩∧ ∀j,j<n→w.cell? ⟨b,off+j*12+6,none⟩=some (.int .i64 (psAt l j).e.g)):
  Calls Tryz.prog 189 #[.slice a n cap,.int .i64 tag] w fun e w'=>e= .returned (.bool (hasB l n tag))∧Below w.heap.size w w':=by
 go_enter Tryz.func189,Tryz.ntmps189
 go_wp2
 go_loop [5] (fun i=>∃k:Nat,k≤n∧i= .int .i64 k∧Hid (∀j,j<k→(psAt l j).e.g≠tag)) (fun i=>n-(intOf i).toNat)
 case atStart=>exact⟨0,Nat.zero_le _,rfl,fun j hj=>by omega⟩
 case round=>
  obtain⟨k,hk,rfl,HA⟩:=hrel
  by_cases hlt:k<n
  ·obtain⟨b,off,rfl,hc⟩:=h.resolve_left (by omega)
   have f6:=hc k hlt
   clear hc h
   by_cases hg:(psAt l k).e.g=tag
   ·have HYES:Hid (hasB l n tag=true):=any_yes hlt (by simpa using hg)
    rw [hg]at f6
    clear hg
    go_wp2
    go_ret
    exact⟨ya0 HYES.out.symm,Below.refl _ _⟩
   ·have HN:=yhr hg
    go_wp2
    go_round
    case rel=>exact⟨k+1,by omega,by go_num,fun j hj=>by
     by_cases e:j=k
     ·subst e;exact HN.out
     ·exact HA.out j (by omega)⟩
    case measure=>simp [intOf];omega
  ·have HNO:Hid (hasB l n tag=false):=hasB_no.2 (fun j hj=>HA.out j (by omega))
   clear h
   go_wp2
   go_ret
   exact⟨ya0 HNO.out.symm,Below.refl _ _⟩
theorem sSent (n q d:Int) (v1 v4 v5 v6 ua ub uc:Value) (p:Ps) (w:World) (hl:p.s.length≤1048576) (h:IsD w ub (evsD p.s)):
  Calls Tryz.prog 188 #[.agg #[.int .i64 n,v1,.int .i64 q,.int .i64 d,v4,v5,v6],.agg #[.int .i64 p.e.t,.int .i64 p.e.s,.int .i64 p.e.q,.int .i64 p.e.d,.int .i64 p.e.k,.int .i64 p.e.v,.int .i64 p.e.g,ua,.int .i64 p.b.q,.int .i64 p.b.d,ub,uc]] w fun e w'=>e= .returned (.bool (ydc n p))∧Below w.heap.size w w':=by
 obtain⟨a,cap,rfl,h1,h2,h⟩:=h.isEvs
 clear h1 h2
 obtain⟨W0,hW0⟩:∃W0,(w.alloc (.cells #[.int .i64 n,v1,.int .i64 q,.int .i64 d,v4,v5,v6] 97)).alloc (.cells #[.int .i64 p.e.t,.int .i64 p.e.s,.int .i64 p.e.q,.int .i64 p.e.d,.int .i64 p.e.k,.int .i64 p.e.v,.int .i64 p.e.g,ua,.int .i64 p.b.q,.int .i64 p.b.d,.slice a p.s.length cap,uc] 115)=W0:=⟨_,rfl⟩
 have HB0:=hdq (beA2 hW0)
 have HP0:=hdq (bkA2 hW0)
 have HQ0:=hdq (bkB2 hW0)
 have hs0:w.heap.size+2≤W0.heap.size:=by rw [←hW0];simp
 have HW:=yhr hW0
 clear hW0
 go_enter Tryz.func188,Tryz.ntmps188
 go_wp2
 rw [HW.out]
 clear HW
 go_loopw [5] (fun i wr=>∃k:Nat,k≤p.s.length∧i= .int .i64 k∧Hid (∀j,j<k→ymm n p.e.t (evAt p.s j)=true)∧Below W0.heap.size W0 wr) (fun i _=>p.s.length-(intOf i).toNat)
 case atStart=>exact⟨0,Nat.zero_le _,rfl,fun j hj=>by omega,Below.refl _ _⟩
 case round=>
  obtain⟨k,hk,rfl,HA,hB⟩:=hrel
  have HB:=yhr (HB0.out.trans (hB.mono (by omega)))
  have HBr:=yhr hB
  have hsr:W0.heap.size≤wr.heap.size:=hB.size
  have HPr:=yhr (HP0.out.below hB)
  have HQr:=yhr (HQ0.out.below hB)
  have s10:=HQr.out.cell (i:=10) rfl
  clear hB
  by_cases hlt:k<p.s.length
  ·obtain⟨b,off,rfl,hI⟩:=h.resolve_left (by intro e;rw [e]at hlt;simp at hlt)
   have hE:=(hI.below HB.out hI.1).2 k hlt
   obtain⟨e0,e1,e2,e3,e4,e5,e6⟩:=hE
   obtain⟨W1,hW1⟩:∃W1,wr.alloc (.cells #[.int .i64 (evAt p.s k).t,.int .i64 (evAt p.s k).s,.int .i64 (evAt p.s k).q,.int .i64 (evAt p.s k).d,.int .i64 (evAt p.s k).k,.int .i64 (evAt p.s k).v,.int .i64 (evAt p.s k).g] 110)=W1:=⟨_,rfl⟩
   have HB1:=hdq (beA hW1)
   have HE1:=hdq (bkA hW1)
   have HNO:Hid (ymm n p.e.t (evAt p.s k)=false→ydc n p=false):=fun h=>by unfold ydc;rw [yqk hlt h,Bool.and_false]
   have HDEF:Hid (ymm n p.e.t (evAt p.s k)=((evAt p.s k).ok&&(decide ((evAt p.s k).s=n)&&decide (p.e.t<(evAt p.s k).t)))):=rfl
   obtain⟨x0,x1,x2,x3,x4,x5,x6⟩:=c7_7 HE1.out
   clear hI h
   have HOK:Hid (∀W,Calls Tryz.prog 136 #[.agg #[.int .i64 (evAt p.s k).t,.int .i64 (evAt p.s k).s,.int .i64 (evAt p.s k).q,.int .i64 (evAt p.s k).d,.int .i64 (evAt p.s k).k,.int .i64 (evAt p.s k).v,.int .i64 (evAt p.s k).g]] W fun r w'=>r= .returned (.bool (evAt p.s k).ok)∧Below W.heap.size W w'):=fun W=>yem (evAt p.s k) _ rfl W
   go_wp2_with fail
   refine(HOK.out _).mono ?_
   rintro r w2 ⟨rfl,hb2⟩
   have HB2:=yhr hb2
   have HB2r:=yhr (HBr.out.trans ((trm HB1.out hb2).mono hsr))
   have HBw:=yhr (HB0.out.trans (HB2r.out.mono (by omega)))
   have y0:=(HE1.out.below hb2).cell (i:=0) rfl
   have y1:=(HE1.out.below hb2).cell (i:=1) rfl
   have p0:=(HP0.out.below HB2r.out).cell (i:=0) rfl
   have q0:=(HQ0.out.below HB2r.out).cell (i:=0) rfl
   clear hb2 hW1 HOK x0 x1 x2 x3 x4 x5 x6 e0 e1 e2 e3 e4 e5 e6 s10
   cases hok:(evAt p.s k).ok
   ·have HN:Hid (ydc n p=false):=HNO.out (by rw [HDEF.out,hok];rfl)
    clear hok
    go_wp2
    go_ret
    exact⟨ya0 HN.out.symm,HBw.out⟩
   ·by_cases c1:(evAt p.s k).s=n
    ·by_cases c2:(evAt p.s k).t≤p.e.t
     ·have HN:Hid (ydc n p=false):=HNO.out (by rw [HDEF.out,hok];simp;intro;omega)
      clear hok
      go_wp2
      go_ret
      exact⟨ya0 HN.out.symm,HBw.out⟩
     ·have HY:Hid (ymm n p.e.t (evAt p.s k)=true):=by rw [HDEF.out,hok,decide_eq_true c1,decide_eq_true (show p.e.t<(evAt p.s k).t by omega)];rfl
      clear hok
      rw [c1]at y1
      go_wp2
      go_roundw
      case rel=>exact⟨k+1,by omega,by go_num,fun j hj=>by
       by_cases e:j=k
       ·subst e;exact HY.out
       ·exact HA.out j (by omega),HB2r.out⟩
      case measure=>simp [intOf];omega
    ·have HN:Hid (ydc n p=false):=HNO.out (by rw [HDEF.out,hok];simp [c1])
     clear hok
     go_wp2
     go_ret
     exact⟨ya0 HN.out.symm,HBw.out⟩
  ·have HYES:Hid (ydc n p=decide (p.s.length≤8)):=by
    show ydc n p=_
    unfold ydc
    rw [ym7 (fun j hj=>HA.out j (by omega)),Bool.and_true]
   clear h
   go_wp2
   go_ret
   exact⟨ya0 (by rw [HYES.out,decide_eq_decide];omega),HB.out⟩
end Go.Proofs.YtmobiieoecjmdaaGreat
