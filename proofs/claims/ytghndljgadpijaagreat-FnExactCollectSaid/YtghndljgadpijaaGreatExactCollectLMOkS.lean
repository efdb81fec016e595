/- The specification's ModelOk. -/
import Derived.Test.YtghndljgadpijaaGreatExactCollectG01
import Derived.Test.YtghndljgadpijaaGreatExactCollectG20
namespace Go.Proofs.YtghndljgadpijaaGreat
open Go.RowKit
theorem yy1 {p:Prop} (h:p):Hid p:=h
set_option maxRecDepth 100000 in
set_option maxHeartbeats 16000000 in
theorem sModM (x:Value) (m:Md) (w:World) (hs:SmallM m) (h:IsM w x m):
    Calls Tryz.prog 99 #[x] w fun e w'=>e= .returned (.bool m.ok)∧Below w.heap.size w w':=by
  have HX:Hid (IsM w x m):=h
  have HS:Hid (SmallM m):=hs
  obtain⟨vi,vh,vs,rfl,⟨ai,ci,rfl,hi1,hi2,hi3⟩,⟨ah,ch,rfl,hh1,hh2,hh3⟩,⟨ae,ce,rfl,he1,he2,he3⟩⟩:=h
  have hi0:m.i.length≤1048576:=hs.i
  have hh0:m.h.length≤1048576:=hs.h
  have he0:m.e.length≤1048576:=hs.e
  clear hs hi1 hi2 hh1 hh2 he1 he2
  obtain⟨W0,hW0⟩:∃W0,w.alloc (.cells #[.int .i64 m.n,.int .i64 m.s,.slice ai m.i.length ci,.slice ah m.h.length ch,.slice ae m.e.length ce,.int .i64 m.z] 36)=W0:=⟨_,rfl⟩
  have HB0:=hdq (beA hW0)
  have HP0:=hdq (bkA hW0)
  generalize hok:m.ok=okv
  have HOK:Hid (m.ok=okv):=hok
  clear hok
  by_cases c0:m.n<1
  case pos=>
    have hno:okv=false:=by rw [←HOK.out];exact zf6 (fun hd=>by unfold Md.hd at hd;omega)
    subst hno
    clear hi3 hh3 he3
    obtain⟨p0,p1,p2,p3,p4,p5⟩:=c6_6 HP0.out
    go_enter Tryz.func99,Tryz.ntmps99
    go_wp2
    go_ret
    exact⟨rfl,HB0.out⟩
  by_cases c1:4<m.n
  case pos=>
    have hno:okv=false:=by rw [←HOK.out];exact zf6 (fun hd=>by unfold Md.hd at hd;omega)
    subst hno
    clear hi3 hh3 he3
    obtain⟨p0,p1,p2,p3,p4,p5⟩:=c6_6 HP0.out
    go_enter Tryz.func99,Tryz.ntmps99
    go_wp2
    go_ret
    exact⟨rfl,HB0.out⟩
  by_cases c2:m.s<0
  case pos=>
    have hno:okv=false:=by rw [←HOK.out];exact zf6 (fun hd=>by unfold Md.hd at hd;omega)
    subst hno
    clear hi3 hh3 he3
    obtain⟨p0,p1,p2,p3,p4,p5⟩:=c6_6 HP0.out
    go_enter Tryz.func99,Tryz.ntmps99
    go_wp2
    go_ret
    exact⟨rfl,HB0.out⟩
  by_cases c3:65535<m.s
  case pos=>
    have hno:okv=false:=by rw [←HOK.out];exact zf6 (fun hd=>by unfold Md.hd at hd;omega)
    subst hno
    clear hi3 hh3 he3
    obtain⟨p0,p1,p2,p3,p4,p5⟩:=c6_6 HP0.out
    go_enter Tryz.func99,Tryz.ntmps99
    go_wp2
    go_ret
    exact⟨rfl,HB0.out⟩
  by_cases c4:¬(m.i.length:Int)=m.n
  case pos=>
    have hno:okv=false:=by rw [←HOK.out];exact zf6 (fun hd=>by unfold Md.hd at hd;omega)
    subst hno
    clear hi3 hh3 he3
    obtain⟨p0,p1,p2,p3,p4,p5⟩:=c6_6 HP0.out
    go_enter Tryz.func99,Tryz.ntmps99
    go_wp2
    go_ret
    exact⟨rfl,HB0.out⟩
  by_cases c5:(m.h.length:Int)<1
  case pos=>
    have hno:okv=false:=by rw [←HOK.out];exact zf6 (fun hd=>by unfold Md.hd at hd;omega)
    subst hno
    clear hi3 hh3 he3
    obtain⟨p0,p1,p2,p3,p4,p5⟩:=c6_6 HP0.out
    go_enter Tryz.func99,Tryz.ntmps99
    go_wp2
    go_ret
    exact⟨rfl,HB0.out⟩
  by_cases c6:4<(m.h.length:Int)
  case pos=>
    have hno:okv=false:=by rw [←HOK.out];exact zf6 (fun hd=>by unfold Md.hd at hd;omega)
    subst hno
    clear hi3 hh3 he3
    obtain⟨p0,p1,p2,p3,p4,p5⟩:=c6_6 HP0.out
    go_enter Tryz.func99,Tryz.ntmps99
    go_wp2
    go_ret
    exact⟨rfl,HB0.out⟩
  by_cases c7:6<(m.e.length:Int)
  case pos=>
    have hno:okv=false:=by rw [←HOK.out];exact zf6 (fun hd=>by unfold Md.hd at hd;omega)
    subst hno
    clear hi3 hh3 he3
    obtain⟨p0,p1,p2,p3,p4,p5⟩:=c6_6 HP0.out
    go_enter Tryz.func99,Tryz.ntmps99
    go_wp2
    go_ret
    exact⟨rfl,HB0.out⟩
  by_cases c8:m.z<0
  case pos=>
    have hno:okv=false:=by rw [←HOK.out];exact zf6 (fun hd=>by unfold Md.hd at hd;omega)
    subst hno
    clear hi3 hh3 he3
    obtain⟨p0,p1,p2,p3,p4,p5⟩:=c6_6 HP0.out
    go_enter Tryz.func99,Tryz.ntmps99
    go_wp2
    go_ret
    exact⟨rfl,HB0.out⟩
  by_cases c9:950<m.z
  case pos=>
    have hno:okv=false:=by rw [←HOK.out];exact zf6 (fun hd=>by unfold Md.hd at hd;omega)
    subst hno
    clear hi3 hh3 he3
    obtain⟨p0,p1,p2,p3,p4,p5⟩:=c6_6 HP0.out
    go_enter Tryz.func99,Tryz.ntmps99
    go_wp2
    go_ret
    exact⟨rfl,HB0.out⟩
  have HD:Hid m.hd:=(by unfold Md.hd;omega:m.hd)
  have HI:Hid (m.i= []∨ ∃b off,ai=some ⟨b,off,none⟩∧IntsAt W0 b off m.i):=hi3.imp id (fun⟨b,off,e,h⟩=>⟨b,off,e,h.below HB0.out h.1⟩)
  have HH:=yy1 hh3
  have HE:=yy1 he3
  clear hi3 hh3 he3
  obtain⟨p0,p1,p2,p3,p4,p5⟩:=c6_6 HP0.out
  go_enter Tryz.func99,Tryz.ntmps99
  go_wp2
  clear hW0
  go_loop [3] (fun i=>∃k:Nat,k≤m.i.length∧i= .int .i64 k∧ ∀j,j<k→inB (intAt m.i j)=true) (fun i=>m.i.length-(intOf i).toNat)
  case atStart=>exact⟨0,Nat.zero_le _,rfl,fun j hj=>by omega⟩
  case round=>
    obtain⟨k,hk,rfl,hall⟩:=hrel
    have HA:=yy1 hall
    clear hall
    by_cases hlt:k<m.i.length
    · obtain⟨b,off,rfl,hb,hc⟩:=HI.out.resolve_left (by intro e;rw [e]at hlt;simp at hlt)
      have f0:=hc k hlt
      obtain⟨y,hy⟩:∃y,y=intAt m.i k:=⟨_,rfl⟩
      have HY:Hid (y=intAt m.i k):=hy
      rw [←hy]at f0
      clear hc hy hb
      by_cases y0:y<0
      · have hno:okv=false:=by rw [←HOK.out];exact ok_i (yz0 hlt (by rw [←HY.out];simp [inB];omega))
        subst hno
        go_wp2
        go_ret
        exact⟨rfl,HB0.out⟩
      · by_cases y1:1000≤y
        · have hno:okv=false:=by rw [←HOK.out];exact ok_i (yz0 hlt (by rw [←HY.out];simp [inB];omega))
          subst hno
          go_wp2
          go_ret
          exact⟨rfl,HB0.out⟩
        · go_wp2
          go_round
          case rel=>exact⟨k+1,by omega,by go_num,fun j hj=>by
            by_cases e:j<k
            · exact HA.out j e
            · rw [show j=k by omega,←HY.out];simp [inB];omega⟩
          case measure=>simp [intOf];omega
    · have HIK:Hid (m.okI=true):=yzq (fun j hj=>HA.out j (by omega))
      clear HI HA
      go_wp2
      go_loopw [4] (fun i wr=>∃k:Nat,k≤m.h.length∧i= .int .i64 k∧(∀j,j<k→rowB m (hAt m.h j)=true)∧Below w.heap.size w wr∧Bk wr w.heap.size 36 #[.int .i64 m.n,.int .i64 m.s,.slice ai m.i.length ci,.slice ah m.h.length ch,.slice ae m.e.length ce,.int .i64 m.z]) (fun i _=>m.h.length-(intOf i).toNat)
      case atStart=>exact⟨0,Nat.zero_le _,rfl,fun j hj=>by omega,HB0.out,HP0.out⟩
      case round=>
        clear p0 p1 p2 p3 p4 p5 HB0 HP0
        obtain⟨k,hk,rfl,hall,hB,hP⟩:=hrel
        have HA:=yy1 hall
        have HB0:=yy1 hB
        have HP0:=yy1 hP
        clear hall hP
        obtain⟨p0,p1,p2,p3,p4,p5⟩:=c6_6 HP0.out
        by_cases hlt:k<m.h.length
        · obtain⟨b,off,rfl,hb,hc⟩:=HH.out.resolve_left (by intro e;rw [e]at hlt;simp at hlt)
          obtain⟨u,f0,hu⟩:=hc k hlt
          have hf0:=f0
          replace f0:=(hB.cell (p:=⟨b,off+k,none⟩) hb).trans f0
          have HL:=yy1 (HS.out.r k)
          have HU:=yy1 hu
          obtain⟨a1,c1,rfl,_,_,_⟩:=hu
          clear hB hc
          by_cases h8:8<((hAt m.h k).length:Int)
          · have hno:okv=false:=by rw [←HOK.out];exact ok_h (yz0 hlt (by simp [rowB];omega))
            subst hno
            go_wp2
            go_ret
            exact⟨rfl,HB0.out⟩
          · have HF:=yy1 hf0
            clear hf0
            go_wp2
            go_loopw [5] (fun i wr2=>∃q:Nat,q≤(hAt m.h k).length∧i= .int .i64 q∧(∀j,j<q→(oAt (hAt m.h k) j).ok m.n m.h.length=true)∧Below w.heap.size w wr2∧Bk wr2 w.heap.size 36 #[.int .i64 m.n,.int .i64 m.s,.slice ai m.i.length ci,.slice (some ⟨b,off,none⟩) m.h.length ch,.slice ae m.e.length ce,.int .i64 m.z]) (fun i _=>(hAt m.h k).length-(intOf i).toNat)
            case atStart=>exact⟨0,Nat.zero_le _,rfl,fun j hj=>by omega,HB0.out,HP0.out⟩
            case round=>
              clear p0 p1 p2 p3 p4 p5 HB0 HP0 f0
              obtain⟨q,hq,rfl,hall,hB,hP⟩:=hrel
              have HA2:=yy1 hall
              have HB0:=yy1 hB
              have HP0:=yy1 hP
              have f0:=(hB.cell (p:=⟨b,off+k,none⟩) hb).trans HF.out
              clear hall hP
              obtain⟨p0,p1,p2,p3,p4,p5⟩:=c6_6 HP0.out
              by_cases hlq:q<(hAt m.h k).length
              · obtain⟨a2,c2,e2,_,_,hu⟩:=HU.out
                obtain⟨rfl,_,rfl⟩:a1=a2∧(hAt m.h k).length=(hAt m.h k).length∧c1=c2:=by simpa using e2
                obtain⟨b1,off1,rfl,hb1,hc1⟩:=hu.resolve_left (by intro e;rw [e]at hlq;simp at hlq)
                obtain⟨g0,g1,g2,g3⟩:=(hc1 q hlq).below hB hb1
                have hL1:(hAt m.h k).length≤1048576:=HL.out
                have HIS:=yy1 (HX.out.below hB)
                clear e2 hu hc1 hB
                have hbw:b<wr.heap.size:=Nat.lt_of_lt_of_le hb HB0.out.size
                have hbw1:b1<wr.heap.size:=Nat.lt_of_lt_of_le hb1 HB0.out.size
                have F0:∀p:Beyond wr,p.w.cell? ⟨b,off+k,none⟩=some (.slice (some ⟨b1,off1,none⟩) (hAt m.h k).length c1):=fun p=>p.cell hbw f0
                have G0:∀p:Beyond wr,p.w.cell? ⟨b1,off1+q*4,none⟩=some (.int .i64 (oAt (hAt m.h k) q).c):=fun p=>p.cell hbw1 g0
                have G1:∀p:Beyond wr,p.w.cell? ⟨b1,off1+q*4+1,none⟩=some (.int .i64 (oAt (hAt m.h k) q).a):=fun p=>p.cell hbw1 g1
                have G2:∀p:Beyond wr,p.w.cell? ⟨b1,off1+q*4+2,none⟩=some (.int .i64 (oAt (hAt m.h k) q).b):=fun p=>p.cell hbw1 g2
                have G3:∀p:Beyond wr,p.w.cell? ⟨b1,off1+q*4+3,none⟩=some (.int .i64 (oAt (hAt m.h k) q).k):=fun p=>p.cell hbw1 g3
                obtain⟨P0,P1,P2,P3,P4,P5⟩:=bb6 HP0.out
                have hne:=neB wr
                cases hv:okO m.n (m.h.length:Int) (oAt (hAt m.h k) q).c (oAt (hAt m.h k) q).a (oAt (hAt m.h k) q).b (oAt (hAt m.h k) q).k
                · have hno:okv=false:=by rw [←HOK.out];exact ok_h (yz0 hlt (by unfold rowB;rw [yz0 hlq (show(oAt (hAt m.h k) q).ok m.n m.h.length=false from hv)];simp))
                  subst hno
                  have HV:=yy1 hv
                  clear hv
                  go_wp2_with fail
                  clear g0 g1 g2 g3 p0 p1 p2 p3 p4 p5 f0
                  refine wrb ?_
                  repeat(go_big_quiet_step (first|(go_at_call 173;exact Beyond.of (yx9 (sOpM _ m _ _ _ _ _ (HIS.out.below (Beyond.h _))) HV.out))))
                  refine wpQuiet_nil ?_
                  rintro w2 ⟨⟨_,hb2⟩,rfl⟩
                  clear F0 G0 G1 G2 G3 P0 P1 P2 P3 P4 P5 hne
                  go_wp2
                  go_ret
                  exact⟨rfl,trm HB0.out hb2⟩
                · have HV:=yy1 hv
                  clear hv
                  go_wp2_with fail
                  clear g0 g1 g2 g3 p0 p1 p2 p3 p4 p5 f0
                  refine wrb ?_
                  repeat(go_big_quiet_step (first|(go_at_call 173;exact Beyond.of (yx9 (sOpM _ m _ _ _ _ _ (HIS.out.below (Beyond.h _))) HV.out))))
                  refine wpQuiet_nil ?_
                  rintro w2 ⟨⟨_,hb2⟩,rfl⟩
                  clear F0 G0 G1 G2 G3 P0 P1 P2 P3 P4 P5 hne
                  have HB2:=trh HB0 hb2
                  have HP2:=yy1 (HP0.out.below hb2)
                  clear hb2 HB0 HP0 HIS
                  go_wp2
                  go_roundw
                  case rel=>exact⟨q+1,by omega,by go_num,fun j hj=>by
                    by_cases e:j<q
                    · exact HA2.out j e
                    · rw [show j=q by omega];exact HV.out,HB2.out,HP2.out⟩
                  case measure=>simp [intOf];omega
              · clear hB
                have HRK:Hid (rowB m (hAt m.h k)=true):=(by unfold rowB;rw [yzq (fun j hj=>HA2.out j (by omega))];simp;omega:rowB m (hAt m.h k)=true)
                go_wp2
                go_roundw
                case rel=>exact⟨k+1,by omega,by go_num,fun j hj=>by
                  by_cases e:j<k
                  · exact HA.out j e
                  · rw [show j=k by omega];exact HRK.out,HB0.out,HP0.out⟩
                case measure=>simp [intOf];omega
        · have HHK:Hid (m.okH=true):=yzq (fun j hj=>HA.out j (by omega))
          clear HA HH hB
          go_wp2
          clear p0 p1 p2 p3 p4 p5
          go_loopw [6] (fun i wr=>∃k:Nat,k≤m.e.length∧i= .int .i64 k∧(∀j,j<k→stB m j (evAt m.e j)=true)∧Below w.heap.size w wr∧Bk wr w.heap.size 36 #[.int .i64 m.n,.int .i64 m.s,.slice ai m.i.length ci,.slice ah m.h.length ch,.slice ae m.e.length ce,.int .i64 m.z]) (fun i _=>m.e.length-(intOf i).toNat)
          case atStart=>exact⟨0,Nat.zero_le _,rfl,fun j hj=>by omega,HB0.out,HP0.out⟩
          case round=>
            clear HB0 HP0
            obtain⟨k,hk,rfl,hall,hB,hP⟩:=hrel
            have HA:=yy1 hall
            have HB0:=yy1 hB
            have HP0:=yy1 hP
            clear hall hP
            obtain⟨p0,p1,p2,p3,p4,p5⟩:=c6_6 HP0.out
            by_cases hlt:k<m.e.length
            · obtain⟨b,off,rfl,hb,hc⟩:=HE.out.resolve_left (by intro e;rw [e]at hlt;simp at hlt)
              obtain⟨f0,f1,f2,f3,f4,f5,f6⟩:=(hc k hlt).below hB hb
              clear hB hc
              generalize hev:evAt m.e k=e at f0 f1 f2 f3 f4 f5 f6
              have HEV:Hid (evAt m.e k=e):=hev
              obtain⟨t,s1,qq,d,kk,v,g⟩:=e
              clear hev
              have hbw:b<wr.heap.size:=Nat.lt_of_lt_of_le hb HB0.out.size
              obtain⟨V,hV⟩:∃V,wr.alloc (.cells #[.int .i64 t,.int .i64 s1,.int .i64 qq,.int .i64 d,.int .i64 kk,.int .i64 v,.int .i64 g] 90)=V:=⟨_,rfl⟩
              have hbV:=beA hV
              have HBV:=trh HB0 hbV
              have HPV:=yy1 (HP0.out.below hbV)
              have HQV:=hdq (bkA hV)
              obtain⟨e0,e1,e2,e3,e4,e5,e6⟩:=c7_7 HQV.out
              go_wp2_with fail
              clear f0 f1 f2 f3 f4 f5 f6 e0 e1 e2 e3 e4 e5 e6 p0 p1 p2 p3 p4 p5 hV hbV HB0 HP0
              refine(zis _ _ _ _ _ _ _ _).mono ?_
              rintro e w2 ⟨rfl,hb2⟩
              have HB2:=trh HBV hb2
              have HP2:=yy1 (HPV.out.below hb2)
              have HQ2:=yy1 (HQV.out.below hb2)
              clear hb2 HBV HPV HQV
              have NO:Hid ((okB t s1 qq d kk v g=false∨ ¬s1= -1∨ ¬qq=(k:Int)∨ ¬g=(k:Int)∨m.n≤d∨(m.h.length:Int)≤kk∨m.z<t)→okv=false):=fun h=>by
                rw [←HOK.out]
                refine ok_e (yz0 hlt ?_)
                rw [HEV.out]
                rcases h with h|h
                · simp [stB,Ev.ok,h]
                · simp only [stB,Ev.ok,Bool.and_eq_false_iff,decide_eq_false_iff_not]
                  refine .inr ?_
                  omega
              obtain⟨e0,e1,e2,e3,e4,e5,e6⟩:=c7_7 HQ2.out
              have p0:=HP2.out.cell (i:=0) rfl
              have p3:=HP2.out.cell (i:=3) rfl
              have p5:=HP2.out.cell (i:=5) rfl
              cases hokb:okB t s1 qq d kk v g
              · have hno:=NO.out (.inl hokb)
                subst hno
                clear hokb
                go_wp2
                go_ret
                exact⟨rfl,HB2.out⟩
              · have HOB:=yy1 hokb
                clear hokb
                by_cases d0:¬s1= -1
                case pos=>
                  have hno:=NO.out (by simp [d0])
                  subst hno
                  go_wp2
                  go_ret
                  exact⟨rfl,HB2.out⟩
                by_cases d1:¬qq=(k:Int)
                case pos=>
                  have hno:=NO.out (by simp [d1])
                  subst hno
                  go_wp2
                  go_ret
                  exact⟨rfl,HB2.out⟩
                by_cases d2:¬g=(k:Int)
                case pos=>
                  have hno:=NO.out (by simp [d2])
                  subst hno
                  go_wp2
                  go_ret
                  exact⟨rfl,HB2.out⟩
                by_cases d3:m.n≤d
                case pos=>
                  have hno:=NO.out (by simp [d3])
                  subst hno
                  go_wp2
                  go_ret
                  exact⟨rfl,HB2.out⟩
                by_cases d4:(m.h.length:Int)≤kk
                case pos=>
                  have hno:=NO.out (by simp [d4])
                  subst hno
                  go_wp2
                  go_ret
                  exact⟨rfl,HB2.out⟩
                by_cases d5:m.z<t
                case pos=>
                  have hno:=NO.out (by simp [d5])
                  subst hno
                  go_wp2
                  go_ret
                  exact⟨rfl,HB2.out⟩
                have HST:Hid (stB m k (evAt m.e k)=true):=(by rw [HEV.out];simp only [stB,Ev.ok,Bool.and_eq_true,decide_eq_true_eq];exact⟨HOB.out,by omega⟩:stB m k (evAt m.e k)=true)
                go_wp2
                go_roundw
                case rel=>exact⟨k+1,by omega,by go_num,fun j hj=>by
                  by_cases e:j<k
                  · exact HA.out j e
                  · rw [show j=k by omega];exact HST.out,HB2.out,HP2.out⟩
                case measure=>simp [intOf];omega
            · have HEK:Hid (m.okE=true):=yzq (fun j hj=>HA.out j (by omega))
              clear HA HE hB
              have hyes:okv=true:=by rw [←HOK.out];exact ok_yes HD.out HIK.out HHK.out HEK.out
              subst hyes
              go_wp2
              go_ret
              exact⟨rfl,HB0.out⟩
end Go.Proofs.YtghndljgadpijaaGreat
