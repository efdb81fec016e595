/- WRk, WNm, WGr, WCt, WIo -/
import Derived.Test.YtmobiieoecjmdaaGreatExactTableG01
import Derived.Test.YtmobiieoecjmdaaGreatExactTableG33
import Derived.Test.YtmobiieoecjmdaaGreatExactTableG31
import Derived.Laws.AppendOwnNone
/- The program's runsOk. -/
namespace Go.Proofs.YtmobiieoecjmdaaGreat
set_option maxHeartbeats 16000000
open Go.RowKit
theorem yc7 {p:Prop} (h:p):Hid p:=h
theorem yuj (x y:Value) (a b:List UInt8) (c:Bool) (hc:decide (a=b)=c) (w:World) (ha:a≠ []) (hb:b≠ []) (hx:By.IsI w x a) (hy:By.IsI w y b):
  Calls Tryz.prog 143 #[x,y] w fun e w'=>e= .returned (.bool c)∧w'=w:=by
 have h1:=yet w x a ha hx
 have h2:=yet w y b hb hy
 obtain⟨sA,hsA⟩:∃s,strB a=s:=⟨_,rfl⟩
 obtain⟨sB,hsB⟩:∃s,strB b=s:=⟨_,rfl⟩
 have HE:Hid ((sA.toList==sB.toList)=c):=by
  show(sA.toList==sB.toList)=c
  rw [←hsA,←hsB,yhb,yhb,←hc,Bool.eq_iff_iff]
  simp
 rw [hsA]at h1
 rw [hsB]at h2
 clear hx hy ha hb hsA hsB hc
 go_enter Tryz.func143,Tryz.ntmps143
 go_wp2
 go_ret
 exact⟨ya1 HE.out,rfl⟩
noncomputable def yiz (v : Wd) : Bool := v.m.ok && allB v.k.length (fun i => runB v (knAt v.k i))
theorem runsB_iff {v:Wd}:yiz v=true↔v.m.ok=true∧ ∀i,i<v.k.length→runB v (knAt v.k i)=true:=by
 unfold yiz
 simp only [Bool.and_eq_true,allB_iff]
set_option maxRecDepth 100000 in
theorem iRunsOk (x:Value) (v:Wd) (w:World) (hs:ycs v) (h:IsW w x v):
  Calls Tryz.prog 94 #[x] w fun e w'=>e= .returned (.bool (yiz v))∧Below w.heap.size w w':=by
 have HSM:Hid (SmallM v.m):=hs.1
 have HSK:Hid (yek v.k):=hs.2.1
 have HSV:=yc7 hs.2.2
 have hkl:v.k.length≤1048576:=hs.2.1.1
 have hcl:v.c.length≤1048576:=by have h9:=hs.2.2;rw [ydy]at h9;omega
 obtain⟨ai,ci,ah,ch,ae,ce,ak,ck,ac,cc,rfl,hm,hk,hc⟩:=h.form
 have HWW:=yc7 h
 have HMW:=yc7 hm
 have HKS:=yc7 hk
 have HCS:=yc7 hc
 clear h hm hk hc
 obtain⟨W0,hW0⟩:∃W0,w.alloc (.cells #[.int .i64 v.m.n,.int .i64 v.m.s,.slice ai v.m.i.length ci,.slice ah v.m.h.length ch,.slice ae v.m.e.length ce,.int .i64 v.m.z,.slice ak v.k.length ck,.slice ac v.c.length cc] 39)=W0:=⟨_,rfl⟩
 have HB0:=hdq (beA hW0)
 have HP0:=hdq (bkA hW0)
 obtain⟨q0,q1,q2,q3,q4,q5⟩:=c6_8 HP0.out
 go_enter Tryz.func94,Tryz.ntmps94
 go_wp2_with fail
 clear q0 q1 q2 q3 q4 q5 hW0
 refine(yu0 _ v.m _ HSM.out (HMW.out.below HB0.out)).mono ?_
 rintro e w1 ⟨um,rfl,hum,hb⟩
 have HB1:=yc7 (trm HB0.out hb)
 have HP1:=yc7 (HP0.out.below hb)
 have HUM:=yc7 hum.isI
 clear hb hum HB0 HP0
 have hs1:w.heap.size<w1.heap.size:=HP1.out.lt
 cases hmo:v.m.ok
 case false=>
  have HN:Hid (yiz v=false):=yad (fun h9=>by have h8:=(runsB_iff.1 h9).1;rw [hmo]at h8;cases h8)
  clear hmo
  go_wp2
  go_ret
  exact⟨ya1 HN.out.symm,HB1.out⟩
 have HMO:Hid (v.m.ok=true):=hmo
 have HUB:Hid (By.IsI w1 um (yd1 v.m)):=by
  have h9:=HUM.out
  unfold yhq at h9
  rw [if_pos hmo]at h9
  exact h9
 clear hmo HUM
 have q6:=HP1.out.cell (i:=6) rfl
 go_wp2
 clear q6
 go_loopw [20] (fun i wr=>∃j:Nat,j≤v.k.length∧i= .int .i64 j∧Hid (∀i,i<j→runB v (knAt v.k i)=true)∧Hid (Below w1.heap.size w1 wr)) (fun i _=>v.k.length-(intOf i).toNat)
 case atStart=>exact⟨0,Nat.zero_le _,rfl,fun j hj=>by omega,Below.refl _ _⟩
 case round=>
  obtain⟨j,hj,rfl,HA,HBr⟩:=hrel
  have HBw:=yc7 (trm HB1.out HBr.out)
  have hsr:w1.heap.size≤wr.heap.size:=HBr.out.size
  by_cases hlt:j<v.k.length
  case pos=>
   have hjd:decide ((j:Int)<(v.k.length:Int))=true:=by simpa using hlt
   obtain⟨b,off,rfl,hbl,hKA⟩:=HKS.out.resolve_left (by omega)
   obtain⟨ki,di,kh,dh,ke,de,k6,d6,k7,d7,k8,d8,k12,d12,k13,d13,⟨f0,f1,f2,f3,f4,f5,f6,f7,f8,f9,f10,f11,f12,f13⟩,hkn,hkm,hkd⟩:=(hKA j hlt).form
   have HDW:=yc7 hkd
   have f0:=(HBw.out.cell (p:=⟨b,_,none⟩) hbl).trans f0
   have f1:=(HBw.out.cell (p:=⟨b,_,none⟩) hbl).trans f1
   have f2:=(HBw.out.cell (p:=⟨b,_,none⟩) hbl).trans f2
   have f3:=(HBw.out.cell (p:=⟨b,_,none⟩) hbl).trans f3
   have f4:=(HBw.out.cell (p:=⟨b,_,none⟩) hbl).trans f4
   have f5:=(HBw.out.cell (p:=⟨b,_,none⟩) hbl).trans f5
   have f6:=(HBw.out.cell (p:=⟨b,_,none⟩) hbl).trans f6
   have f7:=(HBw.out.cell (p:=⟨b,_,none⟩) hbl).trans f7
   have f8:=(HBw.out.cell (p:=⟨b,_,none⟩) hbl).trans f8
   have f9:=(HBw.out.cell (p:=⟨b,_,none⟩) hbl).trans f9
   have f10:=(HBw.out.cell (p:=⟨b,_,none⟩) hbl).trans f10
   have f11:=(HBw.out.cell (p:=⟨b,_,none⟩) hbl).trans f11
   have f12:=(HBw.out.cell (p:=⟨b,_,none⟩) hbl).trans f12
   have f13:=(HBw.out.cell (p:=⟨b,_,none⟩) hbl).trans f13
   have HSKj:=yc7 (HSK.out.2 j hlt)
   obtain⟨V1,hV1⟩:∃V1,wr.alloc (.cells #[.int .i64 (knAt v.k j).m.n,.int .i64 (knAt v.k j).m.s,.slice ki (knAt v.k j).m.i.length di,.slice kh (knAt v.k j).m.h.length dh,.slice ke (knAt v.k j).m.e.length de,.int .i64 (knAt v.k j).m.z,.slice k6 (knAt v.k j).d.length d6,.slice k7 (knAt v.k j).p.length d7,.slice k8 (knAt v.k j).b.length d8,.int .i64 (knAt v.k j).t,.int .i64 (knAt v.k j).q,.bool (knAt v.k j).f,.slice k12 (knAt v.k j).s.length d12,.slice k13 (knAt v.k j).x.length d13] 57)=V1:=⟨_,rfl⟩
   have hbV:=beA hV1
   have HBV:=yc7 hbV
   have HV1:=yc7 hbV.size
   have HK1:=hdq (bkA hV1)
   have HKI:=yc7 ((hkn.under HBw.out).under hbV)
   have HMI:=yc7 ((hkm.below HBw.out).below hbV)
   clear hkn hkm hkd hbV hKA
   have k0c:=HK1.out.cell (i:=0) rfl
   have k1c:=HK1.out.cell (i:=1) rfl
   have k2c:=HK1.out.cell (i:=2) rfl
   have k3c:=HK1.out.cell (i:=3) rfl
   have k4c:=HK1.out.cell (i:=4) rfl
   have k5c:=HK1.out.cell (i:=5) rfl
   go_wp2_with fail
   clear f0 f1 f2 f3 f4 f5 f6 f7 f8 f9 f10 f11 f12 f13 k0c k1c k2c k3c k4c k5c
   try rw [hV1]
   clear hV1
   refine(yu0 _ (knAt v.k j).m V1 HSKj.out.1 HMI.out).mono ?_
   rintro e w2 ⟨uk,rfl,huk,hb2⟩
   have HUK:=yc7 huk.isI
   have HB2:=yc7 (trm HBr.out (HBV.out.trans (hb2.mono HV1.out)))
   have HB2w:=yc7 (trm HB1.out HB2.out)
   have HU2:=yc7 (HUB.out.below HB2.out)
   have HK2:=yc7 (HK1.out.below hb2)
   have HKI2:=yc7 (HKI.out.under hb2)
   clear huk hb2
   cases hkm:(knAt v.k j).m.ok
   case false=>
    have HN:Hid (yiz v=false):=yad (fun h9=>by have h8:=(yl9 (runB_iff.1 ((runsB_iff.1 h9).2 j hlt)).1).1;rw [hkm]at h8;cases h8)
    clear hkm
    go_wp2
    go_ret
    exact⟨ya1 HN.out.symm,HB2w.out⟩
   have HUKB:Hid (By.IsI w2 uk (yd1 (knAt v.k j).m)):=by
    have h9:=HUK.out
    unfold yhq at h9
    rw [if_pos hkm]at h9
    exact h9
   clear hkm HUK
   by_cases hq:yd1 (knAt v.k j).m=yd1 v.m
   case neg=>
    have HN:Hid (yiz v=false):=yad (fun h9=>hq (runB_iff.1 ((runsB_iff.1 h9).2 j hlt)).2)
    have HQ:=yc7 (decide_eq_false hq)
    clear hq
    go_wp2_with fail
    refine(yuj uk um _ _ false HQ.out w2 (ydr _) (ydr _) HUKB.out HU2.out).mono ?_
    rintro e w3 ⟨rfl,hw3⟩
    have hw3':=hw3.symm
    clear hw3
    subst hw3'
    go_wp2
    go_ret
    exact⟨ya1 HN.out.symm,HB2w.out⟩
   have HQE:=yc7 hq
   have HQ:=yc7 (decide_eq_true hq)
   clear hq
   go_wp2_with fail
   refine(yuj uk um _ _ true HQ.out w2 (ydr _) (ydr _) HUKB.out HU2.out).mono ?_
   rintro e w3 ⟨rfl,hw3⟩
   have hw3':=hw3.symm
   clear hw3
   subst hw3'
   have k0c:=HK2.out.cell (i:=0) rfl
   have k1c:=HK2.out.cell (i:=1) rfl
   have k2c:=HK2.out.cell (i:=2) rfl
   have k3c:=HK2.out.cell (i:=3) rfl
   have k4c:=HK2.out.cell (i:=4) rfl
   have k5c:=HK2.out.cell (i:=5) rfl
   have k6c:=HK2.out.cell (i:=6) rfl
   have k7c:=HK2.out.cell (i:=7) rfl
   have k8c:=HK2.out.cell (i:=8) rfl
   have k9c:=HK2.out.cell (i:=9) rfl
   have k10c:=HK2.out.cell (i:=10) rfl
   have k11c:=HK2.out.cell (i:=11) rfl
   have k12c:=HK2.out.cell (i:=12) rfl
   have k13c:=HK2.out.cell (i:=13) rfl
   go_wp2_with fail
   clear k0c k1c k2c k3c k4c k5c k6c k7c k8c k9c k10c k11c k12c k13c
   refine(ymu _ (knAt v.k j) _ HSKj.out HKI2.out).mono ?_
   rintro e w4 ⟨rfl,hb4⟩
   have HB4:=yc7 (trm HB2.out hb4)
   clear hb4
   cases hko:(knAt v.k j).ok
   case false=>
    have HN:Hid (yiz v=false):=yad (fun h9=>by have h8:=(runB_iff.1 ((runsB_iff.1 h9).2 j hlt)).1;rw [hko]at h8;cases h8)
    clear hko
    go_wp2
    go_ret
    exact⟨ya1 HN.out.symm,trm HB1.out HB4.out⟩
   have HRJ:=yc7 (runB_iff.2 ⟨hko,HQE.out⟩)
   clear hko
   go_wp2
   go_roundw
   case rel=>exact⟨j+1,by omega,by go_num,fun i hi=>by
    by_cases e:i=j
    ·subst e;exact HRJ.out
    ·exact HA.out i (by omega),HB4.out⟩
   case measure=>simp [intOf];omega
  case neg=>
   have hje:j=v.k.length:=by omega
   have HY:Hid (yiz v=true):=runsB_iff.2 ⟨HMO.out,fun i hi=>HA.out i (by omega)⟩
   subst hje
   go_wp2
   go_ret
   exact⟨ya1 HY.out.symm,HBw.out⟩
set_option maxHeartbeats 16000000
set_option maxRecDepth 100000
open Go.RowKit
theorem yke (l r:List Int):ye4 [intAt l 0,intAt l 1,intAt l 2,intAt l 3] [intAt r 0,intAt r 1,intAt r 2,intAt r 3]=ye4 l r:=rfl
theorem yti (a0 a1 a2 a3 b0 b1 b2 b3:Int) (c:Bool) (hc:ye4 [a0,a1,a2,a3] [b0,b1,b2,b3]=c) (w:World):
  Calls Tryz.prog 140 #[vec a0 a1 a2 a3,vec b0 b1 b2 b3] w fun e w'=>e= .returned (.bool c)∧Below w.heap.size w w':=hc▸ytj a0 a1 a2 a3 b0 b1 b2 b3 w
def idxV (d:List Int) (l:List (List Int)) (n:Nat) (r:Ending):Prop:=(∃i:Nat,r= .returned (.int .i64 (i:Int))∧i<n∧ye4 d (vAt l i)=true)∨(r= .returned (.int .i64 (-1))∧ ∀i,i<n→ye4 d (vAt l i)=false)
theorem VcAt.four {w:World} {b off:Nat} {l:List (List Int)} (h:VcAt w b off l) {i:Nat} (hi:i<l.length):w.cell? ⟨b,off+i*4,none⟩=some (i64 (intAt (vAt l i) 0))∧w.cell? ⟨b,off+i*4+1,none⟩=some (i64 (intAt (vAt l i) 1))∧w.cell? ⟨b,off+i*4+2,none⟩=some (i64 (intAt (vAt l i) 2))∧w.cell? ⟨b,off+i*4+3,none⟩=some (i64 (intAt (vAt l i) 3)):=
 ⟨h.2 i 0 hi (by omega),h.2 i 1 hi (by omega),h.2 i 2 hi (by omega),h.2 i 3 hi (by omega)⟩
theorem idxV_any (b off cap n:Nat) (l:List (List Int)) (d0 d1 d2 d3:Int) (w:World) (hn:n≤l.length) (hl:l.length≤1048576) (h:VcAt w b off l):
  Calls Tryz.prog 180 #[.slice (some ⟨b,off,none⟩) n cap,.func (.func 140) #[vec d0 d1 d2 d3] #[]] w fun r w'=>idxV [d0,d1,d2,d3] l n r∧Below w.heap.size w w':=by
 have HV:Hid (VcAt w b off l):=h
 clear h
 go_enter Tryz.func180,Tryz.ntmps180
 go_wp2
 go_loopw [8] (fun i wr=>Hid (Below w.heap.size w wr)∧ ∃j:Nat,j≤n∧i= .int .i64 j∧Hid (∀i,i<j→ye4 [d0,d1,d2,d3] (vAt l i)=false)) (fun i _=>n-(intOf i).toNat)
 case atStart=>exact⟨Below.refl _ _,0,Nat.zero_le _,rfl,fun j hj=>by omega⟩
 case round=>
  obtain⟨HB,j,hj,rfl,HA⟩:=hrel
  have hsz:w.heap.size≤wr.heap.size:=HB.out.size
  by_cases hlt:j<n
  ·have hd:decide ((j:Int)<(n:Int))=true:=by simpa using hlt
   obtain⟨f0,f1,f2,f3⟩:=(HV.out.below HB.out).four (show j<l.length by omega)
   cases hz:ye4 [d0,d1,d2,d3] (vAt l j)
   ·have HZ:Hid (ye4 [d0,d1,d2,d3] (vAt l j)=false):=hz
    clear hz
    go_wp2_with (go_at_call 140;refine(yti _ _ _ _ _ _ _ _ false ((yke [d0,d1,d2,d3] (vAt l j)).trans HZ.out) _).mono ?_;rintro r w2 ⟨rfl,hb2⟩)
    go_roundw
    case rel=>exact⟨HB.out.trans (hb2.mono hsz),j+1,by omega,by go_num,fun i hi=>by
     by_cases e:i=j
     ·subst e;exact HZ.out
     ·exact HA.out i (by omega)⟩
    case measure=>simp [intOf];omega
   ·have HZ:Hid (ye4 [d0,d1,d2,d3] (vAt l j)=true):=hz
    clear hz
    go_wp2_with (go_at_call 140;refine(yti _ _ _ _ _ _ _ _ true ((yke [d0,d1,d2,d3] (vAt l j)).trans HZ.out) _).mono ?_;rintro r w2 ⟨rfl,hb2⟩)
    go_ret
    exact⟨.inl ⟨j,rfl,hlt,HZ.out⟩,HB.out.trans (hb2.mono hsz)⟩
  ·obtain rfl:n=j:=by omega
   go_wp2
   go_ret
   exact⟨.inr ⟨rfl,HA.out⟩,HB.out⟩
def anyM (d:List Int) (l:List (List Int)) (n:Nat):Bool:= !(allB n fun i=> !ye4 d (vAt l i))
theorem anyM_no {d:List Int} {l:List (List Int)} {n:Nat}:anyM d l n=false↔ ∀i,i<n→ye4 d (vAt l i)=false:=by
 unfold anyM
 simp only [Bool.not_eq_false',allB_iff,Bool.not_eq_true']
theorem anyM_yes {d:List Int} {l:List (List Int)} {n i:Nat} (hi:i<n) (h:ye4 d (vAt l i)=true):anyM d l n=true:=by
 cases hh:anyM d l n
 ·have:=anyM_no.1 hh i hi
  rw [h]at this
  cases this
 ·rfl
theorem ypg (b off cap n:Nat) (l:List (List Int)) (d0 d1 d2 d3:Int) (c:Bool) (hc:anyM [d0,d1,d2,d3] l n=c) (w:World) (hn:n≤l.length) (hl:l.length≤1048576) (h:VcAt w b off l):
  Calls Tryz.prog 139 #[.slice (some ⟨b,off,none⟩) n cap,.func (.func 140) #[vec d0 d1 d2 d3] #[]] w fun r w'=>r= .returned (.bool c)∧Below w.heap.size w w':=by
 have HV:Hid (VcAt w b off l):=h
 have HC:Hid (anyM [d0,d1,d2,d3] l n=c):=hc
 clear h hc
 go_enter Tryz.func139,Tryz.ntmps139
 go_wp2_with fail
 refine(idxV_any b off cap n l d0 d1 d2 d3 w hn hl HV.out).mono ?_
 rintro r w1 ⟨hR,hb1⟩
 have HB1:Hid (Below w.heap.size w w1):=hb1
 clear hb1
 rcases hR with ⟨i,rfl,hi,hg⟩|⟨rfl,hno⟩
 ·have HY:Hid (anyM [d0,d1,d2,d3] l n=true):=anyM_yes hi hg
  have hi0:(0:Int)≤(i:Int):=by omega
  clear hi hg
  go_wp2
  go_ret
  exact⟨ya1 (HY.out.symm.trans HC.out),HB1.out⟩
 ·have HN:Hid (anyM [d0,d1,d2,d3] l n=false):=anyM_no.2 hno
  clear hno
  go_wp2
  go_ret
  exact⟨ya1 (HN.out.symm.trans HC.out),HB1.out⟩
theorem run_cutV (a:Option Addr) (n cap k:Nat) (hk:k≤cap) (w:World):(Instr.sliceAt 131 (.slice a n cap) none (some (.int .i64 (k:Int))) none).run Tryz.prog w= .ok (.slice a k cap) w:=by
 obtain⟨i0,hi,hz0,hz1,hz2⟩:=info_parts ypa
 have hu:Tryz.prog.underlying 131=some (.slice (Tryz.prog.elem 131)):=by kernel_rfl
 have he:Tryz.prog.elem 131=137:=by kernel_rfl
 rw [run_sliceAt_slice (h:=hu),run_slice_h (ht:=hu) (h0:=by omega) (h2:=by omega),he]
 have e1:a.map (fun x=>x.add 0)=a:=by
  cases a with
  |none=>rfl
  |some x=>simp [Addr.add]
 simp [sizeOf,typeInfo,hi,hz1,sliced,e1]
theorem none_any (x:Value) (l:List (List Int)) (w:World) (hl:l.length≤1048576) (h:(x= .slice none 0 0∧l= [])∨ ∃g cap,x= .slice (some ⟨g,0,none⟩) l.length cap∧l.length≤cap∧cap≤maxLen∧VcAt w g 0 l):
  Calls Tryz.prog 92 #[x] w fun e w'=>e= .returned (.bool (noMB l))∧Below w.heap.size w w':=by
 obtain⟨a,cap,rfl,hlc,hcm,HV0⟩:∃a cap,x= .slice a l.length cap∧l.length≤cap∧cap≤maxLen∧(l= []∨ ∃g,a=some ⟨g,0,none⟩∧VcAt w g 0 l):=by
  rcases h with ⟨rfl,rfl⟩|⟨g,cap,rfl,h1,h2,h3⟩
  ·exact⟨none,0,rfl,Nat.le_refl _,by unfold maxLen;omega,.inl rfl⟩
  ·exact⟨_,cap,rfl,h1,h2,.inr ⟨g,rfl,h3⟩⟩
 have HV:Hid (l= []∨ ∃g,a=some ⟨g,0,none⟩∧VcAt w g 0 l):=HV0
 clear h HV0
 go_enter Tryz.func92,Tryz.ntmps92
 go_wp2
 go_loopw [7] (fun i wr=>Hid (Below w.heap.size w wr)∧ ∃j:Nat,j≤l.length∧i= .int .i64 j∧Hid (∀i,i<j→ ∀q,q<i→ye4 (vAt l i) (vAt l q)=false)) (fun i _=>l.length-(intOf i).toNat)
 case atStart=>exact⟨Below.refl _ _,0,Nat.zero_le _,rfl,fun j hj=>by omega⟩
 case round=>
  obtain⟨HB,j,hj,rfl,HA⟩:=hrel
  have hsz:w.heap.size≤wr.heap.size:=HB.out.size
  by_cases hlt:j<l.length
  case pos=>
   have hd:decide ((j:Int)<(l.length:Int))=true:=by simpa using hlt
   obtain⟨g,rfl,hva⟩:=HV.out.resolve_left (fun e=>by rw [e]at hlt;simp at hlt)
   obtain⟨f0,f1,f2,f3⟩:=(hva.below HB.out).four hlt
   rw [Nat.zero_add]at f0 f1 f2 f3
   obtain⟨x0,hx0⟩:∃z,intAt (vAt l j) 0=z:=⟨_,rfl⟩
   obtain⟨x1,hx1⟩:∃z,intAt (vAt l j) 1=z:=⟨_,rfl⟩
   obtain⟨x2,hx2⟩:∃z,intAt (vAt l j) 2=z:=⟨_,rfl⟩
   obtain⟨x3,hx3⟩:∃z,intAt (vAt l j) 3=z:=⟨_,rfl⟩
   have HX:Hid (∀r,ye4 [x0,x1,x2,x3] r=ye4 (vAt l j) r):=fun r=>by
    rw [←hx0,←hx1,←hx2,←hx3]
    rfl
   rw [hx0]at f0
   rw [hx1]at f1
   rw [hx2]at f2
   rw [hx3]at f3
   clear hx0 hx1 hx2 hx3
   obtain⟨V1,hV1⟩:∃V1,wr.alloc (ycv x0 x1 x2 x3)=V1:=⟨_,rfl⟩
   have hbV:=beA hV1
   have HBV:Hid (Below wr.heap.size wr V1):=hbV
   have HK1:=hdq (bkA hV1)
   have HVV:Hid (VcAt V1 g 0 l):=(hva.below HB.out).below hbV
   clear hbV hva
   go_upto_region 4 with fail
   try rw [hV1]
   clear hV1 f0 f1 f2 f3
   have hne:=neB V1
   have hsl:∀w,(Instr.sliceAt 131 (.slice (some ⟨g,0,none⟩) l.length cap) none (some (.int .i64 (j:Int))) none).run Tryz.prog w= .ok (.slice (some ⟨g,0,none⟩) j cap) w:=run_cutV _ _ cap j (by omega)
   have b0:∀p:Beyond V1,p.w.cell? ⟨wr.heap.size,0,none⟩=some (i64 x0):=fun p=>p.cell HK1.out.lt (HK1.out.cell (i:=0) rfl)
   have b1:∀p:Beyond V1,p.w.cell? ⟨wr.heap.size,1,none⟩=some (i64 x1):=fun p=>p.cell HK1.out.lt (HK1.out.cell (i:=1) rfl)
   have b2:∀p:Beyond V1,p.w.cell? ⟨wr.heap.size,2,none⟩=some (i64 x2):=fun p=>p.cell HK1.out.lt (HK1.out.cell (i:=2) rfl)
   have b3:∀p:Beyond V1,p.w.cell? ⟨wr.heap.size,3,none⟩=some (i64 x3):=fun p=>p.cell HK1.out.lt (HK1.out.cell (i:=3) rfl)
   cases hm:anyM [x0,x1,x2,x3] l j
   case true=>
    have HM:Hid (anyM [x0,x1,x2,x3] l j=true):=hm
    have HN:Hid (noMB l=false):=yad (fun h9=>by
     have h8:=noMB_iff.1 h9 j hlt
     have h7:anyM [x0,x1,x2,x3] l j=false:=anyM_no.2 (fun i hi=>by rw [HX.out];exact h8 i hi)
     rw [hm]at h7
     cases h7)
    clear hm
    go_wp2_with fail
    refine wrb ?_
    repeat(go_big_quiet_step (first|(go_at_call 139;exact Beyond.of (ypg g 0 cap j l x0 x1 x2 x3 true HM.out _ (by omega) hl (HVV.out.below (Beyond.h _))))))
    refine wpQuiet_nil ?_
    rintro w3 ⟨⟨_,hb3⟩,rfl⟩
    have HB3:Hid (Below V1.heap.size V1 w3):=hb3
    clear hb3
    clear b0 b1 b2 b3 hsl
    go_wp2
    go_ret
    exact⟨ya1 HN.out.symm,HB.out.trans ((trm HBV.out HB3.out).mono hsz)⟩
   case false=>
    have HM:Hid (anyM [x0,x1,x2,x3] l j=false):=hm
    clear hm
    go_wp2_with fail
    refine wrb ?_
    repeat(go_big_quiet_step (first|(go_at_call 139;exact Beyond.of (ypg g 0 cap j l x0 x1 x2 x3 false HM.out _ (by omega) hl (HVV.out.below (Beyond.h _))))))
    refine wpQuiet_nil ?_
    rintro w3 ⟨⟨_,hb3⟩,rfl⟩
    have HB3:Hid (Below V1.heap.size V1 w3):=hb3
    clear hb3
    clear b0 b1 b2 b3 hsl
    go_wp2
    go_roundw
    case rel=>exact⟨HB.out.trans ((trm HBV.out HB3.out).mono hsz),j+1,by omega,by go_num,fun i hi=>by
     by_cases e:i=j
     ·subst e;exact fun q hq=>by rw [←HX.out];exact anyM_no.1 HM.out q hq
     ·exact HA.out i (by omega)⟩
    case measure=>simp [intOf];omega
  case neg=>
   have hje:j=l.length:=by omega
   have HY:Hid (noMB l=true):=noMB_iff.2 (fun i hi=>HA.out i (by omega))
   subst hje
   go_wp2
   go_ret
   exact⟨ya1 HY.out.symm,HB.out⟩
end Go.Proofs.YtmobiieoecjmdaaGreat

/- slices.Grow of the nil slice, at vectors. -/
namespace Go.Proofs.YtmobiieoecjmdaaGreat
open Go.RowKit
theorem hidWGr {p:Prop} (h:p):Hid p:=h
abbrev zeroA:Value:= .agg #[.int .i64 0,.int .i64 0,.int .i64 0,.int .i64 0]
theorem yii (ty:TypeId) (n:Nat) (w:World) (h0:0<n) (hn:n≤4194304):
  (Builtin.append_ #[131,3] ty #[.slice none 0 0,.int .i64 (n:Int)]).run Tryz.prog w=
   .ok (.slice (some ⟨w.heap.size,0,none⟩) n (grownCap w n 0 137)) (w.drew.alloc (.cells (Builtin.zeroCells zeroA.cells n++Builtin.zeroCells zeroA.cells (grownCap w n 0 137-n)) 137)):=by
 obtain⟨i0,hi,hz0,hz1,hz2⟩:=info_parts ypa
 have hn0:n≠0:=by omega
 have h63:¬(9223372036854775807<(n:Int)):=by omega
 have hw:IntKind.i64.wrap (n:Int)=(n:Int):=by rw [IntKind.wrap_i64];omega
 have hneg:¬((n:Int)<0):=by omega
 have h48a:¬(281474976710656<(n:Int)*(i0.bytes:Int)):=by rw [hz2];omega
 have h48b:¬(281474976710656<Builtin.nextslicecap n 0*i0.bytes):=by rw [nextslicecap_zero h0,hz2];omega
 simp [Builtin.append_,run_underlying Tryz.underlying131,run_underlying Tryz.underlying3,sizeOf,typeInfo,zeroValue,hi,hz0,asInt,asIntOf,hw,hneg,h48a,hz1,hn0,h63,h48b,Question.forced,run_firstCells_none,newRow,grownCap]
 intro h
 omega
theorem ygp {ops:Array Oper} {rest:List Oper} {o:Oper} {a:Act} {w:World} {Q:Exit→Act→World→Prop} (hg:o.guard=none) (s x:Operand)
  (ho:o.op= .call {callee:= .builtin .append,args:= #[s,x],argTypes:= #[131,3]}) (n:Nat) (hs:a.eval s= .slice none 0 0) (hx:a.eval x= .int .i64 (n:Int)) (h0:0<n) (hn:n≤4194304)
  (hK:wpList Tryz.prog ops Q rest (a.put o.dst (.slice (some ⟨w.heap.size,0,none⟩) n (grownCap w n 0 137))) (w.drew.alloc (.cells (Builtin.zeroCells zeroA.cells n++Builtin.zeroCells zeroA.cells (grownCap w n 0 137-n)) 137))):
  wpList Tryz.prog ops Q (o::rest) a w:=by
 refine wpList_plain hg fun K hK'=> ?_
 unfold Oper.wp
 simp [execOp,ho,resolve,invoke,builtin,hs,hx,yii _ n w h0 hn,Result.andThen]
 exact hK' _ _ hK
theorem yrl (w:World) (n:Nat) (hn:n≤4194304):(w.drew.alloc (.cells (Builtin.zeroCells zeroA.cells n++Builtin.zeroCells zeroA.cells (grownCap w n 0 137-n)) 137)).ownsRow w.heap.size 137 4 (.slice (some ⟨w.heap.size,0,none⟩) 0 (grownCap w n 0 137)) 0 []:=by
 have hge:=grownCap_ge w n 0 137
 have hcm:grownCap w n 0 137≤maxLen:=grownCap_le_maxLen w n 0 137 (by unfold maxLen;omega)
 refine⟨rfl,.inr ⟨w.heap.size,_,_,rfl,Nat.le_refl _,(MapKept.heap_alloc w.drew _).1,Nat.zero_le _,hcm,?_,by simp⟩⟩
 rw [Array.size_append,size_zeroCells,size_zeroCells,←Nat.add_mul,show n+(grownCap w n 0 137-n)=grownCap w n 0 137 from by omega]
 rfl
set_option maxHeartbeats 1000000 in
theorem yuc (n:Nat) (w:World) (hn:n≤4194304):
  Calls Tryz.prog 141 #[.slice none 0 0,.int .i64 (n:Int)] w fun e w'=>∃v,e= .returned v∧w'.ownsRow w.heap.size 137 4 v 0 []∧Below w.heap.size w w':=by
 by_cases h0:n=0
 ·subst h0
  go_enter Tryz.func141,Tryz.ntmps141
  go_wp2
  go_ret
  exact⟨.slice none 0 0,rfl,World.ownsRow_nil w _ 137 4,Below.refl _ _⟩
 ·have hp:0<n:=by omega
  have hp':(0:Int)<(n:Int):=by omega
  have hge:=grownCap_ge w n 0 137
  have hcm:grownCap w n 0 137≤maxLen:=grownCap_le_maxLen w n 0 137 (by unfold maxLen;omega)
  have HR:=hidWGr (yrl w n hn)
  go_enter Tryz.func141,Tryz.ntmps141
  go_wp2_with (at_builtin;refine ygp rfl _ _ rfl n rfl rfl hp hn ?_)
  go_ret
  exact⟨.slice (some ⟨w.heap.size,0,none⟩) 0 (grownCap w n 0 137),rfl,HR.out,(Below.refl _ w).drew.alloc (Nat.le_refl _) _⟩
theorem yi7 {p:Prop} (h:p):Hid p:=h
structure CPart where
 a:Option Addr
 c:Nat
 l:List (List Int)
def partAt (ps:List CPart) (i:Nat):CPart:=ps.getD i ⟨none,0,[]⟩
def PartsAt (w:World) (B:Nat) (ps:List CPart):Prop:=B<w.heap.size∧ ∀i,i<ps.length→w.cell? ⟨B,i,none⟩=some (.slice (partAt ps i).a (partAt ps i).l.length (partAt ps i).c)∧(((partAt ps i).a=none∧(partAt ps i).c=0∧(partAt ps i).l= [])∨ ∃b off,(partAt ps i).a=some ⟨b,off,none⟩∧((partAt ps i).l= []∨VcAt w b off (partAt ps i).l))
theorem PartsAt.below {w w':World} {B:Nat} {ps:List CPart} (h:PartsAt w B ps) (hb:Below w.heap.size w w'):PartsAt w' B ps:=
 ⟨Nat.lt_of_lt_of_le h.1 hb.size,fun i hi=>⟨(hb.cell (p:=⟨B,i,none⟩) h.1).trans (h.2 i hi).1,(h.2 i hi).2.imp id (fun⟨b,off,e1,e2⟩=>⟨b,off,e1,e2.imp id (fun e=>e.below hb)⟩)⟩⟩
def ydh (ps:List CPart):Nat→List (List Int)
 |0=> []
 |k+1=>ydh ps k++(partAt ps k).l
theorem ypu (ps:List CPart) (k n:Nat) (h:k≤n):(ydh ps k).length≤(ydh ps n).length:=by
 induction n with
 |zero=>rw [show k=0 by omega];exact Nat.le_refl _
 |succ n ih=>
  by_cases e:k=n+1
  ·rw [e];exact Nat.le_refl _
  ·have:=ih (by omega)
   simp only [ydh,List.length_append]
   omega
set_option maxRecDepth 100000 in
set_option maxHeartbeats 2000000 in
theorem concatA (B:Nat) (ps:List CPart) (w:World) (hps:ps.length≤1000) (hn:(ydh ps ps.length).length≤4194304) (hP:PartsAt w B ps):
  Calls Tryz.prog 93 #[.slice (some ⟨B,0,none⟩) ps.length ps.length] w fun e w'=>∃x,e= .returned x∧RowA w.heap.size w' x (ydh ps ps.length)∧Below w.heap.size w w':=by
 obtain⟨i0,hi,hz0,hz1,hz2⟩:=info_parts ypa
 have HP:Hid (PartsAt w B ps):=hP
 clear hP
 have HN:=yi7 hn
 clear hn
 go_enter Tryz.func93,Tryz.ntmps93
 go_wp2
 go_loop [3,11] (fun z i=>∃k:Nat,k≤ps.length∧i= .int .i64 k∧z= .int .i64 ((ydh ps k).length:Int)) (fun _ i=>ps.length-(intOf i).toNat)
 case atStart=>exact⟨0,Nat.zero_le _,rfl,rfl⟩
 case round=>
  obtain⟨k,hk,rfl,rfl⟩:=hrel
  by_cases hlt:k<ps.length
  ·have hc:=(HP.out.2 k hlt).1
   have hle:=ypu ps (k+1) ps.length (by omega)
   have hsum:(ydh ps (k+1)).length=(ydh ps k).length+(partAt ps k).l.length:=by simp [ydh]
   generalize hA:(ydh ps k).length=A at hsum⊢
   generalize hL:(partAt ps k).l.length=L at hsum hc
   have hA1:(A:Int)+(L:Int)≤4194304:=by have:=HN.out;omega
   have hA2:(0:Int)≤(A:Int)+(L:Int):=by omega
   have HS:=yi7 hsum
   clear hA hL hsum hle
   go_wp2
   go_round
   case rel=>exact⟨k+1,by omega,by go_num,by rw [HS.out];go_num⟩
   case measure=>simp [intOf];omega
  ·obtain rfl:k=ps.length:=by omega
   generalize hT:(ydh ps ps.length).length=T
   have HT:=yi7 hT
   have hT1:T≤4194304:=by have:=HN.out;omega
   clear hT
   go_wp2_with (go_at_call 141;refine(yuc T _ hT1).mono ?_;rintro e w1 ⟨v0,rfl,hr1,hb1⟩)
   have HR1:=yi7 hr1
   have HB1:=yi7 hb1
   clear hr1 hb1
   go_loopw [6,27] (fun v i wr=>∃k:Nat,k≤ps.length∧i= .int .i64 k∧Hid (wr.ownsRow w.heap.size 137 4 v (ydh ps k).length (ybz (ydh ps k)))∧Hid (Below w.heap.size w wr)) (fun _ i _=>ps.length-(intOf i).toNat)
   case atStart=>exact⟨0,Nat.zero_le _,rfl,HR1.out,HB1.out⟩
   case round=>
    clear HR1 HB1
    obtain⟨k,hk,rfl,HR,HB⟩:=hrel
    by_cases hlt:k<ps.length
    ·have hPk:=HP.out.below HB.out
     have hc:=(hPk.2 k hlt).1
     have HE:=yi7 ((hPk.2 k hlt).2)
     clear hPk
     have hle:=ypu ps (k+1) ps.length (by omega)
     have hsum:(ydh ps (k+1)).length=(ydh ps k).length+(partAt ps k).l.length:=by simp [ydh]
     have hsz:w.heap.size≤wr.heap.size:=HB.out.size
     have hb1:(ydh ps k).length+(partAt ps k).l.length≤4194304:=by have:=HN.out;omega
     have HS:=yi7 hsum
     clear hle hsum
     rcases HE.out with ⟨ha,hcz,hl0⟩|⟨b,off,ha,hE⟩
     ·have HL:=yi7 hl0
      rw [ha,hcz,hl0]at hc
      simp only [List.length_nil]at hc
      clear ha hcz hl0 HE hb1
      go_wp2_with (at_builtin;refine wpList_append_own_none rfl _ _ 131 rfl w.heap.size 137 i0 4 Tryz.underlying131 hi _ (ydh ps k).length (ybz (ydh ps k)) rfl HR.out rfl ?_)
      go_roundw
      case rel=>exact⟨k+1,by omega,by go_num,by rw [show ydh ps (k+1)=ydh ps k from by show ydh ps k++(partAt ps k).l=_;rw [HL.out,List.append_nil]];exact HR.out,HB.out⟩
      case measure=>simp [intOf];omega
     ·rw [ha]at hc
      have HC:Hid (∀j u,(ybz (partAt ps k).l)[j]? =some u→wr.cell? ((⟨b,off,none⟩:Addr).add j)=some u):=by
       rcases hE with h|h
       ·exact fun j u hu=>by rw [h]at hu;cases hu
       ·exact h.cells
      clear ha hE HE
      go_wp2_with (at_builtin;refine wpList_append_own _ rfl _ _ 131 rfl w.heap.size 137 i0 _ 4 32 Tryz.underlying131 hi hz0 hz1 hz2 rfl (by decide) _ (ydh ps k).length (ybz (ydh ps k)) rfl HR.out ⟨b,off,none⟩ (partAt ps k).l.length (partAt ps k).c (ybz (partAt ps k).l) rfl (yhr _) HC.out (yk5 _) (by unfold maxLen;omega) (by omega) hsz ?_;intro v' w2 hown hgrow hnil)
      go_roundw
      case rel=>exact⟨k+1,by omega,by go_num,by rw [HS.out];show World.ownsRow _ _ _ _ _ _ (ybz (ydh ps k++(partAt ps k).l));rw [yhs];exact hown,HB.out.grown hgrow hsz (fun r e=>(World.ownsRow.lt HR.out r e).1)⟩
      case measure=>simp [intOf];omega
    ·obtain rfl:k=ps.length:=by omega
     go_wp2
     go_ret
     exact⟨_,rfl,HR.out,HB.out⟩
theorem yco {p:Prop} (h:p):Hid p:=h
theorem vecs_len {v:Wd} (h:yek v.k):∀j,j<(dsOf v.k).length→(vAt (dsOf v.k) j).length≤1048576:=fun j hj=>by
 rw [ycb]at hj
 rw [yjp hj]
 have h9:=(h.2 j hj).2
 unfold Kn.wt at h9
 rw [yao]at h9
 omega
theorem yt3 {B1 B2:Nat} {w V:World} {y1 y2:Value} {l1 l2:List (List Int)} {g:Nat} (h1:RowA B1 w y1 l1) (h2:RowA B2 w y2 l2) (hb:Below w.heap.size w V) (hB:Bk V g 131 #[y1,y2]):∃ps:List CPart,ps.length=2∧ydh ps 2=l1++l2∧PartsAt V g ps:=by
 have e:∀{B:Nat} {y:Value} {l:List (List Int)},RowA B w y l→ ∃a c,y= .slice a l.length c∧((a=none∧c=0∧l= [])∨ ∃b off,a=some ⟨b,off,none⟩∧(l= []∨VcAt V b off l)):=fun h=>by
  rcases RowA.at h with ⟨rfl,rfl⟩|⟨g,cap,rfl,_,_,h3⟩
  ·exact⟨none,0,rfl,.inl ⟨rfl,rfl,rfl⟩⟩
  ·exact⟨_,cap,rfl,.inr ⟨g,0,rfl,.inr (h3.below hb)⟩⟩
 obtain⟨a1,c1,rfl,k1⟩:=e h1
 obtain⟨a2,c2,rfl,k2⟩:=e h2
 refine⟨[⟨a1,c1,l1⟩,⟨a2,c2,l2⟩],rfl,rfl,hB.lt,fun i hi=> ?_⟩
 have h4:i=0∨i=1:=by simp at hi;omega
 rcases h4 with rfl|rfl
 ·exact⟨hB.cell (i:=0) rfl,k1⟩
 ·exact⟨hB.cell (i:=1) rfl,k2⟩
theorem RowA.below {B:Nat} {w w':World} {x:Value} {l:List (List Int)} (h:RowA B w x l) (hb:Below w.heap.size w w'):RowA B w' x l:=owB h hb
set_option maxRecDepth 100000 in
set_option maxHeartbeats 16000000 in
theorem iWorldOk (x:Value) (v:Wd) (w:World) (hs:ycs v) (h:IsW w x v):
  Calls Tryz.prog 45 #[x] w fun e w'=>e= .returned (.bool v.ok)∧Below w.heap.size w w':=by
 have HSW:Hid (ycs v):=hs
 have h0:=h
 have HSM:Hid (SmallM v.m):=hs.1
 have HSK:Hid (yek v.k):=hs.2.1
 have HSV:=yco hs.2.2
 have hkl:v.k.length≤1048576:=hs.2.1.1
 have hcl:v.c.length≤1048576:=by have h9:=hs.2.2;rw [ydy]at h9;omega
 obtain⟨ai,ci,ah,ch,ae,ce,ak,ck,ac,cc,rfl,hm,hk,hc⟩:=h.form
 have HWW:=yco h
 have HMW:=yco hm
 have HKS:=yco hk
 have HCS:=yco hc
 have HCD:Hid (IsD w (.slice ac v.c.length cc) (yce v.c)):=by
  obtain⟨_,_,_,_,uc,e9,_,_,h9⟩:=h0
  have e8:=congrArg Array.toList (Value.agg.inj e9)
  simp at e8
  rw [←e8.2.2.2.2]at h9
  exact h9
 clear h h0 hm hk hc
 obtain⟨W0,hW0⟩:∃W0,w.alloc (.cells #[.int .i64 v.m.n,.int .i64 v.m.s,.slice ai v.m.i.length ci,.slice ah v.m.h.length ch,.slice ae v.m.e.length ce,.int .i64 v.m.z,.slice ak v.k.length ck,.slice ac v.c.length cc] 39)=W0:=⟨_,rfl⟩
 have HB0:=hdq (beA hW0)
 have HP0:=hdq (bkA hW0)
 obtain⟨q0,q1,q2,q3,q4,q5,q6,q7⟩:=c8_8 HP0.out
 by_cases c4:v.k.length≤16
 case neg=>
  have c4':(16:Int)<(v.k.length:Int):=by omega
  have HN:Hid (v.ok=false):=yad (fun h=>c4 (wok_iff.1 h).1.2.1)
  clear c4
  go_enter Tryz.func45,Tryz.ntmps45
  go_wp2
  go_ret
  exact⟨ya1 HN.out.symm,HB0.out⟩
 have c4':¬(16:Int)<(v.k.length:Int):=by omega
 by_cases c5:v.c.length≤100
 case neg=>
  have c5':(100:Int)<(v.c.length:Int):=by omega
  have HN:Hid (v.ok=false):=yad (fun h=>c5 (wok_iff.1 h).1.2.2)
  clear c5
  go_enter Tryz.func45,Tryz.ntmps45
  go_wp2
  go_ret
  exact⟨ya1 HN.out.symm,HB0.out⟩
 have c5':¬(100:Int)<(v.c.length:Int):=by omega
 have HLN:Hid (v.k.length≤16∧v.c.length≤100):=⟨c4,c5⟩
 go_enter Tryz.func45,Tryz.ntmps45
 go_wp2_with fail
 clear q0 q1 q2 q3 q4 q5 q6 q7 c4' c5' hW0
 refine(runs_any _ v _ HSW.out (HWW.out.under HB0.out)).mono ?_
 rintro e w1 ⟨y1,rfl,hb1,hr1⟩
 have HB1:=yco (trm HB0.out hb1)
 have HP1:=yco (HP0.out.below hb1)
 have HD1:=yco (hr1.isD hb1)
 clear hb1 hr1 HB0 HP0
 go_wp2_with fail
 refine(in_any y1 (dsOf v.k) w1 (by rw [ycb];omega) (vecs_len HSK.out) HD1.out).mono ?_
 rintro e w2 ⟨hb2,hin⟩
 have HB2:=yco (trm HB1.out hb2)
 have HP2:=yco (HP1.out.below hb2)
 clear hb2 HB1 HP1 HD1
 obtain⟨y2,b2,rfl,HI2⟩:∃y2 b2,e= .returned (.tuple #[y2,.bool b2])∧Hid ((b2=true∧yi4 (dsOf v.k)=true∧ ∃B,RowA B w2 y2 (dsOf v.k))∨(b2=false∧yi4 (dsOf v.k)=false)):=by
  rcases hin with ⟨h1,y,rfl,h2⟩|⟨h1,rfl⟩
  ·exact⟨y,true,rfl,.inl ⟨rfl,h1,_,h2⟩⟩
  ·exact⟨_,false,rfl,.inr ⟨rfl,h1⟩⟩
 clear hin
 have q7:=HP2.out.cell (i:=7) rfl
 go_wp2_with fail
 clear q7
 refine(in_any (.slice ac v.c.length cc) v.c w2 (by omega) (fun j hj=>Nat.le_trans (yls hj) HSV.out) (HCD.out.under HB2.out)).mono ?_
 rintro e w3 ⟨hb3,hin⟩
 have HB3:=yco (trm HB2.out hb3)
 have HP3:=yco (HP2.out.below hb3)
 have HI23:Hid ((b2=true∧yi4 (dsOf v.k)=true∧ ∃B,RowA B w3 y2 (dsOf v.k))∨(b2=false∧yi4 (dsOf v.k)=false)):=HI2.out.imp (fun⟨h1,h2,B,h3⟩=>⟨h1,h2,B,h3.below hb3⟩) id
 clear hb3 HB2 HP2 HI2
 obtain⟨y3,b3,rfl,HI3⟩:∃y3 b3,e= .returned (.tuple #[y3,.bool b3])∧Hid ((b3=true∧yi4 v.c=true∧ ∃B,RowA B w3 y3 v.c)∨(b3=false∧yi4 v.c=false)):=by
  rcases hin with ⟨h1,y,rfl,h2⟩|⟨h1,rfl⟩
  ·exact⟨y,true,rfl,.inl ⟨rfl,h1,_,h2⟩⟩
  ·exact⟨_,false,rfl,.inr ⟨rfl,h1⟩⟩
 clear hin
 rcases HI23.out with ⟨rfl,hk1,B1,hk2⟩|⟨rfl,hk1⟩
 case inr=>
  have HN:Hid (v.ok=false):=yad (fun h=>by
   have h1:=(wok_iff.1 h).2.1
   have h2:yi4 (dsOf v.k)=true:=allVk_iff.2 (fun i hi=>by
    rw [ycb]at hi
    rw [yjp hi]
    exact(yl9 (runB_iff.1 (h1 i hi)).1).2)
   rw [hk1]at h2
   cases h2)
  clear hk1
  go_wp2
  go_ret
  exact⟨ya1 HN.out.symm,HB3.out⟩
 rcases HI3.out with ⟨rfl,hc1,B2,hc2⟩|⟨rfl,hc1⟩
 case inr=>
  have HN:Hid (v.ok=false):=yad (fun h=>by
   have h2:yi4 v.c=true:=allVk_iff.2 (wok_iff.1 h).2.2.1
   rw [hc1]at h2
   cases h2)
  clear hk1 hk2 hc1
  go_wp2
  go_ret
  exact⟨ya1 HN.out.symm,HB3.out⟩
 have HAV:=yco (allVk_iff.1 hc1)
 obtain⟨V4,hV4⟩:∃V4,w3.alloc (.cells #[y2,y3] 131)=V4:=⟨_,rfl⟩
 have hb4:=beA hV4
 have hK4:=bkA hV4
 obtain⟨ps,hps,hcat,hPA⟩:=yt3 hk2 hc2 hb4 hK4
 have HPA:=yco hPA
 have HCAT:Hid (ydh ps ps.length=allV v):=by rw [hps];exact hcat
 have HPS:Hid (ps.length=2):=hps
 have HCON:Hid (Calls Tryz.prog 93 #[.slice (some ⟨w3.heap.size,0,none⟩) 2 2] V4 fun e w'=>∃x,e= .returned x∧RowA V4.heap.size w' x (allV v)∧Below V4.heap.size V4 w'):=by
  have h9:=concatA w3.heap.size ps V4 (by rw [hps];omega) (by rw [HCAT.out];unfold allV;rw [List.length_append,ycb];omega) hPA
  rw [HCAT.out,hps]at h9
  exact h9
 have HB4:=yco (trm HB3.out hb4)
 have HP4:=yco (HP3.out.below hb4)
 obtain⟨a2,c2,rfl⟩:=yau hk2
 obtain⟨a3,c3,rfl⟩:=yau hc2
 clear hk1 hk2 hc1 hc2 hb4 hK4 hps hcat hPA HPA HI23 HI3
 go_wp2_with fail
 clear hV4
 refine HCON.out.mono ?_
 rintro e w5 ⟨y5,rfl,hr5,hb5⟩
 have HB5:=yco (trm HB4.out hb5)
 have HP5:=yco (HP4.out.below hb5)
 have HR5:=yco hr5
 clear hr5 hb5 HB4 HP4 HCON
 go_wp2_with fail
 refine(none_any y5 (allV v) w5 (by unfold allV;rw [List.length_append,ycb];omega) HR5.out.at).mono ?_
 rintro e w6 ⟨rfl,hb6⟩
 have HB6:=yco (trm HB5.out hb6)
 have HP6:=yco (HP5.out.below hb6)
 clear hb6 HB5 HP5
 cases hnm:noMB (allV v)
 case false=>
  have HN:Hid (v.ok=false):=yad (fun h=>by have h2:=(wok_iff.1 h).2.2.2;rw [hnm]at h2;cases h2)
  clear hnm
  go_wp2
  go_ret
  exact⟨ya1 HN.out.symm,HB6.out⟩
 have HNM:=yco hnm
 clear hnm
 obtain⟨q0,q1,q2,q3,q4,q5,q6,q7⟩:=c8_8 HP6.out
 go_wp2_with fail
 clear q0 q1 q2 q3 q4 q5 q6 q7
 refine(iRunsOk _ v _ HSW.out (HWW.out.under HB6.out)).mono ?_
 rintro e w7 ⟨rfl,hb7⟩
 have HB7:=yco (trm HB6.out hb7)
 clear hb7
 have HEQ:Hid (yiz v=v.ok):=by
  cases hr:yiz v
  ·exact(yad (fun h=>by have h9:yiz v=true:=runsB_iff.2 ⟨(wok_iff.1 h).1.1,(wok_iff.1 h).2.1⟩;rw [hr]at h9;cases h9)).symm
  ·exact(wok_iff.2 ⟨⟨(runsB_iff.1 hr).1,HLN.out.1,HLN.out.2⟩,(runsB_iff.1 hr).2,HAV.out,HNM.out⟩).symm
 go_wp2
 go_ret
 exact⟨ya1 HEQ.out,HB7.out⟩
end Go.Proofs.YtmobiieoecjmdaaGreat

