/- The specification's Differ. -/
import Derived.Test.YtmobiieoecjmdaaGreatExactDifferG01
import Derived.Test.YtmobiieoecjmdaaGreatExactDifferG25
import Derived.Test.YtmobiieoecjmdaaGreatExactDifferLCtS
import Derived.Test.YtmobiieoecjmdaaGreatExactDifferLDfP
import Derived.Deep.RegionHeld3
namespace Go.Proofs.YtmobiieoecjmdaaGreat
open Go.RowKit
theorem ye4 {p:Prop} (h:p):Hid p:=h
theorem ynz {v:Wd} (hok:v.ok=true) {i:Nat} (hi:i<v.k.length):(knAt v.k i).ok=true:=(runB_iff.1 ((wok_iff.1 hok).2.1 i hi)).1
noncomputable def difF (v : Wd) (i k : Int) : Bool := (v.ok && (decide (0 ≤ i) && decide (i < v.k.length))) && (decide (0 ≤ k) && decide (k < v.k.length))
def yco (k:Kn):List Em:=ydh k (comL k)
noncomputable def difA (v : Wd) (i k : Int) : Int := if difF v i k = true then ((alN (yco (knAt v.k i.toNat)) (yco (knAt v.k k.toNat)) : Nat) : Int) else 0
theorem yje {v:Wd} {i k:Int} (h:difF v i k=false):difA v i k=0:=by unfold difA;rw [h];rfl
theorem yt3 {v:Wd} {i k:Int} (h:difF v i k=true):difA v i k=((alN (yco (knAt v.k i.toNat)) (yco (knAt v.k k.toNat)):Nat):Int):=by unfold difA;rw [if_pos h]
theorem ydi {a b:Int} {c d:Bool} (h:a=b) (h2:c=d):Ending.returned (.tuple #[.int .i64 a,.bool c])= .returned (.tuple #[.int .i64 b,.bool d]):=by rw [h,h2]
theorem yst (a:Option Addr) (n c:Nat) (b:Option Addr) (m d:Nat) (q:Int) (f:Bool):∀w:World,(Instr.field 62 (.agg #[.slice a n c,.slice b m d,.int .i64 q,.bool f]) 1).run Tryz.prog w= .ok (.slice b m d) w:=fun _=>by kernel_rfl
theorem yns (x:Value) (k:Kn) (w:World) (hs:yau k) (hok:k.ok=true) (h:IsKern w x k):
  Calls Tryz.prog 59 #[x] w fun e w'=>∃ay ny cy ax cx,e= .returned (.agg #[.slice ay ny cy,.slice ax (yco k).length cx,.int .i64 k.q,.bool k.f])∧IsX w' (.slice ax (yco k).length cx) (yco k)∧Below w.heap.size w w':=by
 refine(sCommit1 x k w hs hok h).mono ?_
 rintro e w' ⟨ay,cy,ax,cx,rfl,_,hx,hb⟩
 exact⟨ay,_,cy,ax,cx,rfl,RowF.isX (yjx (ydt _) hx),hb⟩
theorem ynl {k:Kn} (h:k.ok=true):(yco k).length≤1048577:=by
 have h1:=(kern_iff.1 h).1
 have h3:=yjn h (pre:=comL k) (t:= []) (by simp)
 unfold yco
 omega
set_option maxRecDepth 100000 in
set_option maxHeartbeats 32000000 in
theorem sDiffer (x:Value) (v:Wd) (i k:Int) (w:World) (hs:ycb v) (h:IsW w x v):
  Calls Tryz.prog 36 #[x,.int .i64 i,.int .i64 k] w fun e w'=>e= .returned (.tuple #[.int .i64 (difA v i k),.bool (difF v i k)])∧Below w.heap.size w w':=by
 have HSW:Hid (ycb v):=hs
 have hkl:v.k.length≤1048576:=hs.2.1.1
 have hcl:v.c.length≤1048576:=by have h9:=hs.2.2;rw [ydx]at h9;omega
 obtain⟨ai,ci,ah,ch,ae,ce,ak,ck,ac,cc,rfl,hm,hk,hc⟩:=h.form
 have HWW:=ye4 h
 have HKS:=ye4 hk
 clear h hm hk hc
 obtain⟨W0,hW0⟩:∃W0,w.alloc (.cells #[.int .i64 v.m.n,.int .i64 v.m.s,.slice ai v.m.i.length ci,.slice ah v.m.h.length ch,.slice ae v.m.e.length ce,.int .i64 v.m.z,.slice ak v.k.length ck,.slice ac v.c.length cc] 39)=W0:=⟨_,rfl⟩
 have HB0:=hdq (beA hW0)
 have HP0:=hdq (bkA hW0)
 have hs0:w.heap.size<W0.heap.size:=HP0.out.lt
 obtain⟨q0,q1,q2,q3,q4,q5,q6,q7⟩:=c8_8 HP0.out
 go_enter Tryz.func36,Tryz.ntmps36
 go_wp2_with fail
 clear q0 q1 q2 q3 q4 q5 q6 q7 hW0
 cases hat:(v.ok&&(decide (0≤i)&&decide (i<v.k.length)))
 case false=>
  have HFLG:Hid (difF v i k=false):=(by unfold difF;rw [hat];rfl:difF v i k=false)
  have HANS:Hid (difA v i k=0):=yje HFLG.out
  refine(ynx _ v i false hat _ HSW.out (HWW.out.under HB0.out)).mono ?_
  rintro e w1 ⟨rfl,hb1⟩
  have HB1:=ye4 (trm HB0.out hb1)
  clear hb1 hat
  go_wp2
  refine bodyPost_ret (v:= .tuple #[.int .i64 0,.bool false]) (by simp [results,Tryz.results36,go_sem]) rfl ⟨ydi HANS.out.symm HFLG.out.symm,HB1.out⟩
 refine(ynx _ v i true hat _ HSW.out (HWW.out.under HB0.out)).mono ?_
 rintro e w1 ⟨rfl,hb1⟩
 have HB1:=ye4 (trm HB0.out hb1)
 have HP1:=ye4 (HP0.out.below hb1)
 have HAT:=ye4 hat
 simp only [Bool.and_eq_true,decide_eq_true_eq]at hat
 have HOKW:Hid (v.ok=true):=hat.1
 have hi0:=hat.2.1
 have hi1:=hat.2.2
 have q6:=HP1.out.cell (i:=6) rfl
 clear hb1 HB0 HP0 hat
 by_cases c1:k<0
 case pos=>
  have HFLG:Hid (difF v i k=false):=(by unfold difF;rw [show decide (0≤k)=false from decide_eq_false (by omega)];simp:difF v i k=false)
  have HANS:Hid (difA v i k=0):=yje HFLG.out
  have c1':decide (k<0)=true:=decide_eq_true c1
  clear c1
  go_wp2
  refine bodyPost_ret (v:= .tuple #[.int .i64 0,.bool false]) (by simp [results,Tryz.results36,go_sem]) rfl ⟨ydi HANS.out.symm HFLG.out.symm,HB1.out⟩
 have c1':decide (k<0)=false:=decide_eq_false c1
 by_cases c2:(v.k.length:Int)≤k
 case pos=>
  have HFLG:Hid (difF v i k=false):=(by unfold difF;rw [show decide (k<v.k.length)=false from decide_eq_false (by omega)];simp:difF v i k=false)
  have HANS:Hid (difA v i k=0):=yje HFLG.out
  have c2':decide ((v.k.length:Int)≤k)=true:=decide_eq_true c2
  clear c1 c2
  go_wp2
  refine bodyPost_ret (v:= .tuple #[.int .i64 0,.bool false]) (by simp [results,Tryz.results36,go_sem]) rfl ⟨ydi HANS.out.symm HFLG.out.symm,HB1.out⟩
 have c2':decide ((v.k.length:Int)≤k)=false:=decide_eq_false c2
 have HFLG:Hid (difF v i k=true):=(by unfold difF;rw [HAT.out,show decide (0≤k)=true from decide_eq_true (by omega),show decide (k<v.k.length)=true from decide_eq_true (by omega)];rfl:difF v i k=true)
 have HAN0:=ye4 (yt3 HFLG.out)
 obtain⟨ia,rfl⟩:∃n:Nat,i=(n:Int):=⟨i.toNat,by omega⟩
 obtain⟨ib,rfl⟩:∃n:Nat,k=(n:Int):=⟨k.toNat,by omega⟩
 rw [Int.toNat_natCast,Int.toNat_natCast]at HAN0
 have hia:ia<v.k.length:=by omega
 have hib:ib<v.k.length:=by omega
 have hja:(ia:Int)<(v.k.length:Int):=by omega
 have hjb:(ib:Int)<(v.k.length:Int):=by omega
 obtain⟨b,off,rfl,hbl,hKA⟩:=HKS.out.resolve_left (by omega)
 clear c1 c2
 obtain⟨ki_1,di_1,kh_1,dh_1,ke_1,de_1,k6_1,d6_1,k7_1,d7_1,k8_1,d8_1,k12_1,d12_1,k13_1,d13_1,⟨f0,f1,f2,f3,f4,f5,f6,f7,f8,f9,f10,f11,f12,f13⟩,hkn,-,-⟩:=(hKA ia hia).form
 obtain⟨k1,hk1⟩:∃k,knAt v.k ia=k:=⟨_,rfl⟩
 rw [hk1]at hkn f0 f1 f2 f3 f4 f5 f6 f7 f8 f9 f10 f11 f12 f13
 have HKN1:=ye4 hkn
 have HSK1:Hid (yau k1):=hk1▸HSW.out.2.1.2 ia hia
 have HOK1:Hid (k1.ok=true):=hk1▸ynz HOKW.out hia
 have g1_0:=(HB1.out.cell (p:=⟨b,_,none⟩) hbl).trans f0
 have g1_1:=(HB1.out.cell (p:=⟨b,_,none⟩) hbl).trans f1
 have g1_2:=(HB1.out.cell (p:=⟨b,_,none⟩) hbl).trans f2
 have g1_3:=(HB1.out.cell (p:=⟨b,_,none⟩) hbl).trans f3
 have g1_4:=(HB1.out.cell (p:=⟨b,_,none⟩) hbl).trans f4
 have g1_5:=(HB1.out.cell (p:=⟨b,_,none⟩) hbl).trans f5
 have g1_6:=(HB1.out.cell (p:=⟨b,_,none⟩) hbl).trans f6
 have g1_7:=(HB1.out.cell (p:=⟨b,_,none⟩) hbl).trans f7
 have g1_8:=(HB1.out.cell (p:=⟨b,_,none⟩) hbl).trans f8
 have g1_9:=(HB1.out.cell (p:=⟨b,_,none⟩) hbl).trans f9
 have g1_10:=(HB1.out.cell (p:=⟨b,_,none⟩) hbl).trans f10
 have g1_11:=(HB1.out.cell (p:=⟨b,_,none⟩) hbl).trans f11
 have g1_12:=(HB1.out.cell (p:=⟨b,_,none⟩) hbl).trans f12
 have g1_13:=(HB1.out.cell (p:=⟨b,_,none⟩) hbl).trans f13
 clear hkn f0 f1 f2 f3 f4 f5 f6 f7 f8 f9 f10 f11 f12 f13
 obtain⟨ki_2,di_2,kh_2,dh_2,ke_2,de_2,k6_2,d6_2,k7_2,d7_2,k8_2,d8_2,k12_2,d12_2,k13_2,d13_2,⟨f0,f1,f2,f3,f4,f5,f6,f7,f8,f9,f10,f11,f12,f13⟩,hkn,-,-⟩:=(hKA ib hib).form
 obtain⟨k2,hk2⟩:∃k,knAt v.k ib=k:=⟨_,rfl⟩
 rw [hk2]at hkn f0 f1 f2 f3 f4 f5 f6 f7 f8 f9 f10 f11 f12 f13
 have HKN2:=ye4 hkn
 have HSK2:Hid (yau k2):=hk2▸HSW.out.2.1.2 ib hib
 have HOK2:Hid (k2.ok=true):=hk2▸ynz HOKW.out hib
 have g2_0:=(HB1.out.cell (p:=⟨b,_,none⟩) hbl).trans f0
 have g2_1:=(HB1.out.cell (p:=⟨b,_,none⟩) hbl).trans f1
 have g2_2:=(HB1.out.cell (p:=⟨b,_,none⟩) hbl).trans f2
 have g2_3:=(HB1.out.cell (p:=⟨b,_,none⟩) hbl).trans f3
 have g2_4:=(HB1.out.cell (p:=⟨b,_,none⟩) hbl).trans f4
 have g2_5:=(HB1.out.cell (p:=⟨b,_,none⟩) hbl).trans f5
 have g2_6:=(HB1.out.cell (p:=⟨b,_,none⟩) hbl).trans f6
 have g2_7:=(HB1.out.cell (p:=⟨b,_,none⟩) hbl).trans f7
 have g2_8:=(HB1.out.cell (p:=⟨b,_,none⟩) hbl).trans f8
 have g2_9:=(HB1.out.cell (p:=⟨b,_,none⟩) hbl).trans f9
 have g2_10:=(HB1.out.cell (p:=⟨b,_,none⟩) hbl).trans f10
 have g2_11:=(HB1.out.cell (p:=⟨b,_,none⟩) hbl).trans f11
 have g2_12:=(HB1.out.cell (p:=⟨b,_,none⟩) hbl).trans f12
 have g2_13:=(HB1.out.cell (p:=⟨b,_,none⟩) hbl).trans f13
 clear hkn f0 f1 f2 f3 f4 f5 f6 f7 f8 f9 f10 f11 f12 f13
 have HANS:Hid (difA v (ia:Int) (ib:Int)=((alN (yco k1) (yco k2):Nat):Int)):=(by rw [HAN0.out,hk1,hk2]:_=_)
 have hb1w:b<w1.heap.size:=Nat.lt_of_lt_of_le hbl HB1.out.size
 have hzz:w.heap.size<w1.heap.size:=HP1.out.lt
 clear hKA hk1 hk2 HAN0 q6
 have q6:=HP1.out.cell (i:=6) rfl
 go_upto_region 3 with fail
 go_region_held3 (fun W=>W.cell? ⟨w.heap.size,6,none⟩=some (.slice (some ⟨b,off,none⟩) v.k.length ck)∧W.cell? ⟨b,off+ia*14,none⟩=some (.int .i64 k1.m.n)∧W.cell? ⟨b,off+ia*14+1,none⟩=some (.int .i64 k1.m.s)∧W.cell? ⟨b,off+ia*14+2,none⟩=some (.slice ki_1 k1.m.i.length di_1)∧W.cell? ⟨b,off+ia*14+3,none⟩=some (.slice kh_1 k1.m.h.length dh_1)∧W.cell? ⟨b,off+ia*14+4,none⟩=some (.slice ke_1 k1.m.e.length de_1)∧W.cell? ⟨b,off+ia*14+5,none⟩=some (.int .i64 k1.m.z)∧W.cell? ⟨b,off+ia*14+6,none⟩=some (.slice k6_1 k1.d.length d6_1)∧W.cell? ⟨b,off+ia*14+7,none⟩=some (.slice k7_1 k1.p.length d7_1)∧W.cell? ⟨b,off+ia*14+8,none⟩=some (.slice k8_1 k1.b.length d8_1)∧W.cell? ⟨b,off+ia*14+9,none⟩=some (.int .i64 k1.t)∧W.cell? ⟨b,off+ia*14+10,none⟩=some (.int .i64 k1.q)∧W.cell? ⟨b,off+ia*14+11,none⟩=some (.bool k1.f)∧W.cell? ⟨b,off+ia*14+12,none⟩=some (.slice k12_1 k1.s.length d12_1)∧W.cell? ⟨b,off+ia*14+13,none⟩=some (.slice k13_1 k1.x.length d13_1)∧W.cell? ⟨b,off+ib*14,none⟩=some (.int .i64 k2.m.n)∧W.cell? ⟨b,off+ib*14+1,none⟩=some (.int .i64 k2.m.s)∧W.cell? ⟨b,off+ib*14+2,none⟩=some (.slice ki_2 k2.m.i.length di_2)∧W.cell? ⟨b,off+ib*14+3,none⟩=some (.slice kh_2 k2.m.h.length dh_2)∧W.cell? ⟨b,off+ib*14+4,none⟩=some (.slice ke_2 k2.m.e.length de_2)∧W.cell? ⟨b,off+ib*14+5,none⟩=some (.int .i64 k2.m.z)∧W.cell? ⟨b,off+ib*14+6,none⟩=some (.slice k6_2 k2.d.length d6_2)∧W.cell? ⟨b,off+ib*14+7,none⟩=some (.slice k7_2 k2.p.length d7_2)∧W.cell? ⟨b,off+ib*14+8,none⟩=some (.slice k8_2 k2.b.length d8_2)∧W.cell? ⟨b,off+ib*14+9,none⟩=some (.int .i64 k2.t)∧W.cell? ⟨b,off+ib*14+10,none⟩=some (.int .i64 k2.q)∧W.cell? ⟨b,off+ib*14+11,none⟩=some (.bool k2.f)∧W.cell? ⟨b,off+ib*14+12,none⟩=some (.slice k12_2 k2.s.length d12_2)∧W.cell? ⟨b,off+ib*14+13,none⟩=some (.slice k13_2 k2.x.length d13_2)) ((repeat' apply And.intro)<;>first|(go_keep;done)|(rw [hcA _ _ (by first|omega|(simp;omega))];simp [*];done))
  (first|(go_at_call 59;refine(yns _ k2 _ HSK2.out HOK2.out (HKN2.out.under (trm HB1.out ((Below.refl _ w1).drew.trans hbw7)))).mono ?_;rintro e w8 ⟨ay2,ny2,cy2,ax2,cx2,rfl,hX8,hbw8⟩;obtain⟨hcA,hfA⟩:=yf1 hbw8;have hzw8:w7.heap.size≤w8.heap.size:=hbw8.size;have hfd2:=yst ay2 ny2 cy2 ax2 (yco k2).length cx2 k2.q k2.f)|(go_at_call 59;refine(yns _ k1 _ HSK1.out HOK1.out (HKN1.out.under HB1.out.drew)).mono ?_;rintro e w7 ⟨ay1,ny1,cy1,ax1,cx1,rfl,hX7,hbw7⟩;obtain⟨hcA,hfA⟩:=yf1 hbw7;have hzw7:w1.heap.size≤w7.heap.size:=hbw7.size;have hfd1:=yst ay1 ny1 cy1 ax1 (yco k1).length cx1 k1.q k1.f))
 clear hcA hfA hfd1 hfd2
 have HB8:=ye4 (HB1.out.trans ((((Below.refl w1.heap.size w1).drew.trans (hbw7.mono (Nat.le_refl _))).trans (hbw8.mono hzw7)).mono HB1.out.size))
 have hXA:=hX7.below hbw8
 have HLA:=ye4 (ynl HOK1.out)
 generalize yco k1=a at hXA HANS HLA
 generalize yco k2=b' at hX8 HANS
 clear hX7 hbw7 hbw8 hzw7 hzw8 hb1w hbl q6 g1_0 g2_0 g1_1 g2_1 g1_2 g2_2 g1_3 g2_3 g1_4 g2_4 g1_5 g2_5 g1_6 g2_6 g1_7 g2_7 g1_8 g2_8 g1_9 g2_9 g1_10 g2_10 g1_11 g2_11 g1_12 g2_12 g1_13 g2_13
 obtain⟨_,_,e1,-,-,hx⟩:=hXA
 obtain⟨_,_,e2,-,-,hy⟩:=hX8
 cases e1
 cases e2
 have HA:=ye4 hx
 have HBB:=ye4 hy
 have ha:=HLA.out
 clear hx hy
 go_wp2
 go_loopw [10] (fun i wr=>∃j:Nat,j≤a.length∧i= .int .i64 j∧alN a b'=alF a b' (a.length+1-j) j∧Below w8.heap.size w8 wr) (fun i _=>a.length+1-(intOf i).toNat)
 case atStart=>exact⟨0,Nat.zero_le _,rfl,rfl,Below.refl _ _⟩
 case round=>
  obtain⟨j,hj,rfl,hal,hbr⟩:=hrel
  have HAL:=ye4 hal
  have HBr:=ye4 hbr
  have hne:=neB wr
  clear hal hbr
  by_cases hgo:j<a.length∧j<b'.length∧eqEm (xAt a j) (xAt b' j)=true
  ·obtain⟨hja,hjb,heq⟩:=hgo
   obtain⟨ba,oa,rfl,hba,hca⟩:=HA.out.resolve_left (by intro e;rw [e]at hja;simp at hja)
   obtain⟨bb,ob,rfl,hbb,hcb⟩:=HBB.out.resolve_left (by intro e;rw [e]at hjb;simp at hjb)
   have hba1:ba<wr.heap.size:=Nat.lt_of_lt_of_le hba HBr.out.size
   have hbb1:bb<wr.heap.size:=Nat.lt_of_lt_of_le hbb HBr.out.size
   obtain⟨x0,x1,x2⟩:=(hca j hja).below HBr.out hba
   obtain⟨y0,y1,y2⟩:=(hcb j hjb).below HBr.out hbb
   clear hca hcb
   have g0:∀q:Beyond wr,q.w.cell? ⟨ba,oa+j*3,none⟩=some (.int .i64 (xAt a j).t):=fun q=>q.cell hba1 x0
   have g1:∀q:Beyond wr,q.w.cell? ⟨ba,oa+j*3+1,none⟩=some (.int .i64 (xAt a j).l):=fun q=>q.cell hba1 x1
   have g2:∀q:Beyond wr,q.w.cell? ⟨ba,oa+j*3+2,none⟩=some (.int .i64 (xAt a j).v):=fun q=>q.cell hba1 x2
   have g3:∀q:Beyond wr,q.w.cell? ⟨bb,ob+j*3,none⟩=some (.int .i64 (xAt b' j).t):=fun q=>q.cell hbb1 y0
   have g4:∀q:Beyond wr,q.w.cell? ⟨bb,ob+j*3+1,none⟩=some (.int .i64 (xAt b' j).l):=fun q=>q.cell hbb1 y1
   have g5:∀q:Beyond wr,q.w.cell? ⟨bb,ob+j*3+2,none⟩=some (.int .i64 (xAt b' j).v):=fun q=>q.cell hbb1 y2
   clear x0 x1 x2 y0 y1 y2
   have hia:(j:Int)<(a.length:Int):=by omega
   have hib:(j:Int)<(b'.length:Int):=by omega
   have hmn:decide ((j:Int)<if b'.length<a.length then(b'.length:Int)else(a.length:Int))=true:=by rw [decide_eq_true_eq];split<;>omega
   have hz0:(xAt a j).t=(xAt b' j).t:=by simp [eqEm]at heq;exact heq.1.1
   have hz1:(xAt a j).l=(xAt b' j).l:=by simp [eqEm]at heq;exact heq.1.2
   have hz2:(xAt a j).v=(xAt b' j).v:=by simp [eqEm]at heq;exact heq.2
   rw [←hz0]at g3
   rw [←hz1]at g4
   rw [←hz2]at g5
   have HNX:Hid (alN a b'=alF a b' (a.length+1-(j+1)) (j+1)):=by
    show _=_
    rw [HAL.out,alF_go hja hjb heq]
   clear hz0 hz1 hz2 heq hba hbb
   obtain⟨xt,hxt⟩:∃z,(xAt a j).t=z:=⟨_,rfl⟩
   obtain⟨xl,hxl⟩:∃z,(xAt a j).l=z:=⟨_,rfl⟩
   obtain⟨xv,hxv⟩:∃z,(xAt a j).v=z:=⟨_,rfl⟩
   rw [hxt]at g0 g3
   rw [hxl]at g1 g4
   rw [hxv]at g2 g5
   clear hxt hxl hxv
   go_wp2_with fail
   refine wrb ?_
   repeat(go_big_quiet_step (fail))
   refine wpQuiet_nil ?_
   rintro w2 ⟨⟨_,hb3⟩,rfl⟩
   clear hne g0 g1 g2 g3 g4 g5
   go_wp2
   go_roundw
   case rel=>exact⟨j+1,by omega,by go_num,HNX.out,trm HBr.out hb3⟩
   case measure=>simp [intOf];omega
  ·have HEX:Hid (alN a b'=j):=by
    show _=_
    rw [HAL.out,ytk hgo]
   by_cases hja:j<a.length
   ·by_cases hjb:j<b'.length
    ·have hneq:¬(((xAt a j).t=(xAt b' j).t∧(xAt a j).l=(xAt b' j).l)∧(xAt a j).v=(xAt b' j).v):=fun h=>hgo ⟨hja,hjb,by simp [eqEm,h.1.1,h.1.2,h.2]⟩
     obtain⟨ba,oa,rfl,hba,hca⟩:=HA.out.resolve_left (by intro e;rw [e]at hja;simp at hja)
     obtain⟨bb,ob,rfl,hbb,hcb⟩:=HBB.out.resolve_left (by intro e;rw [e]at hjb;simp at hjb)
     have hba1:ba<wr.heap.size:=Nat.lt_of_lt_of_le hba HBr.out.size
     have hbb1:bb<wr.heap.size:=Nat.lt_of_lt_of_le hbb HBr.out.size
     obtain⟨x0,x1,x2⟩:=(hca j hja).below HBr.out hba
     obtain⟨y0,y1,y2⟩:=(hcb j hjb).below HBr.out hbb
     clear hca hcb
     have g0:∀q:Beyond wr,q.w.cell? ⟨ba,oa+j*3,none⟩=some (.int .i64 (xAt a j).t):=fun q=>q.cell hba1 x0
     have g1:∀q:Beyond wr,q.w.cell? ⟨ba,oa+j*3+1,none⟩=some (.int .i64 (xAt a j).l):=fun q=>q.cell hba1 x1
     have g2:∀q:Beyond wr,q.w.cell? ⟨ba,oa+j*3+2,none⟩=some (.int .i64 (xAt a j).v):=fun q=>q.cell hba1 x2
     have g3:∀q:Beyond wr,q.w.cell? ⟨bb,ob+j*3,none⟩=some (.int .i64 (xAt b' j).t):=fun q=>q.cell hbb1 y0
     have g4:∀q:Beyond wr,q.w.cell? ⟨bb,ob+j*3+1,none⟩=some (.int .i64 (xAt b' j).l):=fun q=>q.cell hbb1 y1
     have g5:∀q:Beyond wr,q.w.cell? ⟨bb,ob+j*3+2,none⟩=some (.int .i64 (xAt b' j).v):=fun q=>q.cell hbb1 y2
     clear x0 x1 x2 y0 y1 y2
     have hia:(j:Int)<(a.length:Int):=by omega
     have hib:(j:Int)<(b'.length:Int):=by omega
     have hmn:decide ((j:Int)<if b'.length<a.length then(b'.length:Int)else(a.length:Int))=true:=by rw [decide_eq_true_eq];split<;>omega
     generalize (xAt a j).t=xt at g0 hneq
     generalize (xAt a j).l=xl at g1 hneq
     generalize (xAt a j).v=xv at g2 hneq
     generalize (xAt b' j).t=yt at g3 hneq
     generalize (xAt b' j).l=yl at g4 hneq
     generalize (xAt b' j).v=yv at g5 hneq
     clear hgo hba hbb
     by_cases n0:xt=yt
     case neg=>
      have b0:(xt==yt)=false:=by simpa using n0
      clear hneq
      go_wp2_with fail
      refine wrb ?_
      repeat(go_big_quiet_step (fail))
      refine wpQuiet_nil ?_
      rintro w2 ⟨⟨_,hb3⟩,rfl⟩
      clear hne g0 g1 g2 g3 g4 g5
      go_wp2
      exact bodyPost_ret (v:= .tuple #[.int .i64 j,.bool true]) (by simp [results,Tryz.results36,go_sem]) rfl ⟨ydi (by rw [HANS.out,HEX.out]) HFLG.out.symm,trm HB8.out (HBr.out.trans (hb3.mono HBr.out.size))⟩
     subst n0
     by_cases n1:xl=yl
     case neg=>
      have b1:(xl==yl)=false:=by simpa using n1
      clear hneq
      go_wp2_with fail
      refine wrb ?_
      repeat(go_big_quiet_step (fail))
      refine wpQuiet_nil ?_
      rintro w2 ⟨⟨_,hb3⟩,rfl⟩
      clear hne g0 g1 g2 g3 g4 g5
      go_wp2
      exact bodyPost_ret (v:= .tuple #[.int .i64 j,.bool true]) (by simp [results,Tryz.results36,go_sem]) rfl ⟨ydi (by rw [HANS.out,HEX.out]) HFLG.out.symm,trm HB8.out (HBr.out.trans (hb3.mono HBr.out.size))⟩
     subst n1
     have n2:¬xv=yv:=fun e=>hneq ⟨⟨rfl,rfl⟩,e⟩
     have b2:(xv==yv)=false:=by simpa using n2
     clear hneq
     go_wp2_with fail
     refine wrb ?_
     repeat(go_big_quiet_step (fail))
     refine wpQuiet_nil ?_
     rintro w2 ⟨⟨_,hb3⟩,rfl⟩
     clear hne g0 g1 g2 g3 g4 g5
     go_wp2
     exact bodyPost_ret (v:= .tuple #[.int .i64 j,.bool true]) (by simp [results,Tryz.results36,go_sem]) rfl ⟨ydi (by rw [HANS.out,HEX.out]) HFLG.out.symm,trm HB8.out (HBr.out.trans (hb3.mono HBr.out.size))⟩
    ·have hib:¬((j:Int)<(b'.length:Int)):=by omega
     have hia:(j:Int)<(a.length:Int):=by omega
     have hmn:decide ((j:Int)<if b'.length<a.length then(b'.length:Int)else(a.length:Int))=false:=by rw [decide_eq_false_iff_not];split<;>omega
     clear hgo
     go_wp2_with fail
     refine wrb ?_
     repeat(go_big_quiet_step (fail))
     refine wpQuiet_nil ?_
     rintro w2 ⟨⟨_,hb3⟩,rfl⟩
     clear hne
     go_wp2
     exact bodyPost_ret (v:= .tuple #[.int .i64 j,.bool true]) (by simp [results,Tryz.results36,go_sem]) rfl ⟨ydi (by rw [HANS.out,HEX.out]) HFLG.out.symm,trm HB8.out (HBr.out.trans (hb3.mono HBr.out.size))⟩
   ·have hia:¬((j:Int)<(a.length:Int)):=by omega
    have hmn:decide ((j:Int)<if b'.length<a.length then(b'.length:Int)else(a.length:Int))=false:=by rw [decide_eq_false_iff_not];split<;>omega
    clear hgo
    go_wp2_with fail
    refine wrb ?_
    repeat(go_big_quiet_step (fail))
    refine wpQuiet_nil ?_
    rintro w2 ⟨⟨_,hb3⟩,rfl⟩
    clear hne
    go_wp2
    exact bodyPost_ret (v:= .tuple #[.int .i64 j,.bool true]) (by simp [results,Tryz.results36,go_sem]) rfl ⟨ydi (by rw [HANS.out,HEX.out]) HFLG.out.symm,trm HB8.out (HBr.out.trans (hb3.mono HBr.out.size))⟩
end Go.Proofs.YtmobiieoecjmdaaGreat
