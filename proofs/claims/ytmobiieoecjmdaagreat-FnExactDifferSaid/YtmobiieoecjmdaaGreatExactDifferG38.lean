/- DfI, PsN, TPpB, KKe -/
import Derived.Test.YtmobiieoecjmdaaGreatExactDifferG01
import Derived.Test.YtmobiieoecjmdaaGreatExactDifferLDfS
import Derived.Test.YtmobiieoecjmdaaGreatExactDifferG36
import Derived.Test.YtmobiieoecjmdaaGreatExactDifferLCoI
import Derived.Test.YtmobiieoecjmdaaGreatExactDifferG27
import Derived.Test.YtmobiieoecjmdaaGreatExactDifferG04
import Derived.Deep.RegionHeld3
/- The program's Differ. -/
namespace Go.Proofs.YtmobiieoecjmdaaGreat
open Go.RowKit
theorem ycs {p:Prop} (h:p):Hid p:=h
theorem yo2 [Inhabited PsF] (x:Value) (k:Kn) (w:World) (hs:yau k) (hok:k.ok=true) (h:IsKern w x k):
  Calls Tryz.prog 24 #[x] w fun e w'=>∃ay ny cy ax cx q f,e= .returned (.tuple #[.agg #[.slice ay ny cy,.slice ax (yco k).length cx,.int .i64 q,.bool f],.bool true])∧IsX w' (.slice ax (yco k).length cx) (yco k)∧Below w.heap.size w w':=by
 refine(yq0 x k w hs h).mono ?_
 rintro e w' ⟨y,rfl,hh,hb⟩
 have hc:comH k=⟨k.s++ydl (comL k),yco k,k.q,k.f⟩:=by unfold comH;rw [if_pos hok];rfl
 rw [hc]at hh
 obtain⟨A,C,ve,vx,rfl,⟨_,a1,c1,rfl,_⟩,h2,_⟩:=hh
 have hx:=RowF.isX h2
 obtain⟨_,a2,c2,rfl,_⟩:=h2
 exact⟨a1,_,c1,a2,c2,_,_,by rw [hok],hx,hb⟩
set_option maxRecDepth 100000 in
set_option maxHeartbeats 32000000 in
theorem iDiffer [Inhabited PsF] (x:Value) (v:Wd) (i k:Int) (w:World) (hs:ycb v) (h:IsW w x v):
  Calls Tryz.prog 37 #[x,.int .i64 i,.int .i64 k] w fun e w'=>e= .returned (.tuple #[.int .i64 (difA v i k),.bool (difF v i k)])∧Below w.heap.size w w':=by
 have HSW:Hid (ycb v):=hs
 have hkl:v.k.length≤1048576:=hs.2.1.1
 have hcl:v.c.length≤1048576:=by have h9:=hs.2.2;rw [ydx]at h9;omega
 obtain⟨ai,ci,ah,ch,ae,ce,ak,ck,ac,cc,rfl,hm,hk,hc⟩:=h.form
 have HWW:=ycs h
 have HKS:=ycs hk
 clear h hm hk hc
 obtain⟨W0,hW0⟩:∃W0,w.alloc (.cells #[.int .i64 v.m.n,.int .i64 v.m.s,.slice ai v.m.i.length ci,.slice ah v.m.h.length ch,.slice ae v.m.e.length ce,.int .i64 v.m.z,.slice ak v.k.length ck,.slice ac v.c.length cc] 39)=W0:=⟨_,rfl⟩
 have HB0:=hdq (beA hW0)
 have HP0:=hdq (bkA hW0)
 have hs0:w.heap.size<W0.heap.size:=HP0.out.lt
 obtain⟨q0,q1,q2,q3,q4,q5,q6,q7⟩:=c8_8 HP0.out
 go_enter Tryz.func37,Tryz.ntmps37
 have hpi0:∃b,(decide (0≤i)&&decide (i<v.k.length))=b:=⟨_,rfl⟩
 have hpk0:∃b,(decide (0≤k)&&decide (k<v.k.length))=b:=⟨_,rfl⟩
 obtain⟨bi,hpi⟩:=hpi0
 obtain⟨bk,hpk⟩:=hpk0
 have HPI:=ycs hpi
 have HPK:=ycs hpk
 clear hpi hpk
 cases bi with
 |false=>
  have HFLG:Hid (difF v i k=false):=(by unfold difF;rw [HPI.out];simp:difF v i k=false)
  have HANS:Hid (difA v i k=0):=yje HFLG.out
  go_upto_region 2 with (go_at_call 83;refine(yc4 _ _ _).mono ?_;rw [HPI.out];rintro e w2 ⟨rfl,hw⟩;have hw':=hw.symm;clear hw;subst hw')
  clear q0 q1 q2 q3 q4 q5 q6 q7
  go_wp2
  refine bodyPost_ret (v:= .tuple #[.int .i64 0,.bool false]) (by simp [results,Tryz.results37,go_sem]) rfl ⟨ydi HANS.out.symm HFLG.out.symm,HB0.out⟩
 |true=>
 cases bk with
 |false=>
  have HFLG:Hid (difF v i k=false):=(by unfold difF;rw [HPK.out];simp:difF v i k=false)
  have HANS:Hid (difA v i k=0):=yje HFLG.out
  go_upto_region 2 with (go_at_call 83;refine(yc4 _ _ _).mono ?_;(first|rw [HPI.out]|rw [HPK.out]);rintro e w2 ⟨rfl,hw⟩;have hw':=hw.symm;clear hw;subst hw')
  clear q0 q1 q2 q3 q4 q5 q6 q7
  go_wp2
  refine bodyPost_ret (v:= .tuple #[.int .i64 0,.bool false]) (by simp [results,Tryz.results37,go_sem]) rfl ⟨ydi HANS.out.symm HFLG.out.symm,HB0.out⟩
 |true=>
 go_wp2_with (go_at_call 83;refine(yc4 _ _ _).mono ?_;(first|rw [HPI.out]|rw [HPK.out]);rintro e w2 ⟨rfl,hw⟩;have hw':=hw.symm;clear hw;subst hw')
 clear q0 q1 q2 q3 q4 q5 q6 q7 hW0
 refine(iWorldOk _ v _ HSW.out (HWW.out.under HB0.out)).mono ?_
 rintro e w1 ⟨rfl,hb1⟩
 have HB1:=ycs (trm HB0.out hb1)
 have HP1:=ycs (HP0.out.below hb1)
 clear hb1 HB0 HP0
 cases hok:v.ok
 case false=>
  have HFLG:Hid (difF v i k=false):=(by unfold difF;rw [hok];rfl:difF v i k=false)
  have HANS:Hid (difA v i k=0):=yje HFLG.out
  clear hok
  go_wp2
  refine bodyPost_ret (v:= .tuple #[.int .i64 0,.bool false]) (by simp [results,Tryz.results37,go_sem]) rfl ⟨ydi HANS.out.symm HFLG.out.symm,HB1.out⟩
 have HOKW:Hid (v.ok=true):=hok
 have HFLG:Hid (difF v i k=true):=(by unfold difF;rw [hok,HPI.out,HPK.out];rfl:difF v i k=true)
 clear hok
 have HAN0:=ycs (yt3 HFLG.out)
 have hpi:=HPI.out
 have hpk:=HPK.out
 simp only [Bool.and_eq_true,decide_eq_true_eq]at hpi hpk
 obtain⟨ia,rfl⟩:∃n:Nat,i=(n:Int):=⟨i.toNat,by omega⟩
 obtain⟨ib,rfl⟩:∃n:Nat,k=(n:Int):=⟨k.toNat,by omega⟩
 rw [Int.toNat_natCast,Int.toNat_natCast]at HAN0
 have hia:ia<v.k.length:=by omega
 have hib:ib<v.k.length:=by omega
 have hja:(ia:Int)<(v.k.length:Int):=by omega
 have hjb:(ib:Int)<(v.k.length:Int):=by omega
 obtain⟨b,off,rfl,hbl,hKA⟩:=HKS.out.resolve_left (by omega)
 clear hpi hpk HPI HPK
 obtain⟨ki_1,di_1,kh_1,dh_1,ke_1,de_1,k6_1,d6_1,k7_1,d7_1,k8_1,d8_1,k12_1,d12_1,k13_1,d13_1,hf1,hkn,-,-⟩:=(hKA ia hia).form
 obtain⟨k1,hk1⟩:∃k,knAt v.k ia=k:=⟨_,rfl⟩
 rw [hk1]at hkn hf1
 have HKN1:=ycs hkn
 have HSK1:Hid (yau k1):=hk1▸HSW.out.2.1.2 ia hia
 have HOK1:Hid (k1.ok=true):=hk1▸ynz HOKW.out hia
 have F1:Hid _:=hf1
 clear hkn hf1
 obtain⟨ki_2,di_2,kh_2,dh_2,ke_2,de_2,k6_2,d6_2,k7_2,d7_2,k8_2,d8_2,k12_2,d12_2,k13_2,d13_2,hf2,hkn,-,-⟩:=(hKA ib hib).form
 obtain⟨k2,hk2⟩:∃k,knAt v.k ib=k:=⟨_,rfl⟩
 rw [hk2]at hkn hf2
 have HKN2:=ycs hkn
 have HSK2:Hid (yau k2):=hk2▸HSW.out.2.1.2 ib hib
 have HOK2:Hid (k2.ok=true):=hk2▸ynz HOKW.out hib
 have F2:Hid _:=hf2
 clear hkn hf2
 have HANS:Hid (difA v (ia:Int) (ib:Int)=((alN (yco k1) (yco k2):Nat):Int)):=(by rw [HAN0.out,hk1,hk2]:_=_)
 clear hKA hk1 hk2 HAN0
 have g1_0:=(HB1.out.cell (p:=⟨b,_,none⟩) hbl).trans F1.out.1
 have g1_1:=(HB1.out.cell (p:=⟨b,_,none⟩) hbl).trans F1.out.2.1
 have g1_2:=(HB1.out.cell (p:=⟨b,_,none⟩) hbl).trans F1.out.2.2.1
 have g1_3:=(HB1.out.cell (p:=⟨b,_,none⟩) hbl).trans F1.out.2.2.2.1
 have g1_4:=(HB1.out.cell (p:=⟨b,_,none⟩) hbl).trans F1.out.2.2.2.2.1
 have g1_5:=(HB1.out.cell (p:=⟨b,_,none⟩) hbl).trans F1.out.2.2.2.2.2.1
 have g1_6:=(HB1.out.cell (p:=⟨b,_,none⟩) hbl).trans F1.out.2.2.2.2.2.2.1
 have g1_7:=(HB1.out.cell (p:=⟨b,_,none⟩) hbl).trans F1.out.2.2.2.2.2.2.2.1
 have g1_8:=(HB1.out.cell (p:=⟨b,_,none⟩) hbl).trans F1.out.2.2.2.2.2.2.2.2.1
 have g1_9:=(HB1.out.cell (p:=⟨b,_,none⟩) hbl).trans F1.out.2.2.2.2.2.2.2.2.2.1
 have g1_10:=(HB1.out.cell (p:=⟨b,_,none⟩) hbl).trans F1.out.2.2.2.2.2.2.2.2.2.2.1
 have g1_11:=(HB1.out.cell (p:=⟨b,_,none⟩) hbl).trans F1.out.2.2.2.2.2.2.2.2.2.2.2.1
 have g1_12:=(HB1.out.cell (p:=⟨b,_,none⟩) hbl).trans F1.out.2.2.2.2.2.2.2.2.2.2.2.2.1
 have g1_13:=(HB1.out.cell (p:=⟨b,_,none⟩) hbl).trans F1.out.2.2.2.2.2.2.2.2.2.2.2.2.2
 have q6:=HP1.out.cell (i:=6) rfl
 go_wp2_with fail
 clear q6 g1_0 g1_1 g1_2 g1_3 g1_4 g1_5 g1_6 g1_7 g1_8 g1_9 g1_10 g1_11 g1_12 g1_13
 refine(yo2 _ k1 _ HSK1.out HOK1.out (HKN1.out.under HB1.out)).mono ?_
 rintro e w10 ⟨ay1,ny1,cy1,ax1,cx1,qq1,ff1,rfl,hX1,hbw1⟩
 obtain⟨A1,hA1⟩:∃A,w10.heap.size=A:=⟨_,rfl⟩
 obtain⟨V1,hV1⟩:∃V,w10.alloc (.cells #[.slice none 0 0,.slice none 0 0,.int .i64 0,.bool false] 62)=V:=⟨_,rfl⟩
 have hbk:Bk V1 A1 62 #[.slice none 0 0,.slice none 0 0,.int .i64 0,.bool false]:=hV1▸hA1▸Bk.new w10 _ _
 have hbV:=beA hV1
 obtain⟨e0,e1,e2,e3⟩:=c4_4 hbk
 have ef:=hbk.free
 go_upto_region 4 with fail
 obtain⟨X1,hXX⟩:∃X,putH V1 A1 (.slice ay1 ny1 cy1) (.slice ax1 (yco k1).length cx1) (.int .i64 qq1) (.bool ff1)=X:=⟨_,rfl⟩
 have ht:=ycq V1 A1 (.slice ay1 ny1 cy1) (.slice ax1 (yco k1).length cx1) (.int .i64 qq1) (.bool ff1)
 have hk:=hbk.putH (.slice ay1 ny1 cy1) (.slice ax1 (yco k1).length cx1) (.int .i64 qq1) (.bool ff1)
 rw [hXX]at ht hk
 unfold putH at hXX
 rw [hXX]
 have hbx:Below w10.heap.size w10 X1:=hbV.trans (ht.to_below (fun j hj=>by omega) hbV.size)
 have hbp:Below w1.heap.size w1 X1:=trm hbw1 hbx
 have HBX1:=ycs (trm HB1.out hbp)
 have HPX1:=ycs (HP1.out.below hbp)
 have HK1X1:=ycs hk
 have HR1X1:=ycs (hX1.below hbx)
 have HBP1:=ycs hbp
 clear e0 e1 e2 e3 ef hXX ht hk hbx hbp hbk hbV hX1 hbw1 hV1
 have g2_0:=(HBX1.out.cell (p:=⟨b,_,none⟩) hbl).trans F2.out.1
 have g2_1:=(HBX1.out.cell (p:=⟨b,_,none⟩) hbl).trans F2.out.2.1
 have g2_2:=(HBX1.out.cell (p:=⟨b,_,none⟩) hbl).trans F2.out.2.2.1
 have g2_3:=(HBX1.out.cell (p:=⟨b,_,none⟩) hbl).trans F2.out.2.2.2.1
 have g2_4:=(HBX1.out.cell (p:=⟨b,_,none⟩) hbl).trans F2.out.2.2.2.2.1
 have g2_5:=(HBX1.out.cell (p:=⟨b,_,none⟩) hbl).trans F2.out.2.2.2.2.2.1
 have g2_6:=(HBX1.out.cell (p:=⟨b,_,none⟩) hbl).trans F2.out.2.2.2.2.2.2.1
 have g2_7:=(HBX1.out.cell (p:=⟨b,_,none⟩) hbl).trans F2.out.2.2.2.2.2.2.2.1
 have g2_8:=(HBX1.out.cell (p:=⟨b,_,none⟩) hbl).trans F2.out.2.2.2.2.2.2.2.2.1
 have g2_9:=(HBX1.out.cell (p:=⟨b,_,none⟩) hbl).trans F2.out.2.2.2.2.2.2.2.2.2.1
 have g2_10:=(HBX1.out.cell (p:=⟨b,_,none⟩) hbl).trans F2.out.2.2.2.2.2.2.2.2.2.2.1
 have g2_11:=(HBX1.out.cell (p:=⟨b,_,none⟩) hbl).trans F2.out.2.2.2.2.2.2.2.2.2.2.2.1
 have g2_12:=(HBX1.out.cell (p:=⟨b,_,none⟩) hbl).trans F2.out.2.2.2.2.2.2.2.2.2.2.2.2.1
 have g2_13:=(HBX1.out.cell (p:=⟨b,_,none⟩) hbl).trans F2.out.2.2.2.2.2.2.2.2.2.2.2.2.2
 have q6:=HPX1.out.cell (i:=6) rfl
 go_wp2_with fail
 clear q6 g2_0 g2_1 g2_2 g2_3 g2_4 g2_5 g2_6 g2_7 g2_8 g2_9 g2_10 g2_11 g2_12 g2_13
 refine(yo2 _ k2 _ HSK2.out HOK2.out (HKN2.out.under HBX1.out)).mono ?_
 rintro e w20 ⟨ay2,ny2,cy2,ax2,cx2,qq2,ff2,rfl,hX2,hbw2⟩
 obtain⟨A2,hA2⟩:∃A,w20.heap.size=A:=⟨_,rfl⟩
 obtain⟨V2,hV2⟩:∃V,w20.alloc (.cells #[.slice none 0 0,.slice none 0 0,.int .i64 0,.bool false] 62)=V:=⟨_,rfl⟩
 have hbk:Bk V2 A2 62 #[.slice none 0 0,.slice none 0 0,.int .i64 0,.bool false]:=hV2▸hA2▸Bk.new w20 _ _
 have hbV:=beA hV2
 obtain⟨e0,e1,e2,e3⟩:=c4_4 hbk
 have ef:=hbk.free
 go_upto_region 5 with fail
 obtain⟨X2,hXX⟩:∃X,putH V2 A2 (.slice ay2 ny2 cy2) (.slice ax2 (yco k2).length cx2) (.int .i64 qq2) (.bool ff2)=X:=⟨_,rfl⟩
 have ht:=ycq V2 A2 (.slice ay2 ny2 cy2) (.slice ax2 (yco k2).length cx2) (.int .i64 qq2) (.bool ff2)
 have hk:=hbk.putH (.slice ay2 ny2 cy2) (.slice ax2 (yco k2).length cx2) (.int .i64 qq2) (.bool ff2)
 rw [hXX]at ht hk
 unfold putH at hXX
 rw [hXX]
 have hbx:Below w20.heap.size w20 X2:=hbV.trans (ht.to_below (fun j hj=>by omega) hbV.size)
 have hbp:Below X1.heap.size X1 X2:=trm hbw2 hbx
 have HBX2:=ycs (trm HBX1.out hbp)
 have HPX2:=ycs (HPX1.out.below hbp)
 have HK2X2:=ycs hk
 have HR2X2:=ycs (hX2.below hbx)
 have HBP2:=ycs hbp
 clear e0 e1 e2 e3 ef hXX ht hk hbx hbp hbk hbV hX2 hbw2 hV2
 have HK1X2:=HK1X1.out.below HBP2.out
 have HR1X2:=HR1X1.out.below HBP2.out
 have u1:=HK1X2.cell (i:=1) rfl
 have u2:=HK2X2.out.cell (i:=1) rfl
 go_wp2_with fail
 clear u1 u2
 refine(iAlike _ _ (yco k1) (yco k2) _ (ynl HOK1.out) HR1X2 HR2X2.out).mono ?_
 rintro e w99 ⟨rfl,hb99⟩
 have HB99:=ycs (trm HBX2.out hb99)
 clear hb99 HR1X2 HK1X2
 go_wp2
 exact bodyPost_ret (v:= .tuple #[.int .i64 ((alN (yco k1) (yco k2):Nat):Int),.bool true]) (by simp [results,Tryz.results37,go_sem]) rfl ⟨ydi (by rw [HANS.out]) HFLG.out.symm,HB99.out⟩
theorem psF_some:Nonempty PsF:=⟨⟨(⟨⟨0,0,1,0,0,0,1⟩,⟨[],0,0⟩,[],[]⟩,.slice none 0 0,.slice none 0 0,.slice none 0 0),by decide,⟨_,_,_,rfl⟩,⟨_,_,_,rfl⟩,⟨_,_,_,rfl⟩⟩⟩
theorem yih {p:Prop} (h:p):Hid p:=h
set_option maxHeartbeats 8000000 in
theorem eq_parts (x y:Value) (l:List Pa) (w:World) (hl:(ycz l).wt≤1048576) (hx:IsD w x (ycz l)) (hy:IsD w y (ycz l)):
  Calls Tryz.prog 66 #[x,y] w fun e w'=>e= .returned (.bool true)∧Below w.heap.size w w':=by
 obtain⟨a,cap,rfl,h1,h2,h⟩:=IsD.parts (c:=7) (n:=l.length) hx
 obtain⟨a',cap',rfl,h1',h2',h'⟩:=IsD.parts (c:=7) (n:=l.length) hy
 have HS:=yih hl
 have hl2:l.length≤1048576:=by rw [yei]at hl;omega
 clear h1 h2 h1' h2' hx hy hl
 go_enter Tryz.func66,Tryz.ntmps66
 go_wp2
 go_loopw [5] (fun i wr=>∃k:Nat,k≤l.length∧i= .int .i64 k∧Below w.heap.size w wr) (fun i _=>l.length-(intOf i).toNat)
 case atStart=>exact⟨0,Nat.zero_le _,rfl,Below.refl _ _⟩
 case round=>
  obtain⟨k,hk,rfl,hB⟩:=hrel
  have HB:=yih hB
  by_cases hlt:k<l.length
  ·obtain⟨b,off,rfl,hb,hc⟩:=h.resolve_left (by omega)
   obtain⟨b',off',rfl,hb',hc'⟩:=h'.resolve_left (by omega)
   obtain⟨u1,u4,u5,u6,f0,f1,f2,f3,f4,f5,f6,d1,d4,d5,d6⟩:=yf6 (fun j hj=>by
    obtain⟨u,hu,hd⟩:=hc j hj
    exact⟨u,(hB.cell (p:=⟨b,off+j,none⟩) hb).trans hu,hd.under hB⟩) hlt
   obtain⟨v1,v4,v5,v6,e0,e1,e2,e3,e4,e5,e6,g1,g4,g5,g6⟩:=yf6 (fun j hj=>by
    obtain⟨u,hu,hd⟩:=hc' j hj
    exact⟨u,(hB.cell (p:=⟨b',off'+j,none⟩) hb').trans hu,hd.under hB⟩) hlt
   have HD:=yih (IsPart.under (w:=wr) ⟨u1,u4,u5,u6,rfl,d1,d4,d5,d6⟩ (Below.refl _ wr).drew)
   have HG:=yih (IsPart.under (w:=wr) ⟨v1,v4,v5,v6,rfl,g1,g4,g5,g6⟩ (Below.refl _ wr).drew)
   have HW:=yih (Nat.le_trans (Pa.wt_le hlt) HS.out)
   have hbr:b<wr.heap.size:=Nat.lt_of_lt_of_le hb hB.size
   have hbr':b'<wr.heap.size:=Nat.lt_of_lt_of_le hb' hB.size
   clear hB hc hc' h h' d1 d4 d5 d6 g1 g4 g5 g6
   go_wp2_with fail
   go_region_held3 (fun W=>W.cell? ⟨b,off+k*7,none⟩=some (.int .i64 (paAt l k).n)∧W.cell? ⟨b,off+k*7+1,none⟩=some (u1)∧W.cell? ⟨b,off+k*7+2,none⟩=some (.int .i64 (paAt l k).st.q)∧W.cell? ⟨b,off+k*7+3,none⟩=some (.int .i64 (paAt l k).st.d)∧W.cell? ⟨b,off+k*7+4,none⟩=some (u4)∧W.cell? ⟨b,off+k*7+5,none⟩=some (u5)∧W.cell? ⟨b,off+k*7+6,none⟩=some (u6)∧W.cell? ⟨b',off'+k*7,none⟩=some (.int .i64 (paAt l k).n)∧W.cell? ⟨b',off'+k*7+1,none⟩=some (v1)∧W.cell? ⟨b',off'+k*7+2,none⟩=some (.int .i64 (paAt l k).st.q)∧W.cell? ⟨b',off'+k*7+3,none⟩=some (.int .i64 (paAt l k).st.d)∧W.cell? ⟨b',off'+k*7+4,none⟩=some (v4)∧W.cell? ⟨b',off'+k*7+5,none⟩=some (v5)∧W.cell? ⟨b',off'+k*7+6,none⟩=some (v6)) ((repeat' apply And.intro)<;>first|(go_keep;done)|(rw [hcA _ _ (by first|omega|(simp;omega)|simp [*])];simp [*];done))
    (first|(go_at_call 124;refine(yn4 _ _ (paAt l k) _ HW.out HD.out HG.out).mono ?_;rintro e w2 ⟨rfl,hb2⟩;obtain⟨hcA,hfA⟩:=yf1 hb2))
   clear hcA hfA
   go_wp2
   go_roundw
   case rel=>exact⟨k+1,by omega,by go_num,HB.out.drew.trans (hb2.mono (by have:=HB.out.size;simpa using this))⟩
   case measure=>simp [intOf];omega
  ·clear hB h h'
   go_wp2
   go_ret
   exact⟨rfl,HB.out⟩
theorem yd3 {p:Prop} (h:p):Hid p:=h
set_option maxRecDepth 100000 in
set_option maxHeartbeats 4000000 in
theorem yk9 (x y:Value) (k:Kn) (w:World) (hs:yau k) (hx:IsKern w x k) (hy:IsKern w y k):
  Calls Tryz.prog 22 #[x,y] w fun e w'=>e= .returned (.bool true)∧Below w.heap.size w w':=by
 obtain⟨vi,vh,vs,u6,u7,u8,u12,u13,rfl,hm,h6,h7,h8,h12,h13⟩:=hx
 obtain⟨xvi,xvh,xvs,v6,v7,v8,v12,v13,rfl,jm,j6,j7,j8,j12,j13⟩:=hy
 have HS:Hid (yau k):=hs
 have HM:Hid (IsM w (.agg #[.int .i64 k.m.n,.int .i64 k.m.s,vi,vh,vs,.int .i64 k.m.z]) k.m∧IsM w (.agg #[.int .i64 k.m.n,.int .i64 k.m.s,xvi,xvh,xvs,.int .i64 k.m.z]) k.m):=⟨hm,jm⟩
 have H6:Hid (IsD w u6 (yax k.d)∧IsD w v6 (yax k.d)):=⟨h6,j6⟩
 have H7:Hid (IsD w u7 (ycz k.p)∧IsD w v7 (ycz k.p)):=⟨h7,j7⟩
 have H8:Hid (IsD w u8 (ydz k.b)∧IsD w v8 (ydz k.b)):=⟨h8,j8⟩
 have H12:Hid (IsD w u12 (evsD k.s)∧IsD w v12 (evsD k.s)):=⟨h12,j12⟩
 have H13:Hid (IsD w u13 (emsD k.x)∧IsD w v13 (emsD k.x)):=⟨h13,j13⟩
 clear hs hm jm h6 j6 h7 j7 h8 j8 h12 j12 h13 j13
 obtain⟨W0,hW0⟩:∃W0,(w.alloc (.cells #[.int .i64 k.m.n,.int .i64 k.m.s,vi,vh,vs,.int .i64 k.m.z,u6,u7,u8,.int .i64 k.t,.int .i64 k.q,.bool k.f,u12,u13] 57)).alloc (.cells #[.int .i64 k.m.n,.int .i64 k.m.s,xvi,xvh,xvs,.int .i64 k.m.z,v6,v7,v8,.int .i64 k.t,.int .i64 k.q,.bool k.f,v12,v13] 57)=W0:=⟨_,rfl⟩
 have HB0:=hdq (beA2 hW0)
 have HP0:=hdq (bkA2 hW0)
 have HQ0:=hdq (bkB2 hW0)
 have HW:=yd3 hW0
 clear hW0
 go_enter Tryz.func22,Tryz.ntmps22
 have p0:=HP0.out.cell (i:=0) rfl
 have q0:=HQ0.out.cell (i:=0) rfl
 have p1:=HP0.out.cell (i:=1) rfl
 have q1:=HQ0.out.cell (i:=1) rfl
 have p2:=HP0.out.cell (i:=2) rfl
 have q2:=HQ0.out.cell (i:=2) rfl
 have p3:=HP0.out.cell (i:=3) rfl
 have q3:=HQ0.out.cell (i:=3) rfl
 have p4:=HP0.out.cell (i:=4) rfl
 have q4:=HQ0.out.cell (i:=4) rfl
 have p5:=HP0.out.cell (i:=5) rfl
 have q5:=HQ0.out.cell (i:=5) rfl
 go_wp2_with fail
 rw [HW.out]
 clear HW
 clear p0 q0 p1 q1 p2 q2 p3 q3 p4 q4 p5 q5
 refine(yhk _ _ k.m _ HS.out.1 (HM.out.1.below HB0.out) (HM.out.2.below HB0.out)).mono ?_
 rintro e w1 ⟨rfl,hb⟩
 have HB1:=yd3 (trm HB0.out hb)
 have HP1:=yd3 (HP0.out.below hb)
 have HQ1:=yd3 (HQ0.out.below hb)
 clear hb
 have p6:=HP1.out.cell (i:=6) rfl
 have q6:=HQ1.out.cell (i:=6) rfl
 go_wp2_with fail
 clear p6 q6
 refine(yn2 _ _ k.d _ (by have:=HS.out.2;unfold Kn.wt at this;simp only [yam,yaz,ych,yce]at this;omega) (H6.out.1.under HB1.out) (H6.out.2.under HB1.out)).mono ?_
 rintro e w2 ⟨rfl,hb⟩
 have HB2:=yd3 (trm HB1.out hb)
 have HP2:=yd3 (HP1.out.below hb)
 have HQ2:=yd3 (HQ1.out.below hb)
 clear hb
 have p7:=HP2.out.cell (i:=7) rfl
 have q7:=HQ2.out.cell (i:=7) rfl
 go_wp2_with fail
 clear p7 q7
 refine(eq_parts _ _ k.p _ (by have:=HS.out.2;unfold Kn.wt at this;simp only [yam,yaz,ych,yce]at this;omega) (H7.out.1.under HB2.out) (H7.out.2.under HB2.out)).mono ?_
 rintro e w3 ⟨rfl,hb⟩
 have HB3:=yd3 (trm HB2.out hb)
 have HP3:=yd3 (HP2.out.below hb)
 have HQ3:=yd3 (HQ2.out.below hb)
 clear hb
 have p8:=HP3.out.cell (i:=8) rfl
 have q8:=HQ3.out.cell (i:=8) rfl
 go_wp2_with fail
 clear p8 q8
 refine(eq_mails _ _ k.b _ (by have:=HS.out.2;unfold Kn.wt at this;simp only [yam,yaz,ych,yce]at this;omega) (H8.out.1.under HB3.out) (H8.out.2.under HB3.out)).mono ?_
 rintro e w4 ⟨rfl,hb⟩
 have HB4:=yd3 (trm HB3.out hb)
 have HP4:=yd3 (HP3.out.below hb)
 have HQ4:=yd3 (HQ3.out.below hb)
 clear hb
 have p12:=HP4.out.cell (i:=12) rfl
 have q12:=HQ4.out.cell (i:=12) rfl
 have p9:=HP4.out.cell (i:=9) rfl
 have q9:=HQ4.out.cell (i:=9) rfl
 have p10:=HP4.out.cell (i:=10) rfl
 have q10:=HQ4.out.cell (i:=10) rfl
 have p11:=HP4.out.cell (i:=11) rfl
 have q11:=HQ4.out.cell (i:=11) rfl
 have hff:(k.f !=k.f)=false:=by cases k.f<;>rfl
 go_wp2_with fail
 clear p12 q12 p9 q9 p10 q10 p11 q11
 refine(ysw _ _ k.s _ (by have:=HS.out.2;unfold Kn.wt at this;simp only [yam,yaz,ych,yce]at this;omega) (H12.out.1.under HB4.out) (H12.out.2.under HB4.out)).mono ?_
 rintro e w5 ⟨rfl,hb⟩
 have HB5:=yd3 (trm HB4.out hb)
 have HP5:=yd3 (HP4.out.below hb)
 have HQ5:=yd3 (HQ4.out.below hb)
 clear hb
 have p13:=HP5.out.cell (i:=13) rfl
 have q13:=HQ5.out.cell (i:=13) rfl
 go_wp2_with fail
 clear p13 q13
 refine(eq_ems _ _ k.x _ (by have:=HS.out.2;unfold Kn.wt at this;simp only [yam,yaz,ych,yce]at this;omega) (H13.out.1.under HB5.out) (H13.out.2.under HB5.out)).mono ?_
 rintro e w6 ⟨rfl,hb⟩
 have HB6:=yd3 (trm HB5.out hb)
 have HP6:=yd3 (HP5.out.below hb)
 have HQ6:=yd3 (HQ5.out.below hb)
 clear hb
 go_wp2
 go_ret
 exact⟨rfl,HB6.out⟩
end Go.Proofs.YtmobiieoecjmdaaGreat

