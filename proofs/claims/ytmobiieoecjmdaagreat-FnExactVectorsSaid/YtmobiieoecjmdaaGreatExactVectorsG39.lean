/- VcS, MByJ, KIg -/
import Derived.Test.YtmobiieoecjmdaaGreatExactVectorsG38
import Derived.Test.YtmobiieoecjmdaaGreatExactVectorsG30
import Derived.Test.YtmobiieoecjmdaaGreatExactVectorsG24
import Derived.Test.YtmobiieoecjmdaaGreatExactVectorsG10
/- The specification's Vectors. -/
namespace Go.Proofs.YtmobiieoecjmdaaGreat
open Go.RowKit
set_option maxRecDepth 100000 in
set_option maxHeartbeats 8000000 in
theorem sVectors (x:Value) (v:Wd) (w:World) (hs:ybq v) (h:IsW w x v):
  Calls Tryz.prog 10 #[x] w fun e w'=>∃u,e= .returned u∧OwnD w' (fun k=>w.heap.size≤k∧k<w'.heap.size) u (yad (vecA v))∧Below w.heap.size w w':=by
 obtain⟨ai,ci,ah,ch,ae,ce,ak,ck,ac,cc,rfl,hm,hk,hc⟩:=h.form
 have HWW:Hid (IsW w (.agg #[.int .i64 v.m.n,.int .i64 v.m.s,.slice ai v.m.i.length ci,.slice ah v.m.h.length ch,.slice ae v.m.e.length ce,.int .i64 v.m.z,.slice ak v.k.length ck,.slice ac v.c.length cc]) v):=h
 have HS:Hid (ybq v):=hs
 have hkl:v.k.length≤1048576:=hs.2.1.1
 have HKS:Hid (v.k.length=0∨ ∃b off,ak=some ⟨b,off,none⟩∧b<w.heap.size∧ ∀i,i<v.k.length→KAt w b (off+i*14) (knAt v.k i)):=hk
 clear h hm hk hc hs
 obtain⟨W0,hW0⟩:∃W0,w.alloc (.cells #[.int .i64 v.m.n,.int .i64 v.m.s,.slice ai v.m.i.length ci,.slice ah v.m.h.length ch,.slice ae v.m.e.length ce,.int .i64 v.m.z,.slice ak v.k.length ck,.slice ac v.c.length cc] 39)=W0:=⟨_,rfl⟩
 have HB0:Hid (Below w.heap.size w W0):=by rw [←hW0];exact(Below.refl _ w).alloc (Nat.le_refl _) _
 have HP0:Hid (Bk W0 w.heap.size 39 #[.int .i64 v.m.n,.int .i64 v.m.s,.slice ai v.m.i.length ci,.slice ah v.m.h.length ch,.slice ae v.m.e.length ce,.int .i64 v.m.z,.slice ak v.k.length ck,.slice ac v.c.length cc]):=by rw [←hW0];exact Bk.new w _ _
 have p0:=HP0.out.cell (i:=0) rfl
 have p1:=HP0.out.cell (i:=1) rfl
 have p2:=HP0.out.cell (i:=2) rfl
 have p3:=HP0.out.cell (i:=3) rfl
 have p4:=HP0.out.cell (i:=4) rfl
 have p5:=HP0.out.cell (i:=5) rfl
 have p6:=HP0.out.cell (i:=6) rfl
 have p7:=HP0.out.cell (i:=7) rfl
 go_enter Tryz.func10,Tryz.ntmps10
 go_wp2_with fail
 clear hW0 p0 p1 p2 p3 p4 p5 p6 p7
 refine(sWorldOk _ v _ HS.out (HWW.out.under HB0.out)).mono ?_
 rintro e w1 ⟨rfl,hb⟩
 have HB1:Hid (Below w.heap.size w w1):=HB0.out.trans (hb.mono HB0.out.size)
 have HP1:Hid (Bk w1 w.heap.size 39 #[.int .i64 v.m.n,.int .i64 v.m.s,.slice ai v.m.i.length ci,.slice ah v.m.h.length ch,.slice ae v.m.e.length ce,.int .i64 v.m.z,.slice ak v.k.length ck,.slice ac v.c.length cc]):=HP0.out.below hb
 have hs1:w.heap.size≤w1.heap.size:=HB1.out.size
 clear hb HB0 HP0
 cases hok:v.ok
 case false=>
  have HE:Hid (vecA v= []):=(by simp [vecA,hok]:vecA v= [])
  clear hok
  go_wp2
  go_ret
  exact⟨.slice none 0 0,rfl,by rw [HE.out];exact .nil _ _ _ _ _ (Nat.zero_le _),HB1.out⟩
 have HE:Hid (vecA v=dsOf v.k):=(by simp [vecA,hok]:vecA v=dsOf v.k)
 clear hok
 obtain⟨i0,hi,hz0,hz1,hz2⟩:=info_parts yp7
 obtain⟨i1,hj,hy0,hy1,hy2⟩:=info_parts ylc
 go_wp2
 go_loopw [3,4] (fun o i wr=>∃(j:Nat) (y:Value),j≤v.k.length∧y=o∧i= .int .i64 j∧Below w1.heap.size w1 wr∧GrowV w1.heap.size wr o ((dsOf v.k).take j)) (fun _ i _=>v.k.length-(intOf i).toNat)
 case atStart=>exact⟨0,_,Nat.zero_le _,rfl,rfl,Below.refl _ _,GrowV.nil _ _⟩
 case round=>
  obtain⟨j,o,hj9,rfl,rfl,hB,hG⟩:=hrel
  have HB:Hid (Below w1.heap.size w1 wr):=hB
  have HG:Hid (GrowV w1.heap.size wr o ((dsOf v.k).take j)):=hG
  have hsr:w1.heap.size≤wr.heap.size:=hB.size
  have HPr:Hid (Bk wr w.heap.size 39 #[.int .i64 v.m.n,.int .i64 v.m.s,.slice ai v.m.i.length ci,.slice ah v.m.h.length ch,.slice ae v.m.e.length ce,.int .i64 v.m.z,.slice ak v.k.length ck,.slice ac v.c.length cc]):=HP1.out.below hB
  clear hB hG
  by_cases hlt:j<v.k.length
  ·have hlt1:(j:Int)<(v.k.length:Int):=by omega
   obtain⟨b,off,rfl,hbl,hKA⟩:=HKS.out.resolve_left (by omega)
   obtain⟨ki,di,kh,dh,ke,de,k6,d6,k7,d7,k8,d8,k12,d12,k13,d13,⟨f0,f1,f2,f3,f4,f5,f6,f7,f8,f9,f10,f11,f12,f13⟩,hkn,hkm,hkd⟩:=(hKA j hlt).form
   have hBw:Below w.heap.size w wr:=HB1.out.trans (HB.out.mono hs1)
   obtain⟨V,hV⟩:∃V,wr.alloc (.cells #[] 3)=V:=⟨_,rfl⟩
   have hbV:Below wr.heap.size wr V:=hV▸(Below.refl _ wr).alloc (Nat.le_refl _) _
   have HBV:Hid (Below wr.heap.size wr V):=hbV
   have hszV:wr.heap.size≤V.heap.size:=hbV.size
   have HRE:Hid (V.ownsRow wr.heap.size 3 1 (.slice (some ⟨wr.heap.size,0,none⟩) 0 0) 0 []):=hV▸ymf wr
   have hBV:Below w.heap.size w V:=hBw.trans (hbV.mono hBw.size)
   have f6:=(hBV.cell (p:=⟨b,_,none⟩) hbl).trans f6
   have p6:=HPr.out.cell (i:=6) rfl
   have p6V:=(HPr.out.below hbV).cell (i:=6) rfl
   obtain⟨cs,f,G,g,hf⟩:=HG.out
   rw [ypr v.k hj9]at g
   have HGD:Hid (GrowD w1.heap.size 22 wr o 1 j cs f G):=g
   have HF:Hid (∀i,i<((dsOf v.k).take j).length→f i=ya9 (vAt ((dsOf v.k).take j) i)):=hf
   have hdl:(knAt v.k j).d.length≤1048576:=by have h9:=(HS.out.2.1.2 j hlt).2;unfold Kn.wt at h9;rw [yah]at h9;omega
   have HSR:Hid (SrcC V (.slice k6 (knAt v.k j).d.length d6) 1 (knAt v.k j).d.length (intCells (knAt v.k j).d)):=(hkd.under hBV).srcI
   have HTK:Hid ((dsOf v.k).take (j+1)=(dsOf v.k).take j++ [(knAt v.k j).d]):=ds_take v.k hlt
   have hl9:((dsOf v.k).take j).length=j:=ypr v.k hj9
   have HL9:Hid (((dsOf v.k).take j).length=j):=hl9
   clear f0 f1 f2 f3 f4 f5 f7 f8 f9 f10 f11 f12 f13 hkn hkm hkd hKA hBw hBV hbV g hf hl9 HG
   go_wp2_with (first|(at_builtin;refine yap _ rfl _ _ 22 rfl wr.heap.size 3 i0 _ 1 8 Tryz.underlying22 hi hz0 hz1 hz2 rfl (by decide) (.slice (some ⟨wr.heap.size,0,none⟩) 0 0) 0 [] rfl HRE.out (.slice k6 (knAt v.k j).d.length d6) (knAt v.k j).d.length (intCells (knAt v.k j).d) rfl HSR.out (yew _) (by unfold maxLen;omega) (by omega) hszV ?_;intro v1 w2 hown hgrow hnew;rw [Nat.zero_add,List.nil_append]at hown;obtain⟨va,vc,hv,_⟩:=OwnD.parts (c:=1) (n:=(knAt v.k j).d.length) (yho hown);subst hv;have hb2:Below wr.heap.size wr w2:=HBV.out.grown hgrow hszV (fun k e=>by cases e;exact Nat.le_refl _);have HB2:Hid (Below wr.heap.size wr w2):=hb2;have HO2:Hid (OwnD w2 (fun k=>wr.heap.size≤k∧k<w2.heap.size) (.slice va (knAt v.k j).d.length vc) (ya9 (knAt v.k j).d)):=yho hown;have HSR2:Hid (SrcC (w2.alloc (.cells #[.slice va (knAt v.k j).d.length vc] 22)) (.slice (some ⟨w2.heap.size,0,none⟩) 1 1) 1 1 [.slice va (knAt v.k j).d.length vc]):=src_oneV w2 _ _;have HRW:Hid ((w2.alloc (.cells #[.slice va (knAt v.k j).d.length vc] 22)).ownsRow w1.heap.size 22 1 o j cs):=World.ownsRow.alloc (HGD.out.below hb2).row _;have hz9:w1.heap.size≤w2.heap.size:=Nat.le_trans hsr hb2.size;clear hown hgrow hnew hb2)|(at_builtin;refine yap _ rfl _ _ 28 rfl w1.heap.size 22 i1 _ 1 24 Tryz.underlying28 hj hy0 hy1 hy2 rfl (by decide) o j cs rfl HRW.out (.slice (some ⟨w2.heap.size,0,none⟩) 1 1) 1 [.slice va (knAt v.k j).d.length vc] rfl HSR2.out (fun u hu=>by simp at hu;subst hu;rfl) (by unfold maxLen;omega) (by omega) (by simp;omega) ?_;intro v3 w3 hown3 hgrow3 hnew3))
   clear f6 p6 p6V hV
   go_roundw
   case rel=>
    have hb3:Below wr.heap.size wr (w2.alloc (.cells #[.slice va (knAt v.k j).d.length vc] 22)):=HB2.out.alloc HB2.out.size _
    have HG3:=grow_vec (L:=(dsOf v.k).take j) (by rw [HL9.out];exact HGD.out) HF.out hsr hb3 (HO2.out.under ((Below.refl _ w2).alloc (Nat.le_refl _) _)|>.mono (fun k hk=>⟨hk.1,by simp;omega⟩)) (by rw [HL9.out];exact hown3) hgrow3 hnew3
    rw [←HTK.out]at HG3
    refine⟨j+1,_,by omega,rfl,by go_num,?_,HG3⟩
    exact(HB.out.trans (hb3.mono hsr)).grown hgrow3 (by simp;omega) (fun k e=>yb0 HGD.out.row e)
   case measure=>simp [intOf];omega
  ·obtain rfl:j=v.k.length:=by omega
   have p6:=HPr.out.cell (i:=6) rfl
   have hT:(dsOf v.k).take v.k.length=dsOf v.k:=List.take_of_length_le (by rw [ylk];exact Nat.le_refl _)
   have HO:Hid (OwnD wr (fun k=>w1.heap.size≤k∧k<wr.heap.size) o (yad (dsOf v.k))):=by have:=HG.out.own;rw [hT]at this;exact this
   have hlt1:¬((v.k.length:Int)<(v.k.length:Int)):=by omega
   clear hT HG
   go_wp2
   go_ret
   exact⟨_,rfl,by rw [HE.out];exact HO.out.mono (fun k hk=>⟨by omega,hk.2⟩),HB1.out.trans (HB.out.mono hs1)⟩
set_option maxRecDepth 100000 in
set_option maxHeartbeats 8000000 in
theorem ypb (x:Value) (m:Md) (w:World) (hs:SmallM m) (h:IsM w x m):
  Calls Tryz.prog 142 #[x] w fun e w'=>∃u,e= .returned (.tuple #[u,.bool m.ok])∧By.OwnI w.heap.size w' u (ydx m)∧Below w.heap.size w w':=by
 have HX:Hid (IsM w x m):=h
 obtain⟨vi,vh,vs,rfl,⟨ai,ci,rfl,hi1,hi2,hi3⟩,⟨ah,ch,rfl,hh1,hh2,hh3⟩,⟨ae,ce,rfl,he1,he2,he3⟩⟩:=h
 have hi0:m.i.length≤1048576:=hs.i
 have hh0:m.h.length≤1048576:=hs.h
 have he0:m.e.length≤1048576:=hs.e
 have HS:Hid (SmallM m):=hs
 clear hs hi1 hi2 hh1 hh2 he1 he2
 have HI:Hid (m.i= []∨ ∃b off,ai=some ⟨b,off,none⟩∧IntsAt w b off m.i):=hi3
 have HH:Hid (m.h= []∨ ∃b off,ah=some ⟨b,off,none⟩∧b<w.heap.size∧ ∀i,i<m.h.length→ ∃u,w.cell? ⟨b,off+i,none⟩=some u∧IsO w u (hAt m.h i)):=hh3
 have HEV:Hid (m.e= []∨ ∃b off,ae=some ⟨b,off,none⟩∧EvsAt w b off m.e):=he3
 clear hi3 hh3 he3 hi0 he0 hh0
 obtain⟨W0,hW0⟩:∃W0,w.alloc (.cells #[.int .i64 m.n,.int .i64 m.s,.slice ai m.i.length ci,.slice ah m.h.length ch,.slice ae m.e.length ce,.int .i64 m.z] 36)=W0:=⟨_,rfl⟩
 have HB0:Hid (Below w.heap.size w W0):=by rw [←hW0];exact(Below.refl _ w).alloc (Nat.le_refl _) _
 have HP0:Hid (Bk W0 w.heap.size 36 #[.int .i64 m.n,.int .i64 m.s,.slice ai m.i.length ci,.slice ah m.h.length ch,.slice ae m.e.length ce,.int .i64 m.z]):=by rw [←hW0];exact Bk.new w _ _
 have p0:=HP0.out.cell (i:=0) rfl
 have p1:=HP0.out.cell (i:=1) rfl
 have p2:=HP0.out.cell (i:=2) rfl
 have p3:=HP0.out.cell (i:=3) rfl
 have p4:=HP0.out.cell (i:=4) rfl
 have p5:=HP0.out.cell (i:=5) rfl
 go_enter Tryz.func142,Tryz.ntmps142
 go_wp2_with fail
 clear hW0 p0 p1 p2 p3 p4 p5
 refine(iModM _ m _ HS.out (HX.out.below HB0.out)).mono ?_
 rintro e W1 ⟨rfl,hb⟩
 have HB1:Hid (Below w.heap.size w W1):=HB0.out.trans (hb.mono HB0.out.size)
 have HP1:Hid (Bk W1 w.heap.size 36 #[.int .i64 m.n,.int .i64 m.s,.slice ai m.i.length ci,.slice ah m.h.length ch,.slice ae m.e.length ce,.int .i64 m.z]):=HP0.out.below hb
 clear hb HB0 HP0
 cases hok:m.ok
 case false=>
  have HE:Hid (ydx m= []):=(by simp [ydx,hok]:ydx m= [])
  have HOF:Hid (m.ok=false):=hok
  clear hok
  go_wp2
  go_ret2
  exact⟨.slice none 0 0,by rw [HOF.out];rfl,by rw [HE.out];exact By.OwnI.nil _ _,HB1.out⟩
 have HE:Hid (ydx m=yax m):=(by simp [ydx,hok]:ydx m=yax m)
 have HOK:Hid (m.ok=true):=hok
 obtain⟨d0,d1,d2,d3,d4,d5,d6,d7,d8,d9⟩:=(yh4 hok).1
 clear hok
 have hn0:0≤m.n:=by omega
 have hn1:m.n≤255:=by omega
 have hh0:(0:Int)≤(m.h.length:Int):=by omega
 have hh1:(m.h.length:Int)≤255:=by omega
 have he0:(0:Int)≤(m.e.length:Int):=by omega
 have he1:(m.e.length:Int)≤255:=by omega
 have HD:Hid ((0≤m.z∧m.z≤65535)∧(0≤m.s∧m.s≤65535)∧m.i.length≤4∧m.h.length≤4∧m.e.length≤6):=⟨⟨d8,by omega⟩,⟨d2,d3⟩,by omega,d6,d7⟩
 clear d0 d1 d2 d3 d4 d5 d6 d7 d8 d9
 obtain⟨i0,hi,hz0,hz1,hz2⟩:=info_parts By.info5
 obtain⟨B,hBe⟩:∃B,B=W1.heap.size:=⟨_,rfl⟩
 obtain⟨W2,hW2⟩:∃W2,W1.alloc (.cells #[.int .u8 m.n,.int .u8 (m.h.length:Int),.int .u8 (m.e.length:Int)] 5)=W2:=⟨_,rfl⟩
 have HR2:Hid (RowBy B W2 (.slice (some ⟨W1.heap.size,0,none⟩) 3 3) (yc7 m)):=by
  have:=yo8 W1 (.int .u8 m.n) (.int .u8 (m.h.length:Int)) (.int .u8 (m.e.length:Int))
  rw [hW2,←hBe]at this
  have e:By.intCells (yc7 m)= [.int .u8 m.n,.int .u8 (m.h.length:Int),.int .u8 (m.e.length:Int)]:=by
   have e1:By.intCells (yc7 m)=By.intCells [byteOf m.n]++(By.intCells [byteOf (m.h.length:Int)]++By.intCells [byteOf (m.e.length:Int)]):=rfl
   rw [e1,ybr hn0 hn1,ybr hh0 hh1,ybr he0 he1];rfl
  show W2.ownsRow B 5 1 _ 3 (By.intCells (yc7 m))
  rw [e]
  rw [←hBe]
  exact this
 have hwB:w.heap.size<B:=hBe▸HP1.out.lt
 have HBB:Hid (Below B W1 W2):=hW2▸(Below.refl B W1).alloc (by omega) _
 have HP2:Hid (Bk W2 w.heap.size 36 #[.int .i64 m.n,.int .i64 m.s,.slice ai m.i.length ci,.slice ah m.h.length ch,.slice ae m.e.length ce,.int .i64 m.z]):=HP1.out.keep HBB.out hwB
 have HB2:Hid (Below w.heap.size w W2):=HB1.out.trans (HBB.out.mono (by omega))
 have HZ:Hid (B≤W1.heap.size):=(by omega:B≤W1.heap.size)
 have p0:=HP1.out.cell (i:=0) rfl
 have p3:=HP1.out.cell (i:=3) rfl
 have p4:=HP1.out.cell (i:=4) rfl
 have q5:=HP2.out.cell (i:=5) rfl
 clear hBe
 go_wp2_with fail
 clear hW2 p0 p3 p4 q5
 have hs2:B≤W2.heap.size:=Nat.le_trans HZ.out HBB.out.size
 refine(ye1 B _ _ _ _ hs2 (by simp [yc7]) HD.out.1.1 HD.out.1.2 HR2.out).mono ?_
 rintro e w3 ⟨v3,rfl,hr3,ht3⟩
 have hb3:=ht3.to_below (fun k e=>yb0 HR2.out e) hs2
 have HR3:Hid (RowBy B w3 v3 (yc7 m++twoB m.z)):=hr3
 have HP3:Hid (Bk w3 w.heap.size 36 #[.int .i64 m.n,.int .i64 m.s,.slice ai m.i.length ci,.slice ah m.h.length ch,.slice ae m.e.length ce,.int .i64 m.z]):=HP2.out.keep hb3 hwB
 have HB3:Hid (Below w.heap.size w w3):=HB2.out.trans (hb3.mono (by omega))
 have HBB3:Hid (Below B W1 w3):=HBB.out.trans hb3
 have hs3:B≤w3.heap.size:=Nat.le_trans hs2 hb3.size
 have q1:=HP3.out.cell (i:=1) rfl
 clear hr3 ht3 hb3 HR2 HP2 HB2 HBB hs2
 go_wp2_with fail
 clear q1
 refine(ye1 B _ _ _ _ hs3 (by simp [yc7,twoB]) HD.out.2.1.1 HD.out.2.1.2 HR3.out).mono ?_
 rintro e w4 ⟨v4,rfl,hr4,ht4⟩
 have hb4:=ht4.to_below (fun k e=>yb0 HR3.out e) hs3
 have HR4:Hid (RowBy B w4 v4 (yc7 m++twoB m.z++twoB m.s)):=hr4
 have HP4:Hid (Bk w4 w.heap.size 36 #[.int .i64 m.n,.int .i64 m.s,.slice ai m.i.length ci,.slice ah m.h.length ch,.slice ae m.e.length ce,.int .i64 m.z]):=HP3.out.keep hb4 hwB
 have HB4:Hid (Below w.heap.size w w4):=HB3.out.trans (hb4.mono (by omega))
 have hs4:B≤w4.heap.size:=Nat.le_trans hs3 hb4.size
 have HLL:Hid (yax m=yc7 m++twoB m.z++twoB m.s++iniB m m.i.length++yca m m.h.length++evsB m m.e.length):=rfl
 have hl4:(yc7 m++twoB m.z++twoB m.s).length≤7:=by simp [yc7,twoB]
 generalize yc7 m++twoB m.z++twoB m.s=l4 at HR4 HLL hl4
 have q2:=HP4.out.cell (i:=2) rfl
 clear hr4 ht4 hb4 HR3 HP3 HB3 HBB3 hs3
 go_wp2
 clear q2
 go_loopw [4,37] (fun o i wr=>∃(k:Nat) (v:Value),k≤m.i.length∧v=o∧i= .int .i64 k∧RowBy B wr o (l4++iniB m k)∧Below B w4 wr) (fun _ i _=>m.i.length-(intOf i).toNat)
 case atStart=>exact⟨0,_,Nat.zero_le _,rfl,rfl,by simpa [iniB] using HR4.out,Below.refl _ _⟩
 case round=>
  clear HR4
  obtain⟨k,o,hk,rfl,rfl,hR,hBw⟩:=hrel
  have HR4:Hid (RowBy B wr o (l4++iniB m k)):=hR
  have HBW:Hid (Below B w4 wr):=hBw
  have hsw:B≤wr.heap.size:=Nat.le_trans hs4 hBw.size
  have HBX:Hid (Below w.heap.size w wr):=HB4.out.trans (hBw.mono (by omega))
  clear hR hBw
  have hd3:m.i.length≤4:=HD.out.2.2.1
  by_cases hlt:k<m.i.length
  ·obtain⟨b,off,rfl,hI⟩:=HI.out.resolve_left (by intro e;rw [e]at hlt;simp at hlt)
   have f0:=(HBX.out.cell (p:=⟨b,off+k,none⟩) hI.1).trans (hI.2 k hlt)
   have HJ:Hid (0≤intAt m.i k∧intAt m.i k≤999):=ok_int HOK.out hlt
   clear hI
   go_wp2_with fail
   clear f0
   refine(ye1 B _ _ _ _ hsw (by rw [List.length_append,ycn];omega) HJ.out.1 (by have:=HJ.out.2;omega) HR4.out).mono ?_
   rintro e w5 ⟨v5,rfl,hr5,ht5⟩
   have HR5:Hid (RowBy B w5 v5 (l4++iniB m k++twoB (intAt m.i k))):=hr5
   have HBW5:Hid (Below B w4 w5):=HBW.out.trans (ht5.to_below (fun k e=>yb0 HR4.out e) hsw)
   clear hr5 ht5
   go_wp2
   go_roundw
   case rel=>exact⟨k+1,_,by omega,rfl,by go_num,by have:=HR5.out;rw [List.append_assoc]at this;exact this,HBW5.out⟩
   case measure=>simp [intOf];omega
  ·obtain rfl:k=m.i.length:=by omega
   have hl5:(l4++iniB m m.i.length).length≤15:=by rw [List.length_append,ycn];omega
   generalize l4++iniB m m.i.length=l5 at HR4 HLL hl5
   obtain⟨W5,hW5⟩:∃W5,W5=wr:=⟨_,rfl⟩
   subst hW5
   have HP5:Hid (Bk W5 w.heap.size 36 #[.int .i64 m.n,.int .i64 m.s,.slice ai m.i.length ci,.slice ah m.h.length ch,.slice ae m.e.length ce,.int .i64 m.z]):=HP4.out.keep HBW.out hwB
   have q3:=HP5.out.cell (i:=3) rfl
   clear HBW HP4 HB4 hs4
   go_wp2
   clear q3
   go_loopw [4,48] (fun o i wr=>∃(k:Nat) (v:Value),k≤m.h.length∧v=o∧i= .int .i64 k∧RowBy B wr o (l5++yca m k)∧Below B W5 wr) (fun _ i _=>m.h.length-(intOf i).toNat)
   case atStart=>exact⟨0,_,Nat.zero_le _,rfl,rfl,by simpa [yca] using HR4.out,Below.refl _ _⟩
   case round=>
    clear HR4
    obtain⟨k,o,hk,rfl,rfl,hR,hBw⟩:=hrel
    have HR4:Hid (RowBy B wr o (l5++yca m k)):=hR
    have HBW:Hid (Below B W5 wr):=hBw
    have hsw2:B≤wr.heap.size:=Nat.le_trans hsw hBw.size
    have HBY:Hid (Below w.heap.size w wr):=HBX.out.trans (hBw.mono (by omega))
    have hd4:m.h.length≤4:=HD.out.2.2.2.1
    clear hR hBw
    by_cases hlt:k<m.h.length
    ·obtain⟨b,off,rfl,hb,hc⟩:=HH.out.resolve_left (by intro e;rw [e]at hlt;simp at hlt)
     obtain⟨u,f0,hu⟩:=hc k hlt
     replace f0:=(HBY.out.cell (p:=⟨b,off+k,none⟩) hb).trans f0
     have HU:Hid (∃a cap,u= .slice a (hAt m.h k).length cap∧(hAt m.h k= []∨ ∃b off,a=some ⟨b,off,none⟩∧b<B∧OsAt wr b off (hAt m.h k))):=by
      obtain⟨a,cap,e,_,_,h⟩:=hu
      exact⟨a,cap,e,h.imp id (fun⟨b,off,e,h⟩=>⟨b,off,e,by have:=h.1;omega,h.below HBY.out h.1⟩)⟩
     have HSM:Hid (∀q,q<(hAt m.h k).length→small (oAt (hAt m.h k) q)):=fun q hq=>ok_small HOK.out hlt hq
     have HR8:Hid ((hAt m.h k).length≤8):=yk2 HOK.out k
     obtain⟨a1,c1,rfl,_⟩:=hu
     clear hc
     go_wp2_with fail
     clear f0
     refine(ykb B _ _ _ (hAt m.h k) _ hsw2 (by have:=yc0 HOK.out k;rw [List.length_append];omega) (by have:=HR8.out;omega) HSM.out HR4.out HU.out).mono ?_
     rintro e w5 ⟨v5,rfl,hr5,hb5⟩
     have HR5:Hid (RowBy B w5 v5 (l5++yca m k++yhk (hAt m.h k))):=hr5
     have HBW5:Hid (Below B W5 w5):=HBW.out.trans hb5
     clear hr5 hb5
     go_wp2
     go_roundw
     case rel=>exact⟨k+1,_,by omega,rfl,by go_num,by have:=HR5.out;rw [List.append_assoc]at this;exact this,HBW5.out⟩
     case measure=>simp [intOf];omega
    ·obtain rfl:k=m.h.length:=by omega
     have hl6:(l5++yca m m.h.length).length≤300:=by have:=yc0 HOK.out m.h.length;rw [List.length_append];omega
     generalize l5++yca m m.h.length=l6 at HR4 HLL hl6
     obtain⟨W6,hW6⟩:∃W6,W6=wr:=⟨_,rfl⟩
     subst hW6
     have HP6:Hid (Bk W6 w.heap.size 36 #[.int .i64 m.n,.int .i64 m.s,.slice ai m.i.length ci,.slice ah m.h.length ch,.slice ae m.e.length ce,.int .i64 m.z]):=HP5.out.keep HBW.out hwB
     have q4:=HP6.out.cell (i:=4) rfl
     clear HBW HP5 HBX hsw
     go_wp2
     clear q4
     go_loopw [4,59] (fun o i wr=>∃(k:Nat) (v:Value),k≤m.e.length∧v=o∧i= .int .i64 k∧RowBy B wr o (l6++evsB m k)∧Below B W6 wr) (fun _ i _=>m.e.length-(intOf i).toNat)
     case atStart=>exact⟨0,_,Nat.zero_le _,rfl,rfl,by simpa [evsB] using HR4.out,Below.refl _ _⟩
     case round=>
      clear HR4
      obtain⟨k,o,hk,rfl,rfl,hR,hBw⟩:=hrel
      have HR4:Hid (RowBy B wr o (l6++evsB m k)):=hR
      have HBW:Hid (Below B W6 wr):=hBw
      have hsw3:B≤wr.heap.size:=Nat.le_trans hsw2 hBw.size
      have HBZ:Hid (Below w.heap.size w wr):=HBY.out.trans (hBw.mono (by omega))
      have hd5:m.e.length≤6:=HD.out.2.2.2.2
      clear hR hBw
      by_cases hlt:k<m.e.length
      ·obtain⟨b,off,rfl,hb,hc⟩:=HEV.out.resolve_left (by intro e;rw [e]at hlt;simp at hlt)
       obtain⟨f0,f1,f2,f3,f4,f5,f6⟩:=(hc k hlt).below HBZ.out hb
       have HEB:Hid (evsB m (k+1)=evsB m k++evB (evAt m.e k)):=rfl
       generalize hev:evAt m.e k=e at f0 f1 f2 f3 f4 f5 f6 HEB
       obtain⟨t,s1,qq,d,kk,v,g⟩:=e
       have HEO:Hid ((0≤t∧t≤1000)∧(0≤d∧d≤3)∧(0≤kk∧kk≤3)∧0≤v∧v≤999):=ok_ev HOK.out hlt hev
       clear hc hev
       obtain⟨V,hV⟩:∃V,wr.alloc (.cells #[.int .i64 t,.int .i64 s1,.int .i64 qq,.int .i64 d,.int .i64 kk,.int .i64 v,.int .i64 g] 110)=V:=⟨_,rfl⟩
       have hbV:Below wr.heap.size wr V:=hV▸(Below.refl _ wr).alloc (Nat.le_refl _) _
       have HRV:Hid (RowBy B V o (l6++evsB m k)):=HR4.out.below hbV
       have HBV:Hid (Below B W6 V):=HBW.out.trans (hbV.mono hsw3)
       have hQV:Bk V wr.heap.size 110 #[.int .i64 t,.int .i64 s1,.int .i64 qq,.int .i64 d,.int .i64 kk,.int .i64 v,.int .i64 g]:=hV▸Bk.new _ _ _
       have hsV:B≤V.heap.size:=Nat.le_trans hsw3 hbV.size
       have e0:=hQV.cell (i:=0) rfl
       have e1:=hQV.cell (i:=1) rfl
       have e2:=hQV.cell (i:=2) rfl
       have e3:=hQV.cell (i:=3) rfl
       have e4:=hQV.cell (i:=4) rfl
       have e5:=hQV.cell (i:=5) rfl
       have e6:=hQV.cell (i:=6) rfl
       clear hbV hQV
       go_wp2_with fail
       clear f0 f1 f2 f3 f4 f5 f6 e0 e1 e2 e3 e4 e5 e6 hV
       refine(yo2 B _ _ _ _ _ _ _ _ _ _ hsV (by rw [List.length_append,yej];omega) HEO.out.1.1 (by have:=HEO.out.1.2;omega) HEO.out.2.1.1 (by have:=HEO.out.2.1.2;omega) HEO.out.2.2.1.1 (by have:=HEO.out.2.2.1.2;omega) HEO.out.2.2.2.1 (by have:=HEO.out.2.2.2.2;omega) HRV.out).mono ?_
       rintro e w5 ⟨v5,rfl,hr5,hb5⟩
       have HR5:Hid (RowBy B w5 v5 (l6++evsB m (k+1))):=by rw [HEB.out,←List.append_assoc];exact hr5
       have HBW5:Hid (Below B W6 w5):=HBV.out.trans hb5
       clear hr5 hb5
       go_wp2
       go_roundw
       case rel=>exact⟨k+1,_,by omega,rfl,by go_num,HR5.out,HBW5.out⟩
       case measure=>simp [intOf];omega
      ·obtain rfl:k=m.e.length:=by omega
       go_wp2
       go_ret2
       exact⟨o,by rw [HOK.out];rfl,by rw [HE.out,HLL.out];exact HR4.out.own.mono (Nat.le_of_lt hwB),HBZ.out⟩
theorem ecmp_of {a b:Ev} (ha:a.ok=true) (hb:b.ok=true):a.ecmp b=a.cmp b:=by
 unfold Ev.ecmp Ev.cmp ecmp
 rw [if_pos ⟨ha,hb⟩]
theorem yhq (a b:Int):num a b= -num b a:=by
 unfold num
 split<;>split<;>(try split)<;>omega
theorem cmp_opp (a b:Ev):a.cmp b= -b.cmp a:=by
 unfold Ev.cmp cmpI
 rw [yhq a.t b.t,yhq a.s b.s,yhq a.q b.q,yhq a.g b.g]
 by_cases h1:a.t=b.t
 ·by_cases h2:a.s=b.s
  ·by_cases h3:a.q=b.q
   ·simp [h1,h2,h3]
   ·have h3':¬b.q=a.q:=fun e=>h3 e.symm
    simp [h1,h2,h3,h3']
  ·have h2':¬b.s=a.s:=fun e=>h2 e.symm
   simp [h1,h2,h2']
 ·have h1':¬b.t=a.t:=fun e=>h1 e.symm
  simp [h1,h1']
structure MnS (w wr:World) (G:Nat) (cur:Ev):Prop where
 rb:Bk wr w.heap.size 110 (evA zEv)
 gb:Bk wr G 110 (evA cur)
 be:Below w.heap.size w wr
theorem MnS.below {w wr w':World} {G:Nat} {cur:Ev} (h:MnS w wr G cur) (hb:Below wr.heap.size wr w'):MnS w w' G cur:=
 ⟨h.rb.below hb,h.gb.below hb,h.be.trans (hb.mono h.be.size)⟩
theorem MnS.put {w wr:World} {G:Nat} {cur:Ev} (h:MnS w wr G cur) (h1:w.heap.size<G) (e:Ev):MnS w (putEv wr G e) G e:=
 ⟨h.rb.turns (ybc wr G e) (by omega),h.gb.putEv e,h.be.trans ((ybc wr G e).to_below (fun k hk=>by omega) h.be.size)⟩
theorem MnS.ev {w wr:World} {G:Nat} {cur:Ev} (h:MnS w wr G cur):Ev.In wr G 0 cur:=
 ⟨h.gb.cell (i:=0) rfl,h.gb.cell (i:=1) rfl,h.gb.cell (i:=2) rfl,h.gb.cell (i:=3) rfl,h.gb.cell (i:=4) rfl,h.gb.cell (i:=5) rfl,h.gb.cell (i:=6) rfl⟩
set_option maxRecDepth 100000 in
set_option maxHeartbeats 8000000 in
theorem iMin (a:Option Addr) (cap:Nat) (l:List Ev) (w:World) (hl:l.length≤100000000) (h0:0<l.length) (hok:∀i,i<l.length→(evAt l i).ok=true) (h:IsEvs w (.slice a l.length cap) l):
  Calls Tryz.prog 168 #[.slice a l.length cap,.func (.func 123) #[] #[]] w fun e w'=>∃g,minE l=some g∧e= .returned g.val∧Below w.heap.size w w':=by
 obtain⟨b,off,rfl,hb,hc⟩:=h.rows.resolve_left (fun e=>by rw [e]at h0;simp at h0)
 have HC:Hid (∀i,i<l.length→Ev.In w b (off+i*7) (evAt l i)):=hc
 have HOK:Hid (∀i,i<l.length→(evAt l i).ok=true):=hok
 have he0:Ev.In w b off (evAt l 0):=by simpa using hc 0 h0
 obtain⟨V0,hV0⟩:∃V,w.alloc (.cells #[.int .i64 0,.int .i64 0,.int .i64 0,.int .i64 0,.int .i64 0,.int .i64 0,.int .i64 0] 110)=V:=⟨_,rfl⟩
 have hbV:Below w.heap.size w V0:=by rw [←hV0];exact(Below.refl _ w).alloc (Nat.le_refl _) _
 obtain⟨e0,e1,e2,e3,e4,e5,e6⟩:=he0.below hbV hb
 obtain⟨G,hG⟩:∃G,G=V0.heap.size:=⟨_,rfl⟩
 have hG1:w.heap.size<G:=by rw [hG,←hV0];simp
 obtain⟨W0,hW0⟩:∃W0,V0.alloc (.cells #[.int .i64 (evAt l 0).t,.int .i64 (evAt l 0).s,.int .i64 (evAt l 0).q,.int .i64 (evAt l 0).d,.int .i64 (evAt l 0).k,.int .i64 (evAt l 0).v,.int .i64 (evAt l 0).g] 110)=W0:=⟨_,rfl⟩
 have HS0:Hid (MnS w W0 G (evAt l 0)):=by
  rw [←hW0]
  refine⟨?_,?_,hbV.alloc hbV.size _⟩
  ·rw [←hV0];exact(Bk.new w _ _).alloc _
  ·rw [hG];exact Bk.new _ _ _
 have HW0:Hid (V0.alloc (.cells #[.int .i64 (evAt l 0).t,.int .i64 (evAt l 0).s,.int .i64 (evAt l 0).q,.int .i64 (evAt l 0).d,.int .i64 (evAt l 0).k,.int .i64 (evAt l 0).v,.int .i64 (evAt l 0).g] 110)=W0):=hW0
 have HV0:Hid (w.alloc (.cells #[.int .i64 0,.int .i64 0,.int .i64 0,.int .i64 0,.int .i64 0,.int .i64 0,.int .i64 0] 110)=V0):=hV0
 have HG:Hid (G=V0.heap.size):=hG
 have hl1:¬(l.length:Int)<1:=by omega
 have hl0:(0:Int)<(l.length:Int):=by omega
 clear hW0 hG hc hok he0 hbV h
 go_enter Tryz.func168,Tryz.ntmps168
 go_wp2
 rw [HW0.out,←HG.out]
 clear HW0 HG HV0 hV0 e0 e1 e2 e3 e4 e5 e6 hl1
 have HM0:Hid (minE (l.take 1)=some (evAt l 0)):=by
  show _=_
  rw [yf6 h0]
  rfl
 go_loopw [6] (fun i wr=>∃(j:Nat) (g:Ev),1≤j∧j≤l.length∧i= .int .i64 j∧Hid (minE (l.take j)=some g∧g.ok=true)∧MnS w wr G g) (fun i _=>l.length-(intOf i).toNat)
 case atStart=>exact⟨1,evAt l 0,Nat.le_refl _,h0,rfl,⟨HM0.out,HOK.out 0 h0⟩,HS0.out⟩
 case round=>
  clear HS0 HM0
  obtain⟨j,g,hj1,hj,rfl,HMj,hS⟩:=hrel
  have HS:Hid (MnS w wr G g):=hS
  by_cases hlt:j<l.length
  ·have hbr:b<wr.heap.size:=Nat.lt_of_lt_of_le hb hS.be.size
   have hev:Ev.In wr b (off+j*7) (evAt l j):=(HC.out j hlt).below hS.be hb
   obtain⟨e0,e1,e2,e3,e4,e5,e6⟩:=hev.beyond hbr
   obtain⟨d0,d1,d2,d3,d4,d5,d6⟩:=hS.ev.beyond hS.gb.lt
   have HEV:Hid (Ev.In wr b (off+j*7) (evAt l j)):=hev
   have hne:Nonempty (Beyond wr):=⟨⟨wr,Below.refl _ _⟩⟩
   have HNX:Hid (minE (l.take (j+1))=if (evAt l j).cmp g<0 then some (evAt l j)else some g):=by
    show _=_
    rw [yf6 hlt,ydq,HMj.out.1]
    rfl
   have HEC:Hid ((evAt l j).ecmp g=(evAt l j).cmp g):=ecmp_of (HOK.out j hlt) HMj.out.2
   have HOJ:Hid ((evAt l j).ok=true):=HOK.out j hlt
   have hki:(j:Int)<(l.length:Int):=by omega
   have HSP:Hid (∀q:World,Below wr.heap.size wr q→MnS w (putEv q G (evAt l j)) G (evAt l j)):=fun q hq=>(HS.out.below hq).put hG1 _
   clear hev hS
   generalize hz:(evAt l j).cmp g=z at HNX HEC
   have KZ:Hid ((evAt l j).ecmp g=z):=HEC.out
   clear hz
   by_cases hz0:z<0
   ·have hdz:decide (z<0)=true:=decide_eq_true hz0
    have HNN:Hid (minE (l.take (j+1))=some (evAt l j)):=by show _=_;rw [HNX.out,if_pos hz0]
    go_wp2_with fail
    refine ya0 (by kernel_rfl) (by kernel_rfl) ?_
    repeat(go_big_quiet_step (first|(go_at_call 123;exact Beyond.of (yeh (evAt l j) g z KZ.out _))))
    refine wpQuiet_nil ?_
    rintro w3 ⟨⟨_,hb3⟩,rfl⟩
    have HB3:Hid (Below wr.heap.size wr w3):=hb3
    clear hb3
    have g0:=(HS.out.below HB3.out).gb.cell (i:=0) rfl
    have g1:=(HS.out.below HB3.out).gb.cell (i:=1) rfl
    have g2:=(HS.out.below HB3.out).gb.cell (i:=2) rfl
    have g3:=(HS.out.below HB3.out).gb.cell (i:=3) rfl
    have g4:=(HS.out.below HB3.out).gb.cell (i:=4) rfl
    have g5:=(HS.out.below HB3.out).gb.cell (i:=5) rfl
    have g6:=(HS.out.below HB3.out).gb.cell (i:=6) rfl
    have gf:=(HS.out.below HB3.out).gb.free
    obtain⟨v0,v1,v2,v3,v4,v5,v6⟩:=HEV.out.below HB3.out hbr
    go_wp2
    clear g0 g1 g2 g3 g4 g5 g6 gf v0 v1 v2 v3 v4 v5 v6
    go_roundw
    case rel=>exact⟨j+1,evAt l j,by omega,by omega,by go_num,⟨HNN.out,HOJ.out⟩,HSP.out _ HB3.out⟩
    case measure=>simp [intOf];omega
   ·have hdz:decide (z<0)=false:=decide_eq_false hz0
    have HNN:Hid (minE (l.take (j+1))=some g):=by show _=_;rw [HNX.out,if_neg hz0]
    go_wp2_with fail
    refine ya0 (by kernel_rfl) (by kernel_rfl) ?_
    repeat(go_big_quiet_step (first|(go_at_call 123;exact Beyond.of (yeh (evAt l j) g z KZ.out _))))
    refine wpQuiet_nil ?_
    rintro w3 ⟨⟨_,hb3⟩,rfl⟩
    have HB3:Hid (Below wr.heap.size wr w3):=hb3
    clear hb3
    go_wp2
    go_roundw
    case rel=>exact⟨j+1,g,by omega,by omega,by go_num,⟨HNN.out,HMj.out.2⟩,HS.out.below HB3.out⟩
    case measure=>simp [intOf];omega
  ·obtain rfl:l.length=j:=by omega
   have HMN:Hid (minE l=some g):=by have:=HMj.out.1;rw [List.take_length]at this;exact this
   obtain⟨g0,g1,g2,g3,g4,g5,g6⟩:=hS.ev
   have r0:=hS.rb.cell (i:=0) rfl
   have r1:=hS.rb.cell (i:=1) rfl
   have r2:=hS.rb.cell (i:=2) rfl
   have r3:=hS.rb.cell (i:=3) rfl
   have r4:=hS.rb.cell (i:=4) rfl
   have r5:=hS.rb.cell (i:=5) rfl
   have r6:=hS.rb.cell (i:=6) rfl
   have rf:=hS.rb.free
   clear hS
   go_wp2
   clear g0 g1 g2 g3 g4 g5 g6 r0 r1 r2 r3 r4 r5 r6 rf
   obtain⟨V,hV⟩:∃V,putEv wr w.heap.size g=V:=⟨_,rfl⟩
   have ht:=ybc wr w.heap.size g
   have hk:=HS.out.rb.putEv g
   rw [hV]at ht hk
   unfold putEv at hV
   rw [hV]
   have t0:V.cell? ⟨w.heap.size,0,none⟩=some (.int .i64 g.t):=hk.cell (i:=0) rfl
   have t1:V.cell? ⟨w.heap.size,1,none⟩=some (.int .i64 g.s):=hk.cell (i:=1) rfl
   have t2:V.cell? ⟨w.heap.size,2,none⟩=some (.int .i64 g.q):=hk.cell (i:=2) rfl
   have t3:V.cell? ⟨w.heap.size,3,none⟩=some (.int .i64 g.d):=hk.cell (i:=3) rfl
   have t4:V.cell? ⟨w.heap.size,4,none⟩=some (.int .i64 g.k):=hk.cell (i:=4) rfl
   have t5:V.cell? ⟨w.heap.size,5,none⟩=some (.int .i64 g.v):=hk.cell (i:=5) rfl
   have t6:V.cell? ⟨w.heap.size,6,none⟩=some (.int .i64 g.g):=hk.cell (i:=6) rfl
   refine bodyPost_ret (v:=g.val) (by simp [results,Tryz.results168,go_sem,t0,t1,t2,t3,t4,t5,t6,Ev.val]) rfl ⟨g,HMN.out,rfl,HS.out.be.trans (ht.to_below (fun b e=>by omega) HS.out.be.size)⟩
end Go.Proofs.YtmobiieoecjmdaaGreat

