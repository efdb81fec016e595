/- WVs, MByJ, WRk -/
import Derived.Test.YtmobiieoecjmdaaGreatExactDifferG01
import Derived.Test.YtmobiieoecjmdaaGreatExactDifferG25
import Derived.Test.YtmobiieoecjmdaaGreatExactDifferG23
import Derived.Test.YtmobiieoecjmdaaGreatExactDifferG22
import Derived.Test.YtmobiieoecjmdaaGreatExactDifferG31
/- Rows of vectors as arrays; the program's vectorsOfRuns and vectorsIn. -/
namespace Go.Proofs.YtmobiieoecjmdaaGreat
set_option maxHeartbeats 8000000
set_option maxRecDepth 100000
open Go.RowKit
theorem ybq {p:Prop} (h:p):Hid p:=h
theorem RowV.isD {B:Nat} {w0 w:World} {x:Value} {l:List (List Int)} (h:RowV B w0 w x l) (hb:Below w0.heap.size w0 w):IsD w x (yef l):=by
 obtain⟨us,h1,h2,h3⟩:=h
 obtain⟨hl,⟨rfl,h0⟩|⟨g,cap,cur,rfl,_,hc,k1,k2,k3,k4⟩⟩:=h1
 ·obtain rfl:=List.eq_nil_of_length_eq_zero h0
  exact .nil none 0 1 _ (by unfold maxLen;omega)
 ·refine IsD.of_parts k1 k2 (.inr ⟨g,0,rfl,(Array.getElem?_eq_some_iff.1 hc).1,fun j hj=> ?_⟩)
  obtain⟨u,hu,hd⟩:=h3 j (by omega)
  refine⟨u,?_,hd.under hb⟩
  have h9:(cur.toList.take (l.length*1))[j]? =some u:=by rw [k4];exact hu
  rw [List.getElem?_take_of_lt (by omega)]at h9
  rw [Nat.zero_add]
  simpa [World.cell?,hc] using h9
theorem runs_any (x:Value) (v:Wd) (w:World) (hs:ycb v) (h:IsW w x v):
  Calls Tryz.prog 46 #[x] w fun e w'=>∃y,e= .returned y∧Below w.heap.size w w'∧RowV w.heap.size w w' y (dsOf v.k):=by
 have HSM:Hid (SmallM v.m):=hs.1
 have HSK:Hid (ydb v.k):=hs.2.1
 have HSV:=ybq hs.2.2
 have hkl:v.k.length≤1048576:=hs.2.1.1
 have hcl:v.c.length≤1048576:=by have h9:=hs.2.2;rw [ydx]at h9;omega
 obtain⟨ai,ci,ah,ch,ae,ce,ak,ck,ac,cc,rfl,hm,hk,hc⟩:=h.form
 have HWW:=ybq h
 have HMW:=ybq hm
 have HKS:=ybq hk
 have HCS:=ybq hc
 clear h hm hk hc
 obtain⟨W0,hW0⟩:∃W0,w.alloc (.cells #[.int .i64 v.m.n,.int .i64 v.m.s,.slice ai v.m.i.length ci,.slice ah v.m.h.length ch,.slice ae v.m.e.length ce,.int .i64 v.m.z,.slice ak v.k.length ck,.slice ac v.c.length cc] 39)=W0:=⟨_,rfl⟩
 have HB0:=hdq (beA hW0)
 have HP0:=hdq (bkA hW0)
 have q6:=HP0.out.cell (i:=6) rfl
 go_enter Tryz.func46,Tryz.ntmps46
 go_wp2
 clear q6 hW0
 go_loopw [9,3] (fun i x wr=>∃j:Nat,j≤v.k.length∧i= .int .i64 j∧Below w.heap.size w wr∧ ∃(L:List (List Int)) (a3:Option Addr) (c3:Nat),x= .slice a3 L.length c3∧Hid (L=(dsOf v.k).take j)∧Hid (RowV w.heap.size w wr (.slice a3 L.length c3) L)) (fun i _ _=>v.k.length-(intOf i).toNat)
 case atStart=>exact⟨0,Nat.zero_le _,rfl,HB0.out,[],none,0,rfl,rfl,RowV.nil _ _ _⟩
 case round=>
  obtain⟨j,hj,rfl,hB,L,a3,c3,rfl,HL,HRV⟩:=hrel
  have HBw:=ybq hB
  clear hB
  by_cases hlt:j<v.k.length
  case pos=>
   have hjd:decide ((j:Int)<(v.k.length:Int))=true:=by simpa using hlt
   obtain⟨b,off,rfl,hbl,hKA⟩:=HKS.out.resolve_left (by omega)
   obtain⟨ki,di,kh,dh,ke,de,k6,d6,k7,d7,k8,d8,k12,d12,k13,d13,⟨f0,f1,f2,f3,f4,f5,f6,f7,f8,f9,f10,f11,f12,f13⟩,hkn,hkm,hkd⟩:=(hKA j hlt).form
   have HDW:=ybq hkd
   have f0:=(HBw.out.cell (p:=⟨b,_,none⟩) hbl).trans f0
   have f1:=(HBw.out.cell (p:=⟨b,_,none⟩) hbl).trans f1
   have f2:=(HBw.out.cell (p:=⟨b,_,none⟩) hbl).trans f2
   have f3:=(HBw.out.cell (p:=⟨b,_,none⟩) hbl).trans f3
   have f4:=(HBw.out.cell (p:=⟨b,_,none⟩) hbl).trans f4
   have f5:=(HBw.out.cell (p:=⟨b,_,none⟩) hbl).trans f5
   have f6:=(HBw.out.cell (p:=⟨b,_,none⟩) hbl).trans f6
   have f7:=(HBw.out.cell (p:=⟨b,_,none⟩) hbl).trans f7
   have f8:=(HBw.out.cell (p:=⟨b,_,none⟩) hbl).trans f8
   have f9:=(HBw.out.cell (p:=⟨b,_,none⟩) hbl).trans f9
   have f10:=(HBw.out.cell (p:=⟨b,_,none⟩) hbl).trans f10
   have f11:=(HBw.out.cell (p:=⟨b,_,none⟩) hbl).trans f11
   have f12:=(HBw.out.cell (p:=⟨b,_,none⟩) hbl).trans f12
   have f13:=(HBw.out.cell (p:=⟨b,_,none⟩) hbl).trans f13
   have HSKj:=ybq (HSK.out.2 j hlt)
   obtain⟨V1,hV1⟩:∃V1,wr.alloc (.cells #[.int .i64 (knAt v.k j).m.n,.int .i64 (knAt v.k j).m.s,.slice ki (knAt v.k j).m.i.length di,.slice kh (knAt v.k j).m.h.length dh,.slice ke (knAt v.k j).m.e.length de,.int .i64 (knAt v.k j).m.z,.slice k6 (knAt v.k j).d.length d6,.slice k7 (knAt v.k j).p.length d7,.slice k8 (knAt v.k j).b.length d8,.int .i64 (knAt v.k j).t,.int .i64 (knAt v.k j).q,.bool (knAt v.k j).f,.slice k12 (knAt v.k j).s.length d12,.slice k13 (knAt v.k j).x.length d13] 57)=V1:=⟨_,rfl⟩
   have hbV:=beA hV1
   have HBV:=ybq hbV
   have HV1:=ybq hbV.size
   have HK1:=hdq (bkA hV1)
   have HKI:=ybq ((hkn.under HBw.out).under hbV)
   have HMI:=ybq ((hkm.below HBw.out).below hbV)
   clear hkn hkm hkd hbV hKA
   have hLl:L.length≤1048576:=by rw [HL.out,List.length_take];omega
   have HRV3:=ybq (HRV.out.below HBV.out)
   have HB3:=ybq (trm HBw.out HBV.out)
   have hk6:=HK1.out.cell (i:=6) rfl
   obtain⟨V4,hV4⟩:∃V4,V1.alloc (.cells #[.slice k6 (knAt v.k j).d.length d6] 22)=V4:=⟨_,rfl⟩
   have hb4:=beA hV4
   have HS4:Hid (SrcC V4 (.slice (some ⟨V1.heap.size,0,none⟩) 1 1) 1 1 [.slice k6 (knAt v.k j).d.length d6]):=ymc (T:=22) (hV4▸Bk.new V1 _ _)
   have HBV4:=ybq (trm HB3.out hb4)
   have HD4:=ybq HDW.out
   obtain⟨us,ho,h1,h3⟩:=HRV3.out.below hb4
   have HO4:=ybq ho
   have HU1:=ybq h1
   have HU3:=ybq h3
   have hs4:w.heap.size≤V4.heap.size:=HBV4.out.size
   obtain⟨iv,hiv,hiv0,hiv1,hiv2⟩:=info_parts ys9
   clear ho h1 h3 hb4
   go_wp2_with (at_builtin;refine yak V4 rfl _ _ 28 rfl w.heap.size 22 iv (.slice none 0 0) 1 24 Tryz.underlying28 hiv hiv0 hiv1 hiv2 rfl (by decide) (.slice a3 L.length c3) L.length us rfl HO4.out (.slice (some ⟨V1.heap.size,0,none⟩) 1 1) 1 [.slice k6 (knAt v.k j).d.length d6] rfl HS4.out (yib HD4.out.one.1) (by unfold maxLen;omega) (by omega) hs4 ?_;intro vn w5 hown hgrow hnew;obtain⟨an,cn,hvn⟩:=yal hown;subst hvn;have HG5:Hid (V4.grownBy w5 (Value.slice a3 L.length c3).ownBlock):=hgrow;have HO5:Hid (w5.ownsRow w.heap.size 22 1 (.slice an (L.length+1) cn) (L.length+1) (us++ [.slice k6 (knAt v.k j).d.length d6])):=hown;clear hown hgrow hnew)
   go_roundw
   case rel=>
    have hR5:=RowV.grown HO4.out HU1.out HU3.out HO5.out HD4.out
    have hB5:=yer HO4.out HG5.out HBV4.out (Nat.le_refl _) hs4
    refine⟨j+1,by omega,by go_num,hB5,L++ [(knAt v.k j).d],an,cn,by rw [List.length_append];rfl,?_,by rw [List.length_append];exact hR5⟩
    show L++ [(knAt v.k j).d]=_
    rw [yfh (by rw [ybu];exact hlt),←HL.out,yim hlt]
   case measure=>simp [intOf];omega
  case neg=>
   have hje:j=v.k.length:=by omega
   have hLK:L=dsOf v.k:=by(have h9:=HL.out;rw [hje,List.take_of_length_le (by rw [ybu];exact Nat.le_refl _)]at h9;exact h9)
   have HLK:Hid (L=dsOf v.k):=hLK
   subst hje
   clear hLK HL
   go_wp2
   go_ret
   exact⟨_,rfl,HBw.out,by rw [←HLK.out];exact HRV.out⟩
def ybk:List (List Int)→List Value
 | []=> []
 |d::l=> [i64 (intAt d 0),i64 (intAt d 1),i64 (intAt d 2),i64 (intAt d 3)]++ybk l
theorem ygz:∀l,(ybk l).length=l.length*4
 | []=>rfl
 |d::l=>by rw [ybk,List.length_append,ygz l,List.length_cons];simp;omega
theorem yh0:∀l r,ybk (l++r)=ybk l++ybk r
 | [],r=>rfl
 |d::l,r=>by rw [List.cons_append,ybk,yh0 l r,ybk,List.append_assoc]
theorem yj1:∀l,∀u∈ybk l,u.oneCell'=true
 | [],u,h=>by cases h
 |d::l,u,h=>by
  rcases List.mem_append.1 h with h|h
  ·simp at h
   rcases h with rfl|rfl|rfl|rfl<;>rfl
  ·exact yj1 l u h
theorem yhx:∀(l:List (List Int)) (i r:Nat),i<l.length→r<4→(ybk l)[i*4+r]? =some (i64 (intAt (vAt l i) r))
 | [],i,r,h,_=>by simp at h
 |d::l,0,r,h,hr=>by
  rw [ybk,List.getElem?_append_left (by simp;omega)]
  have h4:r=0∨r=1∨r=2∨r=3:=by omega
  rcases h4 with rfl|rfl|rfl|rfl<;>rfl
 |d::l,i+1,r,h,hr=>by
  have e:vAt (d::l) (i+1)=vAt l i:=rfl
  rw [ybk,List.getElem?_append_right (by simp;omega),e]
  simp only [List.length_cons,List.length_nil]
  rw [show(i+1)*4+r-(0+1+1+1+1)=i*4+r by omega]
  exact yhx l i r (by simpa using h) hr
abbrev RowA (B:Nat) (w:World) (x:Value) (l:List (List Int)):Prop:=w.ownsRow B 137 4 x l.length (ybk l)
def VcAt (w:World) (b off:Nat) (l:List (List Int)):Prop:=b<w.heap.size∧ ∀i r,i<l.length→r<4→w.cell? ⟨b,off+i*4+r,none⟩=some (i64 (intAt (vAt l i) r))
theorem VcAt.below {w w':World} {b off:Nat} {l:List (List Int)} (h:VcAt w b off l) (hb:Below w.heap.size w w'):VcAt w' b off l:=
 ⟨Nat.lt_of_lt_of_le h.1 hb.size,fun i r hi hr=>(hb.cell (p:=⟨b,_,none⟩) h.1).trans (h.2 i r hi hr)⟩
theorem RowA.at {B:Nat} {w:World} {x:Value} {l:List (List Int)} (h:RowA B w x l):(x= .slice none 0 0∧l= [])∨ ∃g cap,x= .slice (some ⟨g,0,none⟩) l.length cap∧l.length≤cap∧cap≤maxLen∧VcAt w g 0 l:=by
 obtain⟨hl,⟨rfl,h0⟩|⟨g,cap,cur,rfl,_,hc,k1,k2,k3,k4⟩⟩:=h
 ·exact .inl ⟨rfl,List.eq_nil_of_length_eq_zero h0⟩
 ·refine .inr ⟨g,cap,rfl,k1,k2,(Array.getElem?_eq_some_iff.1 hc).1,fun i r hi hr=> ?_⟩
  have h9:=yhx l i r hi hr
  rw [←k4,List.getElem?_take_of_lt (by omega)]at h9
  rw [Nat.zero_add]
  simpa [World.cell?,hc] using h9
theorem VcAt.cells {w:World} {b off:Nat} {l:List (List Int)} (h:VcAt w b off l):∀j u,(ybk l)[j]? =some u→w.cell? ((⟨b,off,none⟩:Addr).add j)=some u:=fun j u hj=>by
 have hlt:j<(ybk l).length:=(List.getElem?_eq_some_iff.1 hj).1
 rw [ygz]at hlt
 have h1:=yhx l (j/4) (j%4) (by omega) (by omega)
 rw [show j/4*4+j%4=j by omega,hj]at h1
 cases h1
 rw [addS,←h.2 (j/4) (j%4) (by omega) (by omega),show off+j/4*4+j%4=off+j by omega]
theorem yo1:(Tryz.prog.info? 137).map (fun i=>(i.zero,i.size,i.bytes))=some (some (.agg #[.int .i64 0,.int .i64 0,.int .i64 0,.int .i64 0]),4,32):=by kernel_rfl
def yhd (l:List (List Int)):Bool:=allB l.length fun i=>vok (vAt l i)
theorem allVk_iff {l:List (List Int)}:yhd l=true↔ ∀i,i<l.length→vok (vAt l i)=true:=allB_iff
theorem src_four {w:World} {g:Nat} {T:TypeId} {a b c d:Value} (h:Bk w g T #[a,b,c,d]):SrcC w (.slice (some ⟨g,0,none⟩) 1 1) 4 1 [a,b,c,d]:=
 ⟨rfl,_,_,rfl,.inr ⟨g,0,rfl,h.lt,fun j hj=>by
  have h4:j=0∨j=1∨j=2∨j=3:=by omega
  rcases h4 with rfl|rfl|rfl|rfl
  ·exact h.cell (i:=0) rfl
  ·exact h.cell (i:=1) rfl
  ·exact h.cell (i:=2) rfl
  ·exact h.cell (i:=3) rfl⟩⟩
def InR (l:List (List Int)) (w w':World) (e:Ending):Prop:=Below w.heap.size w w'∧((yhd l=true∧ ∃y,e= .returned (.tuple #[y,.bool true])∧RowA w.heap.size w' y l)∨(yhd l=false∧e= .returned (.tuple #[.slice none 0 0,.bool false])))
theorem vsnoc {l:List (List Int)} {j:Nat} (h:j<l.length):ybk (l.take (j+1))=ybk (l.take j)++ [i64 (intAt (vAt l j) 0),i64 (intAt (vAt l j) 1),i64 (intAt (vAt l j) 2),i64 (intAt (vAt l j) 3)]:=by
 rw [yfh h,yh0]
 rfl
theorem in_any (x:Value) (l:List (List Int)) (w:World) (hl2:l.length≤1048576) (hv9:∀j,j<l.length→(vAt l j).length≤1048576) (h:IsD w x (yef l)):
  Calls Tryz.prog 91 #[x] w fun e w'=>InR l w w' e:=by
 obtain⟨a,cap,rfl,h1,h2,h⟩:=IsD.parts (c:=1) (n:=l.length) h
 have HH:=ybq h
 have HS:=ybq hv9
 clear h h1 h2 hv9
 obtain⟨ia,hia,hia0,hia1,hia2⟩:=info_parts yo1
 go_enter Tryz.func91,Tryz.ntmps91
 go_wp2
 go_loopw [11,4] (fun i y wr=>∃j:Nat,j≤l.length∧i= .int .i64 j∧Hid (∀i,i<j→vok (vAt l i)=true)∧Hid (Below w.heap.size w wr)∧ ∃a3 c3,y= .slice a3 j c3∧Hid (wr.ownsRow w.heap.size 137 4 (.slice a3 j c3) j (ybk (l.take j)))) (fun i _ _=>l.length-(intOf i).toNat)
 case atStart=>exact⟨0,Nat.zero_le _,rfl,fun j hj=>by omega,Below.refl _ _,none,0,rfl,World.ownsRow_nil _ _ _ _⟩
 case round=>
  obtain⟨j,hj,rfl,HA,HB,a3,c3,rfl,HR⟩:=hrel
  have hsr:w.heap.size≤wr.heap.size:=HB.out.size
  by_cases hlt:j<l.length
  case pos=>
   have hjd:decide ((j:Int)<(l.length:Int))=true:=by simpa using hlt
   obtain⟨b,off,rfl,hbl,hc⟩:=HH.out.resolve_left (by omega)
   obtain⟨u,hu,hd⟩:=hc j (by omega)
   have f0:=(HB.out.cell (p:=⟨b,off+j,none⟩) hbl).trans hu
   have HD:Hid (IsI wr u (vAt l j)):=(IsD.under (d:=yax (vAt l j)) hd HB.out).isI
   have hvl:(vAt l j).length≤1048576:=HS.out j hlt
   clear hc hu hd
   go_wp2_with fail
   clear f0
   refine(of_any _ (vAt l j) _ (by omega) HD.out).mono ?_
   rintro e w2 ⟨rfl,hb2⟩
   have HB2:=ybq (HB.out.trans (hb2.mono hsr))
   have HR2:=ybq (owB HR.out hb2)
   clear hb2
   cases hv:vok (vAt l j)
   case false=>
    have HN:Hid (yhd l=false):=ya8 (fun h9=>by have h8:=allVk_iff.1 h9 j hlt;rw [hv]at h8;cases h8)
    rw [yqh hv]
    clear hv
    go_wp2
    go_ret2
    exact⟨trm HB2.out ((Below.refl _ w2).alloc (Nat.le_refl _) _),.inr ⟨HN.out,rfl⟩⟩
   case true=>
    have HV:=ybq hv
    obtain⟨x0,hx0⟩:∃z,intAt (vAt l j) 0=z:=⟨_,rfl⟩
    obtain⟨x1,hx1⟩:∃z,intAt (vAt l j) 1=z:=⟨_,rfl⟩
    obtain⟨x2,hx2⟩:∃z,intAt (vAt l j) 2=z:=⟨_,rfl⟩
    obtain⟨x3,hx3⟩:∃z,intAt (vAt l j) 3=z:=⟨_,rfl⟩
    have HVS:Hid (ybk (l.take (j+1))=ybk (l.take j)++ [i64 x0,i64 x1,i64 x2,i64 x3]):=by
     have h9:=vsnoc hlt
     rw [hx0,hx1,hx2,hx3]at h9
     exact h9
    rw [show ykl (vAt l j)=vec x0 x1 x2 x3 by unfold ykl;rw [if_pos hv,hx0,hx1,hx2,hx3]]
    clear hv hx0 hx1 hx2 hx3
    obtain⟨V1,hV1⟩:∃V1,w2.alloc (ycf x0 x1 x2 x3)=V1:=⟨_,rfl⟩
    have hbV:=beA hV1
    have HK1:=hdq (bkA hV1)
    obtain⟨V4,hV4⟩:∃V4,V1.alloc (.cells #[i64 x0,i64 x1,i64 x2,i64 x3] 137)=V4:=⟨_,rfl⟩
    have hb4:=beA hV4
    have HS4:Hid (SrcC V4 (.slice (some ⟨V1.heap.size,0,none⟩) 1 1) 4 1 [i64 x0,i64 x1,i64 x2,i64 x3]):=src_four (T:=137) (hV4▸Bk.new V1 _ _)
    have HBV4:=ybq ((trm HB2.out hbV).trans (hb4.mono (Nat.le_trans HB2.out.size hbV.size)))
    have HO4:=ybq (ybl (S:=fun _=>False) (owB HR2.out hbV) (Turns.of_below hb4) (fun _ _=>id))
    have hs4:w.heap.size≤V4.heap.size:=HBV4.out.size
    obtain⟨k0,k1,k2,k3⟩:=c4_4 HK1.out
    clear hbV hb4
    go_wp2_with (at_builtin;refine yak V4 rfl _ _ 131 rfl w.heap.size 137 ia (.agg #[.int .i64 0,.int .i64 0,.int .i64 0,.int .i64 0]) 4 32 Tryz.underlying131 hia hia0 hia1 hia2 rfl (by decide) (.slice a3 j c3) j (ybk (l.take j)) rfl HO4.out (.slice (some ⟨V1.heap.size,0,none⟩) 1 1) 1 [i64 x0,i64 x1,i64 x2,i64 x3] rfl HS4.out (by intro u hu;simp at hu;rcases hu with rfl|rfl|rfl|rfl<;>rfl) (by unfold maxLen;omega) (by omega) hs4 ?_;intro vn w5 hown hgrow hnew;obtain⟨an,cn,hvn⟩:=yal hown;subst hvn;have HG5:Hid (V4.grownBy w5 (Value.slice a3 j c3).ownBlock):=hgrow;have HO5:Hid (w5.ownsRow w.heap.size 137 4 (.slice an (j+1) cn) (j+1) (ybk (l.take j)++ [i64 x0,i64 x1,i64 x2,i64 x3])):=hown;clear hown hgrow hnew)
    go_roundw
    case rel=>
     refine⟨j+1,by omega,by go_num,fun i hi=> ?_,yer HO4.out HG5.out HBV4.out (Nat.le_refl _) hs4,an,cn,rfl,by rw [HVS.out];exact HO5.out⟩
     by_cases hij:i<j
     ·exact HA.out i hij
     ·obtain rfl:i=j:=by omega
      exact HV.out
    case measure=>simp [intOf];omega
  case neg=>
   have hje:j=l.length:=by omega
   have HY:Hid (yhd l=true):=allVk_iff.2 (fun i hi=>HA.out i (by omega))
   have HRL:Hid (RowA w.heap.size wr (.slice a3 l.length c3) l):=by
    have h9:=HR.out
    rw [hje,List.take_of_length_le (Nat.le_refl _)]at h9
    exact h9
   subst hje
   clear HR HA
   go_wp2
   go_ret2
   exact⟨HB.out,.inl ⟨HY.out,_,rfl,HRL.out⟩⟩
end Go.Proofs.YtmobiieoecjmdaaGreat

/- The program's ModelBytes. -/
namespace Go.Proofs.YtmobiieoecjmdaaGreat
open Go.RowKit
theorem yb1 {p:Prop} (h:p):Hid p:=h
set_option maxRecDepth 100000 in
set_option maxHeartbeats 8000000 in
theorem ysf (x:Value) (m:Md) (w:World) (hs:SmallM m) (h:IsM w x m):
  Calls Tryz.prog 142 #[x] w fun e w'=>∃u,e= .returned (.tuple #[u,.bool m.ok])∧By.OwnI w.heap.size w' u (ygy m)∧Below w.heap.size w w':=by
 have HX:Hid (IsM w x m):=h
 obtain⟨vi,vh,vs,rfl,⟨ai,ci,rfl,hi1,hi2,hi3⟩,⟨ah,ch,rfl,hh1,hh2,hh3⟩,⟨ae,ce,rfl,he1,he2,he3⟩⟩:=h
 have hi0:m.i.length≤1048576:=hs.i
 have hh0:m.h.length≤1048576:=hs.h
 have he0:m.e.length≤1048576:=hs.e
 have HS:Hid (SmallM m):=hs
 clear hs hi1 hi2 hh1 hh2 he1 he2
 have HI:=yb1 hi3
 have HH:=yb1 hh3
 have HEV:=yb1 he3
 clear hi3 hh3 he3 hi0 he0 hh0
 obtain⟨W0,hW0⟩:∃W0,w.alloc (.cells #[.int .i64 m.n,.int .i64 m.s,.slice ai m.i.length ci,.slice ah m.h.length ch,.slice ae m.e.length ce,.int .i64 m.z] 36)=W0:=⟨_,rfl⟩
 have HB0:=hdq (beA hW0)
 have HP0:=hdq (bkA hW0)
 obtain⟨p0,p1,p2,p3,p4,p5⟩:=c6_6 HP0.out
 go_enter Tryz.func142,Tryz.ntmps142
 go_wp2_with fail
 clear hW0 p0 p1 p2 p3 p4 p5
 refine(iModM _ m _ HS.out (HX.out.below HB0.out)).mono ?_
 rintro e W1 ⟨rfl,hb⟩
 have HB1:=yb1 (trm HB0.out hb)
 have HP1:=yb1 (HP0.out.below hb)
 clear hb HB0 HP0
 cases hok:m.ok
 case false=>
  have HE:Hid (ygy m= []):=(by simp [ygy,hok]:ygy m= [])
  have HOF:Hid (m.ok=false):=hok
  clear hok
  go_wp2
  go_ret2
  exact⟨.slice none 0 0,by rw [HOF.out];rfl,by rw [HE.out];exact By.OwnI.nil _ _,HB1.out⟩
 have HE:Hid (ygy m=ycl m):=(by simp [ygy,hok]:ygy m=ycl m)
 have HOK:Hid (m.ok=true):=hok
 obtain⟨d0,d1,d2,d3,d4,d5,d6,d7,d8,d9⟩:=(yj7 hok).1
 clear hok
 have hn0:0≤m.n:=by omega
 have hn1:m.n≤255:=by omega
 have hh0:(0:Int)≤(m.h.length:Int):=by omega
 have hh1:(m.h.length:Int)≤255:=by omega
 have he0:(0:Int)≤(m.e.length:Int):=by omega
 have he1:(m.e.length:Int)≤255:=by omega
 have HD:Hid ((0≤m.z∧m.z≤65535)∧(0≤m.s∧m.s≤65535)∧m.i.length≤4∧m.h.length≤4∧m.e.length≤6):=⟨⟨d8,by omega⟩,⟨d2,d3⟩,by omega,d6,d7⟩
 clear d0 d1 d2 d3 d4 d5 d6 d7 d8 d9
 obtain⟨i0,hi,hz0,hz1,hz2⟩:=info_parts By.info5
 obtain⟨B,hBe⟩:∃B,B=W1.heap.size:=⟨_,rfl⟩
 obtain⟨W2,hW2⟩:∃W2,W1.alloc (.cells #[.int .u8 m.n,.int .u8 (m.h.length:Int),.int .u8 (m.e.length:Int)] 5)=W2:=⟨_,rfl⟩
 have HR2:Hid (RowBy B W2 (.slice (some ⟨W1.heap.size,0,none⟩) 3 3) (ydq m)):=by
  have:=yr9 W1 (.int .u8 m.n) (.int .u8 (m.h.length:Int)) (.int .u8 (m.e.length:Int))
  rw [hW2,←hBe]at this
  have e:By.intCells (ydq m)= [.int .u8 m.n,.int .u8 (m.h.length:Int),.int .u8 (m.e.length:Int)]:=by
   have e1:By.intCells (ydq m)=By.intCells [byteOf m.n]++(By.intCells [byteOf (m.h.length:Int)]++By.intCells [byteOf (m.e.length:Int)]):=rfl
   rw [e1,yct hn0 hn1,yct hh0 hh1,yct he0 he1];rfl
  show W2.ownsRow B 5 1 _ 3 (By.intCells (ydq m))
  rw [e]
  rw [←hBe]
  exact this
 have hwB:w.heap.size<B:=hBe▸HP1.out.lt
 have HBB:Hid (Below B W1 W2):=hW2▸(Below.refl B W1).alloc (by omega) _
 have HP2:=yb1 (HP1.out.keep HBB.out hwB)
 have HB2:=yb1 (HB1.out.trans (HBB.out.mono (by omega)))
 have HZ:Hid (B≤W1.heap.size):=(by omega:B≤W1.heap.size)
 have p0:=HP1.out.cell (i:=0) rfl
 have p3:=HP1.out.cell (i:=3) rfl
 have p4:=HP1.out.cell (i:=4) rfl
 have q5:=HP2.out.cell (i:=5) rfl
 clear hBe
 go_wp2_with fail
 clear hW2 p0 p3 p4 q5
 have hs2:B≤W2.heap.size:=Nat.le_trans HZ.out HBB.out.size
 refine(yfn B _ _ _ _ hs2 (by simp [ydq]) HD.out.1.1 HD.out.1.2 HR2.out).mono ?_
 rintro e w3 ⟨v3,rfl,hr3,ht3⟩
 have hb3:=ht3.to_below (fun k e=>yb6 HR2.out e) hs2
 have HR3:=yb1 hr3
 have HP3:=yb1 (HP2.out.keep hb3 hwB)
 have HB3:=yb1 (HB2.out.trans (hb3.mono (by omega)))
 have HBB3:Hid (Below B W1 w3):=HBB.out.trans hb3
 have hs3:B≤w3.heap.size:=Nat.le_trans hs2 hb3.size
 have q1:=HP3.out.cell (i:=1) rfl
 clear hr3 ht3 hb3 HR2 HP2 HB2 HBB hs2
 go_wp2_with fail
 clear q1
 refine(yfn B _ _ _ _ hs3 (by simp [ydq,twoB]) HD.out.2.1.1 HD.out.2.1.2 HR3.out).mono ?_
 rintro e w4 ⟨v4,rfl,hr4,ht4⟩
 have hb4:=ht4.to_below (fun k e=>yb6 HR3.out e) hs3
 have HR4:=yb1 hr4
 have HP4:=yb1 (HP3.out.keep hb4 hwB)
 have HB4:=yb1 (HB3.out.trans (hb4.mono (by omega)))
 have hs4:B≤w4.heap.size:=Nat.le_trans hs3 hb4.size
 have HLL:Hid (ycl m=ydq m++twoB m.z++twoB m.s++iniB m m.i.length++ye6 m m.h.length++evsB m m.e.length):=rfl
 have hl4:(ydq m++twoB m.z++twoB m.s).length≤7:=by simp [ydq,twoB]
 generalize ydq m++twoB m.z++twoB m.s=l4 at HR4 HLL hl4
 have q2:=HP4.out.cell (i:=2) rfl
 clear hr4 ht4 hb4 HR3 HP3 HB3 HBB3 hs3
 go_wp2
 clear q2
 go_loopw [4,37] (fun o i wr=>∃(k:Nat) (v:Value),k≤m.i.length∧v=o∧i= .int .i64 k∧RowBy B wr o (l4++iniB m k)∧Below B w4 wr) (fun _ i _=>m.i.length-(intOf i).toNat)
 case atStart=>exact⟨0,_,Nat.zero_le _,rfl,rfl,by simpa [iniB] using HR4.out,Below.refl _ _⟩
 case round=>
  clear HR4
  obtain⟨k,o,hk,rfl,rfl,hR,hBw⟩:=hrel
  have HR4:=yb1 hR
  have HBW:Hid (Below B w4 wr):=hBw
  have hsw:B≤wr.heap.size:=Nat.le_trans hs4 hBw.size
  have HBX:=yb1 (HB4.out.trans (hBw.mono (by omega)))
  clear hR hBw
  have hd3:m.i.length≤4:=HD.out.2.2.1
  by_cases hlt:k<m.i.length
  ·obtain⟨b,off,rfl,hI⟩:=HI.out.resolve_left (by intro e;rw [e]at hlt;simp at hlt)
   have f0:=(HBX.out.cell (p:=⟨b,off+k,none⟩) hI.1).trans (hI.2 k hlt)
   have HJ:=yb1 (ok_int HOK.out hlt)
   clear hI
   go_wp2_with fail
   clear f0
   refine(yfn B _ _ _ _ hsw (by rw [List.length_append,ye1];omega) HJ.out.1 (by have:=HJ.out.2;omega) HR4.out).mono ?_
   rintro e w5 ⟨v5,rfl,hr5,ht5⟩
   have HR5:=yb1 hr5
   have HBW5:Hid (Below B w4 w5):=HBW.out.trans (ht5.to_below (fun k e=>yb6 HR4.out e) hsw)
   clear hr5 ht5
   go_wp2
   go_roundw
   case rel=>exact⟨k+1,_,by omega,rfl,by go_num,by have:=HR5.out;rw [List.append_assoc]at this;exact this,HBW5.out⟩
   case measure=>simp [intOf];omega
  ·obtain rfl:k=m.i.length:=by omega
   have hl5:(l4++iniB m m.i.length).length≤15:=by rw [List.length_append,ye1];omega
   generalize l4++iniB m m.i.length=l5 at HR4 HLL hl5
   obtain⟨W5,hW5⟩:∃W5,W5=wr:=⟨_,rfl⟩
   subst hW5
   have HP5:=yb1 (HP4.out.keep HBW.out hwB)
   have q3:=HP5.out.cell (i:=3) rfl
   clear HBW HP4 HB4 hs4
   go_wp2
   clear q3
   go_loopw [4,48] (fun o i wr=>∃(k:Nat) (v:Value),k≤m.h.length∧v=o∧i= .int .i64 k∧RowBy B wr o (l5++ye6 m k)∧Below B W5 wr) (fun _ i _=>m.h.length-(intOf i).toNat)
   case atStart=>exact⟨0,_,Nat.zero_le _,rfl,rfl,by simpa [ye6] using HR4.out,Below.refl _ _⟩
   case round=>
    clear HR4
    obtain⟨k,o,hk,rfl,rfl,hR,hBw⟩:=hrel
    have HR4:=yb1 hR
    have HBW:Hid (Below B W5 wr):=hBw
    have hsw2:B≤wr.heap.size:=Nat.le_trans hsw hBw.size
    have HBY:=yb1 (HBX.out.trans (hBw.mono (by omega)))
    have hd4:m.h.length≤4:=HD.out.2.2.2.1
    clear hR hBw
    by_cases hlt:k<m.h.length
    ·obtain⟨b,off,rfl,hb,hc⟩:=HH.out.resolve_left (by intro e;rw [e]at hlt;simp at hlt)
     obtain⟨u,f0,hu⟩:=hc k hlt
     replace f0:=(HBY.out.cell (p:=⟨b,off+k,none⟩) hb).trans f0
     have HU:Hid (∃a cap,u= .slice a (hAt m.h k).length cap∧(hAt m.h k= []∨ ∃b off,a=some ⟨b,off,none⟩∧b<B∧OsAt wr b off (hAt m.h k))):=by
      obtain⟨a,cap,e,_,_,h⟩:=hu
      exact⟨a,cap,e,h.imp id (fun⟨b,off,e,h⟩=>⟨b,off,e,by have:=h.1;omega,h.below HBY.out h.1⟩)⟩
     have HSM:Hid (∀q,q<(hAt m.h k).length→yr0 (oAt (hAt m.h k) q)):=fun q hq=>ok_small HOK.out hlt hq
     have HR8:=yb1 (ymq HOK.out k)
     obtain⟨a1,c1,rfl,_⟩:=hu
     clear hc
     go_wp2_with fail
     clear f0
     refine(yn0 B _ _ _ (hAt m.h k) _ hsw2 (by have:=ydd HOK.out k;rw [List.length_append];omega) (by have:=HR8.out;omega) HSM.out HR4.out HU.out).mono ?_
     rintro e w5 ⟨v5,rfl,hr5,hb5⟩
     have HR5:=yb1 hr5
     have HBW5:Hid (Below B W5 w5):=HBW.out.trans hb5
     clear hr5 hb5
     go_wp2
     go_roundw
     case rel=>exact⟨k+1,_,by omega,rfl,by go_num,by have:=HR5.out;rw [List.append_assoc]at this;exact this,HBW5.out⟩
     case measure=>simp [intOf];omega
    ·obtain rfl:k=m.h.length:=by omega
     have hl6:(l5++ye6 m m.h.length).length≤300:=by have:=ydd HOK.out m.h.length;rw [List.length_append];omega
     generalize l5++ye6 m m.h.length=l6 at HR4 HLL hl6
     obtain⟨W6,hW6⟩:∃W6,W6=wr:=⟨_,rfl⟩
     subst hW6
     have HP6:=yb1 (HP5.out.keep HBW.out hwB)
     have q4:=HP6.out.cell (i:=4) rfl
     clear HBW HP5 HBX hsw
     go_wp2
     clear q4
     go_loopw [4,59] (fun o i wr=>∃(k:Nat) (v:Value),k≤m.e.length∧v=o∧i= .int .i64 k∧RowBy B wr o (l6++evsB m k)∧Below B W6 wr) (fun _ i _=>m.e.length-(intOf i).toNat)
     case atStart=>exact⟨0,_,Nat.zero_le _,rfl,rfl,by simpa [evsB] using HR4.out,Below.refl _ _⟩
     case round=>
      clear HR4
      obtain⟨k,o,hk,rfl,rfl,hR,hBw⟩:=hrel
      have HR4:=yb1 hR
      have HBW:Hid (Below B W6 wr):=hBw
      have hsw3:B≤wr.heap.size:=Nat.le_trans hsw2 hBw.size
      have HBZ:=yb1 (HBY.out.trans (hBw.mono (by omega)))
      have hd5:m.e.length≤6:=HD.out.2.2.2.2
      clear hR hBw
      by_cases hlt:k<m.e.length
      ·obtain⟨b,off,rfl,hb,hc⟩:=HEV.out.resolve_left (by intro e;rw [e]at hlt;simp at hlt)
       obtain⟨f0,f1,f2,f3,f4,f5,f6⟩:=(hc k hlt).below HBZ.out hb
       have HEB:Hid (evsB m (k+1)=evsB m k++evB (evAt m.e k)):=rfl
       generalize hev:evAt m.e k=e at f0 f1 f2 f3 f4 f5 f6 HEB
       obtain⟨t,s1,qq,d,kk,v,g⟩:=e
       have HEO:=yb1 (ok_ev HOK.out hlt hev)
       clear hc hev
       obtain⟨V,hV⟩:∃V,wr.alloc (.cells #[.int .i64 t,.int .i64 s1,.int .i64 qq,.int .i64 d,.int .i64 kk,.int .i64 v,.int .i64 g] 110)=V:=⟨_,rfl⟩
       have hbV:=beA hV
       have HRV:=yb1 (HR4.out.below hbV)
       have HBV:Hid (Below B W6 V):=HBW.out.trans (hbV.mono hsw3)
       have hQV:=bkA hV
       have hsV:B≤V.heap.size:=Nat.le_trans hsw3 hbV.size
       obtain⟨e0,e1,e2,e3,e4,e5,e6⟩:=c7_7 hQV
       clear hbV hQV
       go_wp2_with fail
       clear f0 f1 f2 f3 f4 f5 f6 e0 e1 e2 e3 e4 e5 e6 hV
       refine(yqu B _ _ _ _ _ _ _ _ _ _ hsV (by rw [List.length_append,yg9];omega) HEO.out.1.1 (by have:=HEO.out.1.2;omega) HEO.out.2.1.1 (by have:=HEO.out.2.1.2;omega) HEO.out.2.2.1.1 (by have:=HEO.out.2.2.1.2;omega) HEO.out.2.2.2.1 (by have:=HEO.out.2.2.2.2;omega) HRV.out).mono ?_
       rintro e w5 ⟨v5,rfl,hr5,hb5⟩
       have HR5:Hid (RowBy B w5 v5 (l6++evsB m (k+1))):=by rw [HEB.out,←List.append_assoc];exact hr5
       have HBW5:Hid (Below B W6 w5):=HBV.out.trans hb5
       clear hr5 hb5
       go_wp2
       go_roundw
       case rel=>exact⟨k+1,_,by omega,rfl,by go_num,HR5.out,HBW5.out⟩
       case measure=>simp [intOf];omega
      ·obtain rfl:k=m.e.length:=by omega
       go_wp2
       go_ret2
       exact⟨o,by rw [HOK.out];rfl,by rw [HE.out,HLL.out];exact HR4.out.own.mono (Nat.le_of_lt hwB),HBZ.out⟩
set_option maxHeartbeats 16000000
open Go.RowKit
theorem ybr {p:Prop} (h:p):Hid p:=h
theorem ysz (x y:Value) (a b:List UInt8) (c:Bool) (hc:decide (a=b)=c) (w:World) (ha:a≠ []) (hb:b≠ []) (hx:By.IsI w x a) (hy:By.IsI w y b):
  Calls Tryz.prog 143 #[x,y] w fun e w'=>e= .returned (.bool c)∧w'=w:=by
 have h1:=yeb w x a ha hx
 have h2:=yeb w y b hb hy
 obtain⟨sA,hsA⟩:∃s,strB a=s:=⟨_,rfl⟩
 obtain⟨sB,hsB⟩:∃s,strB b=s:=⟨_,rfl⟩
 have HE:Hid ((sA.toList==sB.toList)=c):=by
  show(sA.toList==sB.toList)=c
  rw [←hsA,←hsB,ygi,ygi,←hc,Bool.eq_iff_iff]
  simp
 rw [hsA]at h1
 rw [hsB]at h2
 clear hx hy ha hb hsA hsB hc
 go_enter Tryz.func143,Tryz.ntmps143
 go_wp2
 go_ret
 exact⟨ya0 HE.out,rfl⟩
noncomputable def yi5 (v : Wd) : Bool := v.m.ok && allB v.k.length (fun i => runB v (knAt v.k i))
theorem runsB_iff {v:Wd}:yi5 v=true↔v.m.ok=true∧ ∀i,i<v.k.length→runB v (knAt v.k i)=true:=by
 unfold yi5
 simp only [Bool.and_eq_true,allB_iff]
set_option maxRecDepth 100000 in
theorem iRunsOk (x:Value) (v:Wd) (w:World) (hs:ycb v) (h:IsW w x v):
  Calls Tryz.prog 94 #[x] w fun e w'=>e= .returned (.bool (yi5 v))∧Below w.heap.size w w':=by
 have HSM:Hid (SmallM v.m):=hs.1
 have HSK:Hid (ydb v.k):=hs.2.1
 have HSV:=ybr hs.2.2
 have hkl:v.k.length≤1048576:=hs.2.1.1
 have hcl:v.c.length≤1048576:=by have h9:=hs.2.2;rw [ydx]at h9;omega
 obtain⟨ai,ci,ah,ch,ae,ce,ak,ck,ac,cc,rfl,hm,hk,hc⟩:=h.form
 have HWW:=ybr h
 have HMW:=ybr hm
 have HKS:=ybr hk
 have HCS:=ybr hc
 clear h hm hk hc
 obtain⟨W0,hW0⟩:∃W0,w.alloc (.cells #[.int .i64 v.m.n,.int .i64 v.m.s,.slice ai v.m.i.length ci,.slice ah v.m.h.length ch,.slice ae v.m.e.length ce,.int .i64 v.m.z,.slice ak v.k.length ck,.slice ac v.c.length cc] 39)=W0:=⟨_,rfl⟩
 have HB0:=hdq (beA hW0)
 have HP0:=hdq (bkA hW0)
 obtain⟨q0,q1,q2,q3,q4,q5⟩:=c6_8 HP0.out
 go_enter Tryz.func94,Tryz.ntmps94
 go_wp2_with fail
 clear q0 q1 q2 q3 q4 q5 hW0
 refine(ysf _ v.m _ HSM.out (HMW.out.below HB0.out)).mono ?_
 rintro e w1 ⟨um,rfl,hum,hb⟩
 have HB1:=ybr (trm HB0.out hb)
 have HP1:=ybr (HP0.out.below hb)
 have HUM:=ybr hum.isI
 clear hb hum HB0 HP0
 have hs1:w.heap.size<w1.heap.size:=HP1.out.lt
 cases hmo:v.m.ok
 case false=>
  have HN:Hid (yi5 v=false):=ya8 (fun h9=>by have h8:=(runsB_iff.1 h9).1;rw [hmo]at h8;cases h8)
  clear hmo
  go_wp2
  go_ret
  exact⟨ya0 HN.out.symm,HB1.out⟩
 have HMO:Hid (v.m.ok=true):=hmo
 have HUB:Hid (By.IsI w1 um (ycl v.m)):=by
  have h9:=HUM.out
  unfold ygy at h9
  rw [if_pos hmo]at h9
  exact h9
 clear hmo HUM
 have q6:=HP1.out.cell (i:=6) rfl
 go_wp2
 clear q6
 go_loopw [20] (fun i wr=>∃j:Nat,j≤v.k.length∧i= .int .i64 j∧Hid (∀i,i<j→runB v (knAt v.k i)=true)∧Hid (Below w1.heap.size w1 wr)) (fun i _=>v.k.length-(intOf i).toNat)
 case atStart=>exact⟨0,Nat.zero_le _,rfl,fun j hj=>by omega,Below.refl _ _⟩
 case round=>
  obtain⟨j,hj,rfl,HA,HBr⟩:=hrel
  have HBw:=ybr (trm HB1.out HBr.out)
  have hsr:w1.heap.size≤wr.heap.size:=HBr.out.size
  by_cases hlt:j<v.k.length
  case pos=>
   have hjd:decide ((j:Int)<(v.k.length:Int))=true:=by simpa using hlt
   obtain⟨b,off,rfl,hbl,hKA⟩:=HKS.out.resolve_left (by omega)
   obtain⟨ki,di,kh,dh,ke,de,k6,d6,k7,d7,k8,d8,k12,d12,k13,d13,⟨f0,f1,f2,f3,f4,f5,f6,f7,f8,f9,f10,f11,f12,f13⟩,hkn,hkm,hkd⟩:=(hKA j hlt).form
   have HDW:=ybr hkd
   have f0:=(HBw.out.cell (p:=⟨b,_,none⟩) hbl).trans f0
   have f1:=(HBw.out.cell (p:=⟨b,_,none⟩) hbl).trans f1
   have f2:=(HBw.out.cell (p:=⟨b,_,none⟩) hbl).trans f2
   have f3:=(HBw.out.cell (p:=⟨b,_,none⟩) hbl).trans f3
   have f4:=(HBw.out.cell (p:=⟨b,_,none⟩) hbl).trans f4
   have f5:=(HBw.out.cell (p:=⟨b,_,none⟩) hbl).trans f5
   have f6:=(HBw.out.cell (p:=⟨b,_,none⟩) hbl).trans f6
   have f7:=(HBw.out.cell (p:=⟨b,_,none⟩) hbl).trans f7
   have f8:=(HBw.out.cell (p:=⟨b,_,none⟩) hbl).trans f8
   have f9:=(HBw.out.cell (p:=⟨b,_,none⟩) hbl).trans f9
   have f10:=(HBw.out.cell (p:=⟨b,_,none⟩) hbl).trans f10
   have f11:=(HBw.out.cell (p:=⟨b,_,none⟩) hbl).trans f11
   have f12:=(HBw.out.cell (p:=⟨b,_,none⟩) hbl).trans f12
   have f13:=(HBw.out.cell (p:=⟨b,_,none⟩) hbl).trans f13
   have HSKj:=ybr (HSK.out.2 j hlt)
   obtain⟨V1,hV1⟩:∃V1,wr.alloc (.cells #[.int .i64 (knAt v.k j).m.n,.int .i64 (knAt v.k j).m.s,.slice ki (knAt v.k j).m.i.length di,.slice kh (knAt v.k j).m.h.length dh,.slice ke (knAt v.k j).m.e.length de,.int .i64 (knAt v.k j).m.z,.slice k6 (knAt v.k j).d.length d6,.slice k7 (knAt v.k j).p.length d7,.slice k8 (knAt v.k j).b.length d8,.int .i64 (knAt v.k j).t,.int .i64 (knAt v.k j).q,.bool (knAt v.k j).f,.slice k12 (knAt v.k j).s.length d12,.slice k13 (knAt v.k j).x.length d13] 57)=V1:=⟨_,rfl⟩
   have hbV:=beA hV1
   have HBV:=ybr hbV
   have HV1:=ybr hbV.size
   have HK1:=hdq (bkA hV1)
   have HKI:=ybr ((hkn.under HBw.out).under hbV)
   have HMI:=ybr ((hkm.below HBw.out).below hbV)
   clear hkn hkm hkd hbV hKA
   have k0c:=HK1.out.cell (i:=0) rfl
   have k1c:=HK1.out.cell (i:=1) rfl
   have k2c:=HK1.out.cell (i:=2) rfl
   have k3c:=HK1.out.cell (i:=3) rfl
   have k4c:=HK1.out.cell (i:=4) rfl
   have k5c:=HK1.out.cell (i:=5) rfl
   go_wp2_with fail
   clear f0 f1 f2 f3 f4 f5 f6 f7 f8 f9 f10 f11 f12 f13 k0c k1c k2c k3c k4c k5c
   try rw [hV1]
   clear hV1
   refine(ysf _ (knAt v.k j).m V1 HSKj.out.1 HMI.out).mono ?_
   rintro e w2 ⟨uk,rfl,huk,hb2⟩
   have HUK:=ybr huk.isI
   have HB2:=ybr (trm HBr.out (HBV.out.trans (hb2.mono HV1.out)))
   have HB2w:=ybr (trm HB1.out HB2.out)
   have HU2:=ybr (HUB.out.below HB2.out)
   have HK2:=ybr (HK1.out.below hb2)
   have HKI2:=ybr (HKI.out.under hb2)
   clear huk hb2
   cases hkm:(knAt v.k j).m.ok
   case false=>
    have HN:Hid (yi5 v=false):=ya8 (fun h9=>by have h8:=(yk3 (runB_iff.1 ((runsB_iff.1 h9).2 j hlt)).1).1;rw [hkm]at h8;cases h8)
    clear hkm
    go_wp2
    go_ret
    exact⟨ya0 HN.out.symm,HB2w.out⟩
   have HUKB:Hid (By.IsI w2 uk (ycl (knAt v.k j).m)):=by
    have h9:=HUK.out
    unfold ygy at h9
    rw [if_pos hkm]at h9
    exact h9
   clear hkm HUK
   by_cases hq:ycl (knAt v.k j).m=ycl v.m
   case neg=>
    have HN:Hid (yi5 v=false):=ya8 (fun h9=>hq (runB_iff.1 ((runsB_iff.1 h9).2 j hlt)).2)
    have HQ:=ybr (decide_eq_false hq)
    clear hq
    go_wp2_with fail
    refine(ysz uk um _ _ false HQ.out w2 (ydc _) (ydc _) HUKB.out HU2.out).mono ?_
    rintro e w3 ⟨rfl,hw3⟩
    have hw3':=hw3.symm
    clear hw3
    subst hw3'
    go_wp2
    go_ret
    exact⟨ya0 HN.out.symm,HB2w.out⟩
   have HQE:=ybr hq
   have HQ:=ybr (decide_eq_true hq)
   clear hq
   go_wp2_with fail
   refine(ysz uk um _ _ true HQ.out w2 (ydc _) (ydc _) HUKB.out HU2.out).mono ?_
   rintro e w3 ⟨rfl,hw3⟩
   have hw3':=hw3.symm
   clear hw3
   subst hw3'
   have k0c:=HK2.out.cell (i:=0) rfl
   have k1c:=HK2.out.cell (i:=1) rfl
   have k2c:=HK2.out.cell (i:=2) rfl
   have k3c:=HK2.out.cell (i:=3) rfl
   have k4c:=HK2.out.cell (i:=4) rfl
   have k5c:=HK2.out.cell (i:=5) rfl
   have k6c:=HK2.out.cell (i:=6) rfl
   have k7c:=HK2.out.cell (i:=7) rfl
   have k8c:=HK2.out.cell (i:=8) rfl
   have k9c:=HK2.out.cell (i:=9) rfl
   have k10c:=HK2.out.cell (i:=10) rfl
   have k11c:=HK2.out.cell (i:=11) rfl
   have k12c:=HK2.out.cell (i:=12) rfl
   have k13c:=HK2.out.cell (i:=13) rfl
   go_wp2_with fail
   clear k0c k1c k2c k3c k4c k5c k6c k7c k8c k9c k10c k11c k12c k13c
   refine(yli _ (knAt v.k j) _ HSKj.out HKI2.out).mono ?_
   rintro e w4 ⟨rfl,hb4⟩
   have HB4:=ybr (trm HB2.out hb4)
   clear hb4
   cases hko:(knAt v.k j).ok
   case false=>
    have HN:Hid (yi5 v=false):=ya8 (fun h9=>by have h8:=(runB_iff.1 ((runsB_iff.1 h9).2 j hlt)).1;rw [hko]at h8;cases h8)
    clear hko
    go_wp2
    go_ret
    exact⟨ya0 HN.out.symm,trm HB1.out HB4.out⟩
   have HRJ:=ybr (runB_iff.2 ⟨hko,HQE.out⟩)
   clear hko
   go_wp2
   go_roundw
   case rel=>exact⟨j+1,by omega,by go_num,fun i hi=>by
    by_cases e:i=j
    ·subst e;exact HRJ.out
    ·exact HA.out i (by omega),HB4.out⟩
   case measure=>simp [intOf];omega
  case neg=>
   have hje:j=v.k.length:=by omega
   have HY:Hid (yi5 v=true):=runsB_iff.2 ⟨HMO.out,fun i hi=>HA.out i (by omega)⟩
   subst hje
   go_wp2
   go_ret
   exact⟨ya0 HY.out.symm,HBw.out⟩
end Go.Proofs.YtmobiieoecjmdaaGreat

