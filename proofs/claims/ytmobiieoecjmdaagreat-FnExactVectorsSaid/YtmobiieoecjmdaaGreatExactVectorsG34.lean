/- WVs, KMt, TPpD -/
import Derived.Test.YtmobiieoecjmdaaGreatExactVectorsLWSp
import Derived.Test.YtmobiieoecjmdaaGreatExactVectorsG30
import Derived.Test.YtmobiieoecjmdaaGreatExactVectorsG05
import Derived.Test.YtmobiieoecjmdaaGreatExactVectorsG28
/- Rows of vectors as arrays; the program's vectorsOfRuns and vectorsIn. -/
namespace Go.Proofs.YtmobiieoecjmdaaGreat
set_option maxHeartbeats 8000000
set_option maxRecDepth 100000
open Go.RowKit
theorem RowV.isD {B:Nat} {w0 w:World} {x:Value} {l:List (List Int)} (h:RowV B w0 w x l) (hb:Below w0.heap.size w0 w):IsD w x (yad l):=by
 obtain⟨us,h1,h2,h3⟩:=h
 obtain⟨hl,⟨rfl,h0⟩|⟨g,cap,cur,rfl,_,hc,k1,k2,k3,k4⟩⟩:=h1
 ·obtain rfl:=List.eq_nil_of_length_eq_zero h0
  exact .nil none 0 1 _ (by unfold maxLen;omega)
 ·refine IsD.of_parts k1 k2 (.inr ⟨g,0,rfl,(Array.getElem?_eq_some_iff.1 hc).1,fun j hj=> ?_⟩)
  obtain⟨u,hu,hd⟩:=h3 j (by omega)
  refine⟨u,?_,hd.under hb⟩
  have h9:(cur.toList.take (l.length*1))[j]? =some u:=by rw [k4];exact hu
  rw [List.getElem?_take_of_lt (by omega)]at h9
  rw [Nat.zero_add]
  simpa [World.cell?,hc] using h9
theorem yl3 (x:Value) (v:Wd) (w:World) (hs:ybq v) (h:IsW w x v):
  Calls Tryz.prog 46 #[x] w fun e w'=>∃y,e= .returned y∧Below w.heap.size w w'∧RowV w.heap.size w w' y (dsOf v.k):=by
 have HSM:Hid (SmallM v.m):=hs.1
 have HSK:Hid (ycw v.k):=hs.2.1
 have HSV:Hid ((yad v.c).wt≤1048576):=hs.2.2
 have hkl:v.k.length≤1048576:=hs.2.1.1
 have hcl:v.c.length≤1048576:=by have h9:=hs.2.2;rw [yc9]at h9;omega
 obtain⟨ai,ci,ah,ch,ae,ce,ak,ck,ac,cc,rfl,hm,hk,hc⟩:=h.form
 have HWW:Hid (IsW w (.agg #[.int .i64 v.m.n,.int .i64 v.m.s,.slice ai v.m.i.length ci,.slice ah v.m.h.length ch,.slice ae v.m.e.length ce,.int .i64 v.m.z,.slice ak v.k.length ck,.slice ac v.c.length cc]) v):=h
 have HMW:Hid (IsM w (.agg #[.int .i64 v.m.n,.int .i64 v.m.s,.slice ai v.m.i.length ci,.slice ah v.m.h.length ch,.slice ae v.m.e.length ce,.int .i64 v.m.z]) v.m):=hm
 have HKS:Hid (v.k.length=0∨ ∃b off,ak=some ⟨b,off,none⟩∧b<w.heap.size∧ ∀i,i<v.k.length→KAt w b (off+i*14) (knAt v.k i)):=hk
 have HCS:Hid (v.c.length=0∨ ∃b off,ac=some ⟨b,off,none⟩∧b<w.heap.size∧ ∀j,j<v.c.length→ ∃u,w.cell? ⟨b,off+j,none⟩=some u∧IsD w u (ya9 (vAt v.c j))):=hc
 clear h hm hk hc
 obtain⟨W0,hW0⟩:∃W0,w.alloc (.cells #[.int .i64 v.m.n,.int .i64 v.m.s,.slice ai v.m.i.length ci,.slice ah v.m.h.length ch,.slice ae v.m.e.length ce,.int .i64 v.m.z,.slice ak v.k.length ck,.slice ac v.c.length cc] 39)=W0:=⟨_,rfl⟩
 have HB0:Hid (Below w.heap.size w W0):=by rw [←hW0];exact(Below.refl _ w).alloc (Nat.le_refl _) _
 have HP0:Hid (Bk W0 w.heap.size 39 #[.int .i64 v.m.n,.int .i64 v.m.s,.slice ai v.m.i.length ci,.slice ah v.m.h.length ch,.slice ae v.m.e.length ce,.int .i64 v.m.z,.slice ak v.k.length ck,.slice ac v.c.length cc]):=by rw [←hW0];exact Bk.new w _ _
 have q6:=HP0.out.cell (i:=6) rfl
 go_enter Tryz.func46,Tryz.ntmps46
 go_wp2
 clear q6 hW0
 go_loopw [9,3] (fun i x wr=>∃j:Nat,j≤v.k.length∧i= .int .i64 j∧Below w.heap.size w wr∧ ∃(L:List (List Int)) (a3:Option Addr) (c3:Nat),x= .slice a3 L.length c3∧Hid (L=(dsOf v.k).take j)∧Hid (RowV w.heap.size w wr (.slice a3 L.length c3) L)) (fun i _ _=>v.k.length-(intOf i).toNat)
 case atStart=>exact⟨0,Nat.zero_le _,rfl,HB0.out,[],none,0,rfl,rfl,RowV.nil _ _ _⟩
 case round=>
  obtain⟨j,hj,rfl,hB,L,a3,c3,rfl,HL,HRV⟩:=hrel
  have HBw:Hid (Below w.heap.size w wr):=hB
  clear hB
  by_cases hlt:j<v.k.length
  case pos=>
   have hjd:decide ((j:Int)<(v.k.length:Int))=true:=by simpa using hlt
   obtain⟨b,off,rfl,hbl,hKA⟩:=HKS.out.resolve_left (by omega)
   obtain⟨ki,di,kh,dh,ke,de,k6,d6,k7,d7,k8,d8,k12,d12,k13,d13,⟨f0,f1,f2,f3,f4,f5,f6,f7,f8,f9,f10,f11,f12,f13⟩,hkn,hkm,hkd⟩:=(hKA j hlt).form
   have HDW:Hid (IsD w (.slice k6 (knAt v.k j).d.length d6) (ya9 (knAt v.k j).d)):=hkd
   have f0:=(HBw.out.cell (p:=⟨b,_,none⟩) hbl).trans f0
   have f1:=(HBw.out.cell (p:=⟨b,_,none⟩) hbl).trans f1
   have f2:=(HBw.out.cell (p:=⟨b,_,none⟩) hbl).trans f2
   have f3:=(HBw.out.cell (p:=⟨b,_,none⟩) hbl).trans f3
   have f4:=(HBw.out.cell (p:=⟨b,_,none⟩) hbl).trans f4
   have f5:=(HBw.out.cell (p:=⟨b,_,none⟩) hbl).trans f5
   have f6:=(HBw.out.cell (p:=⟨b,_,none⟩) hbl).trans f6
   have f7:=(HBw.out.cell (p:=⟨b,_,none⟩) hbl).trans f7
   have f8:=(HBw.out.cell (p:=⟨b,_,none⟩) hbl).trans f8
   have f9:=(HBw.out.cell (p:=⟨b,_,none⟩) hbl).trans f9
   have f10:=(HBw.out.cell (p:=⟨b,_,none⟩) hbl).trans f10
   have f11:=(HBw.out.cell (p:=⟨b,_,none⟩) hbl).trans f11
   have f12:=(HBw.out.cell (p:=⟨b,_,none⟩) hbl).trans f12
   have f13:=(HBw.out.cell (p:=⟨b,_,none⟩) hbl).trans f13
   have HSKj:Hid (ybb (knAt v.k j)):=HSK.out.2 j hlt
   obtain⟨V1,hV1⟩:∃V1,wr.alloc (.cells #[.int .i64 (knAt v.k j).m.n,.int .i64 (knAt v.k j).m.s,.slice ki (knAt v.k j).m.i.length di,.slice kh (knAt v.k j).m.h.length dh,.slice ke (knAt v.k j).m.e.length de,.int .i64 (knAt v.k j).m.z,.slice k6 (knAt v.k j).d.length d6,.slice k7 (knAt v.k j).p.length d7,.slice k8 (knAt v.k j).b.length d8,.int .i64 (knAt v.k j).t,.int .i64 (knAt v.k j).q,.bool (knAt v.k j).f,.slice k12 (knAt v.k j).s.length d12,.slice k13 (knAt v.k j).x.length d13] 57)=V1:=⟨_,rfl⟩
   have hbV:Below wr.heap.size wr V1:=hV1▸(Below.refl _ wr).alloc (Nat.le_refl _) _
   have HBV:Hid (Below wr.heap.size wr V1):=hbV
   have HV1:Hid (wr.heap.size≤V1.heap.size):=hbV.size
   have HK1:Hid (Bk V1 wr.heap.size 57 #[.int .i64 (knAt v.k j).m.n,.int .i64 (knAt v.k j).m.s,.slice ki (knAt v.k j).m.i.length di,.slice kh (knAt v.k j).m.h.length dh,.slice ke (knAt v.k j).m.e.length de,.int .i64 (knAt v.k j).m.z,.slice k6 (knAt v.k j).d.length d6,.slice k7 (knAt v.k j).p.length d7,.slice k8 (knAt v.k j).b.length d8,.int .i64 (knAt v.k j).t,.int .i64 (knAt v.k j).q,.bool (knAt v.k j).f,.slice k12 (knAt v.k j).s.length d12,.slice k13 (knAt v.k j).x.length d13]):=hV1▸Bk.new wr _ _
   have HKI:Hid (IsKern V1 (.agg #[.int .i64 (knAt v.k j).m.n,.int .i64 (knAt v.k j).m.s,.slice ki (knAt v.k j).m.i.length di,.slice kh (knAt v.k j).m.h.length dh,.slice ke (knAt v.k j).m.e.length de,.int .i64 (knAt v.k j).m.z,.slice k6 (knAt v.k j).d.length d6,.slice k7 (knAt v.k j).p.length d7,.slice k8 (knAt v.k j).b.length d8,.int .i64 (knAt v.k j).t,.int .i64 (knAt v.k j).q,.bool (knAt v.k j).f,.slice k12 (knAt v.k j).s.length d12,.slice k13 (knAt v.k j).x.length d13]) (knAt v.k j)):=(hkn.under HBw.out).under hbV
   have HMI:Hid (IsM V1 (.agg #[.int .i64 (knAt v.k j).m.n,.int .i64 (knAt v.k j).m.s,.slice ki (knAt v.k j).m.i.length di,.slice kh (knAt v.k j).m.h.length dh,.slice ke (knAt v.k j).m.e.length de,.int .i64 (knAt v.k j).m.z]) (knAt v.k j).m):=(hkm.below HBw.out).below hbV
   clear hkn hkm hkd hbV hKA
   have hLl:L.length≤1048576:=by rw [HL.out,List.length_take];omega
   have HRV3:Hid (RowV w.heap.size w V1 (.slice a3 L.length c3) L):=HRV.out.below HBV.out
   have HB3:Hid (Below w.heap.size w V1):=HBw.out.trans (HBV.out.mono HBw.out.size)
   have hk6:=HK1.out.cell (i:=6) rfl
   obtain⟨V4,hV4⟩:∃V4,V1.alloc (.cells #[.slice k6 (knAt v.k j).d.length d6] 22)=V4:=⟨_,rfl⟩
   have hb4:Below V1.heap.size V1 V4:=hV4▸(Below.refl _ V1).alloc (Nat.le_refl _) _
   have HS4:Hid (SrcC V4 (.slice (some ⟨V1.heap.size,0,none⟩) 1 1) 1 1 [.slice k6 (knAt v.k j).d.length d6]):=yjp (T:=22) (hV4▸Bk.new V1 _ _)
   have HBV4:Hid (Below w.heap.size w V4):=HB3.out.trans (hb4.mono HB3.out.size)
   have HD4:Hid (IsD w (.slice k6 (knAt v.k j).d.length d6) (ya9 (knAt v.k j).d)):=HDW.out
   obtain⟨us,ho,h1,h3⟩:=HRV3.out.below hb4
   have HO4:Hid (V4.ownsRow w.heap.size 22 1 (.slice a3 L.length c3) L.length us):=ho
   have HU1:Hid (∀u∈us,u.oneCell'=true):=h1
   have HU3:Hid (∀j,j<L.length→ ∃u,us[j]? =some u∧IsD w u (ya9 (vAt L j))):=h3
   have hs4:w.heap.size≤V4.heap.size:=HBV4.out.size
   obtain⟨iv,hiv,hiv0,hiv1,hiv2⟩:=info_parts yp5
   clear ho h1 h3 hb4
   go_wp2_with (at_builtin;refine yap V4 rfl _ _ 28 rfl w.heap.size 22 iv (.slice none 0 0) 1 24 Tryz.underlying28 hiv hiv0 hiv1 hiv2 rfl (by decide) (.slice a3 L.length c3) L.length us rfl HO4.out (.slice (some ⟨V1.heap.size,0,none⟩) 1 1) 1 [.slice k6 (knAt v.k j).d.length d6] rfl HS4.out (yge HD4.out.one.1) (by unfold maxLen;omega) (by omega) hs4 ?_;intro vn w5 hown hgrow hnew;obtain⟨an,cn,hvn⟩:=ybv hown;subst hvn;have HG5:Hid (V4.grownBy w5 (Value.slice a3 L.length c3).ownBlock):=hgrow;have HO5:Hid (w5.ownsRow w.heap.size 22 1 (.slice an (L.length+1) cn) (L.length+1) (us++ [.slice k6 (knAt v.k j).d.length d6])):=hown;clear hown hgrow hnew)
   go_roundw
   case rel=>
    have hR5:=RowV.grown HO4.out HU1.out HU3.out HO5.out HD4.out
    have hB5:=ydd HO4.out HG5.out HBV4.out (Nat.le_refl _) hs4
    refine⟨j+1,by omega,by go_num,hB5,L++ [(knAt v.k j).d],an,cn,by rw [List.length_append];rfl,?_,by rw [List.length_append];exact hR5⟩
    show L++ [(knAt v.k j).d]=_
    rw [ydy (by rw [ybe];exact hlt),←HL.out,ygl hlt]
   case measure=>simp [intOf];omega
  case neg=>
   have hje:j=v.k.length:=by omega
   have hLK:L=dsOf v.k:=by(have h9:=HL.out;rw [hje,List.take_of_length_le (by rw [ybe];exact Nat.le_refl _)]at h9;exact h9)
   have HLK:Hid (L=dsOf v.k):=hLK
   subst hje
   clear hLK HL
   go_wp2
   go_ret
   exact⟨_,rfl,HBw.out,by rw [←HLK.out];exact HRV.out⟩
def yb4:List (List Int)→List Value
 | []=> []
 |d::l=> [i64 (intAt d 0),i64 (intAt d 1),i64 (intAt d 2),i64 (intAt d 3)]++yb4 l
theorem yf3:∀l,(yb4 l).length=l.length*4
 | []=>rfl
 |d::l=>by rw [yb4,List.length_append,yf3 l,List.length_cons];simp;omega
theorem yf4:∀l r,yb4 (l++r)=yb4 l++yb4 r
 | [],r=>rfl
 |d::l,r=>by rw [List.cons_append,yb4,yf4 l r,yb4,List.append_assoc]
theorem ygx:∀l,∀u∈yb4 l,u.oneCell'=true
 | [],u,h=>by cases h
 |d::l,u,h=>by
  rcases List.mem_append.1 h with h|h
  ·simp at h
   rcases h with rfl|rfl|rfl|rfl<;>rfl
  ·exact ygx l u h
theorem yfy:∀(l:List (List Int)) (i r:Nat),i<l.length→r<4→(yb4 l)[i*4+r]? =some (i64 (intAt (vAt l i) r))
 | [],i,r,h,_=>by simp at h
 |d::l,0,r,h,hr=>by
  rw [yb4,List.getElem?_append_left (by simp;omega)]
  have h4:r=0∨r=1∨r=2∨r=3:=by omega
  rcases h4 with rfl|rfl|rfl|rfl<;>rfl
 |d::l,i+1,r,h,hr=>by
  have e:vAt (d::l) (i+1)=vAt l i:=rfl
  rw [yb4,List.getElem?_append_right (by simp;omega),e]
  simp only [List.length_cons,List.length_nil]
  rw [show(i+1)*4+r-(0+1+1+1+1)=i*4+r by omega]
  exact yfy l i r (by simpa using h) hr
abbrev RowA (B:Nat) (w:World) (x:Value) (l:List (List Int)):Prop:=w.ownsRow B 137 4 x l.length (yb4 l)
def VcAt (w:World) (b off:Nat) (l:List (List Int)):Prop:=b<w.heap.size∧ ∀i r,i<l.length→r<4→w.cell? ⟨b,off+i*4+r,none⟩=some (i64 (intAt (vAt l i) r))
theorem VcAt.below {w w':World} {b off:Nat} {l:List (List Int)} (h:VcAt w b off l) (hb:Below w.heap.size w w'):VcAt w' b off l:=
 ⟨Nat.lt_of_lt_of_le h.1 hb.size,fun i r hi hr=>(hb.cell (p:=⟨b,_,none⟩) h.1).trans (h.2 i r hi hr)⟩
theorem RowA.at {B:Nat} {w:World} {x:Value} {l:List (List Int)} (h:RowA B w x l):(x= .slice none 0 0∧l= [])∨ ∃g cap,x= .slice (some ⟨g,0,none⟩) l.length cap∧l.length≤cap∧cap≤maxLen∧VcAt w g 0 l:=by
 obtain⟨hl,⟨rfl,h0⟩|⟨g,cap,cur,rfl,_,hc,k1,k2,k3,k4⟩⟩:=h
 ·exact .inl ⟨rfl,List.eq_nil_of_length_eq_zero h0⟩
 ·refine .inr ⟨g,cap,rfl,k1,k2,(Array.getElem?_eq_some_iff.1 hc).1,fun i r hi hr=> ?_⟩
  have h9:=yfy l i r hi hr
  rw [←k4,List.getElem?_take_of_lt (by omega)]at h9
  rw [Nat.zero_add]
  simpa [World.cell?,hc] using h9
theorem VcAt.cells {w:World} {b off:Nat} {l:List (List Int)} (h:VcAt w b off l):∀j u,(yb4 l)[j]? =some u→w.cell? ((⟨b,off,none⟩:Addr).add j)=some u:=fun j u hj=>by
 have hlt:j<(yb4 l).length:=(List.getElem?_eq_some_iff.1 hj).1
 rw [yf3]at hlt
 have h1:=yfy l (j/4) (j%4) (by omega) (by omega)
 rw [show j/4*4+j%4=j by omega,hj]at h1
 cases h1
 rw [addS,←h.2 (j/4) (j%4) (by omega) (by omega),show off+j/4*4+j%4=off+j by omega]
theorem ylb:(Tryz.prog.info? 137).map (fun i=>(i.zero,i.size,i.bytes))=some (some (.agg #[.int .i64 0,.int .i64 0,.int .i64 0,.int .i64 0]),4,32):=by kernel_rfl
def yfe (l:List (List Int)):Bool:=allB l.length fun i=>vok (vAt l i)
theorem allVk_iff {l:List (List Int)}:yfe l=true↔ ∀i,i<l.length→vok (vAt l i)=true:=allB_iff
theorem src_four {w:World} {g:Nat} {T:TypeId} {a b c d:Value} (h:Bk w g T #[a,b,c,d]):SrcC w (.slice (some ⟨g,0,none⟩) 1 1) 4 1 [a,b,c,d]:=
 ⟨rfl,_,_,rfl,.inr ⟨g,0,rfl,h.lt,fun j hj=>by
  have h4:j=0∨j=1∨j=2∨j=3:=by omega
  rcases h4 with rfl|rfl|rfl|rfl
  ·exact h.cell (i:=0) rfl
  ·exact h.cell (i:=1) rfl
  ·exact h.cell (i:=2) rfl
  ·exact h.cell (i:=3) rfl⟩⟩
def InR (l:List (List Int)) (w w':World) (e:Ending):Prop:=Below w.heap.size w w'∧((yfe l=true∧ ∃y,e= .returned (.tuple #[y,.bool true])∧RowA w.heap.size w' y l)∨(yfe l=false∧e= .returned (.tuple #[.slice none 0 0,.bool false])))
theorem vsnoc {l:List (List Int)} {j:Nat} (h:j<l.length):yb4 (l.take (j+1))=yb4 (l.take j)++ [i64 (intAt (vAt l j) 0),i64 (intAt (vAt l j) 1),i64 (intAt (vAt l j) 2),i64 (intAt (vAt l j) 3)]:=by
 rw [ydy h,yf4]
 rfl
theorem in_any (x:Value) (l:List (List Int)) (w:World) (hl2:l.length≤1048576) (hv9:∀j,j<l.length→(vAt l j).length≤1048576) (h:IsD w x (yad l)):
  Calls Tryz.prog 91 #[x] w fun e w'=>InR l w w' e:=by
 obtain⟨a,cap,rfl,h1,h2,h⟩:=IsD.parts (c:=1) (n:=l.length) h
 have HH:Hid (l.length=0∨ ∃b off,a=some ⟨b,off,none⟩∧b<w.heap.size∧ ∀j,j<l.length*1→ ∃u,w.cell? ⟨b,off+j,none⟩=some u∧IsD w u (yaf l j)):=h
 have HS:Hid (∀j,j<l.length→(vAt l j).length≤1048576):=hv9
 clear h h1 h2 hv9
 obtain⟨ia,hia,hia0,hia1,hia2⟩:=info_parts ylb
 go_enter Tryz.func91,Tryz.ntmps91
 go_wp2
 go_loopw [11,4] (fun i y wr=>∃j:Nat,j≤l.length∧i= .int .i64 j∧Hid (∀i,i<j→vok (vAt l i)=true)∧Hid (Below w.heap.size w wr)∧ ∃a3 c3,y= .slice a3 j c3∧Hid (wr.ownsRow w.heap.size 137 4 (.slice a3 j c3) j (yb4 (l.take j)))) (fun i _ _=>l.length-(intOf i).toNat)
 case atStart=>exact⟨0,Nat.zero_le _,rfl,fun j hj=>by omega,Below.refl _ _,none,0,rfl,World.ownsRow_nil _ _ _ _⟩
 case round=>
  obtain⟨j,hj,rfl,HA,HB,a3,c3,rfl,HR⟩:=hrel
  have hsr:w.heap.size≤wr.heap.size:=HB.out.size
  by_cases hlt:j<l.length
  case pos=>
   have hjd:decide ((j:Int)<(l.length:Int))=true:=by simpa using hlt
   obtain⟨b,off,rfl,hbl,hc⟩:=HH.out.resolve_left (by omega)
   obtain⟨u,hu,hd⟩:=hc j (by omega)
   have f0:=(HB.out.cell (p:=⟨b,off+j,none⟩) hbl).trans hu
   have HD:Hid (IsI wr u (vAt l j)):=(IsD.under (d:=ya9 (vAt l j)) hd HB.out).isI
   have hvl:(vAt l j).length≤1048576:=HS.out j hlt
   clear hc hu hd
   go_wp2_with fail
   clear f0
   refine(of_any _ (vAt l j) _ (by omega) HD.out).mono ?_
   rintro e w2 ⟨rfl,hb2⟩
   have HB2:Hid (Below w.heap.size w w2):=HB.out.trans (hb2.mono hsr)
   have HR2:Hid (w2.ownsRow w.heap.size 137 4 (.slice a3 j c3) j (yb4 (l.take j))):=ycg (S:=fun _=>False) HR.out (Turns.of_below hb2) (fun _ _=>id)
   clear hb2
   cases hv:vok (vAt l j)
   case false=>
    have HN:Hid (yfe l=false):=yaa (fun h9=>by have h8:=allVk_iff.1 h9 j hlt;rw [hv]at h8;cases h8)
    rw [ynp hv]
    clear hv
    go_wp2
    go_ret2
    exact⟨HB2.out.trans (((Below.refl _ w2).alloc (Nat.le_refl _) _).mono HB2.out.size),.inr ⟨HN.out,rfl⟩⟩
   case true=>
    have HV:Hid (vok (vAt l j)=true):=hv
    obtain⟨x0,hx0⟩:∃z,intAt (vAt l j) 0=z:=⟨_,rfl⟩
    obtain⟨x1,hx1⟩:∃z,intAt (vAt l j) 1=z:=⟨_,rfl⟩
    obtain⟨x2,hx2⟩:∃z,intAt (vAt l j) 2=z:=⟨_,rfl⟩
    obtain⟨x3,hx3⟩:∃z,intAt (vAt l j) 3=z:=⟨_,rfl⟩
    have HVS:Hid (yb4 (l.take (j+1))=yb4 (l.take j)++ [i64 x0,i64 x1,i64 x2,i64 x3]):=by
     have h9:=vsnoc hlt
     rw [hx0,hx1,hx2,hx3]at h9
     exact h9
    rw [show yia (vAt l j)=vec x0 x1 x2 x3 by unfold yia;rw [if_pos hv,hx0,hx1,hx2,hx3]]
    clear hv hx0 hx1 hx2 hx3
    obtain⟨V1,hV1⟩:∃V1,w2.alloc (ybm x0 x1 x2 x3)=V1:=⟨_,rfl⟩
    have hbV:Below w2.heap.size w2 V1:=hV1▸(Below.refl _ w2).alloc (Nat.le_refl _) _
    have HK1:Hid (Bk V1 w2.heap.size 137 #[i64 x0,i64 x1,i64 x2,i64 x3]):=hV1▸Bk.new w2 _ _
    obtain⟨V4,hV4⟩:∃V4,V1.alloc (.cells #[i64 x0,i64 x1,i64 x2,i64 x3] 137)=V4:=⟨_,rfl⟩
    have hb4:Below V1.heap.size V1 V4:=hV4▸(Below.refl _ V1).alloc (Nat.le_refl _) _
    have HS4:Hid (SrcC V4 (.slice (some ⟨V1.heap.size,0,none⟩) 1 1) 4 1 [i64 x0,i64 x1,i64 x2,i64 x3]):=src_four (T:=137) (hV4▸Bk.new V1 _ _)
    have HBV4:Hid (Below w.heap.size w V4):=(HB2.out.trans (hbV.mono HB2.out.size)).trans (hb4.mono (Nat.le_trans HB2.out.size hbV.size))
    have HO4:Hid (V4.ownsRow w.heap.size 137 4 (.slice a3 j c3) j (yb4 (l.take j))):=ycg (S:=fun _=>False) (ycg (S:=fun _=>False) HR2.out (Turns.of_below hbV) (fun _ _=>id)) (Turns.of_below hb4) (fun _ _=>id)
    have hs4:w.heap.size≤V4.heap.size:=HBV4.out.size
    have k0:=HK1.out.cell (i:=0) rfl
    have k1:=HK1.out.cell (i:=1) rfl
    have k2:=HK1.out.cell (i:=2) rfl
    have k3:=HK1.out.cell (i:=3) rfl
    clear hbV hb4
    go_wp2_with (at_builtin;refine yap V4 rfl _ _ 131 rfl w.heap.size 137 ia (.agg #[.int .i64 0,.int .i64 0,.int .i64 0,.int .i64 0]) 4 32 Tryz.underlying131 hia hia0 hia1 hia2 rfl (by decide) (.slice a3 j c3) j (yb4 (l.take j)) rfl HO4.out (.slice (some ⟨V1.heap.size,0,none⟩) 1 1) 1 [i64 x0,i64 x1,i64 x2,i64 x3] rfl HS4.out (by intro u hu;simp at hu;rcases hu with rfl|rfl|rfl|rfl<;>rfl) (by unfold maxLen;omega) (by omega) hs4 ?_;intro vn w5 hown hgrow hnew;obtain⟨an,cn,hvn⟩:=ybv hown;subst hvn;have HG5:Hid (V4.grownBy w5 (Value.slice a3 j c3).ownBlock):=hgrow;have HO5:Hid (w5.ownsRow w.heap.size 137 4 (.slice an (j+1) cn) (j+1) (yb4 (l.take j)++ [i64 x0,i64 x1,i64 x2,i64 x3])):=hown;clear hown hgrow hnew)
    go_roundw
    case rel=>
     refine⟨j+1,by omega,by go_num,fun i hi=> ?_,ydd HO4.out HG5.out HBV4.out (Nat.le_refl _) hs4,an,cn,rfl,by rw [HVS.out];exact HO5.out⟩
     by_cases hij:i<j
     ·exact HA.out i hij
     ·obtain rfl:i=j:=by omega
      exact HV.out
    case measure=>simp [intOf];omega
  case neg=>
   have hje:j=l.length:=by omega
   have HY:Hid (yfe l=true):=allVk_iff.2 (fun i hi=>HA.out i (by omega))
   have HRL:Hid (RowA w.heap.size wr (.slice a3 l.length c3) l):=by
    have h9:=HR.out
    rw [hje,List.take_of_length_le (Nat.le_refl _)]at h9
    exact h9
   subst hje
   clear HR HA
   go_wp2
   go_ret2
   exact⟨HB.out,.inl ⟨HY.out,_,rfl,HRL.out⟩⟩
set_option maxHeartbeats 4000000
set_option maxRecDepth 100000
open Go.RowKit
theorem ym5 (t s q d k v g:Int) (b:Bool) (w:World):
  Calls Tryz.prog 107 #[.agg #[.int .i64 t,.int .i64 s,.int .i64 q,.int .i64 d,.int .i64 k,.int .i64 v,.int .i64 g,.bool b]] w fun e w'=>e= .returned (.agg #[.int .i64 t,.int .i64 s,.int .i64 q,.int .i64 d,.int .i64 k,.int .i64 v,.int .i64 g,.bool b])∧Below w.heap.size w w':=by
 obtain⟨W0,hW0⟩:∃V,((w.alloc (.cells #[.int .i64 t,.int .i64 s,.int .i64 q,.int .i64 d,.int .i64 k,.int .i64 v,.int .i64 g,.bool b] 157)).alloc (.cells #[.int .i64 0,.int .i64 0,.int .i64 0,.int .i64 0,.int .i64 0,.int .i64 0,.int .i64 0,.bool false] 148)).alloc (.cells #[.int .i64 0,.int .i64 0,.int .i64 0,.int .i64 0,.int .i64 0,.int .i64 0,.int .i64 0,.bool false] 148)=V:=⟨_,rfl⟩
 have hb0:Below w.heap.size w W0:=hW0▸(((Below.refl _ w).alloc (Nat.le_refl _) _).alloc (by simp) _).alloc (by simp;omega) _
 have HB0:Hid (Below w.heap.size w W0):=hb0
 have B1:Hid (Bk W0 w.heap.size 157 #[.int .i64 t,.int .i64 s,.int .i64 q,.int .i64 d,.int .i64 k,.int .i64 v,.int .i64 g,.bool b]):=hW0▸((Bk.new w _ _).alloc _).alloc _
 have B2:Hid (Bk W0 (w.heap.size+1) 148 #[.int .i64 0,.int .i64 0,.int .i64 0,.int .i64 0,.int .i64 0,.int .i64 0,.int .i64 0,.bool false]):=hW0▸(Bk.newAt (by simp) _ _).alloc _
 have B3:Hid (Bk W0 (w.heap.size+1+1) 148 #[.int .i64 0,.int .i64 0,.int .i64 0,.int .i64 0,.int .i64 0,.int .i64 0,.int .i64 0,.bool false]):=hW0▸Bk.newAt (by simp) _ _
 clear hb0
 have x0:=B1.out.cell (i:=0) rfl
 have x1:=B1.out.cell (i:=1) rfl
 have x2:=B1.out.cell (i:=2) rfl
 have x3:=B1.out.cell (i:=3) rfl
 have x4:=B1.out.cell (i:=4) rfl
 have x5:=B1.out.cell (i:=5) rfl
 have x6:=B1.out.cell (i:=6) rfl
 go_enter Tryz.func107,Tryz.ntmps107
 go_wp2_with fail
 clear hW0 x0 x1 x2 x3 x4 x5 x6
 refine(yeb _ _ _ _ _ _ _ _).mono ?_
 rintro r w1 ⟨rfl,hb⟩
 have x7:=(B1.out.below hb).cell (i:=7) rfl
 have Y2:Hid (Bk w1 (w.heap.size+1) 148 #[.int .i64 0,.int .i64 0,.int .i64 0,.int .i64 0,.int .i64 0,.int .i64 0,.int .i64 0,.bool false]):=B2.out.below hb
 have Y3:Hid (Bk w1 (w.heap.size+1+1) 148 #[.int .i64 0,.int .i64 0,.int .i64 0,.int .i64 0,.int .i64 0,.int .i64 0,.int .i64 0,.bool false]):=B3.out.below hb
 have y0:=Y2.out.cell (i:=0) rfl
 have y1:=Y2.out.cell (i:=1) rfl
 have y2:=Y2.out.cell (i:=2) rfl
 have y3:=Y2.out.cell (i:=3) rfl
 have y4:=Y2.out.cell (i:=4) rfl
 have y5:=Y2.out.cell (i:=5) rfl
 have y6:=Y2.out.cell (i:=6) rfl
 have y7:=Y2.out.cell (i:=7) rfl
 have z0:=Y3.out.cell (i:=0) rfl
 have z1:=Y3.out.cell (i:=1) rfl
 have z2:=Y3.out.cell (i:=2) rfl
 have z3:=Y3.out.cell (i:=3) rfl
 have z4:=Y3.out.cell (i:=4) rfl
 have z5:=Y3.out.cell (i:=5) rfl
 have z6:=Y3.out.cell (i:=6) rfl
 have z7:=Y3.out.cell (i:=7) rfl
 have yf:=Y2.out.free
 have zf:=Y3.out.free
 have HB1:Hid (Below w.heap.size w w1):=HB0.out.trans (hb.mono HB0.out.size)
 clear hb
 go_wp2
 refine bodyPost_ret (v:= .agg #[.int .i64 t,.int .i64 s,.int .i64 q,.int .i64 d,.int .i64 k,.int .i64 v,.int .i64 g,.bool b]) (by simp [results,Tryz.results107,go_sem,y0,y1,y2,y3,y4,y5,y6,y7]) rfl ⟨rfl,?_⟩
 exact((((((((((((((((HB1.out.setCell (p:=⟨w.heap.size+1+1,0,none⟩) (by show w.heap.size≤w.heap.size+1+1;omega) _).setCell (p:=⟨w.heap.size+1+1,1,none⟩) (by show w.heap.size≤w.heap.size+1+1;omega) _).setCell (p:=⟨w.heap.size+1+1,2,none⟩) (by show w.heap.size≤w.heap.size+1+1;omega) _).setCell (p:=⟨w.heap.size+1+1,3,none⟩) (by show w.heap.size≤w.heap.size+1+1;omega) _).setCell (p:=⟨w.heap.size+1+1,4,none⟩) (by show w.heap.size≤w.heap.size+1+1;omega) _).setCell (p:=⟨w.heap.size+1+1,5,none⟩) (by show w.heap.size≤w.heap.size+1+1;omega) _).setCell (p:=⟨w.heap.size+1+1,6,none⟩) (by show w.heap.size≤w.heap.size+1+1;omega) _).setCell (p:=⟨w.heap.size+1+1,7,none⟩) (by show w.heap.size≤w.heap.size+1+1;omega) _).setCell (p:=⟨w.heap.size+1,0,none⟩) (by show w.heap.size≤w.heap.size+1;omega) _).setCell (p:=⟨w.heap.size+1,1,none⟩) (by show w.heap.size≤w.heap.size+1;omega) _).setCell (p:=⟨w.heap.size+1,2,none⟩) (by show w.heap.size≤w.heap.size+1;omega) _).setCell (p:=⟨w.heap.size+1,3,none⟩) (by show w.heap.size≤w.heap.size+1;omega) _).setCell (p:=⟨w.heap.size+1,4,none⟩) (by show w.heap.size≤w.heap.size+1;omega) _).setCell (p:=⟨w.heap.size+1,5,none⟩) (by show w.heap.size≤w.heap.size+1;omega) _).setCell (p:=⟨w.heap.size+1,6,none⟩) (by show w.heap.size≤w.heap.size+1;omega) _).setCell (p:=⟨w.heap.size+1,7,none⟩) (by show w.heap.size≤w.heap.size+1;omega) _)
theorem infoMl:(Tryz.prog.info? 148).map (fun i=>(i.zero,i.size,i.bytes))=some (some (.agg #[.int .i64 0,.int .i64 0,.int .i64 0,.int .i64 0,.int .i64 0,.int .i64 0,.int .i64 0,.bool false]),8,64):=by kernel_rfl
theorem mails_at {l:List Ml} {k:Nat} (h:k<l.length):(yba l).getD (k*8) (.int .i64 0)= .int .i64 (mlAt l k).e.t∧(yba l).getD (k*8+1) (.int .i64 0)= .int .i64 (mlAt l k).e.s∧(yba l).getD (k*8+2) (.int .i64 0)= .int .i64 (mlAt l k).e.q∧(yba l).getD (k*8+3) (.int .i64 0)= .int .i64 (mlAt l k).e.d∧(yba l).getD (k*8+4) (.int .i64 0)= .int .i64 (mlAt l k).e.k∧(yba l).getD (k*8+5) (.int .i64 0)= .int .i64 (mlAt l k).e.v∧(yba l).getD (k*8+6) (.int .i64 0)= .int .i64 (mlAt l k).e.g∧(yba l).getD (k*8+7) (.int .i64 0)= .bool (mlAt l k).a:=
 ⟨yas (yaw l k 0 h (by omega)),yas (yaw l k 1 h (by omega)),yas (yaw l k 2 h (by omega)),yas (yaw l k 3 h (by omega)),yas (yaw l k 4 h (by omega)),yas (yaw l k 5 h (by omega)),yas (yaw l k 6 h (by omega)),yas (yaw l k 7 h (by omega))⟩
theorem toMl_any (x:Value) (l:List Ml) (w:World) (hl:l.length≤1048576) (h:IsMl w x l):
  Calls Tryz.prog 61 #[x] w fun e w'=>e= .returned (sl w.heap.size l.length)∧Below w.heap.size w w'∧OwnD w' (fun k=>w.heap.size≤k∧k<w'.heap.size) (sl w.heap.size l.length) (yak l):=by
 obtain⟨a,cap,rfl,h1,h2,h⟩:=h
 have hp:(0:Int)≤(l.length:Int):=by omega
 obtain⟨i0,hi,hz0,hz1,hz2⟩:=info_parts infoMl
 go_enter Tryz.func61,Tryz.ntmps61
 go_wp2_with (at_make;refine wpList_make_full _ rfl _ _ 54 rfl w.heap.size 148 i0 _ 8 Tryz.underlying54 hi hz0 hz1 .i64 .i64 l.length l.length l.length rfl rfl rfl rfl (by rw [hz2];omega) (by unfold maxLen;omega) (Nat.le_refl _) ?_;intro w1 hown hgrow)
 have hB1:Hid (Below w.heap.size w w1):=(Below.refl _ _).grown hgrow (Nat.le_refl _) (fun k e=>by cases e)
 obtain⟨zs,hR0⟩:=OwnD.made0 (fun j=> .val ((yba l).getD j (.int .i64 0))) hown
 have hR1:Hid (OwnD w1 (fun k=>w.heap.size≤k∧k<w1.heap.size) (sl w.heap.size l.length) (.row 8 l.length (toC (fun j=> .val ((yba l).getD j (.int .i64 0))) zs (0*8)))):=hR0
 clear hown hgrow hi hz0 hz1 hz2 hR0
 go_loopw [4] (fun i wr=>∃k:Nat,k≤l.length∧i= .int .i64 k∧Below w.heap.size w wr∧OwnD wr (fun k=>w.heap.size≤k∧k<wr.heap.size) (sl w.heap.size l.length) (.row 8 l.length (toC (fun j=> .val ((yba l).getD j (.int .i64 0))) zs (k*8)))) (fun i _=>l.length-(intOf i).toNat)
 case atStart=>exact⟨0,Nat.zero_le _,rfl,hB1.out,hR1.out⟩
 case round=>
  obtain⟨k,hk,rfl,hB,hR⟩:=hrel
  have HB:Hid (Below w.heap.size w wr):=hB
  have HR:Hid (OwnD wr (fun k=>w.heap.size≤k∧k<wr.heap.size) (sl w.heap.size l.length) (.row 8 l.length (toC (fun j=> .val ((yba l).getD j (.int .i64 0))) zs (k*8)))):=hR
  clear hR
  by_cases hlt:k<l.length
  ·obtain⟨b,off,rfl,hb,hc⟩:=h.resolve_left (by intro e;subst e;simp at hlt)
   obtain⟨f0,f1,f2,f3,f4,f5,f6,f7⟩:=(hc k hlt).below hB hb
   have hg:w.heap.size<wr.heap.size:=(HR.out.lt (by omega)).1
   clear hB hB1 hR1 h hc
   go_wp2_with (go_at_call 107;refine(ym5 _ _ _ _ _ _ _ _ _).mono ?_;rintro e w2 ⟨rfl,hb2⟩;have HB2:Hid (Below wr.heap.size wr w2):=hb2;have HR2:Hid (OwnD w2 (fun k=>w.heap.size≤k∧k<wr.heap.size) (sl w.heap.size l.length) (.row 8 l.length (toC (fun j=> .val ((yba l).getD j (.int .i64 0))) zs (k*8)))):=HR.out.under hb2;obtain⟨c0,_,g0,z0,_⟩:=HR2.out.step (j:=k*8) (by omega);obtain⟨c1,_,g1,z1,_⟩:=HR2.out.step (j:=k*8+1) (by omega);obtain⟨c2,_,g2,z2,_⟩:=HR2.out.step (j:=k*8+2) (by omega);obtain⟨c3,_,g3,z3,_⟩:=HR2.out.step (j:=k*8+3) (by omega);obtain⟨c4,_,g4,z4,_⟩:=HR2.out.step (j:=k*8+4) (by omega);obtain⟨c5,_,g5,z5,_⟩:=HR2.out.step (j:=k*8+5) (by omega);obtain⟨c6,_,g6,z6,_⟩:=HR2.out.step (j:=k*8+6) (by omega);obtain⟨c7,_,g7,z7,_⟩:=HR2.out.step (j:=k*8+7) (by omega);clear hb2)
   go_roundw
   case rel=>
    obtain⟨e0,e1,e2,e3,e4,e5,e6,e7⟩:=mails_at hlt
    refine⟨k+1,by omega,by go_num,(((((((((HB.out.trans (HB2.out.mono (by omega))).setCell (p:=⟨w.heap.size,_,none⟩) (Nat.le_refl _) _).setCell (p:=⟨w.heap.size,_,none⟩) (Nat.le_refl _) _).setCell (p:=⟨w.heap.size,_,none⟩) (Nat.le_refl _) _).setCell (p:=⟨w.heap.size,_,none⟩) (Nat.le_refl _) _).setCell (p:=⟨w.heap.size,_,none⟩) (Nat.le_refl _) _).setCell (p:=⟨w.heap.size,_,none⟩) (Nat.le_refl _) _).setCell (p:=⟨w.heap.size,_,none⟩) (Nat.le_refl _) _).setCell (p:=⟨w.heap.size,_,none⟩) (Nat.le_refl _) _),?_⟩
    rw [show(k+1)*8=k*8+1+1+1+1+1+1+1+1 from by omega]
    exact(((((((((HR2.out.fill_val (m:=k*8) (by omega) (by rw [e0])).fill_val (m:=k*8+1) (by omega) (by rw [e1])).fill_val (m:=k*8+2) (by omega) (by rw [e2])).fill_val (m:=k*8+3) (by omega) (by rw [e3])).fill_val (m:=k*8+4) (by omega) (by rw [e4])).fill_val (m:=k*8+5) (by omega) (by rw [e5])).fill_val (m:=k*8+6) (by omega) (by rw [e6])).fill_val (m:=k*8+7) (by omega) (by rw [e7]))).mono (fun b hb=>⟨hb.1,by have:=HB2.out.size;simp;omega⟩)
   case measure=>simp [intOf];omega
  ·clear hB hB1 hR1 h
   go_wp2
   go_ret
   obtain rfl:k=l.length:=by omega
   exact⟨rfl,HB.out,HR.out.toAll rfl⟩
theorem to_mails (x:Value) (l:List Ml) (w:World) (hl:l.length≤1048576) (h:IsD w x (yak l)):
  Calls Tryz.prog 61 #[x] w fun e w'=>∃y,e= .returned y∧Below w.heap.size w w'∧OwnD w' (fun k=>w.heap.size≤k∧k<w'.heap.size) y (yak l):=by
 refine(toMl_any x l w hl h.isMl).mono ?_
 rintro e w' ⟨rfl,hb,hr⟩
 exact⟨_,rfl,hb,hr⟩
end Go.Proofs.YtmobiieoecjmdaaGreat

/- toPartS: a copy of its own. -/
namespace Go.Proofs.YtmobiieoecjmdaaGreat
open Go.RowKit
theorem putN_7 (w:World) (g m:Nat) (v0 v1 v2 v3 v4 v5 v6:Value):putN w g m (fun i=> [v0,v1,v2,v3,v4,v5,v6].getD i (.int .i64 0)) 7=(((((((w.setCell ⟨g,m,none⟩ (v0)).setCell ⟨g,m+1,none⟩ (v1)).setCell ⟨g,m+2,none⟩ (v2)).setCell ⟨g,m+3,none⟩ (v3)).setCell ⟨g,m+4,none⟩ (v4)).setCell ⟨g,m+5,none⟩ (v5)).setCell ⟨g,m+6,none⟩ (v6)):=rfl
theorem ymh (w:World) (g m:Nat) (v0 v1 v2 v3 v4 v5 v6:Value):Turns (fun k=>k=g) w (((((((w.setCell ⟨g,m,none⟩ (v0)).setCell ⟨g,m+1,none⟩ (v1)).setCell ⟨g,m+2,none⟩ (v2)).setCell ⟨g,m+3,none⟩ (v3)).setCell ⟨g,m+4,none⟩ (v4)).setCell ⟨g,m+5,none⟩ (v5)).setCell ⟨g,m+6,none⟩ (v6)):=putN_7 w g m v0 v1 v2 v3 v4 v5 v6▸yd0 w g m _ 7
theorem infoPart:(Tryz.prog.info? 97).map (fun i=>(i.zero,i.size,i.bytes))=some (some (.agg #[.int .i64 0,.slice none 0 0,.int .i64 0,.int .i64 0,.slice none 0 0,.slice none 0 0,.slice none 0 0]),7,120):=by kernel_rfl
set_option maxHeartbeats 8000000 in
theorem to_parts (x:Value) (l:List Pa) (w:World) (hl:(yai l).wt≤1048576) (h:IsD w x (yai l)):
  Calls Tryz.prog 60 #[x] w fun e w'=>∃y,e= .returned y∧Below w.heap.size w w'∧OwnD w' (fun k=>w.heap.size≤k∧k<w'.heap.size) y (yai l):=by
 obtain⟨a,cap,rfl,h1,h2,h⟩:=IsD.parts (c:=7) (n:=l.length) h
 have HS:Hid ((yai l).wt≤1048576):=hl
 have hl2:l.length≤1048576:=by rw [yck]at hl;omega
 have hp:(0:Int)≤(l.length:Int):=by omega
 clear hl
 obtain⟨i0,hi,hz0,hz1,hz2⟩:=info_parts infoPart
 go_enter Tryz.func60,Tryz.ntmps60
 go_wp2_with (at_make;refine wpList_make_full _ rfl _ _ 53 rfl w.heap.size 97 i0 _ 7 Tryz.underlying53 hi hz0 hz1 .i64 .i64 l.length l.length l.length rfl rfl rfl rfl (by rw [hz2];omega) (by unfold maxLen;omega) (Nat.le_refl _) ?_;intro w1 hown hgrow)
 have hB1:Hid (Below w.heap.size w w1):=(Below.refl _ _).grown hgrow (Nat.le_refl _) (fun k e=>by cases e)
 obtain⟨zs,hR0⟩:=OwnD.made0 (ya7 l) hown
 have hR1:Hid (OwnD w1 (fun k=>w.heap.size≤k∧k<w1.heap.size) (sl w.heap.size l.length) (.row 7 l.length (toC (ya7 l) zs (0*7)))):=hR0
 clear hown hgrow hi hz0 hz1 hz2 hR0
 go_loopw [4] (fun i wr=>∃k:Nat,k≤l.length∧i= .int .i64 k∧Below w.heap.size w wr∧OwnD wr (fun k=>w.heap.size≤k∧k<wr.heap.size) (sl w.heap.size l.length) (.row 7 l.length (toC (ya7 l) zs (k*7)))) (fun i _=>l.length-(intOf i).toNat)
 case atStart=>exact⟨0,Nat.zero_le _,rfl,hB1.out,hR1.out⟩
 case round=>
  obtain⟨k,hk,rfl,hB,hR⟩:=hrel
  have HB:Hid (Below w.heap.size w wr):=hB
  have HR:Hid (OwnD wr (fun k=>w.heap.size≤k∧k<wr.heap.size) (sl w.heap.size l.length) (.row 7 l.length (toC (ya7 l) zs (k*7)))):=hR
  clear hR
  by_cases hlt:k<l.length
  ·obtain⟨b,off,rfl,hb,hc⟩:=h.resolve_left (by omega)
   obtain⟨u1,u4,u5,u6,f0,f1,f2,f3,f4,f5,f6,d1,d4,d5,d6⟩:=ydp (fun j hj=>by
    obtain⟨u,hu,hd⟩:=hc j hj
    exact⟨u,(hB.cell (p:=⟨b,off+j,none⟩) hb).trans hu,hd.under hB⟩) hlt
   have HD:Hid (IsPart wr (.agg #[.int .i64 (paAt l k).n,u1,.int .i64 (paAt l k).st.q,.int .i64 (paAt l k).st.d,u4,u5,u6]) (paAt l k)):=⟨u1,u4,u5,u6,rfl,d1,d4,d5,d6⟩
   have hg:w.heap.size<wr.heap.size:=(HR.out.lt (by omega)).1
   clear hB hB1 hR1 h hc d1 d4 d5 d6
   go_wp2_with fail
   clear f0 f1 f2 f3 f4 f5 f6
   refine(ym3 _ (paAt l k) _ (Nat.le_trans (Pa.wt_le hlt) HS.out) HD.out).mono ?_
   rintro e w2 ⟨y,rfl,hb2,A1,A4,A5,A6,v1,v4,v5,v6,rfl,o1,o4,o5,o6,d1,d4,d5,d6⟩
   have HB2:Hid (Below wr.heap.size wr w2):=hb2
   have HR2:Hid (OwnD w2 (fun k=>w.heap.size≤k∧k<wr.heap.size) (sl w.heap.size l.length) (.row 7 l.length (toC (ya7 l) zs (k*7)))):=HR.out.under hb2
   obtain⟨a1,c1,rfl,_⟩:=OwnD.parts (c:=1) (n:=(paAt l k).st.r.length) o1
   have O1:Hid (OwnD w2 A1 (.slice a1 (paAt l k).st.r.length c1) (ya9 (paAt l k).st.r)):=o1
   obtain⟨a4,c4,rfl,_⟩:=OwnD.parts (c:=12) (n:=(paAt l k).p.length) o4
   have O4:Hid (OwnD w2 A4 (.slice a4 (paAt l k).p.length c4) (yag (paAt l k).p)):=o4
   obtain⟨a5,c5,rfl,_⟩:=OwnD.parts (c:=7) (n:=(paAt l k).t.length) o5
   have O5:Hid (OwnD w2 A5 (.slice a5 (paAt l k).t.length c5) (evsD (paAt l k).t)):=o5
   obtain⟨a6,c6,rfl,_⟩:=OwnD.parts (c:=1) (n:=(paAt l k).a.length) o6
   have O6:Hid (OwnD w2 A6 (.slice a6 (paAt l k).a.length c6) (ya9 (paAt l k).a)):=o6
   obtain⟨x0,_,g0,z0,_⟩:=HR2.out.step (j:=k*7) (by omega)
   obtain⟨x1,_,g1,z1,_⟩:=HR2.out.step (j:=k*7+1) (by omega)
   obtain⟨x2,_,g2,z2,_⟩:=HR2.out.step (j:=k*7+2) (by omega)
   obtain⟨x3,_,g3,z3,_⟩:=HR2.out.step (j:=k*7+3) (by omega)
   obtain⟨x4,_,g4,z4,_⟩:=HR2.out.step (j:=k*7+4) (by omega)
   obtain⟨x5,_,g5,z5,_⟩:=HR2.out.step (j:=k*7+5) (by omega)
   obtain⟨x6,_,g6,z6,_⟩:=HR2.out.step (j:=k*7+6) (by omega)
   have D1:Hid (∀k,A1 k→(wr.heap.size≤k∧k<w2.heap.size)∧ ¬A4 k∧ ¬A5 k∧ ¬A6 k):=d1
   have D4:Hid (∀k,A4 k→(wr.heap.size≤k∧k<w2.heap.size)∧ ¬A5 k∧ ¬A6 k):=d4
   have D5:Hid (∀k,A5 k→(wr.heap.size≤k∧k<w2.heap.size)∧ ¬A6 k):=d5
   have D6:Hid (∀k,A6 k→(wr.heap.size≤k∧k<w2.heap.size)):=d6
   clear hb2 o1 d1 o4 d4 o5 d5 o6 d6
   go_wp2
   go_roundw
   case rel=>
    have hG:∀i b,(fun i=>if i=1 then A1 else if i=4 then A4 else if i=5 then A5 else if i=6 then A6 else fun _=>False) i b→wr.heap.size≤b∧b<w2.heap.size:=by
     intro i b hb
     by_cases e:i=1∨i=4∨i=5∨i=6
     ·rcases e with rfl|rfl|rfl|rfl
      ·exact(D1.out b hb).1
      ·exact(D4.out b hb).1
      ·exact(D5.out b hb).1
      ·exact(D6.out b hb)
     ·simp only [not_or]at e
      simp [e]at hb
    have hGG:∀i j,i≠j→ ∀b,(fun i=>if i=1 then A1 else if i=4 then A4 else if i=5 then A5 else if i=6 then A6 else fun _=>False) i b→ ¬(fun i=>if i=1 then A1 else if i=4 then A4 else if i=5 then A5 else if i=6 then A6 else fun _=>False) j b:=by
     intro i j hij b hb hb'
     by_cases e:i=1∨i=4∨i=5∨i=6
     ·by_cases e':j=1∨j=4∨j=5∨j=6
      ·rcases e with rfl|rfl|rfl|rfl<;>rcases e' with rfl|rfl|rfl|rfl
       ·exact hij rfl
       ·exact(D1.out b hb).2.1 hb'
       ·exact(D1.out b hb).2.2.1 hb'
       ·exact(D1.out b hb).2.2.2 hb'
       ·exact(D1.out b hb').2.1 hb
       ·exact hij rfl
       ·exact(D4.out b hb).2.1 hb'
       ·exact(D4.out b hb).2.2 hb'
       ·exact(D1.out b hb').2.2.1 hb
       ·exact(D4.out b hb').2.1 hb
       ·exact hij rfl
       ·exact(D5.out b hb).2 hb'
       ·exact(D1.out b hb').2.2.2 hb
       ·exact(D4.out b hb').2.2 hb
       ·exact(D5.out b hb').2 hb
       ·exact hij rfl
      ·simp only [not_or]at e'
       simp [e']at hb'
     ·simp only [not_or]at e
      simp [e]at hb
    have q:=OwnD.fillN (G:=(fun i=>if i=1 then A1 else if i=4 then A4 else if i=5 then A5 else if i=6 then A6 else fun _=>False)) (U:=(fun i=> [.int .i64 (paAt l k).n,.slice a1 (paAt l k).st.r.length c1,.int .i64 (paAt l k).st.q,.int .i64 (paAt l k).st.d,.slice a4 (paAt l k).p.length c4,.slice a5 (paAt l k).t.length c5,.slice a6 (paAt l k).a.length c6].getD i (.int .i64 0))) HR2.out ⟨Nat.le_refl _,hg⟩ 7 (by omega) (fun i hi=>by
     have hat:ya7 l (k*7+i)=(paAt l k).cell i:=yc4 l k (r:=i) hi
     match i,hi,hat with
     |0,_,hat=>rw [hat];exact OwnD.val _ _
     |1,_,hat=>rw [hat];exact O1.out
     |2,_,hat=>rw [hat];exact OwnD.val _ _
     |3,_,hat=>rw [hat];exact OwnD.val _ _
     |4,_,hat=>rw [hat];exact O4.out
     |5,_,hat=>rw [hat];exact O5.out
     |6,_,hat=>rw [hat];exact O6.out
     |_+7,h,_=>exact absurd h (by omega)) (fun i _ b hb hb'=>by have:=hG i b hb;omega) (fun i j _ _ hij b hb hb'=>hGG i j hij b hb hb')
    rw [putN_7]at q
    have hT:=ymh w2 w.heap.size (k*7) (.int .i64 (paAt l k).n) (.slice a1 (paAt l k).st.r.length c1) (.int .i64 (paAt l k).st.q) (.int .i64 (paAt l k).st.d) (.slice a4 (paAt l k).p.length c4) (.slice a5 (paAt l k).t.length c5) (.slice a6 (paAt l k).a.length c6)
    have hsz:=hT.size
    refine⟨k+1,by omega,by go_num,(HB.out.trans (HB2.out.mono (by omega))).trans (hT.to_below (fun b e=>by omega) (by have:=HB2.out.size;omega)),?_⟩
    rw [show(k+1)*7=k*7+7 from by omega]
    refine q.mono (fun b hb=> ?_)
    have hs2:=HB2.out.size
    rcases hb with hb|⟨i,_,hb⟩
    ·exact⟨hb.1,Nat.lt_of_lt_of_le hb.2 (Nat.le_trans hs2 hsz)⟩
    ·have:=hG i b hb
     exact⟨by omega,Nat.lt_of_lt_of_le this.2 hsz⟩
   case measure=>simp [intOf];omega
  ·clear hB hB1 hR1 h
   go_wp2
   go_ret
   obtain rfl:k=l.length:=by omega
   exact⟨_,rfl,HB.out,HR.out.toAll rfl⟩
end Go.Proofs.YtmobiieoecjmdaaGreat

