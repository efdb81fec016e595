/- RegZ, WSp, VBox -/
import Derived.OrdersHeld
import Derived.Deep.RegionHeld
import Derived.Test.YtmobiieoecjmdaaGreatExactAnswersLMByS
namespace Go.Proofs.YtmobiieoecjmdaaGreat
open Go
section
variable {P : Program} {ops : Array Oper} {Q : Exit → Act → World → Prop} {md : Region.Mode} {S : World → Prop} {z : Nat}
def yd4 (P:Program) (md:Region.Mode) (ops:Array Oper) (Q:Exit→Act→World→Prop) (S:World→Prop) (z:Nat):Nat→Array Bool→Act→World→Prop
 |0,listed,a,w=>Region.ready md ops listed= []∧Q .normal a w
 |fuel+1,listed,a,w=>
  (Region.ready md ops listed= []→Q .normal a w)∧
  ∀i∈Region.ready md ops listed,wpOp P ops Q i (fun a' w'=>(i≠z→S w')∧yd4 P md ops Q S z fuel (listed.setIfInBounds i true) a' w') a w
theorem yke:∀(fuel:Nat) (listed:Array Bool) (a:Act) (w:World),yd4 P md ops Q S z fuel listed a w→wpAny P md ops Q fuel listed a w
 |0,_,_,_,h=>h
 |fuel+1,_,_,_,h=>⟨h.1,fun i hi=>wpOp_mono (fun a' w' h'=>yke fuel _ a' w' h'.2) (h.2 i hi)⟩
def ygb (md:Region.Mode) (ops:Array Oper) (i:Nat):Nat→List Nat→Bool
 |z,[]=>z==i
 |z,p::ps=>((ops[z]?).map fun o=>o.after.any fun e=>Region.binds md e&&e.on==p).getD false&&ygb md ops i p ps
theorem ykw {i p:Nat} {ps:List Nat} {listed:Array Bool} (h:ygb md ops i z (p::ps)=true) (hp:listed.getD p true=false):z ∉ Region.ready md ops listed:=by
 intro hz
 obtain⟨_,o,ho,hall⟩:=mem_ready.1 hz
 simp only [ygb,ho,Option.map_some,Option.getD_some,Bool.and_eq_true]at h
 obtain⟨e,he,h1⟩:∃e,e∈o.after∧(Region.binds md e=true∧e.on=p):=by
  have h0:=h.1
  simp only [Array.any_eq_true,Bool.and_eq_true,beq_iff_eq]at h0
  obtain⟨k,hk,h1⟩:=h0
  exact⟨o.after[k],Array.getElem_mem hk,h1⟩
 have h2:=hall e he h1.1
 rw [h1.2]at h2
 rcases Nat.lt_or_ge p listed.size with h'|h'
 ·simp [h']at hp h2
  rw [hp]at h2
  cases h2
 ·simp [Array.getElem?_eq_none h']at h2
theorem ynu {i:Nat} {listed:Array Bool}:∀(ps:List Nat) (z:Nat),ygb md ops i z ps=true→(∀p∈ps,listed.getD p true=false)→ ∀p∈ps,p≠i→p ∉ Region.ready md ops listed
 | [],_,_,_,p,hp,_=>by cases hp
 |q::ps,z,hc,hu,p,hp,hpi=>by
  have hc':ygb md ops i q ps=true:=by
   simp only [ygb,Bool.and_eq_true]at hc
   exact hc.2
  rcases List.mem_cons.1 hp with rfl|hp
  ·cases ps with
   |nil=>simp only [ygb,beq_iff_eq]at hc';exact absurd hc' hpi
   |cons r rs=>exact ykw hc' (hu r (List.mem_cons_of_mem _ List.mem_cons_self))
  ·exact ynu ps q hc' (fun p hp=>hu p (List.mem_cons_of_mem _ hp)) p hp hpi
theorem ym8 {i:Nat} {oi:Oper} {v:Value} {q:Nat} {ps:List Nat} (hi:ops[i]? =some oi) (hsel:∀(j:Nat) (o:Oper) cs b,ops[j]? =some o→o.op≠.select cs b)
  (hQ:∀c a w,Q (.panic c) (a.put oi.dst v) w→Q (.panic c) a w) (hc:ygb md ops i z (q::ps)=true):
  ∀(fuel:Nat) (listed:Array Bool) (a:Act) (w:World),
   (∀p∈q::ps,listed.getD p true=false)→
   (∀j oj,ops[j]? =some oj→j≠i→listed.getD j true=false→(∀e∈oj.after,Region.binds md e=true→e.on≠i)→oi.apart ops oj=true)→
   i∈Region.ready md ops listed→YieldsIf P ops S oi v a→S w→
   yd4 P md ops Q S z fuel (listed.setIfInBounds i true) (a.put oi.dst v) w→yd4 P md ops Q S z (fuel+1) listed a w:=by
 intro fuel
 induction fuel with
 |zero=>
  intro listed a w hu _ hr hy hS H
  refine⟨fun h=>(by rw [h]at hr;cases hr),fun j hj=> ?_⟩
  by_cases hji:j=i
  ·subst hji;exact hy.wpOp hi hS ⟨fun _=>hS,H⟩
  ·have:=ready_mono hj hji
   rw [H.1]at this
   cases this
 |succ fuel ih=>
  intro listed a w hu hfree hr hy hS H
  refine⟨fun h=>(by rw [h]at hr;cases hr),fun j hj=> ?_⟩
  by_cases hji:j=i
  ·subst hji;exact hy.wpOp hi hS ⟨fun _=>hS,H⟩
  ·have hjz:j≠z:=fun e=>ykw hc (hu q List.mem_cons_self) (e▸hj)
   have h1:=H.2 j (ready_mono hj hji)
   obtain⟨hjun,oj,hoj,hall⟩:=mem_ready.1 hj
   have hnot:∀e∈oj.after,Region.binds md e=true→e.on≠i:=fun e he hb heq=>by
    have h1:=hall e he hb
    have h0:=(mem_ready.1 hr).1
    rw [heq]at h1
    rcases Nat.lt_or_ge i listed.size with h'|h'
    ·simp [h']at h0 h1;rw [h0]at h1;cases h1
    ·simp [Array.getElem?_eq_none h']at h1
   have h2:=wpOp_putIf hoj (hfree j oj hoj hji hjun hnot) (fun cs b=>hsel i oi cs b hi) (fun cs b=>hsel j oj cs b hoj) hQ hy h1
   have hfree':∀k ok,ops[k]? =some ok→k≠i→(listed.setIfInBounds j true).getD k true=false→
     (∀e∈ok.after,Region.binds md e=true→e.on≠i)→oi.apart ops ok=true:=fun k ok hk hki hun hno=>by
    refine hfree k ok hk hki ?_ hno
    by_cases hjk:j=k
    ·subst hjk;exact hjun
    ·rw [getD_set_ne true hjk]at hun;exact hun
   have hu':∀p∈q::ps,(listed.setIfInBounds j true).getD p true=false:=fun p hp=>by
    have hjp:j≠p:=fun e=>ynu (q::ps) z hc hu p hp (fun e'=>hji (e.trans e')) (e▸hj)
    rw [getD_set_ne true hjp]
    exact hu p hp
   refine wpOp_mono (fun a' w' h3=>⟨fun _=>h3.2.1 hjz,ih (listed.setIfInBounds j true) a' w' hu' hfree' (ready_mono hr (Ne.symm hji)) h3.1 (h3.2.1 hjz) ?_⟩) h2
   rw [Array.setIfInBounds_comm _ _ hji]
   exact h3.2.2
theorem yb3 {i:Nat} {oi:Oper} {v:Value} {fuel:Nat} {listed:Array Bool} {a:Act} {w:World} (q:Nat) (ps:List Nat) (hi:ops[i]? =some oi)
  (hs:Region.noSelect ops=true) (hf:Region.free md ops listed i=true) (hr:(Region.ready md ops listed).contains i=true)
  (hc:ygb md ops i z (q::ps)=true) (hu:(q::ps).all (fun p=> !listed.getD p true)=true)
  (hQ:∀c a w,Q (.panic c) (a.put oi.dst v) w→Q (.panic c) a w) (hy:YieldsIf P ops S oi v a) (hS:S w)
  (h:yd4 P md ops Q S z fuel (listed.setIfInBounds i true) (a.put oi.dst v) w):yd4 P md ops Q S z (fuel+1) listed a w:=
 ym8 hi (Region.noSelect_spec hs) hQ hc fuel listed a w (fun p hp=>by have:=List.all_eq_true.1 hu p hp;simpa using this) (Region.free_spec hi hf) (by simpa using hr) hy hS h
def AllReadyZ (P:Program) (md:Region.Mode) (ops:Array Oper) (Q:Exit→Act→World→Prop) (S:World→Prop) (z fuel:Nat) (listed:Array Bool) (a:Act) (w:World) (rs:List Nat):Prop:=
 ∀i∈rs,wpOp P ops Q i (fun a' w'=>(i≠z→S w')∧yd4 P md ops Q S z fuel (listed.setIfInBounds i true) a' w') a w
theorem AllReadyZ.nil {fuel:Nat} {listed:Array Bool} {a:Act} {w:World}:AllReadyZ P md ops Q S z fuel listed a w []:=fun _ h=>by cases h
theorem AllReadyZ.cons {fuel:Nat} {listed:Array Bool} {a:Act} {w:World} {i:Nat} {o:Oper} {rs:List Nat} (ho:ops[i]? =some o)
  (h:∀K':Act→World→Prop,Shut (∀a w,S w→(S w→yd4 P md ops Q S z fuel (listed.setIfInBounds i true) a w)→K' a w)→if Region.wanted o (yielded ops a.tmps)=true then Oper.wp P o a w K' Q else K' (a.put o.dst undef) w)
  (hs:AllReadyZ P md ops Q S z fuel listed a w rs):AllReadyZ P md ops Q S z fuel listed a w (i::rs):=fun j hj=>by
 rcases List.mem_cons.1 hj with rfl|hj
 ·exact wpOp_step ho (fun K' hK=>h K' (fun a w hS hW=>hK a w ⟨fun _=>hS,hW hS⟩))
 ·exact hs j hj
theorem AllReadyZ.last {fuel:Nat} {listed:Array Bool} {a:Act} {w:World} {o:Oper} (ho:ops[z]? =some o)
  (h:∀K':Act→World→Prop,Shut (∀a w,yd4 P md ops Q S z fuel (listed.setIfInBounds z true) a w→K' a w)→if Region.wanted o (yielded ops a.tmps)=true then Oper.wp P o a w K' Q else K' (a.put o.dst undef) w):
  AllReadyZ P md ops Q S z fuel listed a w [z]:=fun j hj=>by
 rcases List.mem_cons.1 hj with rfl|hj
 ·exact wpOp_step ho (fun K' hK=>h K' (fun a w hW=>hK a w ⟨fun e=>absurd rfl e,hW⟩))
 ·cases hj
theorem ya8 {rs:List Nat} {fuel:Nat} {listed:Array Bool} {a:Act} {w:World} (hr:Region.ready md ops listed=rs) (hne:rs≠ [])
  (h:AllReadyZ P md ops Q S z fuel listed a w rs):yd4 P md ops Q S z (fuel+1) listed a w:=⟨fun h0=>absurd (hr▸h0) hne,hr▸h⟩
theorem yd1 {listed:Array Bool} {a:Act} {w:World} (hr:Region.ready md ops listed= []) (h:Q .normal a w):
  ∀fuel,yd4 P md ops Q S z fuel listed a w
 |0=>⟨hr,h⟩
 |_+1=>⟨fun _=>h,by rw [hr];simp⟩
theorem yeb {id:Nat} {a:Act} {w:World} (z:Nat) (S:World→Prop) (hm:P.follows .mixedOrders=true) (hS:S w.drew)
  (h:S w.drew→yd4 P .any ops Q S z ops.size (Array.replicate ops.size false) a w.drew):(Code.region id ops true).wp P Q a w:=
 wp_region_any hm (yke _ _ _ _ (h hS))
end
end Go.Proofs.YtmobiieoecjmdaaGreat

namespace Go.Proofs.YtmobiieoecjmdaaGreat
open Go.RowKit
theorem yao {p:Prop} (h:p):Hid p:=h
theorem yui:(Tryz.prog.info? 22).map (fun i=>(i.zero,i.size,i.bytes))=some (some (.slice none 0 0),1,24):=by kernel_rfl
theorem yo6 {w:World} {g:Nat} {T:TypeId} {u:Value} (h:Bk w g T #[u]):SrcC w (.slice (some ⟨g,0,none⟩) 1 1) 1 1 [u]:=
 ⟨rfl,_,_,rfl,.inr ⟨g,0,rfl,h.lt,fun j hj=>by
  obtain rfl:j=0:=by omega
  exact h.cell (i:=0) rfl⟩⟩
theorem RowV.grown {B:Nat} {w0 V4 w5:World} {a:Option Addr} {c:Nat} {L:List (List Int)} {u vn:Value} {d:List Int} {us:List Value} (ho:V4.ownsRow B 22 1 (.slice a L.length c) L.length us) (h2:∀u∈us,u.oneCell'=true) (h3:∀j,j<L.length→ ∃u,us[j]? =some u∧IsD w0 u (yaq (vAt L j))) (hown:w5.ownsRow B 22 1 vn (L.length+1) (us++ [u])) (hd:IsD w0 u (yaq d)):RowV B w0 w5 vn (L++ [d]):=
 RowV.snoc hown h2 h3 (RowV.len ho) hd.one.1 hd
theorem yji {u:Value} (h:u.oneCell'=true):∀x∈ [u],x.oneCell'=true:=by
 intro x hx
 simp at hx
 subst hx
 exact h
theorem yfj {B b0:Nat} {w V4 w5:World} {x:Value} {n c:Nat} {T:TypeId} {us:List Value} (ho:V4.ownsRow B T c x n us) (hg:V4.grownBy w5 x.ownBlock) (hb:Below b0 w V4) (hB:b0≤B) (h0:b0≤V4.heap.size):Below b0 w w5:=
 hb.trans ((yan hg).to_below (fun q hq=>Nat.le_trans hB (World.ownsRow.lt ho q hq).1) h0)
theorem ypo (x y:Value) (l r:List Int) (w:World) (hl:vok l=true) (hr:vok r=true) (h:IsI w x l) (k:IsI w y r):
  Calls Tryz.prog 89 #[x,y] w fun e w'=>e= .returned (.bool (ybz l r))∧Below w.heap.size w w':=by
 obtain⟨b,off,cap,rfl,hI⟩:=h.four (yge hl)
 obtain⟨b',off',cap',rfl,hJ⟩:=k.four (yge hr)
 exact yrz b off cap b' off' cap' l r w (yge hl) (yge hr) (fun j hj=>(yso hl j hj).1) (fun j hj=>(yso hr j hj).1) hI hJ
theorem yte (x y:Value) (l r:List Int) (b:Bool) (hb:ybz l r=b) (w:World) (hl:vok l=true) (hr:vok r=true) (h:IsI w x l) (k:IsI w y r):
  Calls Tryz.prog 89 #[x,y] w fun e w'=>e= .returned (.bool b)∧Below w.heap.size w w':=hb▸ypo x y l r w hl hr h k
theorem ymn (x:Value) (k:Kn) (b:Bool) (hb:k.ok=b) (w:World) (hs:ybt k) (h:IsKern w x k):
  Calls Tryz.prog 58 #[x] w fun e w'=>e= .returned (.bool b)∧Below w.heap.size w w':=hb▸ymo x k w hs h
set_option maxRecDepth 100000 in
set_option maxHeartbeats 32000000 in
theorem sWorldOk (x:Value) (v:Wd) (w:World) (hs:ycc v) (h:IsW w x v):
  Calls Tryz.prog 41 #[x] w fun e w'=>e= .returned (.bool v.ok)∧Below w.heap.size w w':=by
 have HSM:Hid (SmallM v.m):=hs.1
 have HSK:Hid (yd3 v.k):=hs.2.1
 have HSV:=yao hs.2.2
 have hkl:v.k.length≤1048576:=hs.2.1.1
 have hcl:v.c.length≤1048576:=by have h9:=hs.2.2;rw [ydl]at h9;omega
 obtain⟨ai,ci,ah,ch,ae,ce,ak,ck,ac,cc,rfl,hm,hk,hc⟩:=h.form
 have HMW:=yao hm
 have HKS:=yao hk
 have HCS:=yao hc
 clear hs h hm hk hc
 obtain⟨W0,hW0⟩:∃W0,w.alloc (.cells #[.int .i64 v.m.n,.int .i64 v.m.s,.slice ai v.m.i.length ci,.slice ah v.m.h.length ch,.slice ae v.m.e.length ce,.int .i64 v.m.z,.slice ak v.k.length ck,.slice ac v.c.length cc] 39)=W0:=⟨_,rfl⟩
 have HB0:=hdq (beA hW0)
 have HP0:=hdq (bkA hW0)
 obtain⟨q0,q1,q2,q3,q4,q5,q6,q7⟩:=c8_8 HP0.out
 go_enter Tryz.func41,Tryz.ntmps41
 go_wp2_with fail
 clear q0 q1 q2 q3 q4 q5 q6 q7 hW0
 refine(sModM _ v.m _ HSM.out (HMW.out.below HB0.out)).mono ?_
 rintro e w1 ⟨rfl,hb⟩
 have HB1:=trh HB0 hb
 have HP1:=yao (HP0.out.below hb)
 clear hb HB0 HP0
 have hs1:w.heap.size<w1.heap.size:=HP1.out.lt
 have q6:=HP1.out.cell (i:=6) rfl
 have q7:=HP1.out.cell (i:=7) rfl
 cases hmo:v.m.ok
 case false=>
  have HN:Hid (v.ok=false):=yac (fun h=>by have h1:=(wok_iff.1 h).1.1;rw [hmo]at h1;cases h1)
  clear hmo
  go_wp2
  go_ret
  exact⟨ya0 HN.out.symm,HB1.out⟩
 have HMO:Hid (v.m.ok=true):=hmo
 clear hmo
 by_cases c4:v.k.length≤16
 case neg=>
  have c4':(16:Int)<(v.k.length:Int):=by omega
  have HN:Hid (v.ok=false):=yac (fun h=>c4 (wok_iff.1 h).1.2.1)
  clear c4
  go_wp2
  go_ret
  exact⟨ya0 HN.out.symm,HB1.out⟩
 have c4':¬(16:Int)<(v.k.length:Int):=by omega
 by_cases c5:v.c.length≤100
 case neg=>
  have c5':(100:Int)<(v.c.length:Int):=by omega
  have HN:Hid (v.ok=false):=yac (fun h=>c5 (wok_iff.1 h).1.2.2)
  clear c5
  go_wp2
  go_ret
  exact⟨ya0 HN.out.symm,HB1.out⟩
 have c5':¬(100:Int)<(v.c.length:Int):=by omega
 have HHD:Hid (v.m.ok=true∧v.k.length≤16∧v.c.length≤100):=⟨HMO.out,c4,c5⟩
 go_wp2
 clear q6 q7 c4' c5'
 go_loopw [4,3] (fun i x wr=>∃j:Nat,j≤v.k.length∧i= .int .i64 j∧Hid (∀i,i<j→runB v (knAt v.k i)=true)∧Below w1.heap.size w1 wr∧ ∃(L:List (List Int)) (a3:Option Addr) (c3:Nat),x= .slice a3 L.length c3∧Hid (L=(dsOf v.k).take j)∧Hid (RowV w1.heap.size w wr (.slice a3 L.length c3) L)) (fun i _ _=>v.k.length-(intOf i).toNat)
 case atStart=>exact⟨0,Nat.zero_le _,rfl,fun j hj=>by omega,Below.refl _ _,[],none,0,rfl,rfl,RowV.nil _ _ _⟩
 case round=>
  obtain⟨j,hj,rfl,HA,hB,L,a3,c3,rfl,HL,HRV⟩:=hrel
  have HBw:=trh HB1 hB
  have HBr:=yao hB
  have hsr:w1.heap.size≤wr.heap.size:=hB.size
  have HPr:=yao (HP1.out.below hB)
  clear hB
  by_cases hlt:j<v.k.length
  case pos=>
   obtain⟨b,off,rfl,hbl,hKA⟩:=HKS.out.resolve_left (by omega)
   obtain⟨ki,di,kh,dh,ke,de,k6,d6,k7,d7,k8,d8,k12,d12,k13,d13,⟨f0,f1,f2,f3,f4,f5,f6,f7,f8,f9,f10,f11,f12,f13⟩,hkn,hkm,hkd⟩:=(hKA j hlt).form
   have HDW:=yao hkd
   have f0:=cst HBw.out hbl f0
   have f1:=cst HBw.out hbl f1
   have f2:=cst HBw.out hbl f2
   have f3:=cst HBw.out hbl f3
   have f4:=cst HBw.out hbl f4
   have f5:=cst HBw.out hbl f5
   have f6:=cst HBw.out hbl f6
   have f7:=cst HBw.out hbl f7
   have f8:=cst HBw.out hbl f8
   have f9:=cst HBw.out hbl f9
   have f10:=cst HBw.out hbl f10
   have f11:=cst HBw.out hbl f11
   have f12:=cst HBw.out hbl f12
   have f13:=cst HBw.out hbl f13
   have HSKj:=yao (HSK.out.2 j hlt)
   have hq6:=HPr.out.cell (i:=6) rfl
   obtain⟨V1,hV1⟩:∃V1,wr.alloc (.cells #[.int .i64 (knAt v.k j).m.n,.int .i64 (knAt v.k j).m.s,.slice ki (knAt v.k j).m.i.length di,.slice kh (knAt v.k j).m.h.length dh,.slice ke (knAt v.k j).m.e.length de,.int .i64 (knAt v.k j).m.z,.slice k6 (knAt v.k j).d.length d6,.slice k7 (knAt v.k j).p.length d7,.slice k8 (knAt v.k j).b.length d8,.int .i64 (knAt v.k j).t,.int .i64 (knAt v.k j).q,.bool (knAt v.k j).f,.slice k12 (knAt v.k j).s.length d12,.slice k13 (knAt v.k j).x.length d13] 57)=V1:=⟨_,rfl⟩
   have hbV:=beA hV1
   have HBV:=yao hbV
   have HV1:=yao hbV.size
   have HK1:=hdq (bkA hV1)
   have HWb1:=yao (HPr.out.below hbV)
   have HKI:=yao ((hkn.under HBw.out).under hbV)
   have HMI:=yao ((hkm.below HBw.out).below hbV)
   clear hkn hkm hkd hbV hKA
   go_upto_region 8 with fail
   clear f0 f1 f2 f3 f4 f5 f6 f7 f8 f9 f10 f11 f12 f13 hq6
   try rw [hV1]
   clear hV1
   cases hko:(knAt v.k j).ok
   case false=>
    have HN:Hid (v.ok=false):=yac (fun h=>by have h1:=(runB_iff.1 ((wok_iff.1 h).2.1 j hlt)).1;rw [hko]at h1;cases h1)
    have HKO:=yao hko
    clear hko
    have hne:=neB V1
    have b0:∀p:Beyond V1,p.w.cell? ⟨wr.heap.size,0,none⟩=some (.int .i64 (knAt v.k j).m.n):=fun p=>p.cell HK1.out.lt (HK1.out.cell (i:=0) rfl)
    have b1:∀p:Beyond V1,p.w.cell? ⟨wr.heap.size,1,none⟩=some (.int .i64 (knAt v.k j).m.s):=fun p=>p.cell HK1.out.lt (HK1.out.cell (i:=1) rfl)
    have b2:∀p:Beyond V1,p.w.cell? ⟨wr.heap.size,2,none⟩=some (.slice ki (knAt v.k j).m.i.length di):=fun p=>p.cell HK1.out.lt (HK1.out.cell (i:=2) rfl)
    have b3:∀p:Beyond V1,p.w.cell? ⟨wr.heap.size,3,none⟩=some (.slice kh (knAt v.k j).m.h.length dh):=fun p=>p.cell HK1.out.lt (HK1.out.cell (i:=3) rfl)
    have b4:∀p:Beyond V1,p.w.cell? ⟨wr.heap.size,4,none⟩=some (.slice ke (knAt v.k j).m.e.length de):=fun p=>p.cell HK1.out.lt (HK1.out.cell (i:=4) rfl)
    have b5:∀p:Beyond V1,p.w.cell? ⟨wr.heap.size,5,none⟩=some (.int .i64 (knAt v.k j).m.z):=fun p=>p.cell HK1.out.lt (HK1.out.cell (i:=5) rfl)
    have b6:∀p:Beyond V1,p.w.cell? ⟨wr.heap.size,6,none⟩=some (.slice k6 (knAt v.k j).d.length d6):=fun p=>p.cell HK1.out.lt (HK1.out.cell (i:=6) rfl)
    have b7:∀p:Beyond V1,p.w.cell? ⟨wr.heap.size,7,none⟩=some (.slice k7 (knAt v.k j).p.length d7):=fun p=>p.cell HK1.out.lt (HK1.out.cell (i:=7) rfl)
    have b8:∀p:Beyond V1,p.w.cell? ⟨wr.heap.size,8,none⟩=some (.slice k8 (knAt v.k j).b.length d8):=fun p=>p.cell HK1.out.lt (HK1.out.cell (i:=8) rfl)
    have b9:∀p:Beyond V1,p.w.cell? ⟨wr.heap.size,9,none⟩=some (.int .i64 (knAt v.k j).t):=fun p=>p.cell HK1.out.lt (HK1.out.cell (i:=9) rfl)
    have b10:∀p:Beyond V1,p.w.cell? ⟨wr.heap.size,10,none⟩=some (.int .i64 (knAt v.k j).q):=fun p=>p.cell HK1.out.lt (HK1.out.cell (i:=10) rfl)
    have b11:∀p:Beyond V1,p.w.cell? ⟨wr.heap.size,11,none⟩=some (.bool (knAt v.k j).f):=fun p=>p.cell HK1.out.lt (HK1.out.cell (i:=11) rfl)
    have b12:∀p:Beyond V1,p.w.cell? ⟨wr.heap.size,12,none⟩=some (.slice k12 (knAt v.k j).s.length d12):=fun p=>p.cell HK1.out.lt (HK1.out.cell (i:=12) rfl)
    have b13:∀p:Beyond V1,p.w.cell? ⟨wr.heap.size,13,none⟩=some (.slice k13 (knAt v.k j).x.length d13):=fun p=>p.cell HK1.out.lt (HK1.out.cell (i:=13) rfl)
    go_wp2_with fail
    refine wrb ?_
    repeat(go_big_quiet_step (first|(go_at_call 58;exact Beyond.of (ymn _ (knAt v.k j) false HKO.out _ HSKj.out (HKI.out.under (Beyond.h _))))))
    refine wpQuiet_nil ?_
    rintro w3 ⟨⟨_,hb3⟩,rfl⟩
    have HB3:=yao hb3
    clear hb3
    clear b0 b1 b2 b3 b4 b5 b6 b7 b8 b9 b10 b11 b12 b13
    go_wp2
    go_ret
    exact⟨ya0 HN.out.symm,trm HBw.out (HBV.out.trans (HB3.out.mono HV1.out))⟩
   have HKO:=yao hko
   have HMOK:=yao ((yia hko).1)
   clear hko
   obtain⟨sA,hsA⟩:∃sA,strB (ycz (knAt v.k j).m)=sA:=⟨_,rfl⟩
   obtain⟨sB,hsB⟩:∃sB,strB (ycz v.m)=sB:=⟨_,rfl⟩
   have HSA:=yao hsA
   have HSB:=yao hsB
   clear hsA hsB
   go_cut [50]from 37 to 49 (fun c wc=>c= .bool (!(sA.toList==sB.toList))∧Below V1.heap.size V1 wc)
   case first=>
    refine yeb 13 (fun W=>W.cell? ⟨wr.heap.size,0,none⟩=some (.int .i64 (knAt v.k j).m.n)∧W.cell? ⟨wr.heap.size,1,none⟩=some (.int .i64 (knAt v.k j).m.s)∧W.cell? ⟨wr.heap.size,2,none⟩=some (.slice ki (knAt v.k j).m.i.length di)∧W.cell? ⟨wr.heap.size,3,none⟩=some (.slice kh (knAt v.k j).m.h.length dh)∧W.cell? ⟨wr.heap.size,4,none⟩=some (.slice ke (knAt v.k j).m.e.length de)∧W.cell? ⟨wr.heap.size,5,none⟩=some (.int .i64 (knAt v.k j).m.z)∧W.cell? ⟨wr.heap.size,6,none⟩=some (.slice k6 (knAt v.k j).d.length d6)∧W.cell? ⟨wr.heap.size,7,none⟩=some (.slice k7 (knAt v.k j).p.length d7)∧W.cell? ⟨wr.heap.size,8,none⟩=some (.slice k8 (knAt v.k j).b.length d8)∧W.cell? ⟨wr.heap.size,9,none⟩=some (.int .i64 (knAt v.k j).t)∧W.cell? ⟨wr.heap.size,10,none⟩=some (.int .i64 (knAt v.k j).q)∧W.cell? ⟨wr.heap.size,11,none⟩=some (.bool (knAt v.k j).f)∧W.cell? ⟨wr.heap.size,12,none⟩=some (.slice k12 (knAt v.k j).s.length d12)∧W.cell? ⟨wr.heap.size,13,none⟩=some (.slice k13 (knAt v.k j).x.length d13)∧W.cell? ⟨w.heap.size,0,none⟩=some (.int .i64 v.m.n)∧W.cell? ⟨w.heap.size,1,none⟩=some (.int .i64 v.m.s)∧W.cell? ⟨w.heap.size,2,none⟩=some (.slice ai v.m.i.length ci)∧W.cell? ⟨w.heap.size,3,none⟩=some (.slice ah v.m.h.length ch)∧W.cell? ⟨w.heap.size,4,none⟩=some (.slice ae v.m.e.length ce)∧W.cell? ⟨w.heap.size,5,none⟩=some (.int .i64 v.m.z)) (by kernel_rfl) ⟨HK1.out.drew.cell rfl,HK1.out.drew.cell rfl,HK1.out.drew.cell rfl,HK1.out.drew.cell rfl,HK1.out.drew.cell rfl,HK1.out.drew.cell rfl,HK1.out.drew.cell rfl,HK1.out.drew.cell rfl,HK1.out.drew.cell rfl,HK1.out.drew.cell rfl,HK1.out.drew.cell rfl,HK1.out.drew.cell rfl,HK1.out.drew.cell rfl,HK1.out.drew.cell rfl,HWb1.out.drew.cell rfl,HWb1.out.drew.cell rfl,HWb1.out.drew.cell rfl,HWb1.out.drew.cell rfl,HWb1.out.drew.cell rfl,HWb1.out.drew.cell rfl⟩ (fun hHeld=> ?_)
    refine yb3 (i:=0) (oi:= {dst:=some 37,op:=Op.load 57 (Operand.tmp 5),type:=57,pos:=_,after:=_,guard:=none}) (v:= .agg #[.int .i64 (knAt v.k j).m.n,.int .i64 (knAt v.k j).m.s,.slice ki (knAt v.k j).m.i.length di,.slice kh (knAt v.k j).m.h.length dh,.slice ke (knAt v.k j).m.e.length de,.int .i64 (knAt v.k j).m.z,.slice k6 (knAt v.k j).d.length d6,.slice k7 (knAt v.k j).p.length d7,.slice k8 (knAt v.k j).b.length d8,.int .i64 (knAt v.k j).t,.int .i64 (knAt v.k j).q,.bool (knAt v.k j).f,.slice k12 (knAt v.k j).s.length d12,.slice k13 (knAt v.k j).x.length d13]) 3 [1,0] rfl (by kernel_rfl) (by kernel_rfl) (by kernel_rfl) (by kernel_rfl) (by kernel_rfl) (fun _ _ _ h=>h) (Or.inl ⟨by rfl,?_⟩) (by assumption) ?_
    ·intro wX hSw
     try dsimp only at hSw
     go_simp
     try exact IntWalk.i64_in _ (by omega)
    try simp only [Act.put,q1,q2,q3]
    refine ya8 (rs:= [1]) (by kernel_rfl) (by simp) ?_
    refine AllReadyZ.cons rfl (fun K hK=> ?_) AllReadyZ.nil
    go_simp
    refine(ymo _ (knAt v.k j) V1.drew HSKj.out (HKI.out.under (Below.refl _ V1).drew)).mono ?_
    rintro e wk ⟨he,hbk⟩
    rw [HKO.out]at he
    subst he
    have HKk:=yao (HK1.out.drew.below hbk)
    have HWk:=yao (HWb1.out.drew.below hbk)
    have HBk:Hid (Below V1.heap.size V1 wk):=(Below.refl _ V1).drew.trans (hbk.mono (by simp))
    clear hbk
    try go_simp
    refine hK.out _ _ ⟨HKk.out.cell rfl,HKk.out.cell rfl,HKk.out.cell rfl,HKk.out.cell rfl,HKk.out.cell rfl,HKk.out.cell rfl,HKk.out.cell rfl,HKk.out.cell rfl,HKk.out.cell rfl,HKk.out.cell rfl,HKk.out.cell rfl,HKk.out.cell rfl,HKk.out.cell rfl,HKk.out.cell rfl,HWk.out.cell rfl,HWk.out.cell rfl,HWk.out.cell rfl,HWk.out.cell rfl,HWk.out.cell rfl,HWk.out.cell rfl⟩ (fun hHeld=> ?_)
    clear hK K
    try simp only [Act.put,q1,q2,q3]
    refine yb3 (i:=2) (oi:= {dst:=some 39,op:=Op.unOp UnOp.not 4 (Operand.tmp 38),type:=4,pos:=_,after:=_,guard:=none}) (v:= .bool false) 3 [2] rfl (by kernel_rfl) (by kernel_rfl) (by kernel_rfl) (by kernel_rfl) (by kernel_rfl) (fun _ _ _ h=>h) (Or.inl ⟨by rfl,?_⟩) (by assumption) ?_
    ·intro wX hSw
     try dsimp only at hSw
     go_simp
     try exact IntWalk.i64_in _ (by omega)
    try simp only [Act.put,q1,q2,q3]
    refine yb3 (i:=3) (oi:= {dst:=some 40,op:=Op.move (Operand.tmp 39),type:=4,pos:=_,after:=_,guard:=none}) (v:= .bool false) 3 [] rfl (by kernel_rfl) (by kernel_rfl) (by kernel_rfl) (by kernel_rfl) (by kernel_rfl) (fun _ _ _ h=>h) (Or.inl ⟨by rfl,?_⟩) (by assumption) ?_
    ·intro wX hSw
     try dsimp only at hSw
     go_simp
     try exact IntWalk.i64_in _ (by omega)
    try simp only [Act.put,q1,q2,q3]
    refine yb3 (i:=4) (oi:= {dst:=some 41,op:=Op.fieldAddr 57 (Operand.tmp 5) 0,type:=0,pos:=_,after:=_,guard:=some (3,false)}) (v:= .pointer (some ⟨wr.heap.size,0,none⟩)) 12 [7,6,5,4] rfl (by kernel_rfl) (by kernel_rfl) (by kernel_rfl) (by kernel_rfl) (by kernel_rfl) (fun _ _ _ h=>h) (Or.inl ⟨by rfl,?_⟩) (by assumption) ?_
    ·intro wX hSw
     try dsimp only at hSw
     go_simp
     try exact IntWalk.i64_in _ (by omega)
    try simp only [Act.put,q1,q2,q3]
    refine yb3 (i:=5) (oi:= {dst:=some 42,op:=Op.load 36 (Operand.tmp 41),type:=36,pos:=_,after:=_,guard:=some (3,false)}) (v:= .agg #[.int .i64 (knAt v.k j).m.n,.int .i64 (knAt v.k j).m.s,.slice ki (knAt v.k j).m.i.length di,.slice kh (knAt v.k j).m.h.length dh,.slice ke (knAt v.k j).m.e.length de,.int .i64 (knAt v.k j).m.z]) 12 [7,6,5] rfl (by kernel_rfl) (by kernel_rfl) (by kernel_rfl) (by kernel_rfl) (by kernel_rfl) (fun _ _ _ h=>h) (Or.inl ⟨by rfl,?_⟩) (by assumption) ?_
    ·intro wX hSw
     try dsimp only at hSw
     go_simp
     try exact IntWalk.i64_in _ (by omega)
    try simp only [Act.put,q1,q2,q3]
    refine yb3 (i:=8) (oi:= {dst:=some 45,op:=Op.fieldAddr 39 (Operand.tmp 1) 0,type:=0,pos:=_,after:=_,guard:=some (3,false)}) (v:= .pointer (some ⟨w.heap.size,0,none⟩)) 12 [11,10,9,8] rfl (by kernel_rfl) (by kernel_rfl) (by kernel_rfl) (by kernel_rfl) (by kernel_rfl) (fun _ _ _ h=>h) (Or.inl ⟨by rfl,?_⟩) (by assumption) ?_
    ·intro wX hSw
     try dsimp only at hSw
     go_simp
     try exact IntWalk.i64_in _ (by omega)
    try simp only [Act.put,q1,q2,q3]
    refine yb3 (i:=9) (oi:= {dst:=some 46,op:=Op.load 36 (Operand.tmp 45),type:=36,pos:=_,after:=_,guard:=some (3,false)}) (v:= .agg #[.int .i64 v.m.n,.int .i64 v.m.s,.slice ai v.m.i.length ci,.slice ah v.m.h.length ch,.slice ae v.m.e.length ce,.int .i64 v.m.z]) 12 [11,10,9] rfl (by kernel_rfl) (by kernel_rfl) (by kernel_rfl) (by kernel_rfl) (by kernel_rfl) (fun _ _ _ h=>h) (Or.inl ⟨by rfl,?_⟩) (by assumption) ?_
    ·intro wX hSw
     try dsimp only at hSw
     go_simp
     try exact IntWalk.i64_in _ (by omega)
    try simp only [Act.put,q1,q2,q3]
    refine ya8 (rs:= [6]) (by kernel_rfl) (by simp) ?_
    refine AllReadyZ.cons (o:= {dst:=some 43,op:=Op.call {callee:=Callee.value (Operand.func 87),args:= #[Operand.tmp 42],argTypes:= #[36]},type:=127,pos:=_,after:=_,guard:=some (3,false)}) rfl (fun K hK=> ?_) AllReadyZ.nil
    go_simp
    refine(yi8 _ (knAt v.k j).m wk HSKj.out.1 HMOK.out (HMI.out.below HBk.out)).mono ?_
    rintro e wa ⟨ua,rfl,hoa,hba⟩
    have HOa:=yao hoa.isI
    have HBya:=yao hba
    have HKak:=yao (HKk.out.below hba)
    have HWak:=yao (HWk.out.below hba)
    clear hoa hba
    try go_simp
    refine hK.out _ _ ⟨HKak.out.cell rfl,HKak.out.cell rfl,HKak.out.cell rfl,HKak.out.cell rfl,HKak.out.cell rfl,HKak.out.cell rfl,HKak.out.cell rfl,HKak.out.cell rfl,HKak.out.cell rfl,HKak.out.cell rfl,HKak.out.cell rfl,HKak.out.cell rfl,HKak.out.cell rfl,HKak.out.cell rfl,HWak.out.cell rfl,HWak.out.cell rfl,HWak.out.cell rfl,HWak.out.cell rfl,HWak.out.cell rfl,HWak.out.cell rfl⟩ (fun hHeld=> ?_)
    clear hK K
    try simp only [Act.put,q1,q2,q3]
    refine ya8 (rs:= [7,10]) (by kernel_rfl) (by simp) ?_
    refine AllReadyZ.cons (o:= {dst:=some 44,op:=Op.convert 127 9 (Operand.tmp 43),type:=9,pos:=_,after:=_,guard:=some (3,false)}) rfl (fun K hK=> ?_) (AllReadyZ.cons (o:= {dst:=some 47,op:=Op.call {callee:=Callee.value (Operand.func 87),args:= #[Operand.tmp 46],argTypes:= #[36]},type:=127,pos:=_,after:=_,guard:=some (3,false)}) rfl (fun K hK=> ?_) AllReadyZ.nil)
    ·have hcv:=yeq wa ua _ (ydr _) HOa.out
     rw [HSA.out]at hcv
     go_simp
     clear hcv
     refine hK.out _ _ ⟨HKak.out.cell rfl,HKak.out.cell rfl,HKak.out.cell rfl,HKak.out.cell rfl,HKak.out.cell rfl,HKak.out.cell rfl,HKak.out.cell rfl,HKak.out.cell rfl,HKak.out.cell rfl,HKak.out.cell rfl,HKak.out.cell rfl,HKak.out.cell rfl,HKak.out.cell rfl,HKak.out.cell rfl,HWak.out.cell rfl,HWak.out.cell rfl,HWak.out.cell rfl,HWak.out.cell rfl,HWak.out.cell rfl,HWak.out.cell rfl⟩ (fun hHeld=> ?_)
     clear hK K
     try simp only [Act.put,q1,q2,q3]
     refine ya8 (rs:= [10]) (by kernel_rfl) (by simp) ?_
     refine AllReadyZ.cons (o:= {dst:=some 47,op:=Op.call {callee:=Callee.value (Operand.func 87),args:= #[Operand.tmp 46],argTypes:= #[36]},type:=127,pos:=_,after:=_,guard:=some (3,false)}) rfl (fun K hK=> ?_) AllReadyZ.nil
     go_simp
     refine(yi8 _ v.m wa HSM.out HMO.out (HMW.out.below (HBw.out.trans ((HBV.out.trans ((trm HBk.out HBya.out).mono HV1.out)).mono HBw.out.size)))).mono ?_
     rintro e wb ⟨ub,rfl,hob,hbb⟩
     have HOb:=yao hob.isI
     have HByb:=yao hbb
     have HKbk:=yao (HKak.out.below hbb)
     have HWbk:=yao (HWak.out.below hbb)
     clear hob hbb
     try go_simp
     refine hK.out _ _ ⟨HKbk.out.cell rfl,HKbk.out.cell rfl,HKbk.out.cell rfl,HKbk.out.cell rfl,HKbk.out.cell rfl,HKbk.out.cell rfl,HKbk.out.cell rfl,HKbk.out.cell rfl,HKbk.out.cell rfl,HKbk.out.cell rfl,HKbk.out.cell rfl,HKbk.out.cell rfl,HKbk.out.cell rfl,HKbk.out.cell rfl,HWbk.out.cell rfl,HWbk.out.cell rfl,HWbk.out.cell rfl,HWbk.out.cell rfl,HWbk.out.cell rfl,HWbk.out.cell rfl⟩ (fun hHeld=> ?_)
     clear hK K
     try simp only [Act.put,q1,q2,q3]
     refine ya8 (rs:= [11]) (by kernel_rfl) (by simp) ?_
     refine AllReadyZ.cons (o:= {dst:=some 48,op:=Op.convert 127 9 (Operand.tmp 47),type:=9,pos:=_,after:=_,guard:=some (3,false)}) rfl (fun K hK=> ?_) AllReadyZ.nil
     have hcv:=yeq wb ub _ (ydr _) HOb.out
     rw [HSB.out]at hcv
     go_simp
     clear hcv
     refine hK.out _ _ ⟨HKbk.out.cell rfl,HKbk.out.cell rfl,HKbk.out.cell rfl,HKbk.out.cell rfl,HKbk.out.cell rfl,HKbk.out.cell rfl,HKbk.out.cell rfl,HKbk.out.cell rfl,HKbk.out.cell rfl,HKbk.out.cell rfl,HKbk.out.cell rfl,HKbk.out.cell rfl,HKbk.out.cell rfl,HKbk.out.cell rfl,HWbk.out.cell rfl,HWbk.out.cell rfl,HWbk.out.cell rfl,HWbk.out.cell rfl,HWbk.out.cell rfl,HWbk.out.cell rfl⟩ (fun hHeld=> ?_)
     clear hK K
     try simp only [Act.put,q1,q2,q3]
     refine yb3 (i:=12) (oi:= {dst:=some 49,op:=Op.binOp BinOp.neq 9 (Operand.tmp 44) (Operand.tmp 48) 9,type:=4,pos:=_,after:=_,guard:=some (3,false)}) (v:= .bool (!(sA.toList==sB.toList))) 12 [] rfl (by kernel_rfl) (by kernel_rfl) (by kernel_rfl) (by kernel_rfl) (by kernel_rfl) (fun _ _ _ h=>h) (Or.inl ⟨by rfl,?_⟩) (by assumption) ?_
     ·intro wX hSw
      try dsimp only at hSw
      go_simp
      try exact IntWalk.i64_in _ (by omega)
     try simp only [Act.put,q1,q2,q3]
     refine ya8 (rs:= [13]) (by kernel_rfl) (by simp) ?_
     refine AllReadyZ.last rfl (fun K hK=> ?_)
     go_simp
     refine hK.out _ _ ?_
     clear hK K
     try simp only [Act.put,q1,q2,q3]
     refine yd1 (by kernel_rfl) ?_ _
     clear hHeld
     go_wp2
     go_meet
     case rel=>exact⟨rfl,(trm HBk.out HBya.out).trans (HByb.out.mono (Nat.le_trans HBk.out.size HBya.out.size))⟩
    ·go_simp
     refine(yi8 _ v.m wa HSM.out HMO.out (HMW.out.below (HBw.out.trans ((HBV.out.trans ((trm HBk.out HBya.out).mono HV1.out)).mono HBw.out.size)))).mono ?_
     rintro e wb ⟨ub,rfl,hob,hbb⟩
     have HOb:=yao hob.isI
     have HByb:=yao hbb
     have HKbk:=yao (HKak.out.below hbb)
     have HWbk:=yao (HWak.out.below hbb)
     clear hob hbb
     try go_simp
     refine hK.out _ _ ⟨HKbk.out.cell rfl,HKbk.out.cell rfl,HKbk.out.cell rfl,HKbk.out.cell rfl,HKbk.out.cell rfl,HKbk.out.cell rfl,HKbk.out.cell rfl,HKbk.out.cell rfl,HKbk.out.cell rfl,HKbk.out.cell rfl,HKbk.out.cell rfl,HKbk.out.cell rfl,HKbk.out.cell rfl,HKbk.out.cell rfl,HWbk.out.cell rfl,HWbk.out.cell rfl,HWbk.out.cell rfl,HWbk.out.cell rfl,HWbk.out.cell rfl,HWbk.out.cell rfl⟩ (fun hHeld=> ?_)
     clear hK K
     try simp only [Act.put,q1,q2,q3]
     refine ya8 (rs:= [7,11]) (by kernel_rfl) (by simp) ?_
     refine AllReadyZ.cons (o:= {dst:=some 44,op:=Op.convert 127 9 (Operand.tmp 43),type:=9,pos:=_,after:=_,guard:=some (3,false)}) rfl (fun K hK=> ?_) (AllReadyZ.cons (o:= {dst:=some 48,op:=Op.convert 127 9 (Operand.tmp 47),type:=9,pos:=_,after:=_,guard:=some (3,false)}) rfl (fun K hK=> ?_) AllReadyZ.nil)
     ·have hcv:=yeq wb ua _ (ydr _) (HOa.out.below HByb.out)
      rw [HSA.out]at hcv
      go_simp
      clear hcv
      refine hK.out _ _ ⟨HKbk.out.cell rfl,HKbk.out.cell rfl,HKbk.out.cell rfl,HKbk.out.cell rfl,HKbk.out.cell rfl,HKbk.out.cell rfl,HKbk.out.cell rfl,HKbk.out.cell rfl,HKbk.out.cell rfl,HKbk.out.cell rfl,HKbk.out.cell rfl,HKbk.out.cell rfl,HKbk.out.cell rfl,HKbk.out.cell rfl,HWbk.out.cell rfl,HWbk.out.cell rfl,HWbk.out.cell rfl,HWbk.out.cell rfl,HWbk.out.cell rfl,HWbk.out.cell rfl⟩ (fun hHeld=> ?_)
      clear hK K
      try simp only [Act.put,q1,q2,q3]
      refine ya8 (rs:= [11]) (by kernel_rfl) (by simp) ?_
      refine AllReadyZ.cons (o:= {dst:=some 48,op:=Op.convert 127 9 (Operand.tmp 47),type:=9,pos:=_,after:=_,guard:=some (3,false)}) rfl (fun K hK=> ?_) AllReadyZ.nil
      have hcv:=yeq wb ub _ (ydr _) HOb.out
      rw [HSB.out]at hcv
      go_simp
      clear hcv
      refine hK.out _ _ ⟨HKbk.out.cell rfl,HKbk.out.cell rfl,HKbk.out.cell rfl,HKbk.out.cell rfl,HKbk.out.cell rfl,HKbk.out.cell rfl,HKbk.out.cell rfl,HKbk.out.cell rfl,HKbk.out.cell rfl,HKbk.out.cell rfl,HKbk.out.cell rfl,HKbk.out.cell rfl,HKbk.out.cell rfl,HKbk.out.cell rfl,HWbk.out.cell rfl,HWbk.out.cell rfl,HWbk.out.cell rfl,HWbk.out.cell rfl,HWbk.out.cell rfl,HWbk.out.cell rfl⟩ (fun hHeld=> ?_)
      clear hK K
      try simp only [Act.put,q1,q2,q3]
      refine yb3 (i:=12) (oi:= {dst:=some 49,op:=Op.binOp BinOp.neq 9 (Operand.tmp 44) (Operand.tmp 48) 9,type:=4,pos:=_,after:=_,guard:=some (3,false)}) (v:= .bool (!(sA.toList==sB.toList))) 12 [] rfl (by kernel_rfl) (by kernel_rfl) (by kernel_rfl) (by kernel_rfl) (by kernel_rfl) (fun _ _ _ h=>h) (Or.inl ⟨by rfl,?_⟩) (by assumption) ?_
      ·intro wX hSw
       try dsimp only at hSw
       go_simp
       try exact IntWalk.i64_in _ (by omega)
      try simp only [Act.put,q1,q2,q3]
      refine ya8 (rs:= [13]) (by kernel_rfl) (by simp) ?_
      refine AllReadyZ.last rfl (fun K hK=> ?_)
      go_simp
      refine hK.out _ _ ?_
      clear hK K
      try simp only [Act.put,q1,q2,q3]
      refine yd1 (by kernel_rfl) ?_ _
      clear hHeld
      go_wp2
      go_meet
      case rel=>exact⟨rfl,(trm HBk.out HBya.out).trans (HByb.out.mono (Nat.le_trans HBk.out.size HBya.out.size))⟩
     ·have hcv:=yeq wb ub _ (ydr _) HOb.out
      rw [HSB.out]at hcv
      go_simp
      clear hcv
      refine hK.out _ _ ⟨HKbk.out.cell rfl,HKbk.out.cell rfl,HKbk.out.cell rfl,HKbk.out.cell rfl,HKbk.out.cell rfl,HKbk.out.cell rfl,HKbk.out.cell rfl,HKbk.out.cell rfl,HKbk.out.cell rfl,HKbk.out.cell rfl,HKbk.out.cell rfl,HKbk.out.cell rfl,HKbk.out.cell rfl,HKbk.out.cell rfl,HWbk.out.cell rfl,HWbk.out.cell rfl,HWbk.out.cell rfl,HWbk.out.cell rfl,HWbk.out.cell rfl,HWbk.out.cell rfl⟩ (fun hHeld=> ?_)
      clear hK K
      try simp only [Act.put,q1,q2,q3]
      refine ya8 (rs:= [7]) (by kernel_rfl) (by simp) ?_
      refine AllReadyZ.cons (o:= {dst:=some 44,op:=Op.convert 127 9 (Operand.tmp 43),type:=9,pos:=_,after:=_,guard:=some (3,false)}) rfl (fun K hK=> ?_) AllReadyZ.nil
      have hcv:=yeq wb ua _ (ydr _) (HOa.out.below HByb.out)
      rw [HSA.out]at hcv
      go_simp
      clear hcv
      refine hK.out _ _ ⟨HKbk.out.cell rfl,HKbk.out.cell rfl,HKbk.out.cell rfl,HKbk.out.cell rfl,HKbk.out.cell rfl,HKbk.out.cell rfl,HKbk.out.cell rfl,HKbk.out.cell rfl,HKbk.out.cell rfl,HKbk.out.cell rfl,HKbk.out.cell rfl,HKbk.out.cell rfl,HKbk.out.cell rfl,HKbk.out.cell rfl,HWbk.out.cell rfl,HWbk.out.cell rfl,HWbk.out.cell rfl,HWbk.out.cell rfl,HWbk.out.cell rfl,HWbk.out.cell rfl⟩ (fun hHeld=> ?_)
      clear hK K
      try simp only [Act.put,q1,q2,q3]
      refine yb3 (i:=12) (oi:= {dst:=some 49,op:=Op.binOp BinOp.neq 9 (Operand.tmp 44) (Operand.tmp 48) 9,type:=4,pos:=_,after:=_,guard:=some (3,false)}) (v:= .bool (!(sA.toList==sB.toList))) 12 [] rfl (by kernel_rfl) (by kernel_rfl) (by kernel_rfl) (by kernel_rfl) (by kernel_rfl) (fun _ _ _ h=>h) (Or.inl ⟨by rfl,?_⟩) (by assumption) ?_
      ·intro wX hSw
       try dsimp only at hSw
       go_simp
       try exact IntWalk.i64_in _ (by omega)
      try simp only [Act.put,q1,q2,q3]
      refine ya8 (rs:= [13]) (by kernel_rfl) (by simp) ?_
      refine AllReadyZ.last rfl (fun K hK=> ?_)
      go_simp
      refine hK.out _ _ ?_
      clear hK K
      try simp only [Act.put,q1,q2,q3]
      refine yd1 (by kernel_rfl) ?_ _
      clear hHeld
      go_wp2
      go_meet
      case rel=>exact⟨rfl,(trm HBk.out HBya.out).trans (HByb.out.mono (Nat.le_trans HBk.out.size HBya.out.size))⟩
   case rest=>
    rename World=>w3
    obtain⟨rfl,hb3⟩:=hcut
    have HBw3:=trh HBw (HBV.out.trans (hb3.mono HV1.out))
    have hs3:V1.heap.size≤w3.heap.size:=hb3.size
    have HB3v:=yao hb3
    by_cases hq:ycz (knAt v.k j).m=ycz v.m
    case neg=>
     have HN:Hid (v.ok=false):=yac (fun h=>hq (runB_iff.1 ((wok_iff.1 h).2.1 j hlt)).2)
     have hne:(!(sA.toList==sB.toList))=true:=by
      rw [←HSA.out,←HSB.out,yhl,yhl]
      simpa using hq
     rw [hne]
     clear hq
     go_wp2
     go_ret
     exact⟨ya0 HN.out.symm,HBw3.out⟩
    have hne:(!(sA.toList==sB.toList))=false:=by
     rw [←HSA.out,←HSB.out,hq]
     simp
    rw [hne]
    have HRJ:=yao (runB_iff.2 ⟨HKO.out,hq⟩)
    have HK3:=yao (HK1.out.below hb3)
    have HRV3:=yao ((HRV.out.below HBV.out).below hb3)
    have hLl:L.length≤200:=by rw [HL.out,List.length_take];omega
    clear hq hne hb3
    have hk6:=HK3.out.cell (i:=6) rfl
    have HB3w1:=trh HBr (HBV.out.trans (HB3v.out.mono HV1.out))
    obtain⟨V4,hV4⟩:∃V4,w3.alloc (.cells #[.slice k6 (knAt v.k j).d.length d6] 22)=V4:=⟨_,rfl⟩
    have hb4:=beA hV4
    have HS4:Hid (SrcC V4 (.slice (some ⟨w3.heap.size,0,none⟩) 1 1) 1 1 [.slice k6 (knAt v.k j).d.length d6]):=yo6 (T:=22) (hV4▸Bk.new w3 _ _)
    have HBV4:=trh HB3w1 hb4
    have HD4:=yao HDW.out
    obtain⟨us,ho,h1,h3⟩:=HRV3.out.below hb4
    have HO4:=yao ho
    have HU1:=yao h1
    have HU3:=yao h3
    have hs4:w1.heap.size≤V4.heap.size:=HBV4.out.size
    obtain⟨iv,hiv,hiv0,hiv1,hiv2⟩:=info_parts yui
    clear ho h1 h3 hb4
    go_wp2_with (at_builtin;refine yat V4 rfl _ _ 28 rfl w1.heap.size 22 iv (.slice none 0 0) 1 24 Tryz.underlying28 hiv hiv0 hiv1 hiv2 rfl (by decide) (.slice a3 L.length c3) L.length us rfl HO4.out (.slice (some ⟨w3.heap.size,0,none⟩) 1 1) 1 [.slice k6 (knAt v.k j).d.length d6] rfl HS4.out (yji HD4.out.one.1) (by unfold maxLen;omega) (by omega) hs4 ?_;intro vn w5 hown hgrow hnew;obtain⟨an,cn,hvn⟩:=yav hown;subst hvn;have HG5:=hdq hgrow;have HO5:=hdq hown;clear hown hgrow hnew)
    go_roundw
    case rel=>
     have hR5:=RowV.grown HO4.out HU1.out HU3.out HO5.out HD4.out
     have hB5:=yfj HO4.out HG5.out HBV4.out (Nat.le_refl _) hs4
     refine⟨j+1,by omega,by go_num,fun i hi=> ?_,hB5,L++ [(knAt v.k j).d],an,cn,by rw [List.length_append];rfl,?_,by rw [List.length_append];exact hR5⟩
     ·by_cases hij:i<j
      ·exact HA.out i hij
      ·obtain rfl:i=j:=by omega
       exact HRJ.out
     ·show L++ [(knAt v.k j).d]=_
      rw [ygg (by rw [yc0];exact hlt),←HL.out,yex hlt]
    case measure=>simp [intOf];omega
  case neg=>
   have hje:j=v.k.length:=by omega
   clear hlt hj
   have hLK:L=dsOf v.k:=by(have h9:=HL.out;rw [hje,List.take_of_length_le (by rw [yc0];exact Nat.le_refl _)]at h9;exact h9)
   have HAK:Hid (∀i,i<v.k.length→runB v (knAt v.k i)=true):=fun i hi=>HA.out i (by omega)
   have HLK:Hid (L=dsOf v.k):=hLK
   have q6:=HPr.out.cell (i:=6) rfl
   subst hje
   clear HA HL hLK
   go_wp2
   clear q6
   obtain⟨wq,rfl⟩:∃wq,wq=wr:=⟨wr,rfl⟩
   go_loopw [6,3] (fun i x wr=>∃j:Nat,j≤v.c.length∧i= .int .i64 j∧Hid (∀i,i<j→vok (vAt v.c i)=true)∧Below w1.heap.size w1 wr∧ ∃(L:List (List Int)) (a3:Option Addr) (c3:Nat),x= .slice a3 L.length c3∧Hid (L=dsOf v.k++v.c.take j)∧Hid (RowV w1.heap.size w wr (.slice a3 L.length c3) L)) (fun i _ _=>v.c.length-(intOf i).toNat)
   case atStart=>exact⟨0,Nat.zero_le _,rfl,fun j hj=>by omega,HBr.out,L,a3,c3,rfl,(by rw [List.take_zero,List.append_nil];exact HLK.out:L=dsOf v.k++v.c.take 0),HRV.out⟩
   case round=>
    clear HRV HLK HPr HBw HBr hsr
    obtain⟨j,hj,rfl,HA2,hB,L,a3,c3,rfl,HL,HRV⟩:=hrel
    have HBw:=trh HB1 hB
    have HBr:=yao hB
    have hsr:w1.heap.size≤wr.heap.size:=hB.size
    have HPr:=yao (HP1.out.below hB)
    have q7:=HPr.out.cell (i:=7) rfl
    clear hB
    by_cases hlt:j<v.c.length
    case pos=>
     obtain⟨b,off,rfl,hbl,hCA⟩:=HCS.out.resolve_left (by omega)
     obtain⟨u,hu,hd⟩:=hCA j hlt
     obtain⟨_,au,cu,rfl⟩:=hd.one
     have f0:=(HBw.out.cell (p:=⟨b,off+j,none⟩) hbl).trans hu
     have HDW:=yao hd
     have hvl:(vAt v.c j).length≤1048576:=Nat.le_trans (ym9 hlt) HSV.out
     clear hu hd hCA
     go_wp2_with fail
     refine(yiy _ (vAt v.c j) _ (by omega) ((HDW.out.under HBw.out).isI)).mono ?_
     rintro e w2 ⟨rfl,hw2⟩
     have hw2':=hw2.symm
     clear hw2
     subst hw2'
     cases hvo:vok (vAt v.c j)
     case false=>
      have HN:Hid (v.ok=false):=yac (fun h=>by have h1:=(wok_iff.1 h).2.2.1 j hlt;rw [hvo]at h1;cases h1)
      clear hvo
      go_wp2
      go_ret
      exact⟨ya0 HN.out.symm,HBw.out⟩
     have HVO:=yao hvo
     have hLl:L.length≤200:=by rw [HL.out,List.length_append,yc0,List.length_take];omega
     have HRV3:=HRV
     clear hvo
     obtain⟨V4,hV4⟩:∃V4,wr.alloc (.cells #[.slice au (vAt v.c j).length cu] 22)=V4:=⟨_,rfl⟩
     have hb4:=beA hV4
     have HS4:Hid (SrcC V4 (.slice (some ⟨wr.heap.size,0,none⟩) 1 1) 1 1 [.slice au (vAt v.c j).length cu]):=yo6 (T:=22) (hV4▸Bk.new wr _ _)
     have HBV4:=trh HBr hb4
     have HD4:=yao HDW.out
     obtain⟨us,ho,h1,h3⟩:=HRV3.out.below hb4
     have HO4:=yao ho
     have HU1:=yao h1
     have HU3:=yao h3
     have hs4:w1.heap.size≤V4.heap.size:=HBV4.out.size
     obtain⟨iv,hiv,hiv0,hiv1,hiv2⟩:=info_parts yui
     clear ho h1 h3 hb4
     go_wp2_with (at_builtin;refine yat V4 rfl _ _ 28 rfl w1.heap.size 22 iv (.slice none 0 0) 1 24 Tryz.underlying28 hiv hiv0 hiv1 hiv2 rfl (by decide) (.slice a3 L.length c3) L.length us rfl HO4.out (.slice (some ⟨wr.heap.size,0,none⟩) 1 1) 1 [.slice au (vAt v.c j).length cu] rfl HS4.out (yji HD4.out.one.1) (by unfold maxLen;omega) (by omega) hs4 ?_;intro vn w5 hown hgrow hnew;obtain⟨an,cn,hvn⟩:=yav hown;subst hvn;have HG5:=hdq hgrow;have HO5:=hdq hown;clear hown hgrow hnew)
     go_roundw
     case rel=>
      have hR5:=RowV.grown HO4.out HU1.out HU3.out HO5.out HD4.out
      have hB5:=yfj HO4.out HG5.out HBV4.out (Nat.le_refl _) hs4
      refine⟨j+1,by omega,by go_num,fun i hi=> ?_,hB5,L++ [(vAt v.c j)],an,cn,by rw [List.length_append];rfl,?_,by rw [List.length_append];exact hR5⟩
      ·by_cases hij:i<j
       ·exact HA2.out i hij
       ·obtain rfl:i=j:=by omega
        exact HVO.out
      ·show L++ [(vAt v.c j)]=_
       rw [ygg hlt,←List.append_assoc,←HL.out]
     case measure=>simp [intOf];omega
    case neg=>
     have hje:j=v.c.length:=by omega
     have hLA:L=allV v:=by(have h9:=HL.out;rw [hje,List.take_of_length_le (Nat.le_refl _)]at h9;exact h9)
     have HAC:Hid (∀i,i<v.c.length→vok (vAt v.c i)=true):=fun i hi=>HA2.out i (by omega)
     have HVA:Hid (∀i,i<L.length→vok (vAt L i)=true):=fun i hi=>by
      rw [hLA]at hi⊢
      unfold allV at hi⊢
      rw [List.length_append,yc0]at hi
      by_cases hik:i<v.k.length
      ·rw [yii (by rw [yc0];exact hik),yex hik]
       exact(yia (runB_iff.1 (HAK.out i hik)).1).2
      ·rw [yhh (by rw [yc0];omega),yc0]
       exact HAC.out _ (by omega)
     have hLl:L.length≤200:=by rw [hLA];unfold allV;rw [List.length_append,yc0];omega
     have HLA:Hid (L=allV v):=hLA
     clear hLA HL HA2
     subst hje
     go_wp2
     clear q7
     obtain⟨wq2,rfl⟩:∃wq,wq=wr:=⟨wr,rfl⟩
     go_loopw [7] (fun i wz=>∃i1:Nat,i1≤L.length∧i= .int .i64 i1∧Hid (∀i,i<i1→ ∀j,j<i→ybz (vAt L i) (vAt L j)=false)∧Below wq2.heap.size wq2 wz) (fun i _=>L.length-(intOf i).toNat)
     case atStart=>exact⟨0,Nat.zero_le _,rfl,fun i hi=>by omega,Below.refl _ _⟩
     case round=>
      obtain⟨i1,hi1,rfl,HM1,hB⟩:=hrel
      have HB4:=yao hB
      have HBw4:=trh HBw hB
      clear hB
      by_cases hlt:i1<L.length
      case neg=>
       have hie:i1=L.length:=by omega
       have HYES:Hid (v.ok=true):=wok_iff.2 ⟨HHD.out,HAK.out,HAC.out,noMB_iff.2 (by rw [←HLA.out];exact fun i hi=>HM1.out i (by omega))⟩
       subst hie
       go_wp2
       go_ret
       exact⟨ya0 HYES.out.symm,HBw4.out⟩
      case pos=>
       obtain⟨gv,ui,hag,hgl,hci,hdi⟩:=HRV.out.cell hlt
       subst hag
       have HCI:Hid (wq2.cell? ⟨gv,i1,none⟩=some ui∧gv<wq2.heap.size):=⟨hci,hgl⟩
       have HDI:=yao hdi
       clear hci hdi hgl
       go_wp2
       obtain⟨wq3,rfl⟩:∃wq,wq=wr:=⟨wr,rfl⟩
       go_loopw [8] (fun i wz=>∃j1:Nat,j1≤i1∧i= .int .i64 j1∧Hid (∀j,j<j1→ybz (vAt L i1) (vAt L j)=false)∧Below wq3.heap.size wq3 wz) (fun i _=>i1-(intOf i).toNat)
       case atStart=>exact⟨0,Nat.zero_le _,rfl,fun i hi=>by omega,Below.refl _ _⟩
       case round=>
        obtain⟨j1,hj1,rfl,HM2,hB⟩:=hrel
        have HBs:=yao hB
        have HB5:=trh HB4 hB
        have HBw5:=trh HBw4 hB
        clear hB
        by_cases hjt:j1<i1
        case neg=>
         have hje:j1=i1:=by omega
         go_wp2
         go_roundw
         case rel=>exact⟨i1+1,by omega,by go_num,fun i hi=>by
          by_cases hii:i<i1
          ·exact HM1.out i hii
          ·obtain rfl:i=i1:=by omega
           exact fun j hj=>HM2.out j (by omega),HB5.out⟩
         case measure=>simp [intOf];omega
        case pos=>
         obtain⟨gv',uj,hag,hgl',hcj,hdj⟩:=HRV.out.cell (show j1<L.length by omega)
         cases hag
         have hne:=neB wr
         have hgr:gv<wr.heap.size:=Nat.lt_of_lt_of_le hgl' HB5.out.size
         have b1:∀p:Beyond wr,p.w.cell? ⟨gv,i1,none⟩=some ui:=fun p=>p.cell hgr ((HB5.out.cell (p:=⟨gv,i1,none⟩) hgl').trans HCI.out.1)
         have b2:∀p:Beyond wr,p.w.cell? ⟨gv,j1,none⟩=some uj:=fun p=>p.cell hgr ((HB5.out.cell (p:=⟨gv,j1,none⟩) hgl').trans hcj)
         have HVI:Hid (vok (vAt L i1)=true∧vok (vAt L j1)=true):=⟨HVA.out i1 (by omega),HVA.out j1 (by omega)⟩
         have HII:Hid (IsI wr ui (vAt L i1)∧IsI wr uj (vAt L j1)):=⟨(HDI.out.under HBw5.out).isI,(hdj.under HBw5.out).isI⟩
         have hL9:(L.length:Int)≤9223372036854775807:=by omega
         clear hcj hdj
         cases hmb:ybz (vAt L i1) (vAt L j1)
         case true=>
          have HN:Hid (v.ok=false):=yac (fun h=>by have h1:=noMB_iff.1 (wok_iff.1 h).2.2.2;rw [←HLA.out]at h1;have h2:=h1 i1 hlt j1 hjt;rw [hmb]at h2;cases h2)
          have HMB:=yao hmb
          clear hmb
          go_wp2_with fail
          refine wrb ?_
          repeat(go_big_quiet_step (first|(go_at_call 89;exact Beyond.of (yte _ _ _ _ true HMB.out _ HVI.out.1 HVI.out.2 (HII.out.1.below (Beyond.h _)) (HII.out.2.below (Beyond.h _))))))
          refine wpQuiet_nil ?_
          rintro w3 ⟨⟨_,hb3⟩,rfl⟩
          have HB3:=yao hb3
          clear hb3
          clear b1 b2
          go_wp2
          go_ret
          exact⟨ya0 HN.out.symm,trm HBw5.out HB3.out⟩
         case false=>
          have HMB:=yao hmb
          clear hmb
          go_wp2_with fail
          refine wrb ?_
          repeat(go_big_quiet_step (first|(go_at_call 89;exact Beyond.of (yte _ _ _ _ false HMB.out _ HVI.out.1 HVI.out.2 (HII.out.1.below (Beyond.h _)) (HII.out.2.below (Beyond.h _))))))
          refine wpQuiet_nil ?_
          rintro w3 ⟨⟨_,hb3⟩,rfl⟩
          have HB3:=yao hb3
          clear hb3
          clear b1 b2
          go_wp2
          go_roundw
          case rel=>exact⟨j1+1,by omega,by go_num,fun j hj=>by
           by_cases hjj:j<j1
           ·exact HM2.out j hjj
           ·obtain rfl:j=j1:=by omega
            exact HMB.out,trm HBs.out HB3.out⟩
          case measure=>simp [intOf];omega
def V4 (w:World) (g:Nat) (a b c d:Int):Prop:=w.heap[g]? =some (yam a b c d)
theorem V4.new (w:World) (a b c d:Int):V4 (w.alloc (yam a b c d)) w.heap.size a b c d:=by
 show(w.heap.push _)[w.heap.size]? =_
 simp
theorem V4.keep {w w':World} {B g:Nat} {a b c d:Int} (h:V4 w g a b c d) (hb:Below B w w') (hg:g<B):V4 w' g a b c d:=(hb.block g hg).trans h
theorem V4.lt {w:World} {g:Nat} {a b c d:Int} (h:V4 w g a b c d):g<w.heap.size:=(Array.getElem?_eq_some_iff.1 h).1
theorem V4.alloc {w:World} {g:Nat} {a b c d:Int} (h:V4 w g a b c d) (o:Obj):V4 (w.alloc o) g a b c d:=h.keep ((Below.refl w.heap.size w).alloc (Nat.le_refl _) o) h.lt
theorem V4.cells {w:World} {g:Nat} {a b c d:Int} (h:V4 w g a b c d):
  w.cell? ⟨g,0,none⟩=some (.int .i64 a)∧w.cell? ⟨g,1,none⟩=some (.int .i64 b)∧w.cell? ⟨g,2,none⟩=some (.int .i64 c)∧w.cell? ⟨g,3,none⟩=some (.int .i64 d)∧(∀o,w.frozen? ⟨g,o,none⟩=false):=by
 have h':w.heap[g]? =some (.cells #[i64 a,i64 b,i64 c,i64 d] 137):=h
 refine⟨?_,?_,?_,?_,fun o=> ?_⟩
 ·unfold World.cell?;simp only [h'];rfl
 ·unfold World.cell?;simp only [h'];rfl
 ·unfold World.cell?;simp only [h'];rfl
 ·unfold World.cell?;simp only [h'];rfl
 ·unfold World.frozen?;simp only [h'];simp
abbrev put4 (w:World) (g:Nat) (a b c d:Int):World:=(((w.setCell ⟨g,0,none⟩ (.int .i64 a)).setCell ⟨g,1,none⟩ (.int .i64 b)).setCell ⟨g,2,none⟩ (.int .i64 c)).setCell ⟨g,3,none⟩ (.int .i64 d)
theorem yd5 {B:Nat} {a w:World} (h:Below B a w) {g:Nat} (hg:B≤g) (x0 x1 x2 x3:Int):Below B a (put4 w g x0 x1 x2 x3):=
 (((h.setCell (p:=⟨g,0,none⟩) hg _).setCell (p:=⟨g,1,none⟩) hg _).setCell (p:=⟨g,2,none⟩) hg _).setCell (p:=⟨g,3,none⟩) hg _
theorem V4.put {w:World} {g:Nat} {a b c d:Int} (h:V4 w g a b c d) (x0 x1 x2 x3:Int):V4 (put4 w g x0 x1 x2 x3) g x0 x1 x2 x3:=by
 have h':w.heap[g]? =some (.cells #[i64 a,i64 b,i64 c,i64 d] 137):=h
 obtain⟨hl,hv⟩:=Array.getElem?_eq_some_iff.1 h'
 unfold V4 put4
 simp [World.setCell,hl,Array.getElem_modify,hv]
theorem V4.other {w:World} {g k:Nat} {a b c d:Int} (h:V4 w g a b c d) (hk:g≠k) (x0 x1 x2 x3:Int):V4 (put4 w k x0 x1 x2 x3) g a b c d:=by
 have e:(put4 w k x0 x1 x2 x3).heap[g]? =w.heap[g]? :=by
  unfold put4
  rw [Below.heap_setCell _ _ _ _ hk,Below.heap_setCell _ _ _ _ hk,Below.heap_setCell _ _ _ _ hk,Below.heap_setCell _ _ _ _ hk]
 exact e.trans h
end Go.Proofs.YtmobiieoecjmdaaGreat

