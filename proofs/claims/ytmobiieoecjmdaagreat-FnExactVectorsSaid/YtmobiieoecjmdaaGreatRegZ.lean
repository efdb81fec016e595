/- A drawn region whose last store need not keep what the others keep: an operation that the store waits for (by a chain) may be taken first in every world that meets S, where S is shown behind every operation but that store. -/
import Derived.Test.YtmobiieoecjmdaaGreatRows
import Derived.OrdersHeld
import Derived.Deep.RegionHeld
namespace Go.Proofs.YtmobiieoecjmdaaGreat
open Go
section
variable {P : Program} {ops : Array Oper} {Q : Exit → Act → World → Prop} {md : Region.Mode} {S : World → Prop} {z : Nat}
def ydi (P:Program) (md:Region.Mode) (ops:Array Oper) (Q:Exit→Act→World→Prop) (S:World→Prop) (z:Nat):Nat→Array Bool→Act→World→Prop
 |0,listed,a,w=>Region.ready md ops listed= []∧Q .normal a w
 |fuel+1,listed,a,w=>
  (Region.ready md ops listed= []→Q .normal a w)∧
  ∀i∈Region.ready md ops listed,wpOp P ops Q i (fun a' w'=>(i≠z→S w')∧ydi P md ops Q S z fuel (listed.setIfInBounds i true) a' w') a w
theorem ygv:∀(fuel:Nat) (listed:Array Bool) (a:Act) (w:World),ydi P md ops Q S z fuel listed a w→wpAny P md ops Q fuel listed a w
 |0,_,_,_,h=>h
 |fuel+1,_,_,_,h=>⟨h.1,fun i hi=>wpOp_mono (fun a' w' h'=>ygv fuel _ a' w' h'.2) (h.2 i hi)⟩
def chainB (md:Region.Mode) (ops:Array Oper) (i:Nat):Nat→List Nat→Bool
 |z,[]=>z==i
 |z,p::ps=>((ops[z]?).map fun o=>o.after.any fun e=>Region.binds md e&&e.on==p).getD false&&chainB md ops i p ps
theorem yhb {i p:Nat} {ps:List Nat} {listed:Array Bool} (h:chainB md ops i z (p::ps)=true) (hp:listed.getD p true=false):z ∉ Region.ready md ops listed:=by
 intro hz
 obtain⟨_,o,ho,hall⟩:=mem_ready.1 hz
 simp only [chainB,ho,Option.map_some,Option.getD_some,Bool.and_eq_true]at h
 obtain⟨e,he,h1⟩:∃e,e∈o.after∧(Region.binds md e=true∧e.on=p):=by
  have h0:=h.1
  simp only [Array.any_eq_true,Bool.and_eq_true,beq_iff_eq]at h0
  obtain⟨k,hk,h1⟩:=h0
  exact⟨o.after[k],Array.getElem_mem hk,h1⟩
 have h2:=hall e he h1.1
 rw [h1.2]at h2
 rcases Nat.lt_or_ge p listed.size with h'|h'
 ·simp [h']at hp h2
  rw [hp]at h2
  cases h2
 ·simp [Array.getElem?_eq_none h']at h2
theorem yjd {i:Nat} {listed:Array Bool}:∀(ps:List Nat) (z:Nat),chainB md ops i z ps=true→(∀p∈ps,listed.getD p true=false)→ ∀p∈ps,p≠i→p ∉ Region.ready md ops listed
 | [],_,_,_,p,hp,_=>by cases hp
 |q::ps,z,hc,hu,p,hp,hpi=>by
  have hc':chainB md ops i q ps=true:=by
   simp only [chainB,Bool.and_eq_true]at hc
   exact hc.2
  rcases List.mem_cons.1 hp with rfl|hp
  ·cases ps with
   |nil=>simp only [chainB,beq_iff_eq]at hc';exact absurd hc' hpi
   |cons r rs=>exact yhb hc' (hu r (List.mem_cons_of_mem _ List.mem_cons_self))
  ·exact yjd ps q hc' (fun p hp=>hu p (List.mem_cons_of_mem _ hp)) p hp hpi
theorem yi8 {i:Nat} {oi:Oper} {v:Value} {q:Nat} {ps:List Nat} (hi:ops[i]? =some oi) (hsel:∀(j:Nat) (o:Oper) cs b,ops[j]? =some o→o.op≠.select cs b)
  (hQ:∀c a w,Q (.panic c) (a.put oi.dst v) w→Q (.panic c) a w) (hc:chainB md ops i z (q::ps)=true):
  ∀(fuel:Nat) (listed:Array Bool) (a:Act) (w:World),
   (∀p∈q::ps,listed.getD p true=false)→
   (∀j oj,ops[j]? =some oj→j≠i→listed.getD j true=false→(∀e∈oj.after,Region.binds md e=true→e.on≠i)→oi.apart ops oj=true)→
   i∈Region.ready md ops listed→YieldsIf P ops S oi v a→S w→
   ydi P md ops Q S z fuel (listed.setIfInBounds i true) (a.put oi.dst v) w→ydi P md ops Q S z (fuel+1) listed a w:=by
 intro fuel
 induction fuel with
 |zero=>
  intro listed a w hu _ hr hy hS H
  refine⟨fun h=>(by rw [h]at hr;cases hr),fun j hj=> ?_⟩
  by_cases hji:j=i
  ·subst hji;exact hy.wpOp hi hS ⟨fun _=>hS,H⟩
  ·have:=ready_mono hj hji
   rw [H.1]at this
   cases this
 |succ fuel ih=>
  intro listed a w hu hfree hr hy hS H
  refine⟨fun h=>(by rw [h]at hr;cases hr),fun j hj=> ?_⟩
  by_cases hji:j=i
  ·subst hji;exact hy.wpOp hi hS ⟨fun _=>hS,H⟩
  ·have hjz:j≠z:=fun e=>yhb hc (hu q List.mem_cons_self) (e▸hj)
   have h1:=H.2 j (ready_mono hj hji)
   obtain⟨hjun,oj,hoj,hall⟩:=mem_ready.1 hj
   have hnot:∀e∈oj.after,Region.binds md e=true→e.on≠i:=fun e he hb heq=>by
    have h1:=hall e he hb
    have h0:=(mem_ready.1 hr).1
    rw [heq]at h1
    rcases Nat.lt_or_ge i listed.size with h'|h'
    ·simp [h']at h0 h1;rw [h0]at h1;cases h1
    ·simp [Array.getElem?_eq_none h']at h1
   have h2:=wpOp_putIf hoj (hfree j oj hoj hji hjun hnot) (fun cs b=>hsel i oi cs b hi) (fun cs b=>hsel j oj cs b hoj) hQ hy h1
   have hfree':∀k ok,ops[k]? =some ok→k≠i→(listed.setIfInBounds j true).getD k true=false→
     (∀e∈ok.after,Region.binds md e=true→e.on≠i)→oi.apart ops ok=true:=fun k ok hk hki hun hno=>by
    refine hfree k ok hk hki ?_ hno
    by_cases hjk:j=k
    ·subst hjk;exact hjun
    ·rw [getD_set_ne true hjk]at hun;exact hun
   have hu':∀p∈q::ps,(listed.setIfInBounds j true).getD p true=false:=fun p hp=>by
    have hjp:j≠p:=fun e=>yjd (q::ps) z hc hu p hp (fun e'=>hji (e.trans e')) (e▸hj)
    rw [getD_set_ne true hjp]
    exact hu p hp
   refine wpOp_mono (fun a' w' h3=>⟨fun _=>h3.2.1 hjz,ih (listed.setIfInBounds j true) a' w' hu' hfree' (ready_mono hr (Ne.symm hji)) h3.1 (h3.2.1 hjz) ?_⟩) h2
   rw [Array.setIfInBounds_comm _ _ hji]
   exact h3.2.2
theorem yb7 {i:Nat} {oi:Oper} {v:Value} {fuel:Nat} {listed:Array Bool} {a:Act} {w:World} (q:Nat) (ps:List Nat) (hi:ops[i]? =some oi)
  (hs:Region.noSelect ops=true) (hf:Region.free md ops listed i=true) (hr:(Region.ready md ops listed).contains i=true)
  (hc:chainB md ops i z (q::ps)=true) (hu:(q::ps).all (fun p=> !listed.getD p true)=true)
  (hQ:∀c a w,Q (.panic c) (a.put oi.dst v) w→Q (.panic c) a w) (hy:YieldsIf P ops S oi v a) (hS:S w)
  (h:ydi P md ops Q S z fuel (listed.setIfInBounds i true) (a.put oi.dst v) w):ydi P md ops Q S z (fuel+1) listed a w:=
 yi8 hi (Region.noSelect_spec hs) hQ hc fuel listed a w (fun p hp=>by have:=List.all_eq_true.1 hu p hp;simpa using this) (Region.free_spec hi hf) (by simpa using hr) hy hS h
def AllReadyZ (P:Program) (md:Region.Mode) (ops:Array Oper) (Q:Exit→Act→World→Prop) (S:World→Prop) (z fuel:Nat) (listed:Array Bool) (a:Act) (w:World) (rs:List Nat):Prop:=
 ∀i∈rs,wpOp P ops Q i (fun a' w'=>(i≠z→S w')∧ydi P md ops Q S z fuel (listed.setIfInBounds i true) a' w') a w
theorem AllReadyZ.nil {fuel:Nat} {listed:Array Bool} {a:Act} {w:World}:AllReadyZ P md ops Q S z fuel listed a w []:=fun _ h=>by cases h
theorem AllReadyZ.cons {fuel:Nat} {listed:Array Bool} {a:Act} {w:World} {i:Nat} {o:Oper} {rs:List Nat} (ho:ops[i]? =some o)
  (h:∀K':Act→World→Prop,Shut (∀a w,S w→(S w→ydi P md ops Q S z fuel (listed.setIfInBounds i true) a w)→K' a w)→if Region.wanted o (yielded ops a.tmps)=true then Oper.wp P o a w K' Q else K' (a.put o.dst undef) w)
  (hs:AllReadyZ P md ops Q S z fuel listed a w rs):AllReadyZ P md ops Q S z fuel listed a w (i::rs):=fun j hj=>by
 rcases List.mem_cons.1 hj with rfl|hj
 ·exact wpOp_step ho (fun K' hK=>h K' (fun a w hS hW=>hK a w ⟨fun _=>hS,hW hS⟩))
 ·exact hs j hj
theorem AllReadyZ.last {fuel:Nat} {listed:Array Bool} {a:Act} {w:World} {o:Oper} (ho:ops[z]? =some o)
  (h:∀K':Act→World→Prop,Shut (∀a w,ydi P md ops Q S z fuel (listed.setIfInBounds z true) a w→K' a w)→if Region.wanted o (yielded ops a.tmps)=true then Oper.wp P o a w K' Q else K' (a.put o.dst undef) w):
  AllReadyZ P md ops Q S z fuel listed a w [z]:=fun j hj=>by
 rcases List.mem_cons.1 hj with rfl|hj
 ·exact wpOp_step ho (fun K' hK=>h K' (fun a w hW=>hK a w ⟨fun e=>absurd rfl e,hW⟩))
 ·cases hj
theorem yat {rs:List Nat} {fuel:Nat} {listed:Array Bool} {a:Act} {w:World} (hr:Region.ready md ops listed=rs) (hne:rs≠ [])
  (h:AllReadyZ P md ops Q S z fuel listed a w rs):ydi P md ops Q S z (fuel+1) listed a w:=⟨fun h0=>absurd (hr▸h0) hne,hr▸h⟩
theorem yea {listed:Array Bool} {a:Act} {w:World} (hr:Region.ready md ops listed= []) (h:Q .normal a w):
  ∀fuel,ydi P md ops Q S z fuel listed a w
 |0=>⟨hr,h⟩
 |_+1=>⟨fun _=>h,by rw [hr];simp⟩
theorem yjk {id:Nat} {a:Act} {w:World} (z:Nat) (S:World→Prop) (hm:P.follows .mixedOrders=true) (hS:S w.drew)
  (h:S w.drew→ydi P .any ops Q S z ops.size (Array.replicate ops.size false) a w.drew):(Code.region id ops true).wp P Q a w:=
 wp_region_any hm (ygv _ _ _ _ (h hS))
end
end Go.Proofs.YtmobiieoecjmdaaGreat
