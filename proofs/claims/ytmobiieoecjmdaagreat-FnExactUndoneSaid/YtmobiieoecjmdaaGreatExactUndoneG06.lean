/- PApp, PGrow, PPst, RegZ, PTo, PTr -/
import Derived.Test.YtmobiieoecjmdaaGreatExactUndoneG05
import Derived.Test.YtmobiieoecjmdaaGreatExactUndoneG04
import Derived.Laws.OwnMore
import Derived.Test.YtmobiieoecjmdaaGreatRows
import Derived.OrdersHeld
import Derived.Deep.RegionHeld
import Derived.Deep.RegionHeld3
import Derived.Deep.Cut
import Derived.Deep.CutBlock
import Derived.Laws.Slices
/- Append of a source that may be empty, or nil. -/
namespace Go.Proofs.YtmobiieoecjmdaaGreat
open Go.RowKit
def SrcC (w:World) (x:Value) (size m:Nat) (news:List Value):Prop:=news.length=m*size∧ ∃a c,x= .slice a m c∧(m=0∨ ∃b off,a=some ⟨b,off,none⟩∧b<w.heap.size∧ ∀j,j<m*size→w.cell? ⟨b,off+j,none⟩=news[j]?)
theorem SrcC.below {w w':World} {x:Value} {size m:Nat} {news:List Value} (h:SrcC w x size m news) (hb:Below w.heap.size w w'):SrcC w' x size m news:=by
 obtain⟨hn,a,c,rfl,h⟩:=h
 refine⟨hn,a,c,rfl,h.imp id ?_⟩
 rintro ⟨b,off,rfl,hlt,hc⟩
 exact⟨b,off,rfl,Nat.lt_of_lt_of_le hlt hb.size,fun j hj=>(hb.cell (p:=⟨b,off+j,none⟩) hlt).trans (hc j hj)⟩
theorem IsD.src {w:World} {x:Value} {c n:Nat} {cs:List Value} (h:IsD w x (flat c n cs)) (hl:cs.length=n*c):SrcC w x c n cs:=by
 obtain⟨a,cap,rfl,h1,h2,h⟩:=IsD.parts (c:=c) (n:=n) h
 refine⟨hl,a,cap,rfl,h.imp id ?_⟩
 rintro ⟨b,off,rfl,hlt,hc⟩
 refine⟨b,off,rfl,hlt,fun j hj=> ?_⟩
 obtain⟨u,hu,hd⟩:=hc j hj
 have:=IsD.val_eq hd
 subst this
 rw [hu,List.getElem?_eq_getElem (by omega)]
 simp [show j<cs.length by omega]
theorem IsD.srcEv {w:World} {x:Value} {l:List Ev} (h:IsD w x (evsD l)):SrcC w x 7 l.length (cellsL l):=IsD.src h (cellsL_length l)
theorem IsD.srcX {w:World} {x:Value} {l:List Em} (h:IsD w x (emsD l)):SrcC w x 3 l.length (cellsX l):=IsD.src h (cellsX_length l)
theorem run_append_none_any {P:Program} {w:World} (base:Nat) (t ty e:TypeId) (i:TypeInfo) (size:Nat) (ht:P.underlying t=some (.slice e)) (hi:P.info? e=some i) (v:Value) (n c:Nat) (xs:List Value) (hown:w.ownsRow base e size v n xs):
  (Builtin.append_ #[t,t] ty #[v,.slice none 0 c]).run P w= .ok v w:=by
 rcases hown.2 with ⟨rfl,rfl⟩|⟨g,cap,cur,rfl,_,_,hnc,_⟩
 ·simp [Builtin.append_,run_underlying ht,sizeOf,typeInfo,hi,Builtin.lenOf,Builtin.firstCells]
 ·simp [Builtin.append_,run_underlying ht,sizeOf,typeInfo,hi,Builtin.lenOf,Builtin.firstCells,hnc,storeCells]
theorem step_append_src {P:Program} {ops:Array Oper} {o:Oper} {a:Act} {w:World} {K:Act→World→Prop} {Q:Exit→Act→World→Prop} {E:Prop}
  (hg:o.guard=none) (s x:Operand) (t:TypeId) (hop:o.op=Op.call {callee:=Callee.builtin Builtin.append,args:= #[s,x],argTypes:= #[t,t]})
  (base:Nat) (e:TypeId) (i:TypeInfo) (z:Value) (size bytes:Nat) (h1:P.underlying t=some (.slice e)) (h2:P.info? e=some i) (h3:i.zero=some z) (h4:i.size=size) (h5:i.bytes=bytes) (h6:z.cells.size=size) (h7:0<size)
  (v:Value) (n:Nat) (xs:List Value) (hs:a.eval s=v) (hown:w.ownsRow base e size v n xs)
  (u:Value) (m:Nat) (news:List Value) (hx:a.eval x=u) (hc:SrcC w u size m news) (h1c:∀u∈news,u.oneCell'=true)
  (b1:n+m≤maxLen) (b2:(n+m)*bytes≤140737488355328) (hbase:base≤w.heap.size)
  (hK:∀v' w',w'.ownsRow base e size v' (n+m) (xs++news)→w.grownBy w' v.ownBlock→NewRow w v v'→K (a.put o.dst v') w'):
  if Region.wanted o (yielded ops a.tmps)=true then Oper.wp P o a w K Q else E:=by
 obtain⟨hn,au,c,rfl,hc⟩:=hc
 have some_case:∀ad:Addr,au=some ad→(∀j u,news[j]? =some u→w.cell? (ad.add j)=some u)→(if Region.wanted o (yielded ops a.tmps)=true then Oper.wp P o a w K Q else E):=fun ad e1 e2=>by
  subst e1
  exact step_append_own2 hg s x t hop base e i z size bytes h1 h2 h3 h4 h5 h6 h7 v n xs hs hown ad m c news hx hn e2 h1c b1 b2 hbase hK
 rcases hc with rfl|⟨b,off,rfl,hlt,hcc⟩
 ·have hnil:news= []:=List.eq_nil_of_length_eq_zero (by simpa using hn)
  subst hnil
  cases au with
  |some ad=>exact some_case ad rfl (fun j u hu=>by simp at hu)
  |none=>
   have hw:Region.wanted o (yielded ops a.tmps)=true:=by simp [Region.wanted,hg]
   rw [if_pos hw]
   have hr:=run_append_none_any (P:=P) (w:=w) base t o.type e i size h1 h2 v n c xs hown
   unfold Oper.wp execOp
   simp only [hop,resolve,invoke,builtin,Sem.run_bind,Sem.run_pure,Result.andThen_ok,List.map_toArray,List.map_cons,List.map_nil,hs,hx,hr]
   exact hK v w (by simpa using hown) (grown_refl w _) (.inl rfl)
 ·refine some_case ⟨b,off,none⟩ rfl (fun j u hu=> ?_)
  have hj:j<m*size:=by rw [←hn];exact(List.getElem?_eq_some_iff.1 hu).1
  rw [Addr.add_lit,hcc j hj]
  exact hu
theorem wpList_append_src {P:Program} {ops:Array Oper} {rest:List Oper} {o:Oper} {a:Act} {Q:Exit→Act→World→Prop} (w:World) (hgd:o.guard=none) (s x:Operand) (t:TypeId)
  (ho:o.op= .call {callee:= .builtin .append,args:= #[s,x],argTypes:= #[t,t]})
  (base:Nat) (e:TypeId) (i:TypeInfo) (z:Value) (size bytes:Nat) (ht:P.underlying t=some (.slice e)) (hi:P.info? e=some i) (hz:i.zero=some z)
  (hsize:i.size=size) (hby:i.bytes=bytes) (hzs:z.cells.size=size) (hsz:0<size)
  (v:Value) (n:Nat) (xs:List Value) (hs:a.eval s=v) (hown:w.ownsRow base e size v n xs)
  (u:Value) (m:Nat) (news:List Value) (hx:a.eval x=u) (hc:SrcC w u size m news) (h1:∀u∈news,u.oneCell'=true)
  (h63:n+m≤maxLen) (hbytes:(n+m)*bytes≤140737488355328) (hbase:base≤w.heap.size)
  (h:∀v' w',w'.ownsRow base e size v' (n+m) (xs++news)→w.grownBy w' v.ownBlock→NewRow w v v'→wpList P ops Q rest (a.put o.dst v') w'):wpList P ops Q (o::rest) a w:=by
 obtain⟨hn,au,c,rfl,hc⟩:=hc
 have some_case:∀ad:Addr,au=some ad→(∀j u,news[j]? =some u→w.cell? (ad.add j)=some u)→wpList P ops Q (o::rest) a w:=fun ad e1 e2=>by
  subst e1
  exact wpList_append_own2 w hgd s x t ho base e i z size bytes ht hi hz hsize hby hzs hsz v n xs hs hown ad m c news hx hn e2 h1 h63 hbytes hbase h
 rcases hc with rfl|⟨b,off,rfl,hlt,hcc⟩
 ·have hnil:news= []:=List.eq_nil_of_length_eq_zero (by simpa using hn)
  subst hnil
  cases au with
  |some ad=>exact some_case ad rfl (fun j u hu=>by simp at hu)
  |none=>
   refine wpList_plain hgd fun _ hK=> ?_
   have hr:=run_append_none_any (P:=P) (w:=w) base t o.type e i size ht hi v n c xs hown
   unfold Oper.wp execOp
   simp only [ho,resolve,invoke,builtin,Sem.run_bind,Sem.run_pure,Result.andThen_ok,List.map_toArray,List.map_cons,List.map_nil,hs,hx,hr]
   exact hK _ _ (h v w (by simpa using hown) (grown_refl w _) (.inl rfl))
 ·refine some_case ⟨b,off,none⟩ rfl (fun j u hu=> ?_)
  have hj:j<m*size:=by rw [←hn];exact(List.getElem?_eq_some_iff.1 hu).1
  rw [Addr.add_lit,hcc j hj]
  exact hu
theorem cellsL_ones (l:List Ev):∀u∈cellsL l,u.oneCell'=true:=fun u hu=>by obtain⟨i,rfl⟩:=evs_plain l u hu;rfl
theorem cellsX_ones (l:List Em):∀u∈cellsX l,u.oneCell'=true:=fun u hu=>by obtain⟨i,rfl⟩:=ems_plain l u hu;rfl
set_option maxRecDepth 100000 in
set_option maxHeartbeats 2000000 in
theorem l1own_src (x:Value) (l:List Ev) (w:World) (hl:l.length≤1048577) (h:SrcC w x 7 l.length (cellsL l)):
  Calls Tryz.prog 102 #[x] w fun e w'=>∃y,e= .returned y∧w'.ownsRow w.heap.size 110 7 y l.length (cellsL l)∧Below w.heap.size w w':=by
 obtain⟨i0,hi,hz0,hz1,hz2⟩:=info_parts info25
 have hb:Below w.heap.size w (w.alloc (.cells #[] 110)):=(Below.refl _ w).alloc (Nat.le_refl _) _
 have HS:Hid (SrcC (w.alloc (.cells #[] 110)) x 7 l.length (cellsL l)):=h.below hb
 have HB:Hid (Below w.heap.size w (w.alloc (.cells #[] 110))):=hb
 obtain⟨_,a,c,rfl,_⟩:=h
 clear hb
 go_enter Tryz.func102,Tryz.ntmps102
 go_wp2_with (at_builtin;refine wpList_append_src _ rfl _ _ 34 rfl w.heap.size 110 i0 _ 7 56 Tryz.underlying34 hi hz0 hz1 hz2 rfl (by decide) (.slice (some ⟨w.heap.size,0,none⟩) 0 0) 0 [] rfl (row_empty w) (.slice a l.length c) l.length (cellsL l) rfl HS.out (cellsL_ones l) (by unfold maxLen;omega) (by omega) (by simp) ?_;intro v' w' hown hgrow hnew)
 go_ret
 rw [Nat.zero_add,List.nil_append]at hown
 exact⟨_,rfl,hown,HB.out.grown hgrow (by simp) (fun k e=>by cases e;exact Nat.le_refl _)⟩
def nthV (cs:List Value) (j:Nat):Value:=cs.getD j (.int .i64 0)
theorem infoPX:(Tryz.prog.info? 113).map (fun i=>(i.zero,i.size,i.bytes))=some (some (.agg #[.int .i64 0,.int .i64 0,.int .i64 0]),3,24):=by kernel_rfl
theorem infoPQ:(Tryz.prog.info? 115).map (fun i=>(i.zero,i.size,i.bytes))=some (some (.agg #[.int .i64 0,.int .i64 0,.int .i64 0,.int .i64 0,.int .i64 0,.int .i64 0,.int .i64 0,.slice none 0 0,.int .i64 0,.int .i64 0,.slice none 0 0,.slice none 0 0]),12,144):=by kernel_rfl
def pastL (q:Ps) (v7 v10 v11:Value):List Value:= [.int .i64 q.e.t,.int .i64 q.e.s,.int .i64 q.e.q,.int .i64 q.e.d,.int .i64 q.e.k,.int .i64 q.e.v,.int .i64 q.e.g,v7,.int .i64 q.b.q,.int .i64 q.b.d,v10,v11]
end Go.Proofs.YtmobiieoecjmdaaGreat

/- A drawn region whose last store need not keep what the others keep: an operation that the store waits for (by a chain) may be taken first in every world that meets S, where S is shown behind every operation but that store. -/
namespace Go.Proofs.YtmobiieoecjmdaaGreat
open Go
section
variable {P : Program} {ops : Array Oper} {Q : Exit → Act → World → Prop} {md : Region.Mode} {S : World → Prop} {z : Nat}
def wpAnyZ (P:Program) (md:Region.Mode) (ops:Array Oper) (Q:Exit→Act→World→Prop) (S:World→Prop) (z:Nat):Nat→Array Bool→Act→World→Prop
 |0,listed,a,w=>Region.ready md ops listed= []∧Q .normal a w
 |fuel+1,listed,a,w=>
  (Region.ready md ops listed= []→Q .normal a w)∧
  ∀i∈Region.ready md ops listed,wpOp P ops Q i (fun a' w'=>(i≠z→S w')∧wpAnyZ P md ops Q S z fuel (listed.setIfInBounds i true) a' w') a w
theorem wpAny_of_z:∀(fuel:Nat) (listed:Array Bool) (a:Act) (w:World),wpAnyZ P md ops Q S z fuel listed a w→wpAny P md ops Q fuel listed a w
 |0,_,_,_,h=>h
 |fuel+1,_,_,_,h=>⟨h.1,fun i hi=>wpOp_mono (fun a' w' h'=>wpAny_of_z fuel _ a' w' h'.2) (h.2 i hi)⟩
def chainB (md:Region.Mode) (ops:Array Oper) (i:Nat):Nat→List Nat→Bool
 |z,[]=>z==i
 |z,p::ps=>((ops[z]?).map fun o=>o.after.any fun e=>Region.binds md e&&e.on==p).getD false&&chainB md ops i p ps
theorem chain_wait {i p:Nat} {ps:List Nat} {listed:Array Bool} (h:chainB md ops i z (p::ps)=true) (hp:listed.getD p true=false):z ∉ Region.ready md ops listed:=by
 intro hz
 obtain⟨_,o,ho,hall⟩:=mem_ready.1 hz
 simp only [chainB,ho,Option.map_some,Option.getD_some,Bool.and_eq_true]at h
 obtain⟨e,he,h1⟩:∃e,e∈o.after∧(Region.binds md e=true∧e.on=p):=by
  have h0:=h.1
  simp only [Array.any_eq_true,Bool.and_eq_true,beq_iff_eq]at h0
  obtain⟨k,hk,h1⟩:=h0
  exact⟨o.after[k],Array.getElem_mem hk,h1⟩
 have h2:=hall e he h1.1
 rw [h1.2]at h2
 rcases Nat.lt_or_ge p listed.size with h'|h'
 ·simp [h']at hp h2
  rw [hp]at h2
  cases h2
 ·simp [Array.getElem?_eq_none h']at h2
theorem chain_mid {i:Nat} {listed:Array Bool}:∀(ps:List Nat) (z:Nat),chainB md ops i z ps=true→(∀p∈ps,listed.getD p true=false)→ ∀p∈ps,p≠i→p ∉ Region.ready md ops listed
 | [],_,_,_,p,hp,_=>by cases hp
 |q::ps,z,hc,hu,p,hp,hpi=>by
  have hc':chainB md ops i q ps=true:=by
   simp only [chainB,Bool.and_eq_true]at hc
   exact hc.2
  rcases List.mem_cons.1 hp with rfl|hp
  ·cases ps with
   |nil=>simp only [chainB,beq_iff_eq]at hc';exact absurd hc' hpi
   |cons r rs=>exact chain_wait hc' (hu r (List.mem_cons_of_mem _ List.mem_cons_self))
  ·exact chain_mid ps q hc' (fun p hp=>hu p (List.mem_cons_of_mem _ hp)) p hp hpi
theorem wpAnyZ_first {i:Nat} {oi:Oper} {v:Value} {q:Nat} {ps:List Nat} (hi:ops[i]? =some oi) (hsel:∀(j:Nat) (o:Oper) cs b,ops[j]? =some o→o.op≠.select cs b)
  (hQ:∀c a w,Q (.panic c) (a.put oi.dst v) w→Q (.panic c) a w) (hc:chainB md ops i z (q::ps)=true):
  ∀(fuel:Nat) (listed:Array Bool) (a:Act) (w:World),
   (∀p∈q::ps,listed.getD p true=false)→
   (∀j oj,ops[j]? =some oj→j≠i→listed.getD j true=false→(∀e∈oj.after,Region.binds md e=true→e.on≠i)→oi.apart ops oj=true)→
   i∈Region.ready md ops listed→YieldsIf P ops S oi v a→S w→
   wpAnyZ P md ops Q S z fuel (listed.setIfInBounds i true) (a.put oi.dst v) w→wpAnyZ P md ops Q S z (fuel+1) listed a w:=by
 intro fuel
 induction fuel with
 |zero=>
  intro listed a w hu _ hr hy hS H
  refine⟨fun h=>(by rw [h]at hr;cases hr),fun j hj=> ?_⟩
  by_cases hji:j=i
  ·subst hji;exact hy.wpOp hi hS ⟨fun _=>hS,H⟩
  ·have:=ready_mono hj hji
   rw [H.1]at this
   cases this
 |succ fuel ih=>
  intro listed a w hu hfree hr hy hS H
  refine⟨fun h=>(by rw [h]at hr;cases hr),fun j hj=> ?_⟩
  by_cases hji:j=i
  ·subst hji;exact hy.wpOp hi hS ⟨fun _=>hS,H⟩
  ·have hjz:j≠z:=fun e=>chain_wait hc (hu q List.mem_cons_self) (e▸hj)
   have h1:=H.2 j (ready_mono hj hji)
   obtain⟨hjun,oj,hoj,hall⟩:=mem_ready.1 hj
   have hnot:∀e∈oj.after,Region.binds md e=true→e.on≠i:=fun e he hb heq=>by
    have h1:=hall e he hb
    have h0:=(mem_ready.1 hr).1
    rw [heq]at h1
    rcases Nat.lt_or_ge i listed.size with h'|h'
    ·simp [h']at h0 h1;rw [h0]at h1;cases h1
    ·simp [Array.getElem?_eq_none h']at h1
   have h2:=wpOp_putIf hoj (hfree j oj hoj hji hjun hnot) (fun cs b=>hsel i oi cs b hi) (fun cs b=>hsel j oj cs b hoj) hQ hy h1
   have hfree':∀k ok,ops[k]? =some ok→k≠i→(listed.setIfInBounds j true).getD k true=false→
     (∀e∈ok.after,Region.binds md e=true→e.on≠i)→oi.apart ops ok=true:=fun k ok hk hki hun hno=>by
    refine hfree k ok hk hki ?_ hno
    by_cases hjk:j=k
    ·subst hjk;exact hjun
    ·rw [getD_set_ne true hjk]at hun;exact hun
   have hu':∀p∈q::ps,(listed.setIfInBounds j true).getD p true=false:=fun p hp=>by
    have hjp:j≠p:=fun e=>chain_mid (q::ps) z hc hu p hp (fun e'=>hji (e.trans e')) (e▸hj)
    rw [getD_set_ne true hjp]
    exact hu p hp
   refine wpOp_mono (fun a' w' h3=>⟨fun _=>h3.2.1 hjz,ih (listed.setIfInBounds j true) a' w' hu' hfree' (ready_mono hr (Ne.symm hji)) h3.1 (h3.2.1 hjz) ?_⟩) h2
   rw [Array.setIfInBounds_comm _ _ hji]
   exact h3.2.2
theorem wpAnyZ_take {i:Nat} {oi:Oper} {v:Value} {fuel:Nat} {listed:Array Bool} {a:Act} {w:World} (q:Nat) (ps:List Nat) (hi:ops[i]? =some oi)
  (hs:Region.noSelect ops=true) (hf:Region.free md ops listed i=true) (hr:(Region.ready md ops listed).contains i=true)
  (hc:chainB md ops i z (q::ps)=true) (hu:(q::ps).all (fun p=> !listed.getD p true)=true)
  (hQ:∀c a w,Q (.panic c) (a.put oi.dst v) w→Q (.panic c) a w) (hy:YieldsIf P ops S oi v a) (hS:S w)
  (h:wpAnyZ P md ops Q S z fuel (listed.setIfInBounds i true) (a.put oi.dst v) w):wpAnyZ P md ops Q S z (fuel+1) listed a w:=
 wpAnyZ_first hi (Region.noSelect_spec hs) hQ hc fuel listed a w (fun p hp=>by have:=List.all_eq_true.1 hu p hp;simpa using this) (Region.free_spec hi hf) (by simpa using hr) hy hS h
def AllReadyZ (P:Program) (md:Region.Mode) (ops:Array Oper) (Q:Exit→Act→World→Prop) (S:World→Prop) (z fuel:Nat) (listed:Array Bool) (a:Act) (w:World) (rs:List Nat):Prop:=
 ∀i∈rs,wpOp P ops Q i (fun a' w'=>(i≠z→S w')∧wpAnyZ P md ops Q S z fuel (listed.setIfInBounds i true) a' w') a w
theorem AllReadyZ.nil {fuel:Nat} {listed:Array Bool} {a:Act} {w:World}:AllReadyZ P md ops Q S z fuel listed a w []:=fun _ h=>by cases h
theorem AllReadyZ.cons {fuel:Nat} {listed:Array Bool} {a:Act} {w:World} {i:Nat} {o:Oper} {rs:List Nat} (ho:ops[i]? =some o)
  (h:∀K':Act→World→Prop,Shut (∀a w,S w→(S w→wpAnyZ P md ops Q S z fuel (listed.setIfInBounds i true) a w)→K' a w)→if Region.wanted o (yielded ops a.tmps)=true then Oper.wp P o a w K' Q else K' (a.put o.dst undef) w)
  (hs:AllReadyZ P md ops Q S z fuel listed a w rs):AllReadyZ P md ops Q S z fuel listed a w (i::rs):=fun j hj=>by
 rcases List.mem_cons.1 hj with rfl|hj
 ·exact wpOp_step ho (fun K' hK=>h K' (fun a w hS hW=>hK a w ⟨fun _=>hS,hW hS⟩))
 ·exact hs j hj
theorem AllReadyZ.last {fuel:Nat} {listed:Array Bool} {a:Act} {w:World} {o:Oper} (ho:ops[z]? =some o)
  (h:∀K':Act→World→Prop,Shut (∀a w,wpAnyZ P md ops Q S z fuel (listed.setIfInBounds z true) a w→K' a w)→if Region.wanted o (yielded ops a.tmps)=true then Oper.wp P o a w K' Q else K' (a.put o.dst undef) w):
  AllReadyZ P md ops Q S z fuel listed a w [z]:=fun j hj=>by
 rcases List.mem_cons.1 hj with rfl|hj
 ·exact wpOp_step ho (fun K' hK=>h K' (fun a w hW=>hK a w ⟨fun e=>absurd rfl e,hW⟩))
 ·cases hj
theorem wpAnyZ_ready {rs:List Nat} {fuel:Nat} {listed:Array Bool} {a:Act} {w:World} (hr:Region.ready md ops listed=rs) (hne:rs≠ [])
  (h:AllReadyZ P md ops Q S z fuel listed a w rs):wpAnyZ P md ops Q S z (fuel+1) listed a w:=⟨fun h0=>absurd (hr▸h0) hne,hr▸h⟩
theorem wpAnyZ_done {listed:Array Bool} {a:Act} {w:World} (hr:Region.ready md ops listed= []) (h:Q .normal a w):
  ∀fuel,wpAnyZ P md ops Q S z fuel listed a w
 |0=>⟨hr,h⟩
 |_+1=>⟨fun _=>h,by rw [hr];simp⟩
theorem wp_region_z {id:Nat} {a:Act} {w:World} (z:Nat) (S:World→Prop) (hm:P.follows .mixedOrders=true) (hS:S w.drew)
  (h:S w.drew→wpAnyZ P .any ops Q S z ops.size (Array.replicate ops.size false) a w.drew):(Code.region id ops true).wp P Q a w:=
 wp_region_any hm (wpAny_of_z _ _ _ _ (h hS))
end
end Go.Proofs.YtmobiieoecjmdaaGreat

/- The specification's copy of what was done; rows of data as sources of an append, and cut. -/
namespace Go.Proofs.YtmobiieoecjmdaaGreat
open Go.RowKit
theorem IsD.cells {w:World} {x:Value} {c n:Nat} {f:Nat→Dat} (h:IsD w x (.row c n f)):∃cs,SrcC w x c n cs∧ ∀j,j<n*c→IsD w (nthV cs j) (f j):=by
 obtain⟨a,cap,rfl,h1,h2,h⟩:=IsD.parts (c:=c) (n:=n) h
 rcases h with rfl|⟨b,off,rfl,hb,hc⟩
 ·exact⟨[],⟨by simp,a,cap,rfl,.inl rfl⟩,fun j hj=>by omega⟩
 ·refine⟨(List.range (n*c)).map (fun j=>((w.cell? ⟨b,off+j,none⟩).getD (.int .i64 0))),⟨by simp,some ⟨b,off,none⟩,cap,rfl,.inr ⟨b,off,rfl,hb,fun j hj=> ?_⟩⟩,fun j hj=> ?_⟩
  ·obtain⟨u,hu,_⟩:=hc j hj
   simp [hj,hu]
  ·obtain⟨u,hu,hd⟩:=hc j hj
   have:nthV ((List.range (n*c)).map (fun j=>((w.cell? ⟨b,off+j,none⟩).getD (.int .i64 0)))) j=u:=by
    unfold nthV
    simp [hj,hu]
   rw [this]
   exact hd
theorem psAt_take {l:List Ps} {k j:Nat} (h:j<k):psAt (l.take k) j=psAt l j:=by
 unfold psAt
 rw [List.getD_eq_getElem?_getD,List.getD_eq_getElem?_getD,List.getElem?_take_of_lt h]
theorem pasts_take {w:World} {a:Option Addr} {cap k:Nat} {l:List Ps} (h:IsD w (.slice a l.length cap) (pastsD l)) (hk:k≤l.length):IsD w (sliced a 0 k cap 12) (pastsD (l.take k)):=by
 obtain⟨a',cap',he,h1,h2,h⟩:=IsD.parts (c:=12) (n:=l.length) h
 obtain⟨rfl,rfl⟩:a=a'∧cap=cap':=by simpa using he
 unfold sliced pastsD
 rw [List.length_take,Nat.min_eq_left hk]
 refine IsD.of_parts (by omega) (by omega) ?_
 by_cases hn:k=0
 ·exact .inl (by omega)
 ·refine .inr ?_
  obtain⟨b,off,rfl,hb,hc⟩:=h.resolve_left (by omega)
  rw [if_neg (by omega)]
  refine⟨b,off,by simp [Addr.add_lit],hb,fun j hj=> ?_⟩
  obtain⟨u,hu,hd⟩:=hc j (by omega)
  refine⟨u,hu,?_⟩
  have e:pastsD_f (l.take k) j=pastsD_f l j:=by
   show(psAt (l.take k) (j/12)).cell (j%12)=_
   rw [psAt_take (by omega)]
   rfl
  rw [e]
  exact hd
theorem run_cutTo (a:Option Addr) (n cap k:Nat) (hk:k≤cap) (w:World):(Instr.sliceAt 95 (.slice a n cap) none (some (.int .i64 (k:Int))) none).run Tryz.prog w= .ok (sliced a 0 k cap 12) w:=by
 obtain⟨i0,hi,hz0,hz1,hz2⟩:=info_parts infoPQ
 have hu:Tryz.prog.underlying 95=some (.slice (Tryz.prog.elem 95)):=by kernel_rfl
 have he:Tryz.prog.elem 95=115:=by kernel_rfl
 rw [run_sliceAt_slice (h:=hu),run_slice_h (ht:=hu) (h0:=by omega) (h2:=by omega),he]
 simp [sizeOf,typeInfo,hi,hz1]
end Go.Proofs.YtmobiieoecjmdaaGreat

