/- The specification's copy of any kernel. -/
import Derived.Test.YtghndljgadpijaaGreatExactCollectG01
import Derived.Test.YtghndljgadpijaaGreatExactCollectG36
import Derived.Test.YtghndljgadpijaaGreatExactCollectLKOm
import Derived.Test.YtghndljgadpijaaGreatExactCollectLPOwn
import Derived.ArgAppend
import Derived.Deep.CutBlock
namespace Go.Proofs.YtghndljgadpijaaGreat
open Go.RowKit
theorem za6 {P:Program} {md:Region.Mode} {ops:Array Oper} {Q:Exit→Act→World→Prop} {S:World→Prop} {z fuel:Nat} {listed:Array Bool} {a:Act} {w:World} (i:Nat) (oi:Oper) (v:Value)
  (h:yxu P md ops Q S z fuel (listed.setIfInBounds i true) (a.put oi.dst v) w) (hi:ops[i]? =some oi:=by rfl)
  (hs:Region.noSelect ops=true:=by kernel_rfl) (hf:Region.free md ops listed i=true:=by kernel_rfl) (hr:(Region.ready md ops listed).contains i=true:=by kernel_rfl)
  (hc:yzw md ops i z [i]=true:=by kernel_rfl) (hu: [i].all (fun p=> !listed.getD p true)=true:=by kernel_rfl)
  (hQ:∀c a w,Q (.panic c) (a.put oi.dst v) w→Q (.panic c) a w:=by exact fun _ _ _ h=>h)
  (hy:YieldsIf P ops S oi v a:=by exact Or.inl ⟨by rfl,by(intro wX hSw;(try dsimp only at hSw);go_simp;(try exact IntWalk.i64_in _ (by omega)))⟩) (hS:S w:=by assumption):yxu P md ops Q S z (fuel+1) listed a w:=
  ywk i [] hi hs hf hr hc hu hQ hy hS h
theorem yxb {p:Prop} (h:p):Hid p:=h
def yw2 (n:Nat):Array Bool:=(Array.range 27).map fun i=>n.testBit i
theorem zn1 {P:Program} {ops:Array Oper} {Q:Exit→Act→World→Prop} {md:Region.Mode} {S:World→Prop} {z fuel:Nat} {listed:Array Bool} {a:Act} {w:World} (h:∀G:Nat→Array Bool→Act→World→Prop,G=yxu P md ops Q S z→G fuel listed a w):yxu P md ops Q S z fuel listed a w:=h _ rfl
theorem ye9 {P:Program} {ops:Array Oper} {Q:Exit→Act→World→Prop} {md:Region.Mode} {S:World→Prop} {z fuel:Nat} {l l':Array Bool} {a:Act} {w:World} (h:l=l') (H:yxu P md ops Q S z fuel l' a w):yxu P md ops Q S z fuel l a w:=h▸H
theorem ywg {W:World} {b:Nat} {T:TypeId} {z0 z1 z2 z3 z4 z5 z6 z7 z8 z9 z10 z11 z12 z13:Value} (h:Bk W b T #[z0,z1,z2,z3,z4,z5,z6,z7,z8,z9,z10,z11,z12,z13]):W.cell? ⟨b,0,none⟩=some z0∧W.cell? ⟨b,1,none⟩=some z1∧W.cell? ⟨b,2,none⟩=some z2∧W.cell? ⟨b,3,none⟩=some z3∧W.cell? ⟨b,4,none⟩=some z4∧W.cell? ⟨b,5,none⟩=some z5∧W.cell? ⟨b,6,none⟩=some z6∧W.cell? ⟨b,8,none⟩=some z8∧W.cell? ⟨b,9,none⟩=some z9∧W.cell? ⟨b,10,none⟩=some z10∧W.cell? ⟨b,11,none⟩=some z11∧W.cell? ⟨b,12,none⟩=some z12∧W.cell? ⟨b,13,none⟩=some z13:=⟨h.cell (i:=0) rfl,h.cell (i:=1) rfl,h.cell (i:=2) rfl,h.cell (i:=3) rfl,h.cell (i:=4) rfl,h.cell (i:=5) rfl,h.cell (i:=6) rfl,h.cell (i:=8) rfl,h.cell (i:=9) rfl,h.cell (i:=10) rfl,h.cell (i:=11) rfl,h.cell (i:=12) rfl,h.cell (i:=13) rfl⟩
theorem zox {P:Program} {ops:Array Oper} {o:Oper} {a:Act} {w:World} {K:Act→World→Prop} {Q:Exit→Act→World→Prop} {E:Prop}
    (hg:o.guard=none) (s x:Operand) (t:TypeId) (hop:o.op=Op.call {callee:=Callee.builtin Builtin.append,args:= #[s,x],argTypes:= #[t,t]})
    (e:TypeId) (i:TypeInfo) (z:Value) (size bytes:Nat) (h1:P.underlying t=some (.slice e)) (h2:P.info? e=some i) (h3:i.zero=some z) (h4:i.size=size) (h5:i.bytes=bytes) (h6:z.cells.size=size) (h7:0<size)
    (g:Nat) (hs:a.eval s= .slice (some ⟨g,0,none⟩) 0 0) (u:Value) (m:Nat) (news:List Value) (hx:a.eval x=u) (hc:SrcC w u size m news) (hm:0<m) (b1:m≤maxLen) (b2:m*bytes≤140737488355328)
    (hK:∀v' w',w'.ownsRow w.heap.size e size v' m news→Below w.heap.size w w'→K (a.put o.dst v') w'):
    if Region.wanted o (yielded ops a.tmps)=true then Oper.wp P o a w K Q else E:=by
  have hw:Region.wanted o (yielded ops a.tmps)=true:=by simp [Region.wanted,hg]
  rw [if_pos hw]
  obtain⟨hn,au,c,rfl,hc⟩:=hc
  obtain⟨b,off,rfl,hlt,hcc⟩:=hc.resolve_left (by omega)
  obtain⟨v',w',hrun,r1,r2⟩:=run_append_arg_grows (P:=P) w t o.type e i z size bytes h1 h2 h3 h4 h5 h6 h7 ⟨g,0,none⟩ 0 0 [] (by simp) (fun j u hu=>by simp at hu) ⟨b,off,none⟩ m c news hn (fun j u hu=>by
    have hj:j<m*size:=by rw [←hn];exact(List.getElem?_eq_some_iff.1 hu).1
    rw [Addr.add_lit,hcc j hj]
    exact hu) (by omega) (by omega) (by rw [Nat.zero_add];exact b2)
  rw [Nat.zero_add,List.nil_append]at r1
  unfold Oper.wp
  simp [execOp,hop,resolve,invoke,builtin,hs,hx,hrun,Result.andThen]
  exact hK v' w' r1 ((Below.refl _ w).grown r2 (Nat.le_refl _) (fun k e=>by cases e))
theorem zd3 {B:Nat} {e:TypeId} {size n:Nat} {w:World} {a:Option Addr} {l c:Nat} {xs:List Value} (h:w.ownsRow B e size (.slice a l c) n xs):c≤maxLen:=by
  obtain⟨_,⟨h1,_⟩|⟨g,cap,cur,h1,_,_,_,h2,_⟩⟩:=h
  · cases h1;exact Nat.zero_le _
  · cases h1;exact h2
theorem ps_form {w:World} {ap:Option Addr} {cp N:Nat} {l:List Pa} (hl:l.length=N) (h:IsD w (.slice ap N cp) (ywo l)):N=0∨ ∃b off,ap=some ⟨b,off,none⟩∧b<w.heap.size∧ ∀j,j<N*7→ ∃u,w.cell? ⟨b,off+j,none⟩=some u∧IsD w u ((paAt l (j/7)).cell (j%7)):=by
  subst hl
  obtain⟨a,cap,he,_,_,h9⟩:=IsD.parts (c:=7) (n:=l.length) h
  cases he
  exact h9
theorem zgl:(Tryz.prog.info? 152).map (fun i=>(i.zero,i.size,i.bytes))=some (some (.agg #[.int .i64 0,.int .i64 0,.int .i64 0,.int .i64 0,.int .i64 0,.int .i64 0,.int .i64 0,.bool false]),8,64):=by kernel_rfl
theorem zoj:(Tryz.prog.info? 166).map (fun i=>(i.zero,i.size,i.bytes))=some (some (.agg #[.int .i64 0,.int .i64 0,.int .i64 0]),3,24):=by kernel_rfl
def OwnN (B:Nat) (e:TypeId) (size:Nat) (w:World) (v:Value) (n:Nat) (xs:List Value):Prop:=∃a c,v= .slice a n c∧c≤maxLen∧(n=0∨w.ownsRow B e size v n xs)
theorem OwnN.turns {S:Nat→Prop} {B:Nat} {e T:TypeId} {size:Nat} {w w':World} {v:Value} {n:Nat} {xs:List Value} (h:OwnN B e size w v n xs) (ht:Turns S w w') (hS:∀j,S j→ ∃vs,Bk w j T vs) (hT:T≠e):OwnN B e size w' v n xs:=by
  obtain⟨a,c,h1,h2,h3⟩:=h
  refine⟨a,c,h1,h2,h3.imp id fun h=>yfa h ht fun j hj hs=> ?_⟩
  obtain⟨vs,hk⟩:=hS j hs
  exact yx1 h hk hT hj
theorem OwnN.below {B:Nat} {e:TypeId} {size:Nat} {w w':World} {v:Value} {n:Nat} {xs:List Value} (h:OwnN B e size w v n xs) (hb:Below w.heap.size w w'):OwnN B e size w' v n xs:=by
  obtain⟨a,c,h1,h2,h3⟩:=h
  exact⟨a,c,h1,h2,h3.imp id fun h=>owB h hb⟩
theorem OwnN.own {B:Nat} {e:TypeId} {size:Nat} {w:World} {v:Value} {n:Nat} {xs:List Value} (h:OwnN B e size w v n xs) (hl:xs.length=n*size):∃A:Nat→Prop,OwnD w A v (flat size n xs)∧ ∀j,A j→B≤j∧j<w.heap.size∧ ∃vs,Bk w j e vs:=by
  obtain⟨a,c,rfl,h2,rfl|h⟩:=h
  · exact⟨fun _=>False,.nil _ _ _ _ _ h2,fun _ h=>h.elim⟩
  · refine⟨_,(RowF.ownB hl h).own,fun j hj=>⟨yxd h hj,owns_lt h hj,?_⟩⟩
    obtain⟨_,⟨h9,_⟩|⟨g,cap,cur,h9,_,hc,_⟩⟩:=h
    · rw [h9]at hj;simp [Value.ownBlock]at hj
    · rw [h9]at hj;simp [Value.ownBlock]at hj
      subst hj
      exact⟨_,hc⟩
theorem zay {w:World} {j:Nat} {T U:TypeId} (h:∃vs,Bk w j T vs) (k:∃vs,Bk w j U vs) (hT:T≠U):False:=by
  obtain⟨vs,h⟩:=h
  obtain⟨us,k⟩:=k
  exact Bk.neq h k hT rfl
theorem yyk {P:Program} {ops:Array Oper} {o:Oper} {a:Act} {w:World} {K:Act→World→Prop} {Q:Exit→Act→World→Prop} {E:Prop}
    (hg:o.guard=none) (s x:Operand) (t:TypeId) (hop:o.op=Op.call {callee:=Callee.builtin Builtin.append,args:= #[s,x],argTypes:= #[t,t]})
    (e:TypeId) (i:TypeInfo) (z:Value) (size bytes:Nat) (h1:P.underlying t=some (.slice e)) (h2:P.info? e=some i) (h3:i.zero=some z) (h4:i.size=size) (h5:i.bytes=bytes) (h6:z.cells.size=size) (h7:0<size)
    (g:Nat) (hs:a.eval s= .slice (some ⟨g,0,none⟩) 0 0) (u:Value) (m:Nat) (news:List Value) (hx:a.eval x=u) (hc:SrcC w u size m news) (b1:m≤maxLen) (b2:m*bytes≤140737488355328)
    (hK:∀av cv w',cv≤maxLen→(m=0∨w'.ownsRow w.heap.size e size (.slice av m cv) m news)→Below w.heap.size w w'→K (a.put o.dst (.slice av m cv)) w'):
    if Region.wanted o (yielded ops a.tmps)=true then Oper.wp P o a w K Q else E:=by
  rcases Nat.eq_zero_or_pos m with hm|hm
  · have hw:Region.wanted o (yielded ops a.tmps)=true:=by simp [Region.wanted,hg]
    rw [if_pos hw]
    subst hm
    obtain⟨_,au,c,rfl,_⟩:=hc
    have hr:(Builtin.append_ #[t,t] o.type #[.slice (some ⟨g,0,none⟩) 0 0,.slice au 0 c]).run P w= .ok (.slice (some ⟨g,0,none⟩) 0 0) w:=by
      cases au<;>simp [loadCells,loadCellsFrom,Builtin.append_,run_underlying h1,sizeOf,typeInfo,h2,Builtin.lenOf,Builtin.firstCells,storeCells]
    unfold Oper.wp execOp
    simp only [hop,resolve,invoke,builtin,Sem.run_bind,Sem.run_pure,Result.andThen_ok,List.map_toArray,List.map_cons,List.map_nil,hs,hx,hr]
    exact hK _ _ _ (Nat.zero_le _) (.inl rfl) (Below.refl _ w)
  · refine zox hg s x t hop e i z size bytes h1 h2 h3 h4 h5 h6 h7 g hs u m news hx hc hm b1 b2 fun v' w' ho hb=> ?_
    obtain⟨av,cv,rfl⟩:=yoj ho
    exact hK av cv w' (zd3 ho) (.inr ho) hb
def Fin5 (W0:World) (m:Md) (d:List Int) (kb:List Ml) (kt kq:Int) (kf:Bool) (ks:List Ev) (kx:List Em) (wf:World) (Kb:Nat):Prop:=∃n0 n1 avi cvi avh cvh avs cvs ad2 cd2 ab2 cb2 as2 cs2 ax2 cx2,(W0.heap.size≤n0∧W0.heap.size≤n1∧n1≤wf.heap.size)∧MdF (fun j=>n0≤j∧j<n1) wf (.agg #[.int .i64 m.n,.int .i64 m.s,.slice avi m.i.length cvi,.slice avh m.h.length cvh,.slice avs m.e.length cvs,.int .i64 m.z]) m∧OwnN n1 3 1 wf (.slice ad2 d.length cd2) d.length (intCells d)∧OwnN n1 152 8 wf (.slice ab2 kb.length cb2) kb.length (yx2 kb)∧OwnN n1 90 7 wf (.slice as2 ks.length cs2) ks.length (yvk ks)∧OwnN n1 166 3 wf (.slice ax2 kx.length cx2) kx.length (ywp kx)∧Bk wf Kb 41 #[.int .i64 m.n,.int .i64 m.s,.slice avi m.i.length cvi,.slice avh m.h.length cvh,.slice avs m.e.length cvs,.int .i64 m.z,.slice ad2 d.length cd2,.slice none 0 0,.slice ab2 kb.length cb2,.int .i64 kt,.int .i64 kq,.bool kf,.slice as2 ks.length cs2,.slice ax2 kx.length cx2]∧Below W0.heap.size W0 wf∧W0.heap.size≤Kb∧(Kb<n0∨n1≤Kb)
def act5 (m:Md) (d:List Int) (ai:Option Addr) (ci:Nat) (ah:Option Addr) (ch:Nat) (ae:Option Addr) (ce:Nat) (ad:Option Addr) (cd:Nat) (ap:Option Addr) (cp N:Nat) (ab:Option Addr) (cb:Nat) (asx:Option Addr) (csx:Nat) (ax:Option Addr) (cx:Nat) (kb:List Ml) (ks:List Ev) (kx:List Em) (kt kq:Int) (kf:Bool) (P Rb:Nat) (v3 v7 v8 v11 v12 v15 v24 v25 v28 v29:Value):Act:=⟨#[.agg #[.int .i64 m.n,.int .i64 m.s,.slice ai m.i.length ci,.slice ah m.h.length ch,.slice ae m.e.length ce,.int .i64 m.z,.slice ad d.length cd,.slice ap N cp,.slice ab kb.length cb,.int .i64 kt,.int .i64 kq,.bool kf,.slice asx ks.length csx,.slice ax kx.length cx],.pointer (some ⟨P,0,none⟩),.pointer (some ⟨Rb,0,none⟩),v3,undef,.pointer (some ⟨P,0,none⟩),.agg #[.int .i64 m.n,.int .i64 m.s,.slice ai m.i.length ci,.slice ah m.h.length ch,.slice ae m.e.length ce,.int .i64 m.z],v7,v8,.pointer (some ⟨P,6,none⟩),.slice ad d.length cd,v11,v12,.pointer (some ⟨P,8,none⟩),.slice ab kb.length cb,v15,.pointer (some ⟨P,9,none⟩),.int .i64 kt,.pointer (some ⟨P,10,none⟩),.int .i64 kq,.pointer (some ⟨P,11,none⟩),.bool kf,.pointer (some ⟨P,12,none⟩),.slice asx ks.length csx,v24,v25,.pointer (some ⟨P,13,none⟩),.slice ax kx.length cx,v28,v29,undef,undef,undef,undef,undef,undef,undef,undef,undef,undef,undef,undef,undef,undef,undef,undef,undef,undef,undef],[]⟩
set_option maxRecDepth 100000 in
set_option maxHeartbeats 64000000 in
theorem zm6 (m:Md) (d:List Int) (ai:Option Addr) (ci:Nat) (ah:Option Addr) (ch:Nat) (ae:Option Addr) (ce:Nat) (ad:Option Addr) (cd:Nat) (ap:Option Addr) (cp N:Nat) (ps:List Pa) (kb:List Ml) (kt kq:Int) (kf:Bool) (ks:List Ev) (kx:List Em) (ab:Option Addr) (cb:Nat) (asx:Option Addr) (csx:Nat) (ax:Option Addr) (cx:Nat) (w:World) (hsm:SmallM m) (hN:ps.length=N) (hN4:N≤1048576) (hlen:d.length≤1048577∧kb.length≤1048577∧ks.length≤1048577∧kx.length≤1048577) (hwt:∀i,i<N→(paAt ps i).wt≤1048577) (hM:IsM w (.agg #[.int .i64 m.n,.int .i64 m.s,.slice ai m.i.length ci,.slice ah m.h.length ch,.slice ae m.e.length ce,.int .i64 m.z]) m) (hD:IsD w (.slice ad d.length cd) (ywd d)) (hPs:IsD w (.slice ap N cp) (ywo ps)) (hBg:IsD w (.slice ab kb.length cb) (yx4 kb)) (hSu:IsD w (.slice asx ks.length csx) (evsD ks)) (hTo:IsD w (.slice ax kx.length cx) (emsD kx)):
    Calls Tryz.prog 38 #[.agg #[.int .i64 m.n,.int .i64 m.s,.slice ai m.i.length ci,.slice ah m.h.length ch,.slice ae m.e.length ce,.int .i64 m.z,.slice ad d.length cd,.slice ap N cp,.slice ab kb.length cb,.int .i64 kt,.int .i64 kq,.bool kf,.slice asx ks.length csx,.slice ax kx.length cx]] w fun e w'=>(∃y,e= .returned y∧KernF (fun j=>w.heap.size≤j∧j<w'.heap.size) w' y ⟨m,d,ps,kb,kt,kq,kf,ks,kx⟩)∧Below w.heap.size w w':=by
  have HM:=yxb hM
  have HSD:Hid (∀W,Below w.heap.size w W→SrcC W (.slice ad d.length cd) 1 d.length (intCells d)):=fun W hW=>(IsD.srcI hD).below hW
  have HSB:Hid (∀W,Below w.heap.size w W→SrcC W (.slice ab kb.length cb) 8 kb.length (yx2 kb)):=fun W hW=>(IsD.src hBg (yzk kb)).below hW
  have HSU:Hid (∀W,Below w.heap.size w W→SrcC W (.slice asx ks.length csx) 7 ks.length (yvk ks)):=fun W hW=>(IsD.srcEv hSu).below hW
  have HSX:Hid (∀W,Below w.heap.size w W→SrcC W (.slice ax kx.length cx) 3 kx.length (ywp kx)):=fun W hW=>(IsD.srcX hTo).below hW
  have HPS:=yxb hPs
  have HLN:=yxb hlen
  have HSM:Hid (SmallM m):=hsm
  have HQW:=yxb hwt
  have HNL:Hid (ps.length=N):=hN
  clear hM hD hPs hBg hSu hTo hN hsm hlen hwt
  obtain⟨Rb,hRb⟩:∃Rb,Rb=w.heap.size+1:=⟨_,rfl⟩
  obtain⟨W0,hW0⟩:∃W0,(w.alloc (.cells #[.int .i64 m.n,.int .i64 m.s,.slice ai m.i.length ci,.slice ah m.h.length ch,.slice ae m.e.length ce,.int .i64 m.z,.slice ad d.length cd,.slice ap N cp,.slice ab kb.length cb,.int .i64 kt,.int .i64 kq,.bool kf,.slice asx ks.length csx,.slice ax kx.length cx] 41)).alloc (.cells #[.int .i64 0,.int .i64 0,.slice none 0 0,.slice none 0 0,.slice none 0 0,.int .i64 0,.slice none 0 0,.slice none 0 0,.slice none 0 0,.int .i64 0,.int .i64 0,.bool false,.slice none 0 0,.slice none 0 0] 41)=W0:=⟨_,rfl⟩
  have HP0:=hdq (bkA2 hW0)
  have HR0:Hid (Bk W0 Rb 41 #[.int .i64 0,.int .i64 0,.slice none 0 0,.slice none 0 0,.slice none 0 0,.int .i64 0,.slice none 0 0,.slice none 0 0,.slice none 0 0,.int .i64 0,.int .i64 0,.bool false,.slice none 0 0,.slice none 0 0]):=by rw [←hW0];exact Bk.newAt (by simp [hRb]) _ _
  have HB0:=hdq (beA2 hW0)
  have HW0:=yxb hW0
  have HRB:=yxb hRb
  have hRw:w.heap.size<Rb:=by omega
  have hRW:Rb<W0.heap.size:=HR0.out.lt
  clear hW0 hRb
  go_enter Tryz.func38,Tryz.ntmps38
  go_upto_region 1 with fail
  rw [HW0.out,←HRB.out]
  clear HW0
  go_cut [3]from 4 (fun s3 wc=>∃Kb,s3= .pointer (some ⟨Kb,0,none⟩)∧Fin5 W0 m d kb kt kq kf ks kx wc Kb)
  case first=>
    refine yxa 26 (fun W=>W.cell? ⟨w.heap.size,0,none⟩=some (.int .i64 m.n)∧W.cell? ⟨w.heap.size,1,none⟩=some (.int .i64 m.s)∧W.cell? ⟨w.heap.size,2,none⟩=some (.slice ai m.i.length ci)∧W.cell? ⟨w.heap.size,3,none⟩=some (.slice ah m.h.length ch)∧W.cell? ⟨w.heap.size,4,none⟩=some (.slice ae m.e.length ce)∧W.cell? ⟨w.heap.size,5,none⟩=some (.int .i64 m.z)∧W.cell? ⟨w.heap.size,6,none⟩=some (.slice ad d.length cd)∧W.cell? ⟨w.heap.size,8,none⟩=some (.slice ab kb.length cb)∧W.cell? ⟨w.heap.size,9,none⟩=some (.int .i64 kt)∧W.cell? ⟨w.heap.size,10,none⟩=some (.int .i64 kq)∧W.cell? ⟨w.heap.size,11,none⟩=some (.bool kf)∧W.cell? ⟨w.heap.size,12,none⟩=some (.slice asx ks.length csx)∧W.cell? ⟨w.heap.size,13,none⟩=some (.slice ax kx.length cx)) (by kernel_rfl) (ywg HP0.out.drew) (fun hHeld=> ?_)
    have hBd:Below W0.heap.size W0 W0.drew:=(Below.refl _ W0).drew
    refine za6 0 {dst:=some 5,op:=Op.fieldAddr 41 (Operand.tmp 1) 0,type:=0,pos:=_,after:=_,guard:=none} (.pointer (some ⟨w.heap.size,0,none⟩)) ?_
    try simp only [Act.put,List.setIfInBounds_toArray,List.set_cons_zero,List.set_cons_succ]
    refine za6 1 {dst:=some 6,op:=Op.load 36 (Operand.tmp 5),type:=36,pos:=_,after:=_,guard:=none} (.agg #[.int .i64 m.n,.int .i64 m.s,.slice ai m.i.length ci,.slice ah m.h.length ch,.slice ae m.e.length ce,.int .i64 m.z]) ?_
    try simp only [Act.put,List.setIfInBounds_toArray,List.set_cons_zero,List.set_cons_succ]
    refine za6 4 {dst:=some 9,op:=Op.fieldAddr 41 (Operand.tmp 1) 1,type:=0,pos:=_,after:=_,guard:=none} (.pointer (some ⟨w.heap.size,6,none⟩)) ?_
    try simp only [Act.put,List.setIfInBounds_toArray,List.set_cons_zero,List.set_cons_succ]
    refine za6 5 {dst:=some 10,op:=Op.load 22 (Operand.tmp 9),type:=22,pos:=_,after:=_,guard:=none} (.slice ad d.length cd) ?_
    try simp only [Act.put,List.setIfInBounds_toArray,List.set_cons_zero,List.set_cons_succ]
    refine za6 8 {dst:=some 13,op:=Op.fieldAddr 41 (Operand.tmp 1) 3,type:=0,pos:=_,after:=_,guard:=none} (.pointer (some ⟨w.heap.size,8,none⟩)) ?_
    try simp only [Act.put,List.setIfInBounds_toArray,List.set_cons_zero,List.set_cons_succ]
    refine za6 9 {dst:=some 14,op:=Op.load 38 (Operand.tmp 13),type:=38,pos:=_,after:=_,guard:=none} (.slice ab kb.length cb) ?_
    try simp only [Act.put,List.setIfInBounds_toArray,List.set_cons_zero,List.set_cons_succ]
    refine za6 11 {dst:=some 16,op:=Op.fieldAddr 41 (Operand.tmp 1) 4,type:=0,pos:=_,after:=_,guard:=none} (.pointer (some ⟨w.heap.size,9,none⟩)) ?_
    try simp only [Act.put,List.setIfInBounds_toArray,List.set_cons_zero,List.set_cons_succ]
    refine za6 12 {dst:=some 17,op:=Op.load 3 (Operand.tmp 16),type:=3,pos:=_,after:=_,guard:=none} (.int .i64 kt) ?_
    try simp only [Act.put,List.setIfInBounds_toArray,List.set_cons_zero,List.set_cons_succ]
    refine za6 13 {dst:=some 18,op:=Op.fieldAddr 41 (Operand.tmp 1) 5,type:=0,pos:=_,after:=_,guard:=none} (.pointer (some ⟨w.heap.size,10,none⟩)) ?_
    try simp only [Act.put,List.setIfInBounds_toArray,List.set_cons_zero,List.set_cons_succ]
    refine za6 14 {dst:=some 19,op:=Op.load 3 (Operand.tmp 18),type:=3,pos:=_,after:=_,guard:=none} (.int .i64 kq) ?_
    try simp only [Act.put,List.setIfInBounds_toArray,List.set_cons_zero,List.set_cons_succ]
    refine za6 15 {dst:=some 20,op:=Op.fieldAddr 41 (Operand.tmp 1) 6,type:=0,pos:=_,after:=_,guard:=none} (.pointer (some ⟨w.heap.size,11,none⟩)) ?_
    try simp only [Act.put,List.setIfInBounds_toArray,List.set_cons_zero,List.set_cons_succ]
    refine za6 16 {dst:=some 21,op:=Op.load 4 (Operand.tmp 20),type:=4,pos:=_,after:=_,guard:=none} (.bool kf) ?_
    try simp only [Act.put,List.setIfInBounds_toArray,List.set_cons_zero,List.set_cons_succ]
    refine za6 17 {dst:=some 22,op:=Op.fieldAddr 41 (Operand.tmp 1) 7,type:=0,pos:=_,after:=_,guard:=none} (.pointer (some ⟨w.heap.size,12,none⟩)) ?_
    try simp only [Act.put,List.setIfInBounds_toArray,List.set_cons_zero,List.set_cons_succ]
    refine za6 18 {dst:=some 23,op:=Op.load 34 (Operand.tmp 22),type:=34,pos:=_,after:=_,guard:=none} (.slice asx ks.length csx) ?_
    try simp only [Act.put,List.setIfInBounds_toArray,List.set_cons_zero,List.set_cons_succ]
    refine za6 21 {dst:=some 26,op:=Op.fieldAddr 41 (Operand.tmp 1) 8,type:=0,pos:=_,after:=_,guard:=none} (.pointer (some ⟨w.heap.size,13,none⟩)) ?_
    try simp only [Act.put,List.setIfInBounds_toArray,List.set_cons_zero,List.set_cons_succ]
    refine za6 22 {dst:=some 27,op:=Op.load 39 (Operand.tmp 26),type:=39,pos:=_,after:=_,guard:=none} (.slice ax kx.length cx) ?_
    try simp only [Act.put,List.setIfInBounds_toArray,List.set_cons_zero,List.set_cons_succ]
    refine ye9 (l':=(yw2 6814515)) (by kernel_rfl) ?_
    refine zn1 (fun G hG=> ?_)
    have HGE:Hid (G=_):=hG
    clear hG hHeld
    have st51111:Hid (∀(W:World) (n0 n1:Nat) (avi:Option Addr) (cvi:Nat) (avh:Option Addr) (cvh:Nat) (avs:Option Addr) (cvs:Nat) (g8:Nat) (ad2:Option Addr) (cd2:Nat) (g12:Nat) (ab2:Option Addr) (cb2:Nat) (as2:Option Addr) (cs2:Nat) (ax2:Option Addr) (cx2:Nat) (g25:Nat) (Kb:Nat),Below W0.heap.size W0 W→(MdF (fun j=>n0≤j∧j<n1) W (.agg #[.int .i64 m.n,.int .i64 m.s,.slice avi m.i.length cvi,.slice avh m.h.length cvh,.slice avs m.e.length cvs,.int .i64 m.z]) m)→(W0.heap.size≤n0∧W0.heap.size≤n1)→n1≤W.heap.size→OwnN n1 3 1 W (.slice ad2 d.length cd2) d.length (intCells d)→OwnN n1 152 8 W (.slice ab2 kb.length cb2) kb.length (yx2 kb)→OwnN n1 90 7 W (.slice as2 ks.length cs2) ks.length (yvk ks)→OwnN n1 166 3 W (.slice ax2 kx.length cx2) kx.length (ywp kx)→Bk W Kb 41 #[.int .i64 0,.int .i64 0,.slice none 0 0,.slice none 0 0,.slice none 0 0,.int .i64 0,.slice none 0 0,.slice none 0 0,.slice none 0 0,.int .i64 0,.int .i64 0,.bool false,.slice none 0 0,.slice none 0 0]→W0.heap.size≤Kb→(Kb<n0∨n1≤Kb)→G 1 (yw2 67108863) (act5 m d ai ci ah ch ae ce ad cd ap cp N ab cb asx csx ax cx kb ks kx kt kq kf w.heap.size Rb (.pointer (some ⟨Kb,0,none⟩)) (.agg #[.int .i64 m.n,.int .i64 m.s,.slice avi m.i.length cvi,.slice avh m.h.length cvh,.slice avs m.e.length cvs,.int .i64 m.z]) (.slice (some ⟨g8,0,none⟩) 0 0) (.slice ad2 d.length cd2) (.slice (some ⟨g12,0,none⟩) 0 0) (.slice ab2 kb.length cb2) (.slice as2 ks.length cs2) (.slice (some ⟨g25,0,none⟩) 0 0) (.slice ax2 kx.length cx2) (.agg #[.int .i64 m.n,.int .i64 m.s,.slice avi m.i.length cvi,.slice avh m.h.length cvh,.slice avs m.e.length cvs,.int .i64 m.z,.slice ad2 d.length cd2,.slice none 0 0,.slice ab2 kb.length cb2,.int .i64 kt,.int .i64 kq,.bool kf,.slice as2 ks.length cs2,.slice ax2 kx.length cx2])) W):=by
      intro W n0 n1 avi cvi avh cvh avs cvs g8 ad2 cd2 g12 ab2 cb2 as2 cs2 ax2 cx2 g25 Kb hB hM hn0 hn1 hD hG hU hT hY hKw hKM
      rw [HGE.out]
      unfold act5
      refine yag (rs:= [26]) (by kernel_rfl) (by simp) ?_
      refine AllReadyZ.last rfl (fun K hK=> ?_)
      obtain⟨k0,k1,k2,k3,k4,k5,k6,k7,k8,k9,k10,k11,k12,k13⟩:=ywj hY
      have kfz:=hY.free
      obtain⟨wf,hwf⟩:∃X,put14 W Kb (.int .i64 m.n) (.int .i64 m.s) (.slice avi m.i.length cvi) (.slice avh m.h.length cvh) (.slice avs m.e.length cvs) (.int .i64 m.z) (.slice ad2 d.length cd2) (.slice none 0 0) (.slice ab2 kb.length cb2) (.int .i64 kt) (.int .i64 kq) (.bool kf) (.slice as2 ks.length cs2) (.slice ax2 kx.length cx2)=X:=⟨_,rfl⟩
      have ht:Turns (fun j=>j=Kb) W wf:=hwf▸yyt _ _ _ _ _ _ _ _ _ _ _ _ _ _ _ _
      have HFN:Hid (Fin5 W0 m d kb kt kq kf ks kx wf Kb):=⟨n0,n1,avi,cvi,avh,cvh,avs,cvs,_,_,_,_,_,_,_,_,⟨hn0.1,hn0.2,Nat.le_trans hn1 ht.size⟩,hM.turns ht (fun j hj e=>by omega),hD.turns ht (fun _ e=>⟨_,e▸hY⟩) (by decide),hG.turns ht (fun _ e=>⟨_,e▸hY⟩) (by decide),hU.turns ht (fun _ e=>⟨_,e▸hY⟩) (by decide),hT.turns ht (fun _ e=>⟨_,e▸hY⟩) (by decide),hwf▸hY.put14 _ _ _ _ _ _ _ _ _ _ _ _ _ _,hB.trans (ht.to_below (fun j hj=>by omega) hB.size),hKw,hKM⟩
      unfold put14 at hwf
      have HWF:Hid _:=hwf
      clear hwf ht hM hD hG hU hT hY hB
      go_simp
      rw [HWF.out]
      clear HWF k0 k1 k2 k3 k4 k5 k6 k7 k8 k9 k10 k11 k12 k13 kfz
      refine hK.out _ _ ?_
      clear hK K
      try simp only [Act.put,List.setIfInBounds_toArray,List.set_cons_zero,List.set_cons_succ]
      refine ywa (by kernel_rfl) ?_ _
      try go_wp2_with fail
      go_meet
      case rel=>exact⟨Kb,rfl,HFN.out⟩
    have st51110:Hid (∀(W:World) (n0 n1:Nat) (avi:Option Addr) (cvi:Nat) (avh:Option Addr) (cvh:Nat) (avs:Option Addr) (cvs:Nat) (g8:Nat) (ad2:Option Addr) (cd2:Nat) (g12:Nat) (ab2:Option Addr) (cb2:Nat) (as2:Option Addr) (cs2:Nat) (ax2:Option Addr) (cx2:Nat) (g25:Nat),Below W0.heap.size W0 W→(MdF (fun j=>n0≤j∧j<n1) W (.agg #[.int .i64 m.n,.int .i64 m.s,.slice avi m.i.length cvi,.slice avh m.h.length cvh,.slice avs m.e.length cvs,.int .i64 m.z]) m)→(W0.heap.size≤n0∧W0.heap.size≤n1)→n1≤W.heap.size→OwnN n1 3 1 W (.slice ad2 d.length cd2) d.length (intCells d)→OwnN n1 152 8 W (.slice ab2 kb.length cb2) kb.length (yx2 kb)→OwnN n1 90 7 W (.slice as2 ks.length cs2) ks.length (yvk ks)→OwnN n1 166 3 W (.slice ax2 kx.length cx2) kx.length (ywp kx)→G 2 (yw2 33554431) (act5 m d ai ci ah ch ae ce ad cd ap cp N ab cb asx csx ax cx kb ks kx kt kq kf w.heap.size Rb undef (.agg #[.int .i64 m.n,.int .i64 m.s,.slice avi m.i.length cvi,.slice avh m.h.length cvh,.slice avs m.e.length cvs,.int .i64 m.z]) (.slice (some ⟨g8,0,none⟩) 0 0) (.slice ad2 d.length cd2) (.slice (some ⟨g12,0,none⟩) 0 0) (.slice ab2 kb.length cb2) (.slice as2 ks.length cs2) (.slice (some ⟨g25,0,none⟩) 0 0) (.slice ax2 kx.length cx2) (.agg #[.int .i64 m.n,.int .i64 m.s,.slice avi m.i.length cvi,.slice avh m.h.length cvh,.slice avs m.e.length cvs,.int .i64 m.z,.slice ad2 d.length cd2,.slice none 0 0,.slice ab2 kb.length cb2,.int .i64 kt,.int .i64 kq,.bool kf,.slice as2 ks.length cs2,.slice ax2 kx.length cx2])) W):=by
      intro W n0 n1 avi cvi avh cvh avs cvs g8 ad2 cd2 g12 ab2 cb2 as2 cs2 ax2 cx2 g25 hB hM hn0 hn1 hD hG hU hT
      rw [HGE.out]
      unfold act5
      refine yag (rs:= [25]) (by kernel_rfl) (by simp) ?_
      refine AllReadyZ.cons (i:=25) rfl (fun K hKK=> ?_) AllReadyZ.nil
      · obtain⟨Kb,V,HX,HV,hb,hk⟩:=yw1 W #[.int .i64 0,.int .i64 0,.slice none 0 0,.slice none 0 0,.slice none 0 0,.int .i64 0,.slice none 0 0,.slice none 0 0,.slice none 0 0,.int .i64 0,.int .i64 0,.bool false,.slice none 0 0,.slice none 0 0] 41
        go_simp
        rw [HV.out,←HX.out]
        have hB':Below W0.heap.size W0 V:=trm hB hb
        refine hKK.out _ _ (ywg (HP0.out.below hB')) (fun hHeld=> ?_)
        try simp only [Act.put,List.setIfInBounds_toArray]
        try simp only [List.set_cons_succ]
        try simp only [List.set_cons_zero]
        refine ye9 (l':=(yw2 67108863)) (by kernel_rfl) ?_
        rw [←HGE.out]
        exact st51111.out V n0 n1 avi cvi avh cvh avs cvs g8 ad2 cd2 g12 ab2 cb2 as2 cs2 ax2 cx2 g25 Kb hB' (hM.below hb) hn0 (Nat.le_trans hn1 hb.size) (hD.below hb) (hG.below hb) (hU.below hb) (hT.below hb) hk (HX.out▸hB.size) (.inr (HX.out▸hn1))
    have st41111:Hid (∀(W:World) (n0 n1:Nat) (avi:Option Addr) (cvi:Nat) (avh:Option Addr) (cvh:Nat) (avs:Option Addr) (cvs:Nat) (g8:Nat) (ad2:Option Addr) (cd2:Nat) (g12:Nat) (ab2:Option Addr) (cb2:Nat) (as2:Option Addr) (cs2:Nat) (g25:Nat) (Kb:Nat),Below W0.heap.size W0 W→(MdF (fun j=>n0≤j∧j<n1) W (.agg #[.int .i64 m.n,.int .i64 m.s,.slice avi m.i.length cvi,.slice avh m.h.length cvh,.slice avs m.e.length cvs,.int .i64 m.z]) m)→(W0.heap.size≤n0∧W0.heap.size≤n1)→n1≤W.heap.size→OwnN n1 3 1 W (.slice ad2 d.length cd2) d.length (intCells d)→OwnN n1 152 8 W (.slice ab2 kb.length cb2) kb.length (yx2 kb)→OwnN n1 90 7 W (.slice as2 ks.length cs2) ks.length (yvk ks)→Bk W Kb 41 #[.int .i64 0,.int .i64 0,.slice none 0 0,.slice none 0 0,.slice none 0 0,.int .i64 0,.slice none 0 0,.slice none 0 0,.slice none 0 0,.int .i64 0,.int .i64 0,.bool false,.slice none 0 0,.slice none 0 0]→W0.heap.size≤Kb→(Kb<n0∨n1≤Kb)→G 3 (yw2 41943039) (act5 m d ai ci ah ch ae ce ad cd ap cp N ab cb asx csx ax cx kb ks kx kt kq kf w.heap.size Rb (.pointer (some ⟨Kb,0,none⟩)) (.agg #[.int .i64 m.n,.int .i64 m.s,.slice avi m.i.length cvi,.slice avh m.h.length cvh,.slice avs m.e.length cvs,.int .i64 m.z]) (.slice (some ⟨g8,0,none⟩) 0 0) (.slice ad2 d.length cd2) (.slice (some ⟨g12,0,none⟩) 0 0) (.slice ab2 kb.length cb2) (.slice as2 ks.length cs2) (.slice (some ⟨g25,0,none⟩) 0 0) undef undef) W):=by
      intro W n0 n1 avi cvi avh cvh avs cvs g8 ad2 cd2 g12 ab2 cb2 as2 cs2 g25 Kb hB hM hn0 hn1 hD hG hU hY hKw hKM
      rw [HGE.out]
      unfold act5
      refine yag (rs:= [23]) (by kernel_rfl) (by simp) ?_
      refine AllReadyZ.cons (i:=23) rfl (fun K hKK=> ?_) AllReadyZ.nil
      · obtain⟨i0,hi0,hz0,hz1,hz2⟩:=info_parts zoj
        refine yyk rfl (.tmp 25) (.tmp 27) 39 rfl 166 i0 (.agg #[.int .i64 0,.int .i64 0,.int .i64 0]) 3 24 Tryz.underlying39 hi0 hz0 hz1 hz2 rfl (by decide) g25 rfl (.slice ax kx.length cx) kx.length (ywp kx) rfl (HSX.out W (trm HB0.out hB)) (by unfold maxLen;have h9:=HLN.out;omega) (by have h9:=HLN.out;omega) ?_
        intro ax2 cx2 V hcap ho hb
        have hT9:OwnN n1 166 3 V (.slice ax2 kx.length cx2) kx.length (ywp kx):=⟨_,_,rfl,hcap,ho.imp id (fun h=>yvh h hn1)⟩
        have hB':Below W0.heap.size W0 V:=trm hB hb
        refine hKK.out _ _ (ywg (HP0.out.below hB')) (fun hHeld=> ?_)
        try simp only [Act.put,List.setIfInBounds_toArray]
        try simp only [List.set_cons_succ]
        try simp only [List.set_cons_zero]
        refine za6 24 {dst:=some 29,op:=Op.build 41 #[(0,Operand.tmp 7),(1,Operand.tmp 11),(3,Operand.tmp 15),(4,Operand.tmp 17),(5,Operand.tmp 19),(6,Operand.tmp 21),(7,Operand.tmp 24),(8,Operand.tmp 28)],type:=41,pos:=_,after:=_,guard:=none} ((.agg #[.int .i64 m.n,.int .i64 m.s,.slice avi m.i.length cvi,.slice avh m.h.length cvh,.slice avs m.e.length cvs,.int .i64 m.z,.slice ad2 d.length cd2,.slice none 0 0,.slice ab2 kb.length cb2,.int .i64 kt,.int .i64 kq,.bool kf,.slice as2 ks.length cs2,.slice ax2 kx.length cx2])) ?_
        try simp only [Act.put]
        refine ye9 (l':=(yw2 67108863)) (by kernel_rfl) ?_
        rw [←HGE.out]
        exact st51111.out V n0 n1 avi cvi avh cvh avs cvs g8 ad2 cd2 g12 ab2 cb2 as2 cs2 ax2 cx2 g25 Kb hB' (hM.below hb) hn0 (Nat.le_trans hn1 hb.size) (hD.below hb) (hG.below hb) (hU.below hb) hT9 (hY.below hb) hKw hKM
    have st31111:Hid (∀(W:World) (n0 n1:Nat) (avi:Option Addr) (cvi:Nat) (avh:Option Addr) (cvh:Nat) (avs:Option Addr) (cvs:Nat) (g8:Nat) (ad2:Option Addr) (cd2:Nat) (g12:Nat) (ab2:Option Addr) (cb2:Nat) (g25:Nat) (Kb:Nat),Below W0.heap.size W0 W→(MdF (fun j=>n0≤j∧j<n1) W (.agg #[.int .i64 m.n,.int .i64 m.s,.slice avi m.i.length cvi,.slice avh m.h.length cvh,.slice avs m.e.length cvs,.int .i64 m.z]) m)→(W0.heap.size≤n0∧W0.heap.size≤n1)→n1≤W.heap.size→OwnN n1 3 1 W (.slice ad2 d.length cd2) d.length (intCells d)→OwnN n1 152 8 W (.slice ab2 kb.length cb2) kb.length (yx2 kb)→Bk W Kb 41 #[.int .i64 0,.int .i64 0,.slice none 0 0,.slice none 0 0,.slice none 0 0,.int .i64 0,.slice none 0 0,.slice none 0 0,.slice none 0 0,.int .i64 0,.int .i64 0,.bool false,.slice none 0 0,.slice none 0 0]→W0.heap.size≤Kb→(Kb<n0∨n1≤Kb)→G 4 (yw2 41418751) (act5 m d ai ci ah ch ae ce ad cd ap cp N ab cb asx csx ax cx kb ks kx kt kq kf w.heap.size Rb (.pointer (some ⟨Kb,0,none⟩)) (.agg #[.int .i64 m.n,.int .i64 m.s,.slice avi m.i.length cvi,.slice avh m.h.length cvh,.slice avs m.e.length cvs,.int .i64 m.z]) (.slice (some ⟨g8,0,none⟩) 0 0) (.slice ad2 d.length cd2) (.slice (some ⟨g12,0,none⟩) 0 0) (.slice ab2 kb.length cb2) undef (.slice (some ⟨g25,0,none⟩) 0 0) undef undef) W):=by
      intro W n0 n1 avi cvi avh cvh avs cvs g8 ad2 cd2 g12 ab2 cb2 g25 Kb hB hM hn0 hn1 hD hG hY hKw hKM
      rw [HGE.out]
      unfold act5
      refine yag (rs:= [19]) (by kernel_rfl) (by simp) ?_
      refine AllReadyZ.cons (i:=19) rfl (fun K hKK=> ?_) AllReadyZ.nil
      · go_simp
        refine(yx5 _ ks W (by have h9:=HLN.out;omega) (HSU.out W (trm HB0.out hB))).mono ?_
        rintro e V ⟨y0,rfl,ho,hb⟩
        obtain⟨as2,cs2,rfl⟩:=yoj ho
        have hU9:OwnN n1 90 7 V (.slice as2 ks.length cs2) ks.length (yvk ks):=⟨_,_,rfl,zd3 ho,.inr (yvh ho hn1)⟩
        try go_simp
        have hB':Below W0.heap.size W0 V:=trm hB hb
        refine hKK.out _ _ (ywg (HP0.out.below hB')) (fun hHeld=> ?_)
        try simp only [Act.put,List.setIfInBounds_toArray]
        try simp only [List.set_cons_succ]
        try simp only [List.set_cons_zero]
        refine ye9 (l':=(yw2 41943039)) (by kernel_rfl) ?_
        rw [←HGE.out]
        exact st41111.out V n0 n1 avi cvi avh cvh avs cvs g8 ad2 cd2 g12 ab2 cb2 as2 cs2 g25 Kb hB' (hM.below hb) hn0 (Nat.le_trans hn1 hb.size) (hD.below hb) (hG.below hb) hU9 (hY.below hb) hKw hKM
    have st41101:Hid (∀(W:World) (n0 n1:Nat) (avi:Option Addr) (cvi:Nat) (avh:Option Addr) (cvh:Nat) (avs:Option Addr) (cvs:Nat) (g8:Nat) (ad2:Option Addr) (cd2:Nat) (g12:Nat) (ab2:Option Addr) (cb2:Nat) (as2:Option Addr) (cs2:Nat) (Kb:Nat),Below W0.heap.size W0 W→(MdF (fun j=>n0≤j∧j<n1) W (.agg #[.int .i64 m.n,.int .i64 m.s,.slice avi m.i.length cvi,.slice avh m.h.length cvh,.slice avs m.e.length cvs,.int .i64 m.z]) m)→(W0.heap.size≤n0∧W0.heap.size≤n1)→n1≤W.heap.size→OwnN n1 3 1 W (.slice ad2 d.length cd2) d.length (intCells d)→OwnN n1 152 8 W (.slice ab2 kb.length cb2) kb.length (yx2 kb)→OwnN n1 90 7 W (.slice as2 ks.length cs2) ks.length (yvk ks)→Bk W Kb 41 #[.int .i64 0,.int .i64 0,.slice none 0 0,.slice none 0 0,.slice none 0 0,.int .i64 0,.slice none 0 0,.slice none 0 0,.slice none 0 0,.int .i64 0,.int .i64 0,.bool false,.slice none 0 0,.slice none 0 0]→W0.heap.size≤Kb→(Kb<n0∨n1≤Kb)→G 4 (yw2 40894463) (act5 m d ai ci ah ch ae ce ad cd ap cp N ab cb asx csx ax cx kb ks kx kt kq kf w.heap.size Rb (.pointer (some ⟨Kb,0,none⟩)) (.agg #[.int .i64 m.n,.int .i64 m.s,.slice avi m.i.length cvi,.slice avh m.h.length cvh,.slice avs m.e.length cvs,.int .i64 m.z]) (.slice (some ⟨g8,0,none⟩) 0 0) (.slice ad2 d.length cd2) (.slice (some ⟨g12,0,none⟩) 0 0) (.slice ab2 kb.length cb2) (.slice as2 ks.length cs2) undef undef undef) W):=by
      intro W n0 n1 avi cvi avh cvh avs cvs g8 ad2 cd2 g12 ab2 cb2 as2 cs2 Kb hB hM hn0 hn1 hD hG hU hY hKw hKM
      rw [HGE.out]
      unfold act5
      refine yag (rs:= [20]) (by kernel_rfl) (by simp) ?_
      refine AllReadyZ.cons (i:=20) rfl (fun K hKK=> ?_) AllReadyZ.nil
      · obtain⟨g25,V,HX,HV,hb,hk⟩:=yw1 W #[] 166
        go_simp
        rw [HV.out,←HX.out]
        have hB':Below W0.heap.size W0 V:=trm hB hb
        refine hKK.out _ _ (ywg (HP0.out.below hB')) (fun hHeld=> ?_)
        try simp only [Act.put,List.setIfInBounds_toArray]
        try simp only [List.set_cons_succ]
        try simp only [List.set_cons_zero]
        refine ye9 (l':=(yw2 41943039)) (by kernel_rfl) ?_
        rw [←HGE.out]
        exact st41111.out V n0 n1 avi cvi avh cvh avs cvs g8 ad2 cd2 g12 ab2 cb2 as2 cs2 g25 Kb hB' (hM.below hb) hn0 (Nat.le_trans hn1 hb.size) (hD.below hb) (hG.below hb) (hU.below hb) (hY.below hb) hKw hKM
    have st41110:Hid (∀(W:World) (n0 n1:Nat) (avi:Option Addr) (cvi:Nat) (avh:Option Addr) (cvh:Nat) (avs:Option Addr) (cvs:Nat) (g8:Nat) (ad2:Option Addr) (cd2:Nat) (g12:Nat) (ab2:Option Addr) (cb2:Nat) (as2:Option Addr) (cs2:Nat) (g25:Nat),Below W0.heap.size W0 W→(MdF (fun j=>n0≤j∧j<n1) W (.agg #[.int .i64 m.n,.int .i64 m.s,.slice avi m.i.length cvi,.slice avh m.h.length cvh,.slice avs m.e.length cvs,.int .i64 m.z]) m)→(W0.heap.size≤n0∧W0.heap.size≤n1)→n1≤W.heap.size→OwnN n1 3 1 W (.slice ad2 d.length cd2) d.length (intCells d)→OwnN n1 152 8 W (.slice ab2 kb.length cb2) kb.length (yx2 kb)→OwnN n1 90 7 W (.slice as2 ks.length cs2) ks.length (yvk ks)→G 4 (yw2 8388607) (act5 m d ai ci ah ch ae ce ad cd ap cp N ab cb asx csx ax cx kb ks kx kt kq kf w.heap.size Rb undef (.agg #[.int .i64 m.n,.int .i64 m.s,.slice avi m.i.length cvi,.slice avh m.h.length cvh,.slice avs m.e.length cvs,.int .i64 m.z]) (.slice (some ⟨g8,0,none⟩) 0 0) (.slice ad2 d.length cd2) (.slice (some ⟨g12,0,none⟩) 0 0) (.slice ab2 kb.length cb2) (.slice as2 ks.length cs2) (.slice (some ⟨g25,0,none⟩) 0 0) undef undef) W):=by
      intro W n0 n1 avi cvi avh cvh avs cvs g8 ad2 cd2 g12 ab2 cb2 as2 cs2 g25 hB hM hn0 hn1 hD hG hU
      rw [HGE.out]
      unfold act5
      refine yag (rs:= [23,25]) (by kernel_rfl) (by simp) ?_
      refine AllReadyZ.cons (i:=23) rfl (fun K hKK=> ?_) (AllReadyZ.cons (i:=25) rfl (fun K hKK=> ?_) AllReadyZ.nil)
      · obtain⟨i0,hi0,hz0,hz1,hz2⟩:=info_parts zoj
        refine yyk rfl (.tmp 25) (.tmp 27) 39 rfl 166 i0 (.agg #[.int .i64 0,.int .i64 0,.int .i64 0]) 3 24 Tryz.underlying39 hi0 hz0 hz1 hz2 rfl (by decide) g25 rfl (.slice ax kx.length cx) kx.length (ywp kx) rfl (HSX.out W (trm HB0.out hB)) (by unfold maxLen;have h9:=HLN.out;omega) (by have h9:=HLN.out;omega) ?_
        intro ax2 cx2 V hcap ho hb
        have hT9:OwnN n1 166 3 V (.slice ax2 kx.length cx2) kx.length (ywp kx):=⟨_,_,rfl,hcap,ho.imp id (fun h=>yvh h hn1)⟩
        have hB':Below W0.heap.size W0 V:=trm hB hb
        refine hKK.out _ _ (ywg (HP0.out.below hB')) (fun hHeld=> ?_)
        try simp only [Act.put,List.setIfInBounds_toArray]
        try simp only [List.set_cons_succ]
        try simp only [List.set_cons_zero]
        refine za6 24 {dst:=some 29,op:=Op.build 41 #[(0,Operand.tmp 7),(1,Operand.tmp 11),(3,Operand.tmp 15),(4,Operand.tmp 17),(5,Operand.tmp 19),(6,Operand.tmp 21),(7,Operand.tmp 24),(8,Operand.tmp 28)],type:=41,pos:=_,after:=_,guard:=none} ((.agg #[.int .i64 m.n,.int .i64 m.s,.slice avi m.i.length cvi,.slice avh m.h.length cvh,.slice avs m.e.length cvs,.int .i64 m.z,.slice ad2 d.length cd2,.slice none 0 0,.slice ab2 kb.length cb2,.int .i64 kt,.int .i64 kq,.bool kf,.slice as2 ks.length cs2,.slice ax2 kx.length cx2])) ?_
        try simp only [Act.put]
        refine ye9 (l':=(yw2 33554431)) (by kernel_rfl) ?_
        rw [←HGE.out]
        exact st51110.out V n0 n1 avi cvi avh cvh avs cvs g8 ad2 cd2 g12 ab2 cb2 as2 cs2 ax2 cx2 g25 hB' (hM.below hb) hn0 (Nat.le_trans hn1 hb.size) (hD.below hb) (hG.below hb) (hU.below hb) hT9
      · obtain⟨Kb,V,HX,HV,hb,hk⟩:=yw1 W #[.int .i64 0,.int .i64 0,.slice none 0 0,.slice none 0 0,.slice none 0 0,.int .i64 0,.slice none 0 0,.slice none 0 0,.slice none 0 0,.int .i64 0,.int .i64 0,.bool false,.slice none 0 0,.slice none 0 0] 41
        go_simp
        rw [HV.out,←HX.out]
        have hB':Below W0.heap.size W0 V:=trm hB hb
        refine hKK.out _ _ (ywg (HP0.out.below hB')) (fun hHeld=> ?_)
        try simp only [Act.put,List.setIfInBounds_toArray]
        try simp only [List.set_cons_succ]
        try simp only [List.set_cons_zero]
        refine ye9 (l':=(yw2 41943039)) (by kernel_rfl) ?_
        rw [←HGE.out]
        exact st41111.out V n0 n1 avi cvi avh cvh avs cvs g8 ad2 cd2 g12 ab2 cb2 as2 cs2 g25 Kb hB' (hM.below hb) hn0 (Nat.le_trans hn1 hb.size) (hD.below hb) (hG.below hb) (hU.below hb) hk (HX.out▸hB.size) (.inr (HX.out▸hn1))
    have st21111:Hid (∀(W:World) (n0 n1:Nat) (avi:Option Addr) (cvi:Nat) (avh:Option Addr) (cvh:Nat) (avs:Option Addr) (cvs:Nat) (g8:Nat) (ad2:Option Addr) (cd2:Nat) (g12:Nat) (g25:Nat) (Kb:Nat),Below W0.heap.size W0 W→(MdF (fun j=>n0≤j∧j<n1) W (.agg #[.int .i64 m.n,.int .i64 m.s,.slice avi m.i.length cvi,.slice avh m.h.length cvh,.slice avs m.e.length cvs,.int .i64 m.z]) m)→(W0.heap.size≤n0∧W0.heap.size≤n1)→n1≤W.heap.size→OwnN n1 3 1 W (.slice ad2 d.length cd2) d.length (intCells d)→Bk W Kb 41 #[.int .i64 0,.int .i64 0,.slice none 0 0,.slice none 0 0,.slice none 0 0,.int .i64 0,.slice none 0 0,.slice none 0 0,.slice none 0 0,.int .i64 0,.int .i64 0,.bool false,.slice none 0 0,.slice none 0 0]→W0.heap.size≤Kb→(Kb<n0∨n1≤Kb)→G 5 (yw2 41417727) (act5 m d ai ci ah ch ae ce ad cd ap cp N ab cb asx csx ax cx kb ks kx kt kq kf w.heap.size Rb (.pointer (some ⟨Kb,0,none⟩)) (.agg #[.int .i64 m.n,.int .i64 m.s,.slice avi m.i.length cvi,.slice avh m.h.length cvh,.slice avs m.e.length cvs,.int .i64 m.z]) (.slice (some ⟨g8,0,none⟩) 0 0) (.slice ad2 d.length cd2) (.slice (some ⟨g12,0,none⟩) 0 0) undef undef (.slice (some ⟨g25,0,none⟩) 0 0) undef undef) W):=by
      intro W n0 n1 avi cvi avh cvh avs cvs g8 ad2 cd2 g12 g25 Kb hB hM hn0 hn1 hD hY hKw hKM
      rw [HGE.out]
      unfold act5
      refine yag (rs:= [10]) (by kernel_rfl) (by simp) ?_
      refine AllReadyZ.cons (i:=10) rfl (fun K hKK=> ?_) AllReadyZ.nil
      · obtain⟨i0,hi0,hz0,hz1,hz2⟩:=info_parts zgl
        refine yyk rfl (.tmp 12) (.tmp 14) 38 rfl 152 i0 (.agg #[.int .i64 0,.int .i64 0,.int .i64 0,.int .i64 0,.int .i64 0,.int .i64 0,.int .i64 0,.bool false]) 8 64 Tryz.underlying38 hi0 hz0 hz1 hz2 rfl (by decide) g12 rfl (.slice ab kb.length cb) kb.length (yx2 kb) rfl (HSB.out W (trm HB0.out hB)) (by unfold maxLen;have h9:=HLN.out;omega) (by have h9:=HLN.out;omega) ?_
        intro ab2 cb2 V hcap ho hb
        have hG9:OwnN n1 152 8 V (.slice ab2 kb.length cb2) kb.length (yx2 kb):=⟨_,_,rfl,hcap,ho.imp id (fun h=>yvh h hn1)⟩
        have hB':Below W0.heap.size W0 V:=trm hB hb
        refine hKK.out _ _ (ywg (HP0.out.below hB')) (fun hHeld=> ?_)
        try simp only [Act.put,List.setIfInBounds_toArray]
        try simp only [List.set_cons_succ]
        try simp only [List.set_cons_zero]
        refine ye9 (l':=(yw2 41418751)) (by kernel_rfl) ?_
        rw [←HGE.out]
        exact st31111.out V n0 n1 avi cvi avh cvh avs cvs g8 ad2 cd2 g12 ab2 cb2 g25 Kb hB' (hM.below hb) hn0 (Nat.le_trans hn1 hb.size) (hD.below hb) hG9 (hY.below hb) hKw hKM
    have st31101:Hid (∀(W:World) (n0 n1:Nat) (avi:Option Addr) (cvi:Nat) (avh:Option Addr) (cvh:Nat) (avs:Option Addr) (cvs:Nat) (g8:Nat) (ad2:Option Addr) (cd2:Nat) (g12:Nat) (ab2:Option Addr) (cb2:Nat) (Kb:Nat),Below W0.heap.size W0 W→(MdF (fun j=>n0≤j∧j<n1) W (.agg #[.int .i64 m.n,.int .i64 m.s,.slice avi m.i.length cvi,.slice avh m.h.length cvh,.slice avs m.e.length cvs,.int .i64 m.z]) m)→(W0.heap.size≤n0∧W0.heap.size≤n1)→n1≤W.heap.size→OwnN n1 3 1 W (.slice ad2 d.length cd2) d.length (intCells d)→OwnN n1 152 8 W (.slice ab2 kb.length cb2) kb.length (yx2 kb)→Bk W Kb 41 #[.int .i64 0,.int .i64 0,.slice none 0 0,.slice none 0 0,.slice none 0 0,.int .i64 0,.slice none 0 0,.slice none 0 0,.slice none 0 0,.int .i64 0,.int .i64 0,.bool false,.slice none 0 0,.slice none 0 0]→W0.heap.size≤Kb→(Kb<n0∨n1≤Kb)→G 5 (yw2 40370175) (act5 m d ai ci ah ch ae ce ad cd ap cp N ab cb asx csx ax cx kb ks kx kt kq kf w.heap.size Rb (.pointer (some ⟨Kb,0,none⟩)) (.agg #[.int .i64 m.n,.int .i64 m.s,.slice avi m.i.length cvi,.slice avh m.h.length cvh,.slice avs m.e.length cvs,.int .i64 m.z]) (.slice (some ⟨g8,0,none⟩) 0 0) (.slice ad2 d.length cd2) (.slice (some ⟨g12,0,none⟩) 0 0) (.slice ab2 kb.length cb2) undef undef undef undef) W):=by
      intro W n0 n1 avi cvi avh cvh avs cvs g8 ad2 cd2 g12 ab2 cb2 Kb hB hM hn0 hn1 hD hG hY hKw hKM
      rw [HGE.out]
      unfold act5
      refine yag (rs:= [19,20]) (by kernel_rfl) (by simp) ?_
      refine AllReadyZ.cons (i:=19) rfl (fun K hKK=> ?_) (AllReadyZ.cons (i:=20) rfl (fun K hKK=> ?_) AllReadyZ.nil)
      · go_simp
        refine(yx5 _ ks W (by have h9:=HLN.out;omega) (HSU.out W (trm HB0.out hB))).mono ?_
        rintro e V ⟨y0,rfl,ho,hb⟩
        obtain⟨as2,cs2,rfl⟩:=yoj ho
        have hU9:OwnN n1 90 7 V (.slice as2 ks.length cs2) ks.length (yvk ks):=⟨_,_,rfl,zd3 ho,.inr (yvh ho hn1)⟩
        try go_simp
        have hB':Below W0.heap.size W0 V:=trm hB hb
        refine hKK.out _ _ (ywg (HP0.out.below hB')) (fun hHeld=> ?_)
        try simp only [Act.put,List.setIfInBounds_toArray]
        try simp only [List.set_cons_succ]
        try simp only [List.set_cons_zero]
        refine ye9 (l':=(yw2 40894463)) (by kernel_rfl) ?_
        rw [←HGE.out]
        exact st41101.out V n0 n1 avi cvi avh cvh avs cvs g8 ad2 cd2 g12 ab2 cb2 as2 cs2 Kb hB' (hM.below hb) hn0 (Nat.le_trans hn1 hb.size) (hD.below hb) (hG.below hb) hU9 (hY.below hb) hKw hKM
      · obtain⟨g25,V,HX,HV,hb,hk⟩:=yw1 W #[] 166
        go_simp
        rw [HV.out,←HX.out]
        have hB':Below W0.heap.size W0 V:=trm hB hb
        refine hKK.out _ _ (ywg (HP0.out.below hB')) (fun hHeld=> ?_)
        try simp only [Act.put,List.setIfInBounds_toArray]
        try simp only [List.set_cons_succ]
        try simp only [List.set_cons_zero]
        refine ye9 (l':=(yw2 41418751)) (by kernel_rfl) ?_
        rw [←HGE.out]
        exact st31111.out V n0 n1 avi cvi avh cvh avs cvs g8 ad2 cd2 g12 ab2 cb2 g25 Kb hB' (hM.below hb) hn0 (Nat.le_trans hn1 hb.size) (hD.below hb) (hG.below hb) (hY.below hb) hKw hKM
    have st31110:Hid (∀(W:World) (n0 n1:Nat) (avi:Option Addr) (cvi:Nat) (avh:Option Addr) (cvh:Nat) (avs:Option Addr) (cvs:Nat) (g8:Nat) (ad2:Option Addr) (cd2:Nat) (g12:Nat) (ab2:Option Addr) (cb2:Nat) (g25:Nat),Below W0.heap.size W0 W→(MdF (fun j=>n0≤j∧j<n1) W (.agg #[.int .i64 m.n,.int .i64 m.s,.slice avi m.i.length cvi,.slice avh m.h.length cvh,.slice avs m.e.length cvs,.int .i64 m.z]) m)→(W0.heap.size≤n0∧W0.heap.size≤n1)→n1≤W.heap.size→OwnN n1 3 1 W (.slice ad2 d.length cd2) d.length (intCells d)→OwnN n1 152 8 W (.slice ab2 kb.length cb2) kb.length (yx2 kb)→G 5 (yw2 7864319) (act5 m d ai ci ah ch ae ce ad cd ap cp N ab cb asx csx ax cx kb ks kx kt kq kf w.heap.size Rb undef (.agg #[.int .i64 m.n,.int .i64 m.s,.slice avi m.i.length cvi,.slice avh m.h.length cvh,.slice avs m.e.length cvs,.int .i64 m.z]) (.slice (some ⟨g8,0,none⟩) 0 0) (.slice ad2 d.length cd2) (.slice (some ⟨g12,0,none⟩) 0 0) (.slice ab2 kb.length cb2) undef (.slice (some ⟨g25,0,none⟩) 0 0) undef undef) W):=by
      intro W n0 n1 avi cvi avh cvh avs cvs g8 ad2 cd2 g12 ab2 cb2 g25 hB hM hn0 hn1 hD hG
      rw [HGE.out]
      unfold act5
      refine yag (rs:= [19,25]) (by kernel_rfl) (by simp) ?_
      refine AllReadyZ.cons (i:=19) rfl (fun K hKK=> ?_) (AllReadyZ.cons (i:=25) rfl (fun K hKK=> ?_) AllReadyZ.nil)
      · go_simp
        refine(yx5 _ ks W (by have h9:=HLN.out;omega) (HSU.out W (trm HB0.out hB))).mono ?_
        rintro e V ⟨y0,rfl,ho,hb⟩
        obtain⟨as2,cs2,rfl⟩:=yoj ho
        have hU9:OwnN n1 90 7 V (.slice as2 ks.length cs2) ks.length (yvk ks):=⟨_,_,rfl,zd3 ho,.inr (yvh ho hn1)⟩
        try go_simp
        have hB':Below W0.heap.size W0 V:=trm hB hb
        refine hKK.out _ _ (ywg (HP0.out.below hB')) (fun hHeld=> ?_)
        try simp only [Act.put,List.setIfInBounds_toArray]
        try simp only [List.set_cons_succ]
        try simp only [List.set_cons_zero]
        refine ye9 (l':=(yw2 8388607)) (by kernel_rfl) ?_
        rw [←HGE.out]
        exact st41110.out V n0 n1 avi cvi avh cvh avs cvs g8 ad2 cd2 g12 ab2 cb2 as2 cs2 g25 hB' (hM.below hb) hn0 (Nat.le_trans hn1 hb.size) (hD.below hb) (hG.below hb) hU9
      · obtain⟨Kb,V,HX,HV,hb,hk⟩:=yw1 W #[.int .i64 0,.int .i64 0,.slice none 0 0,.slice none 0 0,.slice none 0 0,.int .i64 0,.slice none 0 0,.slice none 0 0,.slice none 0 0,.int .i64 0,.int .i64 0,.bool false,.slice none 0 0,.slice none 0 0] 41
        go_simp
        rw [HV.out,←HX.out]
        have hB':Below W0.heap.size W0 V:=trm hB hb
        refine hKK.out _ _ (ywg (HP0.out.below hB')) (fun hHeld=> ?_)
        try simp only [Act.put,List.setIfInBounds_toArray]
        try simp only [List.set_cons_succ]
        try simp only [List.set_cons_zero]
        refine ye9 (l':=(yw2 41418751)) (by kernel_rfl) ?_
        rw [←HGE.out]
        exact st31111.out V n0 n1 avi cvi avh cvh avs cvs g8 ad2 cd2 g12 ab2 cb2 g25 Kb hB' (hM.below hb) hn0 (Nat.le_trans hn1 hb.size) (hD.below hb) (hG.below hb) hk (HX.out▸hB.size) (.inr (HX.out▸hn1))
    have st41100:Hid (∀(W:World) (n0 n1:Nat) (avi:Option Addr) (cvi:Nat) (avh:Option Addr) (cvh:Nat) (avs:Option Addr) (cvs:Nat) (g8:Nat) (ad2:Option Addr) (cd2:Nat) (g12:Nat) (ab2:Option Addr) (cb2:Nat) (as2:Option Addr) (cs2:Nat),Below W0.heap.size W0 W→(MdF (fun j=>n0≤j∧j<n1) W (.agg #[.int .i64 m.n,.int .i64 m.s,.slice avi m.i.length cvi,.slice avh m.h.length cvh,.slice avs m.e.length cvs,.int .i64 m.z]) m)→(W0.heap.size≤n0∧W0.heap.size≤n1)→n1≤W.heap.size→OwnN n1 3 1 W (.slice ad2 d.length cd2) d.length (intCells d)→OwnN n1 152 8 W (.slice ab2 kb.length cb2) kb.length (yx2 kb)→OwnN n1 90 7 W (.slice as2 ks.length cs2) ks.length (yvk ks)→G 5 (yw2 7340031) (act5 m d ai ci ah ch ae ce ad cd ap cp N ab cb asx csx ax cx kb ks kx kt kq kf w.heap.size Rb undef (.agg #[.int .i64 m.n,.int .i64 m.s,.slice avi m.i.length cvi,.slice avh m.h.length cvh,.slice avs m.e.length cvs,.int .i64 m.z]) (.slice (some ⟨g8,0,none⟩) 0 0) (.slice ad2 d.length cd2) (.slice (some ⟨g12,0,none⟩) 0 0) (.slice ab2 kb.length cb2) (.slice as2 ks.length cs2) undef undef undef) W):=by
      intro W n0 n1 avi cvi avh cvh avs cvs g8 ad2 cd2 g12 ab2 cb2 as2 cs2 hB hM hn0 hn1 hD hG hU
      rw [HGE.out]
      unfold act5
      refine yag (rs:= [20,25]) (by kernel_rfl) (by simp) ?_
      refine AllReadyZ.cons (i:=20) rfl (fun K hKK=> ?_) (AllReadyZ.cons (i:=25) rfl (fun K hKK=> ?_) AllReadyZ.nil)
      · obtain⟨g25,V,HX,HV,hb,hk⟩:=yw1 W #[] 166
        go_simp
        rw [HV.out,←HX.out]
        have hB':Below W0.heap.size W0 V:=trm hB hb
        refine hKK.out _ _ (ywg (HP0.out.below hB')) (fun hHeld=> ?_)
        try simp only [Act.put,List.setIfInBounds_toArray]
        try simp only [List.set_cons_succ]
        try simp only [List.set_cons_zero]
        refine ye9 (l':=(yw2 8388607)) (by kernel_rfl) ?_
        rw [←HGE.out]
        exact st41110.out V n0 n1 avi cvi avh cvh avs cvs g8 ad2 cd2 g12 ab2 cb2 as2 cs2 g25 hB' (hM.below hb) hn0 (Nat.le_trans hn1 hb.size) (hD.below hb) (hG.below hb) (hU.below hb)
      · obtain⟨Kb,V,HX,HV,hb,hk⟩:=yw1 W #[.int .i64 0,.int .i64 0,.slice none 0 0,.slice none 0 0,.slice none 0 0,.int .i64 0,.slice none 0 0,.slice none 0 0,.slice none 0 0,.int .i64 0,.int .i64 0,.bool false,.slice none 0 0,.slice none 0 0] 41
        go_simp
        rw [HV.out,←HX.out]
        have hB':Below W0.heap.size W0 V:=trm hB hb
        refine hKK.out _ _ (ywg (HP0.out.below hB')) (fun hHeld=> ?_)
        try simp only [Act.put,List.setIfInBounds_toArray]
        try simp only [List.set_cons_succ]
        try simp only [List.set_cons_zero]
        refine ye9 (l':=(yw2 40894463)) (by kernel_rfl) ?_
        rw [←HGE.out]
        exact st41101.out V n0 n1 avi cvi avh cvh avs cvs g8 ad2 cd2 g12 ab2 cb2 as2 cs2 Kb hB' (hM.below hb) hn0 (Nat.le_trans hn1 hb.size) (hD.below hb) (hG.below hb) (hU.below hb) hk (HX.out▸hB.size) (.inr (HX.out▸hn1))
    have st11111:Hid (∀(W:World) (n0 n1:Nat) (avi:Option Addr) (cvi:Nat) (avh:Option Addr) (cvh:Nat) (avs:Option Addr) (cvs:Nat) (g8:Nat) (g12:Nat) (g25:Nat) (Kb:Nat),Below W0.heap.size W0 W→(MdF (fun j=>n0≤j∧j<n1) W (.agg #[.int .i64 m.n,.int .i64 m.s,.slice avi m.i.length cvi,.slice avh m.h.length cvh,.slice avs m.e.length cvs,.int .i64 m.z]) m)→(W0.heap.size≤n0∧W0.heap.size≤n1)→n1≤W.heap.size→Bk W Kb 41 #[.int .i64 0,.int .i64 0,.slice none 0 0,.slice none 0 0,.slice none 0 0,.int .i64 0,.slice none 0 0,.slice none 0 0,.slice none 0 0,.int .i64 0,.int .i64 0,.bool false,.slice none 0 0,.slice none 0 0]→W0.heap.size≤Kb→(Kb<n0∨n1≤Kb)→G 6 (yw2 41417663) (act5 m d ai ci ah ch ae ce ad cd ap cp N ab cb asx csx ax cx kb ks kx kt kq kf w.heap.size Rb (.pointer (some ⟨Kb,0,none⟩)) (.agg #[.int .i64 m.n,.int .i64 m.s,.slice avi m.i.length cvi,.slice avh m.h.length cvh,.slice avs m.e.length cvs,.int .i64 m.z]) (.slice (some ⟨g8,0,none⟩) 0 0) undef (.slice (some ⟨g12,0,none⟩) 0 0) undef undef (.slice (some ⟨g25,0,none⟩) 0 0) undef undef) W):=by
      intro W n0 n1 avi cvi avh cvh avs cvs g8 g12 g25 Kb hB hM hn0 hn1 hY hKw hKM
      rw [HGE.out]
      unfold act5
      refine yag (rs:= [6]) (by kernel_rfl) (by simp) ?_
      refine AllReadyZ.cons (i:=6) rfl (fun K hKK=> ?_) AllReadyZ.nil
      · obtain⟨i0,hi0,hz0,hz1,hz2⟩:=info_parts zbs
        refine yyk rfl (.tmp 8) (.tmp 10) 22 rfl 3 i0 (.int .i64 0) 1 8 Tryz.underlying22 hi0 hz0 hz1 hz2 rfl (by decide) g8 rfl (.slice ad d.length cd) d.length (intCells d) rfl (HSD.out W (trm HB0.out hB)) (by unfold maxLen;have h9:=HLN.out;omega) (by have h9:=HLN.out;omega) ?_
        intro ad2 cd2 V hcap ho hb
        have hD9:OwnN n1 3 1 V (.slice ad2 d.length cd2) d.length (intCells d):=⟨_,_,rfl,hcap,ho.imp id (fun h=>yvh h hn1)⟩
        have hB':Below W0.heap.size W0 V:=trm hB hb
        refine hKK.out _ _ (ywg (HP0.out.below hB')) (fun hHeld=> ?_)
        try simp only [Act.put,List.setIfInBounds_toArray]
        try simp only [List.set_cons_succ]
        try simp only [List.set_cons_zero]
        refine ye9 (l':=(yw2 41417727)) (by kernel_rfl) ?_
        rw [←HGE.out]
        exact st21111.out V n0 n1 avi cvi avh cvh avs cvs g8 ad2 cd2 g12 g25 Kb hB' (hM.below hb) hn0 (Nat.le_trans hn1 hb.size) hD9 (hY.below hb) hKw hKM
    have st21011:Hid (∀(W:World) (n0 n1:Nat) (avi:Option Addr) (cvi:Nat) (avh:Option Addr) (cvh:Nat) (avs:Option Addr) (cvs:Nat) (g8:Nat) (ad2:Option Addr) (cd2:Nat) (g25:Nat) (Kb:Nat),Below W0.heap.size W0 W→(MdF (fun j=>n0≤j∧j<n1) W (.agg #[.int .i64 m.n,.int .i64 m.s,.slice avi m.i.length cvi,.slice avh m.h.length cvh,.slice avs m.e.length cvs,.int .i64 m.z]) m)→(W0.heap.size≤n0∧W0.heap.size≤n1)→n1≤W.heap.size→OwnN n1 3 1 W (.slice ad2 d.length cd2) d.length (intCells d)→Bk W Kb 41 #[.int .i64 0,.int .i64 0,.slice none 0 0,.slice none 0 0,.slice none 0 0,.int .i64 0,.slice none 0 0,.slice none 0 0,.slice none 0 0,.int .i64 0,.int .i64 0,.bool false,.slice none 0 0,.slice none 0 0]→W0.heap.size≤Kb→(Kb<n0∨n1≤Kb)→G 6 (yw2 41417599) (act5 m d ai ci ah ch ae ce ad cd ap cp N ab cb asx csx ax cx kb ks kx kt kq kf w.heap.size Rb (.pointer (some ⟨Kb,0,none⟩)) (.agg #[.int .i64 m.n,.int .i64 m.s,.slice avi m.i.length cvi,.slice avh m.h.length cvh,.slice avs m.e.length cvs,.int .i64 m.z]) (.slice (some ⟨g8,0,none⟩) 0 0) (.slice ad2 d.length cd2) undef undef undef (.slice (some ⟨g25,0,none⟩) 0 0) undef undef) W):=by
      intro W n0 n1 avi cvi avh cvh avs cvs g8 ad2 cd2 g25 Kb hB hM hn0 hn1 hD hY hKw hKM
      rw [HGE.out]
      unfold act5
      refine yag (rs:= [7]) (by kernel_rfl) (by simp) ?_
      refine AllReadyZ.cons (i:=7) rfl (fun K hKK=> ?_) AllReadyZ.nil
      · obtain⟨g12,V,HX,HV,hb,hk⟩:=yw1 W #[] 152
        go_simp
        rw [HV.out,←HX.out]
        have hB':Below W0.heap.size W0 V:=trm hB hb
        refine hKK.out _ _ (ywg (HP0.out.below hB')) (fun hHeld=> ?_)
        try simp only [Act.put,List.setIfInBounds_toArray]
        try simp only [List.set_cons_succ]
        try simp only [List.set_cons_zero]
        refine ye9 (l':=(yw2 41417727)) (by kernel_rfl) ?_
        rw [←HGE.out]
        exact st21111.out V n0 n1 avi cvi avh cvh avs cvs g8 ad2 cd2 g12 g25 Kb hB' (hM.below hb) hn0 (Nat.le_trans hn1 hb.size) (hD.below hb) (hY.below hb) hKw hKM
    have st21101:Hid (∀(W:World) (n0 n1:Nat) (avi:Option Addr) (cvi:Nat) (avh:Option Addr) (cvh:Nat) (avs:Option Addr) (cvs:Nat) (g8:Nat) (ad2:Option Addr) (cd2:Nat) (g12:Nat) (Kb:Nat),Below W0.heap.size W0 W→(MdF (fun j=>n0≤j∧j<n1) W (.agg #[.int .i64 m.n,.int .i64 m.s,.slice avi m.i.length cvi,.slice avh m.h.length cvh,.slice avs m.e.length cvs,.int .i64 m.z]) m)→(W0.heap.size≤n0∧W0.heap.size≤n1)→n1≤W.heap.size→OwnN n1 3 1 W (.slice ad2 d.length cd2) d.length (intCells d)→Bk W Kb 41 #[.int .i64 0,.int .i64 0,.slice none 0 0,.slice none 0 0,.slice none 0 0,.int .i64 0,.slice none 0 0,.slice none 0 0,.slice none 0 0,.int .i64 0,.int .i64 0,.bool false,.slice none 0 0,.slice none 0 0]→W0.heap.size≤Kb→(Kb<n0∨n1≤Kb)→G 6 (yw2 40369151) (act5 m d ai ci ah ch ae ce ad cd ap cp N ab cb asx csx ax cx kb ks kx kt kq kf w.heap.size Rb (.pointer (some ⟨Kb,0,none⟩)) (.agg #[.int .i64 m.n,.int .i64 m.s,.slice avi m.i.length cvi,.slice avh m.h.length cvh,.slice avs m.e.length cvs,.int .i64 m.z]) (.slice (some ⟨g8,0,none⟩) 0 0) (.slice ad2 d.length cd2) (.slice (some ⟨g12,0,none⟩) 0 0) undef undef undef undef undef) W):=by
      intro W n0 n1 avi cvi avh cvh avs cvs g8 ad2 cd2 g12 Kb hB hM hn0 hn1 hD hY hKw hKM
      rw [HGE.out]
      unfold act5
      refine yag (rs:= [10,20]) (by kernel_rfl) (by simp) ?_
      refine AllReadyZ.cons (i:=10) rfl (fun K hKK=> ?_) (AllReadyZ.cons (i:=20) rfl (fun K hKK=> ?_) AllReadyZ.nil)
      · obtain⟨i0,hi0,hz0,hz1,hz2⟩:=info_parts zgl
        refine yyk rfl (.tmp 12) (.tmp 14) 38 rfl 152 i0 (.agg #[.int .i64 0,.int .i64 0,.int .i64 0,.int .i64 0,.int .i64 0,.int .i64 0,.int .i64 0,.bool false]) 8 64 Tryz.underlying38 hi0 hz0 hz1 hz2 rfl (by decide) g12 rfl (.slice ab kb.length cb) kb.length (yx2 kb) rfl (HSB.out W (trm HB0.out hB)) (by unfold maxLen;have h9:=HLN.out;omega) (by have h9:=HLN.out;omega) ?_
        intro ab2 cb2 V hcap ho hb
        have hG9:OwnN n1 152 8 V (.slice ab2 kb.length cb2) kb.length (yx2 kb):=⟨_,_,rfl,hcap,ho.imp id (fun h=>yvh h hn1)⟩
        have hB':Below W0.heap.size W0 V:=trm hB hb
        refine hKK.out _ _ (ywg (HP0.out.below hB')) (fun hHeld=> ?_)
        try simp only [Act.put,List.setIfInBounds_toArray]
        try simp only [List.set_cons_succ]
        try simp only [List.set_cons_zero]
        refine ye9 (l':=(yw2 40370175)) (by kernel_rfl) ?_
        rw [←HGE.out]
        exact st31101.out V n0 n1 avi cvi avh cvh avs cvs g8 ad2 cd2 g12 ab2 cb2 Kb hB' (hM.below hb) hn0 (Nat.le_trans hn1 hb.size) (hD.below hb) hG9 (hY.below hb) hKw hKM
      · obtain⟨g25,V,HX,HV,hb,hk⟩:=yw1 W #[] 166
        go_simp
        rw [HV.out,←HX.out]
        have hB':Below W0.heap.size W0 V:=trm hB hb
        refine hKK.out _ _ (ywg (HP0.out.below hB')) (fun hHeld=> ?_)
        try simp only [Act.put,List.setIfInBounds_toArray]
        try simp only [List.set_cons_succ]
        try simp only [List.set_cons_zero]
        refine ye9 (l':=(yw2 41417727)) (by kernel_rfl) ?_
        rw [←HGE.out]
        exact st21111.out V n0 n1 avi cvi avh cvh avs cvs g8 ad2 cd2 g12 g25 Kb hB' (hM.below hb) hn0 (Nat.le_trans hn1 hb.size) (hD.below hb) (hY.below hb) hKw hKM
    have st21110:Hid (∀(W:World) (n0 n1:Nat) (avi:Option Addr) (cvi:Nat) (avh:Option Addr) (cvh:Nat) (avs:Option Addr) (cvs:Nat) (g8:Nat) (ad2:Option Addr) (cd2:Nat) (g12:Nat) (g25:Nat),Below W0.heap.size W0 W→(MdF (fun j=>n0≤j∧j<n1) W (.agg #[.int .i64 m.n,.int .i64 m.s,.slice avi m.i.length cvi,.slice avh m.h.length cvh,.slice avs m.e.length cvs,.int .i64 m.z]) m)→(W0.heap.size≤n0∧W0.heap.size≤n1)→n1≤W.heap.size→OwnN n1 3 1 W (.slice ad2 d.length cd2) d.length (intCells d)→G 6 (yw2 7863295) (act5 m d ai ci ah ch ae ce ad cd ap cp N ab cb asx csx ax cx kb ks kx kt kq kf w.heap.size Rb undef (.agg #[.int .i64 m.n,.int .i64 m.s,.slice avi m.i.length cvi,.slice avh m.h.length cvh,.slice avs m.e.length cvs,.int .i64 m.z]) (.slice (some ⟨g8,0,none⟩) 0 0) (.slice ad2 d.length cd2) (.slice (some ⟨g12,0,none⟩) 0 0) undef undef (.slice (some ⟨g25,0,none⟩) 0 0) undef undef) W):=by
      intro W n0 n1 avi cvi avh cvh avs cvs g8 ad2 cd2 g12 g25 hB hM hn0 hn1 hD
      rw [HGE.out]
      unfold act5
      refine yag (rs:= [10,25]) (by kernel_rfl) (by simp) ?_
      refine AllReadyZ.cons (i:=10) rfl (fun K hKK=> ?_) (AllReadyZ.cons (i:=25) rfl (fun K hKK=> ?_) AllReadyZ.nil)
      · obtain⟨i0,hi0,hz0,hz1,hz2⟩:=info_parts zgl
        refine yyk rfl (.tmp 12) (.tmp 14) 38 rfl 152 i0 (.agg #[.int .i64 0,.int .i64 0,.int .i64 0,.int .i64 0,.int .i64 0,.int .i64 0,.int .i64 0,.bool false]) 8 64 Tryz.underlying38 hi0 hz0 hz1 hz2 rfl (by decide) g12 rfl (.slice ab kb.length cb) kb.length (yx2 kb) rfl (HSB.out W (trm HB0.out hB)) (by unfold maxLen;have h9:=HLN.out;omega) (by have h9:=HLN.out;omega) ?_
        intro ab2 cb2 V hcap ho hb
        have hG9:OwnN n1 152 8 V (.slice ab2 kb.length cb2) kb.length (yx2 kb):=⟨_,_,rfl,hcap,ho.imp id (fun h=>yvh h hn1)⟩
        have hB':Below W0.heap.size W0 V:=trm hB hb
        refine hKK.out _ _ (ywg (HP0.out.below hB')) (fun hHeld=> ?_)
        try simp only [Act.put,List.setIfInBounds_toArray]
        try simp only [List.set_cons_succ]
        try simp only [List.set_cons_zero]
        refine ye9 (l':=(yw2 7864319)) (by kernel_rfl) ?_
        rw [←HGE.out]
        exact st31110.out V n0 n1 avi cvi avh cvh avs cvs g8 ad2 cd2 g12 ab2 cb2 g25 hB' (hM.below hb) hn0 (Nat.le_trans hn1 hb.size) (hD.below hb) hG9
      · obtain⟨Kb,V,HX,HV,hb,hk⟩:=yw1 W #[.int .i64 0,.int .i64 0,.slice none 0 0,.slice none 0 0,.slice none 0 0,.int .i64 0,.slice none 0 0,.slice none 0 0,.slice none 0 0,.int .i64 0,.int .i64 0,.bool false,.slice none 0 0,.slice none 0 0] 41
        go_simp
        rw [HV.out,←HX.out]
        have hB':Below W0.heap.size W0 V:=trm hB hb
        refine hKK.out _ _ (ywg (HP0.out.below hB')) (fun hHeld=> ?_)
        try simp only [Act.put,List.setIfInBounds_toArray]
        try simp only [List.set_cons_succ]
        try simp only [List.set_cons_zero]
        refine ye9 (l':=(yw2 41417727)) (by kernel_rfl) ?_
        rw [←HGE.out]
        exact st21111.out V n0 n1 avi cvi avh cvh avs cvs g8 ad2 cd2 g12 g25 Kb hB' (hM.below hb) hn0 (Nat.le_trans hn1 hb.size) (hD.below hb) hk (HX.out▸hB.size) (.inr (HX.out▸hn1))
    have st31100:Hid (∀(W:World) (n0 n1:Nat) (avi:Option Addr) (cvi:Nat) (avh:Option Addr) (cvh:Nat) (avs:Option Addr) (cvs:Nat) (g8:Nat) (ad2:Option Addr) (cd2:Nat) (g12:Nat) (ab2:Option Addr) (cb2:Nat),Below W0.heap.size W0 W→(MdF (fun j=>n0≤j∧j<n1) W (.agg #[.int .i64 m.n,.int .i64 m.s,.slice avi m.i.length cvi,.slice avh m.h.length cvh,.slice avs m.e.length cvs,.int .i64 m.z]) m)→(W0.heap.size≤n0∧W0.heap.size≤n1)→n1≤W.heap.size→OwnN n1 3 1 W (.slice ad2 d.length cd2) d.length (intCells d)→OwnN n1 152 8 W (.slice ab2 kb.length cb2) kb.length (yx2 kb)→G 6 (yw2 6815743) (act5 m d ai ci ah ch ae ce ad cd ap cp N ab cb asx csx ax cx kb ks kx kt kq kf w.heap.size Rb undef (.agg #[.int .i64 m.n,.int .i64 m.s,.slice avi m.i.length cvi,.slice avh m.h.length cvh,.slice avs m.e.length cvs,.int .i64 m.z]) (.slice (some ⟨g8,0,none⟩) 0 0) (.slice ad2 d.length cd2) (.slice (some ⟨g12,0,none⟩) 0 0) (.slice ab2 kb.length cb2) undef undef undef undef) W):=by
      intro W n0 n1 avi cvi avh cvh avs cvs g8 ad2 cd2 g12 ab2 cb2 hB hM hn0 hn1 hD hG
      rw [HGE.out]
      unfold act5
      refine yag (rs:= [19,20,25]) (by kernel_rfl) (by simp) ?_
      refine AllReadyZ.cons (i:=19) rfl (fun K hKK=> ?_) (AllReadyZ.cons (i:=20) rfl (fun K hKK=> ?_) (AllReadyZ.cons (i:=25) rfl (fun K hKK=> ?_) AllReadyZ.nil))
      · go_simp
        refine(yx5 _ ks W (by have h9:=HLN.out;omega) (HSU.out W (trm HB0.out hB))).mono ?_
        rintro e V ⟨y0,rfl,ho,hb⟩
        obtain⟨as2,cs2,rfl⟩:=yoj ho
        have hU9:OwnN n1 90 7 V (.slice as2 ks.length cs2) ks.length (yvk ks):=⟨_,_,rfl,zd3 ho,.inr (yvh ho hn1)⟩
        try go_simp
        have hB':Below W0.heap.size W0 V:=trm hB hb
        refine hKK.out _ _ (ywg (HP0.out.below hB')) (fun hHeld=> ?_)
        try simp only [Act.put,List.setIfInBounds_toArray]
        try simp only [List.set_cons_succ]
        try simp only [List.set_cons_zero]
        refine ye9 (l':=(yw2 7340031)) (by kernel_rfl) ?_
        rw [←HGE.out]
        exact st41100.out V n0 n1 avi cvi avh cvh avs cvs g8 ad2 cd2 g12 ab2 cb2 as2 cs2 hB' (hM.below hb) hn0 (Nat.le_trans hn1 hb.size) (hD.below hb) (hG.below hb) hU9
      · obtain⟨g25,V,HX,HV,hb,hk⟩:=yw1 W #[] 166
        go_simp
        rw [HV.out,←HX.out]
        have hB':Below W0.heap.size W0 V:=trm hB hb
        refine hKK.out _ _ (ywg (HP0.out.below hB')) (fun hHeld=> ?_)
        try simp only [Act.put,List.setIfInBounds_toArray]
        try simp only [List.set_cons_succ]
        try simp only [List.set_cons_zero]
        refine ye9 (l':=(yw2 7864319)) (by kernel_rfl) ?_
        rw [←HGE.out]
        exact st31110.out V n0 n1 avi cvi avh cvh avs cvs g8 ad2 cd2 g12 ab2 cb2 g25 hB' (hM.below hb) hn0 (Nat.le_trans hn1 hb.size) (hD.below hb) (hG.below hb)
      · obtain⟨Kb,V,HX,HV,hb,hk⟩:=yw1 W #[.int .i64 0,.int .i64 0,.slice none 0 0,.slice none 0 0,.slice none 0 0,.int .i64 0,.slice none 0 0,.slice none 0 0,.slice none 0 0,.int .i64 0,.int .i64 0,.bool false,.slice none 0 0,.slice none 0 0] 41
        go_simp
        rw [HV.out,←HX.out]
        have hB':Below W0.heap.size W0 V:=trm hB hb
        refine hKK.out _ _ (ywg (HP0.out.below hB')) (fun hHeld=> ?_)
        try simp only [Act.put,List.setIfInBounds_toArray]
        try simp only [List.set_cons_succ]
        try simp only [List.set_cons_zero]
        refine ye9 (l':=(yw2 40370175)) (by kernel_rfl) ?_
        rw [←HGE.out]
        exact st31101.out V n0 n1 avi cvi avh cvh avs cvs g8 ad2 cd2 g12 ab2 cb2 Kb hB' (hM.below hb) hn0 (Nat.le_trans hn1 hb.size) (hD.below hb) (hG.below hb) hk (HX.out▸hB.size) (.inr (HX.out▸hn1))
    have st01111:Hid (∀(W:World) (g8:Nat) (g12:Nat) (g25:Nat) (Kb:Nat),Below W0.heap.size W0 W→Bk W Kb 41 #[.int .i64 0,.int .i64 0,.slice none 0 0,.slice none 0 0,.slice none 0 0,.int .i64 0,.slice none 0 0,.slice none 0 0,.slice none 0 0,.int .i64 0,.int .i64 0,.bool false,.slice none 0 0,.slice none 0 0]→W0.heap.size≤Kb→G 7 (yw2 41417659) (act5 m d ai ci ah ch ae ce ad cd ap cp N ab cb asx csx ax cx kb ks kx kt kq kf w.heap.size Rb (.pointer (some ⟨Kb,0,none⟩)) undef (.slice (some ⟨g8,0,none⟩) 0 0) undef (.slice (some ⟨g12,0,none⟩) 0 0) undef undef (.slice (some ⟨g25,0,none⟩) 0 0) undef undef) W):=by
      intro W g8 g12 g25 Kb hB hY hKw
      rw [HGE.out]
      unfold act5
      refine yag (rs:= [2]) (by kernel_rfl) (by simp) ?_
      refine AllReadyZ.cons (i:=2) rfl (fun K hKK=> ?_) AllReadyZ.nil
      · go_simp
        refine(yyl _ m W HSM.out.i HSM.out.h HSM.out.e (fun j _=>HSM.out.r j) (HM.out.below (trm HB0.out hB))).mono ?_
        rintro e V ⟨y0,rfl,hb,hmd⟩
        obtain⟨avi,cvi,avh,cvh,avs,cvs,rfl⟩:=hmd.form
        obtain⟨n0,hn0e⟩:∃n,n=W.heap.size:=⟨_,rfl⟩
        obtain⟨n1,hn1e⟩:∃n,n=V.heap.size:=⟨_,rfl⟩
        rw [←hn0e,←hn1e]at hmd
        have hn0:W0.heap.size≤n0∧W0.heap.size≤n1:=⟨hn0e▸hB.size,hn1e▸Nat.le_trans hB.size hb.size⟩
        have hn1:n1≤V.heap.size:=by omega
        have hKM':Kb<n0∨n1≤Kb:= .inl (hn0e▸hY.lt)
        try go_simp
        have hB':Below W0.heap.size W0 V:=trm hB hb
        refine hKK.out _ _ (ywg (HP0.out.below hB')) (fun hHeld=> ?_)
        try simp only [Act.put,List.setIfInBounds_toArray]
        try simp only [List.set_cons_succ]
        try simp only [List.set_cons_zero]
        refine ye9 (l':=(yw2 41417663)) (by kernel_rfl) ?_
        rw [←HGE.out]
        exact st11111.out V n0 n1 avi cvi avh cvh avs cvs g8 g12 g25 Kb hB' hmd hn0 hn1 (hY.below hb) hKw hKM'
    have st10111:Hid (∀(W:World) (n0 n1:Nat) (avi:Option Addr) (cvi:Nat) (avh:Option Addr) (cvh:Nat) (avs:Option Addr) (cvs:Nat) (g12:Nat) (g25:Nat) (Kb:Nat),Below W0.heap.size W0 W→(MdF (fun j=>n0≤j∧j<n1) W (.agg #[.int .i64 m.n,.int .i64 m.s,.slice avi m.i.length cvi,.slice avh m.h.length cvh,.slice avs m.e.length cvs,.int .i64 m.z]) m)→(W0.heap.size≤n0∧W0.heap.size≤n1)→n1≤W.heap.size→Bk W Kb 41 #[.int .i64 0,.int .i64 0,.slice none 0 0,.slice none 0 0,.slice none 0 0,.int .i64 0,.slice none 0 0,.slice none 0 0,.slice none 0 0,.int .i64 0,.int .i64 0,.bool false,.slice none 0 0,.slice none 0 0]→W0.heap.size≤Kb→(Kb<n0∨n1≤Kb)→G 7 (yw2 41417655) (act5 m d ai ci ah ch ae ce ad cd ap cp N ab cb asx csx ax cx kb ks kx kt kq kf w.heap.size Rb (.pointer (some ⟨Kb,0,none⟩)) (.agg #[.int .i64 m.n,.int .i64 m.s,.slice avi m.i.length cvi,.slice avh m.h.length cvh,.slice avs m.e.length cvs,.int .i64 m.z]) undef undef (.slice (some ⟨g12,0,none⟩) 0 0) undef undef (.slice (some ⟨g25,0,none⟩) 0 0) undef undef) W):=by
      intro W n0 n1 avi cvi avh cvh avs cvs g12 g25 Kb hB hM hn0 hn1 hY hKw hKM
      rw [HGE.out]
      unfold act5
      refine yag (rs:= [3]) (by kernel_rfl) (by simp) ?_
      refine AllReadyZ.cons (i:=3) rfl (fun K hKK=> ?_) AllReadyZ.nil
      · obtain⟨g8,V,HX,HV,hb,hk⟩:=yw1 W #[] 3
        go_simp
        rw [HV.out,←HX.out]
        have hB':Below W0.heap.size W0 V:=trm hB hb
        refine hKK.out _ _ (ywg (HP0.out.below hB')) (fun hHeld=> ?_)
        try simp only [Act.put,List.setIfInBounds_toArray]
        try simp only [List.set_cons_succ]
        try simp only [List.set_cons_zero]
        refine ye9 (l':=(yw2 41417663)) (by kernel_rfl) ?_
        rw [←HGE.out]
        exact st11111.out V n0 n1 avi cvi avh cvh avs cvs g8 g12 g25 Kb hB' (hM.below hb) hn0 (Nat.le_trans hn1 hb.size) (hY.below hb) hKw hKM
    have st11011:Hid (∀(W:World) (n0 n1:Nat) (avi:Option Addr) (cvi:Nat) (avh:Option Addr) (cvh:Nat) (avs:Option Addr) (cvs:Nat) (g8:Nat) (g25:Nat) (Kb:Nat),Below W0.heap.size W0 W→(MdF (fun j=>n0≤j∧j<n1) W (.agg #[.int .i64 m.n,.int .i64 m.s,.slice avi m.i.length cvi,.slice avh m.h.length cvh,.slice avs m.e.length cvs,.int .i64 m.z]) m)→(W0.heap.size≤n0∧W0.heap.size≤n1)→n1≤W.heap.size→Bk W Kb 41 #[.int .i64 0,.int .i64 0,.slice none 0 0,.slice none 0 0,.slice none 0 0,.int .i64 0,.slice none 0 0,.slice none 0 0,.slice none 0 0,.int .i64 0,.int .i64 0,.bool false,.slice none 0 0,.slice none 0 0]→W0.heap.size≤Kb→(Kb<n0∨n1≤Kb)→G 7 (yw2 41417535) (act5 m d ai ci ah ch ae ce ad cd ap cp N ab cb asx csx ax cx kb ks kx kt kq kf w.heap.size Rb (.pointer (some ⟨Kb,0,none⟩)) (.agg #[.int .i64 m.n,.int .i64 m.s,.slice avi m.i.length cvi,.slice avh m.h.length cvh,.slice avs m.e.length cvs,.int .i64 m.z]) (.slice (some ⟨g8,0,none⟩) 0 0) undef undef undef undef (.slice (some ⟨g25,0,none⟩) 0 0) undef undef) W):=by
      intro W n0 n1 avi cvi avh cvh avs cvs g8 g25 Kb hB hM hn0 hn1 hY hKw hKM
      rw [HGE.out]
      unfold act5
      refine yag (rs:= [6,7]) (by kernel_rfl) (by simp) ?_
      refine AllReadyZ.cons (i:=6) rfl (fun K hKK=> ?_) (AllReadyZ.cons (i:=7) rfl (fun K hKK=> ?_) AllReadyZ.nil)
      · obtain⟨i0,hi0,hz0,hz1,hz2⟩:=info_parts zbs
        refine yyk rfl (.tmp 8) (.tmp 10) 22 rfl 3 i0 (.int .i64 0) 1 8 Tryz.underlying22 hi0 hz0 hz1 hz2 rfl (by decide) g8 rfl (.slice ad d.length cd) d.length (intCells d) rfl (HSD.out W (trm HB0.out hB)) (by unfold maxLen;have h9:=HLN.out;omega) (by have h9:=HLN.out;omega) ?_
        intro ad2 cd2 V hcap ho hb
        have hD9:OwnN n1 3 1 V (.slice ad2 d.length cd2) d.length (intCells d):=⟨_,_,rfl,hcap,ho.imp id (fun h=>yvh h hn1)⟩
        have hB':Below W0.heap.size W0 V:=trm hB hb
        refine hKK.out _ _ (ywg (HP0.out.below hB')) (fun hHeld=> ?_)
        try simp only [Act.put,List.setIfInBounds_toArray]
        try simp only [List.set_cons_succ]
        try simp only [List.set_cons_zero]
        refine ye9 (l':=(yw2 41417599)) (by kernel_rfl) ?_
        rw [←HGE.out]
        exact st21011.out V n0 n1 avi cvi avh cvh avs cvs g8 ad2 cd2 g25 Kb hB' (hM.below hb) hn0 (Nat.le_trans hn1 hb.size) hD9 (hY.below hb) hKw hKM
      · obtain⟨g12,V,HX,HV,hb,hk⟩:=yw1 W #[] 152
        go_simp
        rw [HV.out,←HX.out]
        have hB':Below W0.heap.size W0 V:=trm hB hb
        refine hKK.out _ _ (ywg (HP0.out.below hB')) (fun hHeld=> ?_)
        try simp only [Act.put,List.setIfInBounds_toArray]
        try simp only [List.set_cons_succ]
        try simp only [List.set_cons_zero]
        refine ye9 (l':=(yw2 41417663)) (by kernel_rfl) ?_
        rw [←HGE.out]
        exact st11111.out V n0 n1 avi cvi avh cvh avs cvs g8 g12 g25 Kb hB' (hM.below hb) hn0 (Nat.le_trans hn1 hb.size) (hY.below hb) hKw hKM
    have st11101:Hid (∀(W:World) (n0 n1:Nat) (avi:Option Addr) (cvi:Nat) (avh:Option Addr) (cvh:Nat) (avs:Option Addr) (cvs:Nat) (g8:Nat) (g12:Nat) (Kb:Nat),Below W0.heap.size W0 W→(MdF (fun j=>n0≤j∧j<n1) W (.agg #[.int .i64 m.n,.int .i64 m.s,.slice avi m.i.length cvi,.slice avh m.h.length cvh,.slice avs m.e.length cvs,.int .i64 m.z]) m)→(W0.heap.size≤n0∧W0.heap.size≤n1)→n1≤W.heap.size→Bk W Kb 41 #[.int .i64 0,.int .i64 0,.slice none 0 0,.slice none 0 0,.slice none 0 0,.int .i64 0,.slice none 0 0,.slice none 0 0,.slice none 0 0,.int .i64 0,.int .i64 0,.bool false,.slice none 0 0,.slice none 0 0]→W0.heap.size≤Kb→(Kb<n0∨n1≤Kb)→G 7 (yw2 40369087) (act5 m d ai ci ah ch ae ce ad cd ap cp N ab cb asx csx ax cx kb ks kx kt kq kf w.heap.size Rb (.pointer (some ⟨Kb,0,none⟩)) (.agg #[.int .i64 m.n,.int .i64 m.s,.slice avi m.i.length cvi,.slice avh m.h.length cvh,.slice avs m.e.length cvs,.int .i64 m.z]) (.slice (some ⟨g8,0,none⟩) 0 0) undef (.slice (some ⟨g12,0,none⟩) 0 0) undef undef undef undef undef) W):=by
      intro W n0 n1 avi cvi avh cvh avs cvs g8 g12 Kb hB hM hn0 hn1 hY hKw hKM
      rw [HGE.out]
      unfold act5
      refine yag (rs:= [6,20]) (by kernel_rfl) (by simp) ?_
      refine AllReadyZ.cons (i:=6) rfl (fun K hKK=> ?_) (AllReadyZ.cons (i:=20) rfl (fun K hKK=> ?_) AllReadyZ.nil)
      · obtain⟨i0,hi0,hz0,hz1,hz2⟩:=info_parts zbs
        refine yyk rfl (.tmp 8) (.tmp 10) 22 rfl 3 i0 (.int .i64 0) 1 8 Tryz.underlying22 hi0 hz0 hz1 hz2 rfl (by decide) g8 rfl (.slice ad d.length cd) d.length (intCells d) rfl (HSD.out W (trm HB0.out hB)) (by unfold maxLen;have h9:=HLN.out;omega) (by have h9:=HLN.out;omega) ?_
        intro ad2 cd2 V hcap ho hb
        have hD9:OwnN n1 3 1 V (.slice ad2 d.length cd2) d.length (intCells d):=⟨_,_,rfl,hcap,ho.imp id (fun h=>yvh h hn1)⟩
        have hB':Below W0.heap.size W0 V:=trm hB hb
        refine hKK.out _ _ (ywg (HP0.out.below hB')) (fun hHeld=> ?_)
        try simp only [Act.put,List.setIfInBounds_toArray]
        try simp only [List.set_cons_succ]
        try simp only [List.set_cons_zero]
        refine ye9 (l':=(yw2 40369151)) (by kernel_rfl) ?_
        rw [←HGE.out]
        exact st21101.out V n0 n1 avi cvi avh cvh avs cvs g8 ad2 cd2 g12 Kb hB' (hM.below hb) hn0 (Nat.le_trans hn1 hb.size) hD9 (hY.below hb) hKw hKM
      · obtain⟨g25,V,HX,HV,hb,hk⟩:=yw1 W #[] 166
        go_simp
        rw [HV.out,←HX.out]
        have hB':Below W0.heap.size W0 V:=trm hB hb
        refine hKK.out _ _ (ywg (HP0.out.below hB')) (fun hHeld=> ?_)
        try simp only [Act.put,List.setIfInBounds_toArray]
        try simp only [List.set_cons_succ]
        try simp only [List.set_cons_zero]
        refine ye9 (l':=(yw2 41417663)) (by kernel_rfl) ?_
        rw [←HGE.out]
        exact st11111.out V n0 n1 avi cvi avh cvh avs cvs g8 g12 g25 Kb hB' (hM.below hb) hn0 (Nat.le_trans hn1 hb.size) (hY.below hb) hKw hKM
    have st11110:Hid (∀(W:World) (n0 n1:Nat) (avi:Option Addr) (cvi:Nat) (avh:Option Addr) (cvh:Nat) (avs:Option Addr) (cvs:Nat) (g8:Nat) (g12:Nat) (g25:Nat),Below W0.heap.size W0 W→(MdF (fun j=>n0≤j∧j<n1) W (.agg #[.int .i64 m.n,.int .i64 m.s,.slice avi m.i.length cvi,.slice avh m.h.length cvh,.slice avs m.e.length cvs,.int .i64 m.z]) m)→(W0.heap.size≤n0∧W0.heap.size≤n1)→n1≤W.heap.size→G 7 (yw2 7863231) (act5 m d ai ci ah ch ae ce ad cd ap cp N ab cb asx csx ax cx kb ks kx kt kq kf w.heap.size Rb undef (.agg #[.int .i64 m.n,.int .i64 m.s,.slice avi m.i.length cvi,.slice avh m.h.length cvh,.slice avs m.e.length cvs,.int .i64 m.z]) (.slice (some ⟨g8,0,none⟩) 0 0) undef (.slice (some ⟨g12,0,none⟩) 0 0) undef undef (.slice (some ⟨g25,0,none⟩) 0 0) undef undef) W):=by
      intro W n0 n1 avi cvi avh cvh avs cvs g8 g12 g25 hB hM hn0 hn1
      rw [HGE.out]
      unfold act5
      refine yag (rs:= [6,25]) (by kernel_rfl) (by simp) ?_
      refine AllReadyZ.cons (i:=6) rfl (fun K hKK=> ?_) (AllReadyZ.cons (i:=25) rfl (fun K hKK=> ?_) AllReadyZ.nil)
      · obtain⟨i0,hi0,hz0,hz1,hz2⟩:=info_parts zbs
        refine yyk rfl (.tmp 8) (.tmp 10) 22 rfl 3 i0 (.int .i64 0) 1 8 Tryz.underlying22 hi0 hz0 hz1 hz2 rfl (by decide) g8 rfl (.slice ad d.length cd) d.length (intCells d) rfl (HSD.out W (trm HB0.out hB)) (by unfold maxLen;have h9:=HLN.out;omega) (by have h9:=HLN.out;omega) ?_
        intro ad2 cd2 V hcap ho hb
        have hD9:OwnN n1 3 1 V (.slice ad2 d.length cd2) d.length (intCells d):=⟨_,_,rfl,hcap,ho.imp id (fun h=>yvh h hn1)⟩
        have hB':Below W0.heap.size W0 V:=trm hB hb
        refine hKK.out _ _ (ywg (HP0.out.below hB')) (fun hHeld=> ?_)
        try simp only [Act.put,List.setIfInBounds_toArray]
        try simp only [List.set_cons_succ]
        try simp only [List.set_cons_zero]
        refine ye9 (l':=(yw2 7863295)) (by kernel_rfl) ?_
        rw [←HGE.out]
        exact st21110.out V n0 n1 avi cvi avh cvh avs cvs g8 ad2 cd2 g12 g25 hB' (hM.below hb) hn0 (Nat.le_trans hn1 hb.size) hD9
      · obtain⟨Kb,V,HX,HV,hb,hk⟩:=yw1 W #[.int .i64 0,.int .i64 0,.slice none 0 0,.slice none 0 0,.slice none 0 0,.int .i64 0,.slice none 0 0,.slice none 0 0,.slice none 0 0,.int .i64 0,.int .i64 0,.bool false,.slice none 0 0,.slice none 0 0] 41
        go_simp
        rw [HV.out,←HX.out]
        have hB':Below W0.heap.size W0 V:=trm hB hb
        refine hKK.out _ _ (ywg (HP0.out.below hB')) (fun hHeld=> ?_)
        try simp only [Act.put,List.setIfInBounds_toArray]
        try simp only [List.set_cons_succ]
        try simp only [List.set_cons_zero]
        refine ye9 (l':=(yw2 41417663)) (by kernel_rfl) ?_
        rw [←HGE.out]
        exact st11111.out V n0 n1 avi cvi avh cvh avs cvs g8 g12 g25 Kb hB' (hM.below hb) hn0 (Nat.le_trans hn1 hb.size) hk (HX.out▸hB.size) (.inr (HX.out▸hn1))
    have st21001:Hid (∀(W:World) (n0 n1:Nat) (avi:Option Addr) (cvi:Nat) (avh:Option Addr) (cvh:Nat) (avs:Option Addr) (cvs:Nat) (g8:Nat) (ad2:Option Addr) (cd2:Nat) (Kb:Nat),Below W0.heap.size W0 W→(MdF (fun j=>n0≤j∧j<n1) W (.agg #[.int .i64 m.n,.int .i64 m.s,.slice avi m.i.length cvi,.slice avh m.h.length cvh,.slice avs m.e.length cvs,.int .i64 m.z]) m)→(W0.heap.size≤n0∧W0.heap.size≤n1)→n1≤W.heap.size→OwnN n1 3 1 W (.slice ad2 d.length cd2) d.length (intCells d)→Bk W Kb 41 #[.int .i64 0,.int .i64 0,.slice none 0 0,.slice none 0 0,.slice none 0 0,.int .i64 0,.slice none 0 0,.slice none 0 0,.slice none 0 0,.int .i64 0,.int .i64 0,.bool false,.slice none 0 0,.slice none 0 0]→W0.heap.size≤Kb→(Kb<n0∨n1≤Kb)→G 7 (yw2 40369023) (act5 m d ai ci ah ch ae ce ad cd ap cp N ab cb asx csx ax cx kb ks kx kt kq kf w.heap.size Rb (.pointer (some ⟨Kb,0,none⟩)) (.agg #[.int .i64 m.n,.int .i64 m.s,.slice avi m.i.length cvi,.slice avh m.h.length cvh,.slice avs m.e.length cvs,.int .i64 m.z]) (.slice (some ⟨g8,0,none⟩) 0 0) (.slice ad2 d.length cd2) undef undef undef undef undef undef) W):=by
      intro W n0 n1 avi cvi avh cvh avs cvs g8 ad2 cd2 Kb hB hM hn0 hn1 hD hY hKw hKM
      rw [HGE.out]
      unfold act5
      refine yag (rs:= [7,20]) (by kernel_rfl) (by simp) ?_
      refine AllReadyZ.cons (i:=7) rfl (fun K hKK=> ?_) (AllReadyZ.cons (i:=20) rfl (fun K hKK=> ?_) AllReadyZ.nil)
      · obtain⟨g12,V,HX,HV,hb,hk⟩:=yw1 W #[] 152
        go_simp
        rw [HV.out,←HX.out]
        have hB':Below W0.heap.size W0 V:=trm hB hb
        refine hKK.out _ _ (ywg (HP0.out.below hB')) (fun hHeld=> ?_)
        try simp only [Act.put,List.setIfInBounds_toArray]
        try simp only [List.set_cons_succ]
        try simp only [List.set_cons_zero]
        refine ye9 (l':=(yw2 40369151)) (by kernel_rfl) ?_
        rw [←HGE.out]
        exact st21101.out V n0 n1 avi cvi avh cvh avs cvs g8 ad2 cd2 g12 Kb hB' (hM.below hb) hn0 (Nat.le_trans hn1 hb.size) (hD.below hb) (hY.below hb) hKw hKM
      · obtain⟨g25,V,HX,HV,hb,hk⟩:=yw1 W #[] 166
        go_simp
        rw [HV.out,←HX.out]
        have hB':Below W0.heap.size W0 V:=trm hB hb
        refine hKK.out _ _ (ywg (HP0.out.below hB')) (fun hHeld=> ?_)
        try simp only [Act.put,List.setIfInBounds_toArray]
        try simp only [List.set_cons_succ]
        try simp only [List.set_cons_zero]
        refine ye9 (l':=(yw2 41417599)) (by kernel_rfl) ?_
        rw [←HGE.out]
        exact st21011.out V n0 n1 avi cvi avh cvh avs cvs g8 ad2 cd2 g25 Kb hB' (hM.below hb) hn0 (Nat.le_trans hn1 hb.size) (hD.below hb) (hY.below hb) hKw hKM
    have st21010:Hid (∀(W:World) (n0 n1:Nat) (avi:Option Addr) (cvi:Nat) (avh:Option Addr) (cvh:Nat) (avs:Option Addr) (cvs:Nat) (g8:Nat) (ad2:Option Addr) (cd2:Nat) (g25:Nat),Below W0.heap.size W0 W→(MdF (fun j=>n0≤j∧j<n1) W (.agg #[.int .i64 m.n,.int .i64 m.s,.slice avi m.i.length cvi,.slice avh m.h.length cvh,.slice avs m.e.length cvs,.int .i64 m.z]) m)→(W0.heap.size≤n0∧W0.heap.size≤n1)→n1≤W.heap.size→OwnN n1 3 1 W (.slice ad2 d.length cd2) d.length (intCells d)→G 7 (yw2 7863167) (act5 m d ai ci ah ch ae ce ad cd ap cp N ab cb asx csx ax cx kb ks kx kt kq kf w.heap.size Rb undef (.agg #[.int .i64 m.n,.int .i64 m.s,.slice avi m.i.length cvi,.slice avh m.h.length cvh,.slice avs m.e.length cvs,.int .i64 m.z]) (.slice (some ⟨g8,0,none⟩) 0 0) (.slice ad2 d.length cd2) undef undef undef (.slice (some ⟨g25,0,none⟩) 0 0) undef undef) W):=by
      intro W n0 n1 avi cvi avh cvh avs cvs g8 ad2 cd2 g25 hB hM hn0 hn1 hD
      rw [HGE.out]
      unfold act5
      refine yag (rs:= [7,25]) (by kernel_rfl) (by simp) ?_
      refine AllReadyZ.cons (i:=7) rfl (fun K hKK=> ?_) (AllReadyZ.cons (i:=25) rfl (fun K hKK=> ?_) AllReadyZ.nil)
      · obtain⟨g12,V,HX,HV,hb,hk⟩:=yw1 W #[] 152
        go_simp
        rw [HV.out,←HX.out]
        have hB':Below W0.heap.size W0 V:=trm hB hb
        refine hKK.out _ _ (ywg (HP0.out.below hB')) (fun hHeld=> ?_)
        try simp only [Act.put,List.setIfInBounds_toArray]
        try simp only [List.set_cons_succ]
        try simp only [List.set_cons_zero]
        refine ye9 (l':=(yw2 7863295)) (by kernel_rfl) ?_
        rw [←HGE.out]
        exact st21110.out V n0 n1 avi cvi avh cvh avs cvs g8 ad2 cd2 g12 g25 hB' (hM.below hb) hn0 (Nat.le_trans hn1 hb.size) (hD.below hb)
      · obtain⟨Kb,V,HX,HV,hb,hk⟩:=yw1 W #[.int .i64 0,.int .i64 0,.slice none 0 0,.slice none 0 0,.slice none 0 0,.int .i64 0,.slice none 0 0,.slice none 0 0,.slice none 0 0,.int .i64 0,.int .i64 0,.bool false,.slice none 0 0,.slice none 0 0] 41
        go_simp
        rw [HV.out,←HX.out]
        have hB':Below W0.heap.size W0 V:=trm hB hb
        refine hKK.out _ _ (ywg (HP0.out.below hB')) (fun hHeld=> ?_)
        try simp only [Act.put,List.setIfInBounds_toArray]
        try simp only [List.set_cons_succ]
        try simp only [List.set_cons_zero]
        refine ye9 (l':=(yw2 41417599)) (by kernel_rfl) ?_
        rw [←HGE.out]
        exact st21011.out V n0 n1 avi cvi avh cvh avs cvs g8 ad2 cd2 g25 Kb hB' (hM.below hb) hn0 (Nat.le_trans hn1 hb.size) (hD.below hb) hk (HX.out▸hB.size) (.inr (HX.out▸hn1))
    have st21100:Hid (∀(W:World) (n0 n1:Nat) (avi:Option Addr) (cvi:Nat) (avh:Option Addr) (cvh:Nat) (avs:Option Addr) (cvs:Nat) (g8:Nat) (ad2:Option Addr) (cd2:Nat) (g12:Nat),Below W0.heap.size W0 W→(MdF (fun j=>n0≤j∧j<n1) W (.agg #[.int .i64 m.n,.int .i64 m.s,.slice avi m.i.length cvi,.slice avh m.h.length cvh,.slice avs m.e.length cvs,.int .i64 m.z]) m)→(W0.heap.size≤n0∧W0.heap.size≤n1)→n1≤W.heap.size→OwnN n1 3 1 W (.slice ad2 d.length cd2) d.length (intCells d)→G 7 (yw2 6814719) (act5 m d ai ci ah ch ae ce ad cd ap cp N ab cb asx csx ax cx kb ks kx kt kq kf w.heap.size Rb undef (.agg #[.int .i64 m.n,.int .i64 m.s,.slice avi m.i.length cvi,.slice avh m.h.length cvh,.slice avs m.e.length cvs,.int .i64 m.z]) (.slice (some ⟨g8,0,none⟩) 0 0) (.slice ad2 d.length cd2) (.slice (some ⟨g12,0,none⟩) 0 0) undef undef undef undef undef) W):=by
      intro W n0 n1 avi cvi avh cvh avs cvs g8 ad2 cd2 g12 hB hM hn0 hn1 hD
      rw [HGE.out]
      unfold act5
      refine yag (rs:= [10,20,25]) (by kernel_rfl) (by simp) ?_
      refine AllReadyZ.cons (i:=10) rfl (fun K hKK=> ?_) (AllReadyZ.cons (i:=20) rfl (fun K hKK=> ?_) (AllReadyZ.cons (i:=25) rfl (fun K hKK=> ?_) AllReadyZ.nil))
      · obtain⟨i0,hi0,hz0,hz1,hz2⟩:=info_parts zgl
        refine yyk rfl (.tmp 12) (.tmp 14) 38 rfl 152 i0 (.agg #[.int .i64 0,.int .i64 0,.int .i64 0,.int .i64 0,.int .i64 0,.int .i64 0,.int .i64 0,.bool false]) 8 64 Tryz.underlying38 hi0 hz0 hz1 hz2 rfl (by decide) g12 rfl (.slice ab kb.length cb) kb.length (yx2 kb) rfl (HSB.out W (trm HB0.out hB)) (by unfold maxLen;have h9:=HLN.out;omega) (by have h9:=HLN.out;omega) ?_
        intro ab2 cb2 V hcap ho hb
        have hG9:OwnN n1 152 8 V (.slice ab2 kb.length cb2) kb.length (yx2 kb):=⟨_,_,rfl,hcap,ho.imp id (fun h=>yvh h hn1)⟩
        have hB':Below W0.heap.size W0 V:=trm hB hb
        refine hKK.out _ _ (ywg (HP0.out.below hB')) (fun hHeld=> ?_)
        try simp only [Act.put,List.setIfInBounds_toArray]
        try simp only [List.set_cons_succ]
        try simp only [List.set_cons_zero]
        refine ye9 (l':=(yw2 6815743)) (by kernel_rfl) ?_
        rw [←HGE.out]
        exact st31100.out V n0 n1 avi cvi avh cvh avs cvs g8 ad2 cd2 g12 ab2 cb2 hB' (hM.below hb) hn0 (Nat.le_trans hn1 hb.size) (hD.below hb) hG9
      · obtain⟨g25,V,HX,HV,hb,hk⟩:=yw1 W #[] 166
        go_simp
        rw [HV.out,←HX.out]
        have hB':Below W0.heap.size W0 V:=trm hB hb
        refine hKK.out _ _ (ywg (HP0.out.below hB')) (fun hHeld=> ?_)
        try simp only [Act.put,List.setIfInBounds_toArray]
        try simp only [List.set_cons_succ]
        try simp only [List.set_cons_zero]
        refine ye9 (l':=(yw2 7863295)) (by kernel_rfl) ?_
        rw [←HGE.out]
        exact st21110.out V n0 n1 avi cvi avh cvh avs cvs g8 ad2 cd2 g12 g25 hB' (hM.below hb) hn0 (Nat.le_trans hn1 hb.size) (hD.below hb)
      · obtain⟨Kb,V,HX,HV,hb,hk⟩:=yw1 W #[.int .i64 0,.int .i64 0,.slice none 0 0,.slice none 0 0,.slice none 0 0,.int .i64 0,.slice none 0 0,.slice none 0 0,.slice none 0 0,.int .i64 0,.int .i64 0,.bool false,.slice none 0 0,.slice none 0 0] 41
        go_simp
        rw [HV.out,←HX.out]
        have hB':Below W0.heap.size W0 V:=trm hB hb
        refine hKK.out _ _ (ywg (HP0.out.below hB')) (fun hHeld=> ?_)
        try simp only [Act.put,List.setIfInBounds_toArray]
        try simp only [List.set_cons_succ]
        try simp only [List.set_cons_zero]
        refine ye9 (l':=(yw2 40369151)) (by kernel_rfl) ?_
        rw [←HGE.out]
        exact st21101.out V n0 n1 avi cvi avh cvh avs cvs g8 ad2 cd2 g12 Kb hB' (hM.below hb) hn0 (Nat.le_trans hn1 hb.size) (hD.below hb) hk (HX.out▸hB.size) (.inr (HX.out▸hn1))
    have st00111:Hid (∀(W:World) (g12:Nat) (g25:Nat) (Kb:Nat),Below W0.heap.size W0 W→Bk W Kb 41 #[.int .i64 0,.int .i64 0,.slice none 0 0,.slice none 0 0,.slice none 0 0,.int .i64 0,.slice none 0 0,.slice none 0 0,.slice none 0 0,.int .i64 0,.int .i64 0,.bool false,.slice none 0 0,.slice none 0 0]→W0.heap.size≤Kb→G 8 (yw2 41417651) (act5 m d ai ci ah ch ae ce ad cd ap cp N ab cb asx csx ax cx kb ks kx kt kq kf w.heap.size Rb (.pointer (some ⟨Kb,0,none⟩)) undef undef undef (.slice (some ⟨g12,0,none⟩) 0 0) undef undef (.slice (some ⟨g25,0,none⟩) 0 0) undef undef) W):=by
      intro W g12 g25 Kb hB hY hKw
      rw [HGE.out]
      unfold act5
      refine yag (rs:= [2,3]) (by kernel_rfl) (by simp) ?_
      refine AllReadyZ.cons (i:=2) rfl (fun K hKK=> ?_) (AllReadyZ.cons (i:=3) rfl (fun K hKK=> ?_) AllReadyZ.nil)
      · go_simp
        refine(yyl _ m W HSM.out.i HSM.out.h HSM.out.e (fun j _=>HSM.out.r j) (HM.out.below (trm HB0.out hB))).mono ?_
        rintro e V ⟨y0,rfl,hb,hmd⟩
        obtain⟨avi,cvi,avh,cvh,avs,cvs,rfl⟩:=hmd.form
        obtain⟨n0,hn0e⟩:∃n,n=W.heap.size:=⟨_,rfl⟩
        obtain⟨n1,hn1e⟩:∃n,n=V.heap.size:=⟨_,rfl⟩
        rw [←hn0e,←hn1e]at hmd
        have hn0:W0.heap.size≤n0∧W0.heap.size≤n1:=⟨hn0e▸hB.size,hn1e▸Nat.le_trans hB.size hb.size⟩
        have hn1:n1≤V.heap.size:=by omega
        have hKM':Kb<n0∨n1≤Kb:= .inl (hn0e▸hY.lt)
        try go_simp
        have hB':Below W0.heap.size W0 V:=trm hB hb
        refine hKK.out _ _ (ywg (HP0.out.below hB')) (fun hHeld=> ?_)
        try simp only [Act.put,List.setIfInBounds_toArray]
        try simp only [List.set_cons_succ]
        try simp only [List.set_cons_zero]
        refine ye9 (l':=(yw2 41417655)) (by kernel_rfl) ?_
        rw [←HGE.out]
        exact st10111.out V n0 n1 avi cvi avh cvh avs cvs g12 g25 Kb hB' hmd hn0 hn1 (hY.below hb) hKw hKM'
      · obtain⟨g8,V,HX,HV,hb,hk⟩:=yw1 W #[] 3
        go_simp
        rw [HV.out,←HX.out]
        have hB':Below W0.heap.size W0 V:=trm hB hb
        refine hKK.out _ _ (ywg (HP0.out.below hB')) (fun hHeld=> ?_)
        try simp only [Act.put,List.setIfInBounds_toArray]
        try simp only [List.set_cons_succ]
        try simp only [List.set_cons_zero]
        refine ye9 (l':=(yw2 41417659)) (by kernel_rfl) ?_
        rw [←HGE.out]
        exact st01111.out V g8 g12 g25 Kb hB' (hY.below hb) hKw
    have st01011:Hid (∀(W:World) (g8:Nat) (g25:Nat) (Kb:Nat),Below W0.heap.size W0 W→Bk W Kb 41 #[.int .i64 0,.int .i64 0,.slice none 0 0,.slice none 0 0,.slice none 0 0,.int .i64 0,.slice none 0 0,.slice none 0 0,.slice none 0 0,.int .i64 0,.int .i64 0,.bool false,.slice none 0 0,.slice none 0 0]→W0.heap.size≤Kb→G 8 (yw2 41417531) (act5 m d ai ci ah ch ae ce ad cd ap cp N ab cb asx csx ax cx kb ks kx kt kq kf w.heap.size Rb (.pointer (some ⟨Kb,0,none⟩)) undef (.slice (some ⟨g8,0,none⟩) 0 0) undef undef undef undef (.slice (some ⟨g25,0,none⟩) 0 0) undef undef) W):=by
      intro W g8 g25 Kb hB hY hKw
      rw [HGE.out]
      unfold act5
      refine yag (rs:= [2,7]) (by kernel_rfl) (by simp) ?_
      refine AllReadyZ.cons (i:=2) rfl (fun K hKK=> ?_) (AllReadyZ.cons (i:=7) rfl (fun K hKK=> ?_) AllReadyZ.nil)
      · go_simp
        refine(yyl _ m W HSM.out.i HSM.out.h HSM.out.e (fun j _=>HSM.out.r j) (HM.out.below (trm HB0.out hB))).mono ?_
        rintro e V ⟨y0,rfl,hb,hmd⟩
        obtain⟨avi,cvi,avh,cvh,avs,cvs,rfl⟩:=hmd.form
        obtain⟨n0,hn0e⟩:∃n,n=W.heap.size:=⟨_,rfl⟩
        obtain⟨n1,hn1e⟩:∃n,n=V.heap.size:=⟨_,rfl⟩
        rw [←hn0e,←hn1e]at hmd
        have hn0:W0.heap.size≤n0∧W0.heap.size≤n1:=⟨hn0e▸hB.size,hn1e▸Nat.le_trans hB.size hb.size⟩
        have hn1:n1≤V.heap.size:=by omega
        have hKM':Kb<n0∨n1≤Kb:= .inl (hn0e▸hY.lt)
        try go_simp
        have hB':Below W0.heap.size W0 V:=trm hB hb
        refine hKK.out _ _ (ywg (HP0.out.below hB')) (fun hHeld=> ?_)
        try simp only [Act.put,List.setIfInBounds_toArray]
        try simp only [List.set_cons_succ]
        try simp only [List.set_cons_zero]
        refine ye9 (l':=(yw2 41417535)) (by kernel_rfl) ?_
        rw [←HGE.out]
        exact st11011.out V n0 n1 avi cvi avh cvh avs cvs g8 g25 Kb hB' hmd hn0 hn1 (hY.below hb) hKw hKM'
      · obtain⟨g12,V,HX,HV,hb,hk⟩:=yw1 W #[] 152
        go_simp
        rw [HV.out,←HX.out]
        have hB':Below W0.heap.size W0 V:=trm hB hb
        refine hKK.out _ _ (ywg (HP0.out.below hB')) (fun hHeld=> ?_)
        try simp only [Act.put,List.setIfInBounds_toArray]
        try simp only [List.set_cons_succ]
        try simp only [List.set_cons_zero]
        refine ye9 (l':=(yw2 41417659)) (by kernel_rfl) ?_
        rw [←HGE.out]
        exact st01111.out V g8 g12 g25 Kb hB' (hY.below hb) hKw
    have st01101:Hid (∀(W:World) (g8:Nat) (g12:Nat) (Kb:Nat),Below W0.heap.size W0 W→Bk W Kb 41 #[.int .i64 0,.int .i64 0,.slice none 0 0,.slice none 0 0,.slice none 0 0,.int .i64 0,.slice none 0 0,.slice none 0 0,.slice none 0 0,.int .i64 0,.int .i64 0,.bool false,.slice none 0 0,.slice none 0 0]→W0.heap.size≤Kb→G 8 (yw2 40369083) (act5 m d ai ci ah ch ae ce ad cd ap cp N ab cb asx csx ax cx kb ks kx kt kq kf w.heap.size Rb (.pointer (some ⟨Kb,0,none⟩)) undef (.slice (some ⟨g8,0,none⟩) 0 0) undef (.slice (some ⟨g12,0,none⟩) 0 0) undef undef undef undef undef) W):=by
      intro W g8 g12 Kb hB hY hKw
      rw [HGE.out]
      unfold act5
      refine yag (rs:= [2,20]) (by kernel_rfl) (by simp) ?_
      refine AllReadyZ.cons (i:=2) rfl (fun K hKK=> ?_) (AllReadyZ.cons (i:=20) rfl (fun K hKK=> ?_) AllReadyZ.nil)
      · go_simp
        refine(yyl _ m W HSM.out.i HSM.out.h HSM.out.e (fun j _=>HSM.out.r j) (HM.out.below (trm HB0.out hB))).mono ?_
        rintro e V ⟨y0,rfl,hb,hmd⟩
        obtain⟨avi,cvi,avh,cvh,avs,cvs,rfl⟩:=hmd.form
        obtain⟨n0,hn0e⟩:∃n,n=W.heap.size:=⟨_,rfl⟩
        obtain⟨n1,hn1e⟩:∃n,n=V.heap.size:=⟨_,rfl⟩
        rw [←hn0e,←hn1e]at hmd
        have hn0:W0.heap.size≤n0∧W0.heap.size≤n1:=⟨hn0e▸hB.size,hn1e▸Nat.le_trans hB.size hb.size⟩
        have hn1:n1≤V.heap.size:=by omega
        have hKM':Kb<n0∨n1≤Kb:= .inl (hn0e▸hY.lt)
        try go_simp
        have hB':Below W0.heap.size W0 V:=trm hB hb
        refine hKK.out _ _ (ywg (HP0.out.below hB')) (fun hHeld=> ?_)
        try simp only [Act.put,List.setIfInBounds_toArray]
        try simp only [List.set_cons_succ]
        try simp only [List.set_cons_zero]
        refine ye9 (l':=(yw2 40369087)) (by kernel_rfl) ?_
        rw [←HGE.out]
        exact st11101.out V n0 n1 avi cvi avh cvh avs cvs g8 g12 Kb hB' hmd hn0 hn1 (hY.below hb) hKw hKM'
      · obtain⟨g25,V,HX,HV,hb,hk⟩:=yw1 W #[] 166
        go_simp
        rw [HV.out,←HX.out]
        have hB':Below W0.heap.size W0 V:=trm hB hb
        refine hKK.out _ _ (ywg (HP0.out.below hB')) (fun hHeld=> ?_)
        try simp only [Act.put,List.setIfInBounds_toArray]
        try simp only [List.set_cons_succ]
        try simp only [List.set_cons_zero]
        refine ye9 (l':=(yw2 41417659)) (by kernel_rfl) ?_
        rw [←HGE.out]
        exact st01111.out V g8 g12 g25 Kb hB' (hY.below hb) hKw
    have st01110:Hid (∀(W:World) (g8:Nat) (g12:Nat) (g25:Nat),Below W0.heap.size W0 W→G 8 (yw2 7863227) (act5 m d ai ci ah ch ae ce ad cd ap cp N ab cb asx csx ax cx kb ks kx kt kq kf w.heap.size Rb undef undef (.slice (some ⟨g8,0,none⟩) 0 0) undef (.slice (some ⟨g12,0,none⟩) 0 0) undef undef (.slice (some ⟨g25,0,none⟩) 0 0) undef undef) W):=by
      intro W g8 g12 g25 hB
      rw [HGE.out]
      unfold act5
      refine yag (rs:= [2,25]) (by kernel_rfl) (by simp) ?_
      refine AllReadyZ.cons (i:=2) rfl (fun K hKK=> ?_) (AllReadyZ.cons (i:=25) rfl (fun K hKK=> ?_) AllReadyZ.nil)
      · go_simp
        refine(yyl _ m W HSM.out.i HSM.out.h HSM.out.e (fun j _=>HSM.out.r j) (HM.out.below (trm HB0.out hB))).mono ?_
        rintro e V ⟨y0,rfl,hb,hmd⟩
        obtain⟨avi,cvi,avh,cvh,avs,cvs,rfl⟩:=hmd.form
        obtain⟨n0,hn0e⟩:∃n,n=W.heap.size:=⟨_,rfl⟩
        obtain⟨n1,hn1e⟩:∃n,n=V.heap.size:=⟨_,rfl⟩
        rw [←hn0e,←hn1e]at hmd
        have hn0:W0.heap.size≤n0∧W0.heap.size≤n1:=⟨hn0e▸hB.size,hn1e▸Nat.le_trans hB.size hb.size⟩
        have hn1:n1≤V.heap.size:=by omega
        try go_simp
        have hB':Below W0.heap.size W0 V:=trm hB hb
        refine hKK.out _ _ (ywg (HP0.out.below hB')) (fun hHeld=> ?_)
        try simp only [Act.put,List.setIfInBounds_toArray]
        try simp only [List.set_cons_succ]
        try simp only [List.set_cons_zero]
        refine ye9 (l':=(yw2 7863231)) (by kernel_rfl) ?_
        rw [←HGE.out]
        exact st11110.out V n0 n1 avi cvi avh cvh avs cvs g8 g12 g25 hB' hmd hn0 hn1
      · obtain⟨Kb,V,HX,HV,hb,hk⟩:=yw1 W #[.int .i64 0,.int .i64 0,.slice none 0 0,.slice none 0 0,.slice none 0 0,.int .i64 0,.slice none 0 0,.slice none 0 0,.slice none 0 0,.int .i64 0,.int .i64 0,.bool false,.slice none 0 0,.slice none 0 0] 41
        go_simp
        rw [HV.out,←HX.out]
        have hB':Below W0.heap.size W0 V:=trm hB hb
        refine hKK.out _ _ (ywg (HP0.out.below hB')) (fun hHeld=> ?_)
        try simp only [Act.put,List.setIfInBounds_toArray]
        try simp only [List.set_cons_succ]
        try simp only [List.set_cons_zero]
        refine ye9 (l':=(yw2 41417659)) (by kernel_rfl) ?_
        rw [←HGE.out]
        exact st01111.out V g8 g12 g25 Kb hB' hk (HX.out▸hB.size)
    have st10011:Hid (∀(W:World) (n0 n1:Nat) (avi:Option Addr) (cvi:Nat) (avh:Option Addr) (cvh:Nat) (avs:Option Addr) (cvs:Nat) (g25:Nat) (Kb:Nat),Below W0.heap.size W0 W→(MdF (fun j=>n0≤j∧j<n1) W (.agg #[.int .i64 m.n,.int .i64 m.s,.slice avi m.i.length cvi,.slice avh m.h.length cvh,.slice avs m.e.length cvs,.int .i64 m.z]) m)→(W0.heap.size≤n0∧W0.heap.size≤n1)→n1≤W.heap.size→Bk W Kb 41 #[.int .i64 0,.int .i64 0,.slice none 0 0,.slice none 0 0,.slice none 0 0,.int .i64 0,.slice none 0 0,.slice none 0 0,.slice none 0 0,.int .i64 0,.int .i64 0,.bool false,.slice none 0 0,.slice none 0 0]→W0.heap.size≤Kb→(Kb<n0∨n1≤Kb)→G 8 (yw2 41417527) (act5 m d ai ci ah ch ae ce ad cd ap cp N ab cb asx csx ax cx kb ks kx kt kq kf w.heap.size Rb (.pointer (some ⟨Kb,0,none⟩)) (.agg #[.int .i64 m.n,.int .i64 m.s,.slice avi m.i.length cvi,.slice avh m.h.length cvh,.slice avs m.e.length cvs,.int .i64 m.z]) undef undef undef undef undef (.slice (some ⟨g25,0,none⟩) 0 0) undef undef) W):=by
      intro W n0 n1 avi cvi avh cvh avs cvs g25 Kb hB hM hn0 hn1 hY hKw hKM
      rw [HGE.out]
      unfold act5
      refine yag (rs:= [3,7]) (by kernel_rfl) (by simp) ?_
      refine AllReadyZ.cons (i:=3) rfl (fun K hKK=> ?_) (AllReadyZ.cons (i:=7) rfl (fun K hKK=> ?_) AllReadyZ.nil)
      · obtain⟨g8,V,HX,HV,hb,hk⟩:=yw1 W #[] 3
        go_simp
        rw [HV.out,←HX.out]
        have hB':Below W0.heap.size W0 V:=trm hB hb
        refine hKK.out _ _ (ywg (HP0.out.below hB')) (fun hHeld=> ?_)
        try simp only [Act.put,List.setIfInBounds_toArray]
        try simp only [List.set_cons_succ]
        try simp only [List.set_cons_zero]
        refine ye9 (l':=(yw2 41417535)) (by kernel_rfl) ?_
        rw [←HGE.out]
        exact st11011.out V n0 n1 avi cvi avh cvh avs cvs g8 g25 Kb hB' (hM.below hb) hn0 (Nat.le_trans hn1 hb.size) (hY.below hb) hKw hKM
      · obtain⟨g12,V,HX,HV,hb,hk⟩:=yw1 W #[] 152
        go_simp
        rw [HV.out,←HX.out]
        have hB':Below W0.heap.size W0 V:=trm hB hb
        refine hKK.out _ _ (ywg (HP0.out.below hB')) (fun hHeld=> ?_)
        try simp only [Act.put,List.setIfInBounds_toArray]
        try simp only [List.set_cons_succ]
        try simp only [List.set_cons_zero]
        refine ye9 (l':=(yw2 41417655)) (by kernel_rfl) ?_
        rw [←HGE.out]
        exact st10111.out V n0 n1 avi cvi avh cvh avs cvs g12 g25 Kb hB' (hM.below hb) hn0 (Nat.le_trans hn1 hb.size) (hY.below hb) hKw hKM
    have st10101:Hid (∀(W:World) (n0 n1:Nat) (avi:Option Addr) (cvi:Nat) (avh:Option Addr) (cvh:Nat) (avs:Option Addr) (cvs:Nat) (g12:Nat) (Kb:Nat),Below W0.heap.size W0 W→(MdF (fun j=>n0≤j∧j<n1) W (.agg #[.int .i64 m.n,.int .i64 m.s,.slice avi m.i.length cvi,.slice avh m.h.length cvh,.slice avs m.e.length cvs,.int .i64 m.z]) m)→(W0.heap.size≤n0∧W0.heap.size≤n1)→n1≤W.heap.size→Bk W Kb 41 #[.int .i64 0,.int .i64 0,.slice none 0 0,.slice none 0 0,.slice none 0 0,.int .i64 0,.slice none 0 0,.slice none 0 0,.slice none 0 0,.int .i64 0,.int .i64 0,.bool false,.slice none 0 0,.slice none 0 0]→W0.heap.size≤Kb→(Kb<n0∨n1≤Kb)→G 8 (yw2 40369079) (act5 m d ai ci ah ch ae ce ad cd ap cp N ab cb asx csx ax cx kb ks kx kt kq kf w.heap.size Rb (.pointer (some ⟨Kb,0,none⟩)) (.agg #[.int .i64 m.n,.int .i64 m.s,.slice avi m.i.length cvi,.slice avh m.h.length cvh,.slice avs m.e.length cvs,.int .i64 m.z]) undef undef (.slice (some ⟨g12,0,none⟩) 0 0) undef undef undef undef undef) W):=by
      intro W n0 n1 avi cvi avh cvh avs cvs g12 Kb hB hM hn0 hn1 hY hKw hKM
      rw [HGE.out]
      unfold act5
      refine yag (rs:= [3,20]) (by kernel_rfl) (by simp) ?_
      refine AllReadyZ.cons (i:=3) rfl (fun K hKK=> ?_) (AllReadyZ.cons (i:=20) rfl (fun K hKK=> ?_) AllReadyZ.nil)
      · obtain⟨g8,V,HX,HV,hb,hk⟩:=yw1 W #[] 3
        go_simp
        rw [HV.out,←HX.out]
        have hB':Below W0.heap.size W0 V:=trm hB hb
        refine hKK.out _ _ (ywg (HP0.out.below hB')) (fun hHeld=> ?_)
        try simp only [Act.put,List.setIfInBounds_toArray]
        try simp only [List.set_cons_succ]
        try simp only [List.set_cons_zero]
        refine ye9 (l':=(yw2 40369087)) (by kernel_rfl) ?_
        rw [←HGE.out]
        exact st11101.out V n0 n1 avi cvi avh cvh avs cvs g8 g12 Kb hB' (hM.below hb) hn0 (Nat.le_trans hn1 hb.size) (hY.below hb) hKw hKM
      · obtain⟨g25,V,HX,HV,hb,hk⟩:=yw1 W #[] 166
        go_simp
        rw [HV.out,←HX.out]
        have hB':Below W0.heap.size W0 V:=trm hB hb
        refine hKK.out _ _ (ywg (HP0.out.below hB')) (fun hHeld=> ?_)
        try simp only [Act.put,List.setIfInBounds_toArray]
        try simp only [List.set_cons_succ]
        try simp only [List.set_cons_zero]
        refine ye9 (l':=(yw2 41417655)) (by kernel_rfl) ?_
        rw [←HGE.out]
        exact st10111.out V n0 n1 avi cvi avh cvh avs cvs g12 g25 Kb hB' (hM.below hb) hn0 (Nat.le_trans hn1 hb.size) (hY.below hb) hKw hKM
    have st10110:Hid (∀(W:World) (n0 n1:Nat) (avi:Option Addr) (cvi:Nat) (avh:Option Addr) (cvh:Nat) (avs:Option Addr) (cvs:Nat) (g12:Nat) (g25:Nat),Below W0.heap.size W0 W→(MdF (fun j=>n0≤j∧j<n1) W (.agg #[.int .i64 m.n,.int .i64 m.s,.slice avi m.i.length cvi,.slice avh m.h.length cvh,.slice avs m.e.length cvs,.int .i64 m.z]) m)→(W0.heap.size≤n0∧W0.heap.size≤n1)→n1≤W.heap.size→G 8 (yw2 7863223) (act5 m d ai ci ah ch ae ce ad cd ap cp N ab cb asx csx ax cx kb ks kx kt kq kf w.heap.size Rb undef (.agg #[.int .i64 m.n,.int .i64 m.s,.slice avi m.i.length cvi,.slice avh m.h.length cvh,.slice avs m.e.length cvs,.int .i64 m.z]) undef undef (.slice (some ⟨g12,0,none⟩) 0 0) undef undef (.slice (some ⟨g25,0,none⟩) 0 0) undef undef) W):=by
      intro W n0 n1 avi cvi avh cvh avs cvs g12 g25 hB hM hn0 hn1
      rw [HGE.out]
      unfold act5
      refine yag (rs:= [3,25]) (by kernel_rfl) (by simp) ?_
      refine AllReadyZ.cons (i:=3) rfl (fun K hKK=> ?_) (AllReadyZ.cons (i:=25) rfl (fun K hKK=> ?_) AllReadyZ.nil)
      · obtain⟨g8,V,HX,HV,hb,hk⟩:=yw1 W #[] 3
        go_simp
        rw [HV.out,←HX.out]
        have hB':Below W0.heap.size W0 V:=trm hB hb
        refine hKK.out _ _ (ywg (HP0.out.below hB')) (fun hHeld=> ?_)
        try simp only [Act.put,List.setIfInBounds_toArray]
        try simp only [List.set_cons_succ]
        try simp only [List.set_cons_zero]
        refine ye9 (l':=(yw2 7863231)) (by kernel_rfl) ?_
        rw [←HGE.out]
        exact st11110.out V n0 n1 avi cvi avh cvh avs cvs g8 g12 g25 hB' (hM.below hb) hn0 (Nat.le_trans hn1 hb.size)
      · obtain⟨Kb,V,HX,HV,hb,hk⟩:=yw1 W #[.int .i64 0,.int .i64 0,.slice none 0 0,.slice none 0 0,.slice none 0 0,.int .i64 0,.slice none 0 0,.slice none 0 0,.slice none 0 0,.int .i64 0,.int .i64 0,.bool false,.slice none 0 0,.slice none 0 0] 41
        go_simp
        rw [HV.out,←HX.out]
        have hB':Below W0.heap.size W0 V:=trm hB hb
        refine hKK.out _ _ (ywg (HP0.out.below hB')) (fun hHeld=> ?_)
        try simp only [Act.put,List.setIfInBounds_toArray]
        try simp only [List.set_cons_succ]
        try simp only [List.set_cons_zero]
        refine ye9 (l':=(yw2 41417655)) (by kernel_rfl) ?_
        rw [←HGE.out]
        exact st10111.out V n0 n1 avi cvi avh cvh avs cvs g12 g25 Kb hB' (hM.below hb) hn0 (Nat.le_trans hn1 hb.size) hk (HX.out▸hB.size) (.inr (HX.out▸hn1))
    have st11001:Hid (∀(W:World) (n0 n1:Nat) (avi:Option Addr) (cvi:Nat) (avh:Option Addr) (cvh:Nat) (avs:Option Addr) (cvs:Nat) (g8:Nat) (Kb:Nat),Below W0.heap.size W0 W→(MdF (fun j=>n0≤j∧j<n1) W (.agg #[.int .i64 m.n,.int .i64 m.s,.slice avi m.i.length cvi,.slice avh m.h.length cvh,.slice avs m.e.length cvs,.int .i64 m.z]) m)→(W0.heap.size≤n0∧W0.heap.size≤n1)→n1≤W.heap.size→Bk W Kb 41 #[.int .i64 0,.int .i64 0,.slice none 0 0,.slice none 0 0,.slice none 0 0,.int .i64 0,.slice none 0 0,.slice none 0 0,.slice none 0 0,.int .i64 0,.int .i64 0,.bool false,.slice none 0 0,.slice none 0 0]→W0.heap.size≤Kb→(Kb<n0∨n1≤Kb)→G 8 (yw2 40368959) (act5 m d ai ci ah ch ae ce ad cd ap cp N ab cb asx csx ax cx kb ks kx kt kq kf w.heap.size Rb (.pointer (some ⟨Kb,0,none⟩)) (.agg #[.int .i64 m.n,.int .i64 m.s,.slice avi m.i.length cvi,.slice avh m.h.length cvh,.slice avs m.e.length cvs,.int .i64 m.z]) (.slice (some ⟨g8,0,none⟩) 0 0) undef undef undef undef undef undef undef) W):=by
      intro W n0 n1 avi cvi avh cvh avs cvs g8 Kb hB hM hn0 hn1 hY hKw hKM
      rw [HGE.out]
      unfold act5
      refine yag (rs:= [6,7,20]) (by kernel_rfl) (by simp) ?_
      refine AllReadyZ.cons (i:=6) rfl (fun K hKK=> ?_) (AllReadyZ.cons (i:=7) rfl (fun K hKK=> ?_) (AllReadyZ.cons (i:=20) rfl (fun K hKK=> ?_) AllReadyZ.nil))
      · obtain⟨i0,hi0,hz0,hz1,hz2⟩:=info_parts zbs
        refine yyk rfl (.tmp 8) (.tmp 10) 22 rfl 3 i0 (.int .i64 0) 1 8 Tryz.underlying22 hi0 hz0 hz1 hz2 rfl (by decide) g8 rfl (.slice ad d.length cd) d.length (intCells d) rfl (HSD.out W (trm HB0.out hB)) (by unfold maxLen;have h9:=HLN.out;omega) (by have h9:=HLN.out;omega) ?_
        intro ad2 cd2 V hcap ho hb
        have hD9:OwnN n1 3 1 V (.slice ad2 d.length cd2) d.length (intCells d):=⟨_,_,rfl,hcap,ho.imp id (fun h=>yvh h hn1)⟩
        have hB':Below W0.heap.size W0 V:=trm hB hb
        refine hKK.out _ _ (ywg (HP0.out.below hB')) (fun hHeld=> ?_)
        try simp only [Act.put,List.setIfInBounds_toArray]
        try simp only [List.set_cons_succ]
        try simp only [List.set_cons_zero]
        refine ye9 (l':=(yw2 40369023)) (by kernel_rfl) ?_
        rw [←HGE.out]
        exact st21001.out V n0 n1 avi cvi avh cvh avs cvs g8 ad2 cd2 Kb hB' (hM.below hb) hn0 (Nat.le_trans hn1 hb.size) hD9 (hY.below hb) hKw hKM
      · obtain⟨g12,V,HX,HV,hb,hk⟩:=yw1 W #[] 152
        go_simp
        rw [HV.out,←HX.out]
        have hB':Below W0.heap.size W0 V:=trm hB hb
        refine hKK.out _ _ (ywg (HP0.out.below hB')) (fun hHeld=> ?_)
        try simp only [Act.put,List.setIfInBounds_toArray]
        try simp only [List.set_cons_succ]
        try simp only [List.set_cons_zero]
        refine ye9 (l':=(yw2 40369087)) (by kernel_rfl) ?_
        rw [←HGE.out]
        exact st11101.out V n0 n1 avi cvi avh cvh avs cvs g8 g12 Kb hB' (hM.below hb) hn0 (Nat.le_trans hn1 hb.size) (hY.below hb) hKw hKM
      · obtain⟨g25,V,HX,HV,hb,hk⟩:=yw1 W #[] 166
        go_simp
        rw [HV.out,←HX.out]
        have hB':Below W0.heap.size W0 V:=trm hB hb
        refine hKK.out _ _ (ywg (HP0.out.below hB')) (fun hHeld=> ?_)
        try simp only [Act.put,List.setIfInBounds_toArray]
        try simp only [List.set_cons_succ]
        try simp only [List.set_cons_zero]
        refine ye9 (l':=(yw2 41417535)) (by kernel_rfl) ?_
        rw [←HGE.out]
        exact st11011.out V n0 n1 avi cvi avh cvh avs cvs g8 g25 Kb hB' (hM.below hb) hn0 (Nat.le_trans hn1 hb.size) (hY.below hb) hKw hKM
    have st11010:Hid (∀(W:World) (n0 n1:Nat) (avi:Option Addr) (cvi:Nat) (avh:Option Addr) (cvh:Nat) (avs:Option Addr) (cvs:Nat) (g8:Nat) (g25:Nat),Below W0.heap.size W0 W→(MdF (fun j=>n0≤j∧j<n1) W (.agg #[.int .i64 m.n,.int .i64 m.s,.slice avi m.i.length cvi,.slice avh m.h.length cvh,.slice avs m.e.length cvs,.int .i64 m.z]) m)→(W0.heap.size≤n0∧W0.heap.size≤n1)→n1≤W.heap.size→G 8 (yw2 7863103) (act5 m d ai ci ah ch ae ce ad cd ap cp N ab cb asx csx ax cx kb ks kx kt kq kf w.heap.size Rb undef (.agg #[.int .i64 m.n,.int .i64 m.s,.slice avi m.i.length cvi,.slice avh m.h.length cvh,.slice avs m.e.length cvs,.int .i64 m.z]) (.slice (some ⟨g8,0,none⟩) 0 0) undef undef undef undef (.slice (some ⟨g25,0,none⟩) 0 0) undef undef) W):=by
      intro W n0 n1 avi cvi avh cvh avs cvs g8 g25 hB hM hn0 hn1
      rw [HGE.out]
      unfold act5
      refine yag (rs:= [6,7,25]) (by kernel_rfl) (by simp) ?_
      refine AllReadyZ.cons (i:=6) rfl (fun K hKK=> ?_) (AllReadyZ.cons (i:=7) rfl (fun K hKK=> ?_) (AllReadyZ.cons (i:=25) rfl (fun K hKK=> ?_) AllReadyZ.nil))
      · obtain⟨i0,hi0,hz0,hz1,hz2⟩:=info_parts zbs
        refine yyk rfl (.tmp 8) (.tmp 10) 22 rfl 3 i0 (.int .i64 0) 1 8 Tryz.underlying22 hi0 hz0 hz1 hz2 rfl (by decide) g8 rfl (.slice ad d.length cd) d.length (intCells d) rfl (HSD.out W (trm HB0.out hB)) (by unfold maxLen;have h9:=HLN.out;omega) (by have h9:=HLN.out;omega) ?_
        intro ad2 cd2 V hcap ho hb
        have hD9:OwnN n1 3 1 V (.slice ad2 d.length cd2) d.length (intCells d):=⟨_,_,rfl,hcap,ho.imp id (fun h=>yvh h hn1)⟩
        have hB':Below W0.heap.size W0 V:=trm hB hb
        refine hKK.out _ _ (ywg (HP0.out.below hB')) (fun hHeld=> ?_)
        try simp only [Act.put,List.setIfInBounds_toArray]
        try simp only [List.set_cons_succ]
        try simp only [List.set_cons_zero]
        refine ye9 (l':=(yw2 7863167)) (by kernel_rfl) ?_
        rw [←HGE.out]
        exact st21010.out V n0 n1 avi cvi avh cvh avs cvs g8 ad2 cd2 g25 hB' (hM.below hb) hn0 (Nat.le_trans hn1 hb.size) hD9
      · obtain⟨g12,V,HX,HV,hb,hk⟩:=yw1 W #[] 152
        go_simp
        rw [HV.out,←HX.out]
        have hB':Below W0.heap.size W0 V:=trm hB hb
        refine hKK.out _ _ (ywg (HP0.out.below hB')) (fun hHeld=> ?_)
        try simp only [Act.put,List.setIfInBounds_toArray]
        try simp only [List.set_cons_succ]
        try simp only [List.set_cons_zero]
        refine ye9 (l':=(yw2 7863231)) (by kernel_rfl) ?_
        rw [←HGE.out]
        exact st11110.out V n0 n1 avi cvi avh cvh avs cvs g8 g12 g25 hB' (hM.below hb) hn0 (Nat.le_trans hn1 hb.size)
      · obtain⟨Kb,V,HX,HV,hb,hk⟩:=yw1 W #[.int .i64 0,.int .i64 0,.slice none 0 0,.slice none 0 0,.slice none 0 0,.int .i64 0,.slice none 0 0,.slice none 0 0,.slice none 0 0,.int .i64 0,.int .i64 0,.bool false,.slice none 0 0,.slice none 0 0] 41
        go_simp
        rw [HV.out,←HX.out]
        have hB':Below W0.heap.size W0 V:=trm hB hb
        refine hKK.out _ _ (ywg (HP0.out.below hB')) (fun hHeld=> ?_)
        try simp only [Act.put,List.setIfInBounds_toArray]
        try simp only [List.set_cons_succ]
        try simp only [List.set_cons_zero]
        refine ye9 (l':=(yw2 41417535)) (by kernel_rfl) ?_
        rw [←HGE.out]
        exact st11011.out V n0 n1 avi cvi avh cvh avs cvs g8 g25 Kb hB' (hM.below hb) hn0 (Nat.le_trans hn1 hb.size) hk (HX.out▸hB.size) (.inr (HX.out▸hn1))
    have st11100:Hid (∀(W:World) (n0 n1:Nat) (avi:Option Addr) (cvi:Nat) (avh:Option Addr) (cvh:Nat) (avs:Option Addr) (cvs:Nat) (g8:Nat) (g12:Nat),Below W0.heap.size W0 W→(MdF (fun j=>n0≤j∧j<n1) W (.agg #[.int .i64 m.n,.int .i64 m.s,.slice avi m.i.length cvi,.slice avh m.h.length cvh,.slice avs m.e.length cvs,.int .i64 m.z]) m)→(W0.heap.size≤n0∧W0.heap.size≤n1)→n1≤W.heap.size→G 8 (yw2 6814655) (act5 m d ai ci ah ch ae ce ad cd ap cp N ab cb asx csx ax cx kb ks kx kt kq kf w.heap.size Rb undef (.agg #[.int .i64 m.n,.int .i64 m.s,.slice avi m.i.length cvi,.slice avh m.h.length cvh,.slice avs m.e.length cvs,.int .i64 m.z]) (.slice (some ⟨g8,0,none⟩) 0 0) undef (.slice (some ⟨g12,0,none⟩) 0 0) undef undef undef undef undef) W):=by
      intro W n0 n1 avi cvi avh cvh avs cvs g8 g12 hB hM hn0 hn1
      rw [HGE.out]
      unfold act5
      refine yag (rs:= [6,20,25]) (by kernel_rfl) (by simp) ?_
      refine AllReadyZ.cons (i:=6) rfl (fun K hKK=> ?_) (AllReadyZ.cons (i:=20) rfl (fun K hKK=> ?_) (AllReadyZ.cons (i:=25) rfl (fun K hKK=> ?_) AllReadyZ.nil))
      · obtain⟨i0,hi0,hz0,hz1,hz2⟩:=info_parts zbs
        refine yyk rfl (.tmp 8) (.tmp 10) 22 rfl 3 i0 (.int .i64 0) 1 8 Tryz.underlying22 hi0 hz0 hz1 hz2 rfl (by decide) g8 rfl (.slice ad d.length cd) d.length (intCells d) rfl (HSD.out W (trm HB0.out hB)) (by unfold maxLen;have h9:=HLN.out;omega) (by have h9:=HLN.out;omega) ?_
        intro ad2 cd2 V hcap ho hb
        have hD9:OwnN n1 3 1 V (.slice ad2 d.length cd2) d.length (intCells d):=⟨_,_,rfl,hcap,ho.imp id (fun h=>yvh h hn1)⟩
        have hB':Below W0.heap.size W0 V:=trm hB hb
        refine hKK.out _ _ (ywg (HP0.out.below hB')) (fun hHeld=> ?_)
        try simp only [Act.put,List.setIfInBounds_toArray]
        try simp only [List.set_cons_succ]
        try simp only [List.set_cons_zero]
        refine ye9 (l':=(yw2 6814719)) (by kernel_rfl) ?_
        rw [←HGE.out]
        exact st21100.out V n0 n1 avi cvi avh cvh avs cvs g8 ad2 cd2 g12 hB' (hM.below hb) hn0 (Nat.le_trans hn1 hb.size) hD9
      · obtain⟨g25,V,HX,HV,hb,hk⟩:=yw1 W #[] 166
        go_simp
        rw [HV.out,←HX.out]
        have hB':Below W0.heap.size W0 V:=trm hB hb
        refine hKK.out _ _ (ywg (HP0.out.below hB')) (fun hHeld=> ?_)
        try simp only [Act.put,List.setIfInBounds_toArray]
        try simp only [List.set_cons_succ]
        try simp only [List.set_cons_zero]
        refine ye9 (l':=(yw2 7863231)) (by kernel_rfl) ?_
        rw [←HGE.out]
        exact st11110.out V n0 n1 avi cvi avh cvh avs cvs g8 g12 g25 hB' (hM.below hb) hn0 (Nat.le_trans hn1 hb.size)
      · obtain⟨Kb,V,HX,HV,hb,hk⟩:=yw1 W #[.int .i64 0,.int .i64 0,.slice none 0 0,.slice none 0 0,.slice none 0 0,.int .i64 0,.slice none 0 0,.slice none 0 0,.slice none 0 0,.int .i64 0,.int .i64 0,.bool false,.slice none 0 0,.slice none 0 0] 41
        go_simp
        rw [HV.out,←HX.out]
        have hB':Below W0.heap.size W0 V:=trm hB hb
        refine hKK.out _ _ (ywg (HP0.out.below hB')) (fun hHeld=> ?_)
        try simp only [Act.put,List.setIfInBounds_toArray]
        try simp only [List.set_cons_succ]
        try simp only [List.set_cons_zero]
        refine ye9 (l':=(yw2 40369087)) (by kernel_rfl) ?_
        rw [←HGE.out]
        exact st11101.out V n0 n1 avi cvi avh cvh avs cvs g8 g12 Kb hB' (hM.below hb) hn0 (Nat.le_trans hn1 hb.size) hk (HX.out▸hB.size) (.inr (HX.out▸hn1))
    have st21000:Hid (∀(W:World) (n0 n1:Nat) (avi:Option Addr) (cvi:Nat) (avh:Option Addr) (cvh:Nat) (avs:Option Addr) (cvs:Nat) (g8:Nat) (ad2:Option Addr) (cd2:Nat),Below W0.heap.size W0 W→(MdF (fun j=>n0≤j∧j<n1) W (.agg #[.int .i64 m.n,.int .i64 m.s,.slice avi m.i.length cvi,.slice avh m.h.length cvh,.slice avs m.e.length cvs,.int .i64 m.z]) m)→(W0.heap.size≤n0∧W0.heap.size≤n1)→n1≤W.heap.size→OwnN n1 3 1 W (.slice ad2 d.length cd2) d.length (intCells d)→G 8 (yw2 6814591) (act5 m d ai ci ah ch ae ce ad cd ap cp N ab cb asx csx ax cx kb ks kx kt kq kf w.heap.size Rb undef (.agg #[.int .i64 m.n,.int .i64 m.s,.slice avi m.i.length cvi,.slice avh m.h.length cvh,.slice avs m.e.length cvs,.int .i64 m.z]) (.slice (some ⟨g8,0,none⟩) 0 0) (.slice ad2 d.length cd2) undef undef undef undef undef undef) W):=by
      intro W n0 n1 avi cvi avh cvh avs cvs g8 ad2 cd2 hB hM hn0 hn1 hD
      rw [HGE.out]
      unfold act5
      refine yag (rs:= [7,20,25]) (by kernel_rfl) (by simp) ?_
      refine AllReadyZ.cons (i:=7) rfl (fun K hKK=> ?_) (AllReadyZ.cons (i:=20) rfl (fun K hKK=> ?_) (AllReadyZ.cons (i:=25) rfl (fun K hKK=> ?_) AllReadyZ.nil))
      · obtain⟨g12,V,HX,HV,hb,hk⟩:=yw1 W #[] 152
        go_simp
        rw [HV.out,←HX.out]
        have hB':Below W0.heap.size W0 V:=trm hB hb
        refine hKK.out _ _ (ywg (HP0.out.below hB')) (fun hHeld=> ?_)
        try simp only [Act.put,List.setIfInBounds_toArray]
        try simp only [List.set_cons_succ]
        try simp only [List.set_cons_zero]
        refine ye9 (l':=(yw2 6814719)) (by kernel_rfl) ?_
        rw [←HGE.out]
        exact st21100.out V n0 n1 avi cvi avh cvh avs cvs g8 ad2 cd2 g12 hB' (hM.below hb) hn0 (Nat.le_trans hn1 hb.size) (hD.below hb)
      · obtain⟨g25,V,HX,HV,hb,hk⟩:=yw1 W #[] 166
        go_simp
        rw [HV.out,←HX.out]
        have hB':Below W0.heap.size W0 V:=trm hB hb
        refine hKK.out _ _ (ywg (HP0.out.below hB')) (fun hHeld=> ?_)
        try simp only [Act.put,List.setIfInBounds_toArray]
        try simp only [List.set_cons_succ]
        try simp only [List.set_cons_zero]
        refine ye9 (l':=(yw2 7863167)) (by kernel_rfl) ?_
        rw [←HGE.out]
        exact st21010.out V n0 n1 avi cvi avh cvh avs cvs g8 ad2 cd2 g25 hB' (hM.below hb) hn0 (Nat.le_trans hn1 hb.size) (hD.below hb)
      · obtain⟨Kb,V,HX,HV,hb,hk⟩:=yw1 W #[.int .i64 0,.int .i64 0,.slice none 0 0,.slice none 0 0,.slice none 0 0,.int .i64 0,.slice none 0 0,.slice none 0 0,.slice none 0 0,.int .i64 0,.int .i64 0,.bool false,.slice none 0 0,.slice none 0 0] 41
        go_simp
        rw [HV.out,←HX.out]
        have hB':Below W0.heap.size W0 V:=trm hB hb
        refine hKK.out _ _ (ywg (HP0.out.below hB')) (fun hHeld=> ?_)
        try simp only [Act.put,List.setIfInBounds_toArray]
        try simp only [List.set_cons_succ]
        try simp only [List.set_cons_zero]
        refine ye9 (l':=(yw2 40369023)) (by kernel_rfl) ?_
        rw [←HGE.out]
        exact st21001.out V n0 n1 avi cvi avh cvh avs cvs g8 ad2 cd2 Kb hB' (hM.below hb) hn0 (Nat.le_trans hn1 hb.size) (hD.below hb) hk (HX.out▸hB.size) (.inr (HX.out▸hn1))
    have st00011:Hid (∀(W:World) (g25:Nat) (Kb:Nat),Below W0.heap.size W0 W→Bk W Kb 41 #[.int .i64 0,.int .i64 0,.slice none 0 0,.slice none 0 0,.slice none 0 0,.int .i64 0,.slice none 0 0,.slice none 0 0,.slice none 0 0,.int .i64 0,.int .i64 0,.bool false,.slice none 0 0,.slice none 0 0]→W0.heap.size≤Kb→G 9 (yw2 41417523) (act5 m d ai ci ah ch ae ce ad cd ap cp N ab cb asx csx ax cx kb ks kx kt kq kf w.heap.size Rb (.pointer (some ⟨Kb,0,none⟩)) undef undef undef undef undef undef (.slice (some ⟨g25,0,none⟩) 0 0) undef undef) W):=by
      intro W g25 Kb hB hY hKw
      rw [HGE.out]
      unfold act5
      refine yag (rs:= [2,3,7]) (by kernel_rfl) (by simp) ?_
      refine AllReadyZ.cons (i:=2) rfl (fun K hKK=> ?_) (AllReadyZ.cons (i:=3) rfl (fun K hKK=> ?_) (AllReadyZ.cons (i:=7) rfl (fun K hKK=> ?_) AllReadyZ.nil))
      · go_simp
        refine(yyl _ m W HSM.out.i HSM.out.h HSM.out.e (fun j _=>HSM.out.r j) (HM.out.below (trm HB0.out hB))).mono ?_
        rintro e V ⟨y0,rfl,hb,hmd⟩
        obtain⟨avi,cvi,avh,cvh,avs,cvs,rfl⟩:=hmd.form
        obtain⟨n0,hn0e⟩:∃n,n=W.heap.size:=⟨_,rfl⟩
        obtain⟨n1,hn1e⟩:∃n,n=V.heap.size:=⟨_,rfl⟩
        rw [←hn0e,←hn1e]at hmd
        have hn0:W0.heap.size≤n0∧W0.heap.size≤n1:=⟨hn0e▸hB.size,hn1e▸Nat.le_trans hB.size hb.size⟩
        have hn1:n1≤V.heap.size:=by omega
        have hKM':Kb<n0∨n1≤Kb:= .inl (hn0e▸hY.lt)
        try go_simp
        have hB':Below W0.heap.size W0 V:=trm hB hb
        refine hKK.out _ _ (ywg (HP0.out.below hB')) (fun hHeld=> ?_)
        try simp only [Act.put,List.setIfInBounds_toArray]
        try simp only [List.set_cons_succ]
        try simp only [List.set_cons_zero]
        refine ye9 (l':=(yw2 41417527)) (by kernel_rfl) ?_
        rw [←HGE.out]
        exact st10011.out V n0 n1 avi cvi avh cvh avs cvs g25 Kb hB' hmd hn0 hn1 (hY.below hb) hKw hKM'
      · obtain⟨g8,V,HX,HV,hb,hk⟩:=yw1 W #[] 3
        go_simp
        rw [HV.out,←HX.out]
        have hB':Below W0.heap.size W0 V:=trm hB hb
        refine hKK.out _ _ (ywg (HP0.out.below hB')) (fun hHeld=> ?_)
        try simp only [Act.put,List.setIfInBounds_toArray]
        try simp only [List.set_cons_succ]
        try simp only [List.set_cons_zero]
        refine ye9 (l':=(yw2 41417531)) (by kernel_rfl) ?_
        rw [←HGE.out]
        exact st01011.out V g8 g25 Kb hB' (hY.below hb) hKw
      · obtain⟨g12,V,HX,HV,hb,hk⟩:=yw1 W #[] 152
        go_simp
        rw [HV.out,←HX.out]
        have hB':Below W0.heap.size W0 V:=trm hB hb
        refine hKK.out _ _ (ywg (HP0.out.below hB')) (fun hHeld=> ?_)
        try simp only [Act.put,List.setIfInBounds_toArray]
        try simp only [List.set_cons_succ]
        try simp only [List.set_cons_zero]
        refine ye9 (l':=(yw2 41417651)) (by kernel_rfl) ?_
        rw [←HGE.out]
        exact st00111.out V g12 g25 Kb hB' (hY.below hb) hKw
    have st00101:Hid (∀(W:World) (g12:Nat) (Kb:Nat),Below W0.heap.size W0 W→Bk W Kb 41 #[.int .i64 0,.int .i64 0,.slice none 0 0,.slice none 0 0,.slice none 0 0,.int .i64 0,.slice none 0 0,.slice none 0 0,.slice none 0 0,.int .i64 0,.int .i64 0,.bool false,.slice none 0 0,.slice none 0 0]→W0.heap.size≤Kb→G 9 (yw2 40369075) (act5 m d ai ci ah ch ae ce ad cd ap cp N ab cb asx csx ax cx kb ks kx kt kq kf w.heap.size Rb (.pointer (some ⟨Kb,0,none⟩)) undef undef undef (.slice (some ⟨g12,0,none⟩) 0 0) undef undef undef undef undef) W):=by
      intro W g12 Kb hB hY hKw
      rw [HGE.out]
      unfold act5
      refine yag (rs:= [2,3,20]) (by kernel_rfl) (by simp) ?_
      refine AllReadyZ.cons (i:=2) rfl (fun K hKK=> ?_) (AllReadyZ.cons (i:=3) rfl (fun K hKK=> ?_) (AllReadyZ.cons (i:=20) rfl (fun K hKK=> ?_) AllReadyZ.nil))
      · go_simp
        refine(yyl _ m W HSM.out.i HSM.out.h HSM.out.e (fun j _=>HSM.out.r j) (HM.out.below (trm HB0.out hB))).mono ?_
        rintro e V ⟨y0,rfl,hb,hmd⟩
        obtain⟨avi,cvi,avh,cvh,avs,cvs,rfl⟩:=hmd.form
        obtain⟨n0,hn0e⟩:∃n,n=W.heap.size:=⟨_,rfl⟩
        obtain⟨n1,hn1e⟩:∃n,n=V.heap.size:=⟨_,rfl⟩
        rw [←hn0e,←hn1e]at hmd
        have hn0:W0.heap.size≤n0∧W0.heap.size≤n1:=⟨hn0e▸hB.size,hn1e▸Nat.le_trans hB.size hb.size⟩
        have hn1:n1≤V.heap.size:=by omega
        have hKM':Kb<n0∨n1≤Kb:= .inl (hn0e▸hY.lt)
        try go_simp
        have hB':Below W0.heap.size W0 V:=trm hB hb
        refine hKK.out _ _ (ywg (HP0.out.below hB')) (fun hHeld=> ?_)
        try simp only [Act.put,List.setIfInBounds_toArray]
        try simp only [List.set_cons_succ]
        try simp only [List.set_cons_zero]
        refine ye9 (l':=(yw2 40369079)) (by kernel_rfl) ?_
        rw [←HGE.out]
        exact st10101.out V n0 n1 avi cvi avh cvh avs cvs g12 Kb hB' hmd hn0 hn1 (hY.below hb) hKw hKM'
      · obtain⟨g8,V,HX,HV,hb,hk⟩:=yw1 W #[] 3
        go_simp
        rw [HV.out,←HX.out]
        have hB':Below W0.heap.size W0 V:=trm hB hb
        refine hKK.out _ _ (ywg (HP0.out.below hB')) (fun hHeld=> ?_)
        try simp only [Act.put,List.setIfInBounds_toArray]
        try simp only [List.set_cons_succ]
        try simp only [List.set_cons_zero]
        refine ye9 (l':=(yw2 40369083)) (by kernel_rfl) ?_
        rw [←HGE.out]
        exact st01101.out V g8 g12 Kb hB' (hY.below hb) hKw
      · obtain⟨g25,V,HX,HV,hb,hk⟩:=yw1 W #[] 166
        go_simp
        rw [HV.out,←HX.out]
        have hB':Below W0.heap.size W0 V:=trm hB hb
        refine hKK.out _ _ (ywg (HP0.out.below hB')) (fun hHeld=> ?_)
        try simp only [Act.put,List.setIfInBounds_toArray]
        try simp only [List.set_cons_succ]
        try simp only [List.set_cons_zero]
        refine ye9 (l':=(yw2 41417651)) (by kernel_rfl) ?_
        rw [←HGE.out]
        exact st00111.out V g12 g25 Kb hB' (hY.below hb) hKw
    have st00110:Hid (∀(W:World) (g12:Nat) (g25:Nat),Below W0.heap.size W0 W→G 9 (yw2 7863219) (act5 m d ai ci ah ch ae ce ad cd ap cp N ab cb asx csx ax cx kb ks kx kt kq kf w.heap.size Rb undef undef undef undef (.slice (some ⟨g12,0,none⟩) 0 0) undef undef (.slice (some ⟨g25,0,none⟩) 0 0) undef undef) W):=by
      intro W g12 g25 hB
      rw [HGE.out]
      unfold act5
      refine yag (rs:= [2,3,25]) (by kernel_rfl) (by simp) ?_
      refine AllReadyZ.cons (i:=2) rfl (fun K hKK=> ?_) (AllReadyZ.cons (i:=3) rfl (fun K hKK=> ?_) (AllReadyZ.cons (i:=25) rfl (fun K hKK=> ?_) AllReadyZ.nil))
      · go_simp
        refine(yyl _ m W HSM.out.i HSM.out.h HSM.out.e (fun j _=>HSM.out.r j) (HM.out.below (trm HB0.out hB))).mono ?_
        rintro e V ⟨y0,rfl,hb,hmd⟩
        obtain⟨avi,cvi,avh,cvh,avs,cvs,rfl⟩:=hmd.form
        obtain⟨n0,hn0e⟩:∃n,n=W.heap.size:=⟨_,rfl⟩
        obtain⟨n1,hn1e⟩:∃n,n=V.heap.size:=⟨_,rfl⟩
        rw [←hn0e,←hn1e]at hmd
        have hn0:W0.heap.size≤n0∧W0.heap.size≤n1:=⟨hn0e▸hB.size,hn1e▸Nat.le_trans hB.size hb.size⟩
        have hn1:n1≤V.heap.size:=by omega
        try go_simp
        have hB':Below W0.heap.size W0 V:=trm hB hb
        refine hKK.out _ _ (ywg (HP0.out.below hB')) (fun hHeld=> ?_)
        try simp only [Act.put,List.setIfInBounds_toArray]
        try simp only [List.set_cons_succ]
        try simp only [List.set_cons_zero]
        refine ye9 (l':=(yw2 7863223)) (by kernel_rfl) ?_
        rw [←HGE.out]
        exact st10110.out V n0 n1 avi cvi avh cvh avs cvs g12 g25 hB' hmd hn0 hn1
      · obtain⟨g8,V,HX,HV,hb,hk⟩:=yw1 W #[] 3
        go_simp
        rw [HV.out,←HX.out]
        have hB':Below W0.heap.size W0 V:=trm hB hb
        refine hKK.out _ _ (ywg (HP0.out.below hB')) (fun hHeld=> ?_)
        try simp only [Act.put,List.setIfInBounds_toArray]
        try simp only [List.set_cons_succ]
        try simp only [List.set_cons_zero]
        refine ye9 (l':=(yw2 7863227)) (by kernel_rfl) ?_
        rw [←HGE.out]
        exact st01110.out V g8 g12 g25 hB'
      · obtain⟨Kb,V,HX,HV,hb,hk⟩:=yw1 W #[.int .i64 0,.int .i64 0,.slice none 0 0,.slice none 0 0,.slice none 0 0,.int .i64 0,.slice none 0 0,.slice none 0 0,.slice none 0 0,.int .i64 0,.int .i64 0,.bool false,.slice none 0 0,.slice none 0 0] 41
        go_simp
        rw [HV.out,←HX.out]
        have hB':Below W0.heap.size W0 V:=trm hB hb
        refine hKK.out _ _ (ywg (HP0.out.below hB')) (fun hHeld=> ?_)
        try simp only [Act.put,List.setIfInBounds_toArray]
        try simp only [List.set_cons_succ]
        try simp only [List.set_cons_zero]
        refine ye9 (l':=(yw2 41417651)) (by kernel_rfl) ?_
        rw [←HGE.out]
        exact st00111.out V g12 g25 Kb hB' hk (HX.out▸hB.size)
    have st01001:Hid (∀(W:World) (g8:Nat) (Kb:Nat),Below W0.heap.size W0 W→Bk W Kb 41 #[.int .i64 0,.int .i64 0,.slice none 0 0,.slice none 0 0,.slice none 0 0,.int .i64 0,.slice none 0 0,.slice none 0 0,.slice none 0 0,.int .i64 0,.int .i64 0,.bool false,.slice none 0 0,.slice none 0 0]→W0.heap.size≤Kb→G 9 (yw2 40368955) (act5 m d ai ci ah ch ae ce ad cd ap cp N ab cb asx csx ax cx kb ks kx kt kq kf w.heap.size Rb (.pointer (some ⟨Kb,0,none⟩)) undef (.slice (some ⟨g8,0,none⟩) 0 0) undef undef undef undef undef undef undef) W):=by
      intro W g8 Kb hB hY hKw
      rw [HGE.out]
      unfold act5
      refine yag (rs:= [2,7,20]) (by kernel_rfl) (by simp) ?_
      refine AllReadyZ.cons (i:=2) rfl (fun K hKK=> ?_) (AllReadyZ.cons (i:=7) rfl (fun K hKK=> ?_) (AllReadyZ.cons (i:=20) rfl (fun K hKK=> ?_) AllReadyZ.nil))
      · go_simp
        refine(yyl _ m W HSM.out.i HSM.out.h HSM.out.e (fun j _=>HSM.out.r j) (HM.out.below (trm HB0.out hB))).mono ?_
        rintro e V ⟨y0,rfl,hb,hmd⟩
        obtain⟨avi,cvi,avh,cvh,avs,cvs,rfl⟩:=hmd.form
        obtain⟨n0,hn0e⟩:∃n,n=W.heap.size:=⟨_,rfl⟩
        obtain⟨n1,hn1e⟩:∃n,n=V.heap.size:=⟨_,rfl⟩
        rw [←hn0e,←hn1e]at hmd
        have hn0:W0.heap.size≤n0∧W0.heap.size≤n1:=⟨hn0e▸hB.size,hn1e▸Nat.le_trans hB.size hb.size⟩
        have hn1:n1≤V.heap.size:=by omega
        have hKM':Kb<n0∨n1≤Kb:= .inl (hn0e▸hY.lt)
        try go_simp
        have hB':Below W0.heap.size W0 V:=trm hB hb
        refine hKK.out _ _ (ywg (HP0.out.below hB')) (fun hHeld=> ?_)
        try simp only [Act.put,List.setIfInBounds_toArray]
        try simp only [List.set_cons_succ]
        try simp only [List.set_cons_zero]
        refine ye9 (l':=(yw2 40368959)) (by kernel_rfl) ?_
        rw [←HGE.out]
        exact st11001.out V n0 n1 avi cvi avh cvh avs cvs g8 Kb hB' hmd hn0 hn1 (hY.below hb) hKw hKM'
      · obtain⟨g12,V,HX,HV,hb,hk⟩:=yw1 W #[] 152
        go_simp
        rw [HV.out,←HX.out]
        have hB':Below W0.heap.size W0 V:=trm hB hb
        refine hKK.out _ _ (ywg (HP0.out.below hB')) (fun hHeld=> ?_)
        try simp only [Act.put,List.setIfInBounds_toArray]
        try simp only [List.set_cons_succ]
        try simp only [List.set_cons_zero]
        refine ye9 (l':=(yw2 40369083)) (by kernel_rfl) ?_
        rw [←HGE.out]
        exact st01101.out V g8 g12 Kb hB' (hY.below hb) hKw
      · obtain⟨g25,V,HX,HV,hb,hk⟩:=yw1 W #[] 166
        go_simp
        rw [HV.out,←HX.out]
        have hB':Below W0.heap.size W0 V:=trm hB hb
        refine hKK.out _ _ (ywg (HP0.out.below hB')) (fun hHeld=> ?_)
        try simp only [Act.put,List.setIfInBounds_toArray]
        try simp only [List.set_cons_succ]
        try simp only [List.set_cons_zero]
        refine ye9 (l':=(yw2 41417531)) (by kernel_rfl) ?_
        rw [←HGE.out]
        exact st01011.out V g8 g25 Kb hB' (hY.below hb) hKw
    have st01010:Hid (∀(W:World) (g8:Nat) (g25:Nat),Below W0.heap.size W0 W→G 9 (yw2 7863099) (act5 m d ai ci ah ch ae ce ad cd ap cp N ab cb asx csx ax cx kb ks kx kt kq kf w.heap.size Rb undef undef (.slice (some ⟨g8,0,none⟩) 0 0) undef undef undef undef (.slice (some ⟨g25,0,none⟩) 0 0) undef undef) W):=by
      intro W g8 g25 hB
      rw [HGE.out]
      unfold act5
      refine yag (rs:= [2,7,25]) (by kernel_rfl) (by simp) ?_
      refine AllReadyZ.cons (i:=2) rfl (fun K hKK=> ?_) (AllReadyZ.cons (i:=7) rfl (fun K hKK=> ?_) (AllReadyZ.cons (i:=25) rfl (fun K hKK=> ?_) AllReadyZ.nil))
      · go_simp
        refine(yyl _ m W HSM.out.i HSM.out.h HSM.out.e (fun j _=>HSM.out.r j) (HM.out.below (trm HB0.out hB))).mono ?_
        rintro e V ⟨y0,rfl,hb,hmd⟩
        obtain⟨avi,cvi,avh,cvh,avs,cvs,rfl⟩:=hmd.form
        obtain⟨n0,hn0e⟩:∃n,n=W.heap.size:=⟨_,rfl⟩
        obtain⟨n1,hn1e⟩:∃n,n=V.heap.size:=⟨_,rfl⟩
        rw [←hn0e,←hn1e]at hmd
        have hn0:W0.heap.size≤n0∧W0.heap.size≤n1:=⟨hn0e▸hB.size,hn1e▸Nat.le_trans hB.size hb.size⟩
        have hn1:n1≤V.heap.size:=by omega
        try go_simp
        have hB':Below W0.heap.size W0 V:=trm hB hb
        refine hKK.out _ _ (ywg (HP0.out.below hB')) (fun hHeld=> ?_)
        try simp only [Act.put,List.setIfInBounds_toArray]
        try simp only [List.set_cons_succ]
        try simp only [List.set_cons_zero]
        refine ye9 (l':=(yw2 7863103)) (by kernel_rfl) ?_
        rw [←HGE.out]
        exact st11010.out V n0 n1 avi cvi avh cvh avs cvs g8 g25 hB' hmd hn0 hn1
      · obtain⟨g12,V,HX,HV,hb,hk⟩:=yw1 W #[] 152
        go_simp
        rw [HV.out,←HX.out]
        have hB':Below W0.heap.size W0 V:=trm hB hb
        refine hKK.out _ _ (ywg (HP0.out.below hB')) (fun hHeld=> ?_)
        try simp only [Act.put,List.setIfInBounds_toArray]
        try simp only [List.set_cons_succ]
        try simp only [List.set_cons_zero]
        refine ye9 (l':=(yw2 7863227)) (by kernel_rfl) ?_
        rw [←HGE.out]
        exact st01110.out V g8 g12 g25 hB'
      · obtain⟨Kb,V,HX,HV,hb,hk⟩:=yw1 W #[.int .i64 0,.int .i64 0,.slice none 0 0,.slice none 0 0,.slice none 0 0,.int .i64 0,.slice none 0 0,.slice none 0 0,.slice none 0 0,.int .i64 0,.int .i64 0,.bool false,.slice none 0 0,.slice none 0 0] 41
        go_simp
        rw [HV.out,←HX.out]
        have hB':Below W0.heap.size W0 V:=trm hB hb
        refine hKK.out _ _ (ywg (HP0.out.below hB')) (fun hHeld=> ?_)
        try simp only [Act.put,List.setIfInBounds_toArray]
        try simp only [List.set_cons_succ]
        try simp only [List.set_cons_zero]
        refine ye9 (l':=(yw2 41417531)) (by kernel_rfl) ?_
        rw [←HGE.out]
        exact st01011.out V g8 g25 Kb hB' hk (HX.out▸hB.size)
    have st01100:Hid (∀(W:World) (g8:Nat) (g12:Nat),Below W0.heap.size W0 W→G 9 (yw2 6814651) (act5 m d ai ci ah ch ae ce ad cd ap cp N ab cb asx csx ax cx kb ks kx kt kq kf w.heap.size Rb undef undef (.slice (some ⟨g8,0,none⟩) 0 0) undef (.slice (some ⟨g12,0,none⟩) 0 0) undef undef undef undef undef) W):=by
      intro W g8 g12 hB
      rw [HGE.out]
      unfold act5
      refine yag (rs:= [2,20,25]) (by kernel_rfl) (by simp) ?_
      refine AllReadyZ.cons (i:=2) rfl (fun K hKK=> ?_) (AllReadyZ.cons (i:=20) rfl (fun K hKK=> ?_) (AllReadyZ.cons (i:=25) rfl (fun K hKK=> ?_) AllReadyZ.nil))
      · go_simp
        refine(yyl _ m W HSM.out.i HSM.out.h HSM.out.e (fun j _=>HSM.out.r j) (HM.out.below (trm HB0.out hB))).mono ?_
        rintro e V ⟨y0,rfl,hb,hmd⟩
        obtain⟨avi,cvi,avh,cvh,avs,cvs,rfl⟩:=hmd.form
        obtain⟨n0,hn0e⟩:∃n,n=W.heap.size:=⟨_,rfl⟩
        obtain⟨n1,hn1e⟩:∃n,n=V.heap.size:=⟨_,rfl⟩
        rw [←hn0e,←hn1e]at hmd
        have hn0:W0.heap.size≤n0∧W0.heap.size≤n1:=⟨hn0e▸hB.size,hn1e▸Nat.le_trans hB.size hb.size⟩
        have hn1:n1≤V.heap.size:=by omega
        try go_simp
        have hB':Below W0.heap.size W0 V:=trm hB hb
        refine hKK.out _ _ (ywg (HP0.out.below hB')) (fun hHeld=> ?_)
        try simp only [Act.put,List.setIfInBounds_toArray]
        try simp only [List.set_cons_succ]
        try simp only [List.set_cons_zero]
        refine ye9 (l':=(yw2 6814655)) (by kernel_rfl) ?_
        rw [←HGE.out]
        exact st11100.out V n0 n1 avi cvi avh cvh avs cvs g8 g12 hB' hmd hn0 hn1
      · obtain⟨g25,V,HX,HV,hb,hk⟩:=yw1 W #[] 166
        go_simp
        rw [HV.out,←HX.out]
        have hB':Below W0.heap.size W0 V:=trm hB hb
        refine hKK.out _ _ (ywg (HP0.out.below hB')) (fun hHeld=> ?_)
        try simp only [Act.put,List.setIfInBounds_toArray]
        try simp only [List.set_cons_succ]
        try simp only [List.set_cons_zero]
        refine ye9 (l':=(yw2 7863227)) (by kernel_rfl) ?_
        rw [←HGE.out]
        exact st01110.out V g8 g12 g25 hB'
      · obtain⟨Kb,V,HX,HV,hb,hk⟩:=yw1 W #[.int .i64 0,.int .i64 0,.slice none 0 0,.slice none 0 0,.slice none 0 0,.int .i64 0,.slice none 0 0,.slice none 0 0,.slice none 0 0,.int .i64 0,.int .i64 0,.bool false,.slice none 0 0,.slice none 0 0] 41
        go_simp
        rw [HV.out,←HX.out]
        have hB':Below W0.heap.size W0 V:=trm hB hb
        refine hKK.out _ _ (ywg (HP0.out.below hB')) (fun hHeld=> ?_)
        try simp only [Act.put,List.setIfInBounds_toArray]
        try simp only [List.set_cons_succ]
        try simp only [List.set_cons_zero]
        refine ye9 (l':=(yw2 40369083)) (by kernel_rfl) ?_
        rw [←HGE.out]
        exact st01101.out V g8 g12 Kb hB' hk (HX.out▸hB.size)
    have st10001:Hid (∀(W:World) (n0 n1:Nat) (avi:Option Addr) (cvi:Nat) (avh:Option Addr) (cvh:Nat) (avs:Option Addr) (cvs:Nat) (Kb:Nat),Below W0.heap.size W0 W→(MdF (fun j=>n0≤j∧j<n1) W (.agg #[.int .i64 m.n,.int .i64 m.s,.slice avi m.i.length cvi,.slice avh m.h.length cvh,.slice avs m.e.length cvs,.int .i64 m.z]) m)→(W0.heap.size≤n0∧W0.heap.size≤n1)→n1≤W.heap.size→Bk W Kb 41 #[.int .i64 0,.int .i64 0,.slice none 0 0,.slice none 0 0,.slice none 0 0,.int .i64 0,.slice none 0 0,.slice none 0 0,.slice none 0 0,.int .i64 0,.int .i64 0,.bool false,.slice none 0 0,.slice none 0 0]→W0.heap.size≤Kb→(Kb<n0∨n1≤Kb)→G 9 (yw2 40368951) (act5 m d ai ci ah ch ae ce ad cd ap cp N ab cb asx csx ax cx kb ks kx kt kq kf w.heap.size Rb (.pointer (some ⟨Kb,0,none⟩)) (.agg #[.int .i64 m.n,.int .i64 m.s,.slice avi m.i.length cvi,.slice avh m.h.length cvh,.slice avs m.e.length cvs,.int .i64 m.z]) undef undef undef undef undef undef undef undef) W):=by
      intro W n0 n1 avi cvi avh cvh avs cvs Kb hB hM hn0 hn1 hY hKw hKM
      rw [HGE.out]
      unfold act5
      refine yag (rs:= [3,7,20]) (by kernel_rfl) (by simp) ?_
      refine AllReadyZ.cons (i:=3) rfl (fun K hKK=> ?_) (AllReadyZ.cons (i:=7) rfl (fun K hKK=> ?_) (AllReadyZ.cons (i:=20) rfl (fun K hKK=> ?_) AllReadyZ.nil))
      · obtain⟨g8,V,HX,HV,hb,hk⟩:=yw1 W #[] 3
        go_simp
        rw [HV.out,←HX.out]
        have hB':Below W0.heap.size W0 V:=trm hB hb
        refine hKK.out _ _ (ywg (HP0.out.below hB')) (fun hHeld=> ?_)
        try simp only [Act.put,List.setIfInBounds_toArray]
        try simp only [List.set_cons_succ]
        try simp only [List.set_cons_zero]
        refine ye9 (l':=(yw2 40368959)) (by kernel_rfl) ?_
        rw [←HGE.out]
        exact st11001.out V n0 n1 avi cvi avh cvh avs cvs g8 Kb hB' (hM.below hb) hn0 (Nat.le_trans hn1 hb.size) (hY.below hb) hKw hKM
      · obtain⟨g12,V,HX,HV,hb,hk⟩:=yw1 W #[] 152
        go_simp
        rw [HV.out,←HX.out]
        have hB':Below W0.heap.size W0 V:=trm hB hb
        refine hKK.out _ _ (ywg (HP0.out.below hB')) (fun hHeld=> ?_)
        try simp only [Act.put,List.setIfInBounds_toArray]
        try simp only [List.set_cons_succ]
        try simp only [List.set_cons_zero]
        refine ye9 (l':=(yw2 40369079)) (by kernel_rfl) ?_
        rw [←HGE.out]
        exact st10101.out V n0 n1 avi cvi avh cvh avs cvs g12 Kb hB' (hM.below hb) hn0 (Nat.le_trans hn1 hb.size) (hY.below hb) hKw hKM
      · obtain⟨g25,V,HX,HV,hb,hk⟩:=yw1 W #[] 166
        go_simp
        rw [HV.out,←HX.out]
        have hB':Below W0.heap.size W0 V:=trm hB hb
        refine hKK.out _ _ (ywg (HP0.out.below hB')) (fun hHeld=> ?_)
        try simp only [Act.put,List.setIfInBounds_toArray]
        try simp only [List.set_cons_succ]
        try simp only [List.set_cons_zero]
        refine ye9 (l':=(yw2 41417527)) (by kernel_rfl) ?_
        rw [←HGE.out]
        exact st10011.out V n0 n1 avi cvi avh cvh avs cvs g25 Kb hB' (hM.below hb) hn0 (Nat.le_trans hn1 hb.size) (hY.below hb) hKw hKM
    have st10010:Hid (∀(W:World) (n0 n1:Nat) (avi:Option Addr) (cvi:Nat) (avh:Option Addr) (cvh:Nat) (avs:Option Addr) (cvs:Nat) (g25:Nat),Below W0.heap.size W0 W→(MdF (fun j=>n0≤j∧j<n1) W (.agg #[.int .i64 m.n,.int .i64 m.s,.slice avi m.i.length cvi,.slice avh m.h.length cvh,.slice avs m.e.length cvs,.int .i64 m.z]) m)→(W0.heap.size≤n0∧W0.heap.size≤n1)→n1≤W.heap.size→G 9 (yw2 7863095) (act5 m d ai ci ah ch ae ce ad cd ap cp N ab cb asx csx ax cx kb ks kx kt kq kf w.heap.size Rb undef (.agg #[.int .i64 m.n,.int .i64 m.s,.slice avi m.i.length cvi,.slice avh m.h.length cvh,.slice avs m.e.length cvs,.int .i64 m.z]) undef undef undef undef undef (.slice (some ⟨g25,0,none⟩) 0 0) undef undef) W):=by
      intro W n0 n1 avi cvi avh cvh avs cvs g25 hB hM hn0 hn1
      rw [HGE.out]
      unfold act5
      refine yag (rs:= [3,7,25]) (by kernel_rfl) (by simp) ?_
      refine AllReadyZ.cons (i:=3) rfl (fun K hKK=> ?_) (AllReadyZ.cons (i:=7) rfl (fun K hKK=> ?_) (AllReadyZ.cons (i:=25) rfl (fun K hKK=> ?_) AllReadyZ.nil))
      · obtain⟨g8,V,HX,HV,hb,hk⟩:=yw1 W #[] 3
        go_simp
        rw [HV.out,←HX.out]
        have hB':Below W0.heap.size W0 V:=trm hB hb
        refine hKK.out _ _ (ywg (HP0.out.below hB')) (fun hHeld=> ?_)
        try simp only [Act.put,List.setIfInBounds_toArray]
        try simp only [List.set_cons_succ]
        try simp only [List.set_cons_zero]
        refine ye9 (l':=(yw2 7863103)) (by kernel_rfl) ?_
        rw [←HGE.out]
        exact st11010.out V n0 n1 avi cvi avh cvh avs cvs g8 g25 hB' (hM.below hb) hn0 (Nat.le_trans hn1 hb.size)
      · obtain⟨g12,V,HX,HV,hb,hk⟩:=yw1 W #[] 152
        go_simp
        rw [HV.out,←HX.out]
        have hB':Below W0.heap.size W0 V:=trm hB hb
        refine hKK.out _ _ (ywg (HP0.out.below hB')) (fun hHeld=> ?_)
        try simp only [Act.put,List.setIfInBounds_toArray]
        try simp only [List.set_cons_succ]
        try simp only [List.set_cons_zero]
        refine ye9 (l':=(yw2 7863223)) (by kernel_rfl) ?_
        rw [←HGE.out]
        exact st10110.out V n0 n1 avi cvi avh cvh avs cvs g12 g25 hB' (hM.below hb) hn0 (Nat.le_trans hn1 hb.size)
      · obtain⟨Kb,V,HX,HV,hb,hk⟩:=yw1 W #[.int .i64 0,.int .i64 0,.slice none 0 0,.slice none 0 0,.slice none 0 0,.int .i64 0,.slice none 0 0,.slice none 0 0,.slice none 0 0,.int .i64 0,.int .i64 0,.bool false,.slice none 0 0,.slice none 0 0] 41
        go_simp
        rw [HV.out,←HX.out]
        have hB':Below W0.heap.size W0 V:=trm hB hb
        refine hKK.out _ _ (ywg (HP0.out.below hB')) (fun hHeld=> ?_)
        try simp only [Act.put,List.setIfInBounds_toArray]
        try simp only [List.set_cons_succ]
        try simp only [List.set_cons_zero]
        refine ye9 (l':=(yw2 41417527)) (by kernel_rfl) ?_
        rw [←HGE.out]
        exact st10011.out V n0 n1 avi cvi avh cvh avs cvs g25 Kb hB' (hM.below hb) hn0 (Nat.le_trans hn1 hb.size) hk (HX.out▸hB.size) (.inr (HX.out▸hn1))
    have st10100:Hid (∀(W:World) (n0 n1:Nat) (avi:Option Addr) (cvi:Nat) (avh:Option Addr) (cvh:Nat) (avs:Option Addr) (cvs:Nat) (g12:Nat),Below W0.heap.size W0 W→(MdF (fun j=>n0≤j∧j<n1) W (.agg #[.int .i64 m.n,.int .i64 m.s,.slice avi m.i.length cvi,.slice avh m.h.length cvh,.slice avs m.e.length cvs,.int .i64 m.z]) m)→(W0.heap.size≤n0∧W0.heap.size≤n1)→n1≤W.heap.size→G 9 (yw2 6814647) (act5 m d ai ci ah ch ae ce ad cd ap cp N ab cb asx csx ax cx kb ks kx kt kq kf w.heap.size Rb undef (.agg #[.int .i64 m.n,.int .i64 m.s,.slice avi m.i.length cvi,.slice avh m.h.length cvh,.slice avs m.e.length cvs,.int .i64 m.z]) undef undef (.slice (some ⟨g12,0,none⟩) 0 0) undef undef undef undef undef) W):=by
      intro W n0 n1 avi cvi avh cvh avs cvs g12 hB hM hn0 hn1
      rw [HGE.out]
      unfold act5
      refine yag (rs:= [3,20,25]) (by kernel_rfl) (by simp) ?_
      refine AllReadyZ.cons (i:=3) rfl (fun K hKK=> ?_) (AllReadyZ.cons (i:=20) rfl (fun K hKK=> ?_) (AllReadyZ.cons (i:=25) rfl (fun K hKK=> ?_) AllReadyZ.nil))
      · obtain⟨g8,V,HX,HV,hb,hk⟩:=yw1 W #[] 3
        go_simp
        rw [HV.out,←HX.out]
        have hB':Below W0.heap.size W0 V:=trm hB hb
        refine hKK.out _ _ (ywg (HP0.out.below hB')) (fun hHeld=> ?_)
        try simp only [Act.put,List.setIfInBounds_toArray]
        try simp only [List.set_cons_succ]
        try simp only [List.set_cons_zero]
        refine ye9 (l':=(yw2 6814655)) (by kernel_rfl) ?_
        rw [←HGE.out]
        exact st11100.out V n0 n1 avi cvi avh cvh avs cvs g8 g12 hB' (hM.below hb) hn0 (Nat.le_trans hn1 hb.size)
      · obtain⟨g25,V,HX,HV,hb,hk⟩:=yw1 W #[] 166
        go_simp
        rw [HV.out,←HX.out]
        have hB':Below W0.heap.size W0 V:=trm hB hb
        refine hKK.out _ _ (ywg (HP0.out.below hB')) (fun hHeld=> ?_)
        try simp only [Act.put,List.setIfInBounds_toArray]
        try simp only [List.set_cons_succ]
        try simp only [List.set_cons_zero]
        refine ye9 (l':=(yw2 7863223)) (by kernel_rfl) ?_
        rw [←HGE.out]
        exact st10110.out V n0 n1 avi cvi avh cvh avs cvs g12 g25 hB' (hM.below hb) hn0 (Nat.le_trans hn1 hb.size)
      · obtain⟨Kb,V,HX,HV,hb,hk⟩:=yw1 W #[.int .i64 0,.int .i64 0,.slice none 0 0,.slice none 0 0,.slice none 0 0,.int .i64 0,.slice none 0 0,.slice none 0 0,.slice none 0 0,.int .i64 0,.int .i64 0,.bool false,.slice none 0 0,.slice none 0 0] 41
        go_simp
        rw [HV.out,←HX.out]
        have hB':Below W0.heap.size W0 V:=trm hB hb
        refine hKK.out _ _ (ywg (HP0.out.below hB')) (fun hHeld=> ?_)
        try simp only [Act.put,List.setIfInBounds_toArray]
        try simp only [List.set_cons_succ]
        try simp only [List.set_cons_zero]
        refine ye9 (l':=(yw2 40369079)) (by kernel_rfl) ?_
        rw [←HGE.out]
        exact st10101.out V n0 n1 avi cvi avh cvh avs cvs g12 Kb hB' (hM.below hb) hn0 (Nat.le_trans hn1 hb.size) hk (HX.out▸hB.size) (.inr (HX.out▸hn1))
    have st11000:Hid (∀(W:World) (n0 n1:Nat) (avi:Option Addr) (cvi:Nat) (avh:Option Addr) (cvh:Nat) (avs:Option Addr) (cvs:Nat) (g8:Nat),Below W0.heap.size W0 W→(MdF (fun j=>n0≤j∧j<n1) W (.agg #[.int .i64 m.n,.int .i64 m.s,.slice avi m.i.length cvi,.slice avh m.h.length cvh,.slice avs m.e.length cvs,.int .i64 m.z]) m)→(W0.heap.size≤n0∧W0.heap.size≤n1)→n1≤W.heap.size→G 9 (yw2 6814527) (act5 m d ai ci ah ch ae ce ad cd ap cp N ab cb asx csx ax cx kb ks kx kt kq kf w.heap.size Rb undef (.agg #[.int .i64 m.n,.int .i64 m.s,.slice avi m.i.length cvi,.slice avh m.h.length cvh,.slice avs m.e.length cvs,.int .i64 m.z]) (.slice (some ⟨g8,0,none⟩) 0 0) undef undef undef undef undef undef undef) W):=by
      intro W n0 n1 avi cvi avh cvh avs cvs g8 hB hM hn0 hn1
      rw [HGE.out]
      unfold act5
      refine yag (rs:= [6,7,20,25]) (by kernel_rfl) (by simp) ?_
      refine AllReadyZ.cons (i:=6) rfl (fun K hKK=> ?_) (AllReadyZ.cons (i:=7) rfl (fun K hKK=> ?_) (AllReadyZ.cons (i:=20) rfl (fun K hKK=> ?_) (AllReadyZ.cons (i:=25) rfl (fun K hKK=> ?_) AllReadyZ.nil)))
      · obtain⟨i0,hi0,hz0,hz1,hz2⟩:=info_parts zbs
        refine yyk rfl (.tmp 8) (.tmp 10) 22 rfl 3 i0 (.int .i64 0) 1 8 Tryz.underlying22 hi0 hz0 hz1 hz2 rfl (by decide) g8 rfl (.slice ad d.length cd) d.length (intCells d) rfl (HSD.out W (trm HB0.out hB)) (by unfold maxLen;have h9:=HLN.out;omega) (by have h9:=HLN.out;omega) ?_
        intro ad2 cd2 V hcap ho hb
        have hD9:OwnN n1 3 1 V (.slice ad2 d.length cd2) d.length (intCells d):=⟨_,_,rfl,hcap,ho.imp id (fun h=>yvh h hn1)⟩
        have hB':Below W0.heap.size W0 V:=trm hB hb
        refine hKK.out _ _ (ywg (HP0.out.below hB')) (fun hHeld=> ?_)
        try simp only [Act.put,List.setIfInBounds_toArray]
        try simp only [List.set_cons_succ]
        try simp only [List.set_cons_zero]
        refine ye9 (l':=(yw2 6814591)) (by kernel_rfl) ?_
        rw [←HGE.out]
        exact st21000.out V n0 n1 avi cvi avh cvh avs cvs g8 ad2 cd2 hB' (hM.below hb) hn0 (Nat.le_trans hn1 hb.size) hD9
      · obtain⟨g12,V,HX,HV,hb,hk⟩:=yw1 W #[] 152
        go_simp
        rw [HV.out,←HX.out]
        have hB':Below W0.heap.size W0 V:=trm hB hb
        refine hKK.out _ _ (ywg (HP0.out.below hB')) (fun hHeld=> ?_)
        try simp only [Act.put,List.setIfInBounds_toArray]
        try simp only [List.set_cons_succ]
        try simp only [List.set_cons_zero]
        refine ye9 (l':=(yw2 6814655)) (by kernel_rfl) ?_
        rw [←HGE.out]
        exact st11100.out V n0 n1 avi cvi avh cvh avs cvs g8 g12 hB' (hM.below hb) hn0 (Nat.le_trans hn1 hb.size)
      · obtain⟨g25,V,HX,HV,hb,hk⟩:=yw1 W #[] 166
        go_simp
        rw [HV.out,←HX.out]
        have hB':Below W0.heap.size W0 V:=trm hB hb
        refine hKK.out _ _ (ywg (HP0.out.below hB')) (fun hHeld=> ?_)
        try simp only [Act.put,List.setIfInBounds_toArray]
        try simp only [List.set_cons_succ]
        try simp only [List.set_cons_zero]
        refine ye9 (l':=(yw2 7863103)) (by kernel_rfl) ?_
        rw [←HGE.out]
        exact st11010.out V n0 n1 avi cvi avh cvh avs cvs g8 g25 hB' (hM.below hb) hn0 (Nat.le_trans hn1 hb.size)
      · obtain⟨Kb,V,HX,HV,hb,hk⟩:=yw1 W #[.int .i64 0,.int .i64 0,.slice none 0 0,.slice none 0 0,.slice none 0 0,.int .i64 0,.slice none 0 0,.slice none 0 0,.slice none 0 0,.int .i64 0,.int .i64 0,.bool false,.slice none 0 0,.slice none 0 0] 41
        go_simp
        rw [HV.out,←HX.out]
        have hB':Below W0.heap.size W0 V:=trm hB hb
        refine hKK.out _ _ (ywg (HP0.out.below hB')) (fun hHeld=> ?_)
        try simp only [Act.put,List.setIfInBounds_toArray]
        try simp only [List.set_cons_succ]
        try simp only [List.set_cons_zero]
        refine ye9 (l':=(yw2 40368959)) (by kernel_rfl) ?_
        rw [←HGE.out]
        exact st11001.out V n0 n1 avi cvi avh cvh avs cvs g8 Kb hB' (hM.below hb) hn0 (Nat.le_trans hn1 hb.size) hk (HX.out▸hB.size) (.inr (HX.out▸hn1))
    have st00001:Hid (∀(W:World) (Kb:Nat),Below W0.heap.size W0 W→Bk W Kb 41 #[.int .i64 0,.int .i64 0,.slice none 0 0,.slice none 0 0,.slice none 0 0,.int .i64 0,.slice none 0 0,.slice none 0 0,.slice none 0 0,.int .i64 0,.int .i64 0,.bool false,.slice none 0 0,.slice none 0 0]→W0.heap.size≤Kb→G 10 (yw2 40368947) (act5 m d ai ci ah ch ae ce ad cd ap cp N ab cb asx csx ax cx kb ks kx kt kq kf w.heap.size Rb (.pointer (some ⟨Kb,0,none⟩)) undef undef undef undef undef undef undef undef undef) W):=by
      intro W Kb hB hY hKw
      rw [HGE.out]
      unfold act5
      refine yag (rs:= [2,3,7,20]) (by kernel_rfl) (by simp) ?_
      refine AllReadyZ.cons (i:=2) rfl (fun K hKK=> ?_) (AllReadyZ.cons (i:=3) rfl (fun K hKK=> ?_) (AllReadyZ.cons (i:=7) rfl (fun K hKK=> ?_) (AllReadyZ.cons (i:=20) rfl (fun K hKK=> ?_) AllReadyZ.nil)))
      · go_simp
        refine(yyl _ m W HSM.out.i HSM.out.h HSM.out.e (fun j _=>HSM.out.r j) (HM.out.below (trm HB0.out hB))).mono ?_
        rintro e V ⟨y0,rfl,hb,hmd⟩
        obtain⟨avi,cvi,avh,cvh,avs,cvs,rfl⟩:=hmd.form
        obtain⟨n0,hn0e⟩:∃n,n=W.heap.size:=⟨_,rfl⟩
        obtain⟨n1,hn1e⟩:∃n,n=V.heap.size:=⟨_,rfl⟩
        rw [←hn0e,←hn1e]at hmd
        have hn0:W0.heap.size≤n0∧W0.heap.size≤n1:=⟨hn0e▸hB.size,hn1e▸Nat.le_trans hB.size hb.size⟩
        have hn1:n1≤V.heap.size:=by omega
        have hKM':Kb<n0∨n1≤Kb:= .inl (hn0e▸hY.lt)
        try go_simp
        have hB':Below W0.heap.size W0 V:=trm hB hb
        refine hKK.out _ _ (ywg (HP0.out.below hB')) (fun hHeld=> ?_)
        try simp only [Act.put,List.setIfInBounds_toArray]
        try simp only [List.set_cons_succ]
        try simp only [List.set_cons_zero]
        refine ye9 (l':=(yw2 40368951)) (by kernel_rfl) ?_
        rw [←HGE.out]
        exact st10001.out V n0 n1 avi cvi avh cvh avs cvs Kb hB' hmd hn0 hn1 (hY.below hb) hKw hKM'
      · obtain⟨g8,V,HX,HV,hb,hk⟩:=yw1 W #[] 3
        go_simp
        rw [HV.out,←HX.out]
        have hB':Below W0.heap.size W0 V:=trm hB hb
        refine hKK.out _ _ (ywg (HP0.out.below hB')) (fun hHeld=> ?_)
        try simp only [Act.put,List.setIfInBounds_toArray]
        try simp only [List.set_cons_succ]
        try simp only [List.set_cons_zero]
        refine ye9 (l':=(yw2 40368955)) (by kernel_rfl) ?_
        rw [←HGE.out]
        exact st01001.out V g8 Kb hB' (hY.below hb) hKw
      · obtain⟨g12,V,HX,HV,hb,hk⟩:=yw1 W #[] 152
        go_simp
        rw [HV.out,←HX.out]
        have hB':Below W0.heap.size W0 V:=trm hB hb
        refine hKK.out _ _ (ywg (HP0.out.below hB')) (fun hHeld=> ?_)
        try simp only [Act.put,List.setIfInBounds_toArray]
        try simp only [List.set_cons_succ]
        try simp only [List.set_cons_zero]
        refine ye9 (l':=(yw2 40369075)) (by kernel_rfl) ?_
        rw [←HGE.out]
        exact st00101.out V g12 Kb hB' (hY.below hb) hKw
      · obtain⟨g25,V,HX,HV,hb,hk⟩:=yw1 W #[] 166
        go_simp
        rw [HV.out,←HX.out]
        have hB':Below W0.heap.size W0 V:=trm hB hb
        refine hKK.out _ _ (ywg (HP0.out.below hB')) (fun hHeld=> ?_)
        try simp only [Act.put,List.setIfInBounds_toArray]
        try simp only [List.set_cons_succ]
        try simp only [List.set_cons_zero]
        refine ye9 (l':=(yw2 41417523)) (by kernel_rfl) ?_
        rw [←HGE.out]
        exact st00011.out V g25 Kb hB' (hY.below hb) hKw
    have st00010:Hid (∀(W:World) (g25:Nat),Below W0.heap.size W0 W→G 10 (yw2 7863091) (act5 m d ai ci ah ch ae ce ad cd ap cp N ab cb asx csx ax cx kb ks kx kt kq kf w.heap.size Rb undef undef undef undef undef undef undef (.slice (some ⟨g25,0,none⟩) 0 0) undef undef) W):=by
      intro W g25 hB
      rw [HGE.out]
      unfold act5
      refine yag (rs:= [2,3,7,25]) (by kernel_rfl) (by simp) ?_
      refine AllReadyZ.cons (i:=2) rfl (fun K hKK=> ?_) (AllReadyZ.cons (i:=3) rfl (fun K hKK=> ?_) (AllReadyZ.cons (i:=7) rfl (fun K hKK=> ?_) (AllReadyZ.cons (i:=25) rfl (fun K hKK=> ?_) AllReadyZ.nil)))
      · go_simp
        refine(yyl _ m W HSM.out.i HSM.out.h HSM.out.e (fun j _=>HSM.out.r j) (HM.out.below (trm HB0.out hB))).mono ?_
        rintro e V ⟨y0,rfl,hb,hmd⟩
        obtain⟨avi,cvi,avh,cvh,avs,cvs,rfl⟩:=hmd.form
        obtain⟨n0,hn0e⟩:∃n,n=W.heap.size:=⟨_,rfl⟩
        obtain⟨n1,hn1e⟩:∃n,n=V.heap.size:=⟨_,rfl⟩
        rw [←hn0e,←hn1e]at hmd
        have hn0:W0.heap.size≤n0∧W0.heap.size≤n1:=⟨hn0e▸hB.size,hn1e▸Nat.le_trans hB.size hb.size⟩
        have hn1:n1≤V.heap.size:=by omega
        try go_simp
        have hB':Below W0.heap.size W0 V:=trm hB hb
        refine hKK.out _ _ (ywg (HP0.out.below hB')) (fun hHeld=> ?_)
        try simp only [Act.put,List.setIfInBounds_toArray]
        try simp only [List.set_cons_succ]
        try simp only [List.set_cons_zero]
        refine ye9 (l':=(yw2 7863095)) (by kernel_rfl) ?_
        rw [←HGE.out]
        exact st10010.out V n0 n1 avi cvi avh cvh avs cvs g25 hB' hmd hn0 hn1
      · obtain⟨g8,V,HX,HV,hb,hk⟩:=yw1 W #[] 3
        go_simp
        rw [HV.out,←HX.out]
        have hB':Below W0.heap.size W0 V:=trm hB hb
        refine hKK.out _ _ (ywg (HP0.out.below hB')) (fun hHeld=> ?_)
        try simp only [Act.put,List.setIfInBounds_toArray]
        try simp only [List.set_cons_succ]
        try simp only [List.set_cons_zero]
        refine ye9 (l':=(yw2 7863099)) (by kernel_rfl) ?_
        rw [←HGE.out]
        exact st01010.out V g8 g25 hB'
      · obtain⟨g12,V,HX,HV,hb,hk⟩:=yw1 W #[] 152
        go_simp
        rw [HV.out,←HX.out]
        have hB':Below W0.heap.size W0 V:=trm hB hb
        refine hKK.out _ _ (ywg (HP0.out.below hB')) (fun hHeld=> ?_)
        try simp only [Act.put,List.setIfInBounds_toArray]
        try simp only [List.set_cons_succ]
        try simp only [List.set_cons_zero]
        refine ye9 (l':=(yw2 7863219)) (by kernel_rfl) ?_
        rw [←HGE.out]
        exact st00110.out V g12 g25 hB'
      · obtain⟨Kb,V,HX,HV,hb,hk⟩:=yw1 W #[.int .i64 0,.int .i64 0,.slice none 0 0,.slice none 0 0,.slice none 0 0,.int .i64 0,.slice none 0 0,.slice none 0 0,.slice none 0 0,.int .i64 0,.int .i64 0,.bool false,.slice none 0 0,.slice none 0 0] 41
        go_simp
        rw [HV.out,←HX.out]
        have hB':Below W0.heap.size W0 V:=trm hB hb
        refine hKK.out _ _ (ywg (HP0.out.below hB')) (fun hHeld=> ?_)
        try simp only [Act.put,List.setIfInBounds_toArray]
        try simp only [List.set_cons_succ]
        try simp only [List.set_cons_zero]
        refine ye9 (l':=(yw2 41417523)) (by kernel_rfl) ?_
        rw [←HGE.out]
        exact st00011.out V g25 Kb hB' hk (HX.out▸hB.size)
    have st00100:Hid (∀(W:World) (g12:Nat),Below W0.heap.size W0 W→G 10 (yw2 6814643) (act5 m d ai ci ah ch ae ce ad cd ap cp N ab cb asx csx ax cx kb ks kx kt kq kf w.heap.size Rb undef undef undef undef (.slice (some ⟨g12,0,none⟩) 0 0) undef undef undef undef undef) W):=by
      intro W g12 hB
      rw [HGE.out]
      unfold act5
      refine yag (rs:= [2,3,20,25]) (by kernel_rfl) (by simp) ?_
      refine AllReadyZ.cons (i:=2) rfl (fun K hKK=> ?_) (AllReadyZ.cons (i:=3) rfl (fun K hKK=> ?_) (AllReadyZ.cons (i:=20) rfl (fun K hKK=> ?_) (AllReadyZ.cons (i:=25) rfl (fun K hKK=> ?_) AllReadyZ.nil)))
      · go_simp
        refine(yyl _ m W HSM.out.i HSM.out.h HSM.out.e (fun j _=>HSM.out.r j) (HM.out.below (trm HB0.out hB))).mono ?_
        rintro e V ⟨y0,rfl,hb,hmd⟩
        obtain⟨avi,cvi,avh,cvh,avs,cvs,rfl⟩:=hmd.form
        obtain⟨n0,hn0e⟩:∃n,n=W.heap.size:=⟨_,rfl⟩
        obtain⟨n1,hn1e⟩:∃n,n=V.heap.size:=⟨_,rfl⟩
        rw [←hn0e,←hn1e]at hmd
        have hn0:W0.heap.size≤n0∧W0.heap.size≤n1:=⟨hn0e▸hB.size,hn1e▸Nat.le_trans hB.size hb.size⟩
        have hn1:n1≤V.heap.size:=by omega
        try go_simp
        have hB':Below W0.heap.size W0 V:=trm hB hb
        refine hKK.out _ _ (ywg (HP0.out.below hB')) (fun hHeld=> ?_)
        try simp only [Act.put,List.setIfInBounds_toArray]
        try simp only [List.set_cons_succ]
        try simp only [List.set_cons_zero]
        refine ye9 (l':=(yw2 6814647)) (by kernel_rfl) ?_
        rw [←HGE.out]
        exact st10100.out V n0 n1 avi cvi avh cvh avs cvs g12 hB' hmd hn0 hn1
      · obtain⟨g8,V,HX,HV,hb,hk⟩:=yw1 W #[] 3
        go_simp
        rw [HV.out,←HX.out]
        have hB':Below W0.heap.size W0 V:=trm hB hb
        refine hKK.out _ _ (ywg (HP0.out.below hB')) (fun hHeld=> ?_)
        try simp only [Act.put,List.setIfInBounds_toArray]
        try simp only [List.set_cons_succ]
        try simp only [List.set_cons_zero]
        refine ye9 (l':=(yw2 6814651)) (by kernel_rfl) ?_
        rw [←HGE.out]
        exact st01100.out V g8 g12 hB'
      · obtain⟨g25,V,HX,HV,hb,hk⟩:=yw1 W #[] 166
        go_simp
        rw [HV.out,←HX.out]
        have hB':Below W0.heap.size W0 V:=trm hB hb
        refine hKK.out _ _ (ywg (HP0.out.below hB')) (fun hHeld=> ?_)
        try simp only [Act.put,List.setIfInBounds_toArray]
        try simp only [List.set_cons_succ]
        try simp only [List.set_cons_zero]
        refine ye9 (l':=(yw2 7863219)) (by kernel_rfl) ?_
        rw [←HGE.out]
        exact st00110.out V g12 g25 hB'
      · obtain⟨Kb,V,HX,HV,hb,hk⟩:=yw1 W #[.int .i64 0,.int .i64 0,.slice none 0 0,.slice none 0 0,.slice none 0 0,.int .i64 0,.slice none 0 0,.slice none 0 0,.slice none 0 0,.int .i64 0,.int .i64 0,.bool false,.slice none 0 0,.slice none 0 0] 41
        go_simp
        rw [HV.out,←HX.out]
        have hB':Below W0.heap.size W0 V:=trm hB hb
        refine hKK.out _ _ (ywg (HP0.out.below hB')) (fun hHeld=> ?_)
        try simp only [Act.put,List.setIfInBounds_toArray]
        try simp only [List.set_cons_succ]
        try simp only [List.set_cons_zero]
        refine ye9 (l':=(yw2 40369075)) (by kernel_rfl) ?_
        rw [←HGE.out]
        exact st00101.out V g12 Kb hB' hk (HX.out▸hB.size)
    have st01000:Hid (∀(W:World) (g8:Nat),Below W0.heap.size W0 W→G 10 (yw2 6814523) (act5 m d ai ci ah ch ae ce ad cd ap cp N ab cb asx csx ax cx kb ks kx kt kq kf w.heap.size Rb undef undef (.slice (some ⟨g8,0,none⟩) 0 0) undef undef undef undef undef undef undef) W):=by
      intro W g8 hB
      rw [HGE.out]
      unfold act5
      refine yag (rs:= [2,7,20,25]) (by kernel_rfl) (by simp) ?_
      refine AllReadyZ.cons (i:=2) rfl (fun K hKK=> ?_) (AllReadyZ.cons (i:=7) rfl (fun K hKK=> ?_) (AllReadyZ.cons (i:=20) rfl (fun K hKK=> ?_) (AllReadyZ.cons (i:=25) rfl (fun K hKK=> ?_) AllReadyZ.nil)))
      · go_simp
        refine(yyl _ m W HSM.out.i HSM.out.h HSM.out.e (fun j _=>HSM.out.r j) (HM.out.below (trm HB0.out hB))).mono ?_
        rintro e V ⟨y0,rfl,hb,hmd⟩
        obtain⟨avi,cvi,avh,cvh,avs,cvs,rfl⟩:=hmd.form
        obtain⟨n0,hn0e⟩:∃n,n=W.heap.size:=⟨_,rfl⟩
        obtain⟨n1,hn1e⟩:∃n,n=V.heap.size:=⟨_,rfl⟩
        rw [←hn0e,←hn1e]at hmd
        have hn0:W0.heap.size≤n0∧W0.heap.size≤n1:=⟨hn0e▸hB.size,hn1e▸Nat.le_trans hB.size hb.size⟩
        have hn1:n1≤V.heap.size:=by omega
        try go_simp
        have hB':Below W0.heap.size W0 V:=trm hB hb
        refine hKK.out _ _ (ywg (HP0.out.below hB')) (fun hHeld=> ?_)
        try simp only [Act.put,List.setIfInBounds_toArray]
        try simp only [List.set_cons_succ]
        try simp only [List.set_cons_zero]
        refine ye9 (l':=(yw2 6814527)) (by kernel_rfl) ?_
        rw [←HGE.out]
        exact st11000.out V n0 n1 avi cvi avh cvh avs cvs g8 hB' hmd hn0 hn1
      · obtain⟨g12,V,HX,HV,hb,hk⟩:=yw1 W #[] 152
        go_simp
        rw [HV.out,←HX.out]
        have hB':Below W0.heap.size W0 V:=trm hB hb
        refine hKK.out _ _ (ywg (HP0.out.below hB')) (fun hHeld=> ?_)
        try simp only [Act.put,List.setIfInBounds_toArray]
        try simp only [List.set_cons_succ]
        try simp only [List.set_cons_zero]
        refine ye9 (l':=(yw2 6814651)) (by kernel_rfl) ?_
        rw [←HGE.out]
        exact st01100.out V g8 g12 hB'
      · obtain⟨g25,V,HX,HV,hb,hk⟩:=yw1 W #[] 166
        go_simp
        rw [HV.out,←HX.out]
        have hB':Below W0.heap.size W0 V:=trm hB hb
        refine hKK.out _ _ (ywg (HP0.out.below hB')) (fun hHeld=> ?_)
        try simp only [Act.put,List.setIfInBounds_toArray]
        try simp only [List.set_cons_succ]
        try simp only [List.set_cons_zero]
        refine ye9 (l':=(yw2 7863099)) (by kernel_rfl) ?_
        rw [←HGE.out]
        exact st01010.out V g8 g25 hB'
      · obtain⟨Kb,V,HX,HV,hb,hk⟩:=yw1 W #[.int .i64 0,.int .i64 0,.slice none 0 0,.slice none 0 0,.slice none 0 0,.int .i64 0,.slice none 0 0,.slice none 0 0,.slice none 0 0,.int .i64 0,.int .i64 0,.bool false,.slice none 0 0,.slice none 0 0] 41
        go_simp
        rw [HV.out,←HX.out]
        have hB':Below W0.heap.size W0 V:=trm hB hb
        refine hKK.out _ _ (ywg (HP0.out.below hB')) (fun hHeld=> ?_)
        try simp only [Act.put,List.setIfInBounds_toArray]
        try simp only [List.set_cons_succ]
        try simp only [List.set_cons_zero]
        refine ye9 (l':=(yw2 40368955)) (by kernel_rfl) ?_
        rw [←HGE.out]
        exact st01001.out V g8 Kb hB' hk (HX.out▸hB.size)
    have st10000:Hid (∀(W:World) (n0 n1:Nat) (avi:Option Addr) (cvi:Nat) (avh:Option Addr) (cvh:Nat) (avs:Option Addr) (cvs:Nat),Below W0.heap.size W0 W→(MdF (fun j=>n0≤j∧j<n1) W (.agg #[.int .i64 m.n,.int .i64 m.s,.slice avi m.i.length cvi,.slice avh m.h.length cvh,.slice avs m.e.length cvs,.int .i64 m.z]) m)→(W0.heap.size≤n0∧W0.heap.size≤n1)→n1≤W.heap.size→G 10 (yw2 6814519) (act5 m d ai ci ah ch ae ce ad cd ap cp N ab cb asx csx ax cx kb ks kx kt kq kf w.heap.size Rb undef (.agg #[.int .i64 m.n,.int .i64 m.s,.slice avi m.i.length cvi,.slice avh m.h.length cvh,.slice avs m.e.length cvs,.int .i64 m.z]) undef undef undef undef undef undef undef undef) W):=by
      intro W n0 n1 avi cvi avh cvh avs cvs hB hM hn0 hn1
      rw [HGE.out]
      unfold act5
      refine yag (rs:= [3,7,20,25]) (by kernel_rfl) (by simp) ?_
      refine AllReadyZ.cons (i:=3) rfl (fun K hKK=> ?_) (AllReadyZ.cons (i:=7) rfl (fun K hKK=> ?_) (AllReadyZ.cons (i:=20) rfl (fun K hKK=> ?_) (AllReadyZ.cons (i:=25) rfl (fun K hKK=> ?_) AllReadyZ.nil)))
      · obtain⟨g8,V,HX,HV,hb,hk⟩:=yw1 W #[] 3
        go_simp
        rw [HV.out,←HX.out]
        have hB':Below W0.heap.size W0 V:=trm hB hb
        refine hKK.out _ _ (ywg (HP0.out.below hB')) (fun hHeld=> ?_)
        try simp only [Act.put,List.setIfInBounds_toArray]
        try simp only [List.set_cons_succ]
        try simp only [List.set_cons_zero]
        refine ye9 (l':=(yw2 6814527)) (by kernel_rfl) ?_
        rw [←HGE.out]
        exact st11000.out V n0 n1 avi cvi avh cvh avs cvs g8 hB' (hM.below hb) hn0 (Nat.le_trans hn1 hb.size)
      · obtain⟨g12,V,HX,HV,hb,hk⟩:=yw1 W #[] 152
        go_simp
        rw [HV.out,←HX.out]
        have hB':Below W0.heap.size W0 V:=trm hB hb
        refine hKK.out _ _ (ywg (HP0.out.below hB')) (fun hHeld=> ?_)
        try simp only [Act.put,List.setIfInBounds_toArray]
        try simp only [List.set_cons_succ]
        try simp only [List.set_cons_zero]
        refine ye9 (l':=(yw2 6814647)) (by kernel_rfl) ?_
        rw [←HGE.out]
        exact st10100.out V n0 n1 avi cvi avh cvh avs cvs g12 hB' (hM.below hb) hn0 (Nat.le_trans hn1 hb.size)
      · obtain⟨g25,V,HX,HV,hb,hk⟩:=yw1 W #[] 166
        go_simp
        rw [HV.out,←HX.out]
        have hB':Below W0.heap.size W0 V:=trm hB hb
        refine hKK.out _ _ (ywg (HP0.out.below hB')) (fun hHeld=> ?_)
        try simp only [Act.put,List.setIfInBounds_toArray]
        try simp only [List.set_cons_succ]
        try simp only [List.set_cons_zero]
        refine ye9 (l':=(yw2 7863095)) (by kernel_rfl) ?_
        rw [←HGE.out]
        exact st10010.out V n0 n1 avi cvi avh cvh avs cvs g25 hB' (hM.below hb) hn0 (Nat.le_trans hn1 hb.size)
      · obtain⟨Kb,V,HX,HV,hb,hk⟩:=yw1 W #[.int .i64 0,.int .i64 0,.slice none 0 0,.slice none 0 0,.slice none 0 0,.int .i64 0,.slice none 0 0,.slice none 0 0,.slice none 0 0,.int .i64 0,.int .i64 0,.bool false,.slice none 0 0,.slice none 0 0] 41
        go_simp
        rw [HV.out,←HX.out]
        have hB':Below W0.heap.size W0 V:=trm hB hb
        refine hKK.out _ _ (ywg (HP0.out.below hB')) (fun hHeld=> ?_)
        try simp only [Act.put,List.setIfInBounds_toArray]
        try simp only [List.set_cons_succ]
        try simp only [List.set_cons_zero]
        refine ye9 (l':=(yw2 40368951)) (by kernel_rfl) ?_
        rw [←HGE.out]
        exact st10001.out V n0 n1 avi cvi avh cvh avs cvs Kb hB' (hM.below hb) hn0 (Nat.le_trans hn1 hb.size) hk (HX.out▸hB.size) (.inr (HX.out▸hn1))
    have st00000:Hid (∀(W:World),Below W0.heap.size W0 W→G 11 (yw2 6814515) (act5 m d ai ci ah ch ae ce ad cd ap cp N ab cb asx csx ax cx kb ks kx kt kq kf w.heap.size Rb undef undef undef undef undef undef undef undef undef undef) W):=by
      intro W hB
      rw [HGE.out]
      unfold act5
      refine yag (rs:= [2,3,7,20,25]) (by kernel_rfl) (by simp) ?_
      refine AllReadyZ.cons (i:=2) rfl (fun K hKK=> ?_) (AllReadyZ.cons (i:=3) rfl (fun K hKK=> ?_) (AllReadyZ.cons (i:=7) rfl (fun K hKK=> ?_) (AllReadyZ.cons (i:=20) rfl (fun K hKK=> ?_) (AllReadyZ.cons (i:=25) rfl (fun K hKK=> ?_) AllReadyZ.nil))))
      · go_simp
        refine(yyl _ m W HSM.out.i HSM.out.h HSM.out.e (fun j _=>HSM.out.r j) (HM.out.below (trm HB0.out hB))).mono ?_
        rintro e V ⟨y0,rfl,hb,hmd⟩
        obtain⟨avi,cvi,avh,cvh,avs,cvs,rfl⟩:=hmd.form
        obtain⟨n0,hn0e⟩:∃n,n=W.heap.size:=⟨_,rfl⟩
        obtain⟨n1,hn1e⟩:∃n,n=V.heap.size:=⟨_,rfl⟩
        rw [←hn0e,←hn1e]at hmd
        have hn0:W0.heap.size≤n0∧W0.heap.size≤n1:=⟨hn0e▸hB.size,hn1e▸Nat.le_trans hB.size hb.size⟩
        have hn1:n1≤V.heap.size:=by omega
        try go_simp
        have hB':Below W0.heap.size W0 V:=trm hB hb
        refine hKK.out _ _ (ywg (HP0.out.below hB')) (fun hHeld=> ?_)
        try simp only [Act.put,List.setIfInBounds_toArray]
        try simp only [List.set_cons_succ]
        try simp only [List.set_cons_zero]
        refine ye9 (l':=(yw2 6814519)) (by kernel_rfl) ?_
        rw [←HGE.out]
        exact st10000.out V n0 n1 avi cvi avh cvh avs cvs hB' hmd hn0 hn1
      · obtain⟨g8,V,HX,HV,hb,hk⟩:=yw1 W #[] 3
        go_simp
        rw [HV.out,←HX.out]
        have hB':Below W0.heap.size W0 V:=trm hB hb
        refine hKK.out _ _ (ywg (HP0.out.below hB')) (fun hHeld=> ?_)
        try simp only [Act.put,List.setIfInBounds_toArray]
        try simp only [List.set_cons_succ]
        try simp only [List.set_cons_zero]
        refine ye9 (l':=(yw2 6814523)) (by kernel_rfl) ?_
        rw [←HGE.out]
        exact st01000.out V g8 hB'
      · obtain⟨g12,V,HX,HV,hb,hk⟩:=yw1 W #[] 152
        go_simp
        rw [HV.out,←HX.out]
        have hB':Below W0.heap.size W0 V:=trm hB hb
        refine hKK.out _ _ (ywg (HP0.out.below hB')) (fun hHeld=> ?_)
        try simp only [Act.put,List.setIfInBounds_toArray]
        try simp only [List.set_cons_succ]
        try simp only [List.set_cons_zero]
        refine ye9 (l':=(yw2 6814643)) (by kernel_rfl) ?_
        rw [←HGE.out]
        exact st00100.out V g12 hB'
      · obtain⟨g25,V,HX,HV,hb,hk⟩:=yw1 W #[] 166
        go_simp
        rw [HV.out,←HX.out]
        have hB':Below W0.heap.size W0 V:=trm hB hb
        refine hKK.out _ _ (ywg (HP0.out.below hB')) (fun hHeld=> ?_)
        try simp only [Act.put,List.setIfInBounds_toArray]
        try simp only [List.set_cons_succ]
        try simp only [List.set_cons_zero]
        refine ye9 (l':=(yw2 7863091)) (by kernel_rfl) ?_
        rw [←HGE.out]
        exact st00010.out V g25 hB'
      · obtain⟨Kb,V,HX,HV,hb,hk⟩:=yw1 W #[.int .i64 0,.int .i64 0,.slice none 0 0,.slice none 0 0,.slice none 0 0,.int .i64 0,.slice none 0 0,.slice none 0 0,.slice none 0 0,.int .i64 0,.int .i64 0,.bool false,.slice none 0 0,.slice none 0 0] 41
        go_simp
        rw [HV.out,←HX.out]
        have hB':Below W0.heap.size W0 V:=trm hB hb
        refine hKK.out _ _ (ywg (HP0.out.below hB')) (fun hHeld=> ?_)
        try simp only [Act.put,List.setIfInBounds_toArray]
        try simp only [List.set_cons_succ]
        try simp only [List.set_cons_zero]
        refine ye9 (l':=(yw2 40368947)) (by kernel_rfl) ?_
        rw [←HGE.out]
        exact st00001.out V Kb hB' hk (HX.out▸hB.size)
    exact st00000.out _ hBd
  case rest=>
    obtain⟨Kb,rfl,n0,n1,avi,cvi,avh,cvh,avs,cvs,ad2,cd2,ab2,cb2,as2,cs2,ax2,cx2,hn0,hM,hD,hBg,hSu,hTo,hK,hB,hKw,hKM⟩:=hcut
    obtain⟨w5,rfl⟩:∃w5,w5=wc:=⟨wc,rfl⟩
    have HMD:=yxb hM
    obtain⟨A6,hA6,hL6⟩:=hD.own (by rw [ywy];omega)
    obtain⟨A8,hA8,hL8⟩:=hBg.own (yzk kb)
    obtain⟨A12,hA12,hL12⟩:=hSu.own (ywh ks)
    obtain⟨A13,hA13,hL13⟩:=hTo.own (yxt kx)
    have HA6:=yxb hA6
    have HA8:=yxb hA8
    have HA12:=yxb hA12
    have HA13:=yxb hA13
    have HLA:Hid ((∀j,A6 j→n1≤j∧j<w5.heap.size∧ ∃vs,Bk w5 j 3 vs)∧(∀j,A8 j→n1≤j∧j<w5.heap.size∧ ∃vs,Bk w5 j 152 vs)∧(∀j,A12 j→n1≤j∧j<w5.heap.size∧ ∃vs,Bk w5 j 90 vs)∧(∀j,A13 j→n1≤j∧j<w5.heap.size∧ ∃vs,Bk w5 j 166 vs)):=⟨hL6,hL8,hL12,hL13⟩
    clear hD hBg hSu hTo hA6 hA8 hA12 hA13 hL6 hL8 hL12 hL13
    have HK5:=yxb hK
    have HP5:=yxb (HP0.out.below hB)
    have HR5:=yxb (HR0.out.below hB)
    have HB5:=yxb (trm HB0.out hB)
    have hn1w:n1≤w5.heap.size:=hn0.2.2
    have hWw:w.heap.size≤W0.heap.size:=HB0.out.size
    have hKl:Kb<w5.heap.size:=HK5.out.lt
    clear hM hK hB HP0 HR0 HB0
    have hps:=ps_form HNL.out HPS.out
    have HG0:=yxb (PsG.nil _ _ _)
    obtain⟨B,hBe⟩:∃B,B=w5.heap.size:=⟨_,rfl⟩
    rw [←hBe]at HG0
    have HBE:Hid (B=w5.heap.size):=hBe
    have hBw:w.heap.size<B:=by omega
    have hKB:Kb<B:=by omega
    have hRB:Rb<B:=by omega
    clear hBe
    go_wp2
    go_loopw [4] (fun i wr=>∃(k:Nat) (vp:Value),k≤N∧i= .int .i64 k∧Hid (PsG B wr vp k (ps))∧Hid (Bk wr Kb 41 #[.int .i64 m.n,.int .i64 m.s,.slice avi m.i.length cvi,.slice avh m.h.length cvh,.slice avs m.e.length cvs,.int .i64 m.z,.slice ad2 d.length cd2,vp,.slice ab2 kb.length cb2,.int .i64 kt,.int .i64 kq,.bool kf,.slice as2 ks.length cs2,.slice ax2 kx.length cx2])∧Hid (Turns (fun j=>j=Kb) w5 wr)) (fun i _=>N-(intOf i).toNat)
    case atStart=>exact⟨0,_,Nat.zero_le _,rfl,HG0.out,HK5.out,Turns.refl _ _⟩
    case round=>
      clear HG0
      obtain⟨k,vp,hk,rfl,HGr,HKr,HTr⟩:=hrel
      have HPr:=yxb (HP5.out.turns HTr.out (fun e=>by omega))
      have HBr:=yxb (HB5.out.trans (HTr.out.to_below (fun j hj=>by omega) HB5.out.size))
      have HSr:Hid (B≤wr.heap.size):=HBE.out▸HTr.out.size
      have q7:=HPr.out.cell (i:=7) rfl
      obtain⟨cs9,hrow9⟩:=HGr.out.row
      obtain⟨aq,cq,rfl⟩:=yoj hrow9
      clear hrow9
      by_cases hkN:k<N
      case pos=>
        have hkd:decide ((k:Int)<(N:Int))=true:=by simpa using hkN
        obtain⟨b,off,rfl,hb,hcl⟩:=hps.resolve_left (by omega)
        obtain⟨u1,u4,u5,u6,f0,f1,f2,f3,f4,f5,f6,d1,d4,d5,d6⟩:=yzs (l:=ps) (fun j hj=>by
          obtain⟨u,hu,hd9⟩:=hcl j hj
          exact⟨u,hu,hd9⟩) hkN
        have HIP:Hid (∀W,Below w.heap.size w W→IsPart W (.agg #[.int .i64 (paAt (ps) k).n,u1,.int .i64 (paAt (ps) k).st.q,.int .i64 (paAt (ps) k).st.d,u4,u5,u6]) (paAt (ps) k)):=fun W hW=>⟨u1,u4,u5,u6,rfl,d1.under hW,d4.under hW,d5.under hW,d6.under hW⟩
        have HWT:=yxb (HQW.out k hkN)
        obtain⟨a1,e1',rfl,_⟩:=IsD.len d1
        obtain⟨a4,e4',rfl,_⟩:=IsD.len d4
        obtain⟨a5,e5',rfl,_⟩:=IsD.len d5
        obtain⟨a6,e6',rfl,_⟩:=IsD.len d6
        generalize hq:paAt (ps) k=q at f0 f1 f2 f3 f4 f5 f6 HIP HWT
        have HQ:Hid (q=paAt (ps) k):=hq.symm
        clear hcl d1 d4 d5 d6 hq
        go_upto_region 5 with fail
        clear q7
        have HKX:=yxb HKr.out.drew
        have HPX:=yxb HPr.out.drew
        have HBX:=yxb HBr.out.drew
        refine yxa 11 (fun W=>W.cell? ⟨Kb,7,none⟩=some (.slice aq k cq)∧W.cell? ⟨w.heap.size,7,none⟩=some (.slice (some ⟨b,off,none⟩) N cp)∧W.cell? ⟨b,off+k*7,none⟩=some (.int .i64 q.n)∧W.cell? ⟨b,off+k*7+1,none⟩=some (.slice a1 q.st.r.length e1')∧W.cell? ⟨b,off+k*7+2,none⟩=some (.int .i64 q.st.q)∧W.cell? ⟨b,off+k*7+3,none⟩=some (.int .i64 q.st.d)∧W.cell? ⟨b,off+k*7+4,none⟩=some (.slice a4 q.p.length e4')∧W.cell? ⟨b,off+k*7+5,none⟩=some (.slice a5 q.t.length e5')∧W.cell? ⟨b,off+k*7+6,none⟩=some (.slice a6 q.a.length e6')) (by kernel_rfl) ⟨HKX.out.cell (i:=7) rfl,HPX.out.cell (i:=7) rfl,(HBX.out.cell (p:=⟨b,_,none⟩) hb).trans f0,(HBX.out.cell (p:=⟨b,_,none⟩) hb).trans f1,(HBX.out.cell (p:=⟨b,_,none⟩) hb).trans f2,(HBX.out.cell (p:=⟨b,_,none⟩) hb).trans f3,(HBX.out.cell (p:=⟨b,_,none⟩) hb).trans f4,(HBX.out.cell (p:=⟨b,_,none⟩) hb).trans f5,(HBX.out.cell (p:=⟨b,_,none⟩) hb).trans f6⟩ (fun hHeld=> ?_)
        obtain⟨wd,hwd⟩:∃wd,wr.drew=wd:=⟨_,rfl⟩
        have HTX:Hid (Turns (fun j=>j=Kb) w5 wd):=HTr.out.trans (S:=fun j=>j=Kb) (hwd▸Turns.of_below (Below.refl _ wr).drew)
        have HGX:Hid (PsG B wd (.slice aq k cq) k (ps)):=HGr.out.below (hwd▸(Below.refl _ wr).drew)
        have HSX:Hid (B≤wd.heap.size):=hwd▸HSr.out
        rw [hwd]at hHeld HKX HPX HBX
        rw [hwd]
        clear hwd HKr HPr HGr HBr HSr HTr
        refine za6 0 {dst:=some 37,op:=Op.fieldAddr 41 (Operand.tmp 3) 2,type:=0,pos:=_,after:=_,guard:=none} (.pointer (some ⟨Kb,7,none⟩)) ?_
        try simp only [Act.put,List.setIfInBounds_toArray,List.set_cons_zero,List.set_cons_succ]
        refine za6 1 {dst:=some 38,op:=Op.load 37 (Operand.tmp 37),type:=37,pos:=_,after:=_,guard:=none} (.slice aq k cq) ?_
        try simp only [Act.put,List.setIfInBounds_toArray,List.set_cons_zero,List.set_cons_succ]
        refine za6 2 {dst:=some 39,op:=Op.fieldAddr 41 (Operand.tmp 1) 2,type:=0,pos:=_,after:=_,guard:=none} (.pointer (some ⟨w.heap.size,7,none⟩)) ?_
        try simp only [Act.put,List.setIfInBounds_toArray,List.set_cons_zero,List.set_cons_succ]
        refine za6 3 {dst:=some 40,op:=Op.load 37 (Operand.tmp 39),type:=37,pos:=_,after:=_,guard:=none} (.slice (some ⟨b,off,none⟩) N cp) ?_
        try simp only [Act.put,List.setIfInBounds_toArray,List.set_cons_zero,List.set_cons_succ]
        refine za6 4 {dst:=some 41,op:=Op.move (Operand.tmp 4),type:=3,pos:=_,after:=_,guard:=none} (.int .i64 (k:Int)) ?_
        try simp only [Act.put,List.setIfInBounds_toArray,List.set_cons_zero,List.set_cons_succ]
        refine ywk (i:=5) (oi:= {dst:=some 42,op:=Op.indexAddr 37 (Operand.tmp 40) (Operand.tmp 41),type:=0,pos:=_,after:=_,guard:=none}) (v:= .pointer (some ⟨b,off+k*7,none⟩)) 5 [] rfl (by kernel_rfl) (by kernel_rfl) (by kernel_rfl) (by kernel_rfl) (by kernel_rfl) (fun _ _ _ h=>h) (Or.inl ⟨by rfl,?_⟩) (by assumption) ?_
        · intro wX hSw
          try dsimp only at hSw
          go_simp
          try exact IntWalk.i64_in _ (by omega)
          try(intro h9;exfalso;omega)
        try simp only [Act.put,List.setIfInBounds_toArray,List.set_cons_zero,List.set_cons_succ]
        refine za6 6 {dst:=some 43,op:=Op.load 97 (Operand.tmp 42),type:=97,pos:=_,after:=_,guard:=none} (.agg #[.int .i64 q.n,.slice a1 q.st.r.length e1',.int .i64 q.st.q,.int .i64 q.st.d,.slice a4 q.p.length e4',.slice a5 q.t.length e5',.slice a6 q.a.length e6']) ?_
        try simp only [Act.put,List.setIfInBounds_toArray,List.set_cons_zero,List.set_cons_succ]
        refine yag (rs:= [7]) (by kernel_rfl) (by simp) ?_
        refine AllReadyZ.cons rfl (fun K hK=> ?_) AllReadyZ.nil
        go_simp
        refine(zoe _ q wd HWT.out (HIP.out wd HBX.out)).mono ?_
        rintro e v1 ⟨y1,rfl,hb9,hy⟩
        obtain⟨b1,e1,b4,e4,b5,e5,b6,e6,rfl⟩:=hy.form
        have HY:=yxb hy
        have HBW:=yxb hb9
        have HSD:Hid (B≤wd.heap.size):=HSX.out
        have HB1:=yxb (trm HBX.out hb9)
        have HS1:Hid (B≤v1.heap.size):=Nat.le_trans HSX.out hb9.size
        have HT1:=yxb (HTX.out.trans (S:=fun j=>j=Kb) (Turns.of_below hb9))
        have HK1:=yxb (HKX.out.below hb9)
        have HP1:=yxb (HPX.out.below hb9)
        clear hb9 hy
        clear HKX HPX HTX HBX HSX
        have HKX:=HK1
        have HPX:=HP1
        have HTX:=HT1
        have HBX:=HB1
        have HSX:=HS1
        clear HK1 HP1 HT1 HB1 HS1
        try go_simp
        refine hK.out _ _ ⟨HKX.out.cell (i:=7) rfl,HPX.out.cell (i:=7) rfl,(HBX.out.cell (p:=⟨b,_,none⟩) hb).trans f0,(HBX.out.cell (p:=⟨b,_,none⟩) hb).trans f1,(HBX.out.cell (p:=⟨b,_,none⟩) hb).trans f2,(HBX.out.cell (p:=⟨b,_,none⟩) hb).trans f3,(HBX.out.cell (p:=⟨b,_,none⟩) hb).trans f4,(HBX.out.cell (p:=⟨b,_,none⟩) hb).trans f5,(HBX.out.cell (p:=⟨b,_,none⟩) hb).trans f6⟩ (fun hHeld=> ?_)
        clear hK K
        try simp only [Act.put,List.setIfInBounds_toArray,List.set_cons_zero,List.set_cons_succ]
        refine yag (rs:= [8]) (by kernel_rfl) (by simp) ?_
        refine AllReadyZ.cons rfl (fun K hK=> ?_) AllReadyZ.nil
        obtain⟨X2,v2,HX2,HV,hbv,hs2⟩:=yw1 v1 #[.int .i64 q.n,.slice b1 q.st.r.length e1,.int .i64 q.st.q,.int .i64 q.st.d,.slice b4 q.p.length e4,.slice b5 q.t.length e5,.slice b6 q.a.length e6] 97
        have HS2:=yxb hs2
        have HY2:=yxb ((HY.out.under hbv).mono (fun j hj=>⟨hj.1,Nat.lt_of_lt_of_le hj.2 hbv.size⟩))
        have HB1:=yxb (trm HBX.out hbv)
        have HS1:Hid (B≤v2.heap.size):=Nat.le_trans HSX.out hbv.size
        have HBW2:=yxb (trm HBW.out hbv)
        have HT1:=yxb (HTX.out.trans (S:=fun j=>j=Kb) (Turns.of_below hbv))
        have HK1:=yxb (HKX.out.below hbv)
        have HP1:=yxb (HPX.out.below hbv)
        clear HY HBW hbv hs2
        clear HKX HPX HTX HBX HSX
        have HKX:=HK1
        have HPX:=HP1
        have HTX:=HT1
        have HBX:=HB1
        have HSX:=HS1
        clear HK1 HP1 HT1 HB1 HS1
        go_simp
        rw [HV.out,←HX2.out]
        clear HV HX2
        refine hK.out _ _ ⟨HKX.out.cell (i:=7) rfl,HPX.out.cell (i:=7) rfl,(HBX.out.cell (p:=⟨b,_,none⟩) hb).trans f0,(HBX.out.cell (p:=⟨b,_,none⟩) hb).trans f1,(HBX.out.cell (p:=⟨b,_,none⟩) hb).trans f2,(HBX.out.cell (p:=⟨b,_,none⟩) hb).trans f3,(HBX.out.cell (p:=⟨b,_,none⟩) hb).trans f4,(HBX.out.cell (p:=⟨b,_,none⟩) hb).trans f5,(HBX.out.cell (p:=⟨b,_,none⟩) hb).trans f6⟩ (fun hHeld=> ?_)
        clear hK K
        try simp only [Act.put,List.setIfInBounds_toArray,List.set_cons_zero,List.set_cons_succ]
        refine yag (rs:= [9]) (by kernel_rfl) (by simp) ?_
        refine AllReadyZ.cons rfl (fun K hK=> ?_) AllReadyZ.nil
        obtain⟨cs,G,hgd⟩:=HGX.out
        have hrow:=(hgd.below HBW2.out).row
        obtain⟨i0,hi0,hz0,hz1,hz2⟩:=info_parts infoPt
        refine yvz rfl (.tmp 38) (.tmp 45) 37 rfl B 97 i0 (.agg #[.int .i64 0,.slice none 0 0,.int .i64 0,.int .i64 0,.slice none 0 0,.slice none 0 0,.slice none 0 0]) 7 120 Tryz.underlying37 hi0 hz0 hz1 hz2 rfl (by decide) (.slice aq k cq) k cs rfl hrow (.slice (some ⟨X2,0,none⟩) 1 1) 1 (znz q (.slice b1 q.st.r.length e1) (.slice b4 q.p.length e4) (.slice b5 q.t.length e5) (.slice b6 q.a.length e6)) rfl (src_part HS2.out) (zm3 _ _ _ _ _ _ _ _ _ _ _ _ _) (by unfold maxLen;omega) (by omega) HSX.out ?_
        intro v9 v4 ho hg hnr
        obtain⟨a9,c9,rfl⟩:=yoj ho
        have HG4:Hid (PsG B v4 (.slice a9 (k+1) c9) (k+1) (ps)):=by
          have h9:=HY2.out
          have h8:=HQ.out
          subst h8
          exact hgd.snocPa HBW2.out HSD.out h9 _ _ _ _ rfl ho hg hnr
        have HB1:=yxb (HBX.out.trans ((Below.refl _ v2).grown hg HBX.out.size (fun j e=>by have h9:=yxd hrow e;omega)))
        have HS1:Hid (B≤v4.heap.size):=Nat.le_trans HSX.out hg.size
        have HT1:=yxb (HTX.out.grownNew hg (fun j e=>by have h9:=yxd hrow e;have h8:=HBE.out;omega))
        have HK1:=yxb (HKX.out.turns (yw0 hg) (yx1 hrow HKX.out (by decide)))
        have HP1:=yxb (HPX.out.turns (yw0 hg) (yx1 hrow HPX.out (by decide)))
        clear ho hg hnr hgd hrow hi0 hz0 hz1 hz2 HS2 HY2 HGX HBW2 HSD HQ
        clear HKX HPX HTX HBX HSX
        have HKX:=HK1
        have HPX:=HP1
        have HTX:=HT1
        have HBX:=HB1
        have HSX:=HS1
        clear HK1 HP1 HT1 HB1 HS1
        refine hK.out _ _ ⟨HKX.out.cell (i:=7) rfl,HPX.out.cell (i:=7) rfl,(HBX.out.cell (p:=⟨b,_,none⟩) hb).trans f0,(HBX.out.cell (p:=⟨b,_,none⟩) hb).trans f1,(HBX.out.cell (p:=⟨b,_,none⟩) hb).trans f2,(HBX.out.cell (p:=⟨b,_,none⟩) hb).trans f3,(HBX.out.cell (p:=⟨b,_,none⟩) hb).trans f4,(HBX.out.cell (p:=⟨b,_,none⟩) hb).trans f5,(HBX.out.cell (p:=⟨b,_,none⟩) hb).trans f6⟩ (fun hHeld=> ?_)
        clear hK K
        try simp only [Act.put,List.setIfInBounds_toArray,List.set_cons_zero,List.set_cons_succ]
        refine za6 10 {dst:=some 47,op:=Op.fieldAddr 41 (Operand.tmp 3) 2,type:=0,pos:=_,after:=_,guard:=none} (.pointer (some ⟨Kb,7,none⟩)) ?_
        try simp only [Act.put,List.setIfInBounds_toArray,List.set_cons_zero,List.set_cons_succ]
        refine yag (rs:= [11]) (by kernel_rfl) (by simp) ?_
        refine AllReadyZ.last rfl (fun K hK=> ?_)
        have k7:=HKX.out.cell (i:=7) rfl
        have kfz:=HKX.out.free
        obtain⟨wf,hwf⟩:∃X,v4.setCell ⟨Kb,7,none⟩ (.slice a9 (k+1) c9)=X:=⟨_,rfl⟩
        have HTF:Hid (Turns (fun j=>j=Kb) v4 wf):=hwf▸ydp _ _ 7 _
        have HKF:Hid (Bk wf Kb 41 #[.int .i64 m.n,.int .i64 m.s,.slice avi m.i.length cvi,.slice avh m.h.length cvh,.slice avs m.e.length cvs,.int .i64 m.z,.slice ad2 d.length cd2,.slice a9 (k+1) c9,.slice ab2 kb.length cb2,.int .i64 kt,.int .i64 kq,.bool kf,.slice as2 ks.length cs2,.slice ax2 kx.length cx2]):=hwf▸HKX.out.put 7 _
        have HTF9:=yxb (HTX.out.trans HTF.out)
        have HGF:=yxb (HG4.out.low HTF.out (fun j hj e=>by omega))
        have HWF:Hid _:=hwf
        clear hwf
        go_simp
        rw [HWF.out]
        clear HWF k7 kfz HTF HKX HPX HTX HBX HG4 HSX
        refine hK.out _ _ ?_
        clear hK K
        try simp only [Act.put,List.setIfInBounds_toArray,List.set_cons_zero,List.set_cons_succ]
        refine ywa (by kernel_rfl) ?_ _
        clear hHeld
        go_wp2
        go_roundw
        case rel=>exact⟨k+1,_,by omega,by go_num,HGF.out,HKF.out,HTF9.out⟩
        case measure=>simp [intOf];omega
      case neg=>
        obtain rfl:k=N:=by omega
        have hkd:decide ((k:Int)<(k:Int))=false:=by simp
        have HRr:=yxb (HR5.out.turns HTr.out (fun e=>by omega))
        obtain⟨m0,m1,m2,m3,m4,m5,m6,m7,m8,m9,m10,m11,m12,m13⟩:=ywj HKr.out
        obtain⟨r0,r1,r2,r3,r4,r5,r6,r7,r8,r9,r10,r11,r12,r13⟩:=ywj HRr.out
        have rf:=HRr.out.free
        obtain⟨wf,hwf⟩:∃X,put14 wr Rb (.int .i64 m.n) (.int .i64 m.s) (.slice avi m.i.length cvi) (.slice avh m.h.length cvh) (.slice avs m.e.length cvs) (.int .i64 m.z) (.slice ad2 d.length cd2) (.slice aq k cq) (.slice ab2 kb.length cb2) (.int .i64 kt) (.int .i64 kq) (.bool kf) (.slice as2 ks.length cs2) (.slice ax2 kx.length cx2)=X:=⟨_,rfl⟩
        have HTF:Hid (Turns (fun j=>j=Rb) wr wf):=hwf▸yyt _ _ _ _ _ _ _ _ _ _ _ _ _ _ _ _
        have HRF:Hid (Bk wf Rb 41 #[.int .i64 m.n,.int .i64 m.s,.slice avi m.i.length cvi,.slice avh m.h.length cvh,.slice avs m.e.length cvs,.int .i64 m.z,.slice ad2 d.length cd2,.slice aq k cq,.slice ab2 kb.length cb2,.int .i64 kt,.int .i64 kq,.bool kf,.slice as2 ks.length cs2,.slice ax2 kx.length cx2]):=hwf▸HRr.out.put14 _ _ _ _ _ _ _ _ _ _ _ _ _ _
        have HBF:=yxb (HBr.out.trans (HTF.out.to_below (fun j hj=>by omega) HBr.out.size))
        have HGF:=yxb (HGr.out.low HTF.out (fun j hj e=>by omega))
        have HMF:=yxb ((HMD.out.turns HTr.out (fun j hj e=>by omega)).turns HTF.out (fun j hj e=>by omega))
        have hKt:∀j,j=Kb→ ∃vs,Bk w5 j 41 vs:=fun j e=>⟨_,e▸HK5.out⟩
        have hRt:∀j,j=Rb→ ∃vs,Bk w5 j 41 vs:=fun j e=>⟨_,e▸HR5.out⟩
        have hF6:=(HA6.out.turns HTr.out (fun j hj e=>zay (HLA.out.1 j hj).2.2 (hKt j e) (by decide))).turns HTF.out (fun j hj e=>zay (HLA.out.1 j hj).2.2 (hRt j e) (by decide))
        have hF8:=(HA8.out.turns HTr.out (fun j hj e=>zay (HLA.out.2.1 j hj).2.2 (hKt j e) (by decide))).turns HTF.out (fun j hj e=>zay (HLA.out.2.1 j hj).2.2 (hRt j e) (by decide))
        have hF12:=(HA12.out.turns HTr.out (fun j hj e=>zay (HLA.out.2.2.1 j hj).2.2 (hKt j e) (by decide))).turns HTF.out (fun j hj e=>zay (HLA.out.2.2.1 j hj).2.2 (hRt j e) (by decide))
        have hF13:=(HA13.out.turns HTr.out (fun j hj e=>zay (HLA.out.2.2.2 j hj).2.2 (hKt j e) (by decide))).turns HTF.out (fun j hj e=>zay (HLA.out.2.2.2 j hj).2.2 (hRt j e) (by decide))
        have HO6:=yxb hF6
        have HO8:=yxb hF8
        have HO12:=yxb hF12
        have HO13:=yxb hF13
        clear hF6 hF8 hF12 hF13 hKt hRt
        obtain⟨t0,t1,t2,t3,t4,t5,t6,t7,t8,t9,t10,t11,t12,t13⟩:=ywj HRF.out
        unfold put14 at hwf
        go_wp2
        refine bodyPost_ret (v:= .agg #[.int .i64 m.n,.int .i64 m.s,.slice avi m.i.length cvi,.slice avh m.h.length cvh,.slice avs m.e.length cvs,.int .i64 m.z,.slice ad2 d.length cd2,.slice aq k cq,.slice ab2 kb.length cb2,.int .i64 kt,.int .i64 kq,.bool kf,.slice as2 ks.length cs2,.slice ax2 kx.length cx2]) (by simp [results,Tryz.results38,go_sem,t0,t1,t2,t3,t4,t5,t6,t7,t8,t9,t10,t11,t12,t13]) rfl ⟨⟨_,rfl,?_⟩,HBF.out⟩
        obtain⟨A,hA,hA9⟩:=PsG.ownD (l:=ps) (by rw [HNL.out];exact HGF.out)
        have hBf:B≤wf.heap.size:=Nat.le_trans HSr.out HTF.out.size
        have hB9:=HBE.out
        obtain⟨g6,g8,g12,g13⟩:=HLA.out
        exact⟨_,A6,A,A8,A12,A13,_,_,_,_,_,_,_,_,rfl,HMF.out,HO6.out,hA,HO8.out,HO12.out,HO13.out,
          fun j hj=>⟨⟨by omega,by omega⟩,fun e=>by have:=(g6 j e).1;omega,fun e=>by have:=hA9 j e;omega,fun e=>by have:=(g8 j e).1;omega,fun e=>by have:=(g12 j e).1;omega,fun e=>by have:=(g13 j e).1;omega⟩,
          fun j hj=>⟨⟨by have:=(g6 j hj).1;omega,by have:=(g6 j hj).2.1;omega⟩,fun e=>by have:=hA9 j e;have:=(g6 j hj).2.1;omega,fun e=>zay (g6 j hj).2.2 (g8 j e).2.2 (by decide),fun e=>zay (g6 j hj).2.2 (g12 j e).2.2 (by decide),fun e=>zay (g6 j hj).2.2 (g13 j e).2.2 (by decide)⟩,
          fun j hj=>⟨⟨by have:=hA9 j hj;omega,(hA9 j hj).2⟩,fun e=>by have:=hA9 j hj;have:=(g8 j e).2.1;omega,fun e=>by have:=hA9 j hj;have:=(g12 j e).2.1;omega,fun e=>by have:=hA9 j hj;have:=(g13 j e).2.1;omega⟩,
          fun j hj=>⟨⟨by have:=(g8 j hj).1;omega,by have:=(g8 j hj).2.1;omega⟩,fun e=>zay (g8 j hj).2.2 (g12 j e).2.2 (by decide),fun e=>zay (g8 j hj).2.2 (g13 j e).2.2 (by decide)⟩,
          fun j hj=>⟨⟨by have:=(g12 j hj).1;omega,by have:=(g12 j hj).2.1;omega⟩,fun e=>zay (g12 j hj).2.2 (g13 j e).2.2 (by decide)⟩,
          fun j hj=>⟨by have:=(g13 j hj).1;omega,by have:=(g13 j hj).2.1;omega⟩⟩
theorem part_le {l:List Pa} {b i:Nat} (h:(ywo l).wt≤b) (hi:i<l.length):(paAt l i).wt≤b:=by
  rw [yyn]at h
  have:∀(f:Nat→Nat) (n:Nat),i<n→f i≤sumL f n:=fun f n=>by
    induction n with
    |zero=>intro h;omega
    |succ n ih=>
      intro h
      show f i≤sumL f n+f n
      by_cases e:i=n
      · subst e;omega
      · have:=ih (by omega);omega
  have:=this (fun i=>(paAt l i).wt) _ hi
  omega
theorem zge (x:Value) (k:Kn) (w:World) (hs:yx6 k) (h:IsKern w x k):
    Calls Tryz.prog 38 #[x] w fun e w'=>(∃y,e= .returned y∧KernF (fun j=>w.heap.size≤j∧j<w'.heap.size) w' y k)∧Below w.heap.size w w':=by
  obtain⟨m,d,ps,kb,kt,kq,kf,ks,kx⟩:=k
  obtain⟨vi,vh,vs,u6,u7,u8,u12,u13,rfl,hM,h6,h7,h8,h12,h13⟩:=h
  have hw:=hs.2
  unfold Kn.wt at hw
  simp only [ywl,yyj,yx9,yyf]at hw
  have hpw:=yyn ps
  obtain⟨vi9,vh9,vs9,e9,hI,hH,hE⟩:=id hM
  simp only [Value.agg.injEq,Array.mk.injEq,List.cons.injEq,and_true,true_and]at e9
  obtain⟨rfl,rfl,rfl⟩:=e9
  obtain⟨ai,ci,rfl,_⟩:=hI
  obtain⟨ah,ch,rfl,_⟩:=hH
  obtain⟨ae,ce,rfl,_⟩:=hE
  obtain⟨a6,c6,rfl⟩:=ywe (c:=1) (n:=d.length) h6
  obtain⟨a7,c7,rfl⟩:=ywe (c:=7) (n:=ps.length) h7
  obtain⟨a8,c8,rfl⟩:=ywe (c:=8) (n:=kb.length) h8
  obtain⟨a12,c12,rfl⟩:=ywe (c:=7) (n:=ks.length) h12
  obtain⟨a13,c13,rfl⟩:=ywe (c:=3) (n:=kx.length) h13
  exact zm6 m d ai ci ah ch ae ce a6 c6 a7 c7 ps.length ps kb kt kq kf ks kx a8 c8 a12 c12 a13 c13 w hs.1 rfl (by omega) (by omega) (fun i hi=>Nat.le_trans (part_le (Nat.le_refl _) hi) (by omega)) hM h6 h7 h8 h12 h13
end Go.Proofs.YtghndljgadpijaaGreat
