/- The specification's copy of any kernel. -/
import Derived.Test.YtghndljgadpijaaGreatExactCollectG01
import Derived.Test.YtghndljgadpijaaGreatExactCollectG36
import Derived.Test.YtghndljgadpijaaGreatExactCollectLKOm
import Derived.Test.YtghndljgadpijaaGreatExactCollectG07
import Derived.Test.YtghndljgadpijaaGreatExactCollectG06
import Derived.ArgAppend
import Derived.Deep.CutBlock
namespace Go.Proofs.YtghndljgadpijaaGreat
open Go.RowKit
theorem za9 {P:Program} {md:Region.Mode} {ops:Array Oper} {Q:Exit→Act→World→Prop} {S:World→Prop} {z fuel:Nat} {listed:Array Bool} {a:Act} {w:World} (i:Nat) (oi:Oper) (v:Value)
  (h:yx7 P md ops Q S z fuel (listed.setIfInBounds i true) (a.put oi.dst v) w) (hi:ops[i]? =some oi:=by rfl)
  (hs:Region.noSelect ops=true:=by kernel_rfl) (hf:Region.free md ops listed i=true:=by kernel_rfl) (hr:(Region.ready md ops listed).contains i=true:=by kernel_rfl)
  (hc:yzl md ops i z [i]=true:=by kernel_rfl) (hu: [i].all (fun p=> !listed.getD p true)=true:=by kernel_rfl)
  (hQ:∀c a w,Q (.panic c) (a.put oi.dst v) w→Q (.panic c) a w:=by exact fun _ _ _ h=>h)
  (hy:YieldsIf P ops S oi v a:=by exact Or.inl ⟨by rfl,by(intro wX hSw;(try dsimp only at hSw);go_simp;(try exact IntWalk.i64_in _ (by omega)))⟩) (hS:S w:=by assumption):yx7 P md ops Q S z (fuel+1) listed a w:=
  ywe i [] hi hs hf hr hc hu hQ hy hS h
theorem yx5 {p:Prop} (h:p):Hid p:=h
def bits5 (n:Nat):Array Bool:=(Array.range 27).map fun i=>n.testBit i
theorem zfz {P:Program} {ops:Array Oper} {Q:Exit→Act→World→Prop} {md:Region.Mode} {S:World→Prop} {z fuel:Nat} {l l':Array Bool} {a:Act} {w:World} (h:l=l') (H:yx7 P md ops Q S z fuel l' a w):yx7 P md ops Q S z fuel l a w:=h▸H
theorem zeg {W:World} {b:Nat} {T:TypeId} {z0 z1 z2 z3 z4 z5 z6 z7 z8 z9 z10 z11 z12 z13:Value} (h:Bk W b T #[z0,z1,z2,z3,z4,z5,z6,z7,z8,z9,z10,z11,z12,z13]):W.cell? ⟨b,0,none⟩=some z0∧W.cell? ⟨b,1,none⟩=some z1∧W.cell? ⟨b,2,none⟩=some z2∧W.cell? ⟨b,3,none⟩=some z3∧W.cell? ⟨b,4,none⟩=some z4∧W.cell? ⟨b,5,none⟩=some z5∧W.cell? ⟨b,6,none⟩=some z6∧W.cell? ⟨b,8,none⟩=some z8∧W.cell? ⟨b,9,none⟩=some z9∧W.cell? ⟨b,10,none⟩=some z10∧W.cell? ⟨b,11,none⟩=some z11∧W.cell? ⟨b,12,none⟩=some z12∧W.cell? ⟨b,13,none⟩=some z13:=⟨h.cell (i:=0) rfl,h.cell (i:=1) rfl,h.cell (i:=2) rfl,h.cell (i:=3) rfl,h.cell (i:=4) rfl,h.cell (i:=5) rfl,h.cell (i:=6) rfl,h.cell (i:=8) rfl,h.cell (i:=9) rfl,h.cell (i:=10) rfl,h.cell (i:=11) rfl,h.cell (i:=12) rfl,h.cell (i:=13) rfl⟩
theorem ps_form {w:World} {ap:Option Addr} {cp N:Nat} {l:List Pa} (hl:l.length=N) (h:IsD w (.slice ap N cp) (ywi l)):N=0∨ ∃b off,ap=some ⟨b,off,none⟩∧b<w.heap.size∧ ∀j,j<N*7→ ∃u,w.cell? ⟨b,off+j,none⟩=some u∧IsD w u ((paAt l (j/7)).cell (j%7)):=by
  subst hl
  obtain⟨a,cap,he,_,_,h9⟩:=IsD.parts (c:=7) (n:=l.length) h
  cases he
  exact h9
theorem infoMlG:(Tryz.prog.info? 152).map (fun i=>(i.zero,i.size,i.bytes))=some (some (.agg #[.int .i64 0,.int .i64 0,.int .i64 0,.int .i64 0,.int .i64 0,.int .i64 0,.int .i64 0,.bool false]),8,64):=by kernel_rfl
theorem infoXmG:(Tryz.prog.info? 166).map (fun i=>(i.zero,i.size,i.bytes))=some (some (.agg #[.int .i64 0,.int .i64 0,.int .i64 0]),3,24):=by kernel_rfl
def Fin5 (W0:World) (m:Md) (d:List Int) (kb:List Ml) (kt kq:Int) (kf:Bool) (ks:List Ev) (kx:List Em) (wf:World) (Kb:Nat):Prop:=∃n0 n1 avi cvi avh cvh avs cvs ad2 cd2 ab2 cb2 as2 cs2 ax2 cx2,(W0.heap.size≤n0∧W0.heap.size≤n1∧n1≤wf.heap.size)∧MdF (fun j=>n0≤j∧j<n1) wf (.agg #[.int .i64 m.n,.int .i64 m.s,.slice avi m.i.length cvi,.slice avh m.h.length cvh,.slice avs m.e.length cvs,.int .i64 m.z]) m∧OwnN n1 3 1 wf (.slice ad2 d.length cd2) d.length (intCells d)∧OwnN n1 152 8 wf (.slice ab2 kb.length cb2) kb.length (yxk kb)∧OwnN n1 90 7 wf (.slice as2 ks.length cs2) ks.length (yvz ks)∧OwnN n1 166 3 wf (.slice ax2 kx.length cx2) kx.length (ywm kx)∧Bk wf Kb 41 #[.int .i64 m.n,.int .i64 m.s,.slice avi m.i.length cvi,.slice avh m.h.length cvh,.slice avs m.e.length cvs,.int .i64 m.z,.slice ad2 d.length cd2,.slice none 0 0,.slice ab2 kb.length cb2,.int .i64 kt,.int .i64 kq,.bool kf,.slice as2 ks.length cs2,.slice ax2 kx.length cx2]∧Below W0.heap.size W0 wf∧W0.heap.size≤Kb∧(Kb<n0∨n1≤Kb)
def act5 (m:Md) (d:List Int) (ai:Option Addr) (ci:Nat) (ah:Option Addr) (ch:Nat) (ae:Option Addr) (ce:Nat) (ad:Option Addr) (cd:Nat) (ap:Option Addr) (cp N:Nat) (ab:Option Addr) (cb:Nat) (asx:Option Addr) (csx:Nat) (ax:Option Addr) (cx:Nat) (kb:List Ml) (ks:List Ev) (kx:List Em) (kt kq:Int) (kf:Bool) (P Rb:Nat) (v3 v7 v8 v11 v12 v15 v24 v25 v28 v29:Value):Act:=⟨#[.agg #[.int .i64 m.n,.int .i64 m.s,.slice ai m.i.length ci,.slice ah m.h.length ch,.slice ae m.e.length ce,.int .i64 m.z,.slice ad d.length cd,.slice ap N cp,.slice ab kb.length cb,.int .i64 kt,.int .i64 kq,.bool kf,.slice asx ks.length csx,.slice ax kx.length cx],.pointer (some ⟨P,0,none⟩),.pointer (some ⟨Rb,0,none⟩),v3,undef,.pointer (some ⟨P,0,none⟩),.agg #[.int .i64 m.n,.int .i64 m.s,.slice ai m.i.length ci,.slice ah m.h.length ch,.slice ae m.e.length ce,.int .i64 m.z],v7,v8,.pointer (some ⟨P,6,none⟩),.slice ad d.length cd,v11,v12,.pointer (some ⟨P,8,none⟩),.slice ab kb.length cb,v15,.pointer (some ⟨P,9,none⟩),.int .i64 kt,.pointer (some ⟨P,10,none⟩),.int .i64 kq,.pointer (some ⟨P,11,none⟩),.bool kf,.pointer (some ⟨P,12,none⟩),.slice asx ks.length csx,v24,v25,.pointer (some ⟨P,13,none⟩),.slice ax kx.length cx,v28,v29,undef,undef,undef,undef,undef,undef,undef,undef,undef,undef,undef,undef,undef,undef,undef,undef,undef,undef,undef],[]⟩
def R5 (l:Array Bool) (W0 W:World) (m:Md) (d:List Int) (kb:List Ml) (kt kq:Int) (kf:Bool) (ks:List Ev) (kx:List Em) (n0 n1 Kb:Nat) (v3 v7 v8 v11 v12 v15 v24 v25 v28 v29:Value):Prop:=Below W0.heap.size W0 W∧l.getD 26 true=false∧(T l 2→ ∃x2 x3 x4,v7= .agg #[.int .i64 m.n,.int .i64 m.s,x2,x3,x4,.int .i64 m.z]∧MdF (fun j=>n0≤j∧j<n1) W v7 m∧W0.heap.size≤n0∧W0.heap.size≤n1∧n1≤W.heap.size)∧(T l 3→ ∃g:Nat,v8= .slice (some ⟨g,0,none⟩) 0 0)∧(T l 6→T l 2∧OwnN n1 3 1 W v11 d.length (intCells d))∧(T l 7→ ∃g:Nat,v12= .slice (some ⟨g,0,none⟩) 0 0)∧(T l 10→T l 2∧OwnN n1 152 8 W v15 kb.length (yxk kb))∧(T l 19→T l 2∧OwnN n1 90 7 W v24 ks.length (yvz ks))∧(T l 20→ ∃g:Nat,v25= .slice (some ⟨g,0,none⟩) 0 0)∧(T l 23→T l 2∧OwnN n1 166 3 W v28 kx.length (ywm kx))∧(T l 24→(T l 2∧T l 6∧T l 10∧T l 19∧T l 23)∧ ∃x2 x3 x4,v7= .agg #[.int .i64 m.n,.int .i64 m.s,x2,x3,x4,.int .i64 m.z]∧v29= .agg #[.int .i64 m.n,.int .i64 m.s,x2,x3,x4,.int .i64 m.z,v11,.slice none 0 0,v15,.int .i64 kt,.int .i64 kq,.bool kf,v24,v28])∧(T l 25→v3= .pointer (some ⟨Kb,0,none⟩)∧Bk W Kb 41 #[.int .i64 0,.int .i64 0,.slice none 0 0,.slice none 0 0,.slice none 0 0,.int .i64 0,.slice none 0 0,.slice none 0 0,.slice none 0 0,.int .i64 0,.int .i64 0,.bool false,.slice none 0 0,.slice none 0 0]∧W0.heap.size≤Kb∧(T l 2→Kb<n0∨n1≤Kb))
theorem R5.move {l:Array Bool} {W0 W V:World} {m:Md} {d:List Int} {kb:List Ml} {kt kq:Int} {kf:Bool} {ks:List Ev} {kx:List Em} {n0 n1 Kb:Nat} {v3 v7 v8 v11 v12 v15 v24 v25 v28 v29:Value} (h:R5 l W0 W m d kb kt kq kf ks kx n0 n1 Kb v3 v7 v8 v11 v12 v15 v24 v25 v28 v29) (hb:Below W.heap.size W V):R5 l W0 V m d kb kt kq kf ks kx n0 n1 Kb v3 v7 v8 v11 v12 v15 v24 v25 v28 v29:=by
  obtain⟨hB,h26,h2,h3,h6,h7,h10,h19,h20,h23,h24,h25⟩:=h
  refine⟨trm hB hb,h26,fun h=> ?_,h3,fun h=>⟨(h6 h).1,(h6 h).2.below hb⟩,h7,fun h=>⟨(h10 h).1,(h10 h).2.below hb⟩,fun h=>⟨(h19 h).1,(h19 h).2.below hb⟩,h20,fun h=>⟨(h23 h).1,(h23 h).2.below hb⟩,h24,fun h=>⟨(h25 h).1,(h25 h).2.1.below hb,(h25 h).2.2⟩⟩
  obtain⟨x2,x3,x4,e,h1,h2,h3,h4⟩:=h2 h
  exact⟨x2,x3,x4,e,h1.below hb,h2,h3,Nat.le_trans h4 hb.size⟩
def pure5:List Nat:= [0,1,4,5,8,9,11,12,13,14,15,16,17,18,21,22]
theorem split5:∀i,i<27→i∈pure5∨i∈ [2,3,6,7,10,19,20,23,24,25,26]:=by decide
abbrev J5 (m:Md) (d:List Int) (ai:Option Addr) (ci:Nat) (ah:Option Addr) (ch:Nat) (ae:Option Addr) (ce:Nat) (ad:Option Addr) (cd:Nat) (ap:Option Addr) (cp N:Nat) (_:List Pa) (kb:List Ml) (kt kq:Int) (kf:Bool) (ks:List Ev) (kx:List Em) (ab:Option Addr) (cb:Nat) (asx:Option Addr) (csx:Nat) (ax:Option Addr) (cx:Nat) (W0:World) (P Rb:Nat) (l:Array Bool) (a:Act) (W:World):Prop:=
  l.size=27∧(∀i∈pure5,T l i)∧ ∃v3 v7 v8 v11 v12 v15 v24 v25 v28 v29,a=(act5 m d ai ci ah ch ae ce ad cd ap cp N ab cb asx csx ax cx kb ks kx kt kq kf P Rb v3 v7 v8 v11 v12 v15 v24 v25 v28 v29)∧
    (((∀i,T l i)∧ ∃Kb,v3= .pointer (some ⟨Kb,0,none⟩)∧Fin5 W0 m d kb kt kq kf ks kx W Kb)∨ ∃n0 n1 Kb,R5 l W0 W m d kb kt kq kf ks kx n0 n1 Kb v3 v7 v8 v11 v12 v15 v24 v25 v28 v29)
set_option maxRecDepth 100000 in
set_option maxHeartbeats 64000000 in
theorem zm3 (m:Md) (d:List Int) (ai:Option Addr) (ci:Nat) (ah:Option Addr) (ch:Nat) (ae:Option Addr) (ce:Nat) (ad:Option Addr) (cd:Nat) (ap:Option Addr) (cp N:Nat) (ps:List Pa) (kb:List Ml) (kt kq:Int) (kf:Bool) (ks:List Ev) (kx:List Em) (ab:Option Addr) (cb:Nat) (asx:Option Addr) (csx:Nat) (ax:Option Addr) (cx:Nat) (w:World) (hsm:SmallM m) (hN:ps.length=N) (hN4:N≤1048576) (hlen:d.length≤1048577∧kb.length≤1048577∧ks.length≤1048577∧kx.length≤1048577) (hwt:∀i,i<N→(paAt ps i).wt≤1048577) (hM:IsM w (.agg #[.int .i64 m.n,.int .i64 m.s,.slice ai m.i.length ci,.slice ah m.h.length ch,.slice ae m.e.length ce,.int .i64 m.z]) m) (hD:IsD w (.slice ad d.length cd) (ywr d)) (hPs:IsD w (.slice ap N cp) (ywi ps)) (hBg:IsD w (.slice ab kb.length cb) (yww kb)) (hSu:IsD w (.slice asx ks.length csx) (evsD ks)) (hTo:IsD w (.slice ax kx.length cx) (emsD kx)):
    Calls Tryz.prog 38 #[.agg #[.int .i64 m.n,.int .i64 m.s,.slice ai m.i.length ci,.slice ah m.h.length ch,.slice ae m.e.length ce,.int .i64 m.z,.slice ad d.length cd,.slice ap N cp,.slice ab kb.length cb,.int .i64 kt,.int .i64 kq,.bool kf,.slice asx ks.length csx,.slice ax kx.length cx]] w fun e w'=>(∃y,e= .returned y∧KernF (fun j=>w.heap.size≤j∧j<w'.heap.size) w' y ⟨m,d,ps,kb,kt,kq,kf,ks,kx⟩)∧Below w.heap.size w w':=by
  have HM:=yx5 hM
  have HSD:Hid (∀W,Below w.heap.size w W→SrcC W (.slice ad d.length cd) 1 d.length (intCells d)):=fun W hW=>(IsD.srcI hD).below hW
  have HSB:Hid (∀W,Below w.heap.size w W→SrcC W (.slice ab kb.length cb) 8 kb.length (yxk kb)):=fun W hW=>(IsD.src hBg (yz6 kb)).below hW
  have HSU:Hid (∀W,Below w.heap.size w W→SrcC W (.slice asx ks.length csx) 7 ks.length (yvz ks)):=fun W hW=>(IsD.srcEv hSu).below hW
  have HSX:Hid (∀W,Below w.heap.size w W→SrcC W (.slice ax kx.length cx) 3 kx.length (ywm kx)):=fun W hW=>(IsD.srcX hTo).below hW
  have HPS:=yx5 hPs
  have HLN:=yx5 hlen
  have HSM:Hid (SmallM m):=hsm
  have HQW:=yx5 hwt
  have HNL:Hid (ps.length=N):=hN
  clear hM hD hPs hBg hSu hTo hN hsm hlen hwt
  obtain⟨Rb,hRb⟩:∃Rb,Rb=w.heap.size+1:=⟨_,rfl⟩
  obtain⟨W0,hW0⟩:∃W0,(w.alloc (.cells #[.int .i64 m.n,.int .i64 m.s,.slice ai m.i.length ci,.slice ah m.h.length ch,.slice ae m.e.length ce,.int .i64 m.z,.slice ad d.length cd,.slice ap N cp,.slice ab kb.length cb,.int .i64 kt,.int .i64 kq,.bool kf,.slice asx ks.length csx,.slice ax kx.length cx] 41)).alloc (.cells #[.int .i64 0,.int .i64 0,.slice none 0 0,.slice none 0 0,.slice none 0 0,.int .i64 0,.slice none 0 0,.slice none 0 0,.slice none 0 0,.int .i64 0,.int .i64 0,.bool false,.slice none 0 0,.slice none 0 0] 41)=W0:=⟨_,rfl⟩
  have HP0:=hdq (bkA2 hW0)
  have HR0:Hid (Bk W0 Rb 41 #[.int .i64 0,.int .i64 0,.slice none 0 0,.slice none 0 0,.slice none 0 0,.int .i64 0,.slice none 0 0,.slice none 0 0,.slice none 0 0,.int .i64 0,.int .i64 0,.bool false,.slice none 0 0,.slice none 0 0]):=by rw [←hW0];exact Bk.newAt (by simp [hRb]) _ _
  have HB0:=hdq (beA2 hW0)
  have HW0:=yx5 hW0
  have HRB:=yx5 hRb
  have hRw:w.heap.size<Rb:=by omega
  have hRW:Rb<W0.heap.size:=HR0.out.lt
  clear hW0 hRb
  go_enter Tryz.func38,Tryz.ntmps38
  go_upto_region 1 with fail
  rw [HW0.out,←HRB.out]
  clear HW0
  go_cut [3]from 4 (fun s3 wc=>∃Kb,s3= .pointer (some ⟨Kb,0,none⟩)∧Fin5 W0 m d kb kt kq kf ks kx wc Kb)
  case first=>
    refine yx1 26 (fun W=>W.cell? ⟨w.heap.size,0,none⟩=some (.int .i64 m.n)∧W.cell? ⟨w.heap.size,1,none⟩=some (.int .i64 m.s)∧W.cell? ⟨w.heap.size,2,none⟩=some (.slice ai m.i.length ci)∧W.cell? ⟨w.heap.size,3,none⟩=some (.slice ah m.h.length ch)∧W.cell? ⟨w.heap.size,4,none⟩=some (.slice ae m.e.length ce)∧W.cell? ⟨w.heap.size,5,none⟩=some (.int .i64 m.z)∧W.cell? ⟨w.heap.size,6,none⟩=some (.slice ad d.length cd)∧W.cell? ⟨w.heap.size,8,none⟩=some (.slice ab kb.length cb)∧W.cell? ⟨w.heap.size,9,none⟩=some (.int .i64 kt)∧W.cell? ⟨w.heap.size,10,none⟩=some (.int .i64 kq)∧W.cell? ⟨w.heap.size,11,none⟩=some (.bool kf)∧W.cell? ⟨w.heap.size,12,none⟩=some (.slice asx ks.length csx)∧W.cell? ⟨w.heap.size,13,none⟩=some (.slice ax kx.length cx)) (by kernel_rfl) (zeg HP0.out.drew) (fun hHeld=> ?_)
    have hBd:Below W0.heap.size W0 W0.drew:=(Below.refl _ W0).drew
    refine za9 0 {dst:=some 5,op:=Op.fieldAddr 41 (Operand.tmp 1) 0,type:=0,pos:=_,after:=_,guard:=none} (.pointer (some ⟨w.heap.size,0,none⟩)) ?_
    try simp only [Act.put,q1,q2,q3]
    refine za9 1 {dst:=some 6,op:=Op.load 36 (Operand.tmp 5),type:=36,pos:=_,after:=_,guard:=none} (.agg #[.int .i64 m.n,.int .i64 m.s,.slice ai m.i.length ci,.slice ah m.h.length ch,.slice ae m.e.length ce,.int .i64 m.z]) ?_
    try simp only [Act.put,q1,q2,q3]
    refine za9 4 {dst:=some 9,op:=Op.fieldAddr 41 (Operand.tmp 1) 1,type:=0,pos:=_,after:=_,guard:=none} (.pointer (some ⟨w.heap.size,6,none⟩)) ?_
    try simp only [Act.put,q1,q2,q3]
    refine za9 5 {dst:=some 10,op:=Op.load 22 (Operand.tmp 9),type:=22,pos:=_,after:=_,guard:=none} (.slice ad d.length cd) ?_
    try simp only [Act.put,q1,q2,q3]
    refine za9 8 {dst:=some 13,op:=Op.fieldAddr 41 (Operand.tmp 1) 3,type:=0,pos:=_,after:=_,guard:=none} (.pointer (some ⟨w.heap.size,8,none⟩)) ?_
    try simp only [Act.put,q1,q2,q3]
    refine za9 9 {dst:=some 14,op:=Op.load 38 (Operand.tmp 13),type:=38,pos:=_,after:=_,guard:=none} (.slice ab kb.length cb) ?_
    try simp only [Act.put,q1,q2,q3]
    refine za9 11 {dst:=some 16,op:=Op.fieldAddr 41 (Operand.tmp 1) 4,type:=0,pos:=_,after:=_,guard:=none} (.pointer (some ⟨w.heap.size,9,none⟩)) ?_
    try simp only [Act.put,q1,q2,q3]
    refine za9 12 {dst:=some 17,op:=Op.load 3 (Operand.tmp 16),type:=3,pos:=_,after:=_,guard:=none} (.int .i64 kt) ?_
    try simp only [Act.put,q1,q2,q3]
    refine za9 13 {dst:=some 18,op:=Op.fieldAddr 41 (Operand.tmp 1) 5,type:=0,pos:=_,after:=_,guard:=none} (.pointer (some ⟨w.heap.size,10,none⟩)) ?_
    try simp only [Act.put,q1,q2,q3]
    refine za9 14 {dst:=some 19,op:=Op.load 3 (Operand.tmp 18),type:=3,pos:=_,after:=_,guard:=none} (.int .i64 kq) ?_
    try simp only [Act.put,q1,q2,q3]
    refine za9 15 {dst:=some 20,op:=Op.fieldAddr 41 (Operand.tmp 1) 6,type:=0,pos:=_,after:=_,guard:=none} (.pointer (some ⟨w.heap.size,11,none⟩)) ?_
    try simp only [Act.put,q1,q2,q3]
    refine za9 16 {dst:=some 21,op:=Op.load 4 (Operand.tmp 20),type:=4,pos:=_,after:=_,guard:=none} (.bool kf) ?_
    try simp only [Act.put,q1,q2,q3]
    refine za9 17 {dst:=some 22,op:=Op.fieldAddr 41 (Operand.tmp 1) 7,type:=0,pos:=_,after:=_,guard:=none} (.pointer (some ⟨w.heap.size,12,none⟩)) ?_
    try simp only [Act.put,q1,q2,q3]
    refine za9 18 {dst:=some 23,op:=Op.load 34 (Operand.tmp 22),type:=34,pos:=_,after:=_,guard:=none} (.slice asx ks.length csx) ?_
    try simp only [Act.put,q1,q2,q3]
    refine za9 21 {dst:=some 26,op:=Op.fieldAddr 41 (Operand.tmp 1) 8,type:=0,pos:=_,after:=_,guard:=none} (.pointer (some ⟨w.heap.size,13,none⟩)) ?_
    try simp only [Act.put,q1,q2,q3]
    refine za9 22 {dst:=some 27,op:=Op.load 39 (Operand.tmp 26),type:=39,pos:=_,after:=_,guard:=none} (.slice ax kx.length cx) ?_
    try simp only [Act.put,q1,q2,q3]
    refine zfz (l':=(bits5 6814515)) (by kernel_rfl) ?_
    clear hHeld
    refine zdd (J5 m d ai ci ah ch ae ce ad cd ap cp N ps kb kt kq kf ks kx ab cb asx csx ax cx W0 w.heap.size Rb) ?_ ?_ ?_ ?_ _ _ _ _ ?_ ?_
    · kernel_rfl
    · exact fun _ _ _ h=>h.1
    · rintro l a W ⟨_,_,v3,v7,v8,v11,v12,v15,v24,v25,v28,v29,rfl,⟨_,Kb,rfl,hF⟩|⟨_,_,_,hR⟩⟩ hall
      · unfold act5
        try go_wp2_with fail
        go_meet
        case rel=>exact⟨Kb,rfl,hF⟩
      · have h9:=hall 26 (by decide)
        rw [hR.2.1]at h9
        cases h9
    · rintro l a W ⟨hsz,hpu,v3,v7,v8,v11,v12,v15,v24,v25,v28,v29,rfl,hc⟩ i o ho hj hd
      have hlt:i<27:=(Array.getElem?_eq_some_iff.1 ho).1
      have dp:=fun p hc=>dep_on (p:=p) ho hd hc
      clear ho hd
      rcases hc with ⟨hall,_⟩|⟨n0,n1,Kb,hR⟩
      · have h9:=hall i;rw [h9]at hj;cases hj
      obtain⟨_,_,h2,h3,h6,h7,h10,h19,h20,h23,h24,h25⟩:=id hR
      rcases split5 i hlt with hp|hp
      · have h9:=hpu i hp;rw [h9]at hj;cases hj
      have hno:¬T l i:=fun e=>by rw [e]at hj;cases hj
      have nx:∀j,T (l.setIfInBounds i true) j→i≠j→T l j:=fun j h e=>by rwa [T,getD_set_ne true e]at h
      have hs':(l.setIfInBounds i true).size=27:=by simp [hsz]
      have hp':∀j∈pure5,T (l.setIfInBounds i true) j:=fun j hj=>yk3 (hpu j hj)
      clear hlt hpu
      simp only [List.mem_cons,List.not_mem_nil,or_false]at hp
      rcases hp with rfl|rfl|rfl|rfl|rfl|rfl|rfl|rfl|rfl|rfl|rfl
      · refine yxg rfl (fun K hK=> ?_)
        unfold act5
        go_simp
        refine(ownM_any _ m W HSM.out.i HSM.out.h HSM.out.e (fun j _=>HSM.out.r j) (HM.out.below (HB0.out.trans (hR.1.mono HB0.out.size)))).mono ?_
        rintro e V ⟨y0,rfl,hb,hmd⟩
        obtain⟨avi,cvi,avh,cvh,avs,cvs,rfl⟩:=hmd.form
        try go_simp
        obtain⟨hB',h26',r2,r3,r6,r7,r10,r19,r20,r23,r24,r25⟩:=hR.move hb
        refine hK.out _ _ (fun _=>(zeg (HP0.out.below hB'))) ?_
        try simp only [Act.put,q1]
        try simp only [q3]
        try simp only [q2]
        exact⟨hs',hp',v3,.agg #[.int .i64 m.n,.int .i64 m.s,.slice avi m.i.length cvi,.slice avh m.h.length cvh,.slice avs m.e.length cvs,.int .i64 m.z],v8,v11,v12,v15,v24,v25,v28,v29,rfl,.inr ⟨W.heap.size,V.heap.size,Kb,hB',by rw [getD_set_ne true (by decide)];exact h26',fun _=>⟨_,_,_,rfl,hmd,hR.1.size,Nat.le_trans hR.1.size hb.size,Nat.le_refl _⟩,fun h=>r3 (nx 3 h (by decide)),fun h=>(hno (h6 (nx 6 h (by decide))).1).elim,fun h=>r7 (nx 7 h (by decide)),fun h=>(hno (h10 (nx 10 h (by decide))).1).elim,fun h=>(hno (h19 (nx 19 h (by decide))).1).elim,fun h=>r20 (nx 20 h (by decide)),fun h=>(hno (h23 (nx 23 h (by decide))).1).elim,fun h=>(hno (h24 (nx 24 h (by decide))).1.1).elim,fun h=>⟨(r25 (nx 25 h (by decide))).1,(r25 (nx 25 h (by decide))).2.1,(r25 (nx 25 h (by decide))).2.2.1,fun _=> .inl (h25 (nx 25 h (by decide))).2.1.lt⟩⟩⟩
      · refine yxg rfl (fun K hK=> ?_)
        obtain⟨X,V,HX,HV,hb,hk⟩:=zb1 W #[] 3
        unfold act5
        go_simp
        rw [HV.out,←HX.out]
        obtain⟨hB',h26',r2,r3,r6,r7,r10,r19,r20,r23,r24,r25⟩:=hR.move hb
        refine hK.out _ _ (fun _=>(zeg (HP0.out.below hB'))) ?_
        try simp only [Act.put,q1]
        try simp only [q3]
        try simp only [q2]
        exact⟨hs',hp',v3,v7,.slice (some ⟨X,0,none⟩) 0 0,v11,v12,v15,v24,v25,v28,v29,rfl,.inr ⟨n0,n1,Kb,hB',by rw [getD_set_ne true (by decide)];exact h26',fun h=>r2 (nx 2 h (by decide)),fun _=>⟨X,rfl⟩,fun h=>⟨yk3 (r6 (nx 6 h (by decide))).1,(r6 (nx 6 h (by decide))).2⟩,fun h=>r7 (nx 7 h (by decide)),fun h=>⟨yk3 (r10 (nx 10 h (by decide))).1,(r10 (nx 10 h (by decide))).2⟩,fun h=>⟨yk3 (r19 (nx 19 h (by decide))).1,(r19 (nx 19 h (by decide))).2⟩,fun h=>r20 (nx 20 h (by decide)),fun h=>⟨yk3 (r23 (nx 23 h (by decide))).1,(r23 (nx 23 h (by decide))).2⟩,fun h=>(r24 (nx 24 h (by decide))).imp (fun h=>⟨yk3 h.1,yk3 h.2.1,yk3 h.2.2.1,yk3 h.2.2.2.1,yk3 h.2.2.2.2⟩) id,fun h=>⟨(r25 (nx 25 h (by decide))).1,(r25 (nx 25 h (by decide))).2.1,(r25 (nx 25 h (by decide))).2.2.1,fun e=>(r25 (nx 25 h (by decide))).2.2.2 (nx 2 e (by decide))⟩⟩⟩
      · have t2:=dp 2 (by kernel_rfl)
        obtain⟨g,rfl⟩:=h3 (dp 3 (by kernel_rfl))
        obtain⟨_,_,_,-,-,-,-,hn1⟩:=h2 t2
        refine yxg rfl (fun K hK=> ?_)
        obtain⟨i0,hi0,hz0,hz1,hz2⟩:=info_parts zf8
        refine zd2 rfl (.tmp 8) (.tmp 10) 22 rfl 3 i0 (.int .i64 0) 1 8 Tryz.underlying22 hi0 hz0 hz1 hz2 rfl (by decide) g rfl (.slice ad d.length cd) d.length (intCells d) rfl (HSD.out W (HB0.out.trans (hR.1.mono HB0.out.size))) (by unfold maxLen;have h9:=HLN.out;omega) (by have h9:=HLN.out;omega) ?_
        intro av cv V hcap ho hb
        obtain⟨hB',h26',r2,r3,r6,r7,r10,r19,r20,r23,r24,r25⟩:=hR.move hb
        unfold act5
        refine hK.out _ _ (fun _=>(zeg (HP0.out.below hB'))) ?_
        try simp only [Act.put,q1]
        try simp only [q3]
        try simp only [q2]
        exact⟨hs',hp',v3,v7,.slice (some ⟨g,0,none⟩) 0 0,.slice av d.length cv,v12,v15,v24,v25,v28,v29,rfl,.inr ⟨n0,n1,Kb,hB',by rw [getD_set_ne true (by decide)];exact h26',fun h=>r2 (nx 2 h (by decide)),fun h=>r3 (nx 3 h (by decide)),fun _=>⟨yk3 t2,_,_,rfl,hcap,ho.imp id (fun h=>yw0 h hn1)⟩,fun h=>r7 (nx 7 h (by decide)),fun h=>⟨yk3 (r10 (nx 10 h (by decide))).1,(r10 (nx 10 h (by decide))).2⟩,fun h=>⟨yk3 (r19 (nx 19 h (by decide))).1,(r19 (nx 19 h (by decide))).2⟩,fun h=>r20 (nx 20 h (by decide)),fun h=>⟨yk3 (r23 (nx 23 h (by decide))).1,(r23 (nx 23 h (by decide))).2⟩,fun h=>(hno (h24 (nx 24 h (by decide))).1.2.1).elim,fun h=>⟨(r25 (nx 25 h (by decide))).1,(r25 (nx 25 h (by decide))).2.1,(r25 (nx 25 h (by decide))).2.2.1,fun e=>(r25 (nx 25 h (by decide))).2.2.2 (nx 2 e (by decide))⟩⟩⟩
      · refine yxg rfl (fun K hK=> ?_)
        obtain⟨X,V,HX,HV,hb,hk⟩:=zb1 W #[] 152
        unfold act5
        go_simp
        rw [HV.out,←HX.out]
        obtain⟨hB',h26',r2,r3,r6,r7,r10,r19,r20,r23,r24,r25⟩:=hR.move hb
        refine hK.out _ _ (fun _=>(zeg (HP0.out.below hB'))) ?_
        try simp only [Act.put,q1]
        try simp only [q3]
        try simp only [q2]
        exact⟨hs',hp',v3,v7,v8,v11,.slice (some ⟨X,0,none⟩) 0 0,v15,v24,v25,v28,v29,rfl,.inr ⟨n0,n1,Kb,hB',by rw [getD_set_ne true (by decide)];exact h26',fun h=>r2 (nx 2 h (by decide)),fun h=>r3 (nx 3 h (by decide)),fun h=>⟨yk3 (r6 (nx 6 h (by decide))).1,(r6 (nx 6 h (by decide))).2⟩,fun _=>⟨X,rfl⟩,fun h=>⟨yk3 (r10 (nx 10 h (by decide))).1,(r10 (nx 10 h (by decide))).2⟩,fun h=>⟨yk3 (r19 (nx 19 h (by decide))).1,(r19 (nx 19 h (by decide))).2⟩,fun h=>r20 (nx 20 h (by decide)),fun h=>⟨yk3 (r23 (nx 23 h (by decide))).1,(r23 (nx 23 h (by decide))).2⟩,fun h=>(r24 (nx 24 h (by decide))).imp (fun h=>⟨yk3 h.1,yk3 h.2.1,yk3 h.2.2.1,yk3 h.2.2.2.1,yk3 h.2.2.2.2⟩) id,fun h=>⟨(r25 (nx 25 h (by decide))).1,(r25 (nx 25 h (by decide))).2.1,(r25 (nx 25 h (by decide))).2.2.1,fun e=>(r25 (nx 25 h (by decide))).2.2.2 (nx 2 e (by decide))⟩⟩⟩
      · have t2:=(h6 (dp 6 (by kernel_rfl))).1
        obtain⟨g,rfl⟩:=h7 (dp 7 (by kernel_rfl))
        obtain⟨_,_,_,-,-,-,-,hn1⟩:=h2 t2
        refine yxg rfl (fun K hK=> ?_)
        obtain⟨i0,hi0,hz0,hz1,hz2⟩:=info_parts infoMlG
        refine zd2 rfl (.tmp 12) (.tmp 14) 38 rfl 152 i0 (.agg #[.int .i64 0,.int .i64 0,.int .i64 0,.int .i64 0,.int .i64 0,.int .i64 0,.int .i64 0,.bool false]) 8 64 Tryz.underlying38 hi0 hz0 hz1 hz2 rfl (by decide) g rfl (.slice ab kb.length cb) kb.length (yxk kb) rfl (HSB.out W (HB0.out.trans (hR.1.mono HB0.out.size))) (by unfold maxLen;have h9:=HLN.out;omega) (by have h9:=HLN.out;omega) ?_
        intro av cv V hcap ho hb
        obtain⟨hB',h26',r2,r3,r6,r7,r10,r19,r20,r23,r24,r25⟩:=hR.move hb
        unfold act5
        refine hK.out _ _ (fun _=>(zeg (HP0.out.below hB'))) ?_
        try simp only [Act.put,q1]
        try simp only [q3]
        try simp only [q2]
        exact⟨hs',hp',v3,v7,v8,v11,.slice (some ⟨g,0,none⟩) 0 0,.slice av kb.length cv,v24,v25,v28,v29,rfl,.inr ⟨n0,n1,Kb,hB',by rw [getD_set_ne true (by decide)];exact h26',fun h=>r2 (nx 2 h (by decide)),fun h=>r3 (nx 3 h (by decide)),fun h=>⟨yk3 (r6 (nx 6 h (by decide))).1,(r6 (nx 6 h (by decide))).2⟩,fun h=>r7 (nx 7 h (by decide)),fun _=>⟨yk3 t2,_,_,rfl,hcap,ho.imp id (fun h=>yw0 h hn1)⟩,fun h=>⟨yk3 (r19 (nx 19 h (by decide))).1,(r19 (nx 19 h (by decide))).2⟩,fun h=>r20 (nx 20 h (by decide)),fun h=>⟨yk3 (r23 (nx 23 h (by decide))).1,(r23 (nx 23 h (by decide))).2⟩,fun h=>(hno (h24 (nx 24 h (by decide))).1.2.2.1).elim,fun h=>⟨(r25 (nx 25 h (by decide))).1,(r25 (nx 25 h (by decide))).2.1,(r25 (nx 25 h (by decide))).2.2.1,fun e=>(r25 (nx 25 h (by decide))).2.2.2 (nx 2 e (by decide))⟩⟩⟩
      · have t2:=(h10 (dp 10 (by kernel_rfl))).1
        obtain⟨_,_,_,-,-,-,-,hn1⟩:=h2 t2
        refine yxg rfl (fun K hK=> ?_)
        unfold act5
        go_simp
        refine(yyc _ ks W (by have h9:=HLN.out;omega) (HSU.out W (HB0.out.trans (hR.1.mono HB0.out.size)))).mono ?_
        rintro e V ⟨y0,rfl,ho,hb⟩
        obtain⟨as2,cs2,rfl⟩:=yfm ho
        try go_simp
        obtain⟨hB',h26',r2,r3,r6,r7,r10,r19,r20,r23,r24,r25⟩:=hR.move hb
        refine hK.out _ _ (fun _=>(zeg (HP0.out.below hB'))) ?_
        try simp only [Act.put,q1]
        try simp only [q3]
        try simp only [q2]
        exact⟨hs',hp',v3,v7,v8,v11,v12,v15,.slice as2 ks.length cs2,v25,v28,v29,rfl,.inr ⟨n0,n1,Kb,hB',by rw [getD_set_ne true (by decide)];exact h26',fun h=>r2 (nx 2 h (by decide)),fun h=>r3 (nx 3 h (by decide)),fun h=>⟨yk3 (r6 (nx 6 h (by decide))).1,(r6 (nx 6 h (by decide))).2⟩,fun h=>r7 (nx 7 h (by decide)),fun h=>⟨yk3 (r10 (nx 10 h (by decide))).1,(r10 (nx 10 h (by decide))).2⟩,fun _=>⟨yk3 t2,_,_,rfl,zke ho,.inr (yw0 ho hn1)⟩,fun h=>r20 (nx 20 h (by decide)),fun h=>⟨yk3 (r23 (nx 23 h (by decide))).1,(r23 (nx 23 h (by decide))).2⟩,fun h=>(hno (h24 (nx 24 h (by decide))).1.2.2.2.1).elim,fun h=>⟨(r25 (nx 25 h (by decide))).1,(r25 (nx 25 h (by decide))).2.1,(r25 (nx 25 h (by decide))).2.2.1,fun e=>(r25 (nx 25 h (by decide))).2.2.2 (nx 2 e (by decide))⟩⟩⟩
      · refine yxg rfl (fun K hK=> ?_)
        obtain⟨X,V,HX,HV,hb,hk⟩:=zb1 W #[] 166
        unfold act5
        go_simp
        rw [HV.out,←HX.out]
        obtain⟨hB',h26',r2,r3,r6,r7,r10,r19,r20,r23,r24,r25⟩:=hR.move hb
        refine hK.out _ _ (fun _=>(zeg (HP0.out.below hB'))) ?_
        try simp only [Act.put,q1]
        try simp only [q3]
        try simp only [q2]
        exact⟨hs',hp',v3,v7,v8,v11,v12,v15,v24,.slice (some ⟨X,0,none⟩) 0 0,v28,v29,rfl,.inr ⟨n0,n1,Kb,hB',by rw [getD_set_ne true (by decide)];exact h26',fun h=>r2 (nx 2 h (by decide)),fun h=>r3 (nx 3 h (by decide)),fun h=>⟨yk3 (r6 (nx 6 h (by decide))).1,(r6 (nx 6 h (by decide))).2⟩,fun h=>r7 (nx 7 h (by decide)),fun h=>⟨yk3 (r10 (nx 10 h (by decide))).1,(r10 (nx 10 h (by decide))).2⟩,fun h=>⟨yk3 (r19 (nx 19 h (by decide))).1,(r19 (nx 19 h (by decide))).2⟩,fun _=>⟨X,rfl⟩,fun h=>⟨yk3 (r23 (nx 23 h (by decide))).1,(r23 (nx 23 h (by decide))).2⟩,fun h=>(r24 (nx 24 h (by decide))).imp (fun h=>⟨yk3 h.1,yk3 h.2.1,yk3 h.2.2.1,yk3 h.2.2.2.1,yk3 h.2.2.2.2⟩) id,fun h=>⟨(r25 (nx 25 h (by decide))).1,(r25 (nx 25 h (by decide))).2.1,(r25 (nx 25 h (by decide))).2.2.1,fun e=>(r25 (nx 25 h (by decide))).2.2.2 (nx 2 e (by decide))⟩⟩⟩
      · have t2:=(h19 (dp 19 (by kernel_rfl))).1
        obtain⟨g,rfl⟩:=h20 (dp 20 (by kernel_rfl))
        obtain⟨_,_,_,-,-,-,-,hn1⟩:=h2 t2
        refine yxg rfl (fun K hK=> ?_)
        obtain⟨i0,hi0,hz0,hz1,hz2⟩:=info_parts infoXmG
        refine zd2 rfl (.tmp 25) (.tmp 27) 39 rfl 166 i0 (.agg #[.int .i64 0,.int .i64 0,.int .i64 0]) 3 24 Tryz.underlying39 hi0 hz0 hz1 hz2 rfl (by decide) g rfl (.slice ax kx.length cx) kx.length (ywm kx) rfl (HSX.out W (HB0.out.trans (hR.1.mono HB0.out.size))) (by unfold maxLen;have h9:=HLN.out;omega) (by have h9:=HLN.out;omega) ?_
        intro av cv V hcap ho hb
        obtain⟨hB',h26',r2,r3,r6,r7,r10,r19,r20,r23,r24,r25⟩:=hR.move hb
        unfold act5
        refine hK.out _ _ (fun _=>(zeg (HP0.out.below hB'))) ?_
        try simp only [Act.put,q1]
        try simp only [q3]
        try simp only [q2]
        exact⟨hs',hp',v3,v7,v8,v11,v12,v15,v24,.slice (some ⟨g,0,none⟩) 0 0,.slice av kx.length cv,v29,rfl,.inr ⟨n0,n1,Kb,hB',by rw [getD_set_ne true (by decide)];exact h26',fun h=>r2 (nx 2 h (by decide)),fun h=>r3 (nx 3 h (by decide)),fun h=>⟨yk3 (r6 (nx 6 h (by decide))).1,(r6 (nx 6 h (by decide))).2⟩,fun h=>r7 (nx 7 h (by decide)),fun h=>⟨yk3 (r10 (nx 10 h (by decide))).1,(r10 (nx 10 h (by decide))).2⟩,fun h=>⟨yk3 (r19 (nx 19 h (by decide))).1,(r19 (nx 19 h (by decide))).2⟩,fun h=>r20 (nx 20 h (by decide)),fun _=>⟨yk3 t2,_,_,rfl,hcap,ho.imp id (fun h=>yw0 h hn1)⟩,fun h=>(hno (h24 (nx 24 h (by decide))).1.2.2.2.2).elim,fun h=>⟨(r25 (nx 25 h (by decide))).1,(r25 (nx 25 h (by decide))).2.1,(r25 (nx 25 h (by decide))).2.2.1,fun e=>(r25 (nx 25 h (by decide))).2.2.2 (nx 2 e (by decide))⟩⟩⟩
      · have t2:=dp 2 (by kernel_rfl)
        obtain⟨x2,x3,x4,e7,h7m,h7n⟩:=h2 t2
        have hr2:=h2 t2
        obtain⟨avi,cvi,avh,cvh,avs,cvs,e9⟩:=h7m.form
        rw [e7]at e9
        simp only [Value.agg.injEq,Array.mk.injEq,List.cons.injEq,and_true,true_and]at e9
        obtain⟨rfl,rfl,rfl⟩:=e9
        subst e7
        have q6:=h6 (dp 6 (by kernel_rfl))
        obtain⟨ad2,cd2,rfl,_⟩:=id q6.2
        have q10:=h10 (dp 10 (by kernel_rfl))
        obtain⟨ab2,cb2,rfl,_⟩:=id q10.2
        have q19:=h19 (dp 19 (by kernel_rfl))
        obtain⟨as2,cs2,rfl,_⟩:=id q19.2
        have q23:=h23 (dp 23 (by kernel_rfl))
        obtain⟨ax2,cx2,rfl,_⟩:=id q23.2
        refine yxg rfl (fun K hK=> ?_)
        unfold act5
        go_simp
        obtain⟨hB',h26',r2,r3,r6,r7,r10,r19,r20,r23,r24,r25⟩:=hR.move (Below.refl _ W)
        refine hK.out _ _ (fun _=>(zeg (HP0.out.below hB'))) ?_
        try simp only [Act.put,q1]
        try simp only [q3]
        try simp only [q2]
        exact⟨hs',hp',v3,_,v8,_,v12,_,_,v25,_,_,rfl,.inr ⟨n0,n1,Kb,hB',by rw [getD_set_ne true (by decide)];exact h26',fun h=>r2 (nx 2 h (by decide)),fun h=>r3 (nx 3 h (by decide)),fun h=>⟨yk3 (r6 (nx 6 h (by decide))).1,(r6 (nx 6 h (by decide))).2⟩,fun h=>r7 (nx 7 h (by decide)),fun h=>⟨yk3 (r10 (nx 10 h (by decide))).1,(r10 (nx 10 h (by decide))).2⟩,fun h=>⟨yk3 (r19 (nx 19 h (by decide))).1,(r19 (nx 19 h (by decide))).2⟩,fun h=>r20 (nx 20 h (by decide)),fun h=>⟨yk3 (r23 (nx 23 h (by decide))).1,(r23 (nx 23 h (by decide))).2⟩,fun _=>⟨⟨yk3 t2,yk3 (dp 6 (by kernel_rfl)),yk3 (dp 10 (by kernel_rfl)),yk3 (dp 19 (by kernel_rfl)),yk3 (dp 23 (by kernel_rfl))⟩,_,_,_,rfl,rfl⟩,fun h=>⟨(r25 (nx 25 h (by decide))).1,(r25 (nx 25 h (by decide))).2.1,(r25 (nx 25 h (by decide))).2.2.1,fun e=>(r25 (nx 25 h (by decide))).2.2.2 (nx 2 e (by decide))⟩⟩⟩
      · refine yxg rfl (fun K hK=> ?_)
        obtain⟨X,V,HX,HV,hb,hk⟩:=zb1 W #[.int .i64 0,.int .i64 0,.slice none 0 0,.slice none 0 0,.slice none 0 0,.int .i64 0,.slice none 0 0,.slice none 0 0,.slice none 0 0,.int .i64 0,.int .i64 0,.bool false,.slice none 0 0,.slice none 0 0] 41
        unfold act5
        go_simp
        rw [HV.out,←HX.out]
        obtain⟨hB',h26',r2,r3,r6,r7,r10,r19,r20,r23,r24,r25⟩:=hR.move hb
        refine hK.out _ _ (fun _=>(zeg (HP0.out.below hB'))) ?_
        try simp only [Act.put,q1]
        try simp only [q3]
        try simp only [q2]
        exact⟨hs',hp',.pointer (some ⟨X,0,none⟩),v7,v8,v11,v12,v15,v24,v25,v28,v29,rfl,.inr ⟨n0,n1,X,hB',by rw [getD_set_ne true (by decide)];exact h26',fun h=>r2 (nx 2 h (by decide)),fun h=>r3 (nx 3 h (by decide)),fun h=>⟨yk3 (r6 (nx 6 h (by decide))).1,(r6 (nx 6 h (by decide))).2⟩,fun h=>r7 (nx 7 h (by decide)),fun h=>⟨yk3 (r10 (nx 10 h (by decide))).1,(r10 (nx 10 h (by decide))).2⟩,fun h=>⟨yk3 (r19 (nx 19 h (by decide))).1,(r19 (nx 19 h (by decide))).2⟩,fun h=>r20 (nx 20 h (by decide)),fun h=>⟨yk3 (r23 (nx 23 h (by decide))).1,(r23 (nx 23 h (by decide))).2⟩,fun h=>(r24 (nx 24 h (by decide))).imp (fun h=>⟨yk3 h.1,yk3 h.2.1,yk3 h.2.2.1,yk3 h.2.2.2.1,yk3 h.2.2.2.2⟩) id,fun _=>⟨rfl,hk,HX.out▸hR.1.size,fun e=>by obtain⟨_,_,_,_,_,_,_,h9⟩:=h2 (nx 2 e (by decide));exact .inr (HX.out▸h9)⟩⟩⟩
      · have t2:=dp 2 (by kernel_rfl)
        obtain⟨x2,x3,x4,e7,h7m,hn0,hn0',hn1⟩:=h2 t2
        obtain⟨avi,cvi,avh,cvh,avs,cvs,e9⟩:=id h7m.form
        rw [e7]at e9 h7m
        simp only [Value.agg.injEq,Array.mk.injEq,List.cons.injEq,and_true,true_and]at e9
        obtain⟨rfl,rfl,rfl⟩:=e9
        obtain⟨_,y2,y3,y4,e8,rfl⟩:=h24 (dp 24 (by kernel_rfl))
        rw [e7]at e8
        simp only [Value.agg.injEq,Array.mk.injEq,List.cons.injEq,and_true,true_and]at e8
        obtain⟨rfl,rfl,rfl⟩:=e8
        subst e7
        have q6:=(h6 (dp 6 (by kernel_rfl))).2
        obtain⟨ad2,cd2,rfl,_⟩:=id q6
        have q10:=(h10 (dp 10 (by kernel_rfl))).2
        obtain⟨ab2,cb2,rfl,_⟩:=id q10
        have q19:=(h19 (dp 19 (by kernel_rfl))).2
        obtain⟨as2,cs2,rfl,_⟩:=id q19
        have q23:=(h23 (dp 23 (by kernel_rfl))).2
        obtain⟨ax2,cx2,rfl,_⟩:=id q23
        obtain⟨rfl,hY,hKw,hKM⟩:=h25 (dp 25 (by kernel_rfl))
        have hKM:=hKM t2
        have hall:∀j,T (l.setIfInBounds 26 true) j:=fun j=>by
          by_cases e:j=26
          · subst e;simp [hsz]
          · rcases Nat.lt_or_ge j 27 with h|h
            · rw [T,getD_set_ne true (Ne.symm e)];exact dp j (zpp (n:=26) (by kernel_rfl) j (by omega))
            · simp [hsz,Nat.not_lt.2 h]
        obtain⟨k0,k1,k2,k3,k4,k5,k6,k7,k8,k9,k10,k11,k12,k13⟩:=ywd hY
        have kfz:=hY.free
        obtain⟨wf,hwf⟩:∃X,put14 W Kb (.int .i64 m.n) (.int .i64 m.s) (.slice avi m.i.length cvi) (.slice avh m.h.length cvh) (.slice avs m.e.length cvs) (.int .i64 m.z) (.slice ad2 d.length cd2) (.slice none 0 0) (.slice ab2 kb.length cb2) (.int .i64 kt) (.int .i64 kq) (.bool kf) (.slice as2 ks.length cs2) (.slice ax2 kx.length cx2)=X:=⟨_,rfl⟩
        have ht:Turns (fun j=>j=Kb) W wf:=hwf▸yyh _ _ _ _ _ _ _ _ _ _ _ _ _ _ _ _
        have HFN:Hid (Fin5 W0 m d kb kt kq kf ks kx wf Kb):=⟨n0,n1,avi,cvi,avh,cvh,avs,cvs,_,_,_,_,_,_,_,_,⟨hn0,hn0',Nat.le_trans hn1 ht.size⟩,h7m.turns ht (fun j hj e=>by omega),q6.turns ht (fun _ e=>⟨_,e▸hY⟩) (by decide),q10.turns ht (fun _ e=>⟨_,e▸hY⟩) (by decide),q19.turns ht (fun _ e=>⟨_,e▸hY⟩) (by decide),q23.turns ht (fun _ e=>⟨_,e▸hY⟩) (by decide),hwf▸hY.put14 _ _ _ _ _ _ _ _ _ _ _ _ _ _,hR.1.trans (ht.to_below (fun j hj=>by omega) hR.1.size),hKw,hKM⟩
        unfold put14 at hwf
        have HWF:Hid _:=hwf
        clear hwf ht h7m q6 q10 q19 q23 hY
        refine yxg rfl (fun K hK=> ?_)
        unfold act5
        go_simp
        rw [HWF.out]
        clear HWF k0 k1 k2 k3 k4 k5 k6 k7 k8 k9 k10 k11 k12 k13 kfz
        refine hK.out _ _ (fun e=>absurd rfl e) ?_
        try simp only [Act.put,q1]
        try simp only [q3]
        try simp only [q2]
        exact⟨hs',hp',_,_,_,_,_,_,_,_,_,_,rfl,.inl ⟨hall,Kb,rfl,HFN.out⟩⟩
    · exact⟨by kernel_rfl,List.all_eq_true.1 (by kernel_rfl:(pure5.all fun i=>(bits5 6814515).getD i true)=true),undef,undef,undef,undef,undef,undef,undef,undef,undef,undef,rfl,.inr ⟨0,0,0,hBd,by kernel_rfl,off5 (by kernel_rfl),off5 (by kernel_rfl),off5 (by kernel_rfl),off5 (by kernel_rfl),off5 (by kernel_rfl),off5 (by kernel_rfl),off5 (by kernel_rfl),off5 (by kernel_rfl),off5 (by kernel_rfl),off5 (by kernel_rfl)⟩⟩
    · exact Nat.le_of_eq (by kernel_rfl)
  case rest=>
    obtain⟨Kb,rfl,n0,n1,avi,cvi,avh,cvh,avs,cvs,ad2,cd2,ab2,cb2,as2,cs2,ax2,cx2,hn0,hM,hD,hBg,hSu,hTo,hK,hB,hKw,hKM⟩:=hcut
    obtain⟨w5,rfl⟩:∃w5,w5=wc:=⟨wc,rfl⟩
    have HMD:=yx5 hM
    obtain⟨A6,hA6,hL6⟩:=hD.own (by rw [yws];omega)
    obtain⟨A8,hA8,hL8⟩:=hBg.own (yz6 kb)
    obtain⟨A12,hA12,hL12⟩:=hSu.own (ywc ks)
    obtain⟨A13,hA13,hL13⟩:=hTo.own (yxd kx)
    have HA6:=yx5 hA6
    have HA8:=yx5 hA8
    have HA12:=yx5 hA12
    have HA13:=yx5 hA13
    have HLA:Hid ((∀j,A6 j→n1≤j∧j<w5.heap.size∧ ∃vs,Bk w5 j 3 vs)∧(∀j,A8 j→n1≤j∧j<w5.heap.size∧ ∃vs,Bk w5 j 152 vs)∧(∀j,A12 j→n1≤j∧j<w5.heap.size∧ ∃vs,Bk w5 j 90 vs)∧(∀j,A13 j→n1≤j∧j<w5.heap.size∧ ∃vs,Bk w5 j 166 vs)):=⟨hL6,hL8,hL12,hL13⟩
    clear hD hBg hSu hTo hA6 hA8 hA12 hA13 hL6 hL8 hL12 hL13
    have HK5:=yx5 hK
    have HP5:=yx5 (HP0.out.below hB)
    have HR5:=yx5 (HR0.out.below hB)
    have HB5:=trh HB0 hB
    have hn1w:n1≤w5.heap.size:=hn0.2.2
    have hWw:w.heap.size≤W0.heap.size:=HB0.out.size
    have hKl:Kb<w5.heap.size:=HK5.out.lt
    clear hM hK hB HP0 HR0 HB0
    have hps:=ps_form HNL.out HPS.out
    have HG0:=yx5 (PsG.nil _ _ _)
    obtain⟨B,hBe⟩:∃B,B=w5.heap.size:=⟨_,rfl⟩
    rw [←hBe]at HG0
    have HBE:Hid (B=w5.heap.size):=hBe
    have hBw:w.heap.size<B:=by omega
    have hKB:Kb<B:=by omega
    have hRB:Rb<B:=by omega
    clear hBe
    go_wp2
    go_loopw [4] (fun i wr=>∃(k:Nat) (vp:Value),k≤N∧i= .int .i64 k∧Hid (PsG B wr vp k (ps))∧Hid (Bk wr Kb 41 #[.int .i64 m.n,.int .i64 m.s,.slice avi m.i.length cvi,.slice avh m.h.length cvh,.slice avs m.e.length cvs,.int .i64 m.z,.slice ad2 d.length cd2,vp,.slice ab2 kb.length cb2,.int .i64 kt,.int .i64 kq,.bool kf,.slice as2 ks.length cs2,.slice ax2 kx.length cx2])∧Hid (Turns (fun j=>j=Kb) w5 wr)) (fun i _=>N-(intOf i).toNat)
    case atStart=>exact⟨0,_,Nat.zero_le _,rfl,HG0.out,HK5.out,Turns.refl _ _⟩
    case round=>
      clear HG0
      obtain⟨k,vp,hk,rfl,HGr,HKr,HTr⟩:=hrel
      have HPr:=yx5 (HP5.out.turns HTr.out (fun e=>by omega))
      have HBr:=yx5 (HB5.out.trans (HTr.out.to_below (fun j hj=>by omega) HB5.out.size))
      have HSr:Hid (B≤wr.heap.size):=HBE.out▸HTr.out.size
      have q7:=HPr.out.cell (i:=7) rfl
      obtain⟨cs9,hrow9⟩:=HGr.out.row
      obtain⟨aq,cq,rfl⟩:=yfm hrow9
      clear hrow9
      by_cases hkN:k<N
      case pos=>
        have hkd:decide ((k:Int)<(N:Int))=true:=by simpa using hkN
        obtain⟨b,off,rfl,hb,hcl⟩:=hps.resolve_left (by omega)
        obtain⟨u1,u4,u5,u6,f0,f1,f2,f3,f4,f5,f6,d1,d4,d5,d6⟩:=yzg (l:=ps) (fun j hj=>by
          obtain⟨u,hu,hd9⟩:=hcl j hj
          exact⟨u,hu,hd9⟩) hkN
        have HIP:Hid (∀W,Below w.heap.size w W→IsPart W (.agg #[.int .i64 (paAt (ps) k).n,u1,.int .i64 (paAt (ps) k).st.q,.int .i64 (paAt (ps) k).st.d,u4,u5,u6]) (paAt (ps) k)):=fun W hW=>⟨u1,u4,u5,u6,rfl,d1.under hW,d4.under hW,d5.under hW,d6.under hW⟩
        have HWT:=yx5 (HQW.out k hkN)
        obtain⟨a1,e1',rfl,_⟩:=IsD.len d1
        obtain⟨a4,e4',rfl,_⟩:=IsD.len d4
        obtain⟨a5,e5',rfl,_⟩:=IsD.len d5
        obtain⟨a6,e6',rfl,_⟩:=IsD.len d6
        generalize hq:paAt (ps) k=q at f0 f1 f2 f3 f4 f5 f6 HIP HWT
        have HQ:Hid (q=paAt (ps) k):=hq.symm
        clear hcl d1 d4 d5 d6 hq
        go_upto_region 5 with fail
        clear q7
        have HKX:=yx5 HKr.out.drew
        have HPX:=yx5 HPr.out.drew
        have HBX:=yx5 HBr.out.drew
        refine yx1 11 (fun W=>W.cell? ⟨Kb,7,none⟩=some (.slice aq k cq)∧W.cell? ⟨w.heap.size,7,none⟩=some (.slice (some ⟨b,off,none⟩) N cp)∧W.cell? ⟨b,off+k*7,none⟩=some (.int .i64 q.n)∧W.cell? ⟨b,off+k*7+1,none⟩=some (.slice a1 q.st.r.length e1')∧W.cell? ⟨b,off+k*7+2,none⟩=some (.int .i64 q.st.q)∧W.cell? ⟨b,off+k*7+3,none⟩=some (.int .i64 q.st.d)∧W.cell? ⟨b,off+k*7+4,none⟩=some (.slice a4 q.p.length e4')∧W.cell? ⟨b,off+k*7+5,none⟩=some (.slice a5 q.t.length e5')∧W.cell? ⟨b,off+k*7+6,none⟩=some (.slice a6 q.a.length e6')) (by kernel_rfl) ⟨HKX.out.cell (i:=7) rfl,HPX.out.cell (i:=7) rfl,(HBX.out.cell (p:=⟨b,_,none⟩) hb).trans f0,(HBX.out.cell (p:=⟨b,_,none⟩) hb).trans f1,(HBX.out.cell (p:=⟨b,_,none⟩) hb).trans f2,(HBX.out.cell (p:=⟨b,_,none⟩) hb).trans f3,(HBX.out.cell (p:=⟨b,_,none⟩) hb).trans f4,(HBX.out.cell (p:=⟨b,_,none⟩) hb).trans f5,(HBX.out.cell (p:=⟨b,_,none⟩) hb).trans f6⟩ (fun hHeld=> ?_)
        obtain⟨wd,hwd⟩:∃wd,wr.drew=wd:=⟨_,rfl⟩
        have HTX:Hid (Turns (fun j=>j=Kb) w5 wd):=HTr.out.trans (S:=fun j=>j=Kb) (hwd▸Turns.of_below (Below.refl _ wr).drew)
        have HGX:Hid (PsG B wd (.slice aq k cq) k (ps)):=HGr.out.below (hwd▸(Below.refl _ wr).drew)
        have HSX:Hid (B≤wd.heap.size):=hwd▸HSr.out
        rw [hwd]at hHeld HKX HPX HBX
        rw [hwd]
        clear hwd HKr HPr HGr HBr HSr HTr
        refine za9 0 {dst:=some 37,op:=Op.fieldAddr 41 (Operand.tmp 3) 2,type:=0,pos:=_,after:=_,guard:=none} (.pointer (some ⟨Kb,7,none⟩)) ?_
        try simp only [Act.put,q1,q2,q3]
        refine za9 1 {dst:=some 38,op:=Op.load 37 (Operand.tmp 37),type:=37,pos:=_,after:=_,guard:=none} (.slice aq k cq) ?_
        try simp only [Act.put,q1,q2,q3]
        refine za9 2 {dst:=some 39,op:=Op.fieldAddr 41 (Operand.tmp 1) 2,type:=0,pos:=_,after:=_,guard:=none} (.pointer (some ⟨w.heap.size,7,none⟩)) ?_
        try simp only [Act.put,q1,q2,q3]
        refine za9 3 {dst:=some 40,op:=Op.load 37 (Operand.tmp 39),type:=37,pos:=_,after:=_,guard:=none} (.slice (some ⟨b,off,none⟩) N cp) ?_
        try simp only [Act.put,q1,q2,q3]
        refine za9 4 {dst:=some 41,op:=Op.move (Operand.tmp 4),type:=3,pos:=_,after:=_,guard:=none} (.int .i64 (k:Int)) ?_
        try simp only [Act.put,q1,q2,q3]
        refine ywe (i:=5) (oi:= {dst:=some 42,op:=Op.indexAddr 37 (Operand.tmp 40) (Operand.tmp 41),type:=0,pos:=_,after:=_,guard:=none}) (v:= .pointer (some ⟨b,off+k*7,none⟩)) 5 [] rfl (by kernel_rfl) (by kernel_rfl) (by kernel_rfl) (by kernel_rfl) (by kernel_rfl) (fun _ _ _ h=>h) (Or.inl ⟨by rfl,?_⟩) (by assumption) ?_
        · intro wX hSw
          try dsimp only at hSw
          go_simp
          try exact IntWalk.i64_in _ (by omega)
          try(intro h9;exfalso;omega)
        try simp only [Act.put,q1,q2,q3]
        refine za9 6 {dst:=some 43,op:=Op.load 97 (Operand.tmp 42),type:=97,pos:=_,after:=_,guard:=none} (.agg #[.int .i64 q.n,.slice a1 q.st.r.length e1',.int .i64 q.st.q,.int .i64 q.st.d,.slice a4 q.p.length e4',.slice a5 q.t.length e5',.slice a6 q.a.length e6']) ?_
        try simp only [Act.put,q1,q2,q3]
        refine yfb (rs:= [7]) (by kernel_rfl) (by simp) ?_
        refine AllReadyZ.cons rfl (fun K hK=> ?_) AllReadyZ.nil
        go_simp
        refine(zob _ q wd HWT.out (HIP.out wd HBX.out)).mono ?_
        rintro e v1 ⟨y1,rfl,hb9,hy⟩
        obtain⟨b1,e1,b4,e4,b5,e5,b6,e6,rfl⟩:=hy.form
        have HY:=yx5 hy
        have HBW:=yx5 hb9
        have HSD:Hid (B≤wd.heap.size):=HSX.out
        have HB1:=trh HBX hb9
        have HS1:Hid (B≤v1.heap.size):=Nat.le_trans HSX.out hb9.size
        have HT1:=yx5 (HTX.out.trans (S:=fun j=>j=Kb) (Turns.of_below hb9))
        have HK1:=yx5 (HKX.out.below hb9)
        have HP1:=yx5 (HPX.out.below hb9)
        clear hb9 hy
        clear HKX HPX HTX HBX HSX
        have HKX:=HK1
        have HPX:=HP1
        have HTX:=HT1
        have HBX:=HB1
        have HSX:=HS1
        clear HK1 HP1 HT1 HB1 HS1
        try go_simp
        refine hK.out _ _ ⟨HKX.out.cell (i:=7) rfl,HPX.out.cell (i:=7) rfl,(HBX.out.cell (p:=⟨b,_,none⟩) hb).trans f0,(HBX.out.cell (p:=⟨b,_,none⟩) hb).trans f1,(HBX.out.cell (p:=⟨b,_,none⟩) hb).trans f2,(HBX.out.cell (p:=⟨b,_,none⟩) hb).trans f3,(HBX.out.cell (p:=⟨b,_,none⟩) hb).trans f4,(HBX.out.cell (p:=⟨b,_,none⟩) hb).trans f5,(HBX.out.cell (p:=⟨b,_,none⟩) hb).trans f6⟩ (fun hHeld=> ?_)
        clear hK K
        try simp only [Act.put,q1,q2,q3]
        refine yfb (rs:= [8]) (by kernel_rfl) (by simp) ?_
        refine AllReadyZ.cons rfl (fun K hK=> ?_) AllReadyZ.nil
        obtain⟨X2,v2,HX2,HV,hbv,hs2⟩:=zb1 v1 #[.int .i64 q.n,.slice b1 q.st.r.length e1,.int .i64 q.st.q,.int .i64 q.st.d,.slice b4 q.p.length e4,.slice b5 q.t.length e5,.slice b6 q.a.length e6] 97
        have HS2:=yx5 hs2
        have HY2:=yx5 ((HY.out.under hbv).mono (fun j hj=>⟨hj.1,Nat.lt_of_lt_of_le hj.2 hbv.size⟩))
        have HB1:=trh HBX hbv
        have HS1:Hid (B≤v2.heap.size):=Nat.le_trans HSX.out hbv.size
        have HBW2:=trh HBW hbv
        have HT1:=yx5 (HTX.out.trans (S:=fun j=>j=Kb) (Turns.of_below hbv))
        have HK1:=yx5 (HKX.out.below hbv)
        have HP1:=yx5 (HPX.out.below hbv)
        clear HY HBW hbv hs2
        clear HKX HPX HTX HBX HSX
        have HKX:=HK1
        have HPX:=HP1
        have HTX:=HT1
        have HBX:=HB1
        have HSX:=HS1
        clear HK1 HP1 HT1 HB1 HS1
        go_simp
        rw [HV.out,←HX2.out]
        clear HV HX2
        refine hK.out _ _ ⟨HKX.out.cell (i:=7) rfl,HPX.out.cell (i:=7) rfl,(HBX.out.cell (p:=⟨b,_,none⟩) hb).trans f0,(HBX.out.cell (p:=⟨b,_,none⟩) hb).trans f1,(HBX.out.cell (p:=⟨b,_,none⟩) hb).trans f2,(HBX.out.cell (p:=⟨b,_,none⟩) hb).trans f3,(HBX.out.cell (p:=⟨b,_,none⟩) hb).trans f4,(HBX.out.cell (p:=⟨b,_,none⟩) hb).trans f5,(HBX.out.cell (p:=⟨b,_,none⟩) hb).trans f6⟩ (fun hHeld=> ?_)
        clear hK K
        try simp only [Act.put,q1,q2,q3]
        refine yfb (rs:= [9]) (by kernel_rfl) (by simp) ?_
        refine AllReadyZ.cons rfl (fun K hK=> ?_) AllReadyZ.nil
        obtain⟨cs,G,hgd⟩:=HGX.out
        have hrow:=(hgd.below HBW2.out).row
        obtain⟨i0,hi0,hz0,hz1,hz2⟩:=info_parts infoPt
        refine ywl rfl (.tmp 38) (.tmp 45) 37 rfl B 97 i0 (.agg #[.int .i64 0,.slice none 0 0,.int .i64 0,.int .i64 0,.slice none 0 0,.slice none 0 0,.slice none 0 0]) 7 120 Tryz.underlying37 hi0 hz0 hz1 hz2 rfl (by decide) (.slice aq k cq) k cs rfl hrow (.slice (some ⟨X2,0,none⟩) 1 1) 1 (znw q (.slice b1 q.st.r.length e1) (.slice b4 q.p.length e4) (.slice b5 q.t.length e5) (.slice b6 q.a.length e6)) rfl (src_part HS2.out) (zm0 _ _ _ _ _ _ _ _ _ _ _ _ _) (by unfold maxLen;omega) (by omega) HSX.out ?_
        intro v9 v4 ho hg hnr
        obtain⟨a9,c9,rfl⟩:=yfm ho
        have HG4:Hid (PsG B v4 (.slice a9 (k+1) c9) (k+1) (ps)):=by
          have h9:=HY2.out
          have h8:=HQ.out
          subst h8
          exact hgd.snocPa HBW2.out HSD.out h9 _ _ _ _ rfl ho hg hnr
        have HB1:=yx5 (HBX.out.trans ((Below.refl _ v2).grown hg HBX.out.size (fun j e=>by have h9:=yx4 hrow e;omega)))
        have HS1:Hid (B≤v4.heap.size):=Nat.le_trans HSX.out hg.size
        have HT1:=yx5 (HTX.out.grownNew hg (fun j e=>by have h9:=yx4 hrow e;have h8:=HBE.out;omega))
        have HK1:=yx5 (HKX.out.turns (yw9 hg) (ywp hrow HKX.out (by decide)))
        have HP1:=yx5 (HPX.out.turns (yw9 hg) (ywp hrow HPX.out (by decide)))
        clear ho hg hnr hgd hrow hi0 hz0 hz1 hz2 HS2 HY2 HGX HBW2 HSD HQ
        clear HKX HPX HTX HBX HSX
        have HKX:=HK1
        have HPX:=HP1
        have HTX:=HT1
        have HBX:=HB1
        have HSX:=HS1
        clear HK1 HP1 HT1 HB1 HS1
        refine hK.out _ _ ⟨HKX.out.cell (i:=7) rfl,HPX.out.cell (i:=7) rfl,(HBX.out.cell (p:=⟨b,_,none⟩) hb).trans f0,(HBX.out.cell (p:=⟨b,_,none⟩) hb).trans f1,(HBX.out.cell (p:=⟨b,_,none⟩) hb).trans f2,(HBX.out.cell (p:=⟨b,_,none⟩) hb).trans f3,(HBX.out.cell (p:=⟨b,_,none⟩) hb).trans f4,(HBX.out.cell (p:=⟨b,_,none⟩) hb).trans f5,(HBX.out.cell (p:=⟨b,_,none⟩) hb).trans f6⟩ (fun hHeld=> ?_)
        clear hK K
        try simp only [Act.put,q1,q2,q3]
        refine za9 10 {dst:=some 47,op:=Op.fieldAddr 41 (Operand.tmp 3) 2,type:=0,pos:=_,after:=_,guard:=none} (.pointer (some ⟨Kb,7,none⟩)) ?_
        try simp only [Act.put,q1,q2,q3]
        refine yfb (rs:= [11]) (by kernel_rfl) (by simp) ?_
        refine AllReadyZ.last rfl (fun K hK=> ?_)
        have k7:=HKX.out.cell (i:=7) rfl
        have kfz:=HKX.out.free
        obtain⟨wf,hwf⟩:∃X,v4.setCell ⟨Kb,7,none⟩ (.slice a9 (k+1) c9)=X:=⟨_,rfl⟩
        have HTF:Hid (Turns (fun j=>j=Kb) v4 wf):=hwf▸yag _ _ 7 _
        have HKF:Hid (Bk wf Kb 41 #[.int .i64 m.n,.int .i64 m.s,.slice avi m.i.length cvi,.slice avh m.h.length cvh,.slice avs m.e.length cvs,.int .i64 m.z,.slice ad2 d.length cd2,.slice a9 (k+1) c9,.slice ab2 kb.length cb2,.int .i64 kt,.int .i64 kq,.bool kf,.slice as2 ks.length cs2,.slice ax2 kx.length cx2]):=hwf▸HKX.out.put 7 _
        have HTF9:=yx5 (HTX.out.trans HTF.out)
        have HGF:=yx5 (HG4.out.low HTF.out (fun j hj e=>by omega))
        have HWF:Hid _:=hwf
        clear hwf
        go_simp
        rw [HWF.out]
        clear HWF k7 kfz HTF HKX HPX HTX HBX HG4 HSX
        refine hK.out _ _ ?_
        clear hK K
        try simp only [Act.put,q1,q2,q3]
        refine yx2 (by kernel_rfl) ?_ _
        clear hHeld
        go_wp2
        go_roundw
        case rel=>exact⟨k+1,_,by omega,by go_num,HGF.out,HKF.out,HTF9.out⟩
        case measure=>simp [intOf];omega
      case neg=>
        obtain rfl:k=N:=by omega
        have hkd:decide ((k:Int)<(k:Int))=false:=by simp
        have HRr:=yx5 (HR5.out.turns HTr.out (fun e=>by omega))
        obtain⟨m0,m1,m2,m3,m4,m5,m6,m7,m8,m9,m10,m11,m12,m13⟩:=ywd HKr.out
        obtain⟨r0,r1,r2,r3,r4,r5,r6,r7,r8,r9,r10,r11,r12,r13⟩:=ywd HRr.out
        have rf:=HRr.out.free
        obtain⟨wf,hwf⟩:∃X,put14 wr Rb (.int .i64 m.n) (.int .i64 m.s) (.slice avi m.i.length cvi) (.slice avh m.h.length cvh) (.slice avs m.e.length cvs) (.int .i64 m.z) (.slice ad2 d.length cd2) (.slice aq k cq) (.slice ab2 kb.length cb2) (.int .i64 kt) (.int .i64 kq) (.bool kf) (.slice as2 ks.length cs2) (.slice ax2 kx.length cx2)=X:=⟨_,rfl⟩
        have HTF:Hid (Turns (fun j=>j=Rb) wr wf):=hwf▸yyh _ _ _ _ _ _ _ _ _ _ _ _ _ _ _ _
        have HRF:Hid (Bk wf Rb 41 #[.int .i64 m.n,.int .i64 m.s,.slice avi m.i.length cvi,.slice avh m.h.length cvh,.slice avs m.e.length cvs,.int .i64 m.z,.slice ad2 d.length cd2,.slice aq k cq,.slice ab2 kb.length cb2,.int .i64 kt,.int .i64 kq,.bool kf,.slice as2 ks.length cs2,.slice ax2 kx.length cx2]):=hwf▸HRr.out.put14 _ _ _ _ _ _ _ _ _ _ _ _ _ _
        have HBF:=yx5 (HBr.out.trans (HTF.out.to_below (fun j hj=>by omega) HBr.out.size))
        have HGF:=yx5 (HGr.out.low HTF.out (fun j hj e=>by omega))
        have HMF:=yx5 ((HMD.out.turns HTr.out (fun j hj e=>by omega)).turns HTF.out (fun j hj e=>by omega))
        have hKt:∀j,j=Kb→ ∃vs,Bk w5 j 41 vs:=fun j e=>⟨_,e▸HK5.out⟩
        have hRt:∀j,j=Rb→ ∃vs,Bk w5 j 41 vs:=fun j e=>⟨_,e▸HR5.out⟩
        have hF6:=(HA6.out.turns HTr.out (fun j hj e=>zaf (HLA.out.1 j hj).2.2 (hKt j e) (by decide))).turns HTF.out (fun j hj e=>zaf (HLA.out.1 j hj).2.2 (hRt j e) (by decide))
        have hF8:=(HA8.out.turns HTr.out (fun j hj e=>zaf (HLA.out.2.1 j hj).2.2 (hKt j e) (by decide))).turns HTF.out (fun j hj e=>zaf (HLA.out.2.1 j hj).2.2 (hRt j e) (by decide))
        have hF12:=(HA12.out.turns HTr.out (fun j hj e=>zaf (HLA.out.2.2.1 j hj).2.2 (hKt j e) (by decide))).turns HTF.out (fun j hj e=>zaf (HLA.out.2.2.1 j hj).2.2 (hRt j e) (by decide))
        have hF13:=(HA13.out.turns HTr.out (fun j hj e=>zaf (HLA.out.2.2.2 j hj).2.2 (hKt j e) (by decide))).turns HTF.out (fun j hj e=>zaf (HLA.out.2.2.2 j hj).2.2 (hRt j e) (by decide))
        have HO6:=yx5 hF6
        have HO8:=yx5 hF8
        have HO12:=yx5 hF12
        have HO13:=yx5 hF13
        clear hF6 hF8 hF12 hF13 hKt hRt
        obtain⟨t0,t1,t2,t3,t4,t5,t6,t7,t8,t9,t10,t11,t12,t13⟩:=ywd HRF.out
        unfold put14 at hwf
        go_wp2
        refine bodyPost_ret (v:= .agg #[.int .i64 m.n,.int .i64 m.s,.slice avi m.i.length cvi,.slice avh m.h.length cvh,.slice avs m.e.length cvs,.int .i64 m.z,.slice ad2 d.length cd2,.slice aq k cq,.slice ab2 kb.length cb2,.int .i64 kt,.int .i64 kq,.bool kf,.slice as2 ks.length cs2,.slice ax2 kx.length cx2]) (by simp [results,Tryz.results38,go_sem,t0,t1,t2,t3,t4,t5,t6,t7,t8,t9,t10,t11,t12,t13]) rfl ⟨⟨_,rfl,?_⟩,HBF.out⟩
        obtain⟨A,hA,hA9⟩:=PsG.ownD (l:=ps) (by rw [HNL.out];exact HGF.out)
        have hBf:B≤wf.heap.size:=Nat.le_trans HSr.out HTF.out.size
        have hB9:=HBE.out
        obtain⟨g6,g8,g12,g13⟩:=HLA.out
        exact⟨_,A6,A,A8,A12,A13,_,_,_,_,_,_,_,_,rfl,HMF.out,HO6.out,hA,HO8.out,HO12.out,HO13.out,
          fun j hj=>⟨⟨by omega,by omega⟩,fun e=>by have:=(g6 j e).1;omega,fun e=>by have:=hA9 j e;omega,fun e=>by have:=(g8 j e).1;omega,fun e=>by have:=(g12 j e).1;omega,fun e=>by have:=(g13 j e).1;omega⟩,
          fun j hj=>⟨⟨by have:=(g6 j hj).1;omega,by have:=(g6 j hj).2.1;omega⟩,fun e=>by have:=hA9 j e;have:=(g6 j hj).2.1;omega,fun e=>zaf (g6 j hj).2.2 (g8 j e).2.2 (by decide),fun e=>zaf (g6 j hj).2.2 (g12 j e).2.2 (by decide),fun e=>zaf (g6 j hj).2.2 (g13 j e).2.2 (by decide)⟩,
          fun j hj=>⟨⟨by have:=hA9 j hj;omega,(hA9 j hj).2⟩,fun e=>by have:=hA9 j hj;have:=(g8 j e).2.1;omega,fun e=>by have:=hA9 j hj;have:=(g12 j e).2.1;omega,fun e=>by have:=hA9 j hj;have:=(g13 j e).2.1;omega⟩,
          fun j hj=>⟨⟨by have:=(g8 j hj).1;omega,by have:=(g8 j hj).2.1;omega⟩,fun e=>zaf (g8 j hj).2.2 (g12 j e).2.2 (by decide),fun e=>zaf (g8 j hj).2.2 (g13 j e).2.2 (by decide)⟩,
          fun j hj=>⟨⟨by have:=(g12 j hj).1;omega,by have:=(g12 j hj).2.1;omega⟩,fun e=>zaf (g12 j hj).2.2 (g13 j e).2.2 (by decide)⟩,
          fun j hj=>⟨by have:=(g13 j hj).1;omega,by have:=(g13 j hj).2.1;omega⟩⟩
theorem part_le {l:List Pa} {b i:Nat} (h:(ywi l).wt≤b) (hi:i<l.length):(paAt l i).wt≤b:=by
  rw [yyb]at h
  have:∀(f:Nat→Nat) (n:Nat),i<n→f i≤sumL f n:=fun f n=>by
    induction n with
    |zero=>intro h;omega
    |succ n ih=>
      intro h
      show f i≤sumL f n+f n
      by_cases e:i=n
      · subst e;omega
      · have:=ih (by omega);omega
  have:=this (fun i=>(paAt l i).wt) _ hi
  omega
theorem zg9 (x:Value) (k:Kn) (w:World) (hs:ywy k) (h:IsKern w x k):
    Calls Tryz.prog 38 #[x] w fun e w'=>(∃y,e= .returned y∧KernF (fun j=>w.heap.size≤j∧j<w'.heap.size) w' y k)∧Below w.heap.size w w':=by
  obtain⟨m,d,ps,kb,kt,kq,kf,ks,kx⟩:=k
  obtain⟨vi,vh,vs,u6,u7,u8,u12,u13,rfl,hM,h6,h7,h8,h12,h13⟩:=h
  have hw:=hs.2
  unfold Kn.wt at hw
  simp only [ywf,yy9,yx0,yy3]at hw
  have hpw:=yyb ps
  obtain⟨vi9,vh9,vs9,e9,hI,hH,hE⟩:=id hM
  simp only [Value.agg.injEq,Array.mk.injEq,List.cons.injEq,and_true,true_and]at e9
  obtain⟨rfl,rfl,rfl⟩:=e9
  obtain⟨ai,ci,rfl,_⟩:=hI
  obtain⟨ah,ch,rfl,_⟩:=hH
  obtain⟨ae,ce,rfl,_⟩:=hE
  obtain⟨a6,c6,rfl⟩:=yw8 (c:=1) (n:=d.length) h6
  obtain⟨a7,c7,rfl⟩:=yw8 (c:=7) (n:=ps.length) h7
  obtain⟨a8,c8,rfl⟩:=yw8 (c:=8) (n:=kb.length) h8
  obtain⟨a12,c12,rfl⟩:=yw8 (c:=7) (n:=ks.length) h12
  obtain⟨a13,c13,rfl⟩:=yw8 (c:=3) (n:=kx.length) h13
  exact zm3 m d ai ci ah ch ae ce a6 c6 a7 c7 ps.length ps kb kt kq kf ks kx a8 c8 a12 c12 a13 c13 w hs.1 rfl (by omega) (by omega) (fun i hi=>Nat.le_trans (part_le (Nat.le_refl _) hi) (by omega)) hM h6 h7 h8 h12 h13
end Go.Proofs.YtghndljgadpijaaGreat
