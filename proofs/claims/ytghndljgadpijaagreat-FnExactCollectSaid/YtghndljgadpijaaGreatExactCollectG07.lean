/- POwn, PTo, PTr -/
import Derived.Test.YtghndljgadpijaaGreatExactCollectG01
import Derived.Test.YtghndljgadpijaaGreatExactCollectG06
import Derived.Deep.Cut
import Derived.Deep.CutBlock
import Derived.Deep.RegionHeld3
import Derived.Laws.Slices
/- The specification's copy of a part: all of it in memory of its own. -/
namespace Go.Proofs.YtghndljgadpijaaGreat
open Go.RowKit
theorem yyr {P:Program} {md:Region.Mode} {ops:Array Oper} {Q:Exit→Act→World→Prop} {S:World→Prop} {z fuel:Nat} {listed:Array Bool} {a:Act} {w:World} (i:Nat) (oi:Oper) (v:Value)
  (h:yx7 P md ops Q S z fuel (listed.setIfInBounds i true) (a.put oi.dst v) w) (hi:ops[i]? =some oi:=by rfl)
  (hs:Region.noSelect ops=true:=by kernel_rfl) (hf:Region.free md ops listed i=true:=by kernel_rfl) (hr:(Region.ready md ops listed).contains i=true:=by kernel_rfl)
  (hc:yzl md ops i z [i]=true:=by kernel_rfl) (hu: [i].all (fun p=> !listed.getD p true)=true:=by kernel_rfl)
  (hQ:∀c a w,Q (.panic c) (a.put oi.dst v) w→Q (.panic c) a w:=by exact fun _ _ _ h=>h)
  (hy:YieldsIf P ops S oi v a:=by exact Or.inl ⟨by rfl,by(intro wX hSw;(try dsimp only at hSw);go_simp;(try exact IntWalk.i64_in _ (by omega)))⟩) (hS:S w:=by assumption):yx7 P md ops Q S z (fuel+1) listed a w:=
  ywe i [] hi hs hf hr hc hu hQ hy hS h
theorem yvi {p:Prop} (h:p):Hid p:=h
theorem zja {W:World} {b:Nat} {T:TypeId} {v0 v1 v2 v3 v4 v5 v6:Value} (h:Bk W b T #[v0,v1,v2,v3,v4,v5,v6]):Hid (W.cell? ⟨b,0,none⟩=some v0∧W.cell? ⟨b,1,none⟩=some v1∧W.cell? ⟨b,2,none⟩=some v2∧W.cell? ⟨b,3,none⟩=some v3∧W.cell? ⟨b,5,none⟩=some v5∧W.cell? ⟨b,6,none⟩=some v6):=⟨h.cell rfl,h.cell rfl,h.cell rfl,h.cell rfl,h.cell rfl,h.cell rfl⟩
theorem yzt {W:World} {b d:Nat} {T U:TypeId} {v0 v1 v2 v3 v4 v5 v6 v7 v8 v9 v10 v11 u0 u1 u2 u3 u4 u5 u6:Value} (h:Bk W b T #[v0,v1,v2,v3,v4,v5,v6,v7,v8,v9,v10,v11]) (g:Bk W d U #[u0,u1,u2,u3,u4,u5,u6]):Hid (W.cell? ⟨b,0,none⟩=some v0∧W.cell? ⟨b,1,none⟩=some v1∧W.cell? ⟨b,2,none⟩=some v2∧W.cell? ⟨b,3,none⟩=some v3∧W.cell? ⟨b,4,none⟩=some v4∧W.cell? ⟨b,5,none⟩=some v5∧W.cell? ⟨b,6,none⟩=some v6∧W.cell? ⟨b,7,none⟩=some v7∧W.cell? ⟨b,8,none⟩=some v8∧W.cell? ⟨b,9,none⟩=some v9∧W.cell? ⟨b,10,none⟩=some v10∧W.cell? ⟨b,11,none⟩=some v11∧W.cell? ⟨d,4,none⟩=some u4):=⟨h.cell rfl,h.cell rfl,h.cell rfl,h.cell rfl,h.cell rfl,h.cell rfl,h.cell rfl,h.cell rfl,h.cell rfl,h.cell rfl,h.cell rfl,h.cell rfl,g.cell rfl⟩
def act4 (p:Pa) (a1:Option Addr) (c1:Nat) (a4:Option Addr) (c4:Nat) (a5:Option Addr) (c5:Nat) (a6:Option Addr) (c6:Nat) (Pw Rw:Nat) (v3 v10 v13 v14 v17 v18:Value):Act:=⟨#[.agg #[.int .i64 p.n,.slice a1 p.st.r.length c1,.int .i64 p.st.q,.int .i64 p.st.d,.slice a4 p.p.length c4,.slice a5 p.t.length c5,.slice a6 p.a.length c6],.pointer (some ⟨Pw,0,none⟩),.pointer (some ⟨Rw,0,none⟩),v3,undef,undef,.pointer (some ⟨Pw,0,none⟩),.int .i64 p.n,.pointer (some ⟨Pw,1,none⟩),.agg #[.slice a1 p.st.r.length c1,.int .i64 p.st.q,.int .i64 p.st.d],v10,.pointer (some ⟨Pw,5,none⟩),.slice a5 p.t.length c5,v13,v14,.pointer (some ⟨Pw,6,none⟩),.slice a6 p.a.length c6,v17,v18,undef,undef,undef,undef,undef,undef,undef,undef,undef,undef,undef,undef,undef,undef,undef,undef,undef,undef,undef,undef,undef,undef,undef,undef,undef,undef,undef,undef,undef,undef,undef],[]⟩
def bits4 (n:Nat):Array Bool:=(Array.range 15).map fun i=>n.testBit i
theorem listed4 {P:Program} {ops:Array Oper} {Q:Exit→Act→World→Prop} {md:Region.Mode} {S:World→Prop} {z fuel:Nat} {l l':Array Bool} {a:Act} {w:World} (h:l=l') (H:yx7 P md ops Q S z fuel l' a w):yx7 P md ops Q S z fuel l a w:=h▸H
def R4 (l:Array Bool) (W0 W:World) (p:Pa) (m1 Kb:Nat) (v3 v10 v13 v14 v17 v18:Value):Prop:=Below W0.heap.size W0 W∧l.getD 14 true=false∧(T l 4→ ∃x,v10= .agg #[x,.int .i64 p.st.q,.int .i64 p.st.d]∧W.ownsRow W0.heap.size 3 1 x p.st.r.length (intCells p.st.r)∧(∀k,x.ownBlock=some k→k<m1)∧W0.heap.size≤m1∧m1≤W.heap.size)∧(T l 7→T l 4∧W.ownsRow W0.heap.size 90 7 v13 p.t.length (yvz p.t))∧(T l 8→ ∃g:Nat,v14= .slice (some ⟨g,0,none⟩) 0 0)∧(T l 11→(T l 4∧T l 7)∧OwnN m1 3 1 W v17 p.a.length (intCells p.a))∧(T l 12→(T l 4∧T l 7∧T l 11)∧ ∃x,v10= .agg #[x,.int .i64 p.st.q,.int .i64 p.st.d]∧v18= .agg #[.int .i64 p.n,x,.int .i64 p.st.q,.int .i64 p.st.d,.slice none 0 0,v13,v17])∧(T l 13→v3= .pointer (some ⟨Kb,0,none⟩)∧Bk W Kb 97 #[.int .i64 0,.slice none 0 0,.int .i64 0,.int .i64 0,.slice none 0 0,.slice none 0 0,.slice none 0 0]∧W0.heap.size≤Kb)
theorem R4.move {l:Array Bool} {W0 W V:World} {p:Pa} {m1 Kb:Nat} {v3 v10 v13 v14 v17 v18:Value} (h:R4 l W0 W p m1 Kb v3 v10 v13 v14 v17 v18) (hb:Below W.heap.size W V):R4 l W0 V p m1 Kb v3 v10 v13 v14 v17 v18:=by
  obtain⟨hB,h14,h4,h7,h8,h11,h12,h13⟩:=h
  refine⟨trm hB hb,h14,fun h=> ?_,fun h=>⟨(h7 h).1,ypa (S:=fun _=>False) (h7 h).2 (Turns.of_below hb) (fun _ _=>id)⟩,h8,fun h=>⟨(h11 h).1,(h11 h).2.below hb⟩,h12,fun h=>⟨(h13 h).1,(h13 h).2.1.below hb,(h13 h).2.2⟩⟩
  obtain⟨x,e,h1,h2,h3,h4⟩:=h4 h
  exact⟨x,e,owB h1 hb,h2,h3,Nat.le_trans h4 hb.size⟩
def pure4:List Nat:= [0,1,2,3,5,6,9,10]
theorem split4:∀i,i<15→i∈pure4∨i∈ [4,7,8,11,12,13,14]:=by decide
abbrev J4 (p:Pa) (a1:Option Addr) (c1:Nat) (a4:Option Addr) (c4:Nat) (a5:Option Addr) (c5:Nat) (a6:Option Addr) (c6:Nat) (W0:World) (Pw Rw:Nat) (l:Array Bool) (a:Act) (W:World):Prop:=
  l.size=15∧(∀i∈pure4,T l i)∧ ∃v3 v10 v13 v14 v17 v18,a=(act4 p a1 c1 a4 c4 a5 c5 a6 c6 Pw Rw v3 v10 v13 v14 v17 v18)∧(((∀i,T l i)∧ ∃Pb vr vt va m1,v3= .pointer (some ⟨Pb,0,none⟩)∧Below W0.heap.size W0 W∧(W0.heap.size≤Pb∧Pb<W.heap.size)∧Bk W Pb 97 #[.int .i64 p.n,vr,.int .i64 p.st.q,.int .i64 p.st.d,.slice none 0 0,vt,va]∧W.ownsRow W0.heap.size 3 1 vr p.st.r.length (intCells p.st.r)∧W.ownsRow W0.heap.size 90 7 vt p.t.length (yvz p.t)∧OwnN m1 3 1 W va p.a.length (intCells p.a)∧(∀k,vr.ownBlock=some k→k<m1)∧W0.heap.size≤m1)∨ ∃m1 Kb,R4 l W0 W p m1 Kb v3 v10 v13 v14 v17 v18)
set_option maxRecDepth 100000 in
set_option maxHeartbeats 64000000 in
theorem zob (x:Value) (p:Pa) (w:World) (hw:p.wt≤1048577) (h:IsPart w x p):
    Calls Tryz.prog 107 #[x] w fun r w'=>∃y,r= .returned y∧Below w.heap.size w w'∧PartF (fun k=>w.heap.size≤k∧k<w'.heap.size) w' y p:=by
  obtain⟨u1,u4,u5,u6,rfl,d1,d4,d5,d6⟩:=h
  obtain⟨a1,c1,rfl,_⟩:=IsD.len d1
  obtain⟨a4,c4,rfl,_⟩:=IsD.len d4
  obtain⟨a5,c5,rfl,_⟩:=IsD.len d5
  obtain⟨a6,c6,rfl,_⟩:=IsD.len d6
  have hwt:p.t.length≤1048577∧p.a.length≤1048577∧p.p.length≤1048577∧p.st.r.length≤1048577:=by
    have e0:=ywf p.st.r
    have e1:=yx0 p.t
    have e2:=ywf p.a
    have e3:=yxh p.p
    unfold Pa.wt at hw
    omega
  obtain⟨ht9,ha9,hp9,hr9⟩:=hwt
  obtain⟨i3,hi3,hiz0,hiz1,hiz2⟩:=info_parts zf8
  obtain⟨ix,hix,hix0,hix1,hix2⟩:=info_parts zfp
  obtain⟨ip,hip,hip0,hip1,hip2⟩:=info_parts zes
  obtain⟨W0,hW0⟩:∃W0,(w.alloc (.cells #[.int .i64 p.n,.slice a1 p.st.r.length c1,.int .i64 p.st.q,.int .i64 p.st.d,.slice a4 p.p.length c4,.slice a5 p.t.length c5,.slice a6 p.a.length c6] 97)).alloc (.cells #[.int .i64 0,.slice none 0 0,.int .i64 0,.int .i64 0,.slice none 0 0,.slice none 0 0,.slice none 0 0] 97)=W0:=⟨_,rfl⟩
  have hz0:W0.heap.size=w.heap.size+1+1:=by rw [←hW0];simp
  have hb0:=beA2 hW0
  have HBw:=yvi hb0
  have HW0:=yvi hW0
  have BX:=hdq (bkA2 hW0)
  have BZ:=hdq (bkB2 hW0)
  have D1:=yvi (d1.under hb0)
  have D4:=yvi (d4.under hb0)
  have D5:=yvi (d5.under hb0)
  have D6:=yvi (d6.under hb0)
  have HWT:Hid (p.wt≤1048577):=hw
  have hz0':W0.heap.size≤w.heap.size+1+1∧w.heap.size+1+1≤W0.heap.size:=by omega
  clear hW0 hb0 d1 d4 d5 d6 hw hz0
  go_enter Tryz.func107,Tryz.ntmps107
  go_wp2_with fail
  rw [HW0.out]
  clear HW0
  go_cut [3]from 6 to 18 (fun s3 wc=>∃Pb vr vt va m1,s3= .pointer (some ⟨Pb,0,none⟩)∧Below W0.heap.size W0 wc∧(W0.heap.size≤Pb∧Pb<wc.heap.size)∧Bk wc Pb 97 #[.int .i64 p.n,vr,.int .i64 p.st.q,.int .i64 p.st.d,.slice none 0 0,vt,va]∧wc.ownsRow W0.heap.size 3 1 vr p.st.r.length (intCells p.st.r)∧wc.ownsRow W0.heap.size 90 7 vt p.t.length (yvz p.t)∧OwnN m1 3 1 wc va p.a.length (intCells p.a)∧(∀k,vr.ownBlock=some k→k<m1)∧W0.heap.size≤m1)
  case first=>
    refine yx1 14 (fun W=>W.cell? ⟨w.heap.size,0,none⟩=some (.int .i64 p.n)∧W.cell? ⟨w.heap.size,1,none⟩=some (.slice a1 p.st.r.length c1)∧W.cell? ⟨w.heap.size,2,none⟩=some (.int .i64 p.st.q)∧W.cell? ⟨w.heap.size,3,none⟩=some (.int .i64 p.st.d)∧W.cell? ⟨w.heap.size,5,none⟩=some (.slice a5 p.t.length c5)∧W.cell? ⟨w.heap.size,6,none⟩=some (.slice a6 p.a.length c6)) (by kernel_rfl) (zja BX.out.drew).out (fun hHeld=> ?_)
    have hBd:Below W0.heap.size W0 W0.drew:=(Below.refl _ W0).drew
    refine yyr 0 {dst:=some 6,op:=Op.fieldAddr 97 (Operand.tmp 1) 0,type:=0,pos:=_,after:=_,guard:=none} (.pointer (some ⟨w.heap.size,0,none⟩)) ?_
    try simp only [Act.put,q1,q2,q3]
    refine yyr 1 {dst:=some 7,op:=Op.load 3 (Operand.tmp 6),type:=3,pos:=_,after:=_,guard:=none} (.int .i64 p.n) ?_
    try simp only [Act.put,q1,q2,q3]
    refine yyr 2 {dst:=some 8,op:=Op.fieldAddr 97 (Operand.tmp 1) 1,type:=0,pos:=_,after:=_,guard:=none} (.pointer (some ⟨w.heap.size,1,none⟩)) ?_
    try simp only [Act.put,q1,q2,q3]
    refine yyr 3 {dst:=some 9,op:=Op.load 94 (Operand.tmp 8),type:=94,pos:=_,after:=_,guard:=none} (.agg #[.slice a1 p.st.r.length c1,.int .i64 p.st.q,.int .i64 p.st.d]) ?_
    try simp only [Act.put,q1,q2,q3]
    refine yyr 5 {dst:=some 11,op:=Op.fieldAddr 97 (Operand.tmp 1) 3,type:=0,pos:=_,after:=_,guard:=none} (.pointer (some ⟨w.heap.size,5,none⟩)) ?_
    try simp only [Act.put,q1,q2,q3]
    refine yyr 6 {dst:=some 12,op:=Op.load 34 (Operand.tmp 11),type:=34,pos:=_,after:=_,guard:=none} (.slice a5 p.t.length c5) ?_
    try simp only [Act.put,q1,q2,q3]
    refine yyr 9 {dst:=some 15,op:=Op.fieldAddr 97 (Operand.tmp 1) 4,type:=0,pos:=_,after:=_,guard:=none} (.pointer (some ⟨w.heap.size,6,none⟩)) ?_
    try simp only [Act.put,q1,q2,q3]
    refine yyr 10 {dst:=some 16,op:=Op.load 22 (Operand.tmp 15),type:=22,pos:=_,after:=_,guard:=none} (.slice a6 p.a.length c6) ?_
    try simp only [Act.put,q1,q2,q3]
    refine listed4 (l':=(bits4 1647)) (by kernel_rfl) ?_
    clear hHeld
    refine zdd (J4 p a1 c1 a4 c4 a5 c5 a6 c6 W0 w.heap.size (w.heap.size+1)) ?_ ?_ ?_ ?_ _ _ _ _ ?_ ?_
    · kernel_rfl
    · exact fun _ _ _ h=>h.1
    · rintro l a W ⟨_,_,v3,v10,v13,v14,v17,v18,rfl,⟨_,hF⟩|⟨_,_,hR⟩⟩ hall
      · obtain⟨Pb,vr,vt,va,m1,rfl,hF⟩:=hF
        unfold act4
        try go_wp2_with fail
        go_meet
        case rel=>exact⟨Pb,vr,vt,va,m1,rfl,hF⟩
      · have h9:=hall 14 (by decide)
        rw [hR.2.1]at h9
        cases h9
    · rintro l a W ⟨hsz,hpu,v3,v10,v13,v14,v17,v18,rfl,hc⟩ i o ho hj hd
      have hlt:i<15:=(Array.getElem?_eq_some_iff.1 ho).1
      have dp:=fun p hc=>dep_on (p:=p) ho hd hc
      clear ho hd
      rcases hc with ⟨hall,_⟩|⟨m1,Kb,hR⟩
      · have h9:=hall i;rw [h9]at hj;cases hj
      obtain⟨_,_,h4,h7,h8,h11,h12,h13⟩:=id hR
      rcases split4 i hlt with hp|hp
      · have h9:=hpu i hp;rw [h9]at hj;cases hj
      have hno:¬T l i:=fun e=>by rw [e]at hj;cases hj
      have nx:∀j,T (l.setIfInBounds i true) j→i≠j→T l j:=fun j h e=>by rwa [T,getD_set_ne true e]at h
      have hs':(l.setIfInBounds i true).size=15:=by simp [hsz]
      have hp':∀j∈pure4,T (l.setIfInBounds i true) j:=fun j hj=>yk3 (hpu j hj)
      clear hlt hpu
      simp only [List.mem_cons,List.not_mem_nil,or_false]at hp
      rcases hp with rfl|rfl|rfl|rfl|rfl|rfl|rfl
      · refine yxg rfl (fun K hK=> ?_)
        unfold act4
        go_simp
        refine(zep _ _ p.st W hr9 rfl (D1.out.under hR.1)).mono ?_
        rintro e V ⟨x,rfl,ho,hb⟩
        try go_simp
        obtain⟨hB',h14',r4,r7,r8,r11,r12,r13⟩:=hR.move hb
        refine hK.out _ _ (fun _=>(zja (BX.out.keep hB' (by omega))).out) ?_
        try simp only [Act.put,q1]
        try simp only [q3]
        try simp only [q2]
        exact⟨hs',hp',v3,.agg #[x,.int .i64 p.st.q,.int .i64 p.st.d],v13,v14,v17,v18,rfl,.inr ⟨V.heap.size,Kb,hB',by rw [getD_set_ne true (by decide)];exact h14',fun _=>⟨x,rfl,yw0 ho hR.1.size,fun k hk=>owns_lt ho hk,Nat.le_trans hR.1.size hb.size,Nat.le_refl _⟩,fun h=>(hno (h7 (nx 7 h (by decide))).1).elim,fun h=>(r8 (nx 8 h (by decide))),fun h=>(hno (h11 (nx 11 h (by decide))).1.1).elim,fun h=>(hno (h12 (nx 12 h (by decide))).1.1).elim,fun h=>(r13 (nx 13 h (by decide)))⟩⟩
      · have t4:=dp 4 (by kernel_rfl)
        refine yxg rfl (fun K hK=> ?_)
        unfold act4
        go_simp
        refine(yyc _ p.t W ht9 (D5.out.under hR.1).srcEv).mono ?_
        rintro e V ⟨x,rfl,ho,hb⟩
        try go_simp
        obtain⟨hB',h14',r4,r7,r8,r11,r12,r13⟩:=hR.move hb
        refine hK.out _ _ (fun _=>(zja (BX.out.keep hB' (by omega))).out) ?_
        try simp only [Act.put,q1]
        try simp only [q3]
        try simp only [q2]
        exact⟨hs',hp',v3,v10,x,v14,v17,v18,rfl,.inr ⟨m1,Kb,hB',by rw [getD_set_ne true (by decide)];exact h14',fun h=>(r4 (nx 4 h (by decide))),fun _=>⟨yk3 t4,yw0 ho hR.1.size⟩,fun h=>(r8 (nx 8 h (by decide))),fun h=>(hno (h11 (nx 11 h (by decide))).1.2).elim,fun h=>(hno (h12 (nx 12 h (by decide))).1.2.1).elim,fun h=>(r13 (nx 13 h (by decide)))⟩⟩
      · refine yxg rfl (fun K hK=> ?_)
        obtain⟨X,V,HX,HV,hb,hk⟩:=zb1 W #[] 3
        unfold act4
        go_simp
        rw [HV.out,←HX.out]
        obtain⟨hB',h14',r4,r7,r8,r11,r12,r13⟩:=hR.move hb
        refine hK.out _ _ (fun _=>(zja (BX.out.keep hB' (by omega))).out) ?_
        try simp only [Act.put,q1]
        try simp only [q3]
        try simp only [q2]
        exact⟨hs',hp',v3,v10,v13,.slice (some ⟨X,0,none⟩) 0 0,v17,v18,rfl,.inr ⟨m1,Kb,hB',by rw [getD_set_ne true (by decide)];exact h14',fun h=>(r4 (nx 4 h (by decide))),fun h=>⟨yk3 (r7 (nx 7 h (by decide))).1,(r7 (nx 7 h (by decide))).2⟩,fun _=>⟨X,rfl⟩,fun h=>⟨⟨yk3 (r11 (nx 11 h (by decide))).1.1,yk3 (r11 (nx 11 h (by decide))).1.2⟩,(r11 (nx 11 h (by decide))).2⟩,fun h=>⟨⟨yk3 (r12 (nx 12 h (by decide))).1.1,yk3 (r12 (nx 12 h (by decide))).1.2.1,yk3 (r12 (nx 12 h (by decide))).1.2.2⟩,(r12 (nx 12 h (by decide))).2⟩,fun h=>(r13 (nx 13 h (by decide)))⟩⟩
      · have t7:=h7 (dp 7 (by kernel_rfl))
        obtain⟨g,rfl⟩:=h8 (dp 8 (by kernel_rfl))
        obtain⟨_,-,-,-,-,hn1⟩:=h4 t7.1
        refine yxg rfl (fun K hK=> ?_)
        refine zd2 rfl (.tmp 14) (.tmp 16) 22 rfl 3 i3 (.int .i64 0) 1 8 Tryz.underlying22 hi3 hiz0 hiz1 hiz2 rfl (by decide) g rfl (.slice a6 p.a.length c6) p.a.length (intCells p.a) rfl (D6.out.under hR.1).srcI (by unfold maxLen;omega) (by omega) ?_
        intro av cv V hcap ho hb
        obtain⟨hB',h14',r4,r7,r8,r11,r12,r13⟩:=hR.move hb
        unfold act4
        refine hK.out _ _ (fun _=>(zja (BX.out.keep hB' (by omega))).out) ?_
        try simp only [Act.put,q1]
        try simp only [q3]
        try simp only [q2]
        exact⟨hs',hp',v3,v10,v13,.slice (some ⟨g,0,none⟩) 0 0,.slice av p.a.length cv,v18,rfl,.inr ⟨m1,Kb,hB',by rw [getD_set_ne true (by decide)];exact h14',fun h=>(r4 (nx 4 h (by decide))),fun h=>⟨yk3 (r7 (nx 7 h (by decide))).1,(r7 (nx 7 h (by decide))).2⟩,fun h=>(r8 (nx 8 h (by decide))),fun _=>⟨⟨yk3 t7.1,yk3 (dp 7 (by kernel_rfl))⟩,_,_,rfl,hcap,ho.imp id (fun h=>yw0 h hn1)⟩,fun h=>(hno (h12 (nx 12 h (by decide))).1.2.2).elim,fun h=>(r13 (nx 13 h (by decide)))⟩⟩
      · have t7:=h7 (dp 7 (by kernel_rfl))
        obtain⟨x,rfl,hx,-,-,-⟩:=h4 t7.1
        obtain⟨ax,cx,rfl⟩:=yfm hx
        obtain⟨at9,ct9,rfl⟩:=yfm t7.2
        have q11:=h11 (dp 11 (by kernel_rfl))
        obtain⟨av9,cv9,rfl,_⟩:=id q11.2
        refine yxg rfl (fun K hK=> ?_)
        unfold act4
        go_simp
        obtain⟨hB',h14',r4,r7,r8,r11,r12,r13⟩:=hR.move (Below.refl _ W)
        refine hK.out _ _ (fun _=>(zja (BX.out.keep hB' (by omega))).out) ?_
        try simp only [Act.put,q1]
        try simp only [q3]
        try simp only [q2]
        exact⟨hs',hp',v3,_,_,v14,_,_,rfl,.inr ⟨m1,Kb,hB',by rw [getD_set_ne true (by decide)];exact h14',fun h=>(r4 (nx 4 h (by decide))),fun h=>⟨yk3 (r7 (nx 7 h (by decide))).1,(r7 (nx 7 h (by decide))).2⟩,fun h=>(r8 (nx 8 h (by decide))),fun h=>⟨⟨yk3 (r11 (nx 11 h (by decide))).1.1,yk3 (r11 (nx 11 h (by decide))).1.2⟩,(r11 (nx 11 h (by decide))).2⟩,fun _=>⟨⟨yk3 t7.1,yk3 (dp 7 (by kernel_rfl)),yk3 (dp 11 (by kernel_rfl))⟩,_,rfl,rfl⟩,fun h=>(r13 (nx 13 h (by decide)))⟩⟩
      · refine yxg rfl (fun K hK=> ?_)
        obtain⟨X,V,HX,HV,hb,hk⟩:=zb1 W #[.int .i64 0,.slice none 0 0,.int .i64 0,.int .i64 0,.slice none 0 0,.slice none 0 0,.slice none 0 0] 97
        unfold act4
        go_simp
        rw [HV.out,←HX.out]
        obtain⟨hB',h14',r4,r7,r8,r11,r12,r13⟩:=hR.move hb
        refine hK.out _ _ (fun _=>(zja (BX.out.keep hB' (by omega))).out) ?_
        try simp only [Act.put,q1]
        try simp only [q3]
        try simp only [q2]
        exact⟨hs',hp',.pointer (some ⟨X,0,none⟩),v10,v13,v14,v17,v18,rfl,.inr ⟨m1,X,hB',by rw [getD_set_ne true (by decide)];exact h14',fun h=>(r4 (nx 4 h (by decide))),fun h=>⟨yk3 (r7 (nx 7 h (by decide))).1,(r7 (nx 7 h (by decide))).2⟩,fun h=>(r8 (nx 8 h (by decide))),fun h=>⟨⟨yk3 (r11 (nx 11 h (by decide))).1.1,yk3 (r11 (nx 11 h (by decide))).1.2⟩,(r11 (nx 11 h (by decide))).2⟩,fun h=>⟨⟨yk3 (r12 (nx 12 h (by decide))).1.1,yk3 (r12 (nx 12 h (by decide))).1.2.1,yk3 (r12 (nx 12 h (by decide))).1.2.2⟩,(r12 (nx 12 h (by decide))).2⟩,fun _=>⟨rfl,hk,HX.out▸hR.1.size⟩⟩⟩
      · have t4:=dp 4 (by kernel_rfl)
        obtain⟨x,rfl,hx,hxm,hn0,hn1⟩:=h4 t4
        obtain⟨ax,cx,rfl⟩:=yfm hx
        have q7:=(h7 (dp 7 (by kernel_rfl))).2
        obtain⟨at9,ct9,rfl⟩:=yfm q7
        have q11:=(h11 (dp 11 (by kernel_rfl))).2
        obtain⟨av9,cv9,rfl,_⟩:=id q11
        obtain⟨_,y,e8,rfl⟩:=h12 (dp 12 (by kernel_rfl))
        simp only [Value.agg.injEq,Array.mk.injEq,List.cons.injEq,and_true,true_and]at e8
        subst e8
        obtain⟨rfl,hY,hKw⟩:=h13 (dp 13 (by kernel_rfl))
        have hall:∀j,T (l.setIfInBounds 14 true) j:=fun j=>by
          by_cases e:j=14
          · subst e;simp [hsz]
          · rcases Nat.lt_or_ge j 15 with h|h
            · rw [T,getD_set_ne true (Ne.symm e)];exact dp j (zpp (n:=14) (by kernel_rfl) j (by omega))
            · simp [hsz,Nat.not_lt.2 h]
        obtain⟨k0,k1,k2,k3,k4,k5,k6⟩:=c7_7 hY
        have kfz:=hY.free
        obtain⟨wf,hwf⟩:∃X,put7s W Kb (.int .i64 p.n) (.slice ax p.st.r.length cx) (.int .i64 p.st.q) (.int .i64 p.st.d) (.slice none 0 0) (.slice at9 p.t.length ct9) (.slice av9 p.a.length cv9)=X:=⟨_,rfl⟩
        have ht:Turns (fun j=>j=Kb) W wf:=hwf▸yz7 W Kb (.int .i64 p.n) (.slice ax p.st.r.length cx) (.int .i64 p.st.q) (.int .i64 p.st.d) (.slice none 0 0) (.slice at9 p.t.length ct9) (.slice av9 p.a.length cv9)
        have hF:Hid (∃Pb vr vt va m1,(.pointer (some ⟨Kb,0,none⟩):Value)= .pointer (some ⟨Pb,0,none⟩)∧Below W0.heap.size W0 wf∧(W0.heap.size≤Pb∧Pb<wf.heap.size)∧Bk wf Pb 97 #[.int .i64 p.n,vr,.int .i64 p.st.q,.int .i64 p.st.d,.slice none 0 0,vt,va]∧wf.ownsRow W0.heap.size 3 1 vr p.st.r.length (intCells p.st.r)∧wf.ownsRow W0.heap.size 90 7 vt p.t.length (yvz p.t)∧OwnN m1 3 1 wf va p.a.length (intCells p.a)∧(∀k,vr.ownBlock=some k→k<m1)∧W0.heap.size≤m1):=⟨Kb,_,_,_,m1,rfl,hR.1.trans (ht.to_below (fun j e=>by omega) hR.1.size),⟨hKw,Nat.lt_of_lt_of_le hY.lt ht.size⟩,hwf▸hY.put7s (.int .i64 p.n) (.slice ax p.st.r.length cx) (.int .i64 p.st.q) (.int .i64 p.st.d) (.slice none 0 0) (.slice at9 p.t.length ct9) (.slice av9 p.a.length cv9),ypa hx ht (fun k hk e=>ywp hx hY (by decide) (e▸hk)),ypa q7 ht (fun k hk e=>ywp q7 hY (by decide) (e▸hk)),q11.turns ht (fun _ e=>⟨_,e▸hY⟩) (by decide),hxm,hn0⟩
        unfold put7s at hwf
        have HWF:Hid _:=hwf
        clear hwf ht hx q7 q11 hY
        refine yxg rfl (fun K hK=> ?_)
        unfold act4
        go_simp
        rw [HWF.out]
        clear HWF kfz k0 k1 k2 k3 k4 k5 k6
        refine hK.out _ _ (fun e=>absurd rfl e) ?_
        try simp only [Act.put,q1]
        try simp only [q3]
        try simp only [q2]
        exact⟨hs',hp',_,_,_,_,_,_,rfl,.inl ⟨hall,hF.out⟩⟩
    · exact⟨by kernel_rfl,List.all_eq_true.1 (by kernel_rfl:(pure4.all fun i=>(bits4 1647).getD i true)=true),undef,undef,undef,undef,undef,undef,rfl,.inr ⟨0,0,hBd,by kernel_rfl,off5 (by kernel_rfl),off5 (by kernel_rfl),off5 (by kernel_rfl),off5 (by kernel_rfl),off5 (by kernel_rfl),off5 (by kernel_rfl)⟩⟩
    · exact Nat.le_of_eq (by kernel_rfl)
  case rest=>
    rename World=>Wc
    obtain⟨Pb,vr,vt,va,m1,rfl,hB,⟨hP1,hP2⟩,hP,hvr,hvt,hva,hdis,hm1⟩:=hcut
    obtain⟨ar,cr,hvr'⟩:=yfm hvr
    obtain⟨at0,ct,hvt'⟩:=yfm hvt
    obtain⟨aa,ca,hva',_⟩:=id hva
    subst hvr' hvt' hva'
    have HB:=yvi hB
    have HP:=yvi hP
    have HR:=yvi hvr
    have HT:=yvi hvt
    obtain⟨A6,hA6,hL6⟩:=hva.own (by rw [yws];omega)
    have HA:=yvi hA6
    have HL6:=yvi hL6
    have HD:Hid (∀k,(Value.slice ar p.st.r.length cr).ownBlock=some k→ ¬A6 k):=fun k hk e=>by have:=hdis k hk;have:=(hL6 k e).1;omega
    have hzc:W0.heap.size≤Wc.heap.size:=hB.size
    have hPW:Pb≠w.heap.size:=by omega
    have HNP:Hid (∀b,((Value.slice ar p.st.r.length cr).ownBlock=some b∨(Value.slice at0 p.t.length ct).ownBlock=some b∨A6 b)→b≠Pb∧W0.heap.size≤b∧b<Wc.heap.size):=fun b hb=>by
      rcases hb with h|h|h
      · exact⟨fun e=>ywp hvr hP (by decide) (e▸h),yx4 hvr h,owns_lt hvr h⟩
      · exact⟨fun e=>ywp hvt hP (by decide) (e▸h),yx4 hvt h,owns_lt hvt h⟩
      · exact⟨fun e=>zaf (hL6 b h).2.2 ⟨_,e▸hP⟩ (by decide),by have:=(hL6 b h).1;omega,(hL6 b h).2.1⟩
    clear hB hP hvr hvt hva hdis D1 D5 D6 hA6 hL6
    go_wp2
    go_loopw [4,5] (fun i u5 wr=>∃(k:Nat) (vp:Value) (cs:List Value) (G:Nat→Nat→Prop),k≤p.p.length∧i= .int .i64 k∧GrowD Wc.heap.size 172 wr vp 12 k cs (ydq p.p) G∧Bk wr Pb 97 #[.int .i64 p.n,.slice ar p.st.r.length cr,.int .i64 p.st.q,.int .i64 p.st.d,vp,.slice at0 p.t.length ct,.slice aa p.a.length ca]∧Turns (fun b=>b=Pb) Wc wr) (fun i _ _=>p.p.length-(intOf i).toNat)
    case atStart=>exact⟨0,_,[],fun _ _=>False,Nat.zero_le _,rfl,GrowD.nil _ _ _ _ _ _,HP.out,Turns.refl _ _⟩
    case round=>
      clear HP
      obtain⟨k,vp,cs,G,hk,rfl,hG,hP,hT⟩:=hrel
      obtain⟨ap,cp,hvp⟩:=yfm hG.row
      subst hvp
      have HG:=yvi hG
      have HP:=yvi hP
      have HTu:=yvi hT
      have hBr:Below W0.heap.size W0 wr:=HB.out.trans (hT.to_below (fun k e=>by omega) hzc)
      have HBr:=yvi hBr
      have hzr:Wc.heap.size≤wr.heap.size:=hT.size
      have HX:=yvi (BX.out.keep hBr (by omega))
      have HV:Hid (∀b,(.slice ap k cp:Value).ownBlock=some b→b<wr.heap.size):=fun b e=>owns_lt hG.row e
      have x4:=HX.out.cell (i:=4) rfl
      clear hG hP hT hBr
      by_cases hlt:k<p.p.length
      · have hki:(k:Int)<(p.p.length:Int):=by omega
        have hD4:=D4.out.under HBr.out
        obtain⟨a4',cap4,he4,_,_,h4⟩:=IsD.parts (c:=12) (n:=p.p.length) hD4
        have h4':=h4.resolve_left (by omega)
        obtain⟨b,off,ha4,hb4,hc4⟩:=h4'
        obtain⟨rfl,rfl⟩:a4=a4'∧c4=cap4:=by simpa using he4
        subst ha4
        obtain⟨u7,u10,u11,f0,f1,f2,f3,f4,f5,f6,f7c,f8,f9,f10c,f11c,d7,d10,d11⟩:=yya hc4 hlt
        obtain⟨f7,g7,rfl,_⟩:=IsD.len d7
        obtain⟨f10,g10,rfl,_⟩:=IsD.len d10
        obtain⟨f11,g11,rfl,_⟩:=IsD.len d11
        have hqs:(psAt p.p k).s.length≤1048577∧(psAt p.p k).x.length≤1048577∧(psAt p.p k).b.r.length≤1048577:=by
          have e0:=ywf (psAt p.p k).b.r
          have e1:=Ps.wt_le hlt
          have e2:=yx0 (psAt p.p k).s
          have e3:=yy3 (psAt p.p k).x
          have e4:=HWT.out
          unfold Pa.wt at e4
          unfold Ps.wt at e1
          omega
        obtain⟨hqs1,hqx1,hqr1⟩:=hqs
        obtain⟨V0,hV0⟩:∃V,wr.alloc (.cells #[.int .i64 (psAt p.p k).e.t,.int .i64 (psAt p.p k).e.s,.int .i64 (psAt p.p k).e.q,.int .i64 (psAt p.p k).e.d,.int .i64 (psAt p.p k).e.k,.int .i64 (psAt p.p k).e.v,.int .i64 (psAt p.p k).e.g,.slice f7 (psAt p.p k).b.r.length g7,.int .i64 (psAt p.p k).b.q,.int .i64 (psAt p.p k).b.d,.slice f10 (psAt p.p k).s.length g10,.slice f11 (psAt p.p k).x.length g11] 172)=V:=⟨_,rfl⟩
        have HV0:=yvi hV0
        have hbv:=beA hV0
        obtain⟨Eb,hEb⟩:∃g,g=wr.heap.size:=⟨_,rfl⟩
        have HEb:Hid (Eb=wr.heap.size):=hEb
        have XE:Hid (Bk V0 Eb 172 #[.int .i64 (psAt p.p k).e.t,.int .i64 (psAt p.p k).e.s,.int .i64 (psAt p.p k).e.q,.int .i64 (psAt p.p k).e.d,.int .i64 (psAt p.p k).e.k,.int .i64 (psAt p.p k).e.v,.int .i64 (psAt p.p k).e.g,.slice f7 (psAt p.p k).b.r.length g7,.int .i64 (psAt p.p k).b.q,.int .i64 (psAt p.p k).b.d,.slice f10 (psAt p.p k).s.length g10,.slice f11 (psAt p.p k).x.length g11]):=hV0▸hEb▸Bk.new wr _ _
        have PV:=yvi (HP.out.below hbv)
        have GV:=yvi (HG.out.below hbv)
        have D7V:=yvi (d7.under hbv)
        have D10V:=yvi (d10.under hbv)
        have D11V:=yvi (d11.under hbv)
        have TuV:=yvi (HTu.out.trans (Turns.of_below hbv))
        have hEl:Eb<V0.heap.size:=XE.out.lt
        have hEy:wr.heap.size≤Eb∧Eb≤wr.heap.size:=by omega
        have HVE:Hid (∀b,(.slice ap k cp:Value).ownBlock=some b→b<Eb∧Wc.heap.size≤b):=fun b e=>⟨by have:=HV.out b e;omega,yx4 HG.out.row e⟩
        clear hV0 hEb hbv d7 d10 d11 hD4 h4 hc4 he4 HG HP HTu HV
        go_wp2_with fail
        rw [HV0.out,←HEb.out]
        clear HV0 HEb f0 f1 f2 f3 f4 f5 f6 f7c f8 f9 f10c f11c x4
        have hzv:V0.drew.heap.size≤V0.heap.size∧V0.heap.size≤V0.drew.heap.size:=⟨Nat.le_refl _,Nat.le_refl _⟩
        have B_105:Hid (Below V0.heap.size V0 V0.drew):=(Below.refl _ V0).drew
        have X_105:=yvi XE.out.drew
        have PB_105:=yvi PV.out.drew
        have D7_105:=yvi (D7V.out.under (Below.refl _ V0).drew)
        have D10_105:=yvi (D10V.out.under (Below.refl _ V0).drew)
        have D11_105:=yvi (D11V.out.under (Below.refl _ V0).drew)
        have Q_105:Hid (V0.drew.cell? ⟨Eb,0,none⟩=some (.int .i64 (psAt p.p k).e.t)∧V0.drew.cell? ⟨Eb,1,none⟩=some (.int .i64 (psAt p.p k).e.s)∧V0.drew.cell? ⟨Eb,2,none⟩=some (.int .i64 (psAt p.p k).e.q)∧V0.drew.cell? ⟨Eb,3,none⟩=some (.int .i64 (psAt p.p k).e.d)∧V0.drew.cell? ⟨Eb,4,none⟩=some (.int .i64 (psAt p.p k).e.k)∧V0.drew.cell? ⟨Eb,5,none⟩=some (.int .i64 (psAt p.p k).e.v)∧V0.drew.cell? ⟨Eb,6,none⟩=some (.int .i64 (psAt p.p k).e.g)∧V0.drew.cell? ⟨Eb,7,none⟩=some (.slice f7 (psAt p.p k).b.r.length g7)∧V0.drew.cell? ⟨Eb,8,none⟩=some (.int .i64 (psAt p.p k).b.q)∧V0.drew.cell? ⟨Eb,9,none⟩=some (.int .i64 (psAt p.p k).b.d)∧V0.drew.cell? ⟨Eb,10,none⟩=some (.slice f10 (psAt p.p k).s.length g10)∧V0.drew.cell? ⟨Eb,11,none⟩=some (.slice f11 (psAt p.p k).x.length g11)∧V0.drew.cell? ⟨Pb,4,none⟩=some (.slice ap k cp)):=⟨X_105.out.cell rfl,X_105.out.cell rfl,X_105.out.cell rfl,X_105.out.cell rfl,X_105.out.cell rfl,X_105.out.cell rfl,X_105.out.cell rfl,X_105.out.cell rfl,X_105.out.cell rfl,X_105.out.cell rfl,X_105.out.cell rfl,X_105.out.cell rfl,PB_105.out.cell rfl⟩
        clear XE PV D7V D10V D11V
        refine yx1 18 (fun W=>W.cell? ⟨Eb,0,none⟩=some (.int .i64 (psAt p.p k).e.t)∧W.cell? ⟨Eb,1,none⟩=some (.int .i64 (psAt p.p k).e.s)∧W.cell? ⟨Eb,2,none⟩=some (.int .i64 (psAt p.p k).e.q)∧W.cell? ⟨Eb,3,none⟩=some (.int .i64 (psAt p.p k).e.d)∧W.cell? ⟨Eb,4,none⟩=some (.int .i64 (psAt p.p k).e.k)∧W.cell? ⟨Eb,5,none⟩=some (.int .i64 (psAt p.p k).e.v)∧W.cell? ⟨Eb,6,none⟩=some (.int .i64 (psAt p.p k).e.g)∧W.cell? ⟨Eb,7,none⟩=some (.slice f7 (psAt p.p k).b.r.length g7)∧W.cell? ⟨Eb,8,none⟩=some (.int .i64 (psAt p.p k).b.q)∧W.cell? ⟨Eb,9,none⟩=some (.int .i64 (psAt p.p k).b.d)∧W.cell? ⟨Eb,10,none⟩=some (.slice f10 (psAt p.p k).s.length g10)∧W.cell? ⟨Eb,11,none⟩=some (.slice f11 (psAt p.p k).x.length g11)∧W.cell? ⟨Pb,4,none⟩=some (.slice ap k cp)) (by kernel_rfl) Q_105.out (fun hHeld=> ?_)
        refine yyr 0 {dst:=some 31,op:=Op.fieldAddr 97 (Operand.tmp 3) 2,type:=0,pos:=_,after:=_,guard:=none} (.pointer (some ⟨Pb,4,none⟩)) ?_
        try simp only [Act.put,q1,q2,q3]
        refine yyr 1 {dst:=some 32,op:=Op.load 95 (Operand.tmp 31),type:=95,pos:=_,after:=_,guard:=none} (.slice ap k cp) ?_
        try simp only [Act.put,q1,q2,q3]
        refine yyr 2 {dst:=some 33,op:=Op.fieldAddr 172 (Operand.tmp 5) 0,type:=0,pos:=_,after:=_,guard:=none} (.pointer (some ⟨Eb,0,none⟩)) ?_
        try simp only [Act.put,q1,q2,q3]
        refine yyr 3 {dst:=some 34,op:=Op.load 90 (Operand.tmp 33),type:=90,pos:=_,after:=_,guard:=none} (.agg #[.int .i64 (psAt p.p k).e.t,.int .i64 (psAt p.p k).e.s,.int .i64 (psAt p.p k).e.q,.int .i64 (psAt p.p k).e.d,.int .i64 (psAt p.p k).e.k,.int .i64 (psAt p.p k).e.v,.int .i64 (psAt p.p k).e.g]) ?_
        try simp only [Act.put,q1,q2,q3]
        refine yyr 4 {dst:=some 35,op:=Op.fieldAddr 172 (Operand.tmp 5) 1,type:=0,pos:=_,after:=_,guard:=none} (.pointer (some ⟨Eb,7,none⟩)) ?_
        try simp only [Act.put,q1,q2,q3]
        refine yyr 5 {dst:=some 36,op:=Op.load 94 (Operand.tmp 35),type:=94,pos:=_,after:=_,guard:=none} (.agg #[.slice f7 (psAt p.p k).b.r.length g7,.int .i64 (psAt p.p k).b.q,.int .i64 (psAt p.p k).b.d]) ?_
        try simp only [Act.put,q1,q2,q3]
        refine yyr 7 {dst:=some 38,op:=Op.fieldAddr 172 (Operand.tmp 5) 2,type:=0,pos:=_,after:=_,guard:=none} (.pointer (some ⟨Eb,10,none⟩)) ?_
        try simp only [Act.put,q1,q2,q3]
        refine yyr 8 {dst:=some 39,op:=Op.load 34 (Operand.tmp 38),type:=34,pos:=_,after:=_,guard:=none} (.slice f10 (psAt p.p k).s.length g10) ?_
        try simp only [Act.put,q1,q2,q3]
        refine yyr 11 {dst:=some 42,op:=Op.fieldAddr 172 (Operand.tmp 5) 3,type:=0,pos:=_,after:=_,guard:=none} (.pointer (some ⟨Eb,11,none⟩)) ?_
        try simp only [Act.put,q1,q2,q3]
        refine yyr 12 {dst:=some 43,op:=Op.load 39 (Operand.tmp 42),type:=39,pos:=_,after:=_,guard:=none} (.slice f11 (psAt p.p k).x.length g11) ?_
        try simp only [Act.put,q1,q2,q3]
        refine yfb (rs:= [6,10]) (by kernel_rfl) (by simp) ?_
        refine AllReadyZ.cons (o:= {dst:=some 37,op:=Op.call {callee:=Callee.value (Operand.func 179),args:= #[Operand.tmp 36],argTypes:= #[94]},type:=94,pos:=_,after:=_,guard:=none}) rfl (fun K hK=> ?_) (AllReadyZ.cons (o:= {dst:=some 41,op:=Op.buildSlice 39 0 #[],type:=39,pos:=_,after:=_,guard:=none}) rfl (fun K hK=> ?_) AllReadyZ.nil)
        · have hbs106:V0.heap.size≤V0.drew.heap.size:=B_105.out.size
          go_simp
          refine(zep _ _ (psAt p.p k).b V0.drew hqr1 rfl D7_105.out).mono ?_
          rintro e w106 ⟨vs1,rfl,hown,hb⟩
          obtain⟨as1,cs1,hvs⟩:=yfm hown
          subst hvs
          have HLS:Hid (∀k',(.slice as1 (psAt p.p k).b.r.length cs1:Value).ownBlock=some k'→V0.drew.heap.size≤k'∧k'<w106.heap.size):=yxz hown
          have hz106:V0.drew.heap.size≤w106.heap.size:=hb.size
          have B_107:=trh B_105 hb
          have X_107:=yvi (X_105.out.below hb)
          have PB_107:=yvi (PB_105.out.below hb)
          have D10_107:=yvi (D10_105.out.under hb)
          have D11_107:=yvi (D11_105.out.under hb)
          clear B_105 X_105 PB_105 D7_105 D10_105 D11_105
          have S_107:=yvi (yw0 hown hbs106)
          clear hown hb
          have Q_107:=yzt X_107.out PB_107.out
          refine hK.out _ _ Q_107.out (fun hHeld=> ?_)
          clear hK K
          try simp only [Act.put,q1,q2,q3]
          refine yfb (rs:= [9,10]) (by kernel_rfl) (by simp) ?_
          refine AllReadyZ.cons (o:= {dst:=some 40,op:=Op.call {callee:=Callee.value (Operand.func 106),args:= #[Operand.tmp 39],argTypes:= #[34]},type:=34,pos:=_,after:=_,guard:=none}) rfl (fun K hK=> ?_) (AllReadyZ.cons (o:= {dst:=some 41,op:=Op.buildSlice 39 0 #[],type:=39,pos:=_,after:=_,guard:=none}) rfl (fun K hK=> ?_) AllReadyZ.nil)
          · have hbs110:V0.heap.size≤w106.heap.size:=B_107.out.size
            go_simp
            refine(yyc _ (psAt p.p k).s w106 hqs1 D10_107.out.srcEv).mono ?_
            rintro e w110 ⟨vt,rfl,hown,hb⟩
            obtain⟨at1,ct1,hvt⟩:=yfm hown
            subst hvt
            have HLT:Hid (∀k',(.slice at1 (psAt p.p k).s.length ct1:Value).ownBlock=some k'→w106.heap.size≤k'∧k'<w110.heap.size):=yxz hown
            have hz110:w106.heap.size≤w110.heap.size:=hb.size
            have B_111:=trh B_107 hb
            have X_111:=yvi (X_107.out.below hb)
            have PB_111:=yvi (PB_107.out.below hb)
            have D11_111:=yvi (D11_107.out.under hb)
            have S_111:=yvi (ypa S_107.out (Turns.of_below hb) (fun _ _=>id))
            clear B_107 X_107 PB_107 D10_107 D11_107 S_107
            have T_111:=yvi (yw0 hown hbs110)
            clear hown hb
            have Q_111:=yzt X_111.out PB_111.out
            refine hK.out _ _ Q_111.out (fun hHeld=> ?_)
            clear hK K
            try simp only [Act.put,q1,q2,q3]
            refine yfb (rs:= [10]) (by kernel_rfl) (by simp) ?_
            refine AllReadyZ.cons (o:= {dst:=some 41,op:=Op.buildSlice 39 0 #[],type:=39,pos:=_,after:=_,guard:=none}) rfl (fun K hK=> ?_) AllReadyZ.nil
            have hs8:V0.heap.size≤w110.heap.size:=B_111.out.size
            obtain⟨g8,hg8⟩:∃g,g=w110.heap.size:=⟨_,rfl⟩
            obtain⟨w114,hw114⟩:∃V,w110.alloc (.cells #[] 166)=V:=⟨_,rfl⟩
            have HW114:=yvi hw114
            have HG8:=yvi hg8
            have B_115:Hid (Below V0.heap.size V0 w114):=by(rw [←hw114];exact B_111.out.alloc B_111.out.size _)
            have X_115:Hid (Bk w114 Eb 172 #[.int .i64 (psAt p.p k).e.t,.int .i64 (psAt p.p k).e.s,.int .i64 (psAt p.p k).e.q,.int .i64 (psAt p.p k).e.d,.int .i64 (psAt p.p k).e.k,.int .i64 (psAt p.p k).e.v,.int .i64 (psAt p.p k).e.g,.slice f7 (psAt p.p k).b.r.length g7,.int .i64 (psAt p.p k).b.q,.int .i64 (psAt p.p k).b.d,.slice f10 (psAt p.p k).s.length g10,.slice f11 (psAt p.p k).x.length g11]):=by(rw [←hw114];exact X_111.out.alloc _)
            have PB_115:Hid (Bk w114 Pb 97 #[.int .i64 p.n,.slice ar p.st.r.length cr,.int .i64 p.st.q,.int .i64 p.st.d,.slice ap k cp,.slice at0 p.t.length ct,.slice aa p.a.length ca]):=by(rw [←hw114];exact PB_111.out.alloc _)
            have D11_115:Hid (IsD w114 (.slice f11 (psAt p.p k).x.length g11) (emsD (psAt p.p k).x)):=by(rw [←hw114];exact D11_111.out.under ((Below.refl _ _).alloc (Nat.le_refl _) _))
            have S_115:Hid (w114.ownsRow V0.heap.size 3 1 (.slice as1 (psAt p.p k).b.r.length cs1) (psAt p.p k).b.r.length (intCells (psAt p.p k).b.r)):=by(rw [←hw114];exact S_111.out.alloc _)
            have T_115:Hid (w114.ownsRow V0.heap.size 90 7 (.slice at1 (psAt p.p k).s.length ct1) (psAt p.p k).s.length (yvz (psAt p.p k).s)):=by(rw [←hw114];exact T_111.out.alloc _)
            clear B_111 X_111 PB_111 D11_111 S_111 T_111
            have E_115:Hid (w114.ownsRow V0.heap.size 166 3 (.slice (some ⟨g8,0,none⟩) 0 0) 0 []):=by(rw [←hw114,hg8];exact yw0 (yx8 w110 166 3) hs8)
            have hz114:g8<w114.heap.size:=by(rw [←hw114,hg8];exact(Bk.new w110 166 #[]).lt)
            have hzy114:w110.heap.size≤g8∧g8≤w110.heap.size:=by omega
            clear hw114 hg8
            go_simp
            rw [HW114.out,←HG8.out]
            have Q_115:=yzt X_115.out PB_115.out
            refine hK.out _ _ Q_115.out (fun hHeld=> ?_)
            clear hK K
            try simp only [Act.put,q1,q2,q3]
            refine yfb (rs:= [13]) (by kernel_rfl) (by simp) ?_
            refine AllReadyZ.cons (o:= {dst:=some 44,op:=Op.call {callee:=Callee.builtin Builtin.append,args:= #[Operand.tmp 41,Operand.tmp 43],argTypes:= #[39,39]},type:=39,pos:=_,after:=_,guard:=none}) rfl (fun K hK=> ?_) AllReadyZ.nil
            refine ywl (w:=w114) rfl (.tmp 41) (.tmp 43) 39 rfl V0.heap.size 166 ix (.agg #[.int .i64 0,.int .i64 0,.int .i64 0]) 3 24 Tryz.underlying39 hix hix0 hix1 hix2 rfl (by decide) (.slice (some ⟨g8,0,none⟩) 0 0) 0 [] rfl E_115.out (.slice f11 (psAt p.p k).x.length g11) (psAt p.p k).x.length (ywm (psAt p.p k).x) rfl D11_115.out.srcX (yyz _) (by unfold maxLen;omega) (by omega) B_115.out.size ?_
            intro va w116 hown hgrow hnew
            rw [Nat.zero_add,List.nil_append]at hown
            obtain⟨av1,cv1,hva⟩:=yfm hown
            subst hva
            have HLA:Hid (∀k',(.slice av1 (psAt p.p k).x.length cv1:Value).ownBlock=some k'→k'=g8∨(w114.heap.size≤k'∧k'<w116.heap.size)):=zdk hnew rfl hown
            have hz116:w114.heap.size≤w116.heap.size:=hgrow.size
            have hgt:=yw9 hgrow
            have hS8:∀k',(Value.slice (some ⟨g8,0,none⟩) 0 0).ownBlock=some k'→k'=g8:=fun k' e=>by simpa [Value.ownBlock] using e.symm
            have B_117:=yvi (B_115.out.grown hgrow B_115.out.size (fun k' e=>by have:=hS8 k' e;omega))
            have X_117:=yvi (X_115.out.turns hgt (fun e=>by have:=hS8 _ e;omega))
            have PB_117:=yvi (PB_115.out.turns hgt (fun e=>by have:=hS8 _ e;omega))
            have S_117:=yvi (ypa S_115.out hgt (fun k' hk e=>by have:=hS8 k' e;have:=HLS.out k' hk;omega))
            have T_117:=yvi (ypa T_115.out hgt (fun k' hk e=>by have:=hS8 k' e;have:=HLT.out k' hk;omega))
            clear B_115 X_115 PB_115 D11_115 S_115 T_115 E_115
            have A_117:=yvi hown
            clear hown hgrow hnew hgt hS8
            have Q_117:=yzt X_117.out PB_117.out
            refine hK.out _ _ Q_117.out (fun hHeld=> ?_)
            clear hK K
            try simp only [Act.put,q1,q2,q3]
            refine yyr 14 {dst:=some 45,op:=Op.build 172 #[(0,Operand.tmp 34),(1,Operand.tmp 37),(2,Operand.tmp 40),(3,Operand.tmp 44)],type:=172,pos:=_,after:=_,guard:=none} (.agg #[.int .i64 (psAt p.p k).e.t,.int .i64 (psAt p.p k).e.s,.int .i64 (psAt p.p k).e.q,.int .i64 (psAt p.p k).e.d,.int .i64 (psAt p.p k).e.k,.int .i64 (psAt p.p k).e.v,.int .i64 (psAt p.p k).e.g,.slice as1 (psAt p.p k).b.r.length cs1,.int .i64 (psAt p.p k).b.q,.int .i64 (psAt p.p k).b.d,.slice at1 (psAt p.p k).s.length ct1,.slice av1 (psAt p.p k).x.length cv1]) ?_
            try simp only [Act.put,q1,q2,q3]
            refine yfb (rs:= [15]) (by kernel_rfl) (by simp) ?_
            refine AllReadyZ.cons (o:= {dst:=some 46,op:=Op.buildSlice 95 1 #[(0,Operand.tmp 45)],type:=95,pos:=_,after:=_,guard:=none}) rfl (fun K hK=> ?_) AllReadyZ.nil
            obtain⟨Nb,hNb⟩:∃g,g=w116.heap.size:=⟨_,rfl⟩
            obtain⟨w118,hw118⟩:∃V,w116.alloc (.cells #[.int .i64 (psAt p.p k).e.t,.int .i64 (psAt p.p k).e.s,.int .i64 (psAt p.p k).e.q,.int .i64 (psAt p.p k).e.d,.int .i64 (psAt p.p k).e.k,.int .i64 (psAt p.p k).e.v,.int .i64 (psAt p.p k).e.g,.slice as1 (psAt p.p k).b.r.length cs1,.int .i64 (psAt p.p k).b.q,.int .i64 (psAt p.p k).b.d,.slice at1 (psAt p.p k).s.length ct1,.slice av1 (psAt p.p k).x.length cv1] 172)=V:=⟨_,rfl⟩
            have HW118:=yvi hw118
            have HNb:=yvi hNb
            have hs118:V0.heap.size≤w116.heap.size:=B_117.out.size
            have B_119:Hid (Below V0.heap.size V0 w118):=by(rw [←hw118];exact B_117.out.alloc B_117.out.size _)
            have X_119:Hid (Bk w118 Eb 172 #[.int .i64 (psAt p.p k).e.t,.int .i64 (psAt p.p k).e.s,.int .i64 (psAt p.p k).e.q,.int .i64 (psAt p.p k).e.d,.int .i64 (psAt p.p k).e.k,.int .i64 (psAt p.p k).e.v,.int .i64 (psAt p.p k).e.g,.slice f7 (psAt p.p k).b.r.length g7,.int .i64 (psAt p.p k).b.q,.int .i64 (psAt p.p k).b.d,.slice f10 (psAt p.p k).s.length g10,.slice f11 (psAt p.p k).x.length g11]):=by(rw [←hw118];exact X_117.out.alloc _)
            have PB_119:Hid (Bk w118 Pb 97 #[.int .i64 p.n,.slice ar p.st.r.length cr,.int .i64 p.st.q,.int .i64 p.st.d,.slice ap k cp,.slice at0 p.t.length ct,.slice aa p.a.length ca]):=by(rw [←hw118];exact PB_117.out.alloc _)
            have S_119:Hid (w118.ownsRow V0.heap.size 3 1 (.slice as1 (psAt p.p k).b.r.length cs1) (psAt p.p k).b.r.length (intCells (psAt p.p k).b.r)):=by(rw [←hw118];exact S_117.out.alloc _)
            have T_119:Hid (w118.ownsRow V0.heap.size 90 7 (.slice at1 (psAt p.p k).s.length ct1) (psAt p.p k).s.length (yvz (psAt p.p k).s)):=by(rw [←hw118];exact T_117.out.alloc _)
            have A_119:Hid (w118.ownsRow V0.heap.size 166 3 (.slice av1 (psAt p.p k).x.length cv1) (psAt p.p k).x.length (ywm (psAt p.p k).x)):=by(rw [←hw118];exact A_117.out.alloc _)
            clear B_117 X_117 PB_117 S_117 T_117 A_117
            have NB_119:Hid (Bk w118 Nb 172 #[.int .i64 (psAt p.p k).e.t,.int .i64 (psAt p.p k).e.s,.int .i64 (psAt p.p k).e.q,.int .i64 (psAt p.p k).e.d,.int .i64 (psAt p.p k).e.k,.int .i64 (psAt p.p k).e.v,.int .i64 (psAt p.p k).e.g,.slice as1 (psAt p.p k).b.r.length cs1,.int .i64 (psAt p.p k).b.q,.int .i64 (psAt p.p k).b.d,.slice at1 (psAt p.p k).s.length ct1,.slice av1 (psAt p.p k).x.length cv1]):=by(rw [←hw118];exact hNb▸Bk.new w116 _ _)
            have hz118:Nb<w118.heap.size:=NB_119.out.lt
            have hzy118:w116.heap.size≤Nb∧Nb≤w116.heap.size:=by omega
            clear hw118 hNb
            go_simp
            rw [HW118.out,←HNb.out]
            have Q_119:=yzt X_119.out PB_119.out
            refine hK.out _ _ Q_119.out (fun hHeld=> ?_)
            clear hK K
            try simp only [Act.put,q1,q2,q3]
            refine yfb (rs:= [16]) (by kernel_rfl) (by simp) ?_
            refine AllReadyZ.cons (o:= {dst:=some 47,op:=Op.call {callee:=Callee.builtin Builtin.append,args:= #[Operand.tmp 32,Operand.tmp 46],argTypes:= #[95,95]},type:=95,pos:=_,after:=_,guard:=none}) rfl (fun K hK=> ?_) AllReadyZ.nil
            have hbs120:V0.heap.size≤w118.heap.size:=B_119.out.size
            refine yym (w:=w118) rfl (.tmp 32) (.tmp 46) 95 rfl Wc.heap.size 172 ip _ 12 144 Tryz.underlying95 hip hip0 hip1 hip2 rfl (by decide) (.slice ap k cp) k cs rfl (GV.out.below B_119.out).row ⟨Nb,0,none⟩ 1 1 (pastL (psAt p.p k) (.slice as1 (psAt p.p k).b.r.length cs1) (.slice at1 (psAt p.p k).s.length ct1) (.slice av1 (psAt p.p k).x.length cv1)) rfl rfl NB_119.out.src (by simp [pastL,Value.oneCell']) (by unfold maxLen;omega) (by omega) (by omega) ?_
            intro vn w120 hown hgrow hnew
            obtain⟨ap3,cp3,hvn⟩:=yfm hown
            subst hvn
            have hgt:=yw9 hgrow
            have h7:OwnD w118 (fun b=>(.slice as1 (psAt p.p k).b.r.length cs1:Value).ownBlock=some b) (.slice as1 (psAt p.p k).b.r.length cs1) (ywr (psAt p.p k).b.r):=(yxq (by rw [yws];omega) S_119.out).own
            have h10:OwnD w118 (fun b=>(.slice at1 (psAt p.p k).s.length ct1:Value).ownBlock=some b) (.slice at1 (psAt p.p k).s.length ct1) (evsD (psAt p.p k).s):=(yxq (ywc _) T_119.out).own
            have h11:OwnD w118 (fun b=>(.slice av1 (psAt p.p k).x.length cv1:Value).ownBlock=some b) (.slice av1 (psAt p.p k).x.length cv1) (emsD (psAt p.p k).x):=(yxq (yxd _) A_119.out).own
            have HGN:Hid (GrowD Wc.heap.size 172 w120 (.slice ap3 (k+1) cp3) 12 (k+1) (cs++pastL (psAt p.p k) (.slice as1 (psAt p.p k).b.r.length cs1) (.slice at1 (psAt p.p k).s.length ct1) (.slice av1 (psAt p.p k).x.length cv1)) (ydq p.p) (zdl (k*12) G (zf5 (fun b=>(.slice as1 (psAt p.p k).b.r.length cs1:Value).ownBlock=some b) (fun b=>(.slice at1 (psAt p.p k).s.length ct1:Value).ownBlock=some b) (fun b=>(.slice av1 (psAt p.p k).x.length cv1:Value).ownBlock=some b)))):=GV.out.snocPs B_119.out (by omega) h7 h10 h11 (fun b hb=>yxz S_119.out b hb) (fun b hb=>yxz T_119.out b hb) (fun b hb=>yxz A_119.out b hb) (fun b x y=>by have:=HLS.out b x;have:=HLT.out b y;omega) (fun b x y=>by have:=HLS.out b x;have:=HLA.out b y;omega) (fun b x y=>by have:=HLT.out b x;have:=HLA.out b y;omega) hown hgrow hnew
            have TuN:=yvi ((TuV.out.belowT (B_119.out.mono (by omega))).grownNew hgrow (fun b e=>(HVE.out b e).2))
            have X_121:=yvi (X_119.out.turns hgt (fun e=>by have:=HVE.out _ e;omega))
            have PB_121:=yvi (PB_119.out.turns hgt (fun e=>by have:=HVE.out _ e;omega))
            clear B_119 X_119 PB_119 S_119 T_119 A_119 NB_119
            clear hown hgrow hnew hgt h7 h10 h11
            have Q_121:=yzt X_121.out PB_121.out
            refine hK.out _ _ Q_121.out (fun hHeld=> ?_)
            clear hK K
            try simp only [Act.put,q1,q2,q3]
            refine yyr 17 {dst:=some 48,op:=Op.fieldAddr 97 (Operand.tmp 3) 2,type:=0,pos:=_,after:=_,guard:=none} (.pointer (some ⟨Pb,4,none⟩)) ?_
            try simp only [Act.put,q1,q2,q3]
            refine yfb (rs:= [18]) (by kernel_rfl) (by simp) ?_
            refine AllReadyZ.last (o:= {dst:=none,op:=Op.store 95 (Operand.tmp 48) (Operand.tmp 47),type:=0,pos:=_,after:=_,guard:=none}) rfl (fun K hK=> ?_)
            have q4:=PB_121.out.cell (i:=4) rfl
            have qf:=PB_121.out.free
            go_simp
            clear qf q4
            refine hK.out _ _ ?_
            clear hK K
            try simp only [Act.put,q1,q2,q3]
            refine yx2 (by kernel_rfl) ?_ _
            obtain⟨X5,hX5⟩:∃X5,w120.setCell ⟨Pb,4,none⟩ (.slice ap3 (k+1) cp3)=X5:=⟨_,rfl⟩
            have hP5:=PB_121.out.put 4 (.slice ap3 (k+1) cp3)
            have ht5:=yag w120 Pb 4 (.slice ap3 (k+1) cp3)
            rw [hX5]at hP5 ht5⊢
            clear hX5
            have HP5:=yvi hP5
            have HG5:=HGN.out.low ht5 (fun b hb e=>by omega)
            have HT5:=TuN.out.trans ht5
            clear hP5 ht5 HGN TuN
            have HG6:Hid _:=HG5
            have HT6:Hid _:=HT5
            clear HG5 HT5
            go_wp2
            go_roundw
            case rel=>exact⟨k+1,_,_,_,by omega,by go_num,HG6.out,HP5.out,HT6.out⟩
            case measure=>simp [intOf];omega
          · have hs8:V0.heap.size≤w106.heap.size:=B_107.out.size
            obtain⟨g8,hg8⟩:∃g,g=w106.heap.size:=⟨_,rfl⟩
            obtain⟨w112,hw112⟩:∃V,w106.alloc (.cells #[] 166)=V:=⟨_,rfl⟩
            have HW112:=yvi hw112
            have HG8:=yvi hg8
            have B_113:Hid (Below V0.heap.size V0 w112):=by(rw [←hw112];exact B_107.out.alloc B_107.out.size _)
            have X_113:Hid (Bk w112 Eb 172 #[.int .i64 (psAt p.p k).e.t,.int .i64 (psAt p.p k).e.s,.int .i64 (psAt p.p k).e.q,.int .i64 (psAt p.p k).e.d,.int .i64 (psAt p.p k).e.k,.int .i64 (psAt p.p k).e.v,.int .i64 (psAt p.p k).e.g,.slice f7 (psAt p.p k).b.r.length g7,.int .i64 (psAt p.p k).b.q,.int .i64 (psAt p.p k).b.d,.slice f10 (psAt p.p k).s.length g10,.slice f11 (psAt p.p k).x.length g11]):=by(rw [←hw112];exact X_107.out.alloc _)
            have PB_113:Hid (Bk w112 Pb 97 #[.int .i64 p.n,.slice ar p.st.r.length cr,.int .i64 p.st.q,.int .i64 p.st.d,.slice ap k cp,.slice at0 p.t.length ct,.slice aa p.a.length ca]):=by(rw [←hw112];exact PB_107.out.alloc _)
            have D10_113:Hid (IsD w112 (.slice f10 (psAt p.p k).s.length g10) (evsD (psAt p.p k).s)):=by(rw [←hw112];exact D10_107.out.under ((Below.refl _ _).alloc (Nat.le_refl _) _))
            have D11_113:Hid (IsD w112 (.slice f11 (psAt p.p k).x.length g11) (emsD (psAt p.p k).x)):=by(rw [←hw112];exact D11_107.out.under ((Below.refl _ _).alloc (Nat.le_refl _) _))
            have S_113:Hid (w112.ownsRow V0.heap.size 3 1 (.slice as1 (psAt p.p k).b.r.length cs1) (psAt p.p k).b.r.length (intCells (psAt p.p k).b.r)):=by(rw [←hw112];exact S_107.out.alloc _)
            clear B_107 X_107 PB_107 D10_107 D11_107 S_107
            have E_113:Hid (w112.ownsRow V0.heap.size 166 3 (.slice (some ⟨g8,0,none⟩) 0 0) 0 []):=by(rw [←hw112,hg8];exact yw0 (yx8 w106 166 3) hs8)
            have hz112:g8<w112.heap.size:=by(rw [←hw112,hg8];exact(Bk.new w106 166 #[]).lt)
            have hzy112:w106.heap.size≤g8∧g8≤w106.heap.size:=by omega
            clear hw112 hg8
            go_simp
            rw [HW112.out,←HG8.out]
            have Q_113:=yzt X_113.out PB_113.out
            refine hK.out _ _ Q_113.out (fun hHeld=> ?_)
            clear hK K
            try simp only [Act.put,q1,q2,q3]
            refine yfb (rs:= [9]) (by kernel_rfl) (by simp) ?_
            refine AllReadyZ.cons (o:= {dst:=some 40,op:=Op.call {callee:=Callee.value (Operand.func 106),args:= #[Operand.tmp 39],argTypes:= #[34]},type:=34,pos:=_,after:=_,guard:=none}) rfl (fun K hK=> ?_) AllReadyZ.nil
            have hbs122:V0.heap.size≤w112.heap.size:=B_113.out.size
            go_simp
            refine(yyc _ (psAt p.p k).s w112 hqs1 D10_113.out.srcEv).mono ?_
            rintro e w122 ⟨vt,rfl,hown,hb⟩
            obtain⟨at1,ct1,hvt⟩:=yfm hown
            subst hvt
            have HLT:Hid (∀k',(.slice at1 (psAt p.p k).s.length ct1:Value).ownBlock=some k'→w112.heap.size≤k'∧k'<w122.heap.size):=yxz hown
            have hz122:w112.heap.size≤w122.heap.size:=hb.size
            have B_123:=trh B_113 hb
            have X_123:=yvi (X_113.out.below hb)
            have PB_123:=yvi (PB_113.out.below hb)
            have D11_123:=yvi (D11_113.out.under hb)
            have S_123:=yvi (ypa S_113.out (Turns.of_below hb) (fun _ _=>id))
            have E_123:=yvi (ypa E_113.out (Turns.of_below hb) (fun _ _=>id))
            clear B_113 X_113 PB_113 D10_113 D11_113 S_113 E_113
            have T_123:=yvi (yw0 hown hbs122)
            clear hown hb
            have Q_123:=yzt X_123.out PB_123.out
            refine hK.out _ _ Q_123.out (fun hHeld=> ?_)
            clear hK K
            try simp only [Act.put,q1,q2,q3]
            refine yfb (rs:= [13]) (by kernel_rfl) (by simp) ?_
            refine AllReadyZ.cons (o:= {dst:=some 44,op:=Op.call {callee:=Callee.builtin Builtin.append,args:= #[Operand.tmp 41,Operand.tmp 43],argTypes:= #[39,39]},type:=39,pos:=_,after:=_,guard:=none}) rfl (fun K hK=> ?_) AllReadyZ.nil
            refine ywl (w:=w122) rfl (.tmp 41) (.tmp 43) 39 rfl V0.heap.size 166 ix (.agg #[.int .i64 0,.int .i64 0,.int .i64 0]) 3 24 Tryz.underlying39 hix hix0 hix1 hix2 rfl (by decide) (.slice (some ⟨g8,0,none⟩) 0 0) 0 [] rfl E_123.out (.slice f11 (psAt p.p k).x.length g11) (psAt p.p k).x.length (ywm (psAt p.p k).x) rfl D11_123.out.srcX (yyz _) (by unfold maxLen;omega) (by omega) B_123.out.size ?_
            intro va w124 hown hgrow hnew
            rw [Nat.zero_add,List.nil_append]at hown
            obtain⟨av1,cv1,hva⟩:=yfm hown
            subst hva
            have HLA:Hid (∀k',(.slice av1 (psAt p.p k).x.length cv1:Value).ownBlock=some k'→k'=g8∨(w122.heap.size≤k'∧k'<w124.heap.size)):=zdk hnew rfl hown
            have hz124:w122.heap.size≤w124.heap.size:=hgrow.size
            have hgt:=yw9 hgrow
            have hS8:∀k',(Value.slice (some ⟨g8,0,none⟩) 0 0).ownBlock=some k'→k'=g8:=fun k' e=>by simpa [Value.ownBlock] using e.symm
            have B_125:=yvi (B_123.out.grown hgrow B_123.out.size (fun k' e=>by have:=hS8 k' e;omega))
            have X_125:=yvi (X_123.out.turns hgt (fun e=>by have:=hS8 _ e;omega))
            have PB_125:=yvi (PB_123.out.turns hgt (fun e=>by have:=hS8 _ e;omega))
            have S_125:=yvi (ypa S_123.out hgt (fun k' hk e=>by have:=hS8 k' e;have:=HLS.out k' hk;omega))
            have T_125:=yvi (ypa T_123.out hgt (fun k' hk e=>by have:=hS8 k' e;have:=HLT.out k' hk;omega))
            clear B_123 X_123 PB_123 D11_123 S_123 E_123 T_123
            have A_125:=yvi hown
            clear hown hgrow hnew hgt hS8
            have Q_125:=yzt X_125.out PB_125.out
            refine hK.out _ _ Q_125.out (fun hHeld=> ?_)
            clear hK K
            try simp only [Act.put,q1,q2,q3]
            refine yyr 14 {dst:=some 45,op:=Op.build 172 #[(0,Operand.tmp 34),(1,Operand.tmp 37),(2,Operand.tmp 40),(3,Operand.tmp 44)],type:=172,pos:=_,after:=_,guard:=none} (.agg #[.int .i64 (psAt p.p k).e.t,.int .i64 (psAt p.p k).e.s,.int .i64 (psAt p.p k).e.q,.int .i64 (psAt p.p k).e.d,.int .i64 (psAt p.p k).e.k,.int .i64 (psAt p.p k).e.v,.int .i64 (psAt p.p k).e.g,.slice as1 (psAt p.p k).b.r.length cs1,.int .i64 (psAt p.p k).b.q,.int .i64 (psAt p.p k).b.d,.slice at1 (psAt p.p k).s.length ct1,.slice av1 (psAt p.p k).x.length cv1]) ?_
            try simp only [Act.put,q1,q2,q3]
            refine yfb (rs:= [15]) (by kernel_rfl) (by simp) ?_
            refine AllReadyZ.cons (o:= {dst:=some 46,op:=Op.buildSlice 95 1 #[(0,Operand.tmp 45)],type:=95,pos:=_,after:=_,guard:=none}) rfl (fun K hK=> ?_) AllReadyZ.nil
            obtain⟨Nb,hNb⟩:∃g,g=w124.heap.size:=⟨_,rfl⟩
            obtain⟨w126,hw126⟩:∃V,w124.alloc (.cells #[.int .i64 (psAt p.p k).e.t,.int .i64 (psAt p.p k).e.s,.int .i64 (psAt p.p k).e.q,.int .i64 (psAt p.p k).e.d,.int .i64 (psAt p.p k).e.k,.int .i64 (psAt p.p k).e.v,.int .i64 (psAt p.p k).e.g,.slice as1 (psAt p.p k).b.r.length cs1,.int .i64 (psAt p.p k).b.q,.int .i64 (psAt p.p k).b.d,.slice at1 (psAt p.p k).s.length ct1,.slice av1 (psAt p.p k).x.length cv1] 172)=V:=⟨_,rfl⟩
            have HW126:=yvi hw126
            have HNb:=yvi hNb
            have hs126:V0.heap.size≤w124.heap.size:=B_125.out.size
            have B_127:Hid (Below V0.heap.size V0 w126):=by(rw [←hw126];exact B_125.out.alloc B_125.out.size _)
            have X_127:Hid (Bk w126 Eb 172 #[.int .i64 (psAt p.p k).e.t,.int .i64 (psAt p.p k).e.s,.int .i64 (psAt p.p k).e.q,.int .i64 (psAt p.p k).e.d,.int .i64 (psAt p.p k).e.k,.int .i64 (psAt p.p k).e.v,.int .i64 (psAt p.p k).e.g,.slice f7 (psAt p.p k).b.r.length g7,.int .i64 (psAt p.p k).b.q,.int .i64 (psAt p.p k).b.d,.slice f10 (psAt p.p k).s.length g10,.slice f11 (psAt p.p k).x.length g11]):=by(rw [←hw126];exact X_125.out.alloc _)
            have PB_127:Hid (Bk w126 Pb 97 #[.int .i64 p.n,.slice ar p.st.r.length cr,.int .i64 p.st.q,.int .i64 p.st.d,.slice ap k cp,.slice at0 p.t.length ct,.slice aa p.a.length ca]):=by(rw [←hw126];exact PB_125.out.alloc _)
            have S_127:Hid (w126.ownsRow V0.heap.size 3 1 (.slice as1 (psAt p.p k).b.r.length cs1) (psAt p.p k).b.r.length (intCells (psAt p.p k).b.r)):=by(rw [←hw126];exact S_125.out.alloc _)
            have T_127:Hid (w126.ownsRow V0.heap.size 90 7 (.slice at1 (psAt p.p k).s.length ct1) (psAt p.p k).s.length (yvz (psAt p.p k).s)):=by(rw [←hw126];exact T_125.out.alloc _)
            have A_127:Hid (w126.ownsRow V0.heap.size 166 3 (.slice av1 (psAt p.p k).x.length cv1) (psAt p.p k).x.length (ywm (psAt p.p k).x)):=by(rw [←hw126];exact A_125.out.alloc _)
            clear B_125 X_125 PB_125 S_125 T_125 A_125
            have NB_127:Hid (Bk w126 Nb 172 #[.int .i64 (psAt p.p k).e.t,.int .i64 (psAt p.p k).e.s,.int .i64 (psAt p.p k).e.q,.int .i64 (psAt p.p k).e.d,.int .i64 (psAt p.p k).e.k,.int .i64 (psAt p.p k).e.v,.int .i64 (psAt p.p k).e.g,.slice as1 (psAt p.p k).b.r.length cs1,.int .i64 (psAt p.p k).b.q,.int .i64 (psAt p.p k).b.d,.slice at1 (psAt p.p k).s.length ct1,.slice av1 (psAt p.p k).x.length cv1]):=by(rw [←hw126];exact hNb▸Bk.new w124 _ _)
            have hz126:Nb<w126.heap.size:=NB_127.out.lt
            have hzy126:w124.heap.size≤Nb∧Nb≤w124.heap.size:=by omega
            clear hw126 hNb
            go_simp
            rw [HW126.out,←HNb.out]
            have Q_127:=yzt X_127.out PB_127.out
            refine hK.out _ _ Q_127.out (fun hHeld=> ?_)
            clear hK K
            try simp only [Act.put,q1,q2,q3]
            refine yfb (rs:= [16]) (by kernel_rfl) (by simp) ?_
            refine AllReadyZ.cons (o:= {dst:=some 47,op:=Op.call {callee:=Callee.builtin Builtin.append,args:= #[Operand.tmp 32,Operand.tmp 46],argTypes:= #[95,95]},type:=95,pos:=_,after:=_,guard:=none}) rfl (fun K hK=> ?_) AllReadyZ.nil
            have hbs128:V0.heap.size≤w126.heap.size:=B_127.out.size
            refine yym (w:=w126) rfl (.tmp 32) (.tmp 46) 95 rfl Wc.heap.size 172 ip _ 12 144 Tryz.underlying95 hip hip0 hip1 hip2 rfl (by decide) (.slice ap k cp) k cs rfl (GV.out.below B_127.out).row ⟨Nb,0,none⟩ 1 1 (pastL (psAt p.p k) (.slice as1 (psAt p.p k).b.r.length cs1) (.slice at1 (psAt p.p k).s.length ct1) (.slice av1 (psAt p.p k).x.length cv1)) rfl rfl NB_127.out.src (by simp [pastL,Value.oneCell']) (by unfold maxLen;omega) (by omega) (by omega) ?_
            intro vn w128 hown hgrow hnew
            obtain⟨ap3,cp3,hvn⟩:=yfm hown
            subst hvn
            have hgt:=yw9 hgrow
            have h7:OwnD w126 (fun b=>(.slice as1 (psAt p.p k).b.r.length cs1:Value).ownBlock=some b) (.slice as1 (psAt p.p k).b.r.length cs1) (ywr (psAt p.p k).b.r):=(yxq (by rw [yws];omega) S_127.out).own
            have h10:OwnD w126 (fun b=>(.slice at1 (psAt p.p k).s.length ct1:Value).ownBlock=some b) (.slice at1 (psAt p.p k).s.length ct1) (evsD (psAt p.p k).s):=(yxq (ywc _) T_127.out).own
            have h11:OwnD w126 (fun b=>(.slice av1 (psAt p.p k).x.length cv1:Value).ownBlock=some b) (.slice av1 (psAt p.p k).x.length cv1) (emsD (psAt p.p k).x):=(yxq (yxd _) A_127.out).own
            have HGN:Hid (GrowD Wc.heap.size 172 w128 (.slice ap3 (k+1) cp3) 12 (k+1) (cs++pastL (psAt p.p k) (.slice as1 (psAt p.p k).b.r.length cs1) (.slice at1 (psAt p.p k).s.length ct1) (.slice av1 (psAt p.p k).x.length cv1)) (ydq p.p) (zdl (k*12) G (zf5 (fun b=>(.slice as1 (psAt p.p k).b.r.length cs1:Value).ownBlock=some b) (fun b=>(.slice at1 (psAt p.p k).s.length ct1:Value).ownBlock=some b) (fun b=>(.slice av1 (psAt p.p k).x.length cv1:Value).ownBlock=some b)))):=GV.out.snocPs B_127.out (by omega) h7 h10 h11 (fun b hb=>yxz S_127.out b hb) (fun b hb=>yxz T_127.out b hb) (fun b hb=>yxz A_127.out b hb) (fun b x y=>by have:=HLS.out b x;have:=HLT.out b y;omega) (fun b x y=>by have:=HLS.out b x;have:=HLA.out b y;omega) (fun b x y=>by have:=HLT.out b x;have:=HLA.out b y;omega) hown hgrow hnew
            have TuN:=yvi ((TuV.out.belowT (B_127.out.mono (by omega))).grownNew hgrow (fun b e=>(HVE.out b e).2))
            have X_129:=yvi (X_127.out.turns hgt (fun e=>by have:=HVE.out _ e;omega))
            have PB_129:=yvi (PB_127.out.turns hgt (fun e=>by have:=HVE.out _ e;omega))
            clear B_127 X_127 PB_127 S_127 T_127 A_127 NB_127
            clear hown hgrow hnew hgt h7 h10 h11
            have Q_129:=yzt X_129.out PB_129.out
            refine hK.out _ _ Q_129.out (fun hHeld=> ?_)
            clear hK K
            try simp only [Act.put,q1,q2,q3]
            refine yyr 17 {dst:=some 48,op:=Op.fieldAddr 97 (Operand.tmp 3) 2,type:=0,pos:=_,after:=_,guard:=none} (.pointer (some ⟨Pb,4,none⟩)) ?_
            try simp only [Act.put,q1,q2,q3]
            refine yfb (rs:= [18]) (by kernel_rfl) (by simp) ?_
            refine AllReadyZ.last (o:= {dst:=none,op:=Op.store 95 (Operand.tmp 48) (Operand.tmp 47),type:=0,pos:=_,after:=_,guard:=none}) rfl (fun K hK=> ?_)
            have q4:=PB_129.out.cell (i:=4) rfl
            have qf:=PB_129.out.free
            go_simp
            clear qf q4
            refine hK.out _ _ ?_
            clear hK K
            try simp only [Act.put,q1,q2,q3]
            refine yx2 (by kernel_rfl) ?_ _
            obtain⟨X5,hX5⟩:∃X5,w128.setCell ⟨Pb,4,none⟩ (.slice ap3 (k+1) cp3)=X5:=⟨_,rfl⟩
            have hP5:=PB_129.out.put 4 (.slice ap3 (k+1) cp3)
            have ht5:=yag w128 Pb 4 (.slice ap3 (k+1) cp3)
            rw [hX5]at hP5 ht5⊢
            clear hX5
            have HP5:=yvi hP5
            have HG5:=HGN.out.low ht5 (fun b hb e=>by omega)
            have HT5:=TuN.out.trans ht5
            clear hP5 ht5 HGN TuN
            have HG6:Hid _:=HG5
            have HT6:Hid _:=HT5
            clear HG5 HT5
            go_wp2
            go_roundw
            case rel=>exact⟨k+1,_,_,_,by omega,by go_num,HG6.out,HP5.out,HT6.out⟩
            case measure=>simp [intOf];omega
        · have hs8:V0.heap.size≤V0.drew.heap.size:=B_105.out.size
          obtain⟨g8,hg8⟩:∃g,g=V0.heap.size:=⟨_,rfl⟩
          obtain⟨w108,hw108⟩:∃V,(V0.alloc (.cells #[] 166)).drew=V:=⟨_,rfl⟩
          have HW108:=yvi hw108
          have HG8:Hid (g8=V0.heap.size):=hg8
          have B_109:Hid (Below V0.heap.size V0 w108):=by(rw [←hw108];exact B_105.out.alloc B_105.out.size _)
          have X_109:Hid (Bk w108 Eb 172 #[.int .i64 (psAt p.p k).e.t,.int .i64 (psAt p.p k).e.s,.int .i64 (psAt p.p k).e.q,.int .i64 (psAt p.p k).e.d,.int .i64 (psAt p.p k).e.k,.int .i64 (psAt p.p k).e.v,.int .i64 (psAt p.p k).e.g,.slice f7 (psAt p.p k).b.r.length g7,.int .i64 (psAt p.p k).b.q,.int .i64 (psAt p.p k).b.d,.slice f10 (psAt p.p k).s.length g10,.slice f11 (psAt p.p k).x.length g11]):=by(rw [←hw108];exact X_105.out.alloc _)
          have PB_109:Hid (Bk w108 Pb 97 #[.int .i64 p.n,.slice ar p.st.r.length cr,.int .i64 p.st.q,.int .i64 p.st.d,.slice ap k cp,.slice at0 p.t.length ct,.slice aa p.a.length ca]):=by(rw [←hw108];exact PB_105.out.alloc _)
          have D7_109:Hid (IsD w108 (.slice f7 (psAt p.p k).b.r.length g7) (ywr (psAt p.p k).b.r)):=by(rw [←hw108];exact D7_105.out.under ((Below.refl _ _).alloc (Nat.le_refl _) _))
          have D10_109:Hid (IsD w108 (.slice f10 (psAt p.p k).s.length g10) (evsD (psAt p.p k).s)):=by(rw [←hw108];exact D10_105.out.under ((Below.refl _ _).alloc (Nat.le_refl _) _))
          have D11_109:Hid (IsD w108 (.slice f11 (psAt p.p k).x.length g11) (emsD (psAt p.p k).x)):=by(rw [←hw108];exact D11_105.out.under ((Below.refl _ _).alloc (Nat.le_refl _) _))
          clear B_105 X_105 PB_105 D7_105 D10_105 D11_105
          have E_109:Hid (w108.ownsRow V0.heap.size 166 3 (.slice (some ⟨g8,0,none⟩) 0 0) 0 []):=by(rw [←hw108,hg8];exact yw0 (yx8 V0 166 3) hs8)
          have hz108:g8<w108.heap.size:=by(rw [←hw108,hg8];exact(Bk.new V0 166 #[]).lt)
          have hzy108:V0.heap.size≤g8∧g8≤V0.heap.size:=by omega
          clear hw108 hg8
          go_simp
          rw [HW108.out,←HG8.out]
          have Q_109:=yzt X_109.out PB_109.out
          refine hK.out _ _ Q_109.out (fun hHeld=> ?_)
          clear hK K
          try simp only [Act.put,q1,q2,q3]
          refine yfb (rs:= [6]) (by kernel_rfl) (by simp) ?_
          refine AllReadyZ.cons (o:= {dst:=some 37,op:=Op.call {callee:=Callee.value (Operand.func 179),args:= #[Operand.tmp 36],argTypes:= #[94]},type:=94,pos:=_,after:=_,guard:=none}) rfl (fun K hK=> ?_) AllReadyZ.nil
          have hbs130:V0.heap.size≤w108.heap.size:=B_109.out.size
          go_simp
          refine(zep _ _ (psAt p.p k).b w108 hqr1 rfl D7_109.out).mono ?_
          rintro e w130 ⟨vs1,rfl,hown,hb⟩
          obtain⟨as1,cs1,hvs⟩:=yfm hown
          subst hvs
          have HLS:Hid (∀k',(.slice as1 (psAt p.p k).b.r.length cs1:Value).ownBlock=some k'→w108.heap.size≤k'∧k'<w130.heap.size):=yxz hown
          have hz130:w108.heap.size≤w130.heap.size:=hb.size
          have B_131:=trh B_109 hb
          have X_131:=yvi (X_109.out.below hb)
          have PB_131:=yvi (PB_109.out.below hb)
          have D10_131:=yvi (D10_109.out.under hb)
          have D11_131:=yvi (D11_109.out.under hb)
          have E_131:=yvi (ypa E_109.out (Turns.of_below hb) (fun _ _=>id))
          clear B_109 X_109 PB_109 D7_109 D10_109 D11_109 E_109
          have S_131:=yvi (yw0 hown hbs130)
          clear hown hb
          have Q_131:=yzt X_131.out PB_131.out
          refine hK.out _ _ Q_131.out (fun hHeld=> ?_)
          clear hK K
          try simp only [Act.put,q1,q2,q3]
          refine yfb (rs:= [9]) (by kernel_rfl) (by simp) ?_
          refine AllReadyZ.cons (o:= {dst:=some 40,op:=Op.call {callee:=Callee.value (Operand.func 106),args:= #[Operand.tmp 39],argTypes:= #[34]},type:=34,pos:=_,after:=_,guard:=none}) rfl (fun K hK=> ?_) AllReadyZ.nil
          have hbs132:V0.heap.size≤w130.heap.size:=B_131.out.size
          go_simp
          refine(yyc _ (psAt p.p k).s w130 hqs1 D10_131.out.srcEv).mono ?_
          rintro e w132 ⟨vt,rfl,hown,hb⟩
          obtain⟨at1,ct1,hvt⟩:=yfm hown
          subst hvt
          have HLT:Hid (∀k',(.slice at1 (psAt p.p k).s.length ct1:Value).ownBlock=some k'→w130.heap.size≤k'∧k'<w132.heap.size):=yxz hown
          have hz132:w130.heap.size≤w132.heap.size:=hb.size
          have B_133:=trh B_131 hb
          have X_133:=yvi (X_131.out.below hb)
          have PB_133:=yvi (PB_131.out.below hb)
          have D11_133:=yvi (D11_131.out.under hb)
          have E_133:=yvi (ypa E_131.out (Turns.of_below hb) (fun _ _=>id))
          have S_133:=yvi (ypa S_131.out (Turns.of_below hb) (fun _ _=>id))
          clear B_131 X_131 PB_131 D10_131 D11_131 E_131 S_131
          have T_133:=yvi (yw0 hown hbs132)
          clear hown hb
          have Q_133:=yzt X_133.out PB_133.out
          refine hK.out _ _ Q_133.out (fun hHeld=> ?_)
          clear hK K
          try simp only [Act.put,q1,q2,q3]
          refine yfb (rs:= [13]) (by kernel_rfl) (by simp) ?_
          refine AllReadyZ.cons (o:= {dst:=some 44,op:=Op.call {callee:=Callee.builtin Builtin.append,args:= #[Operand.tmp 41,Operand.tmp 43],argTypes:= #[39,39]},type:=39,pos:=_,after:=_,guard:=none}) rfl (fun K hK=> ?_) AllReadyZ.nil
          refine ywl (w:=w132) rfl (.tmp 41) (.tmp 43) 39 rfl V0.heap.size 166 ix (.agg #[.int .i64 0,.int .i64 0,.int .i64 0]) 3 24 Tryz.underlying39 hix hix0 hix1 hix2 rfl (by decide) (.slice (some ⟨g8,0,none⟩) 0 0) 0 [] rfl E_133.out (.slice f11 (psAt p.p k).x.length g11) (psAt p.p k).x.length (ywm (psAt p.p k).x) rfl D11_133.out.srcX (yyz _) (by unfold maxLen;omega) (by omega) B_133.out.size ?_
          intro va w134 hown hgrow hnew
          rw [Nat.zero_add,List.nil_append]at hown
          obtain⟨av1,cv1,hva⟩:=yfm hown
          subst hva
          have HLA:Hid (∀k',(.slice av1 (psAt p.p k).x.length cv1:Value).ownBlock=some k'→k'=g8∨(w132.heap.size≤k'∧k'<w134.heap.size)):=zdk hnew rfl hown
          have hz134:w132.heap.size≤w134.heap.size:=hgrow.size
          have hgt:=yw9 hgrow
          have hS8:∀k',(Value.slice (some ⟨g8,0,none⟩) 0 0).ownBlock=some k'→k'=g8:=fun k' e=>by simpa [Value.ownBlock] using e.symm
          have B_135:=yvi (B_133.out.grown hgrow B_133.out.size (fun k' e=>by have:=hS8 k' e;omega))
          have X_135:=yvi (X_133.out.turns hgt (fun e=>by have:=hS8 _ e;omega))
          have PB_135:=yvi (PB_133.out.turns hgt (fun e=>by have:=hS8 _ e;omega))
          have S_135:=yvi (ypa S_133.out hgt (fun k' hk e=>by have:=hS8 k' e;have:=HLS.out k' hk;omega))
          have T_135:=yvi (ypa T_133.out hgt (fun k' hk e=>by have:=hS8 k' e;have:=HLT.out k' hk;omega))
          clear B_133 X_133 PB_133 D11_133 E_133 S_133 T_133
          have A_135:=yvi hown
          clear hown hgrow hnew hgt hS8
          have Q_135:=yzt X_135.out PB_135.out
          refine hK.out _ _ Q_135.out (fun hHeld=> ?_)
          clear hK K
          try simp only [Act.put,q1,q2,q3]
          refine yyr 14 {dst:=some 45,op:=Op.build 172 #[(0,Operand.tmp 34),(1,Operand.tmp 37),(2,Operand.tmp 40),(3,Operand.tmp 44)],type:=172,pos:=_,after:=_,guard:=none} (.agg #[.int .i64 (psAt p.p k).e.t,.int .i64 (psAt p.p k).e.s,.int .i64 (psAt p.p k).e.q,.int .i64 (psAt p.p k).e.d,.int .i64 (psAt p.p k).e.k,.int .i64 (psAt p.p k).e.v,.int .i64 (psAt p.p k).e.g,.slice as1 (psAt p.p k).b.r.length cs1,.int .i64 (psAt p.p k).b.q,.int .i64 (psAt p.p k).b.d,.slice at1 (psAt p.p k).s.length ct1,.slice av1 (psAt p.p k).x.length cv1]) ?_
          try simp only [Act.put,q1,q2,q3]
          refine yfb (rs:= [15]) (by kernel_rfl) (by simp) ?_
          refine AllReadyZ.cons (o:= {dst:=some 46,op:=Op.buildSlice 95 1 #[(0,Operand.tmp 45)],type:=95,pos:=_,after:=_,guard:=none}) rfl (fun K hK=> ?_) AllReadyZ.nil
          obtain⟨Nb,hNb⟩:∃g,g=w134.heap.size:=⟨_,rfl⟩
          obtain⟨w136,hw136⟩:∃V,w134.alloc (.cells #[.int .i64 (psAt p.p k).e.t,.int .i64 (psAt p.p k).e.s,.int .i64 (psAt p.p k).e.q,.int .i64 (psAt p.p k).e.d,.int .i64 (psAt p.p k).e.k,.int .i64 (psAt p.p k).e.v,.int .i64 (psAt p.p k).e.g,.slice as1 (psAt p.p k).b.r.length cs1,.int .i64 (psAt p.p k).b.q,.int .i64 (psAt p.p k).b.d,.slice at1 (psAt p.p k).s.length ct1,.slice av1 (psAt p.p k).x.length cv1] 172)=V:=⟨_,rfl⟩
          have HW136:=yvi hw136
          have HNb:=yvi hNb
          have hs136:V0.heap.size≤w134.heap.size:=B_135.out.size
          have B_137:Hid (Below V0.heap.size V0 w136):=by(rw [←hw136];exact B_135.out.alloc B_135.out.size _)
          have X_137:Hid (Bk w136 Eb 172 #[.int .i64 (psAt p.p k).e.t,.int .i64 (psAt p.p k).e.s,.int .i64 (psAt p.p k).e.q,.int .i64 (psAt p.p k).e.d,.int .i64 (psAt p.p k).e.k,.int .i64 (psAt p.p k).e.v,.int .i64 (psAt p.p k).e.g,.slice f7 (psAt p.p k).b.r.length g7,.int .i64 (psAt p.p k).b.q,.int .i64 (psAt p.p k).b.d,.slice f10 (psAt p.p k).s.length g10,.slice f11 (psAt p.p k).x.length g11]):=by(rw [←hw136];exact X_135.out.alloc _)
          have PB_137:Hid (Bk w136 Pb 97 #[.int .i64 p.n,.slice ar p.st.r.length cr,.int .i64 p.st.q,.int .i64 p.st.d,.slice ap k cp,.slice at0 p.t.length ct,.slice aa p.a.length ca]):=by(rw [←hw136];exact PB_135.out.alloc _)
          have S_137:Hid (w136.ownsRow V0.heap.size 3 1 (.slice as1 (psAt p.p k).b.r.length cs1) (psAt p.p k).b.r.length (intCells (psAt p.p k).b.r)):=by(rw [←hw136];exact S_135.out.alloc _)
          have T_137:Hid (w136.ownsRow V0.heap.size 90 7 (.slice at1 (psAt p.p k).s.length ct1) (psAt p.p k).s.length (yvz (psAt p.p k).s)):=by(rw [←hw136];exact T_135.out.alloc _)
          have A_137:Hid (w136.ownsRow V0.heap.size 166 3 (.slice av1 (psAt p.p k).x.length cv1) (psAt p.p k).x.length (ywm (psAt p.p k).x)):=by(rw [←hw136];exact A_135.out.alloc _)
          clear B_135 X_135 PB_135 S_135 T_135 A_135
          have NB_137:Hid (Bk w136 Nb 172 #[.int .i64 (psAt p.p k).e.t,.int .i64 (psAt p.p k).e.s,.int .i64 (psAt p.p k).e.q,.int .i64 (psAt p.p k).e.d,.int .i64 (psAt p.p k).e.k,.int .i64 (psAt p.p k).e.v,.int .i64 (psAt p.p k).e.g,.slice as1 (psAt p.p k).b.r.length cs1,.int .i64 (psAt p.p k).b.q,.int .i64 (psAt p.p k).b.d,.slice at1 (psAt p.p k).s.length ct1,.slice av1 (psAt p.p k).x.length cv1]):=by(rw [←hw136];exact hNb▸Bk.new w134 _ _)
          have hz136:Nb<w136.heap.size:=NB_137.out.lt
          have hzy136:w134.heap.size≤Nb∧Nb≤w134.heap.size:=by omega
          clear hw136 hNb
          go_simp
          rw [HW136.out,←HNb.out]
          have Q_137:=yzt X_137.out PB_137.out
          refine hK.out _ _ Q_137.out (fun hHeld=> ?_)
          clear hK K
          try simp only [Act.put,q1,q2,q3]
          refine yfb (rs:= [16]) (by kernel_rfl) (by simp) ?_
          refine AllReadyZ.cons (o:= {dst:=some 47,op:=Op.call {callee:=Callee.builtin Builtin.append,args:= #[Operand.tmp 32,Operand.tmp 46],argTypes:= #[95,95]},type:=95,pos:=_,after:=_,guard:=none}) rfl (fun K hK=> ?_) AllReadyZ.nil
          have hbs138:V0.heap.size≤w136.heap.size:=B_137.out.size
          refine yym (w:=w136) rfl (.tmp 32) (.tmp 46) 95 rfl Wc.heap.size 172 ip _ 12 144 Tryz.underlying95 hip hip0 hip1 hip2 rfl (by decide) (.slice ap k cp) k cs rfl (GV.out.below B_137.out).row ⟨Nb,0,none⟩ 1 1 (pastL (psAt p.p k) (.slice as1 (psAt p.p k).b.r.length cs1) (.slice at1 (psAt p.p k).s.length ct1) (.slice av1 (psAt p.p k).x.length cv1)) rfl rfl NB_137.out.src (by simp [pastL,Value.oneCell']) (by unfold maxLen;omega) (by omega) (by omega) ?_
          intro vn w138 hown hgrow hnew
          obtain⟨ap3,cp3,hvn⟩:=yfm hown
          subst hvn
          have hgt:=yw9 hgrow
          have h7:OwnD w136 (fun b=>(.slice as1 (psAt p.p k).b.r.length cs1:Value).ownBlock=some b) (.slice as1 (psAt p.p k).b.r.length cs1) (ywr (psAt p.p k).b.r):=(yxq (by rw [yws];omega) S_137.out).own
          have h10:OwnD w136 (fun b=>(.slice at1 (psAt p.p k).s.length ct1:Value).ownBlock=some b) (.slice at1 (psAt p.p k).s.length ct1) (evsD (psAt p.p k).s):=(yxq (ywc _) T_137.out).own
          have h11:OwnD w136 (fun b=>(.slice av1 (psAt p.p k).x.length cv1:Value).ownBlock=some b) (.slice av1 (psAt p.p k).x.length cv1) (emsD (psAt p.p k).x):=(yxq (yxd _) A_137.out).own
          have HGN:Hid (GrowD Wc.heap.size 172 w138 (.slice ap3 (k+1) cp3) 12 (k+1) (cs++pastL (psAt p.p k) (.slice as1 (psAt p.p k).b.r.length cs1) (.slice at1 (psAt p.p k).s.length ct1) (.slice av1 (psAt p.p k).x.length cv1)) (ydq p.p) (zdl (k*12) G (zf5 (fun b=>(.slice as1 (psAt p.p k).b.r.length cs1:Value).ownBlock=some b) (fun b=>(.slice at1 (psAt p.p k).s.length ct1:Value).ownBlock=some b) (fun b=>(.slice av1 (psAt p.p k).x.length cv1:Value).ownBlock=some b)))):=GV.out.snocPs B_137.out (by omega) h7 h10 h11 (fun b hb=>yxz S_137.out b hb) (fun b hb=>yxz T_137.out b hb) (fun b hb=>yxz A_137.out b hb) (fun b x y=>by have:=HLS.out b x;have:=HLT.out b y;omega) (fun b x y=>by have:=HLS.out b x;have:=HLA.out b y;omega) (fun b x y=>by have:=HLT.out b x;have:=HLA.out b y;omega) hown hgrow hnew
          have TuN:=yvi ((TuV.out.belowT (B_137.out.mono (by omega))).grownNew hgrow (fun b e=>(HVE.out b e).2))
          have X_139:=yvi (X_137.out.turns hgt (fun e=>by have:=HVE.out _ e;omega))
          have PB_139:=yvi (PB_137.out.turns hgt (fun e=>by have:=HVE.out _ e;omega))
          clear B_137 X_137 PB_137 S_137 T_137 A_137 NB_137
          clear hown hgrow hnew hgt h7 h10 h11
          have Q_139:=yzt X_139.out PB_139.out
          refine hK.out _ _ Q_139.out (fun hHeld=> ?_)
          clear hK K
          try simp only [Act.put,q1,q2,q3]
          refine yyr 17 {dst:=some 48,op:=Op.fieldAddr 97 (Operand.tmp 3) 2,type:=0,pos:=_,after:=_,guard:=none} (.pointer (some ⟨Pb,4,none⟩)) ?_
          try simp only [Act.put,q1,q2,q3]
          refine yfb (rs:= [18]) (by kernel_rfl) (by simp) ?_
          refine AllReadyZ.last (o:= {dst:=none,op:=Op.store 95 (Operand.tmp 48) (Operand.tmp 47),type:=0,pos:=_,after:=_,guard:=none}) rfl (fun K hK=> ?_)
          have q4:=PB_139.out.cell (i:=4) rfl
          have qf:=PB_139.out.free
          go_simp
          clear qf q4
          refine hK.out _ _ ?_
          clear hK K
          try simp only [Act.put,q1,q2,q3]
          refine yx2 (by kernel_rfl) ?_ _
          obtain⟨X5,hX5⟩:∃X5,w138.setCell ⟨Pb,4,none⟩ (.slice ap3 (k+1) cp3)=X5:=⟨_,rfl⟩
          have hP5:=PB_139.out.put 4 (.slice ap3 (k+1) cp3)
          have ht5:=yag w138 Pb 4 (.slice ap3 (k+1) cp3)
          rw [hX5]at hP5 ht5⊢
          clear hX5
          have HP5:=yvi hP5
          have HG5:=HGN.out.low ht5 (fun b hb e=>by omega)
          have HT5:=TuN.out.trans ht5
          clear hP5 ht5 HGN TuN
          have HG6:Hid _:=HG5
          have HT6:Hid _:=HT5
          clear HG5 HT5
          go_wp2
          go_roundw
          case rel=>exact⟨k+1,_,_,_,by omega,by go_num,HG6.out,HP5.out,HT6.out⟩
          case measure=>simp [intOf];omega
      · obtain rfl:k=p.p.length:=by omega
        clear hlt hk
        obtain⟨z0,z1,z2,z3,z4,z5,z6⟩:=c7_7 HP.out
        have HZ:=yvi (BZ.out.keep HBr.out (by omega))
        obtain⟨y0,y1,y2,y3,y4,y5,y6⟩:=c7_7 HZ.out
        have yf:=HZ.out.free
        obtain⟨X5,hX5⟩:∃X5,put7s wr (w.heap.size+1) (.int .i64 p.n) (.slice ar p.st.r.length cr) (.int .i64 p.st.q) (.int .i64 p.st.d) (.slice ap p.p.length cp) (.slice at0 p.t.length ct) (.slice aa p.a.length ca)=X5:=⟨_,rfl⟩
        have hP5:=HZ.out.put7s (.int .i64 p.n) (.slice ar p.st.r.length cr) (.int .i64 p.st.q) (.int .i64 p.st.d) (.slice ap p.p.length cp) (.slice at0 p.t.length ct) (.slice aa p.a.length ca)
        have ht5:=yz7 wr (w.heap.size+1) (.int .i64 p.n) (.slice ar p.st.r.length cr) (.int .i64 p.st.q) (.int .i64 p.st.d) (.slice ap p.p.length cp) (.slice at0 p.t.length ct) (.slice aa p.a.length ca)
        rw [hX5]at hP5 ht5
        unfold put7s at hX5
        have HX5:Hid _:=hX5
        clear hX5
        have HP5:=yvi hP5
        have HT5:=yvi ht5
        clear hP5 ht5
        go_wp2
        rw [HX5.out]
        clear HX5 yf y0 z0 y1 z1 y2 z2 y3 z3 y4 z4 y5 z5 y6 z6
        obtain⟨y0,y1,y2,y3,y4,y5,y6⟩:=c7_7 HP5.out
        refine bodyPost_ret (v:= .agg #[.int .i64 p.n,.slice ar p.st.r.length cr,.int .i64 p.st.q,.int .i64 p.st.d,.slice ap p.p.length cp,.slice at0 p.t.length ct,.slice aa p.a.length ca]) (by simp [results,Tryz.results107,go_sem,y0,y1,y2,y3,y4,y5,y6]) rfl ?_
        have hTc:Turns (fun b=>b=Pb∨b=(w.heap.size+1)) Wc X5:=(HTu.out.sub (fun b e=> .inl e)).trans (HT5.out.sub (fun b e=> .inr e))
        have hsz5:Wc.heap.size≤X5.heap.size:=hTc.size
        have hBx:Below w.heap.size w X5:=(HBw.out.trans (HBr.out.mono (by omega))).trans (HT5.out.to_below (fun b e=>by omega) (by omega))
        refine⟨_,rfl,hBx,(fun b=>(Value.slice ar p.st.r.length cr).ownBlock=some b),GrowD.blocks (.slice ap p.p.length cp) 12 p.p.length G,(fun b=>(Value.slice at0 p.t.length ct).ownBlock=some b),A6,_,_,_,_,rfl,?_,?_,?_,?_,?_,?_,?_,?_⟩
        · exact(yxq (by rw [yws];omega) (ypa HR.out hTc (fun b hb e=>by have:=HNP.out b (.inl hb);omega))).own
        · exact(HG.out.turns HT5.out (fun b hb e=>by have:=HG.out.blocks_ge (.inl hb);omega) (fun j hj b hb e=>by have:=HG.out.blocks_ge (.inr ⟨j,hj,hb⟩);omega)).ownD
        · exact(yxq (ywc _) (ypa HT.out hTc (fun b hb e=>by have:=HNP.out b (.inr (.inl hb));omega))).own
        · exact HA.out.turns hTc (fun b hb e=>by have:=HNP.out b (.inr (.inr hb));omega)
        · exact fun b hb=>⟨by have:=HNP.out b (.inl hb);omega,fun e=>by have:=HNP.out b (.inl hb);have:=HG.out.blocks_ge e;omega,yxy HR.out HT.out (by decide) hb,HD.out b hb⟩
        · exact fun b hb=>⟨by have:=HG.out.blocks_ge hb;have:=HT5.out.size;omega,fun e=>by have:=HNP.out b (.inr (.inl e));have:=HG.out.blocks_ge hb;omega,fun e=>by have:=HNP.out b (.inr (.inr e));have:=HG.out.blocks_ge hb;omega⟩
        · exact fun b hb=>⟨by have:=HNP.out b (.inr (.inl hb));omega,fun e=>by
          obtain⟨vs,hk⟩:=(HL6.out b e).2.2
          exact ywp HT.out hk (by decide) hb⟩
        · exact fun b hb=>by have:=HNP.out b (.inr (.inr hb));omega
theorem IsD.cells {w:World} {x:Value} {c n:Nat} {f:Nat→Dat} (h:IsD w x (.row c n f)):∃cs,SrcC w x c n cs∧ ∀j,j<n*c→IsD w (nthV cs j) (f j):=by
  obtain⟨a,cap,rfl,h1,h2,h⟩:=IsD.parts (c:=c) (n:=n) h
  rcases h with rfl|⟨b,off,rfl,hb,hc⟩
  · exact⟨[],⟨by simp,a,cap,rfl,.inl rfl⟩,fun j hj=>by omega⟩
  · refine⟨(List.range (n*c)).map (fun j=>((w.cell? ⟨b,off+j,none⟩).getD (.int .i64 0))),⟨by simp,some ⟨b,off,none⟩,cap,rfl,.inr ⟨b,off,rfl,hb,fun j hj=> ?_⟩⟩,fun j hj=> ?_⟩
    · obtain⟨u,hu,_⟩:=hc j hj
      simp [hj,hu]
    · obtain⟨u,hu,hd⟩:=hc j hj
      have:nthV ((List.range (n*c)).map (fun j=>((w.cell? ⟨b,off+j,none⟩).getD (.int .i64 0)))) j=u:=by
        unfold nthV
        simp [hj,hu]
      rw [this]
      exact hd
theorem Ps.one {w:World} {u:Value} {p:Ps} {r:Nat} (h:IsD w u (p.cell r)):u.oneCell'=true:=by
  unfold Ps.cell at h
  split at h
  all_goals first
    |(obtain rfl:=h.val_eq;rfl)
    |(obtain⟨a,c,rfl,_⟩:=IsD.len h;rfl)
theorem zhi (l:List Ps) (k j:Nat):psAt (l.drop k) j=psAt l (k+j):=by
  unfold psAt
  rw [List.getD_eq_getElem?_getD,List.getD_eq_getElem?_getD,List.getElem?_drop]
theorem znt {l:List Ps} {k j:Nat} (h:j<k):psAt (l.take k) j=psAt l j:=by
  unfold psAt
  rw [List.getD_eq_getElem?_getD,List.getD_eq_getElem?_getD,List.getElem?_take_of_lt h]
theorem zdj {w:World} {a:Option Addr} {cap k:Nat} {l:List Ps} (h:IsD w (.slice a l.length cap) (yw3 l)) (hk:k≤l.length):IsD w (sliced a k l.length cap 12) (yw3 (l.drop k)):=by
  obtain⟨a',cap',he,h1,h2,h⟩:=IsD.parts (c:=12) (n:=l.length) h
  obtain⟨rfl,rfl⟩:a=a'∧cap=cap':=by simpa using he
  unfold sliced yw3
  rw [List.length_drop]
  refine IsD.of_parts (by omega) (by omega) ?_
  by_cases hn:l.length-k=0
  · exact .inl hn
  · refine .inr ?_
    obtain⟨b,off,rfl,hb,hc⟩:=h.resolve_left (by omega)
    rw [if_neg (by omega)]
    refine⟨b,off+k*12,by simp [Addr.add_lit],hb,fun j hj=> ?_⟩
    obtain⟨u,hu,hd⟩:=hc (k*12+j) (by omega)
    refine⟨u,by rw [Nat.add_assoc];exact hu,?_⟩
    have e:ydq (l.drop k) j=ydq l (k*12+j):=by
      show(psAt (l.drop k) (j/12)).cell (j%12)=(psAt l ((k*12+j)/12)).cell ((k*12+j)%12)
      rw [zhi,show(k*12+j)/12=k+j/12 by omega,show(k*12+j)%12=j%12 by omega]
    rw [e]
    exact hd
theorem zdi {w:World} {a:Option Addr} {cap k:Nat} {l:List Ps} (h:IsD w (.slice a l.length cap) (yw3 l)) (hk:k≤l.length):IsD w (sliced a 0 k cap 12) (yw3 (l.take k)):=by
  obtain⟨a',cap',he,h1,h2,h⟩:=IsD.parts (c:=12) (n:=l.length) h
  obtain⟨rfl,rfl⟩:a=a'∧cap=cap':=by simpa using he
  unfold sliced yw3
  rw [List.length_take,Nat.min_eq_left hk]
  refine IsD.of_parts (by omega) (by omega) ?_
  by_cases hn:k=0
  · exact .inl (by omega)
  · refine .inr ?_
    obtain⟨b,off,rfl,hb,hc⟩:=h.resolve_left (by omega)
    rw [if_neg (by omega)]
    refine⟨b,off,by simp [Addr.add_lit],hb,fun j hj=> ?_⟩
    obtain⟨u,hu,hd⟩:=hc j (by omega)
    refine⟨u,hu,?_⟩
    have e:ydq (l.take k) j=ydq l j:=by
      show(psAt (l.take k) (j/12)).cell (j%12)=_
      rw [znt (by omega)]
      rfl
    rw [e]
    exact hd
theorem zcb (a:Option Addr) (n cap k:Nat) (hk:k≤n) (w:World):(Instr.sliceAt 95 (.slice a n cap) (some (.int .i64 (k:Int))) none none).run Tryz.prog w= .ok (sliced a k n cap 12) w:=by
  obtain⟨i0,hi,hz0,hz1,hz2⟩:=info_parts zes
  have hu:Tryz.prog.underlying 95=some (.slice (Tryz.prog.elem 95)):=by kernel_rfl
  have he:Tryz.prog.elem 95=172:=by kernel_rfl
  rw [run_sliceAt_slice (h:=hu),run_slice_l (ht:=hu) (h0:=by omega) (h1:=by omega),he]
  simp [sizeOf,typeInfo,hi,hz1]
theorem zeh (a:Option Addr) (n cap k:Nat) (hk:k≤cap) (w:World):(Instr.sliceAt 95 (.slice a n cap) none (some (.int .i64 (k:Int))) none).run Tryz.prog w= .ok (sliced a 0 k cap 12) w:=by
  obtain⟨i0,hi,hz0,hz1,hz2⟩:=info_parts zes
  have hu:Tryz.prog.underlying 95=some (.slice (Tryz.prog.elem 95)):=by kernel_rfl
  have he:Tryz.prog.elem 95=172:=by kernel_rfl
  rw [run_sliceAt_slice (h:=hu),run_slice_h (ht:=hu) (h0:=by omega) (h2:=by omega),he]
  simp [sizeOf,typeInfo,hi,hz1]
end Go.Proofs.YtghndljgadpijaaGreat

