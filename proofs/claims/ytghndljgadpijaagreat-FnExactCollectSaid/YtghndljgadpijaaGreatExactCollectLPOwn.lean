/- The specification's copy of a part: all of it in memory of its own. -/
import Derived.Test.YtghndljgadpijaaGreatExactCollectG01
import Derived.Test.YtghndljgadpijaaGreatExactCollectG06
import Derived.Deep.Cut
import Derived.Deep.CutBlock
import Derived.Deep.RegionHeld3
namespace Go.Proofs.YtghndljgadpijaaGreat
open Go.RowKit
theorem yxn {P:Program} {md:Region.Mode} {ops:Array Oper} {Q:Exit→Act→World→Prop} {S:World→Prop} {z fuel:Nat} {listed:Array Bool} {a:Act} {w:World} (i:Nat) (oi:Oper) (v:Value)
  (h:yxu P md ops Q S z fuel (listed.setIfInBounds i true) (a.put oi.dst v) w) (hi:ops[i]? =some oi:=by rfl)
  (hs:Region.noSelect ops=true:=by kernel_rfl) (hf:Region.free md ops listed i=true:=by kernel_rfl) (hr:(Region.ready md ops listed).contains i=true:=by kernel_rfl)
  (hc:yzw md ops i z [i]=true:=by kernel_rfl) (hu: [i].all (fun p=> !listed.getD p true)=true:=by kernel_rfl)
  (hQ:∀c a w,Q (.panic c) (a.put oi.dst v) w→Q (.panic c) a w:=by exact fun _ _ _ h=>h)
  (hy:YieldsIf P ops S oi v a:=by exact Or.inl ⟨by rfl,by(intro wX hSw;(try dsimp only at hSw);go_simp;(try exact IntWalk.i64_in _ (by omega)))⟩) (hS:S w:=by assumption):yxu P md ops Q S z (fuel+1) listed a w:=
  ywk i [] hi hs hf hr hc hu hQ hy hS h
theorem ydq {p:Prop} (h:p):Hid p:=h
theorem yy6 {W:World} {b:Nat} {T:TypeId} {v0 v1 v2 v3 v4 v5 v6:Value} (h:Bk W b T #[v0,v1,v2,v3,v4,v5,v6]):Hid (W.cell? ⟨b,0,none⟩=some v0∧W.cell? ⟨b,1,none⟩=some v1∧W.cell? ⟨b,2,none⟩=some v2∧W.cell? ⟨b,3,none⟩=some v3∧W.cell? ⟨b,5,none⟩=some v5∧W.cell? ⟨b,6,none⟩=some v6):=⟨h.cell rfl,h.cell rfl,h.cell rfl,h.cell rfl,h.cell rfl,h.cell rfl⟩
theorem za4 {W:World} {b d:Nat} {T U:TypeId} {v0 v1 v2 v3 v4 v5 v6 v7 v8 v9 v10 v11 u0 u1 u2 u3 u4 u5 u6:Value} (h:Bk W b T #[v0,v1,v2,v3,v4,v5,v6,v7,v8,v9,v10,v11]) (g:Bk W d U #[u0,u1,u2,u3,u4,u5,u6]):Hid (W.cell? ⟨b,0,none⟩=some v0∧W.cell? ⟨b,1,none⟩=some v1∧W.cell? ⟨b,2,none⟩=some v2∧W.cell? ⟨b,3,none⟩=some v3∧W.cell? ⟨b,4,none⟩=some v4∧W.cell? ⟨b,5,none⟩=some v5∧W.cell? ⟨b,6,none⟩=some v6∧W.cell? ⟨b,7,none⟩=some v7∧W.cell? ⟨b,8,none⟩=some v8∧W.cell? ⟨b,9,none⟩=some v9∧W.cell? ⟨b,10,none⟩=some v10∧W.cell? ⟨b,11,none⟩=some v11∧W.cell? ⟨d,4,none⟩=some u4):=⟨h.cell rfl,h.cell rfl,h.cell rfl,h.cell rfl,h.cell rfl,h.cell rfl,h.cell rfl,h.cell rfl,h.cell rfl,h.cell rfl,h.cell rfl,h.cell rfl,g.cell rfl⟩
set_option maxRecDepth 100000 in
set_option maxHeartbeats 64000000 in
theorem zoe (x:Value) (p:Pa) (w:World) (hw:p.wt≤1048577) (h:IsPart w x p):
    Calls Tryz.prog 107 #[x] w fun r w'=>∃y,r= .returned y∧Below w.heap.size w w'∧PartF (fun k=>w.heap.size≤k∧k<w'.heap.size) w' y p:=by
  obtain⟨u1,u4,u5,u6,rfl,d1,d4,d5,d6⟩:=h
  obtain⟨a1,c1,rfl,_⟩:=IsD.len d1
  obtain⟨a4,c4,rfl,_⟩:=IsD.len d4
  obtain⟨a5,c5,rfl,_⟩:=IsD.len d5
  obtain⟨a6,c6,rfl,_⟩:=IsD.len d6
  have hwt:p.t.length≤1048577∧p.a.length≤1048577∧p.p.length≤1048577∧p.st.r.length≤1048577:=by
    have e0:=ywl p.st.r
    have e1:=yx9 p.t
    have e2:=ywl p.a
    have e3:=yxy p.p
    unfold Pa.wt at hw
    omega
  obtain⟨ht9,ha9,hp9,hr9⟩:=hwt
  obtain⟨i3,hi3,hiz0,hiz1,hiz2⟩:=info_parts zbs
  obtain⟨ix,hix,hix0,hix1,hix2⟩:=info_parts zfv
  obtain⟨ip,hip,hip0,hip1,hip2⟩:=info_parts zew
  obtain⟨W0,hW0⟩:∃W0,(w.alloc (.cells #[.int .i64 p.n,.slice a1 p.st.r.length c1,.int .i64 p.st.q,.int .i64 p.st.d,.slice a4 p.p.length c4,.slice a5 p.t.length c5,.slice a6 p.a.length c6] 97)).alloc (.cells #[.int .i64 0,.slice none 0 0,.int .i64 0,.int .i64 0,.slice none 0 0,.slice none 0 0,.slice none 0 0] 97)=W0:=⟨_,rfl⟩
  have hz0:W0.heap.size=w.heap.size+1+1:=by rw [←hW0];simp
  have hb0:=beA2 hW0
  have HBw:=ydq hb0
  have HW0:=ydq hW0
  have BX:=hdq (bkA2 hW0)
  have BZ:=hdq (bkB2 hW0)
  have D1:=ydq (d1.under hb0)
  have D4:=ydq (d4.under hb0)
  have D5:=ydq (d5.under hb0)
  have D6:=ydq (d6.under hb0)
  have HWT:Hid (p.wt≤1048577):=hw
  have hz0':W0.heap.size≤w.heap.size+1+1∧w.heap.size+1+1≤W0.heap.size:=by omega
  clear hW0 hb0 d1 d4 d5 d6 hw hz0
  go_enter Tryz.func107,Tryz.ntmps107
  go_wp2_with fail
  rw [HW0.out]
  clear HW0
  go_cut [3]from 6 to 18 (fun s3 wc=>∃Pb vr vt va,s3= .pointer (some ⟨Pb,0,none⟩)∧Below W0.heap.size W0 wc∧(W0.heap.size≤Pb∧Pb<wc.heap.size)∧Bk wc Pb 97 #[.int .i64 p.n,vr,.int .i64 p.st.q,.int .i64 p.st.d,.slice none 0 0,vt,va]∧wc.ownsRow W0.heap.size 3 1 vr p.st.r.length (intCells p.st.r)∧wc.ownsRow W0.heap.size 90 7 vt p.t.length (yvk p.t)∧wc.ownsRow W0.heap.size 3 1 va p.a.length (intCells p.a)∧ ∀k,vr.ownBlock=some k→ ¬va.ownBlock=some k)
  case first=>
    have hzd:W0.drew.heap.size≤W0.heap.size∧W0.heap.size≤W0.drew.heap.size:=⟨Nat.le_refl _,Nat.le_refl _⟩
    have B_0:Hid (Below W0.heap.size W0 W0.drew):=(Below.refl _ W0).drew
    have X_0:=ydq BX.out.drew
    have D1_0:=ydq (D1.out.under (Below.refl _ W0).drew)
    have D5_0:=ydq (D5.out.under (Below.refl _ W0).drew)
    have D6_0:=ydq (D6.out.under (Below.refl _ W0).drew)
    have Q_0:Hid (W0.drew.cell? ⟨w.heap.size,0,none⟩=some (.int .i64 p.n)∧W0.drew.cell? ⟨w.heap.size,1,none⟩=some (.slice a1 p.st.r.length c1)∧W0.drew.cell? ⟨w.heap.size,2,none⟩=some (.int .i64 p.st.q)∧W0.drew.cell? ⟨w.heap.size,3,none⟩=some (.int .i64 p.st.d)∧W0.drew.cell? ⟨w.heap.size,5,none⟩=some (.slice a5 p.t.length c5)∧W0.drew.cell? ⟨w.heap.size,6,none⟩=some (.slice a6 p.a.length c6)):=⟨X_0.out.cell rfl,X_0.out.cell rfl,X_0.out.cell rfl,X_0.out.cell rfl,X_0.out.cell rfl,X_0.out.cell rfl⟩
    refine yxa 14 (fun W=>W.cell? ⟨w.heap.size,0,none⟩=some (.int .i64 p.n)∧W.cell? ⟨w.heap.size,1,none⟩=some (.slice a1 p.st.r.length c1)∧W.cell? ⟨w.heap.size,2,none⟩=some (.int .i64 p.st.q)∧W.cell? ⟨w.heap.size,3,none⟩=some (.int .i64 p.st.d)∧W.cell? ⟨w.heap.size,5,none⟩=some (.slice a5 p.t.length c5)∧W.cell? ⟨w.heap.size,6,none⟩=some (.slice a6 p.a.length c6)) (by kernel_rfl) Q_0.out (fun hHeld=> ?_)
    refine yxn 0 {dst:=some 6,op:=Op.fieldAddr 97 (Operand.tmp 1) 0,type:=0,pos:=_,after:=_,guard:=none} (.pointer (some ⟨w.heap.size,0,none⟩)) ?_
    try simp only [Act.put,List.setIfInBounds_toArray,List.set_cons_zero,List.set_cons_succ]
    refine yxn 1 {dst:=some 7,op:=Op.load 3 (Operand.tmp 6),type:=3,pos:=_,after:=_,guard:=none} (.int .i64 p.n) ?_
    try simp only [Act.put,List.setIfInBounds_toArray,List.set_cons_zero,List.set_cons_succ]
    refine yxn 2 {dst:=some 8,op:=Op.fieldAddr 97 (Operand.tmp 1) 1,type:=0,pos:=_,after:=_,guard:=none} (.pointer (some ⟨w.heap.size,1,none⟩)) ?_
    try simp only [Act.put,List.setIfInBounds_toArray,List.set_cons_zero,List.set_cons_succ]
    refine yxn 3 {dst:=some 9,op:=Op.load 94 (Operand.tmp 8),type:=94,pos:=_,after:=_,guard:=none} (.agg #[.slice a1 p.st.r.length c1,.int .i64 p.st.q,.int .i64 p.st.d]) ?_
    try simp only [Act.put,List.setIfInBounds_toArray,List.set_cons_zero,List.set_cons_succ]
    refine yxn 5 {dst:=some 11,op:=Op.fieldAddr 97 (Operand.tmp 1) 3,type:=0,pos:=_,after:=_,guard:=none} (.pointer (some ⟨w.heap.size,5,none⟩)) ?_
    try simp only [Act.put,List.setIfInBounds_toArray,List.set_cons_zero,List.set_cons_succ]
    refine yxn 6 {dst:=some 12,op:=Op.load 34 (Operand.tmp 11),type:=34,pos:=_,after:=_,guard:=none} (.slice a5 p.t.length c5) ?_
    try simp only [Act.put,List.setIfInBounds_toArray,List.set_cons_zero,List.set_cons_succ]
    refine yxn 9 {dst:=some 15,op:=Op.fieldAddr 97 (Operand.tmp 1) 4,type:=0,pos:=_,after:=_,guard:=none} (.pointer (some ⟨w.heap.size,6,none⟩)) ?_
    try simp only [Act.put,List.setIfInBounds_toArray,List.set_cons_zero,List.set_cons_succ]
    refine yxn 10 {dst:=some 16,op:=Op.load 22 (Operand.tmp 15),type:=22,pos:=_,after:=_,guard:=none} (.slice a6 p.a.length c6) ?_
    try simp only [Act.put,List.setIfInBounds_toArray,List.set_cons_zero,List.set_cons_succ]
    refine yag (rs:= [4,8,13]) (by kernel_rfl) (by simp) ?_
    refine AllReadyZ.cons (o:= {dst:=some 10,op:=Op.call {callee:=Callee.value (Operand.func 179),args:= #[Operand.tmp 9],argTypes:= #[94]},type:=94,pos:=_,after:=_,guard:=none}) rfl (fun K hK=> ?_) (AllReadyZ.cons (o:= {dst:=some 14,op:=Op.buildSlice 22 0 #[],type:=22,pos:=_,after:=_,guard:=none}) rfl (fun K hK=> ?_) (AllReadyZ.cons (o:= {dst:=some 3,op:=Op.alloc 97,type:=0,pos:=_,after:=_,guard:=none}) rfl (fun K hK=> ?_) AllReadyZ.nil))
    · have hbs1:W0.heap.size≤W0.drew.heap.size:=B_0.out.size
      go_simp
      refine(zam _ _ p.st W0.drew hr9 rfl D1_0.out).mono ?_
      rintro e w1 ⟨vs0,rfl,hown,hb⟩
      obtain⟨as0,cs0,hvs⟩:=yoj hown
      subst hvs
      have HLS:Hid (∀k,(Value.slice as0 p.st.r.length cs0).ownBlock=some k→W0.drew.heap.size≤k∧k<w1.heap.size):=yx7 hown
      have hz1:W0.drew.heap.size≤w1.heap.size:=hb.size
      have B_2:=ydq (trm B_0.out hb)
      have X_2:=ydq (X_0.out.below hb)
      have D1_2:=ydq (D1_0.out.under hb)
      have D5_2:=ydq (D5_0.out.under hb)
      have D6_2:=ydq (D6_0.out.under hb)
      clear B_0 X_0 D1_0 D5_0 D6_0
      have S_2:=ydq (yvh hown hbs1)
      clear hown hb
      have Q_2:=yy6 X_2.out
      refine hK.out _ _ Q_2.out (fun hHeld=> ?_)
      clear hK K
      try simp only [Act.put,List.setIfInBounds_toArray,List.set_cons_zero,List.set_cons_succ]
      refine yag (rs:= [7,8,13]) (by kernel_rfl) (by simp) ?_
      refine AllReadyZ.cons (o:= {dst:=some 13,op:=Op.call {callee:=Callee.value (Operand.func 106),args:= #[Operand.tmp 12],argTypes:= #[34]},type:=34,pos:=_,after:=_,guard:=none}) rfl (fun K hK=> ?_) (AllReadyZ.cons (o:= {dst:=some 14,op:=Op.buildSlice 22 0 #[],type:=22,pos:=_,after:=_,guard:=none}) rfl (fun K hK=> ?_) (AllReadyZ.cons (o:= {dst:=some 3,op:=Op.alloc 97,type:=0,pos:=_,after:=_,guard:=none}) rfl (fun K hK=> ?_) AllReadyZ.nil))
      · have hbs7:W0.heap.size≤w1.heap.size:=B_2.out.size
        go_simp
        refine(yx5 _ p.t w1 ht9 D5_2.out.srcEv).mono ?_
        rintro e w7 ⟨vt,rfl,hown,hb⟩
        obtain⟨at0,ct0,hvt⟩:=yoj hown
        subst hvt
        have HLT:Hid (∀k,(Value.slice at0 p.t.length ct0).ownBlock=some k→w1.heap.size≤k∧k<w7.heap.size):=yx7 hown
        have hz7:w1.heap.size≤w7.heap.size:=hb.size
        have B_8:=ydq (trm B_2.out hb)
        have X_8:=ydq (X_2.out.below hb)
        have D1_8:=ydq (D1_2.out.under hb)
        have D5_8:=ydq (D5_2.out.under hb)
        have D6_8:=ydq (D6_2.out.under hb)
        have S_8:=ydq (yfa S_2.out (Turns.of_below hb) (fun _ _=>id))
        clear B_2 X_2 D1_2 D5_2 D6_2 S_2
        have T_8:=ydq (yvh hown hbs7)
        clear hown hb
        have Q_8:=yy6 X_8.out
        refine hK.out _ _ Q_8.out (fun hHeld=> ?_)
        clear hK K
        try simp only [Act.put,List.setIfInBounds_toArray,List.set_cons_zero,List.set_cons_succ]
        refine yag (rs:= [8,13]) (by kernel_rfl) (by simp) ?_
        refine AllReadyZ.cons (o:= {dst:=some 14,op:=Op.buildSlice 22 0 #[],type:=22,pos:=_,after:=_,guard:=none}) rfl (fun K hK=> ?_) (AllReadyZ.cons (o:= {dst:=some 3,op:=Op.alloc 97,type:=0,pos:=_,after:=_,guard:=none}) rfl (fun K hK=> ?_) AllReadyZ.nil)
        · have hs8:W0.heap.size≤w7.heap.size:=B_8.out.size
          obtain⟨g8,hg8⟩:∃g,g=w7.heap.size:=⟨_,rfl⟩
          obtain⟨w13,hw13⟩:∃V,w7.alloc (.cells #[] 3)=V:=⟨_,rfl⟩
          have HW13:=ydq hw13
          have HG8:Hid (g8=w7.heap.size):=hg8
          have B_14:Hid (Below W0.heap.size W0 w13):=by(rw [←hw13];exact B_8.out.alloc B_8.out.size _)
          have X_14:Hid (Bk w13 w.heap.size 97 #[.int .i64 p.n,.slice a1 p.st.r.length c1,.int .i64 p.st.q,.int .i64 p.st.d,.slice a4 p.p.length c4,.slice a5 p.t.length c5,.slice a6 p.a.length c6]):=by(rw [←hw13];exact X_8.out.alloc _)
          have D1_14:Hid (IsD w13 (.slice a1 p.st.r.length c1) (ywd p.st.r)):=by(rw [←hw13];exact D1_8.out.under ((Below.refl _ _).alloc (Nat.le_refl _) _))
          have D5_14:Hid (IsD w13 (.slice a5 p.t.length c5) (evsD p.t)):=by(rw [←hw13];exact D5_8.out.under ((Below.refl _ _).alloc (Nat.le_refl _) _))
          have D6_14:Hid (IsD w13 (.slice a6 p.a.length c6) (ywd p.a)):=by(rw [←hw13];exact D6_8.out.under ((Below.refl _ _).alloc (Nat.le_refl _) _))
          have S_14:Hid (w13.ownsRow W0.heap.size 3 1 (.slice as0 p.st.r.length cs0) p.st.r.length (intCells p.st.r)):=by(rw [←hw13];exact S_8.out.alloc _)
          have T_14:Hid (w13.ownsRow W0.heap.size 90 7 (.slice at0 p.t.length ct0) p.t.length (yvk p.t)):=by(rw [←hw13];exact T_8.out.alloc _)
          clear B_8 X_8 D1_8 D5_8 D6_8 S_8 T_8
          have E_14:Hid (w13.ownsRow W0.heap.size 3 1 (.slice (some ⟨g8,0,none⟩) 0 0) 0 []):=by(rw [←hw13,hg8];exact yvh (yzc w7) hs8)
          have hz13:g8<w13.heap.size:=by(rw [←hw13,hg8];exact(Bk.new w7 3 #[]).lt)
          have hzy13:w7.heap.size≤g8∧g8≤w7.heap.size:=by omega
          clear hw13 hg8
          go_simp
          rw [HW13.out,←HG8.out]
          have Q_14:=yy6 X_14.out
          refine hK.out _ _ Q_14.out (fun hHeld=> ?_)
          clear hK K
          try simp only [Act.put,List.setIfInBounds_toArray,List.set_cons_zero,List.set_cons_succ]
          refine yag (rs:= [11,13]) (by kernel_rfl) (by simp) ?_
          refine AllReadyZ.cons (o:= {dst:=some 17,op:=Op.call {callee:=Callee.builtin Builtin.append,args:= #[Operand.tmp 14,Operand.tmp 16],argTypes:= #[22,22]},type:=22,pos:=_,after:=_,guard:=none}) rfl (fun K hK=> ?_) (AllReadyZ.cons (o:= {dst:=some 3,op:=Op.alloc 97,type:=0,pos:=_,after:=_,guard:=none}) rfl (fun K hK=> ?_) AllReadyZ.nil)
          · refine yvz (w:=w13) rfl (.tmp 14) (.tmp 16) 22 rfl W0.heap.size 3 i3 (.int .i64 0) 1 8 Tryz.underlying22 hi3 hiz0 hiz1 hiz2 rfl (by decide) (.slice (some ⟨g8,0,none⟩) 0 0) 0 [] rfl E_14.out (.slice a6 p.a.length c6) p.a.length (intCells p.a) rfl D6_14.out.srcI (ywn _) (by unfold maxLen;omega) (by omega) B_14.out.size ?_
            intro va w17 hown hgrow hnew
            rw [Nat.zero_add,List.nil_append]at hown
            obtain⟨av0,cv0,hva⟩:=yoj hown
            subst hva
            have HLA:Hid (∀k,(Value.slice av0 p.a.length cv0).ownBlock=some k→k=g8∨(w13.heap.size≤k∧k<w17.heap.size)):=yxg hnew rfl hown
            have hz17:w13.heap.size≤w17.heap.size:=hgrow.size
            have hgt:=yw0 hgrow
            have hS8:∀k,(Value.slice (some ⟨g8,0,none⟩) 0 0).ownBlock=some k→k=g8:=fun k e=>by simpa [Value.ownBlock] using e.symm
            have B_18:=ydq (B_14.out.grown hgrow B_14.out.size (fun k e=>by have:=hS8 k e;omega))
            have X_18:=ydq (X_14.out.turns hgt (fun e=>by have:=hS8 _ e;omega))
            have S_18:=ydq (yfa S_14.out hgt (fun k hk e=>by have:=hS8 k e;have:=HLS.out k hk;omega))
            have T_18:=ydq (yfa T_14.out hgt (fun k hk e=>by have:=hS8 k e;have:=HLT.out k hk;omega))
            clear B_14 X_14 D1_14 D5_14 D6_14 S_14 T_14 E_14
            have A_18:=ydq hown
            clear hown hgrow hnew hgt hS8
            have Q_18:=yy6 X_18.out
            refine hK.out _ _ Q_18.out (fun hHeld=> ?_)
            clear hK K
            try simp only [Act.put,List.setIfInBounds_toArray,List.set_cons_zero,List.set_cons_succ]
            refine yxn 12 {dst:=some 18,op:=Op.build 97 #[(0,Operand.tmp 7),(1,Operand.tmp 10),(3,Operand.tmp 13),(4,Operand.tmp 17)],type:=97,pos:=_,after:=_,guard:=none} (.agg #[.int .i64 p.n,.slice as0 p.st.r.length cs0,.int .i64 p.st.q,.int .i64 p.st.d,.slice none 0 0,.slice at0 p.t.length ct0,.slice av0 p.a.length cv0]) ?_
            try simp only [Act.put,List.setIfInBounds_toArray,List.set_cons_zero,List.set_cons_succ]
            refine yag (rs:= [13]) (by kernel_rfl) (by simp) ?_
            refine AllReadyZ.cons (o:= {dst:=some 3,op:=Op.alloc 97,type:=0,pos:=_,after:=_,guard:=none}) rfl (fun K hK=> ?_) AllReadyZ.nil
            obtain⟨Pb,hPb⟩:∃g,g=w17.heap.size:=⟨_,rfl⟩
            obtain⟨w21,hw21⟩:∃V,w17.alloc (.cells #[.int .i64 0,.slice none 0 0,.int .i64 0,.int .i64 0,.slice none 0 0,.slice none 0 0,.slice none 0 0] 97)=V:=⟨_,rfl⟩
            have HW21:=ydq hw21
            have HPb:Hid (Pb=w17.heap.size):=hPb
            have hs21:W0.heap.size≤w17.heap.size:=B_18.out.size
            have B_22:Hid (Below W0.heap.size W0 w21):=by(rw [←hw21];exact B_18.out.alloc B_18.out.size _)
            have X_22:Hid (Bk w21 w.heap.size 97 #[.int .i64 p.n,.slice a1 p.st.r.length c1,.int .i64 p.st.q,.int .i64 p.st.d,.slice a4 p.p.length c4,.slice a5 p.t.length c5,.slice a6 p.a.length c6]):=by(rw [←hw21];exact X_18.out.alloc _)
            have S_22:Hid (w21.ownsRow W0.heap.size 3 1 (.slice as0 p.st.r.length cs0) p.st.r.length (intCells p.st.r)):=by(rw [←hw21];exact S_18.out.alloc _)
            have T_22:Hid (w21.ownsRow W0.heap.size 90 7 (.slice at0 p.t.length ct0) p.t.length (yvk p.t)):=by(rw [←hw21];exact T_18.out.alloc _)
            have A_22:Hid (w21.ownsRow W0.heap.size 3 1 (.slice av0 p.a.length cv0) p.a.length (intCells p.a)):=by(rw [←hw21];exact A_18.out.alloc _)
            clear B_18 X_18 S_18 T_18 A_18
            have Z_22:Hid (Bk w21 Pb 97 #[.int .i64 0,.slice none 0 0,.int .i64 0,.int .i64 0,.slice none 0 0,.slice none 0 0,.slice none 0 0]):=by(rw [←hw21];exact hPb▸Bk.new w17 _ _)
            have hz21:Pb<w21.heap.size:=Z_22.out.lt
            have hzy21:w17.heap.size≤Pb∧Pb≤w17.heap.size:=by omega
            clear hw21 hPb
            go_simp
            rw [HW21.out,←HPb.out]
            have Q_22:=yy6 X_22.out
            refine hK.out _ _ Q_22.out (fun hHeld=> ?_)
            clear hK K
            try simp only [Act.put,List.setIfInBounds_toArray,List.set_cons_zero,List.set_cons_succ]
            refine yag (rs:= [14]) (by kernel_rfl) (by simp) ?_
            refine AllReadyZ.last (o:= {dst:=none,op:=Op.store 97 (Operand.tmp 3) (Operand.tmp 18),type:=0,pos:=_,after:=_,guard:=none}) rfl (fun K hK=> ?_)
            obtain⟨q0,q1,q2,q3,q4,q5,q6⟩:=c7_7 Z_22.out
            have qf:=Z_22.out.free
            go_simp
            clear qf q0 q1 q2 q3 q4 q5 q6
            refine hK.out _ _ ?_
            clear hK K
            try simp only [Act.put,List.setIfInBounds_toArray,List.set_cons_zero,List.set_cons_succ]
            refine ywa (by kernel_rfl) ?_ _
            obtain⟨X5,hX5⟩:∃X5,put7s w21 Pb (.int .i64 p.n) (.slice as0 p.st.r.length cs0) (.int .i64 p.st.q) (.int .i64 p.st.d) (.slice none 0 0) (.slice at0 p.t.length ct0) (.slice av0 p.a.length cv0)=X5:=⟨_,rfl⟩
            have hP:=Z_22.out.put7s (.int .i64 p.n) (.slice as0 p.st.r.length cs0) (.int .i64 p.st.q) (.int .i64 p.st.d) (.slice none 0 0) (.slice at0 p.t.length ct0) (.slice av0 p.a.length cv0)
            have ht:=yx0 w21 Pb (.int .i64 p.n) (.slice as0 p.st.r.length cs0) (.int .i64 p.st.q) (.int .i64 p.st.d) (.slice none 0 0) (.slice at0 p.t.length ct0) (.slice av0 p.a.length cv0)
            rw [hX5]at hP ht
            unfold put7s at hX5
            rw [hX5]
            clear hX5
            go_wp2
            go_meet
            case rel=>
              refine⟨Pb,.slice as0 p.st.r.length cs0,.slice at0 p.t.length ct0,.slice av0 p.a.length cv0,rfl,B_22.out.trans (ht.to_below (fun k e=>by omega) B_22.out.size),⟨by omega,hP.lt⟩,hP,?_,yfa T_22.out ht (fun k hk e=>by have:=HLT.out k hk;omega),yfa A_22.out ht (fun k hk e=>by have:=HLA.out k hk;omega),fun k hk hk'=> ?_⟩
              · exact yfa S_22.out ht (fun k hk e=>by have:=HLS.out k hk;omega)
              · have h1:=HLS.out k hk
                have h2:=HLA.out k hk'
                omega
          · obtain⟨Pb,hPb⟩:∃g,g=w13.heap.size:=⟨_,rfl⟩
            obtain⟨w19,hw19⟩:∃V,w13.alloc (.cells #[.int .i64 0,.slice none 0 0,.int .i64 0,.int .i64 0,.slice none 0 0,.slice none 0 0,.slice none 0 0] 97)=V:=⟨_,rfl⟩
            have HW19:=ydq hw19
            have HPb:Hid (Pb=w13.heap.size):=hPb
            have hs19:W0.heap.size≤w13.heap.size:=B_14.out.size
            have B_20:Hid (Below W0.heap.size W0 w19):=by(rw [←hw19];exact B_14.out.alloc B_14.out.size _)
            have X_20:Hid (Bk w19 w.heap.size 97 #[.int .i64 p.n,.slice a1 p.st.r.length c1,.int .i64 p.st.q,.int .i64 p.st.d,.slice a4 p.p.length c4,.slice a5 p.t.length c5,.slice a6 p.a.length c6]):=by(rw [←hw19];exact X_14.out.alloc _)
            have D1_20:Hid (IsD w19 (.slice a1 p.st.r.length c1) (ywd p.st.r)):=by(rw [←hw19];exact D1_14.out.under ((Below.refl _ _).alloc (Nat.le_refl _) _))
            have D5_20:Hid (IsD w19 (.slice a5 p.t.length c5) (evsD p.t)):=by(rw [←hw19];exact D5_14.out.under ((Below.refl _ _).alloc (Nat.le_refl _) _))
            have D6_20:Hid (IsD w19 (.slice a6 p.a.length c6) (ywd p.a)):=by(rw [←hw19];exact D6_14.out.under ((Below.refl _ _).alloc (Nat.le_refl _) _))
            have S_20:Hid (w19.ownsRow W0.heap.size 3 1 (.slice as0 p.st.r.length cs0) p.st.r.length (intCells p.st.r)):=by(rw [←hw19];exact S_14.out.alloc _)
            have T_20:Hid (w19.ownsRow W0.heap.size 90 7 (.slice at0 p.t.length ct0) p.t.length (yvk p.t)):=by(rw [←hw19];exact T_14.out.alloc _)
            have E_20:Hid (w19.ownsRow W0.heap.size 3 1 (.slice (some ⟨g8,0,none⟩) 0 0) 0 []):=by(rw [←hw19];exact E_14.out.alloc _)
            clear B_14 X_14 D1_14 D5_14 D6_14 S_14 T_14 E_14
            have Z_20:Hid (Bk w19 Pb 97 #[.int .i64 0,.slice none 0 0,.int .i64 0,.int .i64 0,.slice none 0 0,.slice none 0 0,.slice none 0 0]):=by(rw [←hw19];exact hPb▸Bk.new w13 _ _)
            have hz19:Pb<w19.heap.size:=Z_20.out.lt
            have hzy19:w13.heap.size≤Pb∧Pb≤w13.heap.size:=by omega
            clear hw19 hPb
            go_simp
            rw [HW19.out,←HPb.out]
            have Q_20:=yy6 X_20.out
            refine hK.out _ _ Q_20.out (fun hHeld=> ?_)
            clear hK K
            try simp only [Act.put,List.setIfInBounds_toArray,List.set_cons_zero,List.set_cons_succ]
            refine yag (rs:= [11]) (by kernel_rfl) (by simp) ?_
            refine AllReadyZ.cons (o:= {dst:=some 17,op:=Op.call {callee:=Callee.builtin Builtin.append,args:= #[Operand.tmp 14,Operand.tmp 16],argTypes:= #[22,22]},type:=22,pos:=_,after:=_,guard:=none}) rfl (fun K hK=> ?_) AllReadyZ.nil
            refine yvz (w:=w19) rfl (.tmp 14) (.tmp 16) 22 rfl W0.heap.size 3 i3 (.int .i64 0) 1 8 Tryz.underlying22 hi3 hiz0 hiz1 hiz2 rfl (by decide) (.slice (some ⟨g8,0,none⟩) 0 0) 0 [] rfl E_20.out (.slice a6 p.a.length c6) p.a.length (intCells p.a) rfl D6_20.out.srcI (ywn _) (by unfold maxLen;omega) (by omega) B_20.out.size ?_
            intro va w23 hown hgrow hnew
            rw [Nat.zero_add,List.nil_append]at hown
            obtain⟨av0,cv0,hva⟩:=yoj hown
            subst hva
            have HLA:Hid (∀k,(Value.slice av0 p.a.length cv0).ownBlock=some k→k=g8∨(w19.heap.size≤k∧k<w23.heap.size)):=yxg hnew rfl hown
            have hz23:w19.heap.size≤w23.heap.size:=hgrow.size
            have hgt:=yw0 hgrow
            have hS8:∀k,(Value.slice (some ⟨g8,0,none⟩) 0 0).ownBlock=some k→k=g8:=fun k e=>by simpa [Value.ownBlock] using e.symm
            have B_24:=ydq (B_20.out.grown hgrow B_20.out.size (fun k e=>by have:=hS8 k e;omega))
            have X_24:=ydq (X_20.out.turns hgt (fun e=>by have:=hS8 _ e;omega))
            have S_24:=ydq (yfa S_20.out hgt (fun k hk e=>by have:=hS8 k e;have:=HLS.out k hk;omega))
            have T_24:=ydq (yfa T_20.out hgt (fun k hk e=>by have:=hS8 k e;have:=HLT.out k hk;omega))
            have Z_24:=ydq (Z_20.out.turns hgt (fun e=>by have:=hS8 _ e;omega))
            clear B_20 X_20 D1_20 D5_20 D6_20 S_20 T_20 E_20 Z_20
            have A_24:=ydq hown
            clear hown hgrow hnew hgt hS8
            have Q_24:=yy6 X_24.out
            refine hK.out _ _ Q_24.out (fun hHeld=> ?_)
            clear hK K
            try simp only [Act.put,List.setIfInBounds_toArray,List.set_cons_zero,List.set_cons_succ]
            refine yxn 12 {dst:=some 18,op:=Op.build 97 #[(0,Operand.tmp 7),(1,Operand.tmp 10),(3,Operand.tmp 13),(4,Operand.tmp 17)],type:=97,pos:=_,after:=_,guard:=none} (.agg #[.int .i64 p.n,.slice as0 p.st.r.length cs0,.int .i64 p.st.q,.int .i64 p.st.d,.slice none 0 0,.slice at0 p.t.length ct0,.slice av0 p.a.length cv0]) ?_
            try simp only [Act.put,List.setIfInBounds_toArray,List.set_cons_zero,List.set_cons_succ]
            refine yag (rs:= [14]) (by kernel_rfl) (by simp) ?_
            refine AllReadyZ.last (o:= {dst:=none,op:=Op.store 97 (Operand.tmp 3) (Operand.tmp 18),type:=0,pos:=_,after:=_,guard:=none}) rfl (fun K hK=> ?_)
            obtain⟨q0,q1,q2,q3,q4,q5,q6⟩:=c7_7 Z_24.out
            have qf:=Z_24.out.free
            go_simp
            clear qf q0 q1 q2 q3 q4 q5 q6
            refine hK.out _ _ ?_
            clear hK K
            try simp only [Act.put,List.setIfInBounds_toArray,List.set_cons_zero,List.set_cons_succ]
            refine ywa (by kernel_rfl) ?_ _
            obtain⟨X5,hX5⟩:∃X5,put7s w23 Pb (.int .i64 p.n) (.slice as0 p.st.r.length cs0) (.int .i64 p.st.q) (.int .i64 p.st.d) (.slice none 0 0) (.slice at0 p.t.length ct0) (.slice av0 p.a.length cv0)=X5:=⟨_,rfl⟩
            have hP:=Z_24.out.put7s (.int .i64 p.n) (.slice as0 p.st.r.length cs0) (.int .i64 p.st.q) (.int .i64 p.st.d) (.slice none 0 0) (.slice at0 p.t.length ct0) (.slice av0 p.a.length cv0)
            have ht:=yx0 w23 Pb (.int .i64 p.n) (.slice as0 p.st.r.length cs0) (.int .i64 p.st.q) (.int .i64 p.st.d) (.slice none 0 0) (.slice at0 p.t.length ct0) (.slice av0 p.a.length cv0)
            rw [hX5]at hP ht
            unfold put7s at hX5
            rw [hX5]
            clear hX5
            go_wp2
            go_meet
            case rel=>
              refine⟨Pb,.slice as0 p.st.r.length cs0,.slice at0 p.t.length ct0,.slice av0 p.a.length cv0,rfl,B_24.out.trans (ht.to_below (fun k e=>by omega) B_24.out.size),⟨by omega,hP.lt⟩,hP,?_,yfa T_24.out ht (fun k hk e=>by have:=HLT.out k hk;omega),yfa A_24.out ht (fun k hk e=>by have:=HLA.out k hk;omega),fun k hk hk'=> ?_⟩
              · exact yfa S_24.out ht (fun k hk e=>by have:=HLS.out k hk;omega)
              · have h1:=HLS.out k hk
                have h2:=HLA.out k hk'
                omega
        · obtain⟨Pb,hPb⟩:∃g,g=w7.heap.size:=⟨_,rfl⟩
          obtain⟨w15,hw15⟩:∃V,w7.alloc (.cells #[.int .i64 0,.slice none 0 0,.int .i64 0,.int .i64 0,.slice none 0 0,.slice none 0 0,.slice none 0 0] 97)=V:=⟨_,rfl⟩
          have HW15:=ydq hw15
          have HPb:Hid (Pb=w7.heap.size):=hPb
          have hs15:W0.heap.size≤w7.heap.size:=B_8.out.size
          have B_16:Hid (Below W0.heap.size W0 w15):=by(rw [←hw15];exact B_8.out.alloc B_8.out.size _)
          have X_16:Hid (Bk w15 w.heap.size 97 #[.int .i64 p.n,.slice a1 p.st.r.length c1,.int .i64 p.st.q,.int .i64 p.st.d,.slice a4 p.p.length c4,.slice a5 p.t.length c5,.slice a6 p.a.length c6]):=by(rw [←hw15];exact X_8.out.alloc _)
          have D1_16:Hid (IsD w15 (.slice a1 p.st.r.length c1) (ywd p.st.r)):=by(rw [←hw15];exact D1_8.out.under ((Below.refl _ _).alloc (Nat.le_refl _) _))
          have D5_16:Hid (IsD w15 (.slice a5 p.t.length c5) (evsD p.t)):=by(rw [←hw15];exact D5_8.out.under ((Below.refl _ _).alloc (Nat.le_refl _) _))
          have D6_16:Hid (IsD w15 (.slice a6 p.a.length c6) (ywd p.a)):=by(rw [←hw15];exact D6_8.out.under ((Below.refl _ _).alloc (Nat.le_refl _) _))
          have S_16:Hid (w15.ownsRow W0.heap.size 3 1 (.slice as0 p.st.r.length cs0) p.st.r.length (intCells p.st.r)):=by(rw [←hw15];exact S_8.out.alloc _)
          have T_16:Hid (w15.ownsRow W0.heap.size 90 7 (.slice at0 p.t.length ct0) p.t.length (yvk p.t)):=by(rw [←hw15];exact T_8.out.alloc _)
          clear B_8 X_8 D1_8 D5_8 D6_8 S_8 T_8
          have Z_16:Hid (Bk w15 Pb 97 #[.int .i64 0,.slice none 0 0,.int .i64 0,.int .i64 0,.slice none 0 0,.slice none 0 0,.slice none 0 0]):=by(rw [←hw15];exact hPb▸Bk.new w7 _ _)
          have hz15:Pb<w15.heap.size:=Z_16.out.lt
          have hzy15:w7.heap.size≤Pb∧Pb≤w7.heap.size:=by omega
          clear hw15 hPb
          go_simp
          rw [HW15.out,←HPb.out]
          have Q_16:=yy6 X_16.out
          refine hK.out _ _ Q_16.out (fun hHeld=> ?_)
          clear hK K
          try simp only [Act.put,List.setIfInBounds_toArray,List.set_cons_zero,List.set_cons_succ]
          refine yag (rs:= [8]) (by kernel_rfl) (by simp) ?_
          refine AllReadyZ.cons (o:= {dst:=some 14,op:=Op.buildSlice 22 0 #[],type:=22,pos:=_,after:=_,guard:=none}) rfl (fun K hK=> ?_) AllReadyZ.nil
          have hs8:W0.heap.size≤w15.heap.size:=B_16.out.size
          obtain⟨g8,hg8⟩:∃g,g=w15.heap.size:=⟨_,rfl⟩
          obtain⟨w25,hw25⟩:∃V,w15.alloc (.cells #[] 3)=V:=⟨_,rfl⟩
          have HW25:=ydq hw25
          have HG8:Hid (g8=w15.heap.size):=hg8
          have B_26:Hid (Below W0.heap.size W0 w25):=by(rw [←hw25];exact B_16.out.alloc B_16.out.size _)
          have X_26:Hid (Bk w25 w.heap.size 97 #[.int .i64 p.n,.slice a1 p.st.r.length c1,.int .i64 p.st.q,.int .i64 p.st.d,.slice a4 p.p.length c4,.slice a5 p.t.length c5,.slice a6 p.a.length c6]):=by(rw [←hw25];exact X_16.out.alloc _)
          have D1_26:Hid (IsD w25 (.slice a1 p.st.r.length c1) (ywd p.st.r)):=by(rw [←hw25];exact D1_16.out.under ((Below.refl _ _).alloc (Nat.le_refl _) _))
          have D5_26:Hid (IsD w25 (.slice a5 p.t.length c5) (evsD p.t)):=by(rw [←hw25];exact D5_16.out.under ((Below.refl _ _).alloc (Nat.le_refl _) _))
          have D6_26:Hid (IsD w25 (.slice a6 p.a.length c6) (ywd p.a)):=by(rw [←hw25];exact D6_16.out.under ((Below.refl _ _).alloc (Nat.le_refl _) _))
          have S_26:Hid (w25.ownsRow W0.heap.size 3 1 (.slice as0 p.st.r.length cs0) p.st.r.length (intCells p.st.r)):=by(rw [←hw25];exact S_16.out.alloc _)
          have T_26:Hid (w25.ownsRow W0.heap.size 90 7 (.slice at0 p.t.length ct0) p.t.length (yvk p.t)):=by(rw [←hw25];exact T_16.out.alloc _)
          have Z_26:Hid (Bk w25 Pb 97 #[.int .i64 0,.slice none 0 0,.int .i64 0,.int .i64 0,.slice none 0 0,.slice none 0 0,.slice none 0 0]):=by(rw [←hw25];exact Z_16.out.alloc _)
          clear B_16 X_16 D1_16 D5_16 D6_16 S_16 T_16 Z_16
          have E_26:Hid (w25.ownsRow W0.heap.size 3 1 (.slice (some ⟨g8,0,none⟩) 0 0) 0 []):=by(rw [←hw25,hg8];exact yvh (yzc w15) hs8)
          have hz25:g8<w25.heap.size:=by(rw [←hw25,hg8];exact(Bk.new w15 3 #[]).lt)
          have hzy25:w15.heap.size≤g8∧g8≤w15.heap.size:=by omega
          clear hw25 hg8
          go_simp
          rw [HW25.out,←HG8.out]
          have Q_26:=yy6 X_26.out
          refine hK.out _ _ Q_26.out (fun hHeld=> ?_)
          clear hK K
          try simp only [Act.put,List.setIfInBounds_toArray,List.set_cons_zero,List.set_cons_succ]
          refine yag (rs:= [11]) (by kernel_rfl) (by simp) ?_
          refine AllReadyZ.cons (o:= {dst:=some 17,op:=Op.call {callee:=Callee.builtin Builtin.append,args:= #[Operand.tmp 14,Operand.tmp 16],argTypes:= #[22,22]},type:=22,pos:=_,after:=_,guard:=none}) rfl (fun K hK=> ?_) AllReadyZ.nil
          refine yvz (w:=w25) rfl (.tmp 14) (.tmp 16) 22 rfl W0.heap.size 3 i3 (.int .i64 0) 1 8 Tryz.underlying22 hi3 hiz0 hiz1 hiz2 rfl (by decide) (.slice (some ⟨g8,0,none⟩) 0 0) 0 [] rfl E_26.out (.slice a6 p.a.length c6) p.a.length (intCells p.a) rfl D6_26.out.srcI (ywn _) (by unfold maxLen;omega) (by omega) B_26.out.size ?_
          intro va w27 hown hgrow hnew
          rw [Nat.zero_add,List.nil_append]at hown
          obtain⟨av0,cv0,hva⟩:=yoj hown
          subst hva
          have HLA:Hid (∀k,(Value.slice av0 p.a.length cv0).ownBlock=some k→k=g8∨(w25.heap.size≤k∧k<w27.heap.size)):=yxg hnew rfl hown
          have hz27:w25.heap.size≤w27.heap.size:=hgrow.size
          have hgt:=yw0 hgrow
          have hS8:∀k,(Value.slice (some ⟨g8,0,none⟩) 0 0).ownBlock=some k→k=g8:=fun k e=>by simpa [Value.ownBlock] using e.symm
          have B_28:=ydq (B_26.out.grown hgrow B_26.out.size (fun k e=>by have:=hS8 k e;omega))
          have X_28:=ydq (X_26.out.turns hgt (fun e=>by have:=hS8 _ e;omega))
          have S_28:=ydq (yfa S_26.out hgt (fun k hk e=>by have:=hS8 k e;have:=HLS.out k hk;omega))
          have T_28:=ydq (yfa T_26.out hgt (fun k hk e=>by have:=hS8 k e;have:=HLT.out k hk;omega))
          have Z_28:=ydq (Z_26.out.turns hgt (fun e=>by have:=hS8 _ e;omega))
          clear B_26 X_26 D1_26 D5_26 D6_26 S_26 T_26 Z_26 E_26
          have A_28:=ydq hown
          clear hown hgrow hnew hgt hS8
          have Q_28:=yy6 X_28.out
          refine hK.out _ _ Q_28.out (fun hHeld=> ?_)
          clear hK K
          try simp only [Act.put,List.setIfInBounds_toArray,List.set_cons_zero,List.set_cons_succ]
          refine yxn 12 {dst:=some 18,op:=Op.build 97 #[(0,Operand.tmp 7),(1,Operand.tmp 10),(3,Operand.tmp 13),(4,Operand.tmp 17)],type:=97,pos:=_,after:=_,guard:=none} (.agg #[.int .i64 p.n,.slice as0 p.st.r.length cs0,.int .i64 p.st.q,.int .i64 p.st.d,.slice none 0 0,.slice at0 p.t.length ct0,.slice av0 p.a.length cv0]) ?_
          try simp only [Act.put,List.setIfInBounds_toArray,List.set_cons_zero,List.set_cons_succ]
          refine yag (rs:= [14]) (by kernel_rfl) (by simp) ?_
          refine AllReadyZ.last (o:= {dst:=none,op:=Op.store 97 (Operand.tmp 3) (Operand.tmp 18),type:=0,pos:=_,after:=_,guard:=none}) rfl (fun K hK=> ?_)
          obtain⟨q0,q1,q2,q3,q4,q5,q6⟩:=c7_7 Z_28.out
          have qf:=Z_28.out.free
          go_simp
          clear qf q0 q1 q2 q3 q4 q5 q6
          refine hK.out _ _ ?_
          clear hK K
          try simp only [Act.put,List.setIfInBounds_toArray,List.set_cons_zero,List.set_cons_succ]
          refine ywa (by kernel_rfl) ?_ _
          obtain⟨X5,hX5⟩:∃X5,put7s w27 Pb (.int .i64 p.n) (.slice as0 p.st.r.length cs0) (.int .i64 p.st.q) (.int .i64 p.st.d) (.slice none 0 0) (.slice at0 p.t.length ct0) (.slice av0 p.a.length cv0)=X5:=⟨_,rfl⟩
          have hP:=Z_28.out.put7s (.int .i64 p.n) (.slice as0 p.st.r.length cs0) (.int .i64 p.st.q) (.int .i64 p.st.d) (.slice none 0 0) (.slice at0 p.t.length ct0) (.slice av0 p.a.length cv0)
          have ht:=yx0 w27 Pb (.int .i64 p.n) (.slice as0 p.st.r.length cs0) (.int .i64 p.st.q) (.int .i64 p.st.d) (.slice none 0 0) (.slice at0 p.t.length ct0) (.slice av0 p.a.length cv0)
          rw [hX5]at hP ht
          unfold put7s at hX5
          rw [hX5]
          clear hX5
          go_wp2
          go_meet
          case rel=>
            refine⟨Pb,.slice as0 p.st.r.length cs0,.slice at0 p.t.length ct0,.slice av0 p.a.length cv0,rfl,B_28.out.trans (ht.to_below (fun k e=>by omega) B_28.out.size),⟨by omega,hP.lt⟩,hP,?_,yfa T_28.out ht (fun k hk e=>by have:=HLT.out k hk;omega),yfa A_28.out ht (fun k hk e=>by have:=HLA.out k hk;omega),fun k hk hk'=> ?_⟩
            · exact yfa S_28.out ht (fun k hk e=>by have:=HLS.out k hk;omega)
            · have h1:=HLS.out k hk
              have h2:=HLA.out k hk'
              omega
      · have hs8:W0.heap.size≤w1.heap.size:=B_2.out.size
        obtain⟨g8,hg8⟩:∃g,g=w1.heap.size:=⟨_,rfl⟩
        obtain⟨w9,hw9⟩:∃V,w1.alloc (.cells #[] 3)=V:=⟨_,rfl⟩
        have HW9:=ydq hw9
        have HG8:Hid (g8=w1.heap.size):=hg8
        have B_10:Hid (Below W0.heap.size W0 w9):=by(rw [←hw9];exact B_2.out.alloc B_2.out.size _)
        have X_10:Hid (Bk w9 w.heap.size 97 #[.int .i64 p.n,.slice a1 p.st.r.length c1,.int .i64 p.st.q,.int .i64 p.st.d,.slice a4 p.p.length c4,.slice a5 p.t.length c5,.slice a6 p.a.length c6]):=by(rw [←hw9];exact X_2.out.alloc _)
        have D1_10:Hid (IsD w9 (.slice a1 p.st.r.length c1) (ywd p.st.r)):=by(rw [←hw9];exact D1_2.out.under ((Below.refl _ _).alloc (Nat.le_refl _) _))
        have D5_10:Hid (IsD w9 (.slice a5 p.t.length c5) (evsD p.t)):=by(rw [←hw9];exact D5_2.out.under ((Below.refl _ _).alloc (Nat.le_refl _) _))
        have D6_10:Hid (IsD w9 (.slice a6 p.a.length c6) (ywd p.a)):=by(rw [←hw9];exact D6_2.out.under ((Below.refl _ _).alloc (Nat.le_refl _) _))
        have S_10:Hid (w9.ownsRow W0.heap.size 3 1 (.slice as0 p.st.r.length cs0) p.st.r.length (intCells p.st.r)):=by(rw [←hw9];exact S_2.out.alloc _)
        clear B_2 X_2 D1_2 D5_2 D6_2 S_2
        have E_10:Hid (w9.ownsRow W0.heap.size 3 1 (.slice (some ⟨g8,0,none⟩) 0 0) 0 []):=by(rw [←hw9,hg8];exact yvh (yzc w1) hs8)
        have hz9:g8<w9.heap.size:=by(rw [←hw9,hg8];exact(Bk.new w1 3 #[]).lt)
        have hzy9:w1.heap.size≤g8∧g8≤w1.heap.size:=by omega
        clear hw9 hg8
        go_simp
        rw [HW9.out,←HG8.out]
        have Q_10:=yy6 X_10.out
        refine hK.out _ _ Q_10.out (fun hHeld=> ?_)
        clear hK K
        try simp only [Act.put,List.setIfInBounds_toArray,List.set_cons_zero,List.set_cons_succ]
        refine yag (rs:= [7,13]) (by kernel_rfl) (by simp) ?_
        refine AllReadyZ.cons (o:= {dst:=some 13,op:=Op.call {callee:=Callee.value (Operand.func 106),args:= #[Operand.tmp 12],argTypes:= #[34]},type:=34,pos:=_,after:=_,guard:=none}) rfl (fun K hK=> ?_) (AllReadyZ.cons (o:= {dst:=some 3,op:=Op.alloc 97,type:=0,pos:=_,after:=_,guard:=none}) rfl (fun K hK=> ?_) AllReadyZ.nil)
        · have hbs29:W0.heap.size≤w9.heap.size:=B_10.out.size
          go_simp
          refine(yx5 _ p.t w9 ht9 D5_10.out.srcEv).mono ?_
          rintro e w29 ⟨vt,rfl,hown,hb⟩
          obtain⟨at0,ct0,hvt⟩:=yoj hown
          subst hvt
          have HLT:Hid (∀k,(Value.slice at0 p.t.length ct0).ownBlock=some k→w9.heap.size≤k∧k<w29.heap.size):=yx7 hown
          have hz29:w9.heap.size≤w29.heap.size:=hb.size
          have B_30:=ydq (trm B_10.out hb)
          have X_30:=ydq (X_10.out.below hb)
          have D1_30:=ydq (D1_10.out.under hb)
          have D5_30:=ydq (D5_10.out.under hb)
          have D6_30:=ydq (D6_10.out.under hb)
          have S_30:=ydq (yfa S_10.out (Turns.of_below hb) (fun _ _=>id))
          have E_30:=ydq (yfa E_10.out (Turns.of_below hb) (fun _ _=>id))
          clear B_10 X_10 D1_10 D5_10 D6_10 S_10 E_10
          have T_30:=ydq (yvh hown hbs29)
          clear hown hb
          have Q_30:=yy6 X_30.out
          refine hK.out _ _ Q_30.out (fun hHeld=> ?_)
          clear hK K
          try simp only [Act.put,List.setIfInBounds_toArray,List.set_cons_zero,List.set_cons_succ]
          refine yag (rs:= [11,13]) (by kernel_rfl) (by simp) ?_
          refine AllReadyZ.cons (o:= {dst:=some 17,op:=Op.call {callee:=Callee.builtin Builtin.append,args:= #[Operand.tmp 14,Operand.tmp 16],argTypes:= #[22,22]},type:=22,pos:=_,after:=_,guard:=none}) rfl (fun K hK=> ?_) (AllReadyZ.cons (o:= {dst:=some 3,op:=Op.alloc 97,type:=0,pos:=_,after:=_,guard:=none}) rfl (fun K hK=> ?_) AllReadyZ.nil)
          · refine yvz (w:=w29) rfl (.tmp 14) (.tmp 16) 22 rfl W0.heap.size 3 i3 (.int .i64 0) 1 8 Tryz.underlying22 hi3 hiz0 hiz1 hiz2 rfl (by decide) (.slice (some ⟨g8,0,none⟩) 0 0) 0 [] rfl E_30.out (.slice a6 p.a.length c6) p.a.length (intCells p.a) rfl D6_30.out.srcI (ywn _) (by unfold maxLen;omega) (by omega) B_30.out.size ?_
            intro va w33 hown hgrow hnew
            rw [Nat.zero_add,List.nil_append]at hown
            obtain⟨av0,cv0,hva⟩:=yoj hown
            subst hva
            have HLA:Hid (∀k,(Value.slice av0 p.a.length cv0).ownBlock=some k→k=g8∨(w29.heap.size≤k∧k<w33.heap.size)):=yxg hnew rfl hown
            have hz33:w29.heap.size≤w33.heap.size:=hgrow.size
            have hgt:=yw0 hgrow
            have hS8:∀k,(Value.slice (some ⟨g8,0,none⟩) 0 0).ownBlock=some k→k=g8:=fun k e=>by simpa [Value.ownBlock] using e.symm
            have B_34:=ydq (B_30.out.grown hgrow B_30.out.size (fun k e=>by have:=hS8 k e;omega))
            have X_34:=ydq (X_30.out.turns hgt (fun e=>by have:=hS8 _ e;omega))
            have S_34:=ydq (yfa S_30.out hgt (fun k hk e=>by have:=hS8 k e;have:=HLS.out k hk;omega))
            have T_34:=ydq (yfa T_30.out hgt (fun k hk e=>by have:=hS8 k e;have:=HLT.out k hk;omega))
            clear B_30 X_30 D1_30 D5_30 D6_30 S_30 E_30 T_30
            have A_34:=ydq hown
            clear hown hgrow hnew hgt hS8
            have Q_34:=yy6 X_34.out
            refine hK.out _ _ Q_34.out (fun hHeld=> ?_)
            clear hK K
            try simp only [Act.put,List.setIfInBounds_toArray,List.set_cons_zero,List.set_cons_succ]
            refine yxn 12 {dst:=some 18,op:=Op.build 97 #[(0,Operand.tmp 7),(1,Operand.tmp 10),(3,Operand.tmp 13),(4,Operand.tmp 17)],type:=97,pos:=_,after:=_,guard:=none} (.agg #[.int .i64 p.n,.slice as0 p.st.r.length cs0,.int .i64 p.st.q,.int .i64 p.st.d,.slice none 0 0,.slice at0 p.t.length ct0,.slice av0 p.a.length cv0]) ?_
            try simp only [Act.put,List.setIfInBounds_toArray,List.set_cons_zero,List.set_cons_succ]
            refine yag (rs:= [13]) (by kernel_rfl) (by simp) ?_
            refine AllReadyZ.cons (o:= {dst:=some 3,op:=Op.alloc 97,type:=0,pos:=_,after:=_,guard:=none}) rfl (fun K hK=> ?_) AllReadyZ.nil
            obtain⟨Pb,hPb⟩:∃g,g=w33.heap.size:=⟨_,rfl⟩
            obtain⟨w37,hw37⟩:∃V,w33.alloc (.cells #[.int .i64 0,.slice none 0 0,.int .i64 0,.int .i64 0,.slice none 0 0,.slice none 0 0,.slice none 0 0] 97)=V:=⟨_,rfl⟩
            have HW37:=ydq hw37
            have HPb:Hid (Pb=w33.heap.size):=hPb
            have hs37:W0.heap.size≤w33.heap.size:=B_34.out.size
            have B_38:Hid (Below W0.heap.size W0 w37):=by(rw [←hw37];exact B_34.out.alloc B_34.out.size _)
            have X_38:Hid (Bk w37 w.heap.size 97 #[.int .i64 p.n,.slice a1 p.st.r.length c1,.int .i64 p.st.q,.int .i64 p.st.d,.slice a4 p.p.length c4,.slice a5 p.t.length c5,.slice a6 p.a.length c6]):=by(rw [←hw37];exact X_34.out.alloc _)
            have S_38:Hid (w37.ownsRow W0.heap.size 3 1 (.slice as0 p.st.r.length cs0) p.st.r.length (intCells p.st.r)):=by(rw [←hw37];exact S_34.out.alloc _)
            have T_38:Hid (w37.ownsRow W0.heap.size 90 7 (.slice at0 p.t.length ct0) p.t.length (yvk p.t)):=by(rw [←hw37];exact T_34.out.alloc _)
            have A_38:Hid (w37.ownsRow W0.heap.size 3 1 (.slice av0 p.a.length cv0) p.a.length (intCells p.a)):=by(rw [←hw37];exact A_34.out.alloc _)
            clear B_34 X_34 S_34 T_34 A_34
            have Z_38:Hid (Bk w37 Pb 97 #[.int .i64 0,.slice none 0 0,.int .i64 0,.int .i64 0,.slice none 0 0,.slice none 0 0,.slice none 0 0]):=by(rw [←hw37];exact hPb▸Bk.new w33 _ _)
            have hz37:Pb<w37.heap.size:=Z_38.out.lt
            have hzy37:w33.heap.size≤Pb∧Pb≤w33.heap.size:=by omega
            clear hw37 hPb
            go_simp
            rw [HW37.out,←HPb.out]
            have Q_38:=yy6 X_38.out
            refine hK.out _ _ Q_38.out (fun hHeld=> ?_)
            clear hK K
            try simp only [Act.put,List.setIfInBounds_toArray,List.set_cons_zero,List.set_cons_succ]
            refine yag (rs:= [14]) (by kernel_rfl) (by simp) ?_
            refine AllReadyZ.last (o:= {dst:=none,op:=Op.store 97 (Operand.tmp 3) (Operand.tmp 18),type:=0,pos:=_,after:=_,guard:=none}) rfl (fun K hK=> ?_)
            obtain⟨q0,q1,q2,q3,q4,q5,q6⟩:=c7_7 Z_38.out
            have qf:=Z_38.out.free
            go_simp
            clear qf q0 q1 q2 q3 q4 q5 q6
            refine hK.out _ _ ?_
            clear hK K
            try simp only [Act.put,List.setIfInBounds_toArray,List.set_cons_zero,List.set_cons_succ]
            refine ywa (by kernel_rfl) ?_ _
            obtain⟨X5,hX5⟩:∃X5,put7s w37 Pb (.int .i64 p.n) (.slice as0 p.st.r.length cs0) (.int .i64 p.st.q) (.int .i64 p.st.d) (.slice none 0 0) (.slice at0 p.t.length ct0) (.slice av0 p.a.length cv0)=X5:=⟨_,rfl⟩
            have hP:=Z_38.out.put7s (.int .i64 p.n) (.slice as0 p.st.r.length cs0) (.int .i64 p.st.q) (.int .i64 p.st.d) (.slice none 0 0) (.slice at0 p.t.length ct0) (.slice av0 p.a.length cv0)
            have ht:=yx0 w37 Pb (.int .i64 p.n) (.slice as0 p.st.r.length cs0) (.int .i64 p.st.q) (.int .i64 p.st.d) (.slice none 0 0) (.slice at0 p.t.length ct0) (.slice av0 p.a.length cv0)
            rw [hX5]at hP ht
            unfold put7s at hX5
            rw [hX5]
            clear hX5
            go_wp2
            go_meet
            case rel=>
              refine⟨Pb,.slice as0 p.st.r.length cs0,.slice at0 p.t.length ct0,.slice av0 p.a.length cv0,rfl,B_38.out.trans (ht.to_below (fun k e=>by omega) B_38.out.size),⟨by omega,hP.lt⟩,hP,?_,yfa T_38.out ht (fun k hk e=>by have:=HLT.out k hk;omega),yfa A_38.out ht (fun k hk e=>by have:=HLA.out k hk;omega),fun k hk hk'=> ?_⟩
              · exact yfa S_38.out ht (fun k hk e=>by have:=HLS.out k hk;omega)
              · have h1:=HLS.out k hk
                have h2:=HLA.out k hk'
                omega
          · obtain⟨Pb,hPb⟩:∃g,g=w29.heap.size:=⟨_,rfl⟩
            obtain⟨w35,hw35⟩:∃V,w29.alloc (.cells #[.int .i64 0,.slice none 0 0,.int .i64 0,.int .i64 0,.slice none 0 0,.slice none 0 0,.slice none 0 0] 97)=V:=⟨_,rfl⟩
            have HW35:=ydq hw35
            have HPb:Hid (Pb=w29.heap.size):=hPb
            have hs35:W0.heap.size≤w29.heap.size:=B_30.out.size
            have B_36:Hid (Below W0.heap.size W0 w35):=by(rw [←hw35];exact B_30.out.alloc B_30.out.size _)
            have X_36:Hid (Bk w35 w.heap.size 97 #[.int .i64 p.n,.slice a1 p.st.r.length c1,.int .i64 p.st.q,.int .i64 p.st.d,.slice a4 p.p.length c4,.slice a5 p.t.length c5,.slice a6 p.a.length c6]):=by(rw [←hw35];exact X_30.out.alloc _)
            have D1_36:Hid (IsD w35 (.slice a1 p.st.r.length c1) (ywd p.st.r)):=by(rw [←hw35];exact D1_30.out.under ((Below.refl _ _).alloc (Nat.le_refl _) _))
            have D5_36:Hid (IsD w35 (.slice a5 p.t.length c5) (evsD p.t)):=by(rw [←hw35];exact D5_30.out.under ((Below.refl _ _).alloc (Nat.le_refl _) _))
            have D6_36:Hid (IsD w35 (.slice a6 p.a.length c6) (ywd p.a)):=by(rw [←hw35];exact D6_30.out.under ((Below.refl _ _).alloc (Nat.le_refl _) _))
            have S_36:Hid (w35.ownsRow W0.heap.size 3 1 (.slice as0 p.st.r.length cs0) p.st.r.length (intCells p.st.r)):=by(rw [←hw35];exact S_30.out.alloc _)
            have E_36:Hid (w35.ownsRow W0.heap.size 3 1 (.slice (some ⟨g8,0,none⟩) 0 0) 0 []):=by(rw [←hw35];exact E_30.out.alloc _)
            have T_36:Hid (w35.ownsRow W0.heap.size 90 7 (.slice at0 p.t.length ct0) p.t.length (yvk p.t)):=by(rw [←hw35];exact T_30.out.alloc _)
            clear B_30 X_30 D1_30 D5_30 D6_30 S_30 E_30 T_30
            have Z_36:Hid (Bk w35 Pb 97 #[.int .i64 0,.slice none 0 0,.int .i64 0,.int .i64 0,.slice none 0 0,.slice none 0 0,.slice none 0 0]):=by(rw [←hw35];exact hPb▸Bk.new w29 _ _)
            have hz35:Pb<w35.heap.size:=Z_36.out.lt
            have hzy35:w29.heap.size≤Pb∧Pb≤w29.heap.size:=by omega
            clear hw35 hPb
            go_simp
            rw [HW35.out,←HPb.out]
            have Q_36:=yy6 X_36.out
            refine hK.out _ _ Q_36.out (fun hHeld=> ?_)
            clear hK K
            try simp only [Act.put,List.setIfInBounds_toArray,List.set_cons_zero,List.set_cons_succ]
            refine yag (rs:= [11]) (by kernel_rfl) (by simp) ?_
            refine AllReadyZ.cons (o:= {dst:=some 17,op:=Op.call {callee:=Callee.builtin Builtin.append,args:= #[Operand.tmp 14,Operand.tmp 16],argTypes:= #[22,22]},type:=22,pos:=_,after:=_,guard:=none}) rfl (fun K hK=> ?_) AllReadyZ.nil
            refine yvz (w:=w35) rfl (.tmp 14) (.tmp 16) 22 rfl W0.heap.size 3 i3 (.int .i64 0) 1 8 Tryz.underlying22 hi3 hiz0 hiz1 hiz2 rfl (by decide) (.slice (some ⟨g8,0,none⟩) 0 0) 0 [] rfl E_36.out (.slice a6 p.a.length c6) p.a.length (intCells p.a) rfl D6_36.out.srcI (ywn _) (by unfold maxLen;omega) (by omega) B_36.out.size ?_
            intro va w39 hown hgrow hnew
            rw [Nat.zero_add,List.nil_append]at hown
            obtain⟨av0,cv0,hva⟩:=yoj hown
            subst hva
            have HLA:Hid (∀k,(Value.slice av0 p.a.length cv0).ownBlock=some k→k=g8∨(w35.heap.size≤k∧k<w39.heap.size)):=yxg hnew rfl hown
            have hz39:w35.heap.size≤w39.heap.size:=hgrow.size
            have hgt:=yw0 hgrow
            have hS8:∀k,(Value.slice (some ⟨g8,0,none⟩) 0 0).ownBlock=some k→k=g8:=fun k e=>by simpa [Value.ownBlock] using e.symm
            have B_40:=ydq (B_36.out.grown hgrow B_36.out.size (fun k e=>by have:=hS8 k e;omega))
            have X_40:=ydq (X_36.out.turns hgt (fun e=>by have:=hS8 _ e;omega))
            have S_40:=ydq (yfa S_36.out hgt (fun k hk e=>by have:=hS8 k e;have:=HLS.out k hk;omega))
            have T_40:=ydq (yfa T_36.out hgt (fun k hk e=>by have:=hS8 k e;have:=HLT.out k hk;omega))
            have Z_40:=ydq (Z_36.out.turns hgt (fun e=>by have:=hS8 _ e;omega))
            clear B_36 X_36 D1_36 D5_36 D6_36 S_36 E_36 T_36 Z_36
            have A_40:=ydq hown
            clear hown hgrow hnew hgt hS8
            have Q_40:=yy6 X_40.out
            refine hK.out _ _ Q_40.out (fun hHeld=> ?_)
            clear hK K
            try simp only [Act.put,List.setIfInBounds_toArray,List.set_cons_zero,List.set_cons_succ]
            refine yxn 12 {dst:=some 18,op:=Op.build 97 #[(0,Operand.tmp 7),(1,Operand.tmp 10),(3,Operand.tmp 13),(4,Operand.tmp 17)],type:=97,pos:=_,after:=_,guard:=none} (.agg #[.int .i64 p.n,.slice as0 p.st.r.length cs0,.int .i64 p.st.q,.int .i64 p.st.d,.slice none 0 0,.slice at0 p.t.length ct0,.slice av0 p.a.length cv0]) ?_
            try simp only [Act.put,List.setIfInBounds_toArray,List.set_cons_zero,List.set_cons_succ]
            refine yag (rs:= [14]) (by kernel_rfl) (by simp) ?_
            refine AllReadyZ.last (o:= {dst:=none,op:=Op.store 97 (Operand.tmp 3) (Operand.tmp 18),type:=0,pos:=_,after:=_,guard:=none}) rfl (fun K hK=> ?_)
            obtain⟨q0,q1,q2,q3,q4,q5,q6⟩:=c7_7 Z_40.out
            have qf:=Z_40.out.free
            go_simp
            clear qf q0 q1 q2 q3 q4 q5 q6
            refine hK.out _ _ ?_
            clear hK K
            try simp only [Act.put,List.setIfInBounds_toArray,List.set_cons_zero,List.set_cons_succ]
            refine ywa (by kernel_rfl) ?_ _
            obtain⟨X5,hX5⟩:∃X5,put7s w39 Pb (.int .i64 p.n) (.slice as0 p.st.r.length cs0) (.int .i64 p.st.q) (.int .i64 p.st.d) (.slice none 0 0) (.slice at0 p.t.length ct0) (.slice av0 p.a.length cv0)=X5:=⟨_,rfl⟩
            have hP:=Z_40.out.put7s (.int .i64 p.n) (.slice as0 p.st.r.length cs0) (.int .i64 p.st.q) (.int .i64 p.st.d) (.slice none 0 0) (.slice at0 p.t.length ct0) (.slice av0 p.a.length cv0)
            have ht:=yx0 w39 Pb (.int .i64 p.n) (.slice as0 p.st.r.length cs0) (.int .i64 p.st.q) (.int .i64 p.st.d) (.slice none 0 0) (.slice at0 p.t.length ct0) (.slice av0 p.a.length cv0)
            rw [hX5]at hP ht
            unfold put7s at hX5
            rw [hX5]
            clear hX5
            go_wp2
            go_meet
            case rel=>
              refine⟨Pb,.slice as0 p.st.r.length cs0,.slice at0 p.t.length ct0,.slice av0 p.a.length cv0,rfl,B_40.out.trans (ht.to_below (fun k e=>by omega) B_40.out.size),⟨by omega,hP.lt⟩,hP,?_,yfa T_40.out ht (fun k hk e=>by have:=HLT.out k hk;omega),yfa A_40.out ht (fun k hk e=>by have:=HLA.out k hk;omega),fun k hk hk'=> ?_⟩
              · exact yfa S_40.out ht (fun k hk e=>by have:=HLS.out k hk;omega)
              · have h1:=HLS.out k hk
                have h2:=HLA.out k hk'
                omega
        · obtain⟨Pb,hPb⟩:∃g,g=w9.heap.size:=⟨_,rfl⟩
          obtain⟨w31,hw31⟩:∃V,w9.alloc (.cells #[.int .i64 0,.slice none 0 0,.int .i64 0,.int .i64 0,.slice none 0 0,.slice none 0 0,.slice none 0 0] 97)=V:=⟨_,rfl⟩
          have HW31:=ydq hw31
          have HPb:Hid (Pb=w9.heap.size):=hPb
          have hs31:W0.heap.size≤w9.heap.size:=B_10.out.size
          have B_32:Hid (Below W0.heap.size W0 w31):=by(rw [←hw31];exact B_10.out.alloc B_10.out.size _)
          have X_32:Hid (Bk w31 w.heap.size 97 #[.int .i64 p.n,.slice a1 p.st.r.length c1,.int .i64 p.st.q,.int .i64 p.st.d,.slice a4 p.p.length c4,.slice a5 p.t.length c5,.slice a6 p.a.length c6]):=by(rw [←hw31];exact X_10.out.alloc _)
          have D1_32:Hid (IsD w31 (.slice a1 p.st.r.length c1) (ywd p.st.r)):=by(rw [←hw31];exact D1_10.out.under ((Below.refl _ _).alloc (Nat.le_refl _) _))
          have D5_32:Hid (IsD w31 (.slice a5 p.t.length c5) (evsD p.t)):=by(rw [←hw31];exact D5_10.out.under ((Below.refl _ _).alloc (Nat.le_refl _) _))
          have D6_32:Hid (IsD w31 (.slice a6 p.a.length c6) (ywd p.a)):=by(rw [←hw31];exact D6_10.out.under ((Below.refl _ _).alloc (Nat.le_refl _) _))
          have S_32:Hid (w31.ownsRow W0.heap.size 3 1 (.slice as0 p.st.r.length cs0) p.st.r.length (intCells p.st.r)):=by(rw [←hw31];exact S_10.out.alloc _)
          have E_32:Hid (w31.ownsRow W0.heap.size 3 1 (.slice (some ⟨g8,0,none⟩) 0 0) 0 []):=by(rw [←hw31];exact E_10.out.alloc _)
          clear B_10 X_10 D1_10 D5_10 D6_10 S_10 E_10
          have Z_32:Hid (Bk w31 Pb 97 #[.int .i64 0,.slice none 0 0,.int .i64 0,.int .i64 0,.slice none 0 0,.slice none 0 0,.slice none 0 0]):=by(rw [←hw31];exact hPb▸Bk.new w9 _ _)
          have hz31:Pb<w31.heap.size:=Z_32.out.lt
          have hzy31:w9.heap.size≤Pb∧Pb≤w9.heap.size:=by omega
          clear hw31 hPb
          go_simp
          rw [HW31.out,←HPb.out]
          have Q_32:=yy6 X_32.out
          refine hK.out _ _ Q_32.out (fun hHeld=> ?_)
          clear hK K
          try simp only [Act.put,List.setIfInBounds_toArray,List.set_cons_zero,List.set_cons_succ]
          refine yag (rs:= [7]) (by kernel_rfl) (by simp) ?_
          refine AllReadyZ.cons (o:= {dst:=some 13,op:=Op.call {callee:=Callee.value (Operand.func 106),args:= #[Operand.tmp 12],argTypes:= #[34]},type:=34,pos:=_,after:=_,guard:=none}) rfl (fun K hK=> ?_) AllReadyZ.nil
          have hbs41:W0.heap.size≤w31.heap.size:=B_32.out.size
          go_simp
          refine(yx5 _ p.t w31 ht9 D5_32.out.srcEv).mono ?_
          rintro e w41 ⟨vt,rfl,hown,hb⟩
          obtain⟨at0,ct0,hvt⟩:=yoj hown
          subst hvt
          have HLT:Hid (∀k,(Value.slice at0 p.t.length ct0).ownBlock=some k→w31.heap.size≤k∧k<w41.heap.size):=yx7 hown
          have hz41:w31.heap.size≤w41.heap.size:=hb.size
          have B_42:=ydq (trm B_32.out hb)
          have X_42:=ydq (X_32.out.below hb)
          have D1_42:=ydq (D1_32.out.under hb)
          have D5_42:=ydq (D5_32.out.under hb)
          have D6_42:=ydq (D6_32.out.under hb)
          have S_42:=ydq (yfa S_32.out (Turns.of_below hb) (fun _ _=>id))
          have E_42:=ydq (yfa E_32.out (Turns.of_below hb) (fun _ _=>id))
          have Z_42:=ydq (Z_32.out.below hb)
          clear B_32 X_32 D1_32 D5_32 D6_32 S_32 E_32 Z_32
          have T_42:=ydq (yvh hown hbs41)
          clear hown hb
          have Q_42:=yy6 X_42.out
          refine hK.out _ _ Q_42.out (fun hHeld=> ?_)
          clear hK K
          try simp only [Act.put,List.setIfInBounds_toArray,List.set_cons_zero,List.set_cons_succ]
          refine yag (rs:= [11]) (by kernel_rfl) (by simp) ?_
          refine AllReadyZ.cons (o:= {dst:=some 17,op:=Op.call {callee:=Callee.builtin Builtin.append,args:= #[Operand.tmp 14,Operand.tmp 16],argTypes:= #[22,22]},type:=22,pos:=_,after:=_,guard:=none}) rfl (fun K hK=> ?_) AllReadyZ.nil
          refine yvz (w:=w41) rfl (.tmp 14) (.tmp 16) 22 rfl W0.heap.size 3 i3 (.int .i64 0) 1 8 Tryz.underlying22 hi3 hiz0 hiz1 hiz2 rfl (by decide) (.slice (some ⟨g8,0,none⟩) 0 0) 0 [] rfl E_42.out (.slice a6 p.a.length c6) p.a.length (intCells p.a) rfl D6_42.out.srcI (ywn _) (by unfold maxLen;omega) (by omega) B_42.out.size ?_
          intro va w43 hown hgrow hnew
          rw [Nat.zero_add,List.nil_append]at hown
          obtain⟨av0,cv0,hva⟩:=yoj hown
          subst hva
          have HLA:Hid (∀k,(Value.slice av0 p.a.length cv0).ownBlock=some k→k=g8∨(w41.heap.size≤k∧k<w43.heap.size)):=yxg hnew rfl hown
          have hz43:w41.heap.size≤w43.heap.size:=hgrow.size
          have hgt:=yw0 hgrow
          have hS8:∀k,(Value.slice (some ⟨g8,0,none⟩) 0 0).ownBlock=some k→k=g8:=fun k e=>by simpa [Value.ownBlock] using e.symm
          have B_44:=ydq (B_42.out.grown hgrow B_42.out.size (fun k e=>by have:=hS8 k e;omega))
          have X_44:=ydq (X_42.out.turns hgt (fun e=>by have:=hS8 _ e;omega))
          have S_44:=ydq (yfa S_42.out hgt (fun k hk e=>by have:=hS8 k e;have:=HLS.out k hk;omega))
          have Z_44:=ydq (Z_42.out.turns hgt (fun e=>by have:=hS8 _ e;omega))
          have T_44:=ydq (yfa T_42.out hgt (fun k hk e=>by have:=hS8 k e;have:=HLT.out k hk;omega))
          clear B_42 X_42 D1_42 D5_42 D6_42 S_42 E_42 Z_42 T_42
          have A_44:=ydq hown
          clear hown hgrow hnew hgt hS8
          have Q_44:=yy6 X_44.out
          refine hK.out _ _ Q_44.out (fun hHeld=> ?_)
          clear hK K
          try simp only [Act.put,List.setIfInBounds_toArray,List.set_cons_zero,List.set_cons_succ]
          refine yxn 12 {dst:=some 18,op:=Op.build 97 #[(0,Operand.tmp 7),(1,Operand.tmp 10),(3,Operand.tmp 13),(4,Operand.tmp 17)],type:=97,pos:=_,after:=_,guard:=none} (.agg #[.int .i64 p.n,.slice as0 p.st.r.length cs0,.int .i64 p.st.q,.int .i64 p.st.d,.slice none 0 0,.slice at0 p.t.length ct0,.slice av0 p.a.length cv0]) ?_
          try simp only [Act.put,List.setIfInBounds_toArray,List.set_cons_zero,List.set_cons_succ]
          refine yag (rs:= [14]) (by kernel_rfl) (by simp) ?_
          refine AllReadyZ.last (o:= {dst:=none,op:=Op.store 97 (Operand.tmp 3) (Operand.tmp 18),type:=0,pos:=_,after:=_,guard:=none}) rfl (fun K hK=> ?_)
          obtain⟨q0,q1,q2,q3,q4,q5,q6⟩:=c7_7 Z_44.out
          have qf:=Z_44.out.free
          go_simp
          clear qf q0 q1 q2 q3 q4 q5 q6
          refine hK.out _ _ ?_
          clear hK K
          try simp only [Act.put,List.setIfInBounds_toArray,List.set_cons_zero,List.set_cons_succ]
          refine ywa (by kernel_rfl) ?_ _
          obtain⟨X5,hX5⟩:∃X5,put7s w43 Pb (.int .i64 p.n) (.slice as0 p.st.r.length cs0) (.int .i64 p.st.q) (.int .i64 p.st.d) (.slice none 0 0) (.slice at0 p.t.length ct0) (.slice av0 p.a.length cv0)=X5:=⟨_,rfl⟩
          have hP:=Z_44.out.put7s (.int .i64 p.n) (.slice as0 p.st.r.length cs0) (.int .i64 p.st.q) (.int .i64 p.st.d) (.slice none 0 0) (.slice at0 p.t.length ct0) (.slice av0 p.a.length cv0)
          have ht:=yx0 w43 Pb (.int .i64 p.n) (.slice as0 p.st.r.length cs0) (.int .i64 p.st.q) (.int .i64 p.st.d) (.slice none 0 0) (.slice at0 p.t.length ct0) (.slice av0 p.a.length cv0)
          rw [hX5]at hP ht
          unfold put7s at hX5
          rw [hX5]
          clear hX5
          go_wp2
          go_meet
          case rel=>
            refine⟨Pb,.slice as0 p.st.r.length cs0,.slice at0 p.t.length ct0,.slice av0 p.a.length cv0,rfl,B_44.out.trans (ht.to_below (fun k e=>by omega) B_44.out.size),⟨by omega,hP.lt⟩,hP,?_,yfa T_44.out ht (fun k hk e=>by have:=HLT.out k hk;omega),yfa A_44.out ht (fun k hk e=>by have:=HLA.out k hk;omega),fun k hk hk'=> ?_⟩
            · exact yfa S_44.out ht (fun k hk e=>by have:=HLS.out k hk;omega)
            · have h1:=HLS.out k hk
              have h2:=HLA.out k hk'
              omega
      · obtain⟨Pb,hPb⟩:∃g,g=w1.heap.size:=⟨_,rfl⟩
        obtain⟨w11,hw11⟩:∃V,w1.alloc (.cells #[.int .i64 0,.slice none 0 0,.int .i64 0,.int .i64 0,.slice none 0 0,.slice none 0 0,.slice none 0 0] 97)=V:=⟨_,rfl⟩
        have HW11:=ydq hw11
        have HPb:Hid (Pb=w1.heap.size):=hPb
        have hs11:W0.heap.size≤w1.heap.size:=B_2.out.size
        have B_12:Hid (Below W0.heap.size W0 w11):=by(rw [←hw11];exact B_2.out.alloc B_2.out.size _)
        have X_12:Hid (Bk w11 w.heap.size 97 #[.int .i64 p.n,.slice a1 p.st.r.length c1,.int .i64 p.st.q,.int .i64 p.st.d,.slice a4 p.p.length c4,.slice a5 p.t.length c5,.slice a6 p.a.length c6]):=by(rw [←hw11];exact X_2.out.alloc _)
        have D1_12:Hid (IsD w11 (.slice a1 p.st.r.length c1) (ywd p.st.r)):=by(rw [←hw11];exact D1_2.out.under ((Below.refl _ _).alloc (Nat.le_refl _) _))
        have D5_12:Hid (IsD w11 (.slice a5 p.t.length c5) (evsD p.t)):=by(rw [←hw11];exact D5_2.out.under ((Below.refl _ _).alloc (Nat.le_refl _) _))
        have D6_12:Hid (IsD w11 (.slice a6 p.a.length c6) (ywd p.a)):=by(rw [←hw11];exact D6_2.out.under ((Below.refl _ _).alloc (Nat.le_refl _) _))
        have S_12:Hid (w11.ownsRow W0.heap.size 3 1 (.slice as0 p.st.r.length cs0) p.st.r.length (intCells p.st.r)):=by(rw [←hw11];exact S_2.out.alloc _)
        clear B_2 X_2 D1_2 D5_2 D6_2 S_2
        have Z_12:Hid (Bk w11 Pb 97 #[.int .i64 0,.slice none 0 0,.int .i64 0,.int .i64 0,.slice none 0 0,.slice none 0 0,.slice none 0 0]):=by(rw [←hw11];exact hPb▸Bk.new w1 _ _)
        have hz11:Pb<w11.heap.size:=Z_12.out.lt
        have hzy11:w1.heap.size≤Pb∧Pb≤w1.heap.size:=by omega
        clear hw11 hPb
        go_simp
        rw [HW11.out,←HPb.out]
        have Q_12:=yy6 X_12.out
        refine hK.out _ _ Q_12.out (fun hHeld=> ?_)
        clear hK K
        try simp only [Act.put,List.setIfInBounds_toArray,List.set_cons_zero,List.set_cons_succ]
        refine yag (rs:= [7,8]) (by kernel_rfl) (by simp) ?_
        refine AllReadyZ.cons (o:= {dst:=some 13,op:=Op.call {callee:=Callee.value (Operand.func 106),args:= #[Operand.tmp 12],argTypes:= #[34]},type:=34,pos:=_,after:=_,guard:=none}) rfl (fun K hK=> ?_) (AllReadyZ.cons (o:= {dst:=some 14,op:=Op.buildSlice 22 0 #[],type:=22,pos:=_,after:=_,guard:=none}) rfl (fun K hK=> ?_) AllReadyZ.nil)
        · have hbs45:W0.heap.size≤w11.heap.size:=B_12.out.size
          go_simp
          refine(yx5 _ p.t w11 ht9 D5_12.out.srcEv).mono ?_
          rintro e w45 ⟨vt,rfl,hown,hb⟩
          obtain⟨at0,ct0,hvt⟩:=yoj hown
          subst hvt
          have HLT:Hid (∀k,(Value.slice at0 p.t.length ct0).ownBlock=some k→w11.heap.size≤k∧k<w45.heap.size):=yx7 hown
          have hz45:w11.heap.size≤w45.heap.size:=hb.size
          have B_46:=ydq (trm B_12.out hb)
          have X_46:=ydq (X_12.out.below hb)
          have D1_46:=ydq (D1_12.out.under hb)
          have D5_46:=ydq (D5_12.out.under hb)
          have D6_46:=ydq (D6_12.out.under hb)
          have S_46:=ydq (yfa S_12.out (Turns.of_below hb) (fun _ _=>id))
          have Z_46:=ydq (Z_12.out.below hb)
          clear B_12 X_12 D1_12 D5_12 D6_12 S_12 Z_12
          have T_46:=ydq (yvh hown hbs45)
          clear hown hb
          have Q_46:=yy6 X_46.out
          refine hK.out _ _ Q_46.out (fun hHeld=> ?_)
          clear hK K
          try simp only [Act.put,List.setIfInBounds_toArray,List.set_cons_zero,List.set_cons_succ]
          refine yag (rs:= [8]) (by kernel_rfl) (by simp) ?_
          refine AllReadyZ.cons (o:= {dst:=some 14,op:=Op.buildSlice 22 0 #[],type:=22,pos:=_,after:=_,guard:=none}) rfl (fun K hK=> ?_) AllReadyZ.nil
          have hs8:W0.heap.size≤w45.heap.size:=B_46.out.size
          obtain⟨g8,hg8⟩:∃g,g=w45.heap.size:=⟨_,rfl⟩
          obtain⟨w49,hw49⟩:∃V,w45.alloc (.cells #[] 3)=V:=⟨_,rfl⟩
          have HW49:=ydq hw49
          have HG8:Hid (g8=w45.heap.size):=hg8
          have B_50:Hid (Below W0.heap.size W0 w49):=by(rw [←hw49];exact B_46.out.alloc B_46.out.size _)
          have X_50:Hid (Bk w49 w.heap.size 97 #[.int .i64 p.n,.slice a1 p.st.r.length c1,.int .i64 p.st.q,.int .i64 p.st.d,.slice a4 p.p.length c4,.slice a5 p.t.length c5,.slice a6 p.a.length c6]):=by(rw [←hw49];exact X_46.out.alloc _)
          have D1_50:Hid (IsD w49 (.slice a1 p.st.r.length c1) (ywd p.st.r)):=by(rw [←hw49];exact D1_46.out.under ((Below.refl _ _).alloc (Nat.le_refl _) _))
          have D5_50:Hid (IsD w49 (.slice a5 p.t.length c5) (evsD p.t)):=by(rw [←hw49];exact D5_46.out.under ((Below.refl _ _).alloc (Nat.le_refl _) _))
          have D6_50:Hid (IsD w49 (.slice a6 p.a.length c6) (ywd p.a)):=by(rw [←hw49];exact D6_46.out.under ((Below.refl _ _).alloc (Nat.le_refl _) _))
          have S_50:Hid (w49.ownsRow W0.heap.size 3 1 (.slice as0 p.st.r.length cs0) p.st.r.length (intCells p.st.r)):=by(rw [←hw49];exact S_46.out.alloc _)
          have Z_50:Hid (Bk w49 Pb 97 #[.int .i64 0,.slice none 0 0,.int .i64 0,.int .i64 0,.slice none 0 0,.slice none 0 0,.slice none 0 0]):=by(rw [←hw49];exact Z_46.out.alloc _)
          have T_50:Hid (w49.ownsRow W0.heap.size 90 7 (.slice at0 p.t.length ct0) p.t.length (yvk p.t)):=by(rw [←hw49];exact T_46.out.alloc _)
          clear B_46 X_46 D1_46 D5_46 D6_46 S_46 Z_46 T_46
          have E_50:Hid (w49.ownsRow W0.heap.size 3 1 (.slice (some ⟨g8,0,none⟩) 0 0) 0 []):=by(rw [←hw49,hg8];exact yvh (yzc w45) hs8)
          have hz49:g8<w49.heap.size:=by(rw [←hw49,hg8];exact(Bk.new w45 3 #[]).lt)
          have hzy49:w45.heap.size≤g8∧g8≤w45.heap.size:=by omega
          clear hw49 hg8
          go_simp
          rw [HW49.out,←HG8.out]
          have Q_50:=yy6 X_50.out
          refine hK.out _ _ Q_50.out (fun hHeld=> ?_)
          clear hK K
          try simp only [Act.put,List.setIfInBounds_toArray,List.set_cons_zero,List.set_cons_succ]
          refine yag (rs:= [11]) (by kernel_rfl) (by simp) ?_
          refine AllReadyZ.cons (o:= {dst:=some 17,op:=Op.call {callee:=Callee.builtin Builtin.append,args:= #[Operand.tmp 14,Operand.tmp 16],argTypes:= #[22,22]},type:=22,pos:=_,after:=_,guard:=none}) rfl (fun K hK=> ?_) AllReadyZ.nil
          refine yvz (w:=w49) rfl (.tmp 14) (.tmp 16) 22 rfl W0.heap.size 3 i3 (.int .i64 0) 1 8 Tryz.underlying22 hi3 hiz0 hiz1 hiz2 rfl (by decide) (.slice (some ⟨g8,0,none⟩) 0 0) 0 [] rfl E_50.out (.slice a6 p.a.length c6) p.a.length (intCells p.a) rfl D6_50.out.srcI (ywn _) (by unfold maxLen;omega) (by omega) B_50.out.size ?_
          intro va w51 hown hgrow hnew
          rw [Nat.zero_add,List.nil_append]at hown
          obtain⟨av0,cv0,hva⟩:=yoj hown
          subst hva
          have HLA:Hid (∀k,(Value.slice av0 p.a.length cv0).ownBlock=some k→k=g8∨(w49.heap.size≤k∧k<w51.heap.size)):=yxg hnew rfl hown
          have hz51:w49.heap.size≤w51.heap.size:=hgrow.size
          have hgt:=yw0 hgrow
          have hS8:∀k,(Value.slice (some ⟨g8,0,none⟩) 0 0).ownBlock=some k→k=g8:=fun k e=>by simpa [Value.ownBlock] using e.symm
          have B_52:=ydq (B_50.out.grown hgrow B_50.out.size (fun k e=>by have:=hS8 k e;omega))
          have X_52:=ydq (X_50.out.turns hgt (fun e=>by have:=hS8 _ e;omega))
          have S_52:=ydq (yfa S_50.out hgt (fun k hk e=>by have:=hS8 k e;have:=HLS.out k hk;omega))
          have Z_52:=ydq (Z_50.out.turns hgt (fun e=>by have:=hS8 _ e;omega))
          have T_52:=ydq (yfa T_50.out hgt (fun k hk e=>by have:=hS8 k e;have:=HLT.out k hk;omega))
          clear B_50 X_50 D1_50 D5_50 D6_50 S_50 Z_50 T_50 E_50
          have A_52:=ydq hown
          clear hown hgrow hnew hgt hS8
          have Q_52:=yy6 X_52.out
          refine hK.out _ _ Q_52.out (fun hHeld=> ?_)
          clear hK K
          try simp only [Act.put,List.setIfInBounds_toArray,List.set_cons_zero,List.set_cons_succ]
          refine yxn 12 {dst:=some 18,op:=Op.build 97 #[(0,Operand.tmp 7),(1,Operand.tmp 10),(3,Operand.tmp 13),(4,Operand.tmp 17)],type:=97,pos:=_,after:=_,guard:=none} (.agg #[.int .i64 p.n,.slice as0 p.st.r.length cs0,.int .i64 p.st.q,.int .i64 p.st.d,.slice none 0 0,.slice at0 p.t.length ct0,.slice av0 p.a.length cv0]) ?_
          try simp only [Act.put,List.setIfInBounds_toArray,List.set_cons_zero,List.set_cons_succ]
          refine yag (rs:= [14]) (by kernel_rfl) (by simp) ?_
          refine AllReadyZ.last (o:= {dst:=none,op:=Op.store 97 (Operand.tmp 3) (Operand.tmp 18),type:=0,pos:=_,after:=_,guard:=none}) rfl (fun K hK=> ?_)
          obtain⟨q0,q1,q2,q3,q4,q5,q6⟩:=c7_7 Z_52.out
          have qf:=Z_52.out.free
          go_simp
          clear qf q0 q1 q2 q3 q4 q5 q6
          refine hK.out _ _ ?_
          clear hK K
          try simp only [Act.put,List.setIfInBounds_toArray,List.set_cons_zero,List.set_cons_succ]
          refine ywa (by kernel_rfl) ?_ _
          obtain⟨X5,hX5⟩:∃X5,put7s w51 Pb (.int .i64 p.n) (.slice as0 p.st.r.length cs0) (.int .i64 p.st.q) (.int .i64 p.st.d) (.slice none 0 0) (.slice at0 p.t.length ct0) (.slice av0 p.a.length cv0)=X5:=⟨_,rfl⟩
          have hP:=Z_52.out.put7s (.int .i64 p.n) (.slice as0 p.st.r.length cs0) (.int .i64 p.st.q) (.int .i64 p.st.d) (.slice none 0 0) (.slice at0 p.t.length ct0) (.slice av0 p.a.length cv0)
          have ht:=yx0 w51 Pb (.int .i64 p.n) (.slice as0 p.st.r.length cs0) (.int .i64 p.st.q) (.int .i64 p.st.d) (.slice none 0 0) (.slice at0 p.t.length ct0) (.slice av0 p.a.length cv0)
          rw [hX5]at hP ht
          unfold put7s at hX5
          rw [hX5]
          clear hX5
          go_wp2
          go_meet
          case rel=>
            refine⟨Pb,.slice as0 p.st.r.length cs0,.slice at0 p.t.length ct0,.slice av0 p.a.length cv0,rfl,B_52.out.trans (ht.to_below (fun k e=>by omega) B_52.out.size),⟨by omega,hP.lt⟩,hP,?_,yfa T_52.out ht (fun k hk e=>by have:=HLT.out k hk;omega),yfa A_52.out ht (fun k hk e=>by have:=HLA.out k hk;omega),fun k hk hk'=> ?_⟩
            · exact yfa S_52.out ht (fun k hk e=>by have:=HLS.out k hk;omega)
            · have h1:=HLS.out k hk
              have h2:=HLA.out k hk'
              omega
        · have hs8:W0.heap.size≤w11.heap.size:=B_12.out.size
          obtain⟨g8,hg8⟩:∃g,g=w11.heap.size:=⟨_,rfl⟩
          obtain⟨w47,hw47⟩:∃V,w11.alloc (.cells #[] 3)=V:=⟨_,rfl⟩
          have HW47:=ydq hw47
          have HG8:Hid (g8=w11.heap.size):=hg8
          have B_48:Hid (Below W0.heap.size W0 w47):=by(rw [←hw47];exact B_12.out.alloc B_12.out.size _)
          have X_48:Hid (Bk w47 w.heap.size 97 #[.int .i64 p.n,.slice a1 p.st.r.length c1,.int .i64 p.st.q,.int .i64 p.st.d,.slice a4 p.p.length c4,.slice a5 p.t.length c5,.slice a6 p.a.length c6]):=by(rw [←hw47];exact X_12.out.alloc _)
          have D1_48:Hid (IsD w47 (.slice a1 p.st.r.length c1) (ywd p.st.r)):=by(rw [←hw47];exact D1_12.out.under ((Below.refl _ _).alloc (Nat.le_refl _) _))
          have D5_48:Hid (IsD w47 (.slice a5 p.t.length c5) (evsD p.t)):=by(rw [←hw47];exact D5_12.out.under ((Below.refl _ _).alloc (Nat.le_refl _) _))
          have D6_48:Hid (IsD w47 (.slice a6 p.a.length c6) (ywd p.a)):=by(rw [←hw47];exact D6_12.out.under ((Below.refl _ _).alloc (Nat.le_refl _) _))
          have S_48:Hid (w47.ownsRow W0.heap.size 3 1 (.slice as0 p.st.r.length cs0) p.st.r.length (intCells p.st.r)):=by(rw [←hw47];exact S_12.out.alloc _)
          have Z_48:Hid (Bk w47 Pb 97 #[.int .i64 0,.slice none 0 0,.int .i64 0,.int .i64 0,.slice none 0 0,.slice none 0 0,.slice none 0 0]):=by(rw [←hw47];exact Z_12.out.alloc _)
          clear B_12 X_12 D1_12 D5_12 D6_12 S_12 Z_12
          have E_48:Hid (w47.ownsRow W0.heap.size 3 1 (.slice (some ⟨g8,0,none⟩) 0 0) 0 []):=by(rw [←hw47,hg8];exact yvh (yzc w11) hs8)
          have hz47:g8<w47.heap.size:=by(rw [←hw47,hg8];exact(Bk.new w11 3 #[]).lt)
          have hzy47:w11.heap.size≤g8∧g8≤w11.heap.size:=by omega
          clear hw47 hg8
          go_simp
          rw [HW47.out,←HG8.out]
          have Q_48:=yy6 X_48.out
          refine hK.out _ _ Q_48.out (fun hHeld=> ?_)
          clear hK K
          try simp only [Act.put,List.setIfInBounds_toArray,List.set_cons_zero,List.set_cons_succ]
          refine yag (rs:= [7]) (by kernel_rfl) (by simp) ?_
          refine AllReadyZ.cons (o:= {dst:=some 13,op:=Op.call {callee:=Callee.value (Operand.func 106),args:= #[Operand.tmp 12],argTypes:= #[34]},type:=34,pos:=_,after:=_,guard:=none}) rfl (fun K hK=> ?_) AllReadyZ.nil
          have hbs53:W0.heap.size≤w47.heap.size:=B_48.out.size
          go_simp
          refine(yx5 _ p.t w47 ht9 D5_48.out.srcEv).mono ?_
          rintro e w53 ⟨vt,rfl,hown,hb⟩
          obtain⟨at0,ct0,hvt⟩:=yoj hown
          subst hvt
          have HLT:Hid (∀k,(Value.slice at0 p.t.length ct0).ownBlock=some k→w47.heap.size≤k∧k<w53.heap.size):=yx7 hown
          have hz53:w47.heap.size≤w53.heap.size:=hb.size
          have B_54:=ydq (trm B_48.out hb)
          have X_54:=ydq (X_48.out.below hb)
          have D1_54:=ydq (D1_48.out.under hb)
          have D5_54:=ydq (D5_48.out.under hb)
          have D6_54:=ydq (D6_48.out.under hb)
          have S_54:=ydq (yfa S_48.out (Turns.of_below hb) (fun _ _=>id))
          have Z_54:=ydq (Z_48.out.below hb)
          have E_54:=ydq (yfa E_48.out (Turns.of_below hb) (fun _ _=>id))
          clear B_48 X_48 D1_48 D5_48 D6_48 S_48 Z_48 E_48
          have T_54:=ydq (yvh hown hbs53)
          clear hown hb
          have Q_54:=yy6 X_54.out
          refine hK.out _ _ Q_54.out (fun hHeld=> ?_)
          clear hK K
          try simp only [Act.put,List.setIfInBounds_toArray,List.set_cons_zero,List.set_cons_succ]
          refine yag (rs:= [11]) (by kernel_rfl) (by simp) ?_
          refine AllReadyZ.cons (o:= {dst:=some 17,op:=Op.call {callee:=Callee.builtin Builtin.append,args:= #[Operand.tmp 14,Operand.tmp 16],argTypes:= #[22,22]},type:=22,pos:=_,after:=_,guard:=none}) rfl (fun K hK=> ?_) AllReadyZ.nil
          refine yvz (w:=w53) rfl (.tmp 14) (.tmp 16) 22 rfl W0.heap.size 3 i3 (.int .i64 0) 1 8 Tryz.underlying22 hi3 hiz0 hiz1 hiz2 rfl (by decide) (.slice (some ⟨g8,0,none⟩) 0 0) 0 [] rfl E_54.out (.slice a6 p.a.length c6) p.a.length (intCells p.a) rfl D6_54.out.srcI (ywn _) (by unfold maxLen;omega) (by omega) B_54.out.size ?_
          intro va w55 hown hgrow hnew
          rw [Nat.zero_add,List.nil_append]at hown
          obtain⟨av0,cv0,hva⟩:=yoj hown
          subst hva
          have HLA:Hid (∀k,(Value.slice av0 p.a.length cv0).ownBlock=some k→k=g8∨(w53.heap.size≤k∧k<w55.heap.size)):=yxg hnew rfl hown
          have hz55:w53.heap.size≤w55.heap.size:=hgrow.size
          have hgt:=yw0 hgrow
          have hS8:∀k,(Value.slice (some ⟨g8,0,none⟩) 0 0).ownBlock=some k→k=g8:=fun k e=>by simpa [Value.ownBlock] using e.symm
          have B_56:=ydq (B_54.out.grown hgrow B_54.out.size (fun k e=>by have:=hS8 k e;omega))
          have X_56:=ydq (X_54.out.turns hgt (fun e=>by have:=hS8 _ e;omega))
          have S_56:=ydq (yfa S_54.out hgt (fun k hk e=>by have:=hS8 k e;have:=HLS.out k hk;omega))
          have Z_56:=ydq (Z_54.out.turns hgt (fun e=>by have:=hS8 _ e;omega))
          have T_56:=ydq (yfa T_54.out hgt (fun k hk e=>by have:=hS8 k e;have:=HLT.out k hk;omega))
          clear B_54 X_54 D1_54 D5_54 D6_54 S_54 Z_54 E_54 T_54
          have A_56:=ydq hown
          clear hown hgrow hnew hgt hS8
          have Q_56:=yy6 X_56.out
          refine hK.out _ _ Q_56.out (fun hHeld=> ?_)
          clear hK K
          try simp only [Act.put,List.setIfInBounds_toArray,List.set_cons_zero,List.set_cons_succ]
          refine yxn 12 {dst:=some 18,op:=Op.build 97 #[(0,Operand.tmp 7),(1,Operand.tmp 10),(3,Operand.tmp 13),(4,Operand.tmp 17)],type:=97,pos:=_,after:=_,guard:=none} (.agg #[.int .i64 p.n,.slice as0 p.st.r.length cs0,.int .i64 p.st.q,.int .i64 p.st.d,.slice none 0 0,.slice at0 p.t.length ct0,.slice av0 p.a.length cv0]) ?_
          try simp only [Act.put,List.setIfInBounds_toArray,List.set_cons_zero,List.set_cons_succ]
          refine yag (rs:= [14]) (by kernel_rfl) (by simp) ?_
          refine AllReadyZ.last (o:= {dst:=none,op:=Op.store 97 (Operand.tmp 3) (Operand.tmp 18),type:=0,pos:=_,after:=_,guard:=none}) rfl (fun K hK=> ?_)
          obtain⟨q0,q1,q2,q3,q4,q5,q6⟩:=c7_7 Z_56.out
          have qf:=Z_56.out.free
          go_simp
          clear qf q0 q1 q2 q3 q4 q5 q6
          refine hK.out _ _ ?_
          clear hK K
          try simp only [Act.put,List.setIfInBounds_toArray,List.set_cons_zero,List.set_cons_succ]
          refine ywa (by kernel_rfl) ?_ _
          obtain⟨X5,hX5⟩:∃X5,put7s w55 Pb (.int .i64 p.n) (.slice as0 p.st.r.length cs0) (.int .i64 p.st.q) (.int .i64 p.st.d) (.slice none 0 0) (.slice at0 p.t.length ct0) (.slice av0 p.a.length cv0)=X5:=⟨_,rfl⟩
          have hP:=Z_56.out.put7s (.int .i64 p.n) (.slice as0 p.st.r.length cs0) (.int .i64 p.st.q) (.int .i64 p.st.d) (.slice none 0 0) (.slice at0 p.t.length ct0) (.slice av0 p.a.length cv0)
          have ht:=yx0 w55 Pb (.int .i64 p.n) (.slice as0 p.st.r.length cs0) (.int .i64 p.st.q) (.int .i64 p.st.d) (.slice none 0 0) (.slice at0 p.t.length ct0) (.slice av0 p.a.length cv0)
          rw [hX5]at hP ht
          unfold put7s at hX5
          rw [hX5]
          clear hX5
          go_wp2
          go_meet
          case rel=>
            refine⟨Pb,.slice as0 p.st.r.length cs0,.slice at0 p.t.length ct0,.slice av0 p.a.length cv0,rfl,B_56.out.trans (ht.to_below (fun k e=>by omega) B_56.out.size),⟨by omega,hP.lt⟩,hP,?_,yfa T_56.out ht (fun k hk e=>by have:=HLT.out k hk;omega),yfa A_56.out ht (fun k hk e=>by have:=HLA.out k hk;omega),fun k hk hk'=> ?_⟩
            · exact yfa S_56.out ht (fun k hk e=>by have:=HLS.out k hk;omega)
            · have h1:=HLS.out k hk
              have h2:=HLA.out k hk'
              omega
    · have hs8:W0.heap.size≤W0.drew.heap.size:=B_0.out.size
      obtain⟨g8,hg8⟩:∃g,g=W0.heap.size:=⟨_,rfl⟩
      obtain⟨w3,hw3⟩:∃V,(W0.alloc (.cells #[] 3)).drew=V:=⟨_,rfl⟩
      have HW3:=ydq hw3
      have HG8:Hid (g8=W0.heap.size):=hg8
      have B_4:Hid (Below W0.heap.size W0 w3):=by(rw [←hw3];exact B_0.out.alloc B_0.out.size _)
      have X_4:Hid (Bk w3 w.heap.size 97 #[.int .i64 p.n,.slice a1 p.st.r.length c1,.int .i64 p.st.q,.int .i64 p.st.d,.slice a4 p.p.length c4,.slice a5 p.t.length c5,.slice a6 p.a.length c6]):=by(rw [←hw3];exact X_0.out.alloc _)
      have D1_4:Hid (IsD w3 (.slice a1 p.st.r.length c1) (ywd p.st.r)):=by(rw [←hw3];exact D1_0.out.under ((Below.refl _ _).alloc (Nat.le_refl _) _))
      have D5_4:Hid (IsD w3 (.slice a5 p.t.length c5) (evsD p.t)):=by(rw [←hw3];exact D5_0.out.under ((Below.refl _ _).alloc (Nat.le_refl _) _))
      have D6_4:Hid (IsD w3 (.slice a6 p.a.length c6) (ywd p.a)):=by(rw [←hw3];exact D6_0.out.under ((Below.refl _ _).alloc (Nat.le_refl _) _))
      clear B_0 X_0 D1_0 D5_0 D6_0
      have E_4:Hid (w3.ownsRow W0.heap.size 3 1 (.slice (some ⟨g8,0,none⟩) 0 0) 0 []):=by(rw [←hw3,hg8];exact yvh (yzc W0) hs8)
      have hz3:g8<w3.heap.size:=by(rw [←hw3,hg8];exact(Bk.new W0 3 #[]).lt)
      have hzy3:W0.heap.size≤g8∧g8≤W0.heap.size:=by omega
      clear hw3 hg8
      go_simp
      rw [HW3.out,←HG8.out]
      have Q_4:=yy6 X_4.out
      refine hK.out _ _ Q_4.out (fun hHeld=> ?_)
      clear hK K
      try simp only [Act.put,List.setIfInBounds_toArray,List.set_cons_zero,List.set_cons_succ]
      refine yag (rs:= [4,13]) (by kernel_rfl) (by simp) ?_
      refine AllReadyZ.cons (o:= {dst:=some 10,op:=Op.call {callee:=Callee.value (Operand.func 179),args:= #[Operand.tmp 9],argTypes:= #[94]},type:=94,pos:=_,after:=_,guard:=none}) rfl (fun K hK=> ?_) (AllReadyZ.cons (o:= {dst:=some 3,op:=Op.alloc 97,type:=0,pos:=_,after:=_,guard:=none}) rfl (fun K hK=> ?_) AllReadyZ.nil)
      · have hbs57:W0.heap.size≤w3.heap.size:=B_4.out.size
        go_simp
        refine(zam _ _ p.st w3 hr9 rfl D1_4.out).mono ?_
        rintro e w57 ⟨vs0,rfl,hown,hb⟩
        obtain⟨as0,cs0,hvs⟩:=yoj hown
        subst hvs
        have HLS:Hid (∀k,(Value.slice as0 p.st.r.length cs0).ownBlock=some k→w3.heap.size≤k∧k<w57.heap.size):=yx7 hown
        have hz57:w3.heap.size≤w57.heap.size:=hb.size
        have B_58:=ydq (trm B_4.out hb)
        have X_58:=ydq (X_4.out.below hb)
        have D1_58:=ydq (D1_4.out.under hb)
        have D5_58:=ydq (D5_4.out.under hb)
        have D6_58:=ydq (D6_4.out.under hb)
        have E_58:=ydq (yfa E_4.out (Turns.of_below hb) (fun _ _=>id))
        clear B_4 X_4 D1_4 D5_4 D6_4 E_4
        have S_58:=ydq (yvh hown hbs57)
        clear hown hb
        have Q_58:=yy6 X_58.out
        refine hK.out _ _ Q_58.out (fun hHeld=> ?_)
        clear hK K
        try simp only [Act.put,List.setIfInBounds_toArray,List.set_cons_zero,List.set_cons_succ]
        refine yag (rs:= [7,13]) (by kernel_rfl) (by simp) ?_
        refine AllReadyZ.cons (o:= {dst:=some 13,op:=Op.call {callee:=Callee.value (Operand.func 106),args:= #[Operand.tmp 12],argTypes:= #[34]},type:=34,pos:=_,after:=_,guard:=none}) rfl (fun K hK=> ?_) (AllReadyZ.cons (o:= {dst:=some 3,op:=Op.alloc 97,type:=0,pos:=_,after:=_,guard:=none}) rfl (fun K hK=> ?_) AllReadyZ.nil)
        · have hbs61:W0.heap.size≤w57.heap.size:=B_58.out.size
          go_simp
          refine(yx5 _ p.t w57 ht9 D5_58.out.srcEv).mono ?_
          rintro e w61 ⟨vt,rfl,hown,hb⟩
          obtain⟨at0,ct0,hvt⟩:=yoj hown
          subst hvt
          have HLT:Hid (∀k,(Value.slice at0 p.t.length ct0).ownBlock=some k→w57.heap.size≤k∧k<w61.heap.size):=yx7 hown
          have hz61:w57.heap.size≤w61.heap.size:=hb.size
          have B_62:=ydq (trm B_58.out hb)
          have X_62:=ydq (X_58.out.below hb)
          have D1_62:=ydq (D1_58.out.under hb)
          have D5_62:=ydq (D5_58.out.under hb)
          have D6_62:=ydq (D6_58.out.under hb)
          have E_62:=ydq (yfa E_58.out (Turns.of_below hb) (fun _ _=>id))
          have S_62:=ydq (yfa S_58.out (Turns.of_below hb) (fun _ _=>id))
          clear B_58 X_58 D1_58 D5_58 D6_58 E_58 S_58
          have T_62:=ydq (yvh hown hbs61)
          clear hown hb
          have Q_62:=yy6 X_62.out
          refine hK.out _ _ Q_62.out (fun hHeld=> ?_)
          clear hK K
          try simp only [Act.put,List.setIfInBounds_toArray,List.set_cons_zero,List.set_cons_succ]
          refine yag (rs:= [11,13]) (by kernel_rfl) (by simp) ?_
          refine AllReadyZ.cons (o:= {dst:=some 17,op:=Op.call {callee:=Callee.builtin Builtin.append,args:= #[Operand.tmp 14,Operand.tmp 16],argTypes:= #[22,22]},type:=22,pos:=_,after:=_,guard:=none}) rfl (fun K hK=> ?_) (AllReadyZ.cons (o:= {dst:=some 3,op:=Op.alloc 97,type:=0,pos:=_,after:=_,guard:=none}) rfl (fun K hK=> ?_) AllReadyZ.nil)
          · refine yvz (w:=w61) rfl (.tmp 14) (.tmp 16) 22 rfl W0.heap.size 3 i3 (.int .i64 0) 1 8 Tryz.underlying22 hi3 hiz0 hiz1 hiz2 rfl (by decide) (.slice (some ⟨g8,0,none⟩) 0 0) 0 [] rfl E_62.out (.slice a6 p.a.length c6) p.a.length (intCells p.a) rfl D6_62.out.srcI (ywn _) (by unfold maxLen;omega) (by omega) B_62.out.size ?_
            intro va w65 hown hgrow hnew
            rw [Nat.zero_add,List.nil_append]at hown
            obtain⟨av0,cv0,hva⟩:=yoj hown
            subst hva
            have HLA:Hid (∀k,(Value.slice av0 p.a.length cv0).ownBlock=some k→k=g8∨(w61.heap.size≤k∧k<w65.heap.size)):=yxg hnew rfl hown
            have hz65:w61.heap.size≤w65.heap.size:=hgrow.size
            have hgt:=yw0 hgrow
            have hS8:∀k,(Value.slice (some ⟨g8,0,none⟩) 0 0).ownBlock=some k→k=g8:=fun k e=>by simpa [Value.ownBlock] using e.symm
            have B_66:=ydq (B_62.out.grown hgrow B_62.out.size (fun k e=>by have:=hS8 k e;omega))
            have X_66:=ydq (X_62.out.turns hgt (fun e=>by have:=hS8 _ e;omega))
            have S_66:=ydq (yfa S_62.out hgt (fun k hk e=>by have:=hS8 k e;have:=HLS.out k hk;omega))
            have T_66:=ydq (yfa T_62.out hgt (fun k hk e=>by have:=hS8 k e;have:=HLT.out k hk;omega))
            clear B_62 X_62 D1_62 D5_62 D6_62 E_62 S_62 T_62
            have A_66:=ydq hown
            clear hown hgrow hnew hgt hS8
            have Q_66:=yy6 X_66.out
            refine hK.out _ _ Q_66.out (fun hHeld=> ?_)
            clear hK K
            try simp only [Act.put,List.setIfInBounds_toArray,List.set_cons_zero,List.set_cons_succ]
            refine yxn 12 {dst:=some 18,op:=Op.build 97 #[(0,Operand.tmp 7),(1,Operand.tmp 10),(3,Operand.tmp 13),(4,Operand.tmp 17)],type:=97,pos:=_,after:=_,guard:=none} (.agg #[.int .i64 p.n,.slice as0 p.st.r.length cs0,.int .i64 p.st.q,.int .i64 p.st.d,.slice none 0 0,.slice at0 p.t.length ct0,.slice av0 p.a.length cv0]) ?_
            try simp only [Act.put,List.setIfInBounds_toArray,List.set_cons_zero,List.set_cons_succ]
            refine yag (rs:= [13]) (by kernel_rfl) (by simp) ?_
            refine AllReadyZ.cons (o:= {dst:=some 3,op:=Op.alloc 97,type:=0,pos:=_,after:=_,guard:=none}) rfl (fun K hK=> ?_) AllReadyZ.nil
            obtain⟨Pb,hPb⟩:∃g,g=w65.heap.size:=⟨_,rfl⟩
            obtain⟨w69,hw69⟩:∃V,w65.alloc (.cells #[.int .i64 0,.slice none 0 0,.int .i64 0,.int .i64 0,.slice none 0 0,.slice none 0 0,.slice none 0 0] 97)=V:=⟨_,rfl⟩
            have HW69:=ydq hw69
            have HPb:Hid (Pb=w65.heap.size):=hPb
            have hs69:W0.heap.size≤w65.heap.size:=B_66.out.size
            have B_70:Hid (Below W0.heap.size W0 w69):=by(rw [←hw69];exact B_66.out.alloc B_66.out.size _)
            have X_70:Hid (Bk w69 w.heap.size 97 #[.int .i64 p.n,.slice a1 p.st.r.length c1,.int .i64 p.st.q,.int .i64 p.st.d,.slice a4 p.p.length c4,.slice a5 p.t.length c5,.slice a6 p.a.length c6]):=by(rw [←hw69];exact X_66.out.alloc _)
            have S_70:Hid (w69.ownsRow W0.heap.size 3 1 (.slice as0 p.st.r.length cs0) p.st.r.length (intCells p.st.r)):=by(rw [←hw69];exact S_66.out.alloc _)
            have T_70:Hid (w69.ownsRow W0.heap.size 90 7 (.slice at0 p.t.length ct0) p.t.length (yvk p.t)):=by(rw [←hw69];exact T_66.out.alloc _)
            have A_70:Hid (w69.ownsRow W0.heap.size 3 1 (.slice av0 p.a.length cv0) p.a.length (intCells p.a)):=by(rw [←hw69];exact A_66.out.alloc _)
            clear B_66 X_66 S_66 T_66 A_66
            have Z_70:Hid (Bk w69 Pb 97 #[.int .i64 0,.slice none 0 0,.int .i64 0,.int .i64 0,.slice none 0 0,.slice none 0 0,.slice none 0 0]):=by(rw [←hw69];exact hPb▸Bk.new w65 _ _)
            have hz69:Pb<w69.heap.size:=Z_70.out.lt
            have hzy69:w65.heap.size≤Pb∧Pb≤w65.heap.size:=by omega
            clear hw69 hPb
            go_simp
            rw [HW69.out,←HPb.out]
            have Q_70:=yy6 X_70.out
            refine hK.out _ _ Q_70.out (fun hHeld=> ?_)
            clear hK K
            try simp only [Act.put,List.setIfInBounds_toArray,List.set_cons_zero,List.set_cons_succ]
            refine yag (rs:= [14]) (by kernel_rfl) (by simp) ?_
            refine AllReadyZ.last (o:= {dst:=none,op:=Op.store 97 (Operand.tmp 3) (Operand.tmp 18),type:=0,pos:=_,after:=_,guard:=none}) rfl (fun K hK=> ?_)
            obtain⟨q0,q1,q2,q3,q4,q5,q6⟩:=c7_7 Z_70.out
            have qf:=Z_70.out.free
            go_simp
            clear qf q0 q1 q2 q3 q4 q5 q6
            refine hK.out _ _ ?_
            clear hK K
            try simp only [Act.put,List.setIfInBounds_toArray,List.set_cons_zero,List.set_cons_succ]
            refine ywa (by kernel_rfl) ?_ _
            obtain⟨X5,hX5⟩:∃X5,put7s w69 Pb (.int .i64 p.n) (.slice as0 p.st.r.length cs0) (.int .i64 p.st.q) (.int .i64 p.st.d) (.slice none 0 0) (.slice at0 p.t.length ct0) (.slice av0 p.a.length cv0)=X5:=⟨_,rfl⟩
            have hP:=Z_70.out.put7s (.int .i64 p.n) (.slice as0 p.st.r.length cs0) (.int .i64 p.st.q) (.int .i64 p.st.d) (.slice none 0 0) (.slice at0 p.t.length ct0) (.slice av0 p.a.length cv0)
            have ht:=yx0 w69 Pb (.int .i64 p.n) (.slice as0 p.st.r.length cs0) (.int .i64 p.st.q) (.int .i64 p.st.d) (.slice none 0 0) (.slice at0 p.t.length ct0) (.slice av0 p.a.length cv0)
            rw [hX5]at hP ht
            unfold put7s at hX5
            rw [hX5]
            clear hX5
            go_wp2
            go_meet
            case rel=>
              refine⟨Pb,.slice as0 p.st.r.length cs0,.slice at0 p.t.length ct0,.slice av0 p.a.length cv0,rfl,B_70.out.trans (ht.to_below (fun k e=>by omega) B_70.out.size),⟨by omega,hP.lt⟩,hP,?_,yfa T_70.out ht (fun k hk e=>by have:=HLT.out k hk;omega),yfa A_70.out ht (fun k hk e=>by have:=HLA.out k hk;omega),fun k hk hk'=> ?_⟩
              · exact yfa S_70.out ht (fun k hk e=>by have:=HLS.out k hk;omega)
              · have h1:=HLS.out k hk
                have h2:=HLA.out k hk'
                omega
          · obtain⟨Pb,hPb⟩:∃g,g=w61.heap.size:=⟨_,rfl⟩
            obtain⟨w67,hw67⟩:∃V,w61.alloc (.cells #[.int .i64 0,.slice none 0 0,.int .i64 0,.int .i64 0,.slice none 0 0,.slice none 0 0,.slice none 0 0] 97)=V:=⟨_,rfl⟩
            have HW67:=ydq hw67
            have HPb:Hid (Pb=w61.heap.size):=hPb
            have hs67:W0.heap.size≤w61.heap.size:=B_62.out.size
            have B_68:Hid (Below W0.heap.size W0 w67):=by(rw [←hw67];exact B_62.out.alloc B_62.out.size _)
            have X_68:Hid (Bk w67 w.heap.size 97 #[.int .i64 p.n,.slice a1 p.st.r.length c1,.int .i64 p.st.q,.int .i64 p.st.d,.slice a4 p.p.length c4,.slice a5 p.t.length c5,.slice a6 p.a.length c6]):=by(rw [←hw67];exact X_62.out.alloc _)
            have D1_68:Hid (IsD w67 (.slice a1 p.st.r.length c1) (ywd p.st.r)):=by(rw [←hw67];exact D1_62.out.under ((Below.refl _ _).alloc (Nat.le_refl _) _))
            have D5_68:Hid (IsD w67 (.slice a5 p.t.length c5) (evsD p.t)):=by(rw [←hw67];exact D5_62.out.under ((Below.refl _ _).alloc (Nat.le_refl _) _))
            have D6_68:Hid (IsD w67 (.slice a6 p.a.length c6) (ywd p.a)):=by(rw [←hw67];exact D6_62.out.under ((Below.refl _ _).alloc (Nat.le_refl _) _))
            have E_68:Hid (w67.ownsRow W0.heap.size 3 1 (.slice (some ⟨g8,0,none⟩) 0 0) 0 []):=by(rw [←hw67];exact E_62.out.alloc _)
            have S_68:Hid (w67.ownsRow W0.heap.size 3 1 (.slice as0 p.st.r.length cs0) p.st.r.length (intCells p.st.r)):=by(rw [←hw67];exact S_62.out.alloc _)
            have T_68:Hid (w67.ownsRow W0.heap.size 90 7 (.slice at0 p.t.length ct0) p.t.length (yvk p.t)):=by(rw [←hw67];exact T_62.out.alloc _)
            clear B_62 X_62 D1_62 D5_62 D6_62 E_62 S_62 T_62
            have Z_68:Hid (Bk w67 Pb 97 #[.int .i64 0,.slice none 0 0,.int .i64 0,.int .i64 0,.slice none 0 0,.slice none 0 0,.slice none 0 0]):=by(rw [←hw67];exact hPb▸Bk.new w61 _ _)
            have hz67:Pb<w67.heap.size:=Z_68.out.lt
            have hzy67:w61.heap.size≤Pb∧Pb≤w61.heap.size:=by omega
            clear hw67 hPb
            go_simp
            rw [HW67.out,←HPb.out]
            have Q_68:=yy6 X_68.out
            refine hK.out _ _ Q_68.out (fun hHeld=> ?_)
            clear hK K
            try simp only [Act.put,List.setIfInBounds_toArray,List.set_cons_zero,List.set_cons_succ]
            refine yag (rs:= [11]) (by kernel_rfl) (by simp) ?_
            refine AllReadyZ.cons (o:= {dst:=some 17,op:=Op.call {callee:=Callee.builtin Builtin.append,args:= #[Operand.tmp 14,Operand.tmp 16],argTypes:= #[22,22]},type:=22,pos:=_,after:=_,guard:=none}) rfl (fun K hK=> ?_) AllReadyZ.nil
            refine yvz (w:=w67) rfl (.tmp 14) (.tmp 16) 22 rfl W0.heap.size 3 i3 (.int .i64 0) 1 8 Tryz.underlying22 hi3 hiz0 hiz1 hiz2 rfl (by decide) (.slice (some ⟨g8,0,none⟩) 0 0) 0 [] rfl E_68.out (.slice a6 p.a.length c6) p.a.length (intCells p.a) rfl D6_68.out.srcI (ywn _) (by unfold maxLen;omega) (by omega) B_68.out.size ?_
            intro va w71 hown hgrow hnew
            rw [Nat.zero_add,List.nil_append]at hown
            obtain⟨av0,cv0,hva⟩:=yoj hown
            subst hva
            have HLA:Hid (∀k,(Value.slice av0 p.a.length cv0).ownBlock=some k→k=g8∨(w67.heap.size≤k∧k<w71.heap.size)):=yxg hnew rfl hown
            have hz71:w67.heap.size≤w71.heap.size:=hgrow.size
            have hgt:=yw0 hgrow
            have hS8:∀k,(Value.slice (some ⟨g8,0,none⟩) 0 0).ownBlock=some k→k=g8:=fun k e=>by simpa [Value.ownBlock] using e.symm
            have B_72:=ydq (B_68.out.grown hgrow B_68.out.size (fun k e=>by have:=hS8 k e;omega))
            have X_72:=ydq (X_68.out.turns hgt (fun e=>by have:=hS8 _ e;omega))
            have S_72:=ydq (yfa S_68.out hgt (fun k hk e=>by have:=hS8 k e;have:=HLS.out k hk;omega))
            have T_72:=ydq (yfa T_68.out hgt (fun k hk e=>by have:=hS8 k e;have:=HLT.out k hk;omega))
            have Z_72:=ydq (Z_68.out.turns hgt (fun e=>by have:=hS8 _ e;omega))
            clear B_68 X_68 D1_68 D5_68 D6_68 E_68 S_68 T_68 Z_68
            have A_72:=ydq hown
            clear hown hgrow hnew hgt hS8
            have Q_72:=yy6 X_72.out
            refine hK.out _ _ Q_72.out (fun hHeld=> ?_)
            clear hK K
            try simp only [Act.put,List.setIfInBounds_toArray,List.set_cons_zero,List.set_cons_succ]
            refine yxn 12 {dst:=some 18,op:=Op.build 97 #[(0,Operand.tmp 7),(1,Operand.tmp 10),(3,Operand.tmp 13),(4,Operand.tmp 17)],type:=97,pos:=_,after:=_,guard:=none} (.agg #[.int .i64 p.n,.slice as0 p.st.r.length cs0,.int .i64 p.st.q,.int .i64 p.st.d,.slice none 0 0,.slice at0 p.t.length ct0,.slice av0 p.a.length cv0]) ?_
            try simp only [Act.put,List.setIfInBounds_toArray,List.set_cons_zero,List.set_cons_succ]
            refine yag (rs:= [14]) (by kernel_rfl) (by simp) ?_
            refine AllReadyZ.last (o:= {dst:=none,op:=Op.store 97 (Operand.tmp 3) (Operand.tmp 18),type:=0,pos:=_,after:=_,guard:=none}) rfl (fun K hK=> ?_)
            obtain⟨q0,q1,q2,q3,q4,q5,q6⟩:=c7_7 Z_72.out
            have qf:=Z_72.out.free
            go_simp
            clear qf q0 q1 q2 q3 q4 q5 q6
            refine hK.out _ _ ?_
            clear hK K
            try simp only [Act.put,List.setIfInBounds_toArray,List.set_cons_zero,List.set_cons_succ]
            refine ywa (by kernel_rfl) ?_ _
            obtain⟨X5,hX5⟩:∃X5,put7s w71 Pb (.int .i64 p.n) (.slice as0 p.st.r.length cs0) (.int .i64 p.st.q) (.int .i64 p.st.d) (.slice none 0 0) (.slice at0 p.t.length ct0) (.slice av0 p.a.length cv0)=X5:=⟨_,rfl⟩
            have hP:=Z_72.out.put7s (.int .i64 p.n) (.slice as0 p.st.r.length cs0) (.int .i64 p.st.q) (.int .i64 p.st.d) (.slice none 0 0) (.slice at0 p.t.length ct0) (.slice av0 p.a.length cv0)
            have ht:=yx0 w71 Pb (.int .i64 p.n) (.slice as0 p.st.r.length cs0) (.int .i64 p.st.q) (.int .i64 p.st.d) (.slice none 0 0) (.slice at0 p.t.length ct0) (.slice av0 p.a.length cv0)
            rw [hX5]at hP ht
            unfold put7s at hX5
            rw [hX5]
            clear hX5
            go_wp2
            go_meet
            case rel=>
              refine⟨Pb,.slice as0 p.st.r.length cs0,.slice at0 p.t.length ct0,.slice av0 p.a.length cv0,rfl,B_72.out.trans (ht.to_below (fun k e=>by omega) B_72.out.size),⟨by omega,hP.lt⟩,hP,?_,yfa T_72.out ht (fun k hk e=>by have:=HLT.out k hk;omega),yfa A_72.out ht (fun k hk e=>by have:=HLA.out k hk;omega),fun k hk hk'=> ?_⟩
              · exact yfa S_72.out ht (fun k hk e=>by have:=HLS.out k hk;omega)
              · have h1:=HLS.out k hk
                have h2:=HLA.out k hk'
                omega
        · obtain⟨Pb,hPb⟩:∃g,g=w57.heap.size:=⟨_,rfl⟩
          obtain⟨w63,hw63⟩:∃V,w57.alloc (.cells #[.int .i64 0,.slice none 0 0,.int .i64 0,.int .i64 0,.slice none 0 0,.slice none 0 0,.slice none 0 0] 97)=V:=⟨_,rfl⟩
          have HW63:=ydq hw63
          have HPb:Hid (Pb=w57.heap.size):=hPb
          have hs63:W0.heap.size≤w57.heap.size:=B_58.out.size
          have B_64:Hid (Below W0.heap.size W0 w63):=by(rw [←hw63];exact B_58.out.alloc B_58.out.size _)
          have X_64:Hid (Bk w63 w.heap.size 97 #[.int .i64 p.n,.slice a1 p.st.r.length c1,.int .i64 p.st.q,.int .i64 p.st.d,.slice a4 p.p.length c4,.slice a5 p.t.length c5,.slice a6 p.a.length c6]):=by(rw [←hw63];exact X_58.out.alloc _)
          have D1_64:Hid (IsD w63 (.slice a1 p.st.r.length c1) (ywd p.st.r)):=by(rw [←hw63];exact D1_58.out.under ((Below.refl _ _).alloc (Nat.le_refl _) _))
          have D5_64:Hid (IsD w63 (.slice a5 p.t.length c5) (evsD p.t)):=by(rw [←hw63];exact D5_58.out.under ((Below.refl _ _).alloc (Nat.le_refl _) _))
          have D6_64:Hid (IsD w63 (.slice a6 p.a.length c6) (ywd p.a)):=by(rw [←hw63];exact D6_58.out.under ((Below.refl _ _).alloc (Nat.le_refl _) _))
          have E_64:Hid (w63.ownsRow W0.heap.size 3 1 (.slice (some ⟨g8,0,none⟩) 0 0) 0 []):=by(rw [←hw63];exact E_58.out.alloc _)
          have S_64:Hid (w63.ownsRow W0.heap.size 3 1 (.slice as0 p.st.r.length cs0) p.st.r.length (intCells p.st.r)):=by(rw [←hw63];exact S_58.out.alloc _)
          clear B_58 X_58 D1_58 D5_58 D6_58 E_58 S_58
          have Z_64:Hid (Bk w63 Pb 97 #[.int .i64 0,.slice none 0 0,.int .i64 0,.int .i64 0,.slice none 0 0,.slice none 0 0,.slice none 0 0]):=by(rw [←hw63];exact hPb▸Bk.new w57 _ _)
          have hz63:Pb<w63.heap.size:=Z_64.out.lt
          have hzy63:w57.heap.size≤Pb∧Pb≤w57.heap.size:=by omega
          clear hw63 hPb
          go_simp
          rw [HW63.out,←HPb.out]
          have Q_64:=yy6 X_64.out
          refine hK.out _ _ Q_64.out (fun hHeld=> ?_)
          clear hK K
          try simp only [Act.put,List.setIfInBounds_toArray,List.set_cons_zero,List.set_cons_succ]
          refine yag (rs:= [7]) (by kernel_rfl) (by simp) ?_
          refine AllReadyZ.cons (o:= {dst:=some 13,op:=Op.call {callee:=Callee.value (Operand.func 106),args:= #[Operand.tmp 12],argTypes:= #[34]},type:=34,pos:=_,after:=_,guard:=none}) rfl (fun K hK=> ?_) AllReadyZ.nil
          have hbs73:W0.heap.size≤w63.heap.size:=B_64.out.size
          go_simp
          refine(yx5 _ p.t w63 ht9 D5_64.out.srcEv).mono ?_
          rintro e w73 ⟨vt,rfl,hown,hb⟩
          obtain⟨at0,ct0,hvt⟩:=yoj hown
          subst hvt
          have HLT:Hid (∀k,(Value.slice at0 p.t.length ct0).ownBlock=some k→w63.heap.size≤k∧k<w73.heap.size):=yx7 hown
          have hz73:w63.heap.size≤w73.heap.size:=hb.size
          have B_74:=ydq (trm B_64.out hb)
          have X_74:=ydq (X_64.out.below hb)
          have D1_74:=ydq (D1_64.out.under hb)
          have D5_74:=ydq (D5_64.out.under hb)
          have D6_74:=ydq (D6_64.out.under hb)
          have E_74:=ydq (yfa E_64.out (Turns.of_below hb) (fun _ _=>id))
          have S_74:=ydq (yfa S_64.out (Turns.of_below hb) (fun _ _=>id))
          have Z_74:=ydq (Z_64.out.below hb)
          clear B_64 X_64 D1_64 D5_64 D6_64 E_64 S_64 Z_64
          have T_74:=ydq (yvh hown hbs73)
          clear hown hb
          have Q_74:=yy6 X_74.out
          refine hK.out _ _ Q_74.out (fun hHeld=> ?_)
          clear hK K
          try simp only [Act.put,List.setIfInBounds_toArray,List.set_cons_zero,List.set_cons_succ]
          refine yag (rs:= [11]) (by kernel_rfl) (by simp) ?_
          refine AllReadyZ.cons (o:= {dst:=some 17,op:=Op.call {callee:=Callee.builtin Builtin.append,args:= #[Operand.tmp 14,Operand.tmp 16],argTypes:= #[22,22]},type:=22,pos:=_,after:=_,guard:=none}) rfl (fun K hK=> ?_) AllReadyZ.nil
          refine yvz (w:=w73) rfl (.tmp 14) (.tmp 16) 22 rfl W0.heap.size 3 i3 (.int .i64 0) 1 8 Tryz.underlying22 hi3 hiz0 hiz1 hiz2 rfl (by decide) (.slice (some ⟨g8,0,none⟩) 0 0) 0 [] rfl E_74.out (.slice a6 p.a.length c6) p.a.length (intCells p.a) rfl D6_74.out.srcI (ywn _) (by unfold maxLen;omega) (by omega) B_74.out.size ?_
          intro va w75 hown hgrow hnew
          rw [Nat.zero_add,List.nil_append]at hown
          obtain⟨av0,cv0,hva⟩:=yoj hown
          subst hva
          have HLA:Hid (∀k,(Value.slice av0 p.a.length cv0).ownBlock=some k→k=g8∨(w73.heap.size≤k∧k<w75.heap.size)):=yxg hnew rfl hown
          have hz75:w73.heap.size≤w75.heap.size:=hgrow.size
          have hgt:=yw0 hgrow
          have hS8:∀k,(Value.slice (some ⟨g8,0,none⟩) 0 0).ownBlock=some k→k=g8:=fun k e=>by simpa [Value.ownBlock] using e.symm
          have B_76:=ydq (B_74.out.grown hgrow B_74.out.size (fun k e=>by have:=hS8 k e;omega))
          have X_76:=ydq (X_74.out.turns hgt (fun e=>by have:=hS8 _ e;omega))
          have S_76:=ydq (yfa S_74.out hgt (fun k hk e=>by have:=hS8 k e;have:=HLS.out k hk;omega))
          have Z_76:=ydq (Z_74.out.turns hgt (fun e=>by have:=hS8 _ e;omega))
          have T_76:=ydq (yfa T_74.out hgt (fun k hk e=>by have:=hS8 k e;have:=HLT.out k hk;omega))
          clear B_74 X_74 D1_74 D5_74 D6_74 E_74 S_74 Z_74 T_74
          have A_76:=ydq hown
          clear hown hgrow hnew hgt hS8
          have Q_76:=yy6 X_76.out
          refine hK.out _ _ Q_76.out (fun hHeld=> ?_)
          clear hK K
          try simp only [Act.put,List.setIfInBounds_toArray,List.set_cons_zero,List.set_cons_succ]
          refine yxn 12 {dst:=some 18,op:=Op.build 97 #[(0,Operand.tmp 7),(1,Operand.tmp 10),(3,Operand.tmp 13),(4,Operand.tmp 17)],type:=97,pos:=_,after:=_,guard:=none} (.agg #[.int .i64 p.n,.slice as0 p.st.r.length cs0,.int .i64 p.st.q,.int .i64 p.st.d,.slice none 0 0,.slice at0 p.t.length ct0,.slice av0 p.a.length cv0]) ?_
          try simp only [Act.put,List.setIfInBounds_toArray,List.set_cons_zero,List.set_cons_succ]
          refine yag (rs:= [14]) (by kernel_rfl) (by simp) ?_
          refine AllReadyZ.last (o:= {dst:=none,op:=Op.store 97 (Operand.tmp 3) (Operand.tmp 18),type:=0,pos:=_,after:=_,guard:=none}) rfl (fun K hK=> ?_)
          obtain⟨q0,q1,q2,q3,q4,q5,q6⟩:=c7_7 Z_76.out
          have qf:=Z_76.out.free
          go_simp
          clear qf q0 q1 q2 q3 q4 q5 q6
          refine hK.out _ _ ?_
          clear hK K
          try simp only [Act.put,List.setIfInBounds_toArray,List.set_cons_zero,List.set_cons_succ]
          refine ywa (by kernel_rfl) ?_ _
          obtain⟨X5,hX5⟩:∃X5,put7s w75 Pb (.int .i64 p.n) (.slice as0 p.st.r.length cs0) (.int .i64 p.st.q) (.int .i64 p.st.d) (.slice none 0 0) (.slice at0 p.t.length ct0) (.slice av0 p.a.length cv0)=X5:=⟨_,rfl⟩
          have hP:=Z_76.out.put7s (.int .i64 p.n) (.slice as0 p.st.r.length cs0) (.int .i64 p.st.q) (.int .i64 p.st.d) (.slice none 0 0) (.slice at0 p.t.length ct0) (.slice av0 p.a.length cv0)
          have ht:=yx0 w75 Pb (.int .i64 p.n) (.slice as0 p.st.r.length cs0) (.int .i64 p.st.q) (.int .i64 p.st.d) (.slice none 0 0) (.slice at0 p.t.length ct0) (.slice av0 p.a.length cv0)
          rw [hX5]at hP ht
          unfold put7s at hX5
          rw [hX5]
          clear hX5
          go_wp2
          go_meet
          case rel=>
            refine⟨Pb,.slice as0 p.st.r.length cs0,.slice at0 p.t.length ct0,.slice av0 p.a.length cv0,rfl,B_76.out.trans (ht.to_below (fun k e=>by omega) B_76.out.size),⟨by omega,hP.lt⟩,hP,?_,yfa T_76.out ht (fun k hk e=>by have:=HLT.out k hk;omega),yfa A_76.out ht (fun k hk e=>by have:=HLA.out k hk;omega),fun k hk hk'=> ?_⟩
            · exact yfa S_76.out ht (fun k hk e=>by have:=HLS.out k hk;omega)
            · have h1:=HLS.out k hk
              have h2:=HLA.out k hk'
              omega
      · obtain⟨Pb,hPb⟩:∃g,g=w3.heap.size:=⟨_,rfl⟩
        obtain⟨w59,hw59⟩:∃V,w3.alloc (.cells #[.int .i64 0,.slice none 0 0,.int .i64 0,.int .i64 0,.slice none 0 0,.slice none 0 0,.slice none 0 0] 97)=V:=⟨_,rfl⟩
        have HW59:=ydq hw59
        have HPb:Hid (Pb=w3.heap.size):=hPb
        have hs59:W0.heap.size≤w3.heap.size:=B_4.out.size
        have B_60:Hid (Below W0.heap.size W0 w59):=by(rw [←hw59];exact B_4.out.alloc B_4.out.size _)
        have X_60:Hid (Bk w59 w.heap.size 97 #[.int .i64 p.n,.slice a1 p.st.r.length c1,.int .i64 p.st.q,.int .i64 p.st.d,.slice a4 p.p.length c4,.slice a5 p.t.length c5,.slice a6 p.a.length c6]):=by(rw [←hw59];exact X_4.out.alloc _)
        have D1_60:Hid (IsD w59 (.slice a1 p.st.r.length c1) (ywd p.st.r)):=by(rw [←hw59];exact D1_4.out.under ((Below.refl _ _).alloc (Nat.le_refl _) _))
        have D5_60:Hid (IsD w59 (.slice a5 p.t.length c5) (evsD p.t)):=by(rw [←hw59];exact D5_4.out.under ((Below.refl _ _).alloc (Nat.le_refl _) _))
        have D6_60:Hid (IsD w59 (.slice a6 p.a.length c6) (ywd p.a)):=by(rw [←hw59];exact D6_4.out.under ((Below.refl _ _).alloc (Nat.le_refl _) _))
        have E_60:Hid (w59.ownsRow W0.heap.size 3 1 (.slice (some ⟨g8,0,none⟩) 0 0) 0 []):=by(rw [←hw59];exact E_4.out.alloc _)
        clear B_4 X_4 D1_4 D5_4 D6_4 E_4
        have Z_60:Hid (Bk w59 Pb 97 #[.int .i64 0,.slice none 0 0,.int .i64 0,.int .i64 0,.slice none 0 0,.slice none 0 0,.slice none 0 0]):=by(rw [←hw59];exact hPb▸Bk.new w3 _ _)
        have hz59:Pb<w59.heap.size:=Z_60.out.lt
        have hzy59:w3.heap.size≤Pb∧Pb≤w3.heap.size:=by omega
        clear hw59 hPb
        go_simp
        rw [HW59.out,←HPb.out]
        have Q_60:=yy6 X_60.out
        refine hK.out _ _ Q_60.out (fun hHeld=> ?_)
        clear hK K
        try simp only [Act.put,List.setIfInBounds_toArray,List.set_cons_zero,List.set_cons_succ]
        refine yag (rs:= [4]) (by kernel_rfl) (by simp) ?_
        refine AllReadyZ.cons (o:= {dst:=some 10,op:=Op.call {callee:=Callee.value (Operand.func 179),args:= #[Operand.tmp 9],argTypes:= #[94]},type:=94,pos:=_,after:=_,guard:=none}) rfl (fun K hK=> ?_) AllReadyZ.nil
        have hbs77:W0.heap.size≤w59.heap.size:=B_60.out.size
        go_simp
        refine(zam _ _ p.st w59 hr9 rfl D1_60.out).mono ?_
        rintro e w77 ⟨vs0,rfl,hown,hb⟩
        obtain⟨as0,cs0,hvs⟩:=yoj hown
        subst hvs
        have HLS:Hid (∀k,(Value.slice as0 p.st.r.length cs0).ownBlock=some k→w59.heap.size≤k∧k<w77.heap.size):=yx7 hown
        have hz77:w59.heap.size≤w77.heap.size:=hb.size
        have B_78:=ydq (trm B_60.out hb)
        have X_78:=ydq (X_60.out.below hb)
        have D1_78:=ydq (D1_60.out.under hb)
        have D5_78:=ydq (D5_60.out.under hb)
        have D6_78:=ydq (D6_60.out.under hb)
        have E_78:=ydq (yfa E_60.out (Turns.of_below hb) (fun _ _=>id))
        have Z_78:=ydq (Z_60.out.below hb)
        clear B_60 X_60 D1_60 D5_60 D6_60 E_60 Z_60
        have S_78:=ydq (yvh hown hbs77)
        clear hown hb
        have Q_78:=yy6 X_78.out
        refine hK.out _ _ Q_78.out (fun hHeld=> ?_)
        clear hK K
        try simp only [Act.put,List.setIfInBounds_toArray,List.set_cons_zero,List.set_cons_succ]
        refine yag (rs:= [7]) (by kernel_rfl) (by simp) ?_
        refine AllReadyZ.cons (o:= {dst:=some 13,op:=Op.call {callee:=Callee.value (Operand.func 106),args:= #[Operand.tmp 12],argTypes:= #[34]},type:=34,pos:=_,after:=_,guard:=none}) rfl (fun K hK=> ?_) AllReadyZ.nil
        have hbs79:W0.heap.size≤w77.heap.size:=B_78.out.size
        go_simp
        refine(yx5 _ p.t w77 ht9 D5_78.out.srcEv).mono ?_
        rintro e w79 ⟨vt,rfl,hown,hb⟩
        obtain⟨at0,ct0,hvt⟩:=yoj hown
        subst hvt
        have HLT:Hid (∀k,(Value.slice at0 p.t.length ct0).ownBlock=some k→w77.heap.size≤k∧k<w79.heap.size):=yx7 hown
        have hz79:w77.heap.size≤w79.heap.size:=hb.size
        have B_80:=ydq (trm B_78.out hb)
        have X_80:=ydq (X_78.out.below hb)
        have D1_80:=ydq (D1_78.out.under hb)
        have D5_80:=ydq (D5_78.out.under hb)
        have D6_80:=ydq (D6_78.out.under hb)
        have E_80:=ydq (yfa E_78.out (Turns.of_below hb) (fun _ _=>id))
        have Z_80:=ydq (Z_78.out.below hb)
        have S_80:=ydq (yfa S_78.out (Turns.of_below hb) (fun _ _=>id))
        clear B_78 X_78 D1_78 D5_78 D6_78 E_78 Z_78 S_78
        have T_80:=ydq (yvh hown hbs79)
        clear hown hb
        have Q_80:=yy6 X_80.out
        refine hK.out _ _ Q_80.out (fun hHeld=> ?_)
        clear hK K
        try simp only [Act.put,List.setIfInBounds_toArray,List.set_cons_zero,List.set_cons_succ]
        refine yag (rs:= [11]) (by kernel_rfl) (by simp) ?_
        refine AllReadyZ.cons (o:= {dst:=some 17,op:=Op.call {callee:=Callee.builtin Builtin.append,args:= #[Operand.tmp 14,Operand.tmp 16],argTypes:= #[22,22]},type:=22,pos:=_,after:=_,guard:=none}) rfl (fun K hK=> ?_) AllReadyZ.nil
        refine yvz (w:=w79) rfl (.tmp 14) (.tmp 16) 22 rfl W0.heap.size 3 i3 (.int .i64 0) 1 8 Tryz.underlying22 hi3 hiz0 hiz1 hiz2 rfl (by decide) (.slice (some ⟨g8,0,none⟩) 0 0) 0 [] rfl E_80.out (.slice a6 p.a.length c6) p.a.length (intCells p.a) rfl D6_80.out.srcI (ywn _) (by unfold maxLen;omega) (by omega) B_80.out.size ?_
        intro va w81 hown hgrow hnew
        rw [Nat.zero_add,List.nil_append]at hown
        obtain⟨av0,cv0,hva⟩:=yoj hown
        subst hva
        have HLA:Hid (∀k,(Value.slice av0 p.a.length cv0).ownBlock=some k→k=g8∨(w79.heap.size≤k∧k<w81.heap.size)):=yxg hnew rfl hown
        have hz81:w79.heap.size≤w81.heap.size:=hgrow.size
        have hgt:=yw0 hgrow
        have hS8:∀k,(Value.slice (some ⟨g8,0,none⟩) 0 0).ownBlock=some k→k=g8:=fun k e=>by simpa [Value.ownBlock] using e.symm
        have B_82:=ydq (B_80.out.grown hgrow B_80.out.size (fun k e=>by have:=hS8 k e;omega))
        have X_82:=ydq (X_80.out.turns hgt (fun e=>by have:=hS8 _ e;omega))
        have Z_82:=ydq (Z_80.out.turns hgt (fun e=>by have:=hS8 _ e;omega))
        have S_82:=ydq (yfa S_80.out hgt (fun k hk e=>by have:=hS8 k e;have:=HLS.out k hk;omega))
        have T_82:=ydq (yfa T_80.out hgt (fun k hk e=>by have:=hS8 k e;have:=HLT.out k hk;omega))
        clear B_80 X_80 D1_80 D5_80 D6_80 E_80 Z_80 S_80 T_80
        have A_82:=ydq hown
        clear hown hgrow hnew hgt hS8
        have Q_82:=yy6 X_82.out
        refine hK.out _ _ Q_82.out (fun hHeld=> ?_)
        clear hK K
        try simp only [Act.put,List.setIfInBounds_toArray,List.set_cons_zero,List.set_cons_succ]
        refine yxn 12 {dst:=some 18,op:=Op.build 97 #[(0,Operand.tmp 7),(1,Operand.tmp 10),(3,Operand.tmp 13),(4,Operand.tmp 17)],type:=97,pos:=_,after:=_,guard:=none} (.agg #[.int .i64 p.n,.slice as0 p.st.r.length cs0,.int .i64 p.st.q,.int .i64 p.st.d,.slice none 0 0,.slice at0 p.t.length ct0,.slice av0 p.a.length cv0]) ?_
        try simp only [Act.put,List.setIfInBounds_toArray,List.set_cons_zero,List.set_cons_succ]
        refine yag (rs:= [14]) (by kernel_rfl) (by simp) ?_
        refine AllReadyZ.last (o:= {dst:=none,op:=Op.store 97 (Operand.tmp 3) (Operand.tmp 18),type:=0,pos:=_,after:=_,guard:=none}) rfl (fun K hK=> ?_)
        obtain⟨q0,q1,q2,q3,q4,q5,q6⟩:=c7_7 Z_82.out
        have qf:=Z_82.out.free
        go_simp
        clear qf q0 q1 q2 q3 q4 q5 q6
        refine hK.out _ _ ?_
        clear hK K
        try simp only [Act.put,List.setIfInBounds_toArray,List.set_cons_zero,List.set_cons_succ]
        refine ywa (by kernel_rfl) ?_ _
        obtain⟨X5,hX5⟩:∃X5,put7s w81 Pb (.int .i64 p.n) (.slice as0 p.st.r.length cs0) (.int .i64 p.st.q) (.int .i64 p.st.d) (.slice none 0 0) (.slice at0 p.t.length ct0) (.slice av0 p.a.length cv0)=X5:=⟨_,rfl⟩
        have hP:=Z_82.out.put7s (.int .i64 p.n) (.slice as0 p.st.r.length cs0) (.int .i64 p.st.q) (.int .i64 p.st.d) (.slice none 0 0) (.slice at0 p.t.length ct0) (.slice av0 p.a.length cv0)
        have ht:=yx0 w81 Pb (.int .i64 p.n) (.slice as0 p.st.r.length cs0) (.int .i64 p.st.q) (.int .i64 p.st.d) (.slice none 0 0) (.slice at0 p.t.length ct0) (.slice av0 p.a.length cv0)
        rw [hX5]at hP ht
        unfold put7s at hX5
        rw [hX5]
        clear hX5
        go_wp2
        go_meet
        case rel=>
          refine⟨Pb,.slice as0 p.st.r.length cs0,.slice at0 p.t.length ct0,.slice av0 p.a.length cv0,rfl,B_82.out.trans (ht.to_below (fun k e=>by omega) B_82.out.size),⟨by omega,hP.lt⟩,hP,?_,yfa T_82.out ht (fun k hk e=>by have:=HLT.out k hk;omega),yfa A_82.out ht (fun k hk e=>by have:=HLA.out k hk;omega),fun k hk hk'=> ?_⟩
          · exact yfa S_82.out ht (fun k hk e=>by have:=HLS.out k hk;omega)
          · have h1:=HLS.out k hk
            have h2:=HLA.out k hk'
            omega
    · obtain⟨Pb,hPb⟩:∃g,g=W0.heap.size:=⟨_,rfl⟩
      obtain⟨w5,hw5⟩:∃V,(W0.alloc (.cells #[.int .i64 0,.slice none 0 0,.int .i64 0,.int .i64 0,.slice none 0 0,.slice none 0 0,.slice none 0 0] 97)).drew=V:=⟨_,rfl⟩
      have HW5:=ydq hw5
      have HPb:Hid (Pb=W0.heap.size):=hPb
      have hs5:W0.heap.size≤W0.drew.heap.size:=B_0.out.size
      have B_6:Hid (Below W0.heap.size W0 w5):=by(rw [←hw5];exact B_0.out.alloc B_0.out.size _)
      have X_6:Hid (Bk w5 w.heap.size 97 #[.int .i64 p.n,.slice a1 p.st.r.length c1,.int .i64 p.st.q,.int .i64 p.st.d,.slice a4 p.p.length c4,.slice a5 p.t.length c5,.slice a6 p.a.length c6]):=by(rw [←hw5];exact X_0.out.alloc _)
      have D1_6:Hid (IsD w5 (.slice a1 p.st.r.length c1) (ywd p.st.r)):=by(rw [←hw5];exact D1_0.out.under ((Below.refl _ _).alloc (Nat.le_refl _) _))
      have D5_6:Hid (IsD w5 (.slice a5 p.t.length c5) (evsD p.t)):=by(rw [←hw5];exact D5_0.out.under ((Below.refl _ _).alloc (Nat.le_refl _) _))
      have D6_6:Hid (IsD w5 (.slice a6 p.a.length c6) (ywd p.a)):=by(rw [←hw5];exact D6_0.out.under ((Below.refl _ _).alloc (Nat.le_refl _) _))
      clear B_0 X_0 D1_0 D5_0 D6_0
      have Z_6:Hid (Bk w5 Pb 97 #[.int .i64 0,.slice none 0 0,.int .i64 0,.int .i64 0,.slice none 0 0,.slice none 0 0,.slice none 0 0]):=by(rw [←hw5];exact hPb▸Bk.new W0 _ _)
      have hz5:Pb<w5.heap.size:=Z_6.out.lt
      have hzy5:W0.heap.size≤Pb∧Pb≤W0.heap.size:=by omega
      clear hw5 hPb
      go_simp
      rw [HW5.out,←HPb.out]
      have Q_6:=yy6 X_6.out
      refine hK.out _ _ Q_6.out (fun hHeld=> ?_)
      clear hK K
      try simp only [Act.put,List.setIfInBounds_toArray,List.set_cons_zero,List.set_cons_succ]
      refine yag (rs:= [4,8]) (by kernel_rfl) (by simp) ?_
      refine AllReadyZ.cons (o:= {dst:=some 10,op:=Op.call {callee:=Callee.value (Operand.func 179),args:= #[Operand.tmp 9],argTypes:= #[94]},type:=94,pos:=_,after:=_,guard:=none}) rfl (fun K hK=> ?_) (AllReadyZ.cons (o:= {dst:=some 14,op:=Op.buildSlice 22 0 #[],type:=22,pos:=_,after:=_,guard:=none}) rfl (fun K hK=> ?_) AllReadyZ.nil)
      · have hbs83:W0.heap.size≤w5.heap.size:=B_6.out.size
        go_simp
        refine(zam _ _ p.st w5 hr9 rfl D1_6.out).mono ?_
        rintro e w83 ⟨vs0,rfl,hown,hb⟩
        obtain⟨as0,cs0,hvs⟩:=yoj hown
        subst hvs
        have HLS:Hid (∀k,(Value.slice as0 p.st.r.length cs0).ownBlock=some k→w5.heap.size≤k∧k<w83.heap.size):=yx7 hown
        have hz83:w5.heap.size≤w83.heap.size:=hb.size
        have B_84:=ydq (trm B_6.out hb)
        have X_84:=ydq (X_6.out.below hb)
        have D1_84:=ydq (D1_6.out.under hb)
        have D5_84:=ydq (D5_6.out.under hb)
        have D6_84:=ydq (D6_6.out.under hb)
        have Z_84:=ydq (Z_6.out.below hb)
        clear B_6 X_6 D1_6 D5_6 D6_6 Z_6
        have S_84:=ydq (yvh hown hbs83)
        clear hown hb
        have Q_84:=yy6 X_84.out
        refine hK.out _ _ Q_84.out (fun hHeld=> ?_)
        clear hK K
        try simp only [Act.put,List.setIfInBounds_toArray,List.set_cons_zero,List.set_cons_succ]
        refine yag (rs:= [7,8]) (by kernel_rfl) (by simp) ?_
        refine AllReadyZ.cons (o:= {dst:=some 13,op:=Op.call {callee:=Callee.value (Operand.func 106),args:= #[Operand.tmp 12],argTypes:= #[34]},type:=34,pos:=_,after:=_,guard:=none}) rfl (fun K hK=> ?_) (AllReadyZ.cons (o:= {dst:=some 14,op:=Op.buildSlice 22 0 #[],type:=22,pos:=_,after:=_,guard:=none}) rfl (fun K hK=> ?_) AllReadyZ.nil)
        · have hbs87:W0.heap.size≤w83.heap.size:=B_84.out.size
          go_simp
          refine(yx5 _ p.t w83 ht9 D5_84.out.srcEv).mono ?_
          rintro e w87 ⟨vt,rfl,hown,hb⟩
          obtain⟨at0,ct0,hvt⟩:=yoj hown
          subst hvt
          have HLT:Hid (∀k,(Value.slice at0 p.t.length ct0).ownBlock=some k→w83.heap.size≤k∧k<w87.heap.size):=yx7 hown
          have hz87:w83.heap.size≤w87.heap.size:=hb.size
          have B_88:=ydq (trm B_84.out hb)
          have X_88:=ydq (X_84.out.below hb)
          have D1_88:=ydq (D1_84.out.under hb)
          have D5_88:=ydq (D5_84.out.under hb)
          have D6_88:=ydq (D6_84.out.under hb)
          have Z_88:=ydq (Z_84.out.below hb)
          have S_88:=ydq (yfa S_84.out (Turns.of_below hb) (fun _ _=>id))
          clear B_84 X_84 D1_84 D5_84 D6_84 Z_84 S_84
          have T_88:=ydq (yvh hown hbs87)
          clear hown hb
          have Q_88:=yy6 X_88.out
          refine hK.out _ _ Q_88.out (fun hHeld=> ?_)
          clear hK K
          try simp only [Act.put,List.setIfInBounds_toArray,List.set_cons_zero,List.set_cons_succ]
          refine yag (rs:= [8]) (by kernel_rfl) (by simp) ?_
          refine AllReadyZ.cons (o:= {dst:=some 14,op:=Op.buildSlice 22 0 #[],type:=22,pos:=_,after:=_,guard:=none}) rfl (fun K hK=> ?_) AllReadyZ.nil
          have hs8:W0.heap.size≤w87.heap.size:=B_88.out.size
          obtain⟨g8,hg8⟩:∃g,g=w87.heap.size:=⟨_,rfl⟩
          obtain⟨w91,hw91⟩:∃V,w87.alloc (.cells #[] 3)=V:=⟨_,rfl⟩
          have HW91:=ydq hw91
          have HG8:Hid (g8=w87.heap.size):=hg8
          have B_92:Hid (Below W0.heap.size W0 w91):=by(rw [←hw91];exact B_88.out.alloc B_88.out.size _)
          have X_92:Hid (Bk w91 w.heap.size 97 #[.int .i64 p.n,.slice a1 p.st.r.length c1,.int .i64 p.st.q,.int .i64 p.st.d,.slice a4 p.p.length c4,.slice a5 p.t.length c5,.slice a6 p.a.length c6]):=by(rw [←hw91];exact X_88.out.alloc _)
          have D1_92:Hid (IsD w91 (.slice a1 p.st.r.length c1) (ywd p.st.r)):=by(rw [←hw91];exact D1_88.out.under ((Below.refl _ _).alloc (Nat.le_refl _) _))
          have D5_92:Hid (IsD w91 (.slice a5 p.t.length c5) (evsD p.t)):=by(rw [←hw91];exact D5_88.out.under ((Below.refl _ _).alloc (Nat.le_refl _) _))
          have D6_92:Hid (IsD w91 (.slice a6 p.a.length c6) (ywd p.a)):=by(rw [←hw91];exact D6_88.out.under ((Below.refl _ _).alloc (Nat.le_refl _) _))
          have Z_92:Hid (Bk w91 Pb 97 #[.int .i64 0,.slice none 0 0,.int .i64 0,.int .i64 0,.slice none 0 0,.slice none 0 0,.slice none 0 0]):=by(rw [←hw91];exact Z_88.out.alloc _)
          have S_92:Hid (w91.ownsRow W0.heap.size 3 1 (.slice as0 p.st.r.length cs0) p.st.r.length (intCells p.st.r)):=by(rw [←hw91];exact S_88.out.alloc _)
          have T_92:Hid (w91.ownsRow W0.heap.size 90 7 (.slice at0 p.t.length ct0) p.t.length (yvk p.t)):=by(rw [←hw91];exact T_88.out.alloc _)
          clear B_88 X_88 D1_88 D5_88 D6_88 Z_88 S_88 T_88
          have E_92:Hid (w91.ownsRow W0.heap.size 3 1 (.slice (some ⟨g8,0,none⟩) 0 0) 0 []):=by(rw [←hw91,hg8];exact yvh (yzc w87) hs8)
          have hz91:g8<w91.heap.size:=by(rw [←hw91,hg8];exact(Bk.new w87 3 #[]).lt)
          have hzy91:w87.heap.size≤g8∧g8≤w87.heap.size:=by omega
          clear hw91 hg8
          go_simp
          rw [HW91.out,←HG8.out]
          have Q_92:=yy6 X_92.out
          refine hK.out _ _ Q_92.out (fun hHeld=> ?_)
          clear hK K
          try simp only [Act.put,List.setIfInBounds_toArray,List.set_cons_zero,List.set_cons_succ]
          refine yag (rs:= [11]) (by kernel_rfl) (by simp) ?_
          refine AllReadyZ.cons (o:= {dst:=some 17,op:=Op.call {callee:=Callee.builtin Builtin.append,args:= #[Operand.tmp 14,Operand.tmp 16],argTypes:= #[22,22]},type:=22,pos:=_,after:=_,guard:=none}) rfl (fun K hK=> ?_) AllReadyZ.nil
          refine yvz (w:=w91) rfl (.tmp 14) (.tmp 16) 22 rfl W0.heap.size 3 i3 (.int .i64 0) 1 8 Tryz.underlying22 hi3 hiz0 hiz1 hiz2 rfl (by decide) (.slice (some ⟨g8,0,none⟩) 0 0) 0 [] rfl E_92.out (.slice a6 p.a.length c6) p.a.length (intCells p.a) rfl D6_92.out.srcI (ywn _) (by unfold maxLen;omega) (by omega) B_92.out.size ?_
          intro va w93 hown hgrow hnew
          rw [Nat.zero_add,List.nil_append]at hown
          obtain⟨av0,cv0,hva⟩:=yoj hown
          subst hva
          have HLA:Hid (∀k,(Value.slice av0 p.a.length cv0).ownBlock=some k→k=g8∨(w91.heap.size≤k∧k<w93.heap.size)):=yxg hnew rfl hown
          have hz93:w91.heap.size≤w93.heap.size:=hgrow.size
          have hgt:=yw0 hgrow
          have hS8:∀k,(Value.slice (some ⟨g8,0,none⟩) 0 0).ownBlock=some k→k=g8:=fun k e=>by simpa [Value.ownBlock] using e.symm
          have B_94:=ydq (B_92.out.grown hgrow B_92.out.size (fun k e=>by have:=hS8 k e;omega))
          have X_94:=ydq (X_92.out.turns hgt (fun e=>by have:=hS8 _ e;omega))
          have Z_94:=ydq (Z_92.out.turns hgt (fun e=>by have:=hS8 _ e;omega))
          have S_94:=ydq (yfa S_92.out hgt (fun k hk e=>by have:=hS8 k e;have:=HLS.out k hk;omega))
          have T_94:=ydq (yfa T_92.out hgt (fun k hk e=>by have:=hS8 k e;have:=HLT.out k hk;omega))
          clear B_92 X_92 D1_92 D5_92 D6_92 Z_92 S_92 T_92 E_92
          have A_94:=ydq hown
          clear hown hgrow hnew hgt hS8
          have Q_94:=yy6 X_94.out
          refine hK.out _ _ Q_94.out (fun hHeld=> ?_)
          clear hK K
          try simp only [Act.put,List.setIfInBounds_toArray,List.set_cons_zero,List.set_cons_succ]
          refine yxn 12 {dst:=some 18,op:=Op.build 97 #[(0,Operand.tmp 7),(1,Operand.tmp 10),(3,Operand.tmp 13),(4,Operand.tmp 17)],type:=97,pos:=_,after:=_,guard:=none} (.agg #[.int .i64 p.n,.slice as0 p.st.r.length cs0,.int .i64 p.st.q,.int .i64 p.st.d,.slice none 0 0,.slice at0 p.t.length ct0,.slice av0 p.a.length cv0]) ?_
          try simp only [Act.put,List.setIfInBounds_toArray,List.set_cons_zero,List.set_cons_succ]
          refine yag (rs:= [14]) (by kernel_rfl) (by simp) ?_
          refine AllReadyZ.last (o:= {dst:=none,op:=Op.store 97 (Operand.tmp 3) (Operand.tmp 18),type:=0,pos:=_,after:=_,guard:=none}) rfl (fun K hK=> ?_)
          obtain⟨q0,q1,q2,q3,q4,q5,q6⟩:=c7_7 Z_94.out
          have qf:=Z_94.out.free
          go_simp
          clear qf q0 q1 q2 q3 q4 q5 q6
          refine hK.out _ _ ?_
          clear hK K
          try simp only [Act.put,List.setIfInBounds_toArray,List.set_cons_zero,List.set_cons_succ]
          refine ywa (by kernel_rfl) ?_ _
          obtain⟨X5,hX5⟩:∃X5,put7s w93 Pb (.int .i64 p.n) (.slice as0 p.st.r.length cs0) (.int .i64 p.st.q) (.int .i64 p.st.d) (.slice none 0 0) (.slice at0 p.t.length ct0) (.slice av0 p.a.length cv0)=X5:=⟨_,rfl⟩
          have hP:=Z_94.out.put7s (.int .i64 p.n) (.slice as0 p.st.r.length cs0) (.int .i64 p.st.q) (.int .i64 p.st.d) (.slice none 0 0) (.slice at0 p.t.length ct0) (.slice av0 p.a.length cv0)
          have ht:=yx0 w93 Pb (.int .i64 p.n) (.slice as0 p.st.r.length cs0) (.int .i64 p.st.q) (.int .i64 p.st.d) (.slice none 0 0) (.slice at0 p.t.length ct0) (.slice av0 p.a.length cv0)
          rw [hX5]at hP ht
          unfold put7s at hX5
          rw [hX5]
          clear hX5
          go_wp2
          go_meet
          case rel=>
            refine⟨Pb,.slice as0 p.st.r.length cs0,.slice at0 p.t.length ct0,.slice av0 p.a.length cv0,rfl,B_94.out.trans (ht.to_below (fun k e=>by omega) B_94.out.size),⟨by omega,hP.lt⟩,hP,?_,yfa T_94.out ht (fun k hk e=>by have:=HLT.out k hk;omega),yfa A_94.out ht (fun k hk e=>by have:=HLA.out k hk;omega),fun k hk hk'=> ?_⟩
            · exact yfa S_94.out ht (fun k hk e=>by have:=HLS.out k hk;omega)
            · have h1:=HLS.out k hk
              have h2:=HLA.out k hk'
              omega
        · have hs8:W0.heap.size≤w83.heap.size:=B_84.out.size
          obtain⟨g8,hg8⟩:∃g,g=w83.heap.size:=⟨_,rfl⟩
          obtain⟨w89,hw89⟩:∃V,w83.alloc (.cells #[] 3)=V:=⟨_,rfl⟩
          have HW89:=ydq hw89
          have HG8:Hid (g8=w83.heap.size):=hg8
          have B_90:Hid (Below W0.heap.size W0 w89):=by(rw [←hw89];exact B_84.out.alloc B_84.out.size _)
          have X_90:Hid (Bk w89 w.heap.size 97 #[.int .i64 p.n,.slice a1 p.st.r.length c1,.int .i64 p.st.q,.int .i64 p.st.d,.slice a4 p.p.length c4,.slice a5 p.t.length c5,.slice a6 p.a.length c6]):=by(rw [←hw89];exact X_84.out.alloc _)
          have D1_90:Hid (IsD w89 (.slice a1 p.st.r.length c1) (ywd p.st.r)):=by(rw [←hw89];exact D1_84.out.under ((Below.refl _ _).alloc (Nat.le_refl _) _))
          have D5_90:Hid (IsD w89 (.slice a5 p.t.length c5) (evsD p.t)):=by(rw [←hw89];exact D5_84.out.under ((Below.refl _ _).alloc (Nat.le_refl _) _))
          have D6_90:Hid (IsD w89 (.slice a6 p.a.length c6) (ywd p.a)):=by(rw [←hw89];exact D6_84.out.under ((Below.refl _ _).alloc (Nat.le_refl _) _))
          have Z_90:Hid (Bk w89 Pb 97 #[.int .i64 0,.slice none 0 0,.int .i64 0,.int .i64 0,.slice none 0 0,.slice none 0 0,.slice none 0 0]):=by(rw [←hw89];exact Z_84.out.alloc _)
          have S_90:Hid (w89.ownsRow W0.heap.size 3 1 (.slice as0 p.st.r.length cs0) p.st.r.length (intCells p.st.r)):=by(rw [←hw89];exact S_84.out.alloc _)
          clear B_84 X_84 D1_84 D5_84 D6_84 Z_84 S_84
          have E_90:Hid (w89.ownsRow W0.heap.size 3 1 (.slice (some ⟨g8,0,none⟩) 0 0) 0 []):=by(rw [←hw89,hg8];exact yvh (yzc w83) hs8)
          have hz89:g8<w89.heap.size:=by(rw [←hw89,hg8];exact(Bk.new w83 3 #[]).lt)
          have hzy89:w83.heap.size≤g8∧g8≤w83.heap.size:=by omega
          clear hw89 hg8
          go_simp
          rw [HW89.out,←HG8.out]
          have Q_90:=yy6 X_90.out
          refine hK.out _ _ Q_90.out (fun hHeld=> ?_)
          clear hK K
          try simp only [Act.put,List.setIfInBounds_toArray,List.set_cons_zero,List.set_cons_succ]
          refine yag (rs:= [7]) (by kernel_rfl) (by simp) ?_
          refine AllReadyZ.cons (o:= {dst:=some 13,op:=Op.call {callee:=Callee.value (Operand.func 106),args:= #[Operand.tmp 12],argTypes:= #[34]},type:=34,pos:=_,after:=_,guard:=none}) rfl (fun K hK=> ?_) AllReadyZ.nil
          have hbs95:W0.heap.size≤w89.heap.size:=B_90.out.size
          go_simp
          refine(yx5 _ p.t w89 ht9 D5_90.out.srcEv).mono ?_
          rintro e w95 ⟨vt,rfl,hown,hb⟩
          obtain⟨at0,ct0,hvt⟩:=yoj hown
          subst hvt
          have HLT:Hid (∀k,(Value.slice at0 p.t.length ct0).ownBlock=some k→w89.heap.size≤k∧k<w95.heap.size):=yx7 hown
          have hz95:w89.heap.size≤w95.heap.size:=hb.size
          have B_96:=ydq (trm B_90.out hb)
          have X_96:=ydq (X_90.out.below hb)
          have D1_96:=ydq (D1_90.out.under hb)
          have D5_96:=ydq (D5_90.out.under hb)
          have D6_96:=ydq (D6_90.out.under hb)
          have Z_96:=ydq (Z_90.out.below hb)
          have S_96:=ydq (yfa S_90.out (Turns.of_below hb) (fun _ _=>id))
          have E_96:=ydq (yfa E_90.out (Turns.of_below hb) (fun _ _=>id))
          clear B_90 X_90 D1_90 D5_90 D6_90 Z_90 S_90 E_90
          have T_96:=ydq (yvh hown hbs95)
          clear hown hb
          have Q_96:=yy6 X_96.out
          refine hK.out _ _ Q_96.out (fun hHeld=> ?_)
          clear hK K
          try simp only [Act.put,List.setIfInBounds_toArray,List.set_cons_zero,List.set_cons_succ]
          refine yag (rs:= [11]) (by kernel_rfl) (by simp) ?_
          refine AllReadyZ.cons (o:= {dst:=some 17,op:=Op.call {callee:=Callee.builtin Builtin.append,args:= #[Operand.tmp 14,Operand.tmp 16],argTypes:= #[22,22]},type:=22,pos:=_,after:=_,guard:=none}) rfl (fun K hK=> ?_) AllReadyZ.nil
          refine yvz (w:=w95) rfl (.tmp 14) (.tmp 16) 22 rfl W0.heap.size 3 i3 (.int .i64 0) 1 8 Tryz.underlying22 hi3 hiz0 hiz1 hiz2 rfl (by decide) (.slice (some ⟨g8,0,none⟩) 0 0) 0 [] rfl E_96.out (.slice a6 p.a.length c6) p.a.length (intCells p.a) rfl D6_96.out.srcI (ywn _) (by unfold maxLen;omega) (by omega) B_96.out.size ?_
          intro va w97 hown hgrow hnew
          rw [Nat.zero_add,List.nil_append]at hown
          obtain⟨av0,cv0,hva⟩:=yoj hown
          subst hva
          have HLA:Hid (∀k,(Value.slice av0 p.a.length cv0).ownBlock=some k→k=g8∨(w95.heap.size≤k∧k<w97.heap.size)):=yxg hnew rfl hown
          have hz97:w95.heap.size≤w97.heap.size:=hgrow.size
          have hgt:=yw0 hgrow
          have hS8:∀k,(Value.slice (some ⟨g8,0,none⟩) 0 0).ownBlock=some k→k=g8:=fun k e=>by simpa [Value.ownBlock] using e.symm
          have B_98:=ydq (B_96.out.grown hgrow B_96.out.size (fun k e=>by have:=hS8 k e;omega))
          have X_98:=ydq (X_96.out.turns hgt (fun e=>by have:=hS8 _ e;omega))
          have Z_98:=ydq (Z_96.out.turns hgt (fun e=>by have:=hS8 _ e;omega))
          have S_98:=ydq (yfa S_96.out hgt (fun k hk e=>by have:=hS8 k e;have:=HLS.out k hk;omega))
          have T_98:=ydq (yfa T_96.out hgt (fun k hk e=>by have:=hS8 k e;have:=HLT.out k hk;omega))
          clear B_96 X_96 D1_96 D5_96 D6_96 Z_96 S_96 E_96 T_96
          have A_98:=ydq hown
          clear hown hgrow hnew hgt hS8
          have Q_98:=yy6 X_98.out
          refine hK.out _ _ Q_98.out (fun hHeld=> ?_)
          clear hK K
          try simp only [Act.put,List.setIfInBounds_toArray,List.set_cons_zero,List.set_cons_succ]
          refine yxn 12 {dst:=some 18,op:=Op.build 97 #[(0,Operand.tmp 7),(1,Operand.tmp 10),(3,Operand.tmp 13),(4,Operand.tmp 17)],type:=97,pos:=_,after:=_,guard:=none} (.agg #[.int .i64 p.n,.slice as0 p.st.r.length cs0,.int .i64 p.st.q,.int .i64 p.st.d,.slice none 0 0,.slice at0 p.t.length ct0,.slice av0 p.a.length cv0]) ?_
          try simp only [Act.put,List.setIfInBounds_toArray,List.set_cons_zero,List.set_cons_succ]
          refine yag (rs:= [14]) (by kernel_rfl) (by simp) ?_
          refine AllReadyZ.last (o:= {dst:=none,op:=Op.store 97 (Operand.tmp 3) (Operand.tmp 18),type:=0,pos:=_,after:=_,guard:=none}) rfl (fun K hK=> ?_)
          obtain⟨q0,q1,q2,q3,q4,q5,q6⟩:=c7_7 Z_98.out
          have qf:=Z_98.out.free
          go_simp
          clear qf q0 q1 q2 q3 q4 q5 q6
          refine hK.out _ _ ?_
          clear hK K
          try simp only [Act.put,List.setIfInBounds_toArray,List.set_cons_zero,List.set_cons_succ]
          refine ywa (by kernel_rfl) ?_ _
          obtain⟨X5,hX5⟩:∃X5,put7s w97 Pb (.int .i64 p.n) (.slice as0 p.st.r.length cs0) (.int .i64 p.st.q) (.int .i64 p.st.d) (.slice none 0 0) (.slice at0 p.t.length ct0) (.slice av0 p.a.length cv0)=X5:=⟨_,rfl⟩
          have hP:=Z_98.out.put7s (.int .i64 p.n) (.slice as0 p.st.r.length cs0) (.int .i64 p.st.q) (.int .i64 p.st.d) (.slice none 0 0) (.slice at0 p.t.length ct0) (.slice av0 p.a.length cv0)
          have ht:=yx0 w97 Pb (.int .i64 p.n) (.slice as0 p.st.r.length cs0) (.int .i64 p.st.q) (.int .i64 p.st.d) (.slice none 0 0) (.slice at0 p.t.length ct0) (.slice av0 p.a.length cv0)
          rw [hX5]at hP ht
          unfold put7s at hX5
          rw [hX5]
          clear hX5
          go_wp2
          go_meet
          case rel=>
            refine⟨Pb,.slice as0 p.st.r.length cs0,.slice at0 p.t.length ct0,.slice av0 p.a.length cv0,rfl,B_98.out.trans (ht.to_below (fun k e=>by omega) B_98.out.size),⟨by omega,hP.lt⟩,hP,?_,yfa T_98.out ht (fun k hk e=>by have:=HLT.out k hk;omega),yfa A_98.out ht (fun k hk e=>by have:=HLA.out k hk;omega),fun k hk hk'=> ?_⟩
            · exact yfa S_98.out ht (fun k hk e=>by have:=HLS.out k hk;omega)
            · have h1:=HLS.out k hk
              have h2:=HLA.out k hk'
              omega
      · have hs8:W0.heap.size≤w5.heap.size:=B_6.out.size
        obtain⟨g8,hg8⟩:∃g,g=w5.heap.size:=⟨_,rfl⟩
        obtain⟨w85,hw85⟩:∃V,w5.alloc (.cells #[] 3)=V:=⟨_,rfl⟩
        have HW85:=ydq hw85
        have HG8:Hid (g8=w5.heap.size):=hg8
        have B_86:Hid (Below W0.heap.size W0 w85):=by(rw [←hw85];exact B_6.out.alloc B_6.out.size _)
        have X_86:Hid (Bk w85 w.heap.size 97 #[.int .i64 p.n,.slice a1 p.st.r.length c1,.int .i64 p.st.q,.int .i64 p.st.d,.slice a4 p.p.length c4,.slice a5 p.t.length c5,.slice a6 p.a.length c6]):=by(rw [←hw85];exact X_6.out.alloc _)
        have D1_86:Hid (IsD w85 (.slice a1 p.st.r.length c1) (ywd p.st.r)):=by(rw [←hw85];exact D1_6.out.under ((Below.refl _ _).alloc (Nat.le_refl _) _))
        have D5_86:Hid (IsD w85 (.slice a5 p.t.length c5) (evsD p.t)):=by(rw [←hw85];exact D5_6.out.under ((Below.refl _ _).alloc (Nat.le_refl _) _))
        have D6_86:Hid (IsD w85 (.slice a6 p.a.length c6) (ywd p.a)):=by(rw [←hw85];exact D6_6.out.under ((Below.refl _ _).alloc (Nat.le_refl _) _))
        have Z_86:Hid (Bk w85 Pb 97 #[.int .i64 0,.slice none 0 0,.int .i64 0,.int .i64 0,.slice none 0 0,.slice none 0 0,.slice none 0 0]):=by(rw [←hw85];exact Z_6.out.alloc _)
        clear B_6 X_6 D1_6 D5_6 D6_6 Z_6
        have E_86:Hid (w85.ownsRow W0.heap.size 3 1 (.slice (some ⟨g8,0,none⟩) 0 0) 0 []):=by(rw [←hw85,hg8];exact yvh (yzc w5) hs8)
        have hz85:g8<w85.heap.size:=by(rw [←hw85,hg8];exact(Bk.new w5 3 #[]).lt)
        have hzy85:w5.heap.size≤g8∧g8≤w5.heap.size:=by omega
        clear hw85 hg8
        go_simp
        rw [HW85.out,←HG8.out]
        have Q_86:=yy6 X_86.out
        refine hK.out _ _ Q_86.out (fun hHeld=> ?_)
        clear hK K
        try simp only [Act.put,List.setIfInBounds_toArray,List.set_cons_zero,List.set_cons_succ]
        refine yag (rs:= [4]) (by kernel_rfl) (by simp) ?_
        refine AllReadyZ.cons (o:= {dst:=some 10,op:=Op.call {callee:=Callee.value (Operand.func 179),args:= #[Operand.tmp 9],argTypes:= #[94]},type:=94,pos:=_,after:=_,guard:=none}) rfl (fun K hK=> ?_) AllReadyZ.nil
        have hbs99:W0.heap.size≤w85.heap.size:=B_86.out.size
        go_simp
        refine(zam _ _ p.st w85 hr9 rfl D1_86.out).mono ?_
        rintro e w99 ⟨vs0,rfl,hown,hb⟩
        obtain⟨as0,cs0,hvs⟩:=yoj hown
        subst hvs
        have HLS:Hid (∀k,(Value.slice as0 p.st.r.length cs0).ownBlock=some k→w85.heap.size≤k∧k<w99.heap.size):=yx7 hown
        have hz99:w85.heap.size≤w99.heap.size:=hb.size
        have B_100:=ydq (trm B_86.out hb)
        have X_100:=ydq (X_86.out.below hb)
        have D1_100:=ydq (D1_86.out.under hb)
        have D5_100:=ydq (D5_86.out.under hb)
        have D6_100:=ydq (D6_86.out.under hb)
        have Z_100:=ydq (Z_86.out.below hb)
        have E_100:=ydq (yfa E_86.out (Turns.of_below hb) (fun _ _=>id))
        clear B_86 X_86 D1_86 D5_86 D6_86 Z_86 E_86
        have S_100:=ydq (yvh hown hbs99)
        clear hown hb
        have Q_100:=yy6 X_100.out
        refine hK.out _ _ Q_100.out (fun hHeld=> ?_)
        clear hK K
        try simp only [Act.put,List.setIfInBounds_toArray,List.set_cons_zero,List.set_cons_succ]
        refine yag (rs:= [7]) (by kernel_rfl) (by simp) ?_
        refine AllReadyZ.cons (o:= {dst:=some 13,op:=Op.call {callee:=Callee.value (Operand.func 106),args:= #[Operand.tmp 12],argTypes:= #[34]},type:=34,pos:=_,after:=_,guard:=none}) rfl (fun K hK=> ?_) AllReadyZ.nil
        have hbs101:W0.heap.size≤w99.heap.size:=B_100.out.size
        go_simp
        refine(yx5 _ p.t w99 ht9 D5_100.out.srcEv).mono ?_
        rintro e w101 ⟨vt,rfl,hown,hb⟩
        obtain⟨at0,ct0,hvt⟩:=yoj hown
        subst hvt
        have HLT:Hid (∀k,(Value.slice at0 p.t.length ct0).ownBlock=some k→w99.heap.size≤k∧k<w101.heap.size):=yx7 hown
        have hz101:w99.heap.size≤w101.heap.size:=hb.size
        have B_102:=ydq (trm B_100.out hb)
        have X_102:=ydq (X_100.out.below hb)
        have D1_102:=ydq (D1_100.out.under hb)
        have D5_102:=ydq (D5_100.out.under hb)
        have D6_102:=ydq (D6_100.out.under hb)
        have Z_102:=ydq (Z_100.out.below hb)
        have E_102:=ydq (yfa E_100.out (Turns.of_below hb) (fun _ _=>id))
        have S_102:=ydq (yfa S_100.out (Turns.of_below hb) (fun _ _=>id))
        clear B_100 X_100 D1_100 D5_100 D6_100 Z_100 E_100 S_100
        have T_102:=ydq (yvh hown hbs101)
        clear hown hb
        have Q_102:=yy6 X_102.out
        refine hK.out _ _ Q_102.out (fun hHeld=> ?_)
        clear hK K
        try simp only [Act.put,List.setIfInBounds_toArray,List.set_cons_zero,List.set_cons_succ]
        refine yag (rs:= [11]) (by kernel_rfl) (by simp) ?_
        refine AllReadyZ.cons (o:= {dst:=some 17,op:=Op.call {callee:=Callee.builtin Builtin.append,args:= #[Operand.tmp 14,Operand.tmp 16],argTypes:= #[22,22]},type:=22,pos:=_,after:=_,guard:=none}) rfl (fun K hK=> ?_) AllReadyZ.nil
        refine yvz (w:=w101) rfl (.tmp 14) (.tmp 16) 22 rfl W0.heap.size 3 i3 (.int .i64 0) 1 8 Tryz.underlying22 hi3 hiz0 hiz1 hiz2 rfl (by decide) (.slice (some ⟨g8,0,none⟩) 0 0) 0 [] rfl E_102.out (.slice a6 p.a.length c6) p.a.length (intCells p.a) rfl D6_102.out.srcI (ywn _) (by unfold maxLen;omega) (by omega) B_102.out.size ?_
        intro va w103 hown hgrow hnew
        rw [Nat.zero_add,List.nil_append]at hown
        obtain⟨av0,cv0,hva⟩:=yoj hown
        subst hva
        have HLA:Hid (∀k,(Value.slice av0 p.a.length cv0).ownBlock=some k→k=g8∨(w101.heap.size≤k∧k<w103.heap.size)):=yxg hnew rfl hown
        have hz103:w101.heap.size≤w103.heap.size:=hgrow.size
        have hgt:=yw0 hgrow
        have hS8:∀k,(Value.slice (some ⟨g8,0,none⟩) 0 0).ownBlock=some k→k=g8:=fun k e=>by simpa [Value.ownBlock] using e.symm
        have B_104:=ydq (B_102.out.grown hgrow B_102.out.size (fun k e=>by have:=hS8 k e;omega))
        have X_104:=ydq (X_102.out.turns hgt (fun e=>by have:=hS8 _ e;omega))
        have Z_104:=ydq (Z_102.out.turns hgt (fun e=>by have:=hS8 _ e;omega))
        have S_104:=ydq (yfa S_102.out hgt (fun k hk e=>by have:=hS8 k e;have:=HLS.out k hk;omega))
        have T_104:=ydq (yfa T_102.out hgt (fun k hk e=>by have:=hS8 k e;have:=HLT.out k hk;omega))
        clear B_102 X_102 D1_102 D5_102 D6_102 Z_102 E_102 S_102 T_102
        have A_104:=ydq hown
        clear hown hgrow hnew hgt hS8
        have Q_104:=yy6 X_104.out
        refine hK.out _ _ Q_104.out (fun hHeld=> ?_)
        clear hK K
        try simp only [Act.put,List.setIfInBounds_toArray,List.set_cons_zero,List.set_cons_succ]
        refine yxn 12 {dst:=some 18,op:=Op.build 97 #[(0,Operand.tmp 7),(1,Operand.tmp 10),(3,Operand.tmp 13),(4,Operand.tmp 17)],type:=97,pos:=_,after:=_,guard:=none} (.agg #[.int .i64 p.n,.slice as0 p.st.r.length cs0,.int .i64 p.st.q,.int .i64 p.st.d,.slice none 0 0,.slice at0 p.t.length ct0,.slice av0 p.a.length cv0]) ?_
        try simp only [Act.put,List.setIfInBounds_toArray,List.set_cons_zero,List.set_cons_succ]
        refine yag (rs:= [14]) (by kernel_rfl) (by simp) ?_
        refine AllReadyZ.last (o:= {dst:=none,op:=Op.store 97 (Operand.tmp 3) (Operand.tmp 18),type:=0,pos:=_,after:=_,guard:=none}) rfl (fun K hK=> ?_)
        obtain⟨q0,q1,q2,q3,q4,q5,q6⟩:=c7_7 Z_104.out
        have qf:=Z_104.out.free
        go_simp
        clear qf q0 q1 q2 q3 q4 q5 q6
        refine hK.out _ _ ?_
        clear hK K
        try simp only [Act.put,List.setIfInBounds_toArray,List.set_cons_zero,List.set_cons_succ]
        refine ywa (by kernel_rfl) ?_ _
        obtain⟨X5,hX5⟩:∃X5,put7s w103 Pb (.int .i64 p.n) (.slice as0 p.st.r.length cs0) (.int .i64 p.st.q) (.int .i64 p.st.d) (.slice none 0 0) (.slice at0 p.t.length ct0) (.slice av0 p.a.length cv0)=X5:=⟨_,rfl⟩
        have hP:=Z_104.out.put7s (.int .i64 p.n) (.slice as0 p.st.r.length cs0) (.int .i64 p.st.q) (.int .i64 p.st.d) (.slice none 0 0) (.slice at0 p.t.length ct0) (.slice av0 p.a.length cv0)
        have ht:=yx0 w103 Pb (.int .i64 p.n) (.slice as0 p.st.r.length cs0) (.int .i64 p.st.q) (.int .i64 p.st.d) (.slice none 0 0) (.slice at0 p.t.length ct0) (.slice av0 p.a.length cv0)
        rw [hX5]at hP ht
        unfold put7s at hX5
        rw [hX5]
        clear hX5
        go_wp2
        go_meet
        case rel=>
          refine⟨Pb,.slice as0 p.st.r.length cs0,.slice at0 p.t.length ct0,.slice av0 p.a.length cv0,rfl,B_104.out.trans (ht.to_below (fun k e=>by omega) B_104.out.size),⟨by omega,hP.lt⟩,hP,?_,yfa T_104.out ht (fun k hk e=>by have:=HLT.out k hk;omega),yfa A_104.out ht (fun k hk e=>by have:=HLA.out k hk;omega),fun k hk hk'=> ?_⟩
          · exact yfa S_104.out ht (fun k hk e=>by have:=HLS.out k hk;omega)
          · have h1:=HLS.out k hk
            have h2:=HLA.out k hk'
            omega
  case rest=>
    rename World=>Wc
    obtain⟨Pb,vr,vt,va,rfl,hB,⟨hP1,hP2⟩,hP,hvr,hvt,hva,hdis⟩:=hcut
    obtain⟨ar,cr,hvr'⟩:=yoj hvr
    obtain⟨at0,ct,hvt'⟩:=yoj hvt
    obtain⟨aa,ca,hva'⟩:=yoj hva
    subst hvr' hvt' hva'
    have HB:=ydq hB
    have HP:=ydq hP
    have HR:=ydq hvr
    have HT:=ydq hvt
    have HA:=ydq hva
    have HD:=ydq hdis
    have hzc:W0.heap.size≤Wc.heap.size:=hB.size
    have hPW:Pb≠w.heap.size:=by omega
    have HNP:Hid (∀b,((Value.slice ar p.st.r.length cr).ownBlock=some b∨(Value.slice at0 p.t.length ct).ownBlock=some b∨(Value.slice aa p.a.length ca).ownBlock=some b)→b≠Pb∧W0.heap.size≤b∧b<Wc.heap.size):=fun b hb=>by
      rcases hb with h|h|h
      · exact⟨fun e=>yx1 hvr hP (by decide) (e▸h),yxd hvr h,owns_lt hvr h⟩
      · exact⟨fun e=>yx1 hvt hP (by decide) (e▸h),yxd hvt h,owns_lt hvt h⟩
      · exact⟨fun e=>yx1 hva hP (by decide) (e▸h),yxd hva h,owns_lt hva h⟩
    clear hB hP hvr hvt hva hdis D1 D5 D6
    go_wp2
    go_loopw [4,5] (fun i u5 wr=>∃(k:Nat) (vp:Value) (cs:List Value) (G:Nat→Nat→Prop),k≤p.p.length∧i= .int .i64 k∧GrowD Wc.heap.size 172 wr vp 12 k cs (yfb p.p) G∧Bk wr Pb 97 #[.int .i64 p.n,.slice ar p.st.r.length cr,.int .i64 p.st.q,.int .i64 p.st.d,vp,.slice at0 p.t.length ct,.slice aa p.a.length ca]∧Turns (fun b=>b=Pb) Wc wr) (fun i _ _=>p.p.length-(intOf i).toNat)
    case atStart=>exact⟨0,_,[],fun _ _=>False,Nat.zero_le _,rfl,GrowD.nil _ _ _ _ _ _,HP.out,Turns.refl _ _⟩
    case round=>
      clear HP
      obtain⟨k,vp,cs,G,hk,rfl,hG,hP,hT⟩:=hrel
      obtain⟨ap,cp,hvp⟩:=yoj hG.row
      subst hvp
      have HG:=ydq hG
      have HP:=ydq hP
      have HTu:=ydq hT
      have hBr:Below W0.heap.size W0 wr:=HB.out.trans (hT.to_below (fun k e=>by omega) hzc)
      have HBr:=ydq hBr
      have hzr:Wc.heap.size≤wr.heap.size:=hT.size
      have HX:=ydq (BX.out.keep hBr (by omega))
      have HV:Hid (∀b,(.slice ap k cp:Value).ownBlock=some b→b<wr.heap.size):=fun b e=>owns_lt hG.row e
      have x4:=HX.out.cell (i:=4) rfl
      clear hG hP hT hBr
      by_cases hlt:k<p.p.length
      · have hki:(k:Int)<(p.p.length:Int):=by omega
        have hD4:=D4.out.under HBr.out
        obtain⟨a4',cap4,he4,_,_,h4⟩:=IsD.parts (c:=12) (n:=p.p.length) hD4
        have h4':=h4.resolve_left (by omega)
        obtain⟨b,off,ha4,hb4,hc4⟩:=h4'
        obtain⟨rfl,rfl⟩:a4=a4'∧c4=cap4:=by simpa using he4
        subst ha4
        obtain⟨u7,u10,u11,f0,f1,f2,f3,f4,f5,f6,f7c,f8,f9,f10c,f11c,d7,d10,d11⟩:=yym hc4 hlt
        obtain⟨f7,g7,rfl,_⟩:=IsD.len d7
        obtain⟨f10,g10,rfl,_⟩:=IsD.len d10
        obtain⟨f11,g11,rfl,_⟩:=IsD.len d11
        have hqs:(psAt p.p k).s.length≤1048577∧(psAt p.p k).x.length≤1048577∧(psAt p.p k).b.r.length≤1048577:=by
          have e0:=ywl (psAt p.p k).b.r
          have e1:=Ps.wt_le hlt
          have e2:=yx9 (psAt p.p k).s
          have e3:=yyf (psAt p.p k).x
          have e4:=HWT.out
          unfold Pa.wt at e4
          unfold Ps.wt at e1
          omega
        obtain⟨hqs1,hqx1,hqr1⟩:=hqs
        obtain⟨V0,hV0⟩:∃V,wr.alloc (.cells #[.int .i64 (psAt p.p k).e.t,.int .i64 (psAt p.p k).e.s,.int .i64 (psAt p.p k).e.q,.int .i64 (psAt p.p k).e.d,.int .i64 (psAt p.p k).e.k,.int .i64 (psAt p.p k).e.v,.int .i64 (psAt p.p k).e.g,.slice f7 (psAt p.p k).b.r.length g7,.int .i64 (psAt p.p k).b.q,.int .i64 (psAt p.p k).b.d,.slice f10 (psAt p.p k).s.length g10,.slice f11 (psAt p.p k).x.length g11] 172)=V:=⟨_,rfl⟩
        have HV0:=ydq hV0
        have hbv:=beA hV0
        obtain⟨Eb,hEb⟩:∃g,g=wr.heap.size:=⟨_,rfl⟩
        have HEb:Hid (Eb=wr.heap.size):=hEb
        have XE:Hid (Bk V0 Eb 172 #[.int .i64 (psAt p.p k).e.t,.int .i64 (psAt p.p k).e.s,.int .i64 (psAt p.p k).e.q,.int .i64 (psAt p.p k).e.d,.int .i64 (psAt p.p k).e.k,.int .i64 (psAt p.p k).e.v,.int .i64 (psAt p.p k).e.g,.slice f7 (psAt p.p k).b.r.length g7,.int .i64 (psAt p.p k).b.q,.int .i64 (psAt p.p k).b.d,.slice f10 (psAt p.p k).s.length g10,.slice f11 (psAt p.p k).x.length g11]):=hV0▸hEb▸Bk.new wr _ _
        have PV:=ydq (HP.out.below hbv)
        have GV:=ydq (HG.out.below hbv)
        have D7V:=ydq (d7.under hbv)
        have D10V:=ydq (d10.under hbv)
        have D11V:=ydq (d11.under hbv)
        have TuV:=ydq (HTu.out.trans (Turns.of_below hbv))
        have hEl:Eb<V0.heap.size:=XE.out.lt
        have hEy:wr.heap.size≤Eb∧Eb≤wr.heap.size:=by omega
        have HVE:Hid (∀b,(.slice ap k cp:Value).ownBlock=some b→b<Eb∧Wc.heap.size≤b):=fun b e=>⟨by have:=HV.out b e;omega,yxd HG.out.row e⟩
        clear hV0 hEb hbv d7 d10 d11 hD4 h4 hc4 he4 HG HP HTu HV
        go_wp2_with fail
        rw [HV0.out,←HEb.out]
        clear HV0 HEb f0 f1 f2 f3 f4 f5 f6 f7c f8 f9 f10c f11c x4
        have hzv:V0.drew.heap.size≤V0.heap.size∧V0.heap.size≤V0.drew.heap.size:=⟨Nat.le_refl _,Nat.le_refl _⟩
        have B_105:Hid (Below V0.heap.size V0 V0.drew):=(Below.refl _ V0).drew
        have X_105:=ydq XE.out.drew
        have PB_105:=ydq PV.out.drew
        have D7_105:=ydq (D7V.out.under (Below.refl _ V0).drew)
        have D10_105:=ydq (D10V.out.under (Below.refl _ V0).drew)
        have D11_105:=ydq (D11V.out.under (Below.refl _ V0).drew)
        have Q_105:Hid (V0.drew.cell? ⟨Eb,0,none⟩=some (.int .i64 (psAt p.p k).e.t)∧V0.drew.cell? ⟨Eb,1,none⟩=some (.int .i64 (psAt p.p k).e.s)∧V0.drew.cell? ⟨Eb,2,none⟩=some (.int .i64 (psAt p.p k).e.q)∧V0.drew.cell? ⟨Eb,3,none⟩=some (.int .i64 (psAt p.p k).e.d)∧V0.drew.cell? ⟨Eb,4,none⟩=some (.int .i64 (psAt p.p k).e.k)∧V0.drew.cell? ⟨Eb,5,none⟩=some (.int .i64 (psAt p.p k).e.v)∧V0.drew.cell? ⟨Eb,6,none⟩=some (.int .i64 (psAt p.p k).e.g)∧V0.drew.cell? ⟨Eb,7,none⟩=some (.slice f7 (psAt p.p k).b.r.length g7)∧V0.drew.cell? ⟨Eb,8,none⟩=some (.int .i64 (psAt p.p k).b.q)∧V0.drew.cell? ⟨Eb,9,none⟩=some (.int .i64 (psAt p.p k).b.d)∧V0.drew.cell? ⟨Eb,10,none⟩=some (.slice f10 (psAt p.p k).s.length g10)∧V0.drew.cell? ⟨Eb,11,none⟩=some (.slice f11 (psAt p.p k).x.length g11)∧V0.drew.cell? ⟨Pb,4,none⟩=some (.slice ap k cp)):=⟨X_105.out.cell rfl,X_105.out.cell rfl,X_105.out.cell rfl,X_105.out.cell rfl,X_105.out.cell rfl,X_105.out.cell rfl,X_105.out.cell rfl,X_105.out.cell rfl,X_105.out.cell rfl,X_105.out.cell rfl,X_105.out.cell rfl,X_105.out.cell rfl,PB_105.out.cell rfl⟩
        clear XE PV D7V D10V D11V
        refine yxa 18 (fun W=>W.cell? ⟨Eb,0,none⟩=some (.int .i64 (psAt p.p k).e.t)∧W.cell? ⟨Eb,1,none⟩=some (.int .i64 (psAt p.p k).e.s)∧W.cell? ⟨Eb,2,none⟩=some (.int .i64 (psAt p.p k).e.q)∧W.cell? ⟨Eb,3,none⟩=some (.int .i64 (psAt p.p k).e.d)∧W.cell? ⟨Eb,4,none⟩=some (.int .i64 (psAt p.p k).e.k)∧W.cell? ⟨Eb,5,none⟩=some (.int .i64 (psAt p.p k).e.v)∧W.cell? ⟨Eb,6,none⟩=some (.int .i64 (psAt p.p k).e.g)∧W.cell? ⟨Eb,7,none⟩=some (.slice f7 (psAt p.p k).b.r.length g7)∧W.cell? ⟨Eb,8,none⟩=some (.int .i64 (psAt p.p k).b.q)∧W.cell? ⟨Eb,9,none⟩=some (.int .i64 (psAt p.p k).b.d)∧W.cell? ⟨Eb,10,none⟩=some (.slice f10 (psAt p.p k).s.length g10)∧W.cell? ⟨Eb,11,none⟩=some (.slice f11 (psAt p.p k).x.length g11)∧W.cell? ⟨Pb,4,none⟩=some (.slice ap k cp)) (by kernel_rfl) Q_105.out (fun hHeld=> ?_)
        refine yxn 0 {dst:=some 31,op:=Op.fieldAddr 97 (Operand.tmp 3) 2,type:=0,pos:=_,after:=_,guard:=none} (.pointer (some ⟨Pb,4,none⟩)) ?_
        try simp only [Act.put,List.setIfInBounds_toArray,List.set_cons_zero,List.set_cons_succ]
        refine yxn 1 {dst:=some 32,op:=Op.load 95 (Operand.tmp 31),type:=95,pos:=_,after:=_,guard:=none} (.slice ap k cp) ?_
        try simp only [Act.put,List.setIfInBounds_toArray,List.set_cons_zero,List.set_cons_succ]
        refine yxn 2 {dst:=some 33,op:=Op.fieldAddr 172 (Operand.tmp 5) 0,type:=0,pos:=_,after:=_,guard:=none} (.pointer (some ⟨Eb,0,none⟩)) ?_
        try simp only [Act.put,List.setIfInBounds_toArray,List.set_cons_zero,List.set_cons_succ]
        refine yxn 3 {dst:=some 34,op:=Op.load 90 (Operand.tmp 33),type:=90,pos:=_,after:=_,guard:=none} (.agg #[.int .i64 (psAt p.p k).e.t,.int .i64 (psAt p.p k).e.s,.int .i64 (psAt p.p k).e.q,.int .i64 (psAt p.p k).e.d,.int .i64 (psAt p.p k).e.k,.int .i64 (psAt p.p k).e.v,.int .i64 (psAt p.p k).e.g]) ?_
        try simp only [Act.put,List.setIfInBounds_toArray,List.set_cons_zero,List.set_cons_succ]
        refine yxn 4 {dst:=some 35,op:=Op.fieldAddr 172 (Operand.tmp 5) 1,type:=0,pos:=_,after:=_,guard:=none} (.pointer (some ⟨Eb,7,none⟩)) ?_
        try simp only [Act.put,List.setIfInBounds_toArray,List.set_cons_zero,List.set_cons_succ]
        refine yxn 5 {dst:=some 36,op:=Op.load 94 (Operand.tmp 35),type:=94,pos:=_,after:=_,guard:=none} (.agg #[.slice f7 (psAt p.p k).b.r.length g7,.int .i64 (psAt p.p k).b.q,.int .i64 (psAt p.p k).b.d]) ?_
        try simp only [Act.put,List.setIfInBounds_toArray,List.set_cons_zero,List.set_cons_succ]
        refine yxn 7 {dst:=some 38,op:=Op.fieldAddr 172 (Operand.tmp 5) 2,type:=0,pos:=_,after:=_,guard:=none} (.pointer (some ⟨Eb,10,none⟩)) ?_
        try simp only [Act.put,List.setIfInBounds_toArray,List.set_cons_zero,List.set_cons_succ]
        refine yxn 8 {dst:=some 39,op:=Op.load 34 (Operand.tmp 38),type:=34,pos:=_,after:=_,guard:=none} (.slice f10 (psAt p.p k).s.length g10) ?_
        try simp only [Act.put,List.setIfInBounds_toArray,List.set_cons_zero,List.set_cons_succ]
        refine yxn 11 {dst:=some 42,op:=Op.fieldAddr 172 (Operand.tmp 5) 3,type:=0,pos:=_,after:=_,guard:=none} (.pointer (some ⟨Eb,11,none⟩)) ?_
        try simp only [Act.put,List.setIfInBounds_toArray,List.set_cons_zero,List.set_cons_succ]
        refine yxn 12 {dst:=some 43,op:=Op.load 39 (Operand.tmp 42),type:=39,pos:=_,after:=_,guard:=none} (.slice f11 (psAt p.p k).x.length g11) ?_
        try simp only [Act.put,List.setIfInBounds_toArray,List.set_cons_zero,List.set_cons_succ]
        refine yag (rs:= [6,10]) (by kernel_rfl) (by simp) ?_
        refine AllReadyZ.cons (o:= {dst:=some 37,op:=Op.call {callee:=Callee.value (Operand.func 179),args:= #[Operand.tmp 36],argTypes:= #[94]},type:=94,pos:=_,after:=_,guard:=none}) rfl (fun K hK=> ?_) (AllReadyZ.cons (o:= {dst:=some 41,op:=Op.buildSlice 39 0 #[],type:=39,pos:=_,after:=_,guard:=none}) rfl (fun K hK=> ?_) AllReadyZ.nil)
        · have hbs106:V0.heap.size≤V0.drew.heap.size:=B_105.out.size
          go_simp
          refine(zam _ _ (psAt p.p k).b V0.drew hqr1 rfl D7_105.out).mono ?_
          rintro e w106 ⟨vs1,rfl,hown,hb⟩
          obtain⟨as1,cs1,hvs⟩:=yoj hown
          subst hvs
          have HLS:Hid (∀k',(.slice as1 (psAt p.p k).b.r.length cs1:Value).ownBlock=some k'→V0.drew.heap.size≤k'∧k'<w106.heap.size):=yx7 hown
          have hz106:V0.drew.heap.size≤w106.heap.size:=hb.size
          have B_107:=ydq (trm B_105.out hb)
          have X_107:=ydq (X_105.out.below hb)
          have PB_107:=ydq (PB_105.out.below hb)
          have D10_107:=ydq (D10_105.out.under hb)
          have D11_107:=ydq (D11_105.out.under hb)
          clear B_105 X_105 PB_105 D7_105 D10_105 D11_105
          have S_107:=ydq (yvh hown hbs106)
          clear hown hb
          have Q_107:=za4 X_107.out PB_107.out
          refine hK.out _ _ Q_107.out (fun hHeld=> ?_)
          clear hK K
          try simp only [Act.put,List.setIfInBounds_toArray,List.set_cons_zero,List.set_cons_succ]
          refine yag (rs:= [9,10]) (by kernel_rfl) (by simp) ?_
          refine AllReadyZ.cons (o:= {dst:=some 40,op:=Op.call {callee:=Callee.value (Operand.func 106),args:= #[Operand.tmp 39],argTypes:= #[34]},type:=34,pos:=_,after:=_,guard:=none}) rfl (fun K hK=> ?_) (AllReadyZ.cons (o:= {dst:=some 41,op:=Op.buildSlice 39 0 #[],type:=39,pos:=_,after:=_,guard:=none}) rfl (fun K hK=> ?_) AllReadyZ.nil)
          · have hbs110:V0.heap.size≤w106.heap.size:=B_107.out.size
            go_simp
            refine(yx5 _ (psAt p.p k).s w106 hqs1 D10_107.out.srcEv).mono ?_
            rintro e w110 ⟨vt,rfl,hown,hb⟩
            obtain⟨at1,ct1,hvt⟩:=yoj hown
            subst hvt
            have HLT:Hid (∀k',(.slice at1 (psAt p.p k).s.length ct1:Value).ownBlock=some k'→w106.heap.size≤k'∧k'<w110.heap.size):=yx7 hown
            have hz110:w106.heap.size≤w110.heap.size:=hb.size
            have B_111:=ydq (trm B_107.out hb)
            have X_111:=ydq (X_107.out.below hb)
            have PB_111:=ydq (PB_107.out.below hb)
            have D11_111:=ydq (D11_107.out.under hb)
            have S_111:=ydq (yfa S_107.out (Turns.of_below hb) (fun _ _=>id))
            clear B_107 X_107 PB_107 D10_107 D11_107 S_107
            have T_111:=ydq (yvh hown hbs110)
            clear hown hb
            have Q_111:=za4 X_111.out PB_111.out
            refine hK.out _ _ Q_111.out (fun hHeld=> ?_)
            clear hK K
            try simp only [Act.put,List.setIfInBounds_toArray,List.set_cons_zero,List.set_cons_succ]
            refine yag (rs:= [10]) (by kernel_rfl) (by simp) ?_
            refine AllReadyZ.cons (o:= {dst:=some 41,op:=Op.buildSlice 39 0 #[],type:=39,pos:=_,after:=_,guard:=none}) rfl (fun K hK=> ?_) AllReadyZ.nil
            have hs8:V0.heap.size≤w110.heap.size:=B_111.out.size
            obtain⟨g8,hg8⟩:∃g,g=w110.heap.size:=⟨_,rfl⟩
            obtain⟨w114,hw114⟩:∃V,w110.alloc (.cells #[] 166)=V:=⟨_,rfl⟩
            have HW114:=ydq hw114
            have HG8:=ydq hg8
            have B_115:Hid (Below V0.heap.size V0 w114):=by(rw [←hw114];exact B_111.out.alloc B_111.out.size _)
            have X_115:Hid (Bk w114 Eb 172 #[.int .i64 (psAt p.p k).e.t,.int .i64 (psAt p.p k).e.s,.int .i64 (psAt p.p k).e.q,.int .i64 (psAt p.p k).e.d,.int .i64 (psAt p.p k).e.k,.int .i64 (psAt p.p k).e.v,.int .i64 (psAt p.p k).e.g,.slice f7 (psAt p.p k).b.r.length g7,.int .i64 (psAt p.p k).b.q,.int .i64 (psAt p.p k).b.d,.slice f10 (psAt p.p k).s.length g10,.slice f11 (psAt p.p k).x.length g11]):=by(rw [←hw114];exact X_111.out.alloc _)
            have PB_115:Hid (Bk w114 Pb 97 #[.int .i64 p.n,.slice ar p.st.r.length cr,.int .i64 p.st.q,.int .i64 p.st.d,.slice ap k cp,.slice at0 p.t.length ct,.slice aa p.a.length ca]):=by(rw [←hw114];exact PB_111.out.alloc _)
            have D11_115:Hid (IsD w114 (.slice f11 (psAt p.p k).x.length g11) (emsD (psAt p.p k).x)):=by(rw [←hw114];exact D11_111.out.under ((Below.refl _ _).alloc (Nat.le_refl _) _))
            have S_115:Hid (w114.ownsRow V0.heap.size 3 1 (.slice as1 (psAt p.p k).b.r.length cs1) (psAt p.p k).b.r.length (intCells (psAt p.p k).b.r)):=by(rw [←hw114];exact S_111.out.alloc _)
            have T_115:Hid (w114.ownsRow V0.heap.size 90 7 (.slice at1 (psAt p.p k).s.length ct1) (psAt p.p k).s.length (yvk (psAt p.p k).s)):=by(rw [←hw114];exact T_111.out.alloc _)
            clear B_111 X_111 PB_111 D11_111 S_111 T_111
            have E_115:Hid (w114.ownsRow V0.heap.size 166 3 (.slice (some ⟨g8,0,none⟩) 0 0) 0 []):=by(rw [←hw114,hg8];exact yvh (yxo w110 166 3) hs8)
            have hz114:g8<w114.heap.size:=by(rw [←hw114,hg8];exact(Bk.new w110 166 #[]).lt)
            have hzy114:w110.heap.size≤g8∧g8≤w110.heap.size:=by omega
            clear hw114 hg8
            go_simp
            rw [HW114.out,←HG8.out]
            have Q_115:=za4 X_115.out PB_115.out
            refine hK.out _ _ Q_115.out (fun hHeld=> ?_)
            clear hK K
            try simp only [Act.put,List.setIfInBounds_toArray,List.set_cons_zero,List.set_cons_succ]
            refine yag (rs:= [13]) (by kernel_rfl) (by simp) ?_
            refine AllReadyZ.cons (o:= {dst:=some 44,op:=Op.call {callee:=Callee.builtin Builtin.append,args:= #[Operand.tmp 41,Operand.tmp 43],argTypes:= #[39,39]},type:=39,pos:=_,after:=_,guard:=none}) rfl (fun K hK=> ?_) AllReadyZ.nil
            refine yvz (w:=w114) rfl (.tmp 41) (.tmp 43) 39 rfl V0.heap.size 166 ix (.agg #[.int .i64 0,.int .i64 0,.int .i64 0]) 3 24 Tryz.underlying39 hix hix0 hix1 hix2 rfl (by decide) (.slice (some ⟨g8,0,none⟩) 0 0) 0 [] rfl E_115.out (.slice f11 (psAt p.p k).x.length g11) (psAt p.p k).x.length (ywp (psAt p.p k).x) rfl D11_115.out.srcX (yzb _) (by unfold maxLen;omega) (by omega) B_115.out.size ?_
            intro va w116 hown hgrow hnew
            rw [Nat.zero_add,List.nil_append]at hown
            obtain⟨av1,cv1,hva⟩:=yoj hown
            subst hva
            have HLA:Hid (∀k',(.slice av1 (psAt p.p k).x.length cv1:Value).ownBlock=some k'→k'=g8∨(w114.heap.size≤k'∧k'<w116.heap.size)):=yxg hnew rfl hown
            have hz116:w114.heap.size≤w116.heap.size:=hgrow.size
            have hgt:=yw0 hgrow
            have hS8:∀k',(Value.slice (some ⟨g8,0,none⟩) 0 0).ownBlock=some k'→k'=g8:=fun k' e=>by simpa [Value.ownBlock] using e.symm
            have B_117:=ydq (B_115.out.grown hgrow B_115.out.size (fun k' e=>by have:=hS8 k' e;omega))
            have X_117:=ydq (X_115.out.turns hgt (fun e=>by have:=hS8 _ e;omega))
            have PB_117:=ydq (PB_115.out.turns hgt (fun e=>by have:=hS8 _ e;omega))
            have S_117:=ydq (yfa S_115.out hgt (fun k' hk e=>by have:=hS8 k' e;have:=HLS.out k' hk;omega))
            have T_117:=ydq (yfa T_115.out hgt (fun k' hk e=>by have:=hS8 k' e;have:=HLT.out k' hk;omega))
            clear B_115 X_115 PB_115 D11_115 S_115 T_115 E_115
            have A_117:=ydq hown
            clear hown hgrow hnew hgt hS8
            have Q_117:=za4 X_117.out PB_117.out
            refine hK.out _ _ Q_117.out (fun hHeld=> ?_)
            clear hK K
            try simp only [Act.put,List.setIfInBounds_toArray,List.set_cons_zero,List.set_cons_succ]
            refine yxn 14 {dst:=some 45,op:=Op.build 172 #[(0,Operand.tmp 34),(1,Operand.tmp 37),(2,Operand.tmp 40),(3,Operand.tmp 44)],type:=172,pos:=_,after:=_,guard:=none} (.agg #[.int .i64 (psAt p.p k).e.t,.int .i64 (psAt p.p k).e.s,.int .i64 (psAt p.p k).e.q,.int .i64 (psAt p.p k).e.d,.int .i64 (psAt p.p k).e.k,.int .i64 (psAt p.p k).e.v,.int .i64 (psAt p.p k).e.g,.slice as1 (psAt p.p k).b.r.length cs1,.int .i64 (psAt p.p k).b.q,.int .i64 (psAt p.p k).b.d,.slice at1 (psAt p.p k).s.length ct1,.slice av1 (psAt p.p k).x.length cv1]) ?_
            try simp only [Act.put,List.setIfInBounds_toArray,List.set_cons_zero,List.set_cons_succ]
            refine yag (rs:= [15]) (by kernel_rfl) (by simp) ?_
            refine AllReadyZ.cons (o:= {dst:=some 46,op:=Op.buildSlice 95 1 #[(0,Operand.tmp 45)],type:=95,pos:=_,after:=_,guard:=none}) rfl (fun K hK=> ?_) AllReadyZ.nil
            obtain⟨Nb,hNb⟩:∃g,g=w116.heap.size:=⟨_,rfl⟩
            obtain⟨w118,hw118⟩:∃V,w116.alloc (.cells #[.int .i64 (psAt p.p k).e.t,.int .i64 (psAt p.p k).e.s,.int .i64 (psAt p.p k).e.q,.int .i64 (psAt p.p k).e.d,.int .i64 (psAt p.p k).e.k,.int .i64 (psAt p.p k).e.v,.int .i64 (psAt p.p k).e.g,.slice as1 (psAt p.p k).b.r.length cs1,.int .i64 (psAt p.p k).b.q,.int .i64 (psAt p.p k).b.d,.slice at1 (psAt p.p k).s.length ct1,.slice av1 (psAt p.p k).x.length cv1] 172)=V:=⟨_,rfl⟩
            have HW118:=ydq hw118
            have HNb:=ydq hNb
            have hs118:V0.heap.size≤w116.heap.size:=B_117.out.size
            have B_119:Hid (Below V0.heap.size V0 w118):=by(rw [←hw118];exact B_117.out.alloc B_117.out.size _)
            have X_119:Hid (Bk w118 Eb 172 #[.int .i64 (psAt p.p k).e.t,.int .i64 (psAt p.p k).e.s,.int .i64 (psAt p.p k).e.q,.int .i64 (psAt p.p k).e.d,.int .i64 (psAt p.p k).e.k,.int .i64 (psAt p.p k).e.v,.int .i64 (psAt p.p k).e.g,.slice f7 (psAt p.p k).b.r.length g7,.int .i64 (psAt p.p k).b.q,.int .i64 (psAt p.p k).b.d,.slice f10 (psAt p.p k).s.length g10,.slice f11 (psAt p.p k).x.length g11]):=by(rw [←hw118];exact X_117.out.alloc _)
            have PB_119:Hid (Bk w118 Pb 97 #[.int .i64 p.n,.slice ar p.st.r.length cr,.int .i64 p.st.q,.int .i64 p.st.d,.slice ap k cp,.slice at0 p.t.length ct,.slice aa p.a.length ca]):=by(rw [←hw118];exact PB_117.out.alloc _)
            have S_119:Hid (w118.ownsRow V0.heap.size 3 1 (.slice as1 (psAt p.p k).b.r.length cs1) (psAt p.p k).b.r.length (intCells (psAt p.p k).b.r)):=by(rw [←hw118];exact S_117.out.alloc _)
            have T_119:Hid (w118.ownsRow V0.heap.size 90 7 (.slice at1 (psAt p.p k).s.length ct1) (psAt p.p k).s.length (yvk (psAt p.p k).s)):=by(rw [←hw118];exact T_117.out.alloc _)
            have A_119:Hid (w118.ownsRow V0.heap.size 166 3 (.slice av1 (psAt p.p k).x.length cv1) (psAt p.p k).x.length (ywp (psAt p.p k).x)):=by(rw [←hw118];exact A_117.out.alloc _)
            clear B_117 X_117 PB_117 S_117 T_117 A_117
            have NB_119:Hid (Bk w118 Nb 172 #[.int .i64 (psAt p.p k).e.t,.int .i64 (psAt p.p k).e.s,.int .i64 (psAt p.p k).e.q,.int .i64 (psAt p.p k).e.d,.int .i64 (psAt p.p k).e.k,.int .i64 (psAt p.p k).e.v,.int .i64 (psAt p.p k).e.g,.slice as1 (psAt p.p k).b.r.length cs1,.int .i64 (psAt p.p k).b.q,.int .i64 (psAt p.p k).b.d,.slice at1 (psAt p.p k).s.length ct1,.slice av1 (psAt p.p k).x.length cv1]):=by(rw [←hw118];exact hNb▸Bk.new w116 _ _)
            have hz118:Nb<w118.heap.size:=NB_119.out.lt
            have hzy118:w116.heap.size≤Nb∧Nb≤w116.heap.size:=by omega
            clear hw118 hNb
            go_simp
            rw [HW118.out,←HNb.out]
            have Q_119:=za4 X_119.out PB_119.out
            refine hK.out _ _ Q_119.out (fun hHeld=> ?_)
            clear hK K
            try simp only [Act.put,List.setIfInBounds_toArray,List.set_cons_zero,List.set_cons_succ]
            refine yag (rs:= [16]) (by kernel_rfl) (by simp) ?_
            refine AllReadyZ.cons (o:= {dst:=some 47,op:=Op.call {callee:=Callee.builtin Builtin.append,args:= #[Operand.tmp 32,Operand.tmp 46],argTypes:= #[95,95]},type:=95,pos:=_,after:=_,guard:=none}) rfl (fun K hK=> ?_) AllReadyZ.nil
            have hbs120:V0.heap.size≤w118.heap.size:=B_119.out.size
            refine yyy (w:=w118) rfl (.tmp 32) (.tmp 46) 95 rfl Wc.heap.size 172 ip _ 12 144 Tryz.underlying95 hip hip0 hip1 hip2 rfl (by decide) (.slice ap k cp) k cs rfl (GV.out.below B_119.out).row ⟨Nb,0,none⟩ 1 1 (pastL (psAt p.p k) (.slice as1 (psAt p.p k).b.r.length cs1) (.slice at1 (psAt p.p k).s.length ct1) (.slice av1 (psAt p.p k).x.length cv1)) rfl rfl NB_119.out.src (by simp [pastL,Value.oneCell']) (by unfold maxLen;omega) (by omega) (by omega) ?_
            intro vn w120 hown hgrow hnew
            obtain⟨ap3,cp3,hvn⟩:=yoj hown
            subst hvn
            have hgt:=yw0 hgrow
            have h7:OwnD w118 (fun b=>(.slice as1 (psAt p.p k).b.r.length cs1:Value).ownBlock=some b) (.slice as1 (psAt p.p k).b.r.length cs1) (ywd (psAt p.p k).b.r):=(yy8 (by rw [ywy];omega) S_119.out).own
            have h10:OwnD w118 (fun b=>(.slice at1 (psAt p.p k).s.length ct1:Value).ownBlock=some b) (.slice at1 (psAt p.p k).s.length ct1) (evsD (psAt p.p k).s):=(yy8 (ywh _) T_119.out).own
            have h11:OwnD w118 (fun b=>(.slice av1 (psAt p.p k).x.length cv1:Value).ownBlock=some b) (.slice av1 (psAt p.p k).x.length cv1) (emsD (psAt p.p k).x):=(yy8 (yxt _) A_119.out).own
            have HGN:Hid (GrowD Wc.heap.size 172 w120 (.slice ap3 (k+1) cp3) 12 (k+1) (cs++pastL (psAt p.p k) (.slice as1 (psAt p.p k).b.r.length cs1) (.slice at1 (psAt p.p k).s.length ct1) (.slice av1 (psAt p.p k).x.length cv1)) (yfb p.p) (zdr (k*12) G (zfb (fun b=>(.slice as1 (psAt p.p k).b.r.length cs1:Value).ownBlock=some b) (fun b=>(.slice at1 (psAt p.p k).s.length ct1:Value).ownBlock=some b) (fun b=>(.slice av1 (psAt p.p k).x.length cv1:Value).ownBlock=some b)))):=GV.out.snocPs B_119.out (by omega) h7 h10 h11 (fun b hb=>yx7 S_119.out b hb) (fun b hb=>yx7 T_119.out b hb) (fun b hb=>yx7 A_119.out b hb) (fun b x y=>by have:=HLS.out b x;have:=HLT.out b y;omega) (fun b x y=>by have:=HLS.out b x;have:=HLA.out b y;omega) (fun b x y=>by have:=HLT.out b x;have:=HLA.out b y;omega) hown hgrow hnew
            have TuN:=ydq ((TuV.out.belowT (B_119.out.mono (by omega))).grownNew hgrow (fun b e=>(HVE.out b e).2))
            have X_121:=ydq (X_119.out.turns hgt (fun e=>by have:=HVE.out _ e;omega))
            have PB_121:=ydq (PB_119.out.turns hgt (fun e=>by have:=HVE.out _ e;omega))
            clear B_119 X_119 PB_119 S_119 T_119 A_119 NB_119
            clear hown hgrow hnew hgt h7 h10 h11
            have Q_121:=za4 X_121.out PB_121.out
            refine hK.out _ _ Q_121.out (fun hHeld=> ?_)
            clear hK K
            try simp only [Act.put,List.setIfInBounds_toArray,List.set_cons_zero,List.set_cons_succ]
            refine yxn 17 {dst:=some 48,op:=Op.fieldAddr 97 (Operand.tmp 3) 2,type:=0,pos:=_,after:=_,guard:=none} (.pointer (some ⟨Pb,4,none⟩)) ?_
            try simp only [Act.put,List.setIfInBounds_toArray,List.set_cons_zero,List.set_cons_succ]
            refine yag (rs:= [18]) (by kernel_rfl) (by simp) ?_
            refine AllReadyZ.last (o:= {dst:=none,op:=Op.store 95 (Operand.tmp 48) (Operand.tmp 47),type:=0,pos:=_,after:=_,guard:=none}) rfl (fun K hK=> ?_)
            have q4:=PB_121.out.cell (i:=4) rfl
            have qf:=PB_121.out.free
            go_simp
            clear qf q4
            refine hK.out _ _ ?_
            clear hK K
            try simp only [Act.put,List.setIfInBounds_toArray,List.set_cons_zero,List.set_cons_succ]
            refine ywa (by kernel_rfl) ?_ _
            obtain⟨X5,hX5⟩:∃X5,w120.setCell ⟨Pb,4,none⟩ (.slice ap3 (k+1) cp3)=X5:=⟨_,rfl⟩
            have hP5:=PB_121.out.put 4 (.slice ap3 (k+1) cp3)
            have ht5:=ydp w120 Pb 4 (.slice ap3 (k+1) cp3)
            rw [hX5]at hP5 ht5⊢
            clear hX5
            have HP5:=ydq hP5
            have HG5:=HGN.out.low ht5 (fun b hb e=>by omega)
            have HT5:=TuN.out.trans ht5
            clear hP5 ht5 HGN TuN
            have HG6:Hid _:=HG5
            have HT6:Hid _:=HT5
            clear HG5 HT5
            go_wp2
            go_roundw
            case rel=>exact⟨k+1,_,_,_,by omega,by go_num,HG6.out,HP5.out,HT6.out⟩
            case measure=>simp [intOf];omega
          · have hs8:V0.heap.size≤w106.heap.size:=B_107.out.size
            obtain⟨g8,hg8⟩:∃g,g=w106.heap.size:=⟨_,rfl⟩
            obtain⟨w112,hw112⟩:∃V,w106.alloc (.cells #[] 166)=V:=⟨_,rfl⟩
            have HW112:=ydq hw112
            have HG8:=ydq hg8
            have B_113:Hid (Below V0.heap.size V0 w112):=by(rw [←hw112];exact B_107.out.alloc B_107.out.size _)
            have X_113:Hid (Bk w112 Eb 172 #[.int .i64 (psAt p.p k).e.t,.int .i64 (psAt p.p k).e.s,.int .i64 (psAt p.p k).e.q,.int .i64 (psAt p.p k).e.d,.int .i64 (psAt p.p k).e.k,.int .i64 (psAt p.p k).e.v,.int .i64 (psAt p.p k).e.g,.slice f7 (psAt p.p k).b.r.length g7,.int .i64 (psAt p.p k).b.q,.int .i64 (psAt p.p k).b.d,.slice f10 (psAt p.p k).s.length g10,.slice f11 (psAt p.p k).x.length g11]):=by(rw [←hw112];exact X_107.out.alloc _)
            have PB_113:Hid (Bk w112 Pb 97 #[.int .i64 p.n,.slice ar p.st.r.length cr,.int .i64 p.st.q,.int .i64 p.st.d,.slice ap k cp,.slice at0 p.t.length ct,.slice aa p.a.length ca]):=by(rw [←hw112];exact PB_107.out.alloc _)
            have D10_113:Hid (IsD w112 (.slice f10 (psAt p.p k).s.length g10) (evsD (psAt p.p k).s)):=by(rw [←hw112];exact D10_107.out.under ((Below.refl _ _).alloc (Nat.le_refl _) _))
            have D11_113:Hid (IsD w112 (.slice f11 (psAt p.p k).x.length g11) (emsD (psAt p.p k).x)):=by(rw [←hw112];exact D11_107.out.under ((Below.refl _ _).alloc (Nat.le_refl _) _))
            have S_113:Hid (w112.ownsRow V0.heap.size 3 1 (.slice as1 (psAt p.p k).b.r.length cs1) (psAt p.p k).b.r.length (intCells (psAt p.p k).b.r)):=by(rw [←hw112];exact S_107.out.alloc _)
            clear B_107 X_107 PB_107 D10_107 D11_107 S_107
            have E_113:Hid (w112.ownsRow V0.heap.size 166 3 (.slice (some ⟨g8,0,none⟩) 0 0) 0 []):=by(rw [←hw112,hg8];exact yvh (yxo w106 166 3) hs8)
            have hz112:g8<w112.heap.size:=by(rw [←hw112,hg8];exact(Bk.new w106 166 #[]).lt)
            have hzy112:w106.heap.size≤g8∧g8≤w106.heap.size:=by omega
            clear hw112 hg8
            go_simp
            rw [HW112.out,←HG8.out]
            have Q_113:=za4 X_113.out PB_113.out
            refine hK.out _ _ Q_113.out (fun hHeld=> ?_)
            clear hK K
            try simp only [Act.put,List.setIfInBounds_toArray,List.set_cons_zero,List.set_cons_succ]
            refine yag (rs:= [9]) (by kernel_rfl) (by simp) ?_
            refine AllReadyZ.cons (o:= {dst:=some 40,op:=Op.call {callee:=Callee.value (Operand.func 106),args:= #[Operand.tmp 39],argTypes:= #[34]},type:=34,pos:=_,after:=_,guard:=none}) rfl (fun K hK=> ?_) AllReadyZ.nil
            have hbs122:V0.heap.size≤w112.heap.size:=B_113.out.size
            go_simp
            refine(yx5 _ (psAt p.p k).s w112 hqs1 D10_113.out.srcEv).mono ?_
            rintro e w122 ⟨vt,rfl,hown,hb⟩
            obtain⟨at1,ct1,hvt⟩:=yoj hown
            subst hvt
            have HLT:Hid (∀k',(.slice at1 (psAt p.p k).s.length ct1:Value).ownBlock=some k'→w112.heap.size≤k'∧k'<w122.heap.size):=yx7 hown
            have hz122:w112.heap.size≤w122.heap.size:=hb.size
            have B_123:=ydq (trm B_113.out hb)
            have X_123:=ydq (X_113.out.below hb)
            have PB_123:=ydq (PB_113.out.below hb)
            have D11_123:=ydq (D11_113.out.under hb)
            have S_123:=ydq (yfa S_113.out (Turns.of_below hb) (fun _ _=>id))
            have E_123:=ydq (yfa E_113.out (Turns.of_below hb) (fun _ _=>id))
            clear B_113 X_113 PB_113 D10_113 D11_113 S_113 E_113
            have T_123:=ydq (yvh hown hbs122)
            clear hown hb
            have Q_123:=za4 X_123.out PB_123.out
            refine hK.out _ _ Q_123.out (fun hHeld=> ?_)
            clear hK K
            try simp only [Act.put,List.setIfInBounds_toArray,List.set_cons_zero,List.set_cons_succ]
            refine yag (rs:= [13]) (by kernel_rfl) (by simp) ?_
            refine AllReadyZ.cons (o:= {dst:=some 44,op:=Op.call {callee:=Callee.builtin Builtin.append,args:= #[Operand.tmp 41,Operand.tmp 43],argTypes:= #[39,39]},type:=39,pos:=_,after:=_,guard:=none}) rfl (fun K hK=> ?_) AllReadyZ.nil
            refine yvz (w:=w122) rfl (.tmp 41) (.tmp 43) 39 rfl V0.heap.size 166 ix (.agg #[.int .i64 0,.int .i64 0,.int .i64 0]) 3 24 Tryz.underlying39 hix hix0 hix1 hix2 rfl (by decide) (.slice (some ⟨g8,0,none⟩) 0 0) 0 [] rfl E_123.out (.slice f11 (psAt p.p k).x.length g11) (psAt p.p k).x.length (ywp (psAt p.p k).x) rfl D11_123.out.srcX (yzb _) (by unfold maxLen;omega) (by omega) B_123.out.size ?_
            intro va w124 hown hgrow hnew
            rw [Nat.zero_add,List.nil_append]at hown
            obtain⟨av1,cv1,hva⟩:=yoj hown
            subst hva
            have HLA:Hid (∀k',(.slice av1 (psAt p.p k).x.length cv1:Value).ownBlock=some k'→k'=g8∨(w122.heap.size≤k'∧k'<w124.heap.size)):=yxg hnew rfl hown
            have hz124:w122.heap.size≤w124.heap.size:=hgrow.size
            have hgt:=yw0 hgrow
            have hS8:∀k',(Value.slice (some ⟨g8,0,none⟩) 0 0).ownBlock=some k'→k'=g8:=fun k' e=>by simpa [Value.ownBlock] using e.symm
            have B_125:=ydq (B_123.out.grown hgrow B_123.out.size (fun k' e=>by have:=hS8 k' e;omega))
            have X_125:=ydq (X_123.out.turns hgt (fun e=>by have:=hS8 _ e;omega))
            have PB_125:=ydq (PB_123.out.turns hgt (fun e=>by have:=hS8 _ e;omega))
            have S_125:=ydq (yfa S_123.out hgt (fun k' hk e=>by have:=hS8 k' e;have:=HLS.out k' hk;omega))
            have T_125:=ydq (yfa T_123.out hgt (fun k' hk e=>by have:=hS8 k' e;have:=HLT.out k' hk;omega))
            clear B_123 X_123 PB_123 D11_123 S_123 E_123 T_123
            have A_125:=ydq hown
            clear hown hgrow hnew hgt hS8
            have Q_125:=za4 X_125.out PB_125.out
            refine hK.out _ _ Q_125.out (fun hHeld=> ?_)
            clear hK K
            try simp only [Act.put,List.setIfInBounds_toArray,List.set_cons_zero,List.set_cons_succ]
            refine yxn 14 {dst:=some 45,op:=Op.build 172 #[(0,Operand.tmp 34),(1,Operand.tmp 37),(2,Operand.tmp 40),(3,Operand.tmp 44)],type:=172,pos:=_,after:=_,guard:=none} (.agg #[.int .i64 (psAt p.p k).e.t,.int .i64 (psAt p.p k).e.s,.int .i64 (psAt p.p k).e.q,.int .i64 (psAt p.p k).e.d,.int .i64 (psAt p.p k).e.k,.int .i64 (psAt p.p k).e.v,.int .i64 (psAt p.p k).e.g,.slice as1 (psAt p.p k).b.r.length cs1,.int .i64 (psAt p.p k).b.q,.int .i64 (psAt p.p k).b.d,.slice at1 (psAt p.p k).s.length ct1,.slice av1 (psAt p.p k).x.length cv1]) ?_
            try simp only [Act.put,List.setIfInBounds_toArray,List.set_cons_zero,List.set_cons_succ]
            refine yag (rs:= [15]) (by kernel_rfl) (by simp) ?_
            refine AllReadyZ.cons (o:= {dst:=some 46,op:=Op.buildSlice 95 1 #[(0,Operand.tmp 45)],type:=95,pos:=_,after:=_,guard:=none}) rfl (fun K hK=> ?_) AllReadyZ.nil
            obtain⟨Nb,hNb⟩:∃g,g=w124.heap.size:=⟨_,rfl⟩
            obtain⟨w126,hw126⟩:∃V,w124.alloc (.cells #[.int .i64 (psAt p.p k).e.t,.int .i64 (psAt p.p k).e.s,.int .i64 (psAt p.p k).e.q,.int .i64 (psAt p.p k).e.d,.int .i64 (psAt p.p k).e.k,.int .i64 (psAt p.p k).e.v,.int .i64 (psAt p.p k).e.g,.slice as1 (psAt p.p k).b.r.length cs1,.int .i64 (psAt p.p k).b.q,.int .i64 (psAt p.p k).b.d,.slice at1 (psAt p.p k).s.length ct1,.slice av1 (psAt p.p k).x.length cv1] 172)=V:=⟨_,rfl⟩
            have HW126:=ydq hw126
            have HNb:=ydq hNb
            have hs126:V0.heap.size≤w124.heap.size:=B_125.out.size
            have B_127:Hid (Below V0.heap.size V0 w126):=by(rw [←hw126];exact B_125.out.alloc B_125.out.size _)
            have X_127:Hid (Bk w126 Eb 172 #[.int .i64 (psAt p.p k).e.t,.int .i64 (psAt p.p k).e.s,.int .i64 (psAt p.p k).e.q,.int .i64 (psAt p.p k).e.d,.int .i64 (psAt p.p k).e.k,.int .i64 (psAt p.p k).e.v,.int .i64 (psAt p.p k).e.g,.slice f7 (psAt p.p k).b.r.length g7,.int .i64 (psAt p.p k).b.q,.int .i64 (psAt p.p k).b.d,.slice f10 (psAt p.p k).s.length g10,.slice f11 (psAt p.p k).x.length g11]):=by(rw [←hw126];exact X_125.out.alloc _)
            have PB_127:Hid (Bk w126 Pb 97 #[.int .i64 p.n,.slice ar p.st.r.length cr,.int .i64 p.st.q,.int .i64 p.st.d,.slice ap k cp,.slice at0 p.t.length ct,.slice aa p.a.length ca]):=by(rw [←hw126];exact PB_125.out.alloc _)
            have S_127:Hid (w126.ownsRow V0.heap.size 3 1 (.slice as1 (psAt p.p k).b.r.length cs1) (psAt p.p k).b.r.length (intCells (psAt p.p k).b.r)):=by(rw [←hw126];exact S_125.out.alloc _)
            have T_127:Hid (w126.ownsRow V0.heap.size 90 7 (.slice at1 (psAt p.p k).s.length ct1) (psAt p.p k).s.length (yvk (psAt p.p k).s)):=by(rw [←hw126];exact T_125.out.alloc _)
            have A_127:Hid (w126.ownsRow V0.heap.size 166 3 (.slice av1 (psAt p.p k).x.length cv1) (psAt p.p k).x.length (ywp (psAt p.p k).x)):=by(rw [←hw126];exact A_125.out.alloc _)
            clear B_125 X_125 PB_125 S_125 T_125 A_125
            have NB_127:Hid (Bk w126 Nb 172 #[.int .i64 (psAt p.p k).e.t,.int .i64 (psAt p.p k).e.s,.int .i64 (psAt p.p k).e.q,.int .i64 (psAt p.p k).e.d,.int .i64 (psAt p.p k).e.k,.int .i64 (psAt p.p k).e.v,.int .i64 (psAt p.p k).e.g,.slice as1 (psAt p.p k).b.r.length cs1,.int .i64 (psAt p.p k).b.q,.int .i64 (psAt p.p k).b.d,.slice at1 (psAt p.p k).s.length ct1,.slice av1 (psAt p.p k).x.length cv1]):=by(rw [←hw126];exact hNb▸Bk.new w124 _ _)
            have hz126:Nb<w126.heap.size:=NB_127.out.lt
            have hzy126:w124.heap.size≤Nb∧Nb≤w124.heap.size:=by omega
            clear hw126 hNb
            go_simp
            rw [HW126.out,←HNb.out]
            have Q_127:=za4 X_127.out PB_127.out
            refine hK.out _ _ Q_127.out (fun hHeld=> ?_)
            clear hK K
            try simp only [Act.put,List.setIfInBounds_toArray,List.set_cons_zero,List.set_cons_succ]
            refine yag (rs:= [16]) (by kernel_rfl) (by simp) ?_
            refine AllReadyZ.cons (o:= {dst:=some 47,op:=Op.call {callee:=Callee.builtin Builtin.append,args:= #[Operand.tmp 32,Operand.tmp 46],argTypes:= #[95,95]},type:=95,pos:=_,after:=_,guard:=none}) rfl (fun K hK=> ?_) AllReadyZ.nil
            have hbs128:V0.heap.size≤w126.heap.size:=B_127.out.size
            refine yyy (w:=w126) rfl (.tmp 32) (.tmp 46) 95 rfl Wc.heap.size 172 ip _ 12 144 Tryz.underlying95 hip hip0 hip1 hip2 rfl (by decide) (.slice ap k cp) k cs rfl (GV.out.below B_127.out).row ⟨Nb,0,none⟩ 1 1 (pastL (psAt p.p k) (.slice as1 (psAt p.p k).b.r.length cs1) (.slice at1 (psAt p.p k).s.length ct1) (.slice av1 (psAt p.p k).x.length cv1)) rfl rfl NB_127.out.src (by simp [pastL,Value.oneCell']) (by unfold maxLen;omega) (by omega) (by omega) ?_
            intro vn w128 hown hgrow hnew
            obtain⟨ap3,cp3,hvn⟩:=yoj hown
            subst hvn
            have hgt:=yw0 hgrow
            have h7:OwnD w126 (fun b=>(.slice as1 (psAt p.p k).b.r.length cs1:Value).ownBlock=some b) (.slice as1 (psAt p.p k).b.r.length cs1) (ywd (psAt p.p k).b.r):=(yy8 (by rw [ywy];omega) S_127.out).own
            have h10:OwnD w126 (fun b=>(.slice at1 (psAt p.p k).s.length ct1:Value).ownBlock=some b) (.slice at1 (psAt p.p k).s.length ct1) (evsD (psAt p.p k).s):=(yy8 (ywh _) T_127.out).own
            have h11:OwnD w126 (fun b=>(.slice av1 (psAt p.p k).x.length cv1:Value).ownBlock=some b) (.slice av1 (psAt p.p k).x.length cv1) (emsD (psAt p.p k).x):=(yy8 (yxt _) A_127.out).own
            have HGN:Hid (GrowD Wc.heap.size 172 w128 (.slice ap3 (k+1) cp3) 12 (k+1) (cs++pastL (psAt p.p k) (.slice as1 (psAt p.p k).b.r.length cs1) (.slice at1 (psAt p.p k).s.length ct1) (.slice av1 (psAt p.p k).x.length cv1)) (yfb p.p) (zdr (k*12) G (zfb (fun b=>(.slice as1 (psAt p.p k).b.r.length cs1:Value).ownBlock=some b) (fun b=>(.slice at1 (psAt p.p k).s.length ct1:Value).ownBlock=some b) (fun b=>(.slice av1 (psAt p.p k).x.length cv1:Value).ownBlock=some b)))):=GV.out.snocPs B_127.out (by omega) h7 h10 h11 (fun b hb=>yx7 S_127.out b hb) (fun b hb=>yx7 T_127.out b hb) (fun b hb=>yx7 A_127.out b hb) (fun b x y=>by have:=HLS.out b x;have:=HLT.out b y;omega) (fun b x y=>by have:=HLS.out b x;have:=HLA.out b y;omega) (fun b x y=>by have:=HLT.out b x;have:=HLA.out b y;omega) hown hgrow hnew
            have TuN:=ydq ((TuV.out.belowT (B_127.out.mono (by omega))).grownNew hgrow (fun b e=>(HVE.out b e).2))
            have X_129:=ydq (X_127.out.turns hgt (fun e=>by have:=HVE.out _ e;omega))
            have PB_129:=ydq (PB_127.out.turns hgt (fun e=>by have:=HVE.out _ e;omega))
            clear B_127 X_127 PB_127 S_127 T_127 A_127 NB_127
            clear hown hgrow hnew hgt h7 h10 h11
            have Q_129:=za4 X_129.out PB_129.out
            refine hK.out _ _ Q_129.out (fun hHeld=> ?_)
            clear hK K
            try simp only [Act.put,List.setIfInBounds_toArray,List.set_cons_zero,List.set_cons_succ]
            refine yxn 17 {dst:=some 48,op:=Op.fieldAddr 97 (Operand.tmp 3) 2,type:=0,pos:=_,after:=_,guard:=none} (.pointer (some ⟨Pb,4,none⟩)) ?_
            try simp only [Act.put,List.setIfInBounds_toArray,List.set_cons_zero,List.set_cons_succ]
            refine yag (rs:= [18]) (by kernel_rfl) (by simp) ?_
            refine AllReadyZ.last (o:= {dst:=none,op:=Op.store 95 (Operand.tmp 48) (Operand.tmp 47),type:=0,pos:=_,after:=_,guard:=none}) rfl (fun K hK=> ?_)
            have q4:=PB_129.out.cell (i:=4) rfl
            have qf:=PB_129.out.free
            go_simp
            clear qf q4
            refine hK.out _ _ ?_
            clear hK K
            try simp only [Act.put,List.setIfInBounds_toArray,List.set_cons_zero,List.set_cons_succ]
            refine ywa (by kernel_rfl) ?_ _
            obtain⟨X5,hX5⟩:∃X5,w128.setCell ⟨Pb,4,none⟩ (.slice ap3 (k+1) cp3)=X5:=⟨_,rfl⟩
            have hP5:=PB_129.out.put 4 (.slice ap3 (k+1) cp3)
            have ht5:=ydp w128 Pb 4 (.slice ap3 (k+1) cp3)
            rw [hX5]at hP5 ht5⊢
            clear hX5
            have HP5:=ydq hP5
            have HG5:=HGN.out.low ht5 (fun b hb e=>by omega)
            have HT5:=TuN.out.trans ht5
            clear hP5 ht5 HGN TuN
            have HG6:Hid _:=HG5
            have HT6:Hid _:=HT5
            clear HG5 HT5
            go_wp2
            go_roundw
            case rel=>exact⟨k+1,_,_,_,by omega,by go_num,HG6.out,HP5.out,HT6.out⟩
            case measure=>simp [intOf];omega
        · have hs8:V0.heap.size≤V0.drew.heap.size:=B_105.out.size
          obtain⟨g8,hg8⟩:∃g,g=V0.heap.size:=⟨_,rfl⟩
          obtain⟨w108,hw108⟩:∃V,(V0.alloc (.cells #[] 166)).drew=V:=⟨_,rfl⟩
          have HW108:=ydq hw108
          have HG8:Hid (g8=V0.heap.size):=hg8
          have B_109:Hid (Below V0.heap.size V0 w108):=by(rw [←hw108];exact B_105.out.alloc B_105.out.size _)
          have X_109:Hid (Bk w108 Eb 172 #[.int .i64 (psAt p.p k).e.t,.int .i64 (psAt p.p k).e.s,.int .i64 (psAt p.p k).e.q,.int .i64 (psAt p.p k).e.d,.int .i64 (psAt p.p k).e.k,.int .i64 (psAt p.p k).e.v,.int .i64 (psAt p.p k).e.g,.slice f7 (psAt p.p k).b.r.length g7,.int .i64 (psAt p.p k).b.q,.int .i64 (psAt p.p k).b.d,.slice f10 (psAt p.p k).s.length g10,.slice f11 (psAt p.p k).x.length g11]):=by(rw [←hw108];exact X_105.out.alloc _)
          have PB_109:Hid (Bk w108 Pb 97 #[.int .i64 p.n,.slice ar p.st.r.length cr,.int .i64 p.st.q,.int .i64 p.st.d,.slice ap k cp,.slice at0 p.t.length ct,.slice aa p.a.length ca]):=by(rw [←hw108];exact PB_105.out.alloc _)
          have D7_109:Hid (IsD w108 (.slice f7 (psAt p.p k).b.r.length g7) (ywd (psAt p.p k).b.r)):=by(rw [←hw108];exact D7_105.out.under ((Below.refl _ _).alloc (Nat.le_refl _) _))
          have D10_109:Hid (IsD w108 (.slice f10 (psAt p.p k).s.length g10) (evsD (psAt p.p k).s)):=by(rw [←hw108];exact D10_105.out.under ((Below.refl _ _).alloc (Nat.le_refl _) _))
          have D11_109:Hid (IsD w108 (.slice f11 (psAt p.p k).x.length g11) (emsD (psAt p.p k).x)):=by(rw [←hw108];exact D11_105.out.under ((Below.refl _ _).alloc (Nat.le_refl _) _))
          clear B_105 X_105 PB_105 D7_105 D10_105 D11_105
          have E_109:Hid (w108.ownsRow V0.heap.size 166 3 (.slice (some ⟨g8,0,none⟩) 0 0) 0 []):=by(rw [←hw108,hg8];exact yvh (yxo V0 166 3) hs8)
          have hz108:g8<w108.heap.size:=by(rw [←hw108,hg8];exact(Bk.new V0 166 #[]).lt)
          have hzy108:V0.heap.size≤g8∧g8≤V0.heap.size:=by omega
          clear hw108 hg8
          go_simp
          rw [HW108.out,←HG8.out]
          have Q_109:=za4 X_109.out PB_109.out
          refine hK.out _ _ Q_109.out (fun hHeld=> ?_)
          clear hK K
          try simp only [Act.put,List.setIfInBounds_toArray,List.set_cons_zero,List.set_cons_succ]
          refine yag (rs:= [6]) (by kernel_rfl) (by simp) ?_
          refine AllReadyZ.cons (o:= {dst:=some 37,op:=Op.call {callee:=Callee.value (Operand.func 179),args:= #[Operand.tmp 36],argTypes:= #[94]},type:=94,pos:=_,after:=_,guard:=none}) rfl (fun K hK=> ?_) AllReadyZ.nil
          have hbs130:V0.heap.size≤w108.heap.size:=B_109.out.size
          go_simp
          refine(zam _ _ (psAt p.p k).b w108 hqr1 rfl D7_109.out).mono ?_
          rintro e w130 ⟨vs1,rfl,hown,hb⟩
          obtain⟨as1,cs1,hvs⟩:=yoj hown
          subst hvs
          have HLS:Hid (∀k',(.slice as1 (psAt p.p k).b.r.length cs1:Value).ownBlock=some k'→w108.heap.size≤k'∧k'<w130.heap.size):=yx7 hown
          have hz130:w108.heap.size≤w130.heap.size:=hb.size
          have B_131:=ydq (trm B_109.out hb)
          have X_131:=ydq (X_109.out.below hb)
          have PB_131:=ydq (PB_109.out.below hb)
          have D10_131:=ydq (D10_109.out.under hb)
          have D11_131:=ydq (D11_109.out.under hb)
          have E_131:=ydq (yfa E_109.out (Turns.of_below hb) (fun _ _=>id))
          clear B_109 X_109 PB_109 D7_109 D10_109 D11_109 E_109
          have S_131:=ydq (yvh hown hbs130)
          clear hown hb
          have Q_131:=za4 X_131.out PB_131.out
          refine hK.out _ _ Q_131.out (fun hHeld=> ?_)
          clear hK K
          try simp only [Act.put,List.setIfInBounds_toArray,List.set_cons_zero,List.set_cons_succ]
          refine yag (rs:= [9]) (by kernel_rfl) (by simp) ?_
          refine AllReadyZ.cons (o:= {dst:=some 40,op:=Op.call {callee:=Callee.value (Operand.func 106),args:= #[Operand.tmp 39],argTypes:= #[34]},type:=34,pos:=_,after:=_,guard:=none}) rfl (fun K hK=> ?_) AllReadyZ.nil
          have hbs132:V0.heap.size≤w130.heap.size:=B_131.out.size
          go_simp
          refine(yx5 _ (psAt p.p k).s w130 hqs1 D10_131.out.srcEv).mono ?_
          rintro e w132 ⟨vt,rfl,hown,hb⟩
          obtain⟨at1,ct1,hvt⟩:=yoj hown
          subst hvt
          have HLT:Hid (∀k',(.slice at1 (psAt p.p k).s.length ct1:Value).ownBlock=some k'→w130.heap.size≤k'∧k'<w132.heap.size):=yx7 hown
          have hz132:w130.heap.size≤w132.heap.size:=hb.size
          have B_133:=ydq (trm B_131.out hb)
          have X_133:=ydq (X_131.out.below hb)
          have PB_133:=ydq (PB_131.out.below hb)
          have D11_133:=ydq (D11_131.out.under hb)
          have E_133:=ydq (yfa E_131.out (Turns.of_below hb) (fun _ _=>id))
          have S_133:=ydq (yfa S_131.out (Turns.of_below hb) (fun _ _=>id))
          clear B_131 X_131 PB_131 D10_131 D11_131 E_131 S_131
          have T_133:=ydq (yvh hown hbs132)
          clear hown hb
          have Q_133:=za4 X_133.out PB_133.out
          refine hK.out _ _ Q_133.out (fun hHeld=> ?_)
          clear hK K
          try simp only [Act.put,List.setIfInBounds_toArray,List.set_cons_zero,List.set_cons_succ]
          refine yag (rs:= [13]) (by kernel_rfl) (by simp) ?_
          refine AllReadyZ.cons (o:= {dst:=some 44,op:=Op.call {callee:=Callee.builtin Builtin.append,args:= #[Operand.tmp 41,Operand.tmp 43],argTypes:= #[39,39]},type:=39,pos:=_,after:=_,guard:=none}) rfl (fun K hK=> ?_) AllReadyZ.nil
          refine yvz (w:=w132) rfl (.tmp 41) (.tmp 43) 39 rfl V0.heap.size 166 ix (.agg #[.int .i64 0,.int .i64 0,.int .i64 0]) 3 24 Tryz.underlying39 hix hix0 hix1 hix2 rfl (by decide) (.slice (some ⟨g8,0,none⟩) 0 0) 0 [] rfl E_133.out (.slice f11 (psAt p.p k).x.length g11) (psAt p.p k).x.length (ywp (psAt p.p k).x) rfl D11_133.out.srcX (yzb _) (by unfold maxLen;omega) (by omega) B_133.out.size ?_
          intro va w134 hown hgrow hnew
          rw [Nat.zero_add,List.nil_append]at hown
          obtain⟨av1,cv1,hva⟩:=yoj hown
          subst hva
          have HLA:Hid (∀k',(.slice av1 (psAt p.p k).x.length cv1:Value).ownBlock=some k'→k'=g8∨(w132.heap.size≤k'∧k'<w134.heap.size)):=yxg hnew rfl hown
          have hz134:w132.heap.size≤w134.heap.size:=hgrow.size
          have hgt:=yw0 hgrow
          have hS8:∀k',(Value.slice (some ⟨g8,0,none⟩) 0 0).ownBlock=some k'→k'=g8:=fun k' e=>by simpa [Value.ownBlock] using e.symm
          have B_135:=ydq (B_133.out.grown hgrow B_133.out.size (fun k' e=>by have:=hS8 k' e;omega))
          have X_135:=ydq (X_133.out.turns hgt (fun e=>by have:=hS8 _ e;omega))
          have PB_135:=ydq (PB_133.out.turns hgt (fun e=>by have:=hS8 _ e;omega))
          have S_135:=ydq (yfa S_133.out hgt (fun k' hk e=>by have:=hS8 k' e;have:=HLS.out k' hk;omega))
          have T_135:=ydq (yfa T_133.out hgt (fun k' hk e=>by have:=hS8 k' e;have:=HLT.out k' hk;omega))
          clear B_133 X_133 PB_133 D11_133 E_133 S_133 T_133
          have A_135:=ydq hown
          clear hown hgrow hnew hgt hS8
          have Q_135:=za4 X_135.out PB_135.out
          refine hK.out _ _ Q_135.out (fun hHeld=> ?_)
          clear hK K
          try simp only [Act.put,List.setIfInBounds_toArray,List.set_cons_zero,List.set_cons_succ]
          refine yxn 14 {dst:=some 45,op:=Op.build 172 #[(0,Operand.tmp 34),(1,Operand.tmp 37),(2,Operand.tmp 40),(3,Operand.tmp 44)],type:=172,pos:=_,after:=_,guard:=none} (.agg #[.int .i64 (psAt p.p k).e.t,.int .i64 (psAt p.p k).e.s,.int .i64 (psAt p.p k).e.q,.int .i64 (psAt p.p k).e.d,.int .i64 (psAt p.p k).e.k,.int .i64 (psAt p.p k).e.v,.int .i64 (psAt p.p k).e.g,.slice as1 (psAt p.p k).b.r.length cs1,.int .i64 (psAt p.p k).b.q,.int .i64 (psAt p.p k).b.d,.slice at1 (psAt p.p k).s.length ct1,.slice av1 (psAt p.p k).x.length cv1]) ?_
          try simp only [Act.put,List.setIfInBounds_toArray,List.set_cons_zero,List.set_cons_succ]
          refine yag (rs:= [15]) (by kernel_rfl) (by simp) ?_
          refine AllReadyZ.cons (o:= {dst:=some 46,op:=Op.buildSlice 95 1 #[(0,Operand.tmp 45)],type:=95,pos:=_,after:=_,guard:=none}) rfl (fun K hK=> ?_) AllReadyZ.nil
          obtain⟨Nb,hNb⟩:∃g,g=w134.heap.size:=⟨_,rfl⟩
          obtain⟨w136,hw136⟩:∃V,w134.alloc (.cells #[.int .i64 (psAt p.p k).e.t,.int .i64 (psAt p.p k).e.s,.int .i64 (psAt p.p k).e.q,.int .i64 (psAt p.p k).e.d,.int .i64 (psAt p.p k).e.k,.int .i64 (psAt p.p k).e.v,.int .i64 (psAt p.p k).e.g,.slice as1 (psAt p.p k).b.r.length cs1,.int .i64 (psAt p.p k).b.q,.int .i64 (psAt p.p k).b.d,.slice at1 (psAt p.p k).s.length ct1,.slice av1 (psAt p.p k).x.length cv1] 172)=V:=⟨_,rfl⟩
          have HW136:=ydq hw136
          have HNb:=ydq hNb
          have hs136:V0.heap.size≤w134.heap.size:=B_135.out.size
          have B_137:Hid (Below V0.heap.size V0 w136):=by(rw [←hw136];exact B_135.out.alloc B_135.out.size _)
          have X_137:Hid (Bk w136 Eb 172 #[.int .i64 (psAt p.p k).e.t,.int .i64 (psAt p.p k).e.s,.int .i64 (psAt p.p k).e.q,.int .i64 (psAt p.p k).e.d,.int .i64 (psAt p.p k).e.k,.int .i64 (psAt p.p k).e.v,.int .i64 (psAt p.p k).e.g,.slice f7 (psAt p.p k).b.r.length g7,.int .i64 (psAt p.p k).b.q,.int .i64 (psAt p.p k).b.d,.slice f10 (psAt p.p k).s.length g10,.slice f11 (psAt p.p k).x.length g11]):=by(rw [←hw136];exact X_135.out.alloc _)
          have PB_137:Hid (Bk w136 Pb 97 #[.int .i64 p.n,.slice ar p.st.r.length cr,.int .i64 p.st.q,.int .i64 p.st.d,.slice ap k cp,.slice at0 p.t.length ct,.slice aa p.a.length ca]):=by(rw [←hw136];exact PB_135.out.alloc _)
          have S_137:Hid (w136.ownsRow V0.heap.size 3 1 (.slice as1 (psAt p.p k).b.r.length cs1) (psAt p.p k).b.r.length (intCells (psAt p.p k).b.r)):=by(rw [←hw136];exact S_135.out.alloc _)
          have T_137:Hid (w136.ownsRow V0.heap.size 90 7 (.slice at1 (psAt p.p k).s.length ct1) (psAt p.p k).s.length (yvk (psAt p.p k).s)):=by(rw [←hw136];exact T_135.out.alloc _)
          have A_137:Hid (w136.ownsRow V0.heap.size 166 3 (.slice av1 (psAt p.p k).x.length cv1) (psAt p.p k).x.length (ywp (psAt p.p k).x)):=by(rw [←hw136];exact A_135.out.alloc _)
          clear B_135 X_135 PB_135 S_135 T_135 A_135
          have NB_137:Hid (Bk w136 Nb 172 #[.int .i64 (psAt p.p k).e.t,.int .i64 (psAt p.p k).e.s,.int .i64 (psAt p.p k).e.q,.int .i64 (psAt p.p k).e.d,.int .i64 (psAt p.p k).e.k,.int .i64 (psAt p.p k).e.v,.int .i64 (psAt p.p k).e.g,.slice as1 (psAt p.p k).b.r.length cs1,.int .i64 (psAt p.p k).b.q,.int .i64 (psAt p.p k).b.d,.slice at1 (psAt p.p k).s.length ct1,.slice av1 (psAt p.p k).x.length cv1]):=by(rw [←hw136];exact hNb▸Bk.new w134 _ _)
          have hz136:Nb<w136.heap.size:=NB_137.out.lt
          have hzy136:w134.heap.size≤Nb∧Nb≤w134.heap.size:=by omega
          clear hw136 hNb
          go_simp
          rw [HW136.out,←HNb.out]
          have Q_137:=za4 X_137.out PB_137.out
          refine hK.out _ _ Q_137.out (fun hHeld=> ?_)
          clear hK K
          try simp only [Act.put,List.setIfInBounds_toArray,List.set_cons_zero,List.set_cons_succ]
          refine yag (rs:= [16]) (by kernel_rfl) (by simp) ?_
          refine AllReadyZ.cons (o:= {dst:=some 47,op:=Op.call {callee:=Callee.builtin Builtin.append,args:= #[Operand.tmp 32,Operand.tmp 46],argTypes:= #[95,95]},type:=95,pos:=_,after:=_,guard:=none}) rfl (fun K hK=> ?_) AllReadyZ.nil
          have hbs138:V0.heap.size≤w136.heap.size:=B_137.out.size
          refine yyy (w:=w136) rfl (.tmp 32) (.tmp 46) 95 rfl Wc.heap.size 172 ip _ 12 144 Tryz.underlying95 hip hip0 hip1 hip2 rfl (by decide) (.slice ap k cp) k cs rfl (GV.out.below B_137.out).row ⟨Nb,0,none⟩ 1 1 (pastL (psAt p.p k) (.slice as1 (psAt p.p k).b.r.length cs1) (.slice at1 (psAt p.p k).s.length ct1) (.slice av1 (psAt p.p k).x.length cv1)) rfl rfl NB_137.out.src (by simp [pastL,Value.oneCell']) (by unfold maxLen;omega) (by omega) (by omega) ?_
          intro vn w138 hown hgrow hnew
          obtain⟨ap3,cp3,hvn⟩:=yoj hown
          subst hvn
          have hgt:=yw0 hgrow
          have h7:OwnD w136 (fun b=>(.slice as1 (psAt p.p k).b.r.length cs1:Value).ownBlock=some b) (.slice as1 (psAt p.p k).b.r.length cs1) (ywd (psAt p.p k).b.r):=(yy8 (by rw [ywy];omega) S_137.out).own
          have h10:OwnD w136 (fun b=>(.slice at1 (psAt p.p k).s.length ct1:Value).ownBlock=some b) (.slice at1 (psAt p.p k).s.length ct1) (evsD (psAt p.p k).s):=(yy8 (ywh _) T_137.out).own
          have h11:OwnD w136 (fun b=>(.slice av1 (psAt p.p k).x.length cv1:Value).ownBlock=some b) (.slice av1 (psAt p.p k).x.length cv1) (emsD (psAt p.p k).x):=(yy8 (yxt _) A_137.out).own
          have HGN:Hid (GrowD Wc.heap.size 172 w138 (.slice ap3 (k+1) cp3) 12 (k+1) (cs++pastL (psAt p.p k) (.slice as1 (psAt p.p k).b.r.length cs1) (.slice at1 (psAt p.p k).s.length ct1) (.slice av1 (psAt p.p k).x.length cv1)) (yfb p.p) (zdr (k*12) G (zfb (fun b=>(.slice as1 (psAt p.p k).b.r.length cs1:Value).ownBlock=some b) (fun b=>(.slice at1 (psAt p.p k).s.length ct1:Value).ownBlock=some b) (fun b=>(.slice av1 (psAt p.p k).x.length cv1:Value).ownBlock=some b)))):=GV.out.snocPs B_137.out (by omega) h7 h10 h11 (fun b hb=>yx7 S_137.out b hb) (fun b hb=>yx7 T_137.out b hb) (fun b hb=>yx7 A_137.out b hb) (fun b x y=>by have:=HLS.out b x;have:=HLT.out b y;omega) (fun b x y=>by have:=HLS.out b x;have:=HLA.out b y;omega) (fun b x y=>by have:=HLT.out b x;have:=HLA.out b y;omega) hown hgrow hnew
          have TuN:=ydq ((TuV.out.belowT (B_137.out.mono (by omega))).grownNew hgrow (fun b e=>(HVE.out b e).2))
          have X_139:=ydq (X_137.out.turns hgt (fun e=>by have:=HVE.out _ e;omega))
          have PB_139:=ydq (PB_137.out.turns hgt (fun e=>by have:=HVE.out _ e;omega))
          clear B_137 X_137 PB_137 S_137 T_137 A_137 NB_137
          clear hown hgrow hnew hgt h7 h10 h11
          have Q_139:=za4 X_139.out PB_139.out
          refine hK.out _ _ Q_139.out (fun hHeld=> ?_)
          clear hK K
          try simp only [Act.put,List.setIfInBounds_toArray,List.set_cons_zero,List.set_cons_succ]
          refine yxn 17 {dst:=some 48,op:=Op.fieldAddr 97 (Operand.tmp 3) 2,type:=0,pos:=_,after:=_,guard:=none} (.pointer (some ⟨Pb,4,none⟩)) ?_
          try simp only [Act.put,List.setIfInBounds_toArray,List.set_cons_zero,List.set_cons_succ]
          refine yag (rs:= [18]) (by kernel_rfl) (by simp) ?_
          refine AllReadyZ.last (o:= {dst:=none,op:=Op.store 95 (Operand.tmp 48) (Operand.tmp 47),type:=0,pos:=_,after:=_,guard:=none}) rfl (fun K hK=> ?_)
          have q4:=PB_139.out.cell (i:=4) rfl
          have qf:=PB_139.out.free
          go_simp
          clear qf q4
          refine hK.out _ _ ?_
          clear hK K
          try simp only [Act.put,List.setIfInBounds_toArray,List.set_cons_zero,List.set_cons_succ]
          refine ywa (by kernel_rfl) ?_ _
          obtain⟨X5,hX5⟩:∃X5,w138.setCell ⟨Pb,4,none⟩ (.slice ap3 (k+1) cp3)=X5:=⟨_,rfl⟩
          have hP5:=PB_139.out.put 4 (.slice ap3 (k+1) cp3)
          have ht5:=ydp w138 Pb 4 (.slice ap3 (k+1) cp3)
          rw [hX5]at hP5 ht5⊢
          clear hX5
          have HP5:=ydq hP5
          have HG5:=HGN.out.low ht5 (fun b hb e=>by omega)
          have HT5:=TuN.out.trans ht5
          clear hP5 ht5 HGN TuN
          have HG6:Hid _:=HG5
          have HT6:Hid _:=HT5
          clear HG5 HT5
          go_wp2
          go_roundw
          case rel=>exact⟨k+1,_,_,_,by omega,by go_num,HG6.out,HP5.out,HT6.out⟩
          case measure=>simp [intOf];omega
      · obtain rfl:k=p.p.length:=by omega
        clear hlt hk
        obtain⟨z0,z1,z2,z3,z4,z5,z6⟩:=c7_7 HP.out
        have HZ:=ydq (BZ.out.keep HBr.out (by omega))
        obtain⟨y0,y1,y2,y3,y4,y5,y6⟩:=c7_7 HZ.out
        have yf:=HZ.out.free
        obtain⟨X5,hX5⟩:∃X5,put7s wr (w.heap.size+1) (.int .i64 p.n) (.slice ar p.st.r.length cr) (.int .i64 p.st.q) (.int .i64 p.st.d) (.slice ap p.p.length cp) (.slice at0 p.t.length ct) (.slice aa p.a.length ca)=X5:=⟨_,rfl⟩
        have hP5:=HZ.out.put7s (.int .i64 p.n) (.slice ar p.st.r.length cr) (.int .i64 p.st.q) (.int .i64 p.st.d) (.slice ap p.p.length cp) (.slice at0 p.t.length ct) (.slice aa p.a.length ca)
        have ht5:=yx0 wr (w.heap.size+1) (.int .i64 p.n) (.slice ar p.st.r.length cr) (.int .i64 p.st.q) (.int .i64 p.st.d) (.slice ap p.p.length cp) (.slice at0 p.t.length ct) (.slice aa p.a.length ca)
        rw [hX5]at hP5 ht5
        unfold put7s at hX5
        have HX5:Hid _:=hX5
        clear hX5
        have HP5:=ydq hP5
        have HT5:=ydq ht5
        clear hP5 ht5
        go_wp2
        rw [HX5.out]
        clear HX5 yf y0 z0 y1 z1 y2 z2 y3 z3 y4 z4 y5 z5 y6 z6
        obtain⟨y0,y1,y2,y3,y4,y5,y6⟩:=c7_7 HP5.out
        refine bodyPost_ret (v:= .agg #[.int .i64 p.n,.slice ar p.st.r.length cr,.int .i64 p.st.q,.int .i64 p.st.d,.slice ap p.p.length cp,.slice at0 p.t.length ct,.slice aa p.a.length ca]) (by simp [results,Tryz.results107,go_sem,y0,y1,y2,y3,y4,y5,y6]) rfl ?_
        have hTc:Turns (fun b=>b=Pb∨b=(w.heap.size+1)) Wc X5:=(HTu.out.sub (fun b e=> .inl e)).trans (HT5.out.sub (fun b e=> .inr e))
        have hsz5:Wc.heap.size≤X5.heap.size:=hTc.size
        have hBx:Below w.heap.size w X5:=(HBw.out.trans (HBr.out.mono (by omega))).trans (HT5.out.to_below (fun b e=>by omega) (by omega))
        refine⟨_,rfl,hBx,(fun b=>(Value.slice ar p.st.r.length cr).ownBlock=some b),GrowD.blocks (.slice ap p.p.length cp) 12 p.p.length G,(fun b=>(Value.slice at0 p.t.length ct).ownBlock=some b),(fun b=>(Value.slice aa p.a.length ca).ownBlock=some b),_,_,_,_,rfl,?_,?_,?_,?_,?_,?_,?_,?_⟩
        · exact(yy8 (by rw [ywy];omega) (yfa HR.out hTc (fun b hb e=>by have:=HNP.out b (.inl hb);omega))).own
        · exact(HG.out.turns HT5.out (fun b hb e=>by have:=HG.out.blocks_ge (.inl hb);omega) (fun j hj b hb e=>by have:=HG.out.blocks_ge (.inr ⟨j,hj,hb⟩);omega)).ownD
        · exact(yy8 (ywh _) (yfa HT.out hTc (fun b hb e=>by have:=HNP.out b (.inr (.inl hb));omega))).own
        · exact(yy8 (by rw [ywy];omega) (yfa HA.out hTc (fun b hb e=>by have:=HNP.out b (.inr (.inr hb));omega))).own
        · exact fun b hb=>⟨by have:=HNP.out b (.inl hb);omega,fun e=>by have:=HNP.out b (.inl hb);have:=HG.out.blocks_ge e;omega,yy7 HR.out HT.out (by decide) hb,HD.out b hb⟩
        · exact fun b hb=>⟨by have:=HG.out.blocks_ge hb;have:=HT5.out.size;omega,fun e=>by have:=HNP.out b (.inr (.inl e));have:=HG.out.blocks_ge hb;omega,fun e=>by have:=HNP.out b (.inr (.inr e));have:=HG.out.blocks_ge hb;omega⟩
        · exact fun b hb=>⟨by have:=HNP.out b (.inr (.inl hb));omega,yy7 HT.out HA.out (by decide) hb⟩
        · exact fun b hb=>by have:=HNP.out b (.inr (.inr hb));omega
end Go.Proofs.YtghndljgadpijaaGreat
