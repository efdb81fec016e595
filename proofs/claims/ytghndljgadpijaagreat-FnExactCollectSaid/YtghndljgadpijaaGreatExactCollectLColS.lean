/- The specification's Collect. -/
import Derived.Test.YtghndljgadpijaaGreatExactCollectG01
import Derived.Test.YtghndljgadpijaaGreatExactCollectLColL
import Derived.Test.YtghndljgadpijaaGreatExactCollectLKOg
import Derived.Test.YtghndljgadpijaaGreatExactCollectLKSg
namespace Go.Proofs.YtghndljgadpijaaGreat
open Go.RowKit
theorem yxo {p:Prop} (h:p):Hid p:=h
theorem KernF.form {F:Nat→Prop} {w:World} {y:Value} {R:Kn} (h:KernF F w y R):∃za zb zc zd ze zf zg zh zi zj zk zl zm zn zo zp,y= .agg #[.int .i64 R.m.n,.int .i64 R.m.s,.slice za R.m.i.length zb,.slice zc R.m.h.length zd,.slice ze R.m.e.length zf,.int .i64 R.m.z,.slice zg R.d.length zh,.slice zi R.p.length zj,.slice zk R.b.length zl,.int .i64 R.t,.int .i64 R.q,.bool R.f,.slice zm R.s.length zn,.slice zo R.x.length zp]:=by
  obtain⟨A0,A6,A7,A8,A12,A13,vi,vh,vs,u6,u7,u8,u12,u13,rfl,hm,h6,h7,h8,h12,h13,_⟩:=h
  obtain⟨ai,ci,ah,ch,ae,ce,hE⟩:=MdF.form hm
  cases hE
  obtain⟨a6,c6,rfl,_⟩:=OwnD.parts (c:=1) (n:=R.d.length) h6
  obtain⟨a7,c7,rfl,_⟩:=OwnD.parts (c:=7) (n:=R.p.length) h7
  obtain⟨a8,c8,rfl,_⟩:=OwnD.parts (c:=8) (n:=R.b.length) h8
  obtain⟨a12,c12,rfl,_⟩:=OwnD.parts (c:=7) (n:=R.s.length) h12
  obtain⟨a13,c13,rfl,_⟩:=OwnD.parts (c:=3) (n:=R.x.length) h13
  exact⟨ai,ci,ah,ch,ae,ce,a6,c6,a7,c7,a8,c8,a12,c12,a13,c13,rfl⟩
theorem IsKern.form9 {w:World} {x:Value} {R:Kn} (h:IsKern w x R):∃za zb zc zd ze zf zg zh zi zj zk zl zm zn zo zp,x= .agg #[.int .i64 R.m.n,.int .i64 R.m.s,.slice za R.m.i.length zb,.slice zc R.m.h.length zd,.slice ze R.m.e.length zf,.int .i64 R.m.z,.slice zg R.d.length zh,.slice zi R.p.length zj,.slice zk R.b.length zl,.int .i64 R.t,.int .i64 R.q,.bool R.f,.slice zm R.s.length zn,.slice zo R.x.length zp]:=by
  obtain⟨vi,vh,vs,u6,u7,u8,u12,u13,rfl,hM,h6,h7,h8,h12,h13⟩:=h
  obtain⟨vi9,vh9,vs9,e9,hI,hH,hE⟩:=id hM
  simp only [Value.agg.injEq,Array.mk.injEq,List.cons.injEq,and_true,true_and]at e9
  obtain⟨rfl,rfl,rfl⟩:=e9
  obtain⟨ai,ci,rfl,_⟩:=hI
  obtain⟨ah,ch,rfl,_⟩:=hH
  obtain⟨ae,ce,rfl,_⟩:=hE
  obtain⟨ad,cd,rfl⟩:=yw8 (c:=1) (n:=R.d.length) h6
  obtain⟨ap,cp,rfl⟩:=yw8 (c:=7) (n:=R.p.length) h7
  obtain⟨ab,cb,rfl⟩:=yw8 (c:=8) (n:=R.b.length) h8
  obtain⟨au,cu,rfl⟩:=yw8 (c:=7) (n:=R.s.length) h12
  obtain⟨ax,cx,rfl⟩:=yw8 (c:=3) (n:=R.x.length) h13
  exact⟨ai,ci,ah,ch,ae,ce,ad,cd,ap,cp,ab,cb,au,cu,ax,cx,rfl⟩
theorem KernF.wider {F F':Nat→Prop} {w:World} {y:Value} {k:Kn} (h:KernF F w y k) (hF:∀j,F j→F' j):KernF F' w y k:=by
  obtain⟨A0,A6,A7,A8,A12,A13,vi,vh,vs,u6,u7,u8,u12,u13,rfl,hm,h6,h7,h8,h12,h13,d0,d6,d7,d8,d12,d13⟩:=h
  exact⟨A0,A6,A7,A8,A12,A13,vi,vh,vs,u6,u7,u8,u12,u13,rfl,hm,h6,h7,h8,h12,h13,fun j hj=>⟨hF j (d0 j hj).1,(d0 j hj).2⟩,fun j hj=>⟨hF j (d6 j hj).1,(d6 j hj).2⟩,fun j hj=>⟨hF j (d7 j hj).1,(d7 j hj).2⟩,fun j hj=>⟨hF j (d8 j hj).1,(d8 j hj).2⟩,fun j hj=>⟨hF j (d12 j hj).1,(d12 j hj).2⟩,fun j hj=>hF j (d13 j hj)⟩
theorem md0_own (w:World):MdF (fun _=>False) w (.agg #[.int .i64 0,.int .i64 0,.slice none 0 0,.slice none 0 0,.slice none 0 0,.int .i64 0]) ⟨0,0,[],[],[],0⟩:=
  ⟨fun _=>False,fun _=>False,fun _=>False,_,_,_,rfl,⟨rfl,_,_,rfl,Nat.le_refl _,Nat.zero_le _,.inl rfl⟩,⟨fun _=> .int .i64 0,fun _=>False,fun _ _=>False,⟨rfl,_,_,rfl,Nat.le_refl _,Nat.zero_le _,.inl rfl⟩,fun _ h=>h,fun i hi=>by simp at hi,fun i j hi=>by simp at hi⟩,⟨rfl,_,_,rfl,Nat.le_refl _,Nat.zero_le _,.inl rfl⟩,fun _ h=>h.elim,fun _ h=>h.elim,fun _ h=>h.elim⟩
theorem zh1 (F:Nat→Prop) (w:World):KernF F w (.agg #[.int .i64 0,.int .i64 0,.slice none 0 0,.slice none 0 0,.slice none 0 0,.int .i64 0,.slice none 0 0,.slice none 0 0,.slice none 0 0,.int .i64 0,.int .i64 0,.bool false,.slice none 0 0,.slice none 0 0]) zik:=
  ⟨fun _=>False,fun _=>False,fun _=>False,fun _=>False,fun _=>False,fun _=>False,_,_,_,_,_,_,_,_,rfl,md0_own w,.nil _ _ _ _ _ (Nat.zero_le _),.nil _ _ _ _ _ (Nat.zero_le _),.nil _ _ _ _ _ (Nat.zero_le _),.nil _ _ _ _ _ (Nat.zero_le _),.nil _ _ _ _ _ (Nat.zero_le _),fun _ h=>h.elim,fun _ h=>h.elim,fun _ h=>h.elim,fun _ h=>h.elim,fun _ h=>h.elim,fun _ h=>h.elim⟩
theorem zpe {k:Kn} (h:k.ok=false):colA k=zik∧colN k= -1:=by
  have h9:¬k.ok=true:=by rw [h];simp
  unfold colA colN
  rw [if_neg h9,if_neg h9]
  exact⟨rfl,rfl⟩
theorem zgt {k:Kn} (h:k.ok=true) (h2:(colK k).ok=false):colA k=k∧colN k=0:=by
  have h9:¬(colK k).ok=true:=by rw [h2];simp
  unfold colA colN
  rw [if_pos h,if_pos h,if_neg h9,if_neg h9]
  exact⟨rfl,rfl⟩
theorem zjo {k:Kn} (h:k.ok=true) (h2:(colK k).ok=true):colA k=colK k∧colN k=((comL k).length:Int):=by
  unfold colA colN
  rw [if_pos h,if_pos h,if_pos h2,if_pos h2]
  exact⟨rfl,rfl⟩
set_option maxRecDepth 100000 in
set_option maxHeartbeats 64000000 in
theorem sCollect (x:Value) (k:Kn) (w:World) (hs:ywy k) (h:IsKern w x k):
    Calls Tryz.prog 10 #[x] w fun e w'=>∃y,e= .returned (.tuple #[y,.int .i64 (colN k)])∧KernF (fun j=>w.heap.size≤j∧j<w'.heap.size) w' y (colA k)∧Below w.heap.size w w':=by
  have HSK:Hid (ywy k):=hs
  clear hs
  obtain⟨ai,ci,ah,ch,ae,ce,ad,cd,ap,cp,ab,cb,au,cu,ax,cx,rfl⟩:=h.form9
  have HK:=yxo h
  clear h
  obtain⟨Rb,hRb⟩:∃Rb,Rb=w.heap.size+1:=⟨_,rfl⟩
  obtain⟨W0,hW0⟩:=al2IsKern HK.out 41 (.cells #[.int .i64 0,.int .i64 0,.slice none 0 0,.slice none 0 0,.slice none 0 0,.int .i64 0,.slice none 0 0,.slice none 0 0,.slice none 0 0,.int .i64 0,.int .i64 0,.bool false,.slice none 0 0,.slice none 0 0] 41)
  have HB0:Hid (Below w.heap.size w W0):=hW0▸((Below.refl _ w).alloc (Nat.le_refl _) _).alloc (by simp) _
  have HP0:Hid (Bk W0 w.heap.size 41 #[.int .i64 k.m.n,.int .i64 k.m.s,.slice ai k.m.i.length ci,.slice ah k.m.h.length ch,.slice ae k.m.e.length ce,.int .i64 k.m.z,.slice ad k.d.length cd,.slice ap k.p.length cp,.slice ab k.b.length cb,.int .i64 k.t,.int .i64 k.q,.bool k.f,.slice au k.s.length cu,.slice ax k.x.length cx]):=hW0▸(Bk.new w _ _).alloc _
  have HR0:Hid (Bk W0 Rb 41 #[.int .i64 0,.int .i64 0,.slice none 0 0,.slice none 0 0,.slice none 0 0,.int .i64 0,.slice none 0 0,.slice none 0 0,.slice none 0 0,.int .i64 0,.int .i64 0,.bool false,.slice none 0 0,.slice none 0 0]):=by rw [←hW0,hRb];exact Bk.newAt (by simp) _ _
  have HW0:=yxo hW0
  have HRB:=yxo hRb
  have hRw:w.heap.size<Rb:=by omega
  have hRW:Rb<W0.heap.size:=HR0.out.lt
  clear hRb
  obtain⟨m0,m1,m2,m3,m4,m5,m6,m7,m8,m9,m10,m11,m12,m13⟩:=ywd HP0.out
  go_enter Tryz.func10,Tryz.ntmps10
  go_wp2_with fail
  clear m0 m1 m2 m3 m4 m5 m6 m7 m8 m9 m10 m11 m12 m13 hW0
  try rw [HW0.out]
  try rw [←HRB.out]
  refine(zhe _ k _ HSK.out (HK.out.under HB0.out)).mono ?_
  rintro e w1 ⟨rfl,hb1⟩
  have HB1:=trh HB0 hb1
  have HP1:=yxo (HP0.out.below hb1)
  have HR1:=yxo (HR0.out.below hb1)
  have hs1:W0.heap.size≤w1.heap.size:=hb1.size
  clear hb1 HP0 HR0 HB0
  cases hkk:k.ok
  case false=>
    have HA:=zpe hkk
    clear hkk
    obtain⟨r0,r1,r2,r3,r4,r5,r6,r7,r8,r9,r10,r11,r12,r13⟩:=ywd HR1.out
    have rf:=HR1.out.free
    obtain⟨X,hX⟩:∃X,put14 w1 Rb (.int .i64 0) (.int .i64 0) (.slice none 0 0) (.slice none 0 0) (.slice none 0 0) (.int .i64 0) (.slice none 0 0) (.slice none 0 0) (.slice none 0 0) (.int .i64 0) (.int .i64 0) (.bool false) (.slice none 0 0) (.slice none 0 0)=X:=⟨_,rfl⟩
    have ht:Turns (fun j=>j=Rb) w1 X:=hX▸yyh _ _ _ _ _ _ _ _ _ _ _ _ _ _ _ _
    have hk:Bk X Rb 41 #[.int .i64 0,.int .i64 0,.slice none 0 0,.slice none 0 0,.slice none 0 0,.int .i64 0,.slice none 0 0,.slice none 0 0,.slice none 0 0,.int .i64 0,.int .i64 0,.bool false,.slice none 0 0,.slice none 0 0]:=hX▸HR1.out.put14 _ _ _ _ _ _ _ _ _ _ _ _ _ _
    unfold put14 at hX
    obtain⟨t0,t1,t2,t3,t4,t5,t6,t7,t8,t9,t10,t11,t12,t13⟩:=ywd hk
    have HXX:Hid _:=hX
    have HTX:=yxo ht
    clear ht hk
    go_wp2
    clear r0 r1 r2 r3 r4 r5 r6 r7 r8 r9 r10 r11 r12 r13 rf
    try rw [HXX.out]
    refine bodyPost_ret (v:= .tuple #[.agg #[.int .i64 0,.int .i64 0,.slice none 0 0,.slice none 0 0,.slice none 0 0,.int .i64 0,.slice none 0 0,.slice none 0 0,.slice none 0 0,.int .i64 0,.int .i64 0,.bool false,.slice none 0 0,.slice none 0 0],.int .i64 (-1)]) (by simp [results,Tryz.results10,go_sem,t0,t1,t2,t3,t4,t5,t6,t7,t8,t9,t10,t11,t12,t13]) rfl ?_
    rw [HA.1,HA.2]
    exact⟨_,rfl,zh1 _ _,HB1.out.trans (HTX.out.to_below (fun b e=>by omega) HB1.out.size)⟩
  have HKK:Hid (k.ok=true):=hkk
  clear hkk
  obtain⟨m0,m1,m2,m3,m4,m5,m6,m7,m8,m9,m10,m11,m12,m13⟩:=ywd HP1.out
  go_wp2_with fail
  clear m0 m1 m2 m3 m4 m5 m6 m7 m8 m9 m10 m11 m12 m13
  refine(zg9 _ k _ HSK.out (HK.out.under HB1.out)).mono ?_
  rintro e w2 ⟨⟨y,rfl,hy⟩,hb2⟩
  obtain⟨qa,qb,qc,qd,qe,qf,qg,qh,qi,qj,qk,ql,qm,qn,qo,qp,rfl⟩:=hy.form
  obtain⟨Ob,hOb⟩:∃Ob,Ob=w2.heap.size:=⟨_,rfl⟩
  obtain⟨w3,hw3⟩:∃V,w2.alloc (.cells #[.int .i64 k.m.n,.int .i64 k.m.s,.slice qa k.m.i.length qb,.slice qc k.m.h.length qd,.slice qe k.m.e.length qf,.int .i64 k.m.z,.slice qg k.d.length qh,.slice qi k.p.length qj,.slice qk k.b.length ql,.int .i64 k.t,.int .i64 k.q,.bool k.f,.slice qm k.s.length qn,.slice qo k.x.length qp] 41)=V:=⟨_,rfl⟩
  have hb23:=beA hw3
  have HO3:Hid (Bk w3 Ob 41 #[.int .i64 k.m.n,.int .i64 k.m.s,.slice qa k.m.i.length qb,.slice qc k.m.h.length qd,.slice qe k.m.e.length qf,.int .i64 k.m.z,.slice qg k.d.length qh,.slice qi k.p.length qj,.slice qk k.b.length ql,.int .i64 k.t,.int .i64 k.q,.bool k.f,.slice qm k.s.length qn,.slice qo k.x.length qp]):=hw3▸hOb▸Bk.new w2 _ _
  have HY3:=yxo (hy.turns (S:=fun _=>False) (Turns.of_below hb23) (fun _ _=>id))
  have hb13:Below w1.heap.size w1 w3:=trm hb2 hb23
  have HB3:=trh HB1 hb13
  have HP3:=yxo (HP1.out.below hb13)
  have HR3:=yxo (HR1.out.below hb13)
  have HW3:=yxo hw3
  have HOB:Hid (Ob=w2.heap.size):=hOb
  have hs2:w1.heap.size≤w2.heap.size:=hb2.size
  have hs3:w2.heap.size≤w3.heap.size:=hb23.size
  have hOl:Ob<w3.heap.size:=HO3.out.lt
  have hw:=HW3.out
  clear hb2 hy hb23 hb13 hw3 hOb HP1 HR1 HB1
  go_wp2_with fail
  clear hw HW3
  try rw [←HOB.out]
  refine(col5 Ob k _ _ _ HSK.out HKK.out HO3.out HY3.out (fun j hj=>by omega) (fun e=>by have:=HOB.out;omega)).mono ?_
  rintro e w4 ⟨rfl,⟨ys,hO4,hI4⟩,ht4⟩
  obtain⟨sa,sb,sc,sd,se,sf,sg,sh,si,sj,sk,sl,sm,sn,so,sp,hE⟩:=hI4.form9
  cases hE
  have HTT:=yxo ht4
  have hOe:w2.heap.size≤Ob:=by rw [HOB.out];omega
  have HB4:=yxo (HB3.out.trans (ht4.to_below (fun j hj=>by omega) HB3.out.size))
  have HP4:=yxo (HP3.out.turns ht4 (by omega))
  have HR4:=yxo (HR3.out.turns ht4 (by omega))
  have HO4:=yxo hO4
  have HI4:=yxo hI4
  have HSC:Hid (ywy (colK k)):=zf1 HSK.out HKK.out
  have hs4:w3.heap.size≤w4.heap.size:=ht4.size
  clear ht4 hO4 hI4 HTT HP3 HR3 HB3 HO3 HY3
  obtain⟨m0,m1,m2,m3,m4,m5,m6,m7,m8,m9,m10,m11,m12,m13⟩:=ywd HO4.out
  go_wp2_with fail
  clear m0 m1 m2 m3 m4 m5 m6 m7 m8 m9 m10 m11 m12 m13
  refine(zhe _ (colK k) _ HSC.out HI4.out).mono ?_
  rintro e w5 ⟨rfl,hb5⟩
  have HB5:=trh HB4 hb5
  have HP5:=yxo (HP4.out.below hb5)
  have HR5:=yxo (HR4.out.below hb5)
  have HO5:=yxo (HO4.out.below hb5)
  have HI5:=yxo (HI4.out.under hb5)
  have hs5:w4.heap.size≤w5.heap.size:=hb5.size
  clear hb5 HP4 HR4 HO4 HI4 HB4
  cases hck:(colK k).ok
  case false=>
    have HA:=zgt HKK.out hck
    clear hck
    obtain⟨m0,m1,m2,m3,m4,m5,m6,m7,m8,m9,m10,m11,m12,m13⟩:=ywd HP5.out
    go_wp2_with fail
    clear m0 m1 m2 m3 m4 m5 m6 m7 m8 m9 m10 m11 m12 m13
    refine(zg9 _ k _ HSK.out (HK.out.under HB5.out)).mono ?_
    rintro e w6 ⟨⟨y,rfl,hy⟩,hb6⟩
    obtain⟨va,vb,vc,vd,ve,vf,vg,vh,vi,vj,vk,vl,vm,vn,vo,vp,rfl⟩:=hy.form
    have HY6:=yxo hy
    have HB6:=trh HB5 hb6
    have HR6:=yxo (HR5.out.below hb6)
    clear hy hb6
    obtain⟨r0,r1,r2,r3,r4,r5,r6,r7,r8,r9,r10,r11,r12,r13⟩:=ywd HR6.out
    have rf:=HR6.out.free
    obtain⟨X,hX⟩:∃X,put14 w6 Rb (.int .i64 k.m.n) (.int .i64 k.m.s) (.slice va k.m.i.length vb) (.slice vc k.m.h.length vd) (.slice ve k.m.e.length vf) (.int .i64 k.m.z) (.slice vg k.d.length vh) (.slice vi k.p.length vj) (.slice vk k.b.length vl) (.int .i64 k.t) (.int .i64 k.q) (.bool k.f) (.slice vm k.s.length vn) (.slice vo k.x.length vp)=X:=⟨_,rfl⟩
    have ht:Turns (fun j=>j=Rb) w6 X:=hX▸yyh _ _ _ _ _ _ _ _ _ _ _ _ _ _ _ _
    have hk:Bk X Rb 41 #[.int .i64 k.m.n,.int .i64 k.m.s,.slice va k.m.i.length vb,.slice vc k.m.h.length vd,.slice ve k.m.e.length vf,.int .i64 k.m.z,.slice vg k.d.length vh,.slice vi k.p.length vj,.slice vk k.b.length vl,.int .i64 k.t,.int .i64 k.q,.bool k.f,.slice vm k.s.length vn,.slice vo k.x.length vp]:=hX▸HR6.out.put14 _ _ _ _ _ _ _ _ _ _ _ _ _ _
    unfold put14 at hX
    obtain⟨t0,t1,t2,t3,t4,t5,t6,t7,t8,t9,t10,t11,t12,t13⟩:=ywd hk
    have HXX:Hid _:=hX
    have HTX:=yxo ht
    clear ht hk
    go_wp2
    clear r0 r1 r2 r3 r4 r5 r6 r7 r8 r9 r10 r11 r12 r13 rf
    try rw [HXX.out]
    refine bodyPost_ret (v:= .tuple #[.agg #[.int .i64 k.m.n,.int .i64 k.m.s,.slice va k.m.i.length vb,.slice vc k.m.h.length vd,.slice ve k.m.e.length vf,.int .i64 k.m.z,.slice vg k.d.length vh,.slice vi k.p.length vj,.slice vk k.b.length vl,.int .i64 k.t,.int .i64 k.q,.bool k.f,.slice vm k.s.length vn,.slice vo k.x.length vp],.int .i64 (0)]) (by simp [results,Tryz.results10,go_sem,t0,t1,t2,t3,t4,t5,t6,t7,t8,t9,t10,t11,t12,t13]) rfl ?_
    rw [HA.1,HA.2]
    exact⟨_,rfl,(HY6.out.turns HTX.out (fun j hj e=>by omega)).wider (fun j hj=>⟨by have:=HB5.out.size;omega,Nat.lt_of_lt_of_le hj.2 HTX.out.size⟩),HB6.out.trans (HTX.out.to_below (fun b e=>by omega) HB6.out.size)⟩
  have HA:=zjo HKK.out hck
  clear hck
  obtain⟨m0,m1,m2,m3,m4,m5,m6,m7,m8,m9,m10,m11,m12,m13⟩:=ywd HO5.out
  go_wp2_with fail
  clear m0 m1 m2 m3 m4 m5 m6 m7 m8 m9 m10 m11 m12 m13
  refine(zg9 _ (colK k) _ HSC.out HI5.out).mono ?_
  rintro e w6 ⟨⟨y,rfl,hy⟩,hb6⟩
  obtain⟨va,vb,vc,vd,ve,vf,vg,vh,vi,vj,vk,vl,vm,vn,vo,vp,rfl⟩:=hy.form
  have HY6:=yxo hy
  have HB6:=trh HB5 hb6
  have HR6:=yxo (HR5.out.below hb6)
  clear hy hb6
  obtain⟨r0,r1,r2,r3,r4,r5,r6,r7,r8,r9,r10,r11,r12,r13⟩:=ywd HR6.out
  have rf:=HR6.out.free
  obtain⟨X,hX⟩:∃X,put14 w6 Rb (.int .i64 (colK k).m.n) (.int .i64 (colK k).m.s) (.slice va (colK k).m.i.length vb) (.slice vc (colK k).m.h.length vd) (.slice ve (colK k).m.e.length vf) (.int .i64 (colK k).m.z) (.slice vg (colK k).d.length vh) (.slice vi (colK k).p.length vj) (.slice vk (colK k).b.length vl) (.int .i64 (colK k).t) (.int .i64 (colK k).q) (.bool (colK k).f) (.slice vm (colK k).s.length vn) (.slice vo (colK k).x.length vp)=X:=⟨_,rfl⟩
  have ht:Turns (fun j=>j=Rb) w6 X:=hX▸yyh _ _ _ _ _ _ _ _ _ _ _ _ _ _ _ _
  have hk:Bk X Rb 41 #[.int .i64 (colK k).m.n,.int .i64 (colK k).m.s,.slice va (colK k).m.i.length vb,.slice vc (colK k).m.h.length vd,.slice ve (colK k).m.e.length vf,.int .i64 (colK k).m.z,.slice vg (colK k).d.length vh,.slice vi (colK k).p.length vj,.slice vk (colK k).b.length vl,.int .i64 (colK k).t,.int .i64 (colK k).q,.bool (colK k).f,.slice vm (colK k).s.length vn,.slice vo (colK k).x.length vp]:=hX▸HR6.out.put14 _ _ _ _ _ _ _ _ _ _ _ _ _ _
  unfold put14 at hX
  obtain⟨t0,t1,t2,t3,t4,t5,t6,t7,t8,t9,t10,t11,t12,t13⟩:=ywd hk
  have HXX:Hid _:=hX
  have HTX:=yxo ht
  clear ht hk
  go_wp2
  clear r0 r1 r2 r3 r4 r5 r6 r7 r8 r9 r10 r11 r12 r13 rf
  try rw [HXX.out]
  refine bodyPost_ret (v:= .tuple #[.agg #[.int .i64 (colK k).m.n,.int .i64 (colK k).m.s,.slice va (colK k).m.i.length vb,.slice vc (colK k).m.h.length vd,.slice ve (colK k).m.e.length vf,.int .i64 (colK k).m.z,.slice vg (colK k).d.length vh,.slice vi (colK k).p.length vj,.slice vk (colK k).b.length vl,.int .i64 (colK k).t,.int .i64 (colK k).q,.bool (colK k).f,.slice vm (colK k).s.length vn,.slice vo (colK k).x.length vp],.int .i64 (((comL k).length:Int))]) (by simp [results,Tryz.results10,go_sem,t0,t1,t2,t3,t4,t5,t6,t7,t8,t9,t10,t11,t12,t13]) rfl ?_
  rw [HA.1,HA.2]
  exact⟨_,rfl,(HY6.out.turns HTX.out (fun j hj e=>by omega)).wider (fun j hj=>⟨by have:=HB5.out.size;omega,Nat.lt_of_lt_of_le hj.2 HTX.out.size⟩),HB6.out.trans (HTX.out.to_below (fun b e=>by omega) HB6.out.size)⟩
end Go.Proofs.YtghndljgadpijaaGreat
