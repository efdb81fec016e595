/- The program's Collect. -/
import Derived.Test.YtghndljgadpijaaGreatExactCollectG01
import Derived.Test.YtghndljgadpijaaGreatExactCollectLColS
import Derived.Test.YtghndljgadpijaaGreatExactCollectG41
import Derived.Test.YtghndljgadpijaaGreatExactCollectLCoI
import Derived.Test.YtghndljgadpijaaGreatExactCollectG07
import Derived.Test.YtghndljgadpijaaGreatExactCollectG18
namespace Go.Proofs.YtghndljgadpijaaGreat
open Go.RowKit
theorem zbe {P:Program} {md:Region.Mode} {ops:Array Oper} {Q:Exit→Act→World→Prop} {S:World→Prop} {z fuel:Nat} {listed:Array Bool} {a:Act} {w:World} (i:Nat) (oi:Oper) (v:Value)
  (h:yx7 P md ops Q S z fuel (listed.setIfInBounds i true) (a.put oi.dst v) w) (hi:ops[i]? =some oi:=by rfl)
  (hs:Region.noSelect ops=true:=by kernel_rfl) (hf:Region.free md ops listed i=true:=by kernel_rfl) (hr:(Region.ready md ops listed).contains i=true:=by kernel_rfl)
  (hc:yzl md ops i z [i]=true:=by kernel_rfl) (hu: [i].all (fun p=> !listed.getD p true)=true:=by kernel_rfl)
  (hQ:∀c a w,Q (.panic c) (a.put oi.dst v) w→Q (.panic c) a w:=by exact fun _ _ _ h=>h)
  (hy:YieldsIf P ops S oi v a:=by exact Or.inl ⟨by rfl,by(intro wX hSw;(try dsimp only at hSw);go_simp;(try exact IntWalk.i64_in _ (by omega)))⟩) (hS:S w:=by assumption):yx7 P md ops Q S z (fuel+1) listed a w:=
  ywe i [] hi hs hf hr hc hu hQ hy hS h
theorem yw6 {p:Prop} (h:p):Hid p:=h
theorem HiF.form9 {F:Nat→Prop} {w:World} {x:Value} {h:Hi} (hh:HiF F w x h):∃a c ax cx,x= .agg #[.slice a h.ev.length c,.slice ax h.em.length cx,.int .i64 h.k,.bool h.f]:=by
  obtain⟨A,C,ve,vx,rfl,⟨_,a1,c1,rfl,_⟩,⟨_,a2,c2,rfl,_⟩,_⟩:=hh
  exact⟨a1,c1,a2,c2,rfl⟩
set_option maxRecDepth 100000 in
set_option maxHeartbeats 64000000 in
theorem iCollect [Inhabited PsF] (x:Value) (k:Kn) (w:World) (hs:ywy k) (h:IsKern w x k):
    Calls Tryz.prog 12 #[x] w fun e w'=>∃y,e= .returned (.tuple #[y,.int .i64 (colN k)])∧KernF (fun j=>w.heap.size≤j∧j<w'.heap.size) w' y (colA k)∧Below w.heap.size w w':=by
  have HSK:Hid (ywy k):=hs
  have HWP:Hid (∀i,i<k.p.length→(paAt k.p i).wt≤1048577):=fun i hi=>Nat.le_trans (yyf hs.2 i hi) (by omega)
  have hN6:k.p.length≤1048576:=(yyp hs.2).2.1
  clear hs
  obtain⟨ai,ci,ah,ch,ae,ce,ad,cd,ap,cp,ab,cb,au,cu,ax,cx,rfl⟩:=h.form9
  have HPD:Hid (IsD w (.slice ap k.p.length cp) (ywi k.p)):=by
    obtain⟨_,_,_,_,_,_,_,_,e9,_,_,h7,_⟩:=h
    cases e9
    exact h7
  have HK:=yw6 h
  clear h
  obtain⟨P,hPe⟩:∃P,P=w.heap.size:=⟨_,rfl⟩
  obtain⟨Rb,hRb⟩:∃Rb,Rb=w.heap.size+1:=⟨_,rfl⟩
  obtain⟨W0,hW0⟩:=al2IsKern HK.out 41 (.cells #[.int .i64 0,.int .i64 0,.slice none 0 0,.slice none 0 0,.slice none 0 0,.int .i64 0,.slice none 0 0,.slice none 0 0,.slice none 0 0,.int .i64 0,.int .i64 0,.bool false,.slice none 0 0,.slice none 0 0] 41)
  have HB0:Hid (Below w.heap.size w W0):=hW0▸((Below.refl _ w).alloc (Nat.le_refl _) _).alloc (by simp) _
  have HP0:Hid (Bk W0 P 41 #[.int .i64 k.m.n,.int .i64 k.m.s,.slice ai k.m.i.length ci,.slice ah k.m.h.length ch,.slice ae k.m.e.length ce,.int .i64 k.m.z,.slice ad k.d.length cd,.slice ap k.p.length cp,.slice ab k.b.length cb,.int .i64 k.t,.int .i64 k.q,.bool k.f,.slice au k.s.length cu,.slice ax k.x.length cx]):=by rw [←hW0,hPe];exact(Bk.new w _ _).alloc _
  have HR0:Hid (Bk W0 Rb 41 #[.int .i64 0,.int .i64 0,.slice none 0 0,.slice none 0 0,.slice none 0 0,.int .i64 0,.slice none 0 0,.slice none 0 0,.slice none 0 0,.int .i64 0,.int .i64 0,.bool false,.slice none 0 0,.slice none 0 0]):=by rw [←hW0,hRb];exact Bk.newAt (by simp) _ _
  have HW0:=yw6 hW0
  have HRB:=yw6 hRb
  have HPE:Hid (P=w.heap.size):=hPe
  have hRw:w.heap.size<Rb:=by omega
  have hPR:P<Rb:=by omega
  have hPw:w.heap.size≤P:=by omega
  have hRW:Rb<W0.heap.size:=HR0.out.lt
  obtain⟨m0,m1,m2,m3,m4,m5,m6,m7,m8,m9,m10,m11,m12,m13⟩:=ywd (HPE.out▸HP0.out:Bk W0 w.heap.size 41 #[.int .i64 k.m.n,.int .i64 k.m.s,.slice ai k.m.i.length ci,.slice ah k.m.h.length ch,.slice ae k.m.e.length ce,.int .i64 k.m.z,.slice ad k.d.length cd,.slice ap k.p.length cp,.slice ab k.b.length cb,.int .i64 k.t,.int .i64 k.q,.bool k.f,.slice au k.s.length cu,.slice ax k.x.length cx])
  clear hRb hPe
  go_enter Tryz.func12,Tryz.ntmps12
  go_wp2_with fail
  clear m0 m1 m2 m3 m4 m5 m6 m7 m8 m9 m10 m11 m12 m13 hW0
  try rw [HW0.out]
  try rw [←HRB.out]
  try rw [←HPE.out]
  refine(zmi _ k _ HSK.out (HK.out.under HB0.out)).mono ?_
  rintro e w1 ⟨yh,rfl,hh,hb1⟩
  obtain⟨ay,cy,ax2,cx2,rfl⟩:=hh.form9
  have HHI:=yw6 hh
  obtain⟨Hb,hHb⟩:∃Hb,Hb=w1.heap.size:=⟨_,rfl⟩
  obtain⟨w2,hw2⟩:∃V,w1.alloc (.cells #[.slice ay (comH k).ev.length cy,.slice ax2 (comH k).em.length cx2,.int .i64 (comH k).k,.bool (comH k).f] 86)=V:=⟨_,rfl⟩
  have hb12:=beA hw2
  have hb02:Below W0.heap.size W0 w2:=trm hb1 hb12
  have HB2:=trh HB0 hb02
  have HP2:=yw6 (HP0.out.below hb02)
  have HR2:=yw6 (HR0.out.below hb02)
  have HH2:Hid (Bk w2 Hb 86 #[.slice ay (comH k).ev.length cy,.slice ax2 (comH k).em.length cx2,.int .i64 (comH k).k,.bool (comH k).f]):=hw2▸hHb▸Bk.new w1 _ _
  have HHJ:=yw6 (HHI.out.turns (S:=fun _=>False) (Turns.of_below hb12) (fun _ _=>id))
  have HW2:=yw6 hw2
  have HHB:Hid (Hb=w1.heap.size):=hHb
  have hs1:W0.heap.size≤w1.heap.size:=hb1.size
  have hs2:w1.heap.size≤w2.heap.size:=hb12.size
  have hHw:w1.heap.size≤Hb:=by omega
  have hHl:Hb<w2.heap.size:=HH2.out.lt
  have hw:=HW2.out
  clear hb1 hb12 hb02 hh HHI hw2 HP0 HR0 HB0 hHb
  cases hkk:k.ok
  case false=>
    have HA:=zpe hkk
    clear hkk
    obtain⟨r0,r1,r2,r3,r4,r5,r6,r7,r8,r9,r10,r11,r12,r13⟩:=ywd HR2.out
    have rf:=HR2.out.free
    obtain⟨X,hX⟩:∃X,put14 w2 Rb (.int .i64 0) (.int .i64 0) (.slice none 0 0) (.slice none 0 0) (.slice none 0 0) (.int .i64 0) (.slice none 0 0) (.slice none 0 0) (.slice none 0 0) (.int .i64 0) (.int .i64 0) (.bool false) (.slice none 0 0) (.slice none 0 0)=X:=⟨_,rfl⟩
    have ht:Turns (fun j=>j=Rb) w2 X:=hX▸yyh _ _ _ _ _ _ _ _ _ _ _ _ _ _ _ _
    have hk:Bk X Rb 41 #[.int .i64 0,.int .i64 0,.slice none 0 0,.slice none 0 0,.slice none 0 0,.int .i64 0,.slice none 0 0,.slice none 0 0,.slice none 0 0,.int .i64 0,.int .i64 0,.bool false,.slice none 0 0,.slice none 0 0]:=hX▸HR2.out.put14 _ _ _ _ _ _ _ _ _ _ _ _ _ _
    unfold put14 at hX
    obtain⟨t0,t1,t2,t3,t4,t5,t6,t7,t8,t9,t10,t11,t12,t13⟩:=ywd hk
    have HXX:Hid _:=hX
    have HTX:=yw6 ht
    clear ht hk
    go_wp2
    clear r0 r1 r2 r3 r4 r5 r6 r7 r8 r9 r10 r11 r12 r13 rf hw
    try rw [HXX.out]
    refine bodyPost_ret (v:= .tuple #[.agg #[.int .i64 0,.int .i64 0,.slice none 0 0,.slice none 0 0,.slice none 0 0,.int .i64 0,.slice none 0 0,.slice none 0 0,.slice none 0 0,.int .i64 0,.int .i64 0,.bool false,.slice none 0 0,.slice none 0 0],.int .i64 (-1)]) (by simp [results,Tryz.results12,go_sem,t0,t1,t2,t3,t4,t5,t6,t7,t8,t9,t10,t11,t12,t13]) rfl ?_
    rw [HA.1,HA.2]
    exact⟨_,rfl,zh1 _ _,HB2.out.trans (HTX.out.to_below (fun b e=>by omega) HB2.out.size)⟩
  have HKK:Hid (k.ok=true):=hkk
  have hce:comH k=⟨k.s++yz8 (comL k),yze k (comL k),k.q,k.f⟩:=by unfold comH;rw [hkk];rfl
  clear hkk
  clear hw
  rw [hce]at HHJ HH2 HW2
  obtain⟨EL,hEL⟩:∃E,k.s++yz8 (comL k)=E:=⟨_,rfl⟩
  obtain⟨TL,hTL⟩:∃E,yze k (comL k)=E:=⟨_,rfl⟩
  have hLE:EL.length=k.s.length+(comL k).length:=by rw [←hEL];simp [yz8]
  have HLE:=yw6 hLE
  clear hLE
  have HEL:=yw6 hEL
  have HTL:=yw6 hTL
  rw [hEL,hTL]at HHJ HH2 HW2
  have HH2:=yw6 HH2
  have HW2:=yw6 HW2
  have hw:=HW2.out
  obtain⟨AE,AX,ve,vx,hE9,hre,hrx,hde,hdx⟩:=HHJ.out
  cases hE9
  have HE2:=yw6 hre.own
  have HX2:=yw6 hrx.own
  have HDE:Hid ((∀j,AE j→(W0.heap.size≤j∧j<w1.heap.size)∧ ¬AX j)∧(∀j,AX j→W0.heap.size≤j∧j<w1.heap.size)):=⟨hde,hdx⟩
  clear hre hrx hde hdx HHJ hEL hTL
  obtain⟨m0,m1,m2,m3,m4,m5,m6,m7,m8,m9,m10,m11,m12,m13⟩:=ywd HP2.out
  obtain⟨n0,n1,n2,n3⟩:=c4_4 HH2.out
  rw [hce]
  rw [HEL.out,HTL.out]
  dsimp only
  clear hce
  go_wp2_with fail
  clear m0 m1 m2 m3 m4 m5 m6 m7 m8 m9 m10 m11 m12 m13 hw HW2 n0 n1 n2 n3
  try rw [←HHB.out]
  clear HHB
  refine(zic _ k _ HSK.out (HK.out.under HB2.out)).mono ?_
  rintro e w3 ⟨y,rfl,hy,hb3⟩
  obtain⟨qa,qb,qc,qd,qe,qf,qg,qh,qi,qj,qk,ql,qm,qn,qo,qp,rfl⟩:=hy.form
  obtain⟨A0,A6,A7,A8,_,_,_,_,_,_,_,_,_,_,hE9,hm,h6,h7,h8,_,_,d0,d6,d7,d8,_,_⟩:=hy
  cases hE9
  obtain⟨Ab,hAb⟩:∃Ab,Ab=w3.heap.size:=⟨_,rfl⟩
  obtain⟨w4,hw4⟩:∃V,w3.alloc (.cells #[.int .i64 k.m.n,.int .i64 k.m.s,.slice qa k.m.i.length qb,.slice qc k.m.h.length qd,.slice qe k.m.e.length qf,.int .i64 k.m.z,.slice qg k.d.length qh,.slice qi k.p.length qj,.slice qk k.b.length ql,.int .i64 k.t,.int .i64 k.q,.bool k.f,.slice qm k.s.length qn,.slice qo k.x.length qp] 41)=V:=⟨_,rfl⟩
  obtain⟨w4s,hw5⟩:∃V,(w4.setCell ⟨Ab,12,none⟩ (.slice ay EL.length cy)).setCell ⟨Ab,13,none⟩ (.slice ax2 TL.length cx2)=V:=⟨_,rfl⟩
  obtain⟨w5,hw5d⟩:∃V,w4s.drew=V:=⟨_,rfl⟩
  have hb34:=beA hw4
  have HA4:Hid (Bk w4 Ab 41 #[.int .i64 k.m.n,.int .i64 k.m.s,.slice qa k.m.i.length qb,.slice qc k.m.h.length qd,.slice qe k.m.e.length qf,.int .i64 k.m.z,.slice qg k.d.length qh,.slice qi k.p.length qj,.slice qk k.b.length ql,.int .i64 k.t,.int .i64 k.q,.bool k.f,.slice qm k.s.length qn,.slice qo k.x.length qp]):=hw4▸hAb▸Bk.new w3 _ _
  have HA5:Hid (Bk w5 Ab 41 #[.int .i64 k.m.n,.int .i64 k.m.s,.slice qa k.m.i.length qb,.slice qc k.m.h.length qd,.slice qe k.m.e.length qf,.int .i64 k.m.z,.slice qg k.d.length qh,.slice qi k.p.length qj,.slice qk k.b.length ql,.int .i64 k.t,.int .i64 k.q,.bool k.f,.slice ay EL.length cy,.slice ax2 TL.length cx2]):=by
    have h1:Bk (w4.setCell ⟨Ab,12,none⟩ (.slice ay EL.length cy)) Ab 41 #[.int .i64 k.m.n,.int .i64 k.m.s,.slice qa k.m.i.length qb,.slice qc k.m.h.length qd,.slice qe k.m.e.length qf,.int .i64 k.m.z,.slice qg k.d.length qh,.slice qi k.p.length qj,.slice qk k.b.length ql,.int .i64 k.t,.int .i64 k.q,.bool k.f,.slice ay EL.length cy,.slice qo k.x.length qp]:=HA4.out.put 12 _
    have h2:=h1.put 13 (.slice ax2 TL.length cx2)
    rw [hw5]at h2
    exact hw5d▸h2.drew
  have ht45:Turns (fun j=>j=Ab) w4 w5:=by
    have h1:Turns (fun j=>j=Ab) w4 w4s:=hw5▸(yag w4 Ab 12 _).trans (yag _ Ab 13 _)
    exact hw5d▸h1.drew
  have hs3:w2.heap.size≤w3.heap.size:=hb3.size
  have hs4:w3.heap.size≤w4.heap.size:=hb34.size
  have hs5:w4.heap.size≤w5.heap.size:=ht45.size
  have hb35:Below w3.heap.size w3 w5:=hb34.trans (ht45.to_below (fun j e=>by omega) hs4)
  have hb25:Below w2.heap.size w2 w5:=hb3.trans (hb35.mono hs3)
  have HB5:=trh HB2 hb25
  have HP5:=yw6 (HP2.out.below hb25)
  have HR5:=yw6 (HR2.out.below hb25)
  have HE5:=yw6 (HE2.out.under hb25)
  have HX5:=yw6 (HX2.out.under hb25)
  have HM5:=yw6 (hm.turns (S:=fun _=>False) (Turns.of_below hb35) (fun _ _=>id))
  have H65:=yw6 (h6.under hb35)
  have H75:=yw6 (h7.under hb35)
  have H85:=yw6 (h8.under hb35)
  have HDK:Hid ((∀j,A0 j→(w2.heap.size≤j∧j<w3.heap.size)∧ ¬A6 j∧ ¬A7 j∧ ¬A8 j)∧(∀j,A6 j→(w2.heap.size≤j∧j<w3.heap.size)∧ ¬A7 j∧ ¬A8 j)∧(∀j,A7 j→(w2.heap.size≤j∧j<w3.heap.size)∧ ¬A8 j)∧ ∀j,A8 j→w2.heap.size≤j∧j<w3.heap.size):=⟨fun j hj=>⟨(d0 j hj).1,(d0 j hj).2.1,(d0 j hj).2.2.1,(d0 j hj).2.2.2.1⟩,fun j hj=>⟨(d6 j hj).1,(d6 j hj).2.1,(d6 j hj).2.2.1⟩,fun j hj=>⟨(d7 j hj).1,(d7 j hj).2.1⟩,fun j hj=>(d8 j hj).1⟩
  have HW4:=yw6 hw4
  have HW5:Hid _:=hw5
  have HW5D:Hid _:=hw5d
  have HAB:Hid (Ab=w3.heap.size):=hAb
  have HH4:=yw6 ((HH2.out.below hb3).below hb34)
  have HP4:=yw6 ((HP2.out.below hb3).below hb34)
  have hAl4:Ab<w4.heap.size:=HA4.out.lt
  have hA3:w3.heap.size≤Ab:=by omega
  have HGG:=yw6 (kn_gvt HKK.out)
  clear hm h6 h7 h8 d0 d6 d7 d8 hb3 hb34 hb35 hb25 ht45 hw4 hw5 hw5d hAb HP2 HR2 HE2 HX2 HB2 HH2
  have hw:=HW4.out
  have hv:=HW5.out
  go_upto_region 5 with fail
  clear hw HW4
  try rw [←HAB.out]
  clear HAB
  have n0:=HH4.out.cell (i:=0) rfl
  have n1:=HH4.out.cell (i:=1) rfl
  have a12:=HA4.out.cell (i:=12) rfl
  have a13:=HA4.out.cell (i:=13) rfl
  have af:=HA4.out.free
  go_region
  clear n0 n1 a12 a13 af hv HW5
  rw [HW5D.out]
  clear HW5D HA4 HH4 HP4
  obtain⟨m0,m1,m2,m3,m4,m5,m6,m7,m8,m9,m10,m11,m12,m13⟩:=ywd HP5.out
  go_wp2_with fail
  clear m0 m1 m2 m3 m4 m5 m6 m7 m8 m9 m10 m11 m12 m13
  refine(zjf _ k _ HSK.out (fun i hi=>HGG.out _ (getD_in hi)) (HK.out.under HB5.out)).mono ?_
  rintro e w6 ⟨rfl,hb6⟩
  obtain⟨ge,gf,hg0,hg1,hg2⟩:∃(ge:Ev) (gf:Bool),retE (gvtE k)= .tuple #[.agg #[.int .i64 ge.t,.int .i64 ge.s,.int .i64 ge.q,.int .i64 ge.d,.int .i64 ge.k,.int .i64 ge.v,.int .i64 ge.g],.bool gf]∧(if gf=true then some ge else none)=gvtE k∧(gf=true→ge.ok=true):=by
    refine⟨orZ (gvtE k),(gvtE k).isSome,rfl,?_,?_⟩
    · cases gvtE k<;>rfl
    · intro hy
      cases hq:gvtE k with
      |none=>rw [hq]at hy;cases hy
      |some g=>exact zj9 HKK.out g hq
  have HGE:=yw6 hg1
  have HGO:=yw6 hg2
  rw [hg0]
  clear hg0 hg1 hg2
  obtain⟨Gb,hGb⟩:∃Gb,Gb=w6.heap.size:=⟨_,rfl⟩
  obtain⟨w7,hw7⟩:∃V,w6.alloc (.cells #[.int .i64 ge.t,.int .i64 ge.s,.int .i64 ge.q,.int .i64 ge.d,.int .i64 ge.k,.int .i64 ge.v,.int .i64 ge.g] 90)=V:=⟨_,rfl⟩
  have hb7:Below w5.heap.size w5 w7:=hw7▸trm hb6 ((Below.refl _ w6).alloc (Nat.le_refl _) _)
  have HG7:Hid (Bk w7 Gb 90 #[.int .i64 ge.t,.int .i64 ge.s,.int .i64 ge.q,.int .i64 ge.d,.int .i64 ge.k,.int .i64 ge.v,.int .i64 ge.g]):=hw7▸hGb▸Bk.new w6 _ _
  have HP7:=yw6 (HP5.out.below hb7)
  have HR7:=yw6 (HR5.out.below hb7)
  have HA7:=yw6 (HA5.out.below hb7)
  have HB7:=trh HB5 hb7
  have HE7:=yw6 (HE5.out.under hb7)
  have HX7:=yw6 (HX5.out.under hb7)
  have HM7:=yw6 (HM5.out.turns (S:=fun _=>False) (Turns.of_below hb7) (fun _ _=>id))
  have H67:=yw6 (H65.out.under hb7)
  have H77:OwnD w7 A7 (.slice qi k.p.length qj) (ywi k.p):=H75.out.under hb7
  have H87:=yw6 (H85.out.under hb7)
  have HW7:=yw6 hw7
  have HGB:Hid (Gb=w6.heap.size):=hGb
  have hs7:w5.heap.size≤w7.heap.size:=hb7.size
  have hGw:w5.heap.size≤Gb:=by rw [hGb];exact hb6.size
  have hG7:Gb<w7.heap.size:=HG7.out.lt
  obtain⟨lo,hlo⟩:∃lo,lo=w7.heap.size:=⟨_,rfl⟩
  obtain⟨zs,hraw⟩:=RowP.raw (lo:=lo) (f:=yfa (k.p.map (cutP (gvtE k)))) (n:=k.p.length) (f':=yfa k.p) H77 (by omega)
  have HR0:=yw6 hraw
  have HQG:Hid (∀j,0<k.p.length→qi=some ⟨j,0,none⟩→A7 j):=fun j h1 h2=>((OwnD.rowV (c:=7) (n:=k.p.length) (f:=yfa k.p) H77).2 j h1 h2).1
  have hqn:k.p.length=0→ ∀j,qi=some ⟨j,0,none⟩→False∨True:=fun _ _ _=> .inr trivial
  have hw:=HW7.out
  clear hb6 hb7 hw7 hGb HP5 HR5 HA5 HB5 HE5 HX5 HM5 H65 H75 H85 H77 hraw hqn
  have q7:=HP7.out.cell (i:=7) rfl
  go_wp2
  clear hw q7 HW7
  try rw [←HGB.out]
  clear HGB
  go_loopw [35] (fun s wr=>∃i:Nat,i≤k.p.length∧s= .int .i64 i∧RowP lo wr qi k.p.length qj (yfa (k.p.map (cutP (gvtE k)))) zs i∧Turns (fun j=>0<k.p.length∧qi=some ⟨j,0,none⟩) w7 wr) (fun s _=>k.p.length-(intOf s).toNat)
  case atStart=>exact⟨0,Nat.zero_le _,rfl,HR0.out,Turns.refl _ _⟩
  case round=>
    clear HR0
    obtain⟨i,hi,rfl,hrp,htr⟩:=hrel
    have hGQ:∀j,0<k.p.length∧qi=some ⟨j,0,none⟩→w2.heap.size≤j∧j<w3.heap.size:=fun j hj=>(HDK.out.2.2.1 j (HQG.out j hj.1 hj.2)).1
    have HTr:=yw6 htr
    have HRr:=yw6 hrp
    have HPr:=yw6 (HP7.out.turns htr (fun e=>by have:=hGQ _ e;omega))
    have HRbr:=yw6 (HR7.out.turns htr (fun e=>by have:=hGQ _ e;omega))
    have HAr:=yw6 (HA7.out.turns htr (fun e=>by have:=hGQ _ e;omega))
    have HGr:=yw6 (HG7.out.turns htr (fun e=>by have:=hGQ _ e;omega))
    have HBr:=yw6 (HB7.out.trans (htr.to_below (fun j e=>by have:=hGQ j e;omega) HB7.out.size))
    have hsr:w7.heap.size≤wr.heap.size:=htr.size
    clear htr hrp
    by_cases hlt:i<k.p.length
    case pos=>
      have hki:decide ((i:Int)<(k.p.length:Int))=true:=by simpa using hlt
      obtain⟨a',cap',he,hcp1,hcp2,h⟩:=IsD.parts (c:=7) (n:=k.p.length) HPD.out
      cases he
      obtain⟨b,off,rfl,hb,hc⟩:=h.resolve_left (by omega)
      obtain⟨u1,u4,u5,u6,f0,f1,f2,f3,f4,f5,f6,d1,d4,d5,d6⟩:=yzg (l:=k.p) (fun j hj=>by
        obtain⟨u,hu,hd⟩:=hc j hj
        exact⟨u,(HBr.out.cell (p:=⟨b,off+j,none⟩) hb).trans hu,hd.under HBr.out⟩) hlt
      have HQW:=yw6 (HWP.out i hlt)
      have HQO:=yw6 (zby HKK.out i hlt)
      generalize hq:paAt k.p i=q at f0 f1 f2 f3 f4 f5 f6 d1 d4 d5 d6 HQW HQO
      obtain⟨a1,c1,rfl⟩:=yw8 (c:=1) (n:=q.st.r.length) d1
      obtain⟨a4,c4,rfl⟩:=yw8 (c:=12) (n:=q.p.length) d4
      obtain⟨a5,c5,rfl⟩:=yw8 (c:=7) (n:=q.t.length) d5
      obtain⟨a6,c6,rfl⟩:=yw8 (c:=1) (n:=q.a.length) d6
      have HQ:Hid (paAt k.p i=q):=hq
      have HQX:Hid ((cutP (gvtE k) q).wt≤1048577):=by have h9:=zkd (gvtE k) q;have:=HQW.out;show _≤_;omega
      have HD4:=yw6 d4
      have HDD:Hid (IsD wr (.slice a1 q.st.r.length c1) (ywr q.st.r)∧IsD wr (.slice a5 q.t.length c5) (evsD q.t)∧IsD wr (.slice a6 q.a.length c6) (ywr q.a)):=⟨d1,d5,d6⟩
      have hgg:∃g,qi=some ⟨g,0,none⟩:=by
        obtain⟨_,_,h9⟩:=HRr.out
        rcases h9 with h9|⟨g,e,_⟩
        · omega
        · exact⟨g,e⟩
      obtain⟨g,hbp⟩:=hgg
      subst hbp
      obtain⟨hcg,hgw⟩:=HRr.out.cells (by omega)
      obtain⟨X,hXe⟩:∃X,X=wr.heap.size:=⟨_,rfl⟩
      obtain⟨wq,hwq⟩:∃V,wr.alloc (.cells #[.int .i64 q.n,.slice a1 q.st.r.length c1,.int .i64 q.st.q,.int .i64 q.st.d,.slice a4 q.p.length c4,.slice a5 q.t.length c5,.slice a6 q.a.length c6] 97)=V:=⟨_,rfl⟩
      have hbq:=beA hwq
      have hxk:Bk wq X 97 #[.int .i64 q.n,.slice a1 q.st.r.length c1,.int .i64 q.st.q,.int .i64 q.st.d,.slice a4 q.p.length c4,.slice a5 q.t.length c5,.slice a6 q.a.length c6]:=hwq▸hXe▸Bk.new wr _ _
      have HBQ:=yw6 hbq
      have HXK:=yw6 hxk
      have HIP:Hid (IsPart wq (.agg #[.int .i64 q.n,.slice a1 q.st.r.length c1,.int .i64 q.st.q,.int .i64 q.st.d,.slice a4 q.p.length c4,.slice a5 q.t.length c5,.slice a6 q.a.length c6]) q):=⟨_,_,_,_,rfl,d1.under hbq,d4.under hbq,d5.under hbq,d6.under hbq⟩
      have HGq:=yw6 (HGr.out.below hbq)
      have hw:=hwq
      have HWQ:Hid _:=hwq
      have HXE:Hid (X=wr.heap.size):=hXe
      have HCG:=yw6 hcg
      have hX9:X<wq.heap.size:=hxk.lt
      have hXw:wr.heap.size≤X:=by omega
      have m7:=HPr.out.cell (i:=7) rfl
      have hlo':lo≤wr.heap.size:=by omega
      clear d1 d4 d5 d6 hq hwq hbq hxk hXe hc h hcg
      go_upto_region 10 with fail
      clear m7 hw f0 f1 f2 f3 f4 f5 f6
      try rw [HWQ.out]
      try rw [←HXE.out]
      clear HWQ
      have hXl:=hX9
      have hGl:Gb<wq.heap.size:=HGq.out.lt
      obtain⟨x0,x1,x2,x3,x4,x5,x6⟩:=c7_7 HXK.out
      obtain⟨e0,e1,e2,e3,e4,e5,e6⟩:=c7_7 HGq.out
      refine yx1 8 (fun W=>W.cell? ⟨X,0,none⟩=some (.int .i64 q.n)∧W.cell? ⟨X,1,none⟩=some (.slice a1 q.st.r.length c1)∧W.cell? ⟨X,2,none⟩=some (.int .i64 q.st.q)∧W.cell? ⟨X,3,none⟩=some (.int .i64 q.st.d)∧W.cell? ⟨X,4,none⟩=some (.slice a4 q.p.length c4)∧W.cell? ⟨X,5,none⟩=some (.slice a5 q.t.length c5)∧W.cell? ⟨X,6,none⟩=some (.slice a6 q.a.length c6)∧W.cell? ⟨Gb,0,none⟩=some (.int .i64 ge.t)∧W.cell? ⟨Gb,1,none⟩=some (.int .i64 ge.s)∧W.cell? ⟨Gb,2,none⟩=some (.int .i64 ge.q)∧W.cell? ⟨Gb,3,none⟩=some (.int .i64 ge.d)∧W.cell? ⟨Gb,4,none⟩=some (.int .i64 ge.k)∧W.cell? ⟨Gb,5,none⟩=some (.int .i64 ge.v)∧W.cell? ⟨Gb,6,none⟩=some (.int .i64 ge.g)) (by kernel_rfl) ⟨((Below.refl _ wq).drew.cell (p:=⟨X,_,none⟩) hXl).trans x0,((Below.refl _ wq).drew.cell (p:=⟨X,_,none⟩) hXl).trans x1,((Below.refl _ wq).drew.cell (p:=⟨X,_,none⟩) hXl).trans x2,((Below.refl _ wq).drew.cell (p:=⟨X,_,none⟩) hXl).trans x3,((Below.refl _ wq).drew.cell (p:=⟨X,_,none⟩) hXl).trans x4,((Below.refl _ wq).drew.cell (p:=⟨X,_,none⟩) hXl).trans x5,((Below.refl _ wq).drew.cell (p:=⟨X,_,none⟩) hXl).trans x6,((Below.refl _ wq).drew.cell (p:=⟨Gb,_,none⟩) hGl).trans e0,((Below.refl _ wq).drew.cell (p:=⟨Gb,_,none⟩) hGl).trans e1,((Below.refl _ wq).drew.cell (p:=⟨Gb,_,none⟩) hGl).trans e2,((Below.refl _ wq).drew.cell (p:=⟨Gb,_,none⟩) hGl).trans e3,((Below.refl _ wq).drew.cell (p:=⟨Gb,_,none⟩) hGl).trans e4,((Below.refl _ wq).drew.cell (p:=⟨Gb,_,none⟩) hGl).trans e5,((Below.refl _ wq).drew.cell (p:=⟨Gb,_,none⟩) hGl).trans e6⟩ (fun hHeld=> ?_)
      obtain⟨wd,hwd⟩:∃wd,wq.drew=wd:=⟨_,rfl⟩
      have hbd:Below wq.heap.size wq wd:=hwd▸(Below.refl _ wq).drew
      rw [hwd]at hHeld
      rw [hwd]
      clear hwd
      refine zbe 0 {dst:=some 40,op:=Op.fieldAddr 97 (Operand.tmp 10) 2,type:=0,pos:=_,after:=_,guard:=none} (.pointer (some ⟨X,4,none⟩)) ?_
      try simp only [Act.put,q1,q2,q3]
      refine zbe 1 {dst:=some 41,op:=Op.load 95 (Operand.tmp 40),type:=95,pos:=_,after:=_,guard:=none} (.slice a4 q.p.length c4) ?_
      try simp only [Act.put,q1,q2,q3]
      refine zbe 2 {dst:=some 42,op:=Op.load 97 (Operand.tmp 10),type:=97,pos:=_,after:=_,guard:=none} (.agg #[.int .i64 q.n,.slice a1 q.st.r.length c1,.int .i64 q.st.q,.int .i64 q.st.d,.slice a4 q.p.length c4,.slice a5 q.t.length c5,.slice a6 q.a.length c6]) ?_
      try simp only [Act.put,q1,q2,q3]
      refine zbe 3 {dst:=some 43,op:=Op.load 90 (Operand.tmp 7),type:=90,pos:=_,after:=_,guard:=none} (.agg #[.int .i64 ge.t,.int .i64 ge.s,.int .i64 ge.q,.int .i64 ge.d,.int .i64 ge.k,.int .i64 ge.v,.int .i64 ge.g]) ?_
      try simp only [Act.put,q1,q2,q3]
      refine zbe 4 {dst:=some 44,op:=Op.move (Operand.tmp 8),type:=4,pos:=_,after:=_,guard:=none} (.bool gf) ?_
      try simp only [Act.put,q1,q2,q3]
      refine yfb (rs:= [5]) (by kernel_rfl) (by simp) ?_
      refine AllReadyZ.cons rfl (fun K hK=> ?_) AllReadyZ.nil
      go_simp
      refine(zct _ q ge gf wd HQW.out HQO.out HGO.out (HIP.out.under hbd)).mono ?_
      rintro e v1 ⟨kc,rfl,hcut,hbc⟩
      have hb1:Below wq.heap.size wq v1:=trm hbd hbc
      rw [HGE.out]at hcut
      have HKC:=yw6 hcut.eq
      have hkl:kc≤q.p.length:=hcut.le
      clear hcut
      obtain⟨av0,hV⟩:∃V,sliced a4 kc q.p.length c4 12=V:=⟨_,rfl⟩
      have hVD:IsD wr av0 (yw3 (q.p.drop kc)):=hV▸zdj HD4.out hkl
      have hsl:∀w:World,(Instr.sliceAt 95 (.slice a4 q.p.length c4) (some (.int .i64 (kc:Int))) none none).run Tryz.prog w= .ok av0 w:=fun w=>hV▸zcb _ _ _ _ hkl w
      obtain⟨av,cv,rfl,_⟩:=IsD.len hVD
      obtain⟨md,hmd⟩:∃m,(q.p.drop kc).length=m:=⟨_,rfl⟩
      rw [hmd]at hVD hsl
      clear hmd
      have HVD:=yw6 hVD
      clear hV hVD hbc
      try go_simp
      refine hK.out _ _ ⟨(hb1.cell (p:=⟨X,_,none⟩) hXl).trans x0,(hb1.cell (p:=⟨X,_,none⟩) hXl).trans x1,(hb1.cell (p:=⟨X,_,none⟩) hXl).trans x2,(hb1.cell (p:=⟨X,_,none⟩) hXl).trans x3,(hb1.cell (p:=⟨X,_,none⟩) hXl).trans x4,(hb1.cell (p:=⟨X,_,none⟩) hXl).trans x5,(hb1.cell (p:=⟨X,_,none⟩) hXl).trans x6,(hb1.cell (p:=⟨Gb,_,none⟩) hGl).trans e0,(hb1.cell (p:=⟨Gb,_,none⟩) hGl).trans e1,(hb1.cell (p:=⟨Gb,_,none⟩) hGl).trans e2,(hb1.cell (p:=⟨Gb,_,none⟩) hGl).trans e3,(hb1.cell (p:=⟨Gb,_,none⟩) hGl).trans e4,(hb1.cell (p:=⟨Gb,_,none⟩) hGl).trans e5,(hb1.cell (p:=⟨Gb,_,none⟩) hGl).trans e6⟩ (fun hHeld=> ?_)
      clear hK K
      try simp only [Act.put,q1,q2,q3]
      refine zbe 6 {dst:=some 46,op:=Op.slice 95 (Operand.tmp 41) (some (Operand.tmp 45)) none none,type:=95,pos:=_,after:=_,guard:=none} (.slice av md cv) ?_
      try simp only [Act.put,q1,q2,q3]
      refine zbe 7 {dst:=some 47,op:=Op.fieldAddr 97 (Operand.tmp 10) 2,type:=0,pos:=_,after:=_,guard:=none} (.pointer (some ⟨X,4,none⟩)) ?_
      try simp only [Act.put,q1,q2,q3]
      refine yfb (rs:= [8]) (by kernel_rfl) (by simp) ?_
      refine AllReadyZ.last rfl (fun K hK=> ?_)
      have hXB:=HXK.out.below hb1
      obtain⟨k0,k1,k2,k3,k4,k5,k6⟩:=c7_7 hXB
      have kf:=hXB.free
      obtain⟨wp,hwp⟩:∃V,v1.setCell ⟨X,4,none⟩ (.slice av md cv)=V:=⟨_,rfl⟩
      have HXC:Hid (Bk wp X 97 #[.int .i64 q.n,.slice a1 q.st.r.length c1,.int .i64 q.st.q,.int .i64 q.st.d,.slice av md cv,.slice a5 q.t.length c5,.slice a6 q.a.length c6]):=hwp▸hXB.put 4 _
      have ht:Turns (fun j=>j=X) v1 wp:=hwp▸yag _ X 4 _
      have HBP:=yw6 ((trm HBQ.out hb1).trans (ht.to_below (fun j e=>by omega) (Nat.le_trans HBQ.out.size hb1.size)))
      have HIC:Hid (IsPart wp (.agg #[.int .i64 q.n,.slice a1 q.st.r.length c1,.int .i64 q.st.q,.int .i64 q.st.d,.slice av md cv,.slice a5 q.t.length c5,.slice a6 q.a.length c6]) (cutP (gvtE k) q)):=by
        have hbz:=hkl
        have hbp:Below wr.heap.size wr wp:=HBP.out
        rw [show cutP (gvtE k) q=(⟨q.n,q.st,q.p.drop kc,q.t,q.a⟩:Pa)by rw [HKC.out];rfl]
        exact⟨_,_,_,_,rfl,HDD.out.1.under hbp,HVD.out.under hbp,HDD.out.2.1.under hbp,HDD.out.2.2.under hbp⟩
      have HWP9:Hid _:=hwp
      clear hwp ht hXB
      go_simp
      rw [HWP9.out]
      clear HWP9 hsl kf k0 k1 k2 k3 k4 k5 k6
      refine hK.out _ _ ?_
      clear hK K
      try simp only [Act.put,q1,q2,q3]
      refine yx2 (by kernel_rfl) ?_ _
      clear hHeld HXK HVD
      go_upto_region 11 with fail
      clear hXl hGl x0 x1 x2 x3 x4 x5 x6 e0 e1 e2 e3 e4 e5 e6
      have hXl:X<wp.heap.size:=HXC.out.lt
      have hgl:g<wp.heap.size:=Nat.lt_of_lt_of_le hgw HBP.out.size
      have hAl:Ab<wp.heap.size:=Nat.lt_of_lt_of_le HAr.out.lt HBP.out.size
      have p7:=(HAr.out.below HBP.out).cell (i:=7) rfl
      obtain⟨x0,x1,x2,x3,x4,x5,x6⟩:=c7_7 HXC.out
      obtain⟨y0,yc0,yf0⟩:=HCG.out (i*7) (by omega)
      have fq0:=(HBP.out.cell (p:=⟨g,_,none⟩) hgw).trans yc0
      obtain⟨y1,yc1,yf1⟩:=HCG.out (i*7+1) (by omega)
      have fq1:=(HBP.out.cell (p:=⟨g,_,none⟩) hgw).trans yc1
      obtain⟨y2,yc2,yf2⟩:=HCG.out (i*7+2) (by omega)
      have fq2:=(HBP.out.cell (p:=⟨g,_,none⟩) hgw).trans yc2
      obtain⟨y3,yc3,yf3⟩:=HCG.out (i*7+3) (by omega)
      have fq3:=(HBP.out.cell (p:=⟨g,_,none⟩) hgw).trans yc3
      obtain⟨y4,yc4,yf4⟩:=HCG.out (i*7+4) (by omega)
      have fq4:=(HBP.out.cell (p:=⟨g,_,none⟩) hgw).trans yc4
      obtain⟨y5,yc5,yf5⟩:=HCG.out (i*7+5) (by omega)
      have fq5:=(HBP.out.cell (p:=⟨g,_,none⟩) hgw).trans yc5
      obtain⟨y6,yc6,yf6⟩:=HCG.out (i*7+6) (by omega)
      have fq6:=(HBP.out.cell (p:=⟨g,_,none⟩) hgw).trans yc6
      clear yc0 yf0 yc1 yf1 yc2 yf2 yc3 yf3 yc4 yf4 yc5 yf5 yc6 yf6
      have HZ:Hid (∀r,r<7→wp.frozen? ⟨g,i*7+r,none⟩=false):=fun r hr=>(yw4 HBP.out hgw).trans (by obtain⟨_,_,h9⟩:=HCG.out (i*7+r) (by omega);exact h9)
      have HRW:=yw6 (HRr.out.below HBP.out)
      have HTp:=yw6 (HTr.out.trans (Turns.of_below HBP.out))
      have hlw:lo≤wp.heap.size:=Nat.le_trans hlo' HBP.out.size
      refine yx1 6 (fun W=>W.cell? ⟨Ab,7,none⟩=some (.slice (some ⟨g,0,none⟩) k.p.length qj)∧W.cell? ⟨X,0,none⟩=some (.int .i64 q.n)∧W.cell? ⟨X,1,none⟩=some (.slice a1 q.st.r.length c1)∧W.cell? ⟨X,2,none⟩=some (.int .i64 q.st.q)∧W.cell? ⟨X,3,none⟩=some (.int .i64 q.st.d)∧W.cell? ⟨X,4,none⟩=some (.slice av md cv)∧W.cell? ⟨X,5,none⟩=some (.slice a5 q.t.length c5)∧W.cell? ⟨X,6,none⟩=some (.slice a6 q.a.length c6)∧W.cell? ⟨g,i*7,none⟩=some y0∧W.cell? ⟨g,i*7+1,none⟩=some y1∧W.cell? ⟨g,i*7+2,none⟩=some y2∧W.cell? ⟨g,i*7+3,none⟩=some y3∧W.cell? ⟨g,i*7+4,none⟩=some y4∧W.cell? ⟨g,i*7+5,none⟩=some y5∧W.cell? ⟨g,i*7+6,none⟩=some y6) (by kernel_rfl) ⟨((Below.refl _ wp).drew.cell (p:=⟨Ab,_,none⟩) hAl).trans p7,((Below.refl _ wp).drew.cell (p:=⟨X,_,none⟩) hXl).trans x0,((Below.refl _ wp).drew.cell (p:=⟨X,_,none⟩) hXl).trans x1,((Below.refl _ wp).drew.cell (p:=⟨X,_,none⟩) hXl).trans x2,((Below.refl _ wp).drew.cell (p:=⟨X,_,none⟩) hXl).trans x3,((Below.refl _ wp).drew.cell (p:=⟨X,_,none⟩) hXl).trans x4,((Below.refl _ wp).drew.cell (p:=⟨X,_,none⟩) hXl).trans x5,((Below.refl _ wp).drew.cell (p:=⟨X,_,none⟩) hXl).trans x6,((Below.refl _ wp).drew.cell (p:=⟨g,_,none⟩) hgl).trans fq0,((Below.refl _ wp).drew.cell (p:=⟨g,_,none⟩) hgl).trans fq1,((Below.refl _ wp).drew.cell (p:=⟨g,_,none⟩) hgl).trans fq2,((Below.refl _ wp).drew.cell (p:=⟨g,_,none⟩) hgl).trans fq3,((Below.refl _ wp).drew.cell (p:=⟨g,_,none⟩) hgl).trans fq4,((Below.refl _ wp).drew.cell (p:=⟨g,_,none⟩) hgl).trans fq5,((Below.refl _ wp).drew.cell (p:=⟨g,_,none⟩) hgl).trans fq6⟩ (fun hHeld=> ?_)
      obtain⟨wd,hwd⟩:∃wd,wp.drew=wd:=⟨_,rfl⟩
      have hbd:Below wp.heap.size wp wd:=hwd▸(Below.refl _ wp).drew
      rw [hwd]at hHeld
      rw [hwd]
      clear hwd
      refine zbe 0 {dst:=some 48,op:=Op.fieldAddr 41 (Operand.tmp 6) 2,type:=0,pos:=_,after:=_,guard:=none} (.pointer (some ⟨Ab,7,none⟩)) ?_
      try simp only [Act.put,q1,q2,q3]
      refine zbe 1 {dst:=some 49,op:=Op.load 37 (Operand.tmp 48),type:=37,pos:=_,after:=_,guard:=none} (.slice (some ⟨g,0,none⟩) k.p.length qj) ?_
      try simp only [Act.put,q1,q2,q3]
      refine zbe 2 {dst:=some 50,op:=Op.move (Operand.tmp 9),type:=3,pos:=_,after:=_,guard:=none} (.int .i64 (i:Int)) ?_
      try simp only [Act.put,q1,q2,q3]
      refine zbe 3 {dst:=some 51,op:=Op.load 97 (Operand.tmp 10),type:=97,pos:=_,after:=_,guard:=none} (.agg #[.int .i64 q.n,.slice a1 q.st.r.length c1,.int .i64 q.st.q,.int .i64 q.st.d,.slice av md cv,.slice a5 q.t.length c5,.slice a6 q.a.length c6]) ?_
      try simp only [Act.put,q1,q2,q3]
      refine yfb (rs:= [4]) (by kernel_rfl) (by simp) ?_
      refine AllReadyZ.cons rfl (fun K hK=> ?_) AllReadyZ.nil
      go_simp
      refine(zdv _ (cutP (gvtE k) q) wd HQX.out (HIC.out.under hbd)).mono ?_
      rintro e v1 ⟨y1,rfl,hbc,hy⟩
      obtain⟨b1,e1,b4,e4,b5,e5,b6,e6,rfl⟩:=hy.form
      have HY:=yw6 hy
      have hb1:Below wp.heap.size wp v1:=trm hbd hbc
      clear hbc hy
      try go_simp
      refine hK.out _ _ ⟨(hb1.cell (p:=⟨Ab,_,none⟩) hAl).trans p7,(hb1.cell (p:=⟨X,_,none⟩) hXl).trans x0,(hb1.cell (p:=⟨X,_,none⟩) hXl).trans x1,(hb1.cell (p:=⟨X,_,none⟩) hXl).trans x2,(hb1.cell (p:=⟨X,_,none⟩) hXl).trans x3,(hb1.cell (p:=⟨X,_,none⟩) hXl).trans x4,(hb1.cell (p:=⟨X,_,none⟩) hXl).trans x5,(hb1.cell (p:=⟨X,_,none⟩) hXl).trans x6,(hb1.cell (p:=⟨g,_,none⟩) hgl).trans fq0,(hb1.cell (p:=⟨g,_,none⟩) hgl).trans fq1,(hb1.cell (p:=⟨g,_,none⟩) hgl).trans fq2,(hb1.cell (p:=⟨g,_,none⟩) hgl).trans fq3,(hb1.cell (p:=⟨g,_,none⟩) hgl).trans fq4,(hb1.cell (p:=⟨g,_,none⟩) hgl).trans fq5,(hb1.cell (p:=⟨g,_,none⟩) hgl).trans fq6⟩ (fun hHeld=> ?_)
      clear hK K
      try simp only [Act.put,q1,q2,q3]
      refine ywe (i:=5) (oi:= {dst:=some 53,op:=Op.indexAddr 37 (Operand.tmp 49) (Operand.tmp 50),type:=0,pos:=_,after:=_,guard:=none}) (v:= .pointer (some ⟨g,i*7,none⟩)) 5 [] rfl (by kernel_rfl) (by kernel_rfl) (by kernel_rfl) (by kernel_rfl) (by kernel_rfl) (fun _ _ _ h=>h) (Or.inl ⟨by rfl,?_⟩) (by assumption) ?_
      · intro wX hSw
        try dsimp only at hSw
        go_simp
        try exact IntWalk.i64_in _ (by omega)
        try(intro h9;exfalso;omega)
      try simp only [Act.put,q1,q2,q3]
      refine yfb (rs:= [6]) (by kernel_rfl) (by simp) ?_
      refine AllReadyZ.last rfl (fun K hK=> ?_)
      have k0:=(hb1.cell (p:=⟨g,i*7,none⟩) hgl).trans fq0
      have k1:=(hb1.cell (p:=⟨g,i*7+1,none⟩) hgl).trans fq1
      have k2:=(hb1.cell (p:=⟨g,i*7+2,none⟩) hgl).trans fq2
      have k3:=(hb1.cell (p:=⟨g,i*7+3,none⟩) hgl).trans fq3
      have k4:=(hb1.cell (p:=⟨g,i*7+4,none⟩) hgl).trans fq4
      have k5:=(hb1.cell (p:=⟨g,i*7+5,none⟩) hgl).trans fq5
      have k6:=(hb1.cell (p:=⟨g,i*7+6,none⟩) hgl).trans fq6
      have z0:=(yw4 hb1 (b:=g) (o:=i*7) hgl).trans (HZ.out 0 (by omega))
      have z1:=(yw4 hb1 (b:=g) (o:=i*7+1) hgl).trans (HZ.out 1 (by omega))
      have z2:=(yw4 hb1 (b:=g) (o:=i*7+2) hgl).trans (HZ.out 2 (by omega))
      have z3:=(yw4 hb1 (b:=g) (o:=i*7+3) hgl).trans (HZ.out 3 (by omega))
      have z4:=(yw4 hb1 (b:=g) (o:=i*7+4) hgl).trans (HZ.out 4 (by omega))
      have z5:=(yw4 hb1 (b:=g) (o:=i*7+5) hgl).trans (HZ.out 5 (by omega))
      have z6:=(yw4 hb1 (b:=g) (o:=i*7+6) hgl).trans (HZ.out 6 (by omega))
      obtain⟨wf,hwf⟩:∃X,(((((((v1.setCell ⟨g,i*7,none⟩ (.int .i64 (cutP (gvtE k) q).n)).setCell ⟨g,i*7+1,none⟩ (.slice b1 (cutP (gvtE k) q).st.r.length e1)).setCell ⟨g,i*7+2,none⟩ (.int .i64 (cutP (gvtE k) q).st.q)).setCell ⟨g,i*7+3,none⟩ (.int .i64 (cutP (gvtE k) q).st.d)).setCell ⟨g,i*7+4,none⟩ (.slice b4 (cutP (gvtE k) q).p.length e4)).setCell ⟨g,i*7+5,none⟩ (.slice b5 (cutP (gvtE k) q).t.length e5)).setCell ⟨g,i*7+6,none⟩ (.slice b6 (cutP (gvtE k) q).a.length e6))=X:=⟨_,rfl⟩
      have HOF:Hid (RowP lo wf (some ⟨g,0,none⟩) k.p.length qj (yfa (k.p.map (cutP (gvtE k)))) zs (i+1)):=hwf▸HRW.out.fill (lw:=wd.heap.size) hb1 hgl hlt ⟨by have:=hbd.size;omega,by have:=hbd.size;omega⟩ (by rw [zp7 _ _ hlt,HQ.out];exact HY.out) (by rw [zp7 _ _ hlt,HQ.out];exact⟨rfl,rfl,rfl⟩)
      have HTF:Hid (Turns (fun j=>0<k.p.length∧(some ⟨g,0,none⟩:Option Addr)=some ⟨j,0,none⟩) w7 wf):=hwf▸(HTp.out.trans (Turns.of_below hb1)).trans ((((((((yag _ g _ _).trans (yag _ g _ _)).trans (yag _ g _ _)).trans (yag _ g _ _)).trans (yag _ g _ _)).trans (yag _ g _ _)).trans (yag _ g _ _)).mono (fun j e=>⟨by omega,by rw [e]⟩))
      have HWF:Hid _:=hwf
      clear hwf HY
      go_simp
      rw [HWF.out]
      clear HWF k0 z0 k1 z1 k2 z2 k3 z3 k4 z4 k5 z5 k6 z6
      refine hK.out _ _ ?_
      clear hK K
      try simp only [Act.put,q1,q2,q3]
      refine yx2 (by kernel_rfl) ?_ _
      clear hHeld
      go_wp2
      go_roundw
      case rel=>exact⟨i+1,by omega,by go_num,HOF.out,HTF.out⟩
      case measure=>simp [intOf];omega
    case neg=>
      obtain rfl:k.p.length=i:=by omega
      have hki:decide ((k.p.length:Int)<(k.p.length:Int))=false:=by simp
      obtain⟨A9,hA9,hL9⟩:=HRr.out.all (by rw [List.length_map])
      have HSC:Hid (ywy (colK k)):=zf1 HSK.out HKK.out
      have hGn:∀(A:Nat→Prop),(∀j,A j→ ¬A7 j)→ ∀j,A j→ ¬(0<k.p.length∧qi=some ⟨j,0,none⟩):=fun A hA j hj e=>hA j hj (HQG.out j e.1 e.2)
      have hMr:=HM7.out.turns HTr.out (hGn A0 (fun j hj=>(HDK.out.1 j hj).2.2.1))
      have h6r:=H67.out.turns HTr.out (hGn A6 (fun j hj=>(HDK.out.2.1 j hj).2.1))
      have h8r:=H87.out.turns HTr.out (hGn A8 (fun j hj e=>(HDK.out.2.2.1 j e).2 hj))
      have hEr:=HE7.out.turns HTr.out (fun j hj e=>by have:=hGQ j e;have:=(HDE.out.1 j hj).1;omega)
      have hXr:=HX7.out.turns HTr.out (fun j hj e=>by have:=hGQ j e;have:=HDE.out.2 j hj;omega)
      have hEz:EL.length≤maxLen:=by
        obtain⟨_,_,e9,h91,h92,_⟩:=OwnD.parts (c:=7) (n:=EL.length) HE7.out
        cases e9
        omega
      have hA79:∀j,A9 j→(A7 j∧w2.heap.size≤j∧j<w3.heap.size)∨(lo≤j∧j<wr.heap.size):=fun j hj=>by
        obtain⟨h1,h2⟩:=hL9 j hj
        exact h1.elim (fun h=> .inl ⟨HQG.out j h.1 h.2,hGQ j h⟩) (fun h=> .inr ⟨h,h2⟩)
      have HKF:Hid (KernF (fun j=>W0.heap.size≤j∧j<wr.heap.size) wr (.agg #[.int .i64 k.m.n,.int .i64 k.m.s,.slice qa k.m.i.length qb,.slice qc k.m.h.length qd,.slice qe k.m.e.length qf,.int .i64 k.m.z,.slice qg k.d.length qh,.slice qi k.p.length qj,.slice qk k.b.length ql,.int .i64 k.t,.int .i64 k.q,.bool k.f,.slice ay EL.length cy,.slice ax2 TL.length cx2]) (colK k)):=by
        have e1:=HEL.out
        have e2:=HTL.out
        subst e1 e2
        have hd:=HDK.out
        have he:=HDE.out
        refine⟨A0,A6,A9,A8,AE,AX,_,_,_,_,_,_,_,_,rfl,hMr,h6r,hA9,h8r,hEr,hXr,fun j hj=> ?_,fun j hj=> ?_,fun j hj=> ?_,fun j hj=> ?_,fun j hj=> ?_,fun j hj=> ?_⟩
        · have h0:=hd.1 j hj
          exact⟨by omega,h0.2.1,fun e=>(hA79 j e).elim (fun h=>h0.2.2.1 h.1) (fun h=>by omega),h0.2.2.2,fun e=>by have:=(he.1 j e).1;omega,fun e=>by have:=he.2 j e;omega⟩
        · have h0:=hd.2.1 j hj
          exact⟨by omega,fun e=>(hA79 j e).elim (fun h=>h0.2.1 h.1) (fun h=>by omega),h0.2.2,fun e=>by have:=(he.1 j e).1;omega,fun e=>by have:=he.2 j e;omega⟩
        · have h0:=hA79 j hj
          exact⟨by omega,fun e=>h0.elim (fun h=>(hd.2.2.1 j h.1).2 e) (fun h=>by have:=hd.2.2.2 j e;omega),fun e=>by have:=(he.1 j e).1;omega,fun e=>by have:=he.2 j e;omega⟩
        · have h0:=hd.2.2.2 j hj
          exact⟨by omega,fun e=>by have:=(he.1 j e).1;omega,fun e=>by have:=he.2 j e;omega⟩
        · have h0:=he.1 j hj
          exact⟨by omega,h0.2⟩
        · have h0:=he.2 j hj
          exact by omega
      clear hMr h6r h8r hEr hXr hA9 hL9 hA79
      obtain⟨m0,m1,m2,m3,m4,m5,m6,m7,m8,m9,m10,m11,m12,m13⟩:=ywd HAr.out
      go_wp2_with fail
      clear m0 m1 m2 m3 m4 m5 m6 m7 m8 m9 m10 m11 m12 m13
      refine(zhy _ (colK k) _ HSC.out HKF.out.is).mono ?_
      rintro e w8 ⟨rfl,hb8⟩
      have HB8:=trh HBr hb8
      have HP8:=yw6 (HPr.out.below hb8)
      have HR8:=yw6 (HRbr.out.below hb8)
      have HA8:=yw6 (HAr.out.below hb8)
      have HK8:=yw6 (HKF.out.turns (S:=fun _=>False) (Turns.of_below hb8) (fun _ _=>id))
      have hs8:wr.heap.size≤w8.heap.size:=hb8.size
      clear hb8 HKF HPr HRbr HAr HGr HBr HRr HTr
      cases hck:(colK k).ok
      case false=>
        have HA:=zgt HKK.out hck
        clear hck
        obtain⟨m0,m1,m2,m3,m4,m5,m6,m7,m8,m9,m10,m11,m12,m13⟩:=ywd HP8.out
        go_wp2_with fail
        clear m0 m1 m2 m3 m4 m5 m6 m7 m8 m9 m10 m11 m12 m13
        refine(zic _ k _ HSK.out (HK.out.under HB8.out)).mono ?_
        rintro e w9 ⟨y,rfl,hy,hb9⟩
        obtain⟨va,vb,vc,vd,ve,vf,vg,vh,vi,vj,vk,vl,vm,vn,vo,vp,rfl⟩:=hy.form
        have HY9:=yw6 hy
        have HB9:=trh HB8 hb9
        have HR9:=yw6 (HR8.out.below hb9)
        have hs9:w8.heap.size≤w9.heap.size:=hb9.size
        clear hy hb9
        obtain⟨r0,r1,r2,r3,r4,r5,r6,r7,r8,r9,r10,r11,r12,r13⟩:=ywd HR9.out
        have rf:=HR9.out.free
        obtain⟨X,hX⟩:∃X,put14 w9 Rb (.int .i64 k.m.n) (.int .i64 k.m.s) (.slice va k.m.i.length vb) (.slice vc k.m.h.length vd) (.slice ve k.m.e.length vf) (.int .i64 k.m.z) (.slice vg k.d.length vh) (.slice vi k.p.length vj) (.slice vk k.b.length vl) (.int .i64 k.t) (.int .i64 k.q) (.bool k.f) (.slice vm k.s.length vn) (.slice vo k.x.length vp)=X:=⟨_,rfl⟩
        have ht:Turns (fun j=>j=Rb) w9 X:=hX▸yyh _ _ _ _ _ _ _ _ _ _ _ _ _ _ _ _
        have hk:Bk X Rb 41 #[.int .i64 k.m.n,.int .i64 k.m.s,.slice va k.m.i.length vb,.slice vc k.m.h.length vd,.slice ve k.m.e.length vf,.int .i64 k.m.z,.slice vg k.d.length vh,.slice vi k.p.length vj,.slice vk k.b.length vl,.int .i64 k.t,.int .i64 k.q,.bool k.f,.slice vm k.s.length vn,.slice vo k.x.length vp]:=hX▸HR9.out.put14 _ _ _ _ _ _ _ _ _ _ _ _ _ _
        unfold put14 at hX
        obtain⟨t0,t1,t2,t3,t4,t5,t6,t7,t8,t9,t10,t11,t12,t13⟩:=ywd hk
        have HXX:Hid _:=hX
        have HTX:=yw6 ht
        clear ht hk
        go_wp2
        clear r0 r1 r2 r3 r4 r5 r6 r7 r8 r9 r10 r11 r12 r13 rf
        try rw [HXX.out]
        refine bodyPost_ret (v:= .tuple #[.agg #[.int .i64 k.m.n,.int .i64 k.m.s,.slice va k.m.i.length vb,.slice vc k.m.h.length vd,.slice ve k.m.e.length vf,.int .i64 k.m.z,.slice vg k.d.length vh,.slice vi k.p.length vj,.slice vk k.b.length vl,.int .i64 k.t,.int .i64 k.q,.bool k.f,.slice vm k.s.length vn,.slice vo k.x.length vp],.int .i64 (0)]) (by simp [results,Tryz.results12,go_sem,t0,t1,t2,t3,t4,t5,t6,t7,t8,t9,t10,t11,t12,t13]) rfl ?_
        rw [HA.1,HA.2]
        exact⟨_,rfl,(HY9.out.turns HTX.out (fun j hj e=>by omega)).wider (fun j hj=>⟨by have:=HB8.out.size;omega,Nat.lt_of_lt_of_le hj.2 HTX.out.size⟩),HB9.out.trans (HTX.out.to_below (fun b e=>by omega) HB9.out.size)⟩
      have HA:=zjo HKK.out hck
      clear hck
      obtain⟨X0,hX⟩:∃X,put14 w8 Rb (.int .i64 k.m.n) (.int .i64 k.m.s) (.slice qa k.m.i.length qb) (.slice qc k.m.h.length qd) (.slice qe k.m.e.length qf) (.int .i64 k.m.z) (.slice qg k.d.length qh) (.slice qi k.p.length qj) (.slice qk k.b.length ql) (.int .i64 k.t) (.int .i64 k.q) (.bool k.f) (.slice ay EL.length cy) (.slice ax2 TL.length cx2)=X:=⟨_,rfl⟩
      have ht0:Turns (fun j=>j=Rb) w8 X0:=hX▸yyh _ _ _ _ _ _ _ _ _ _ _ _ _ _ _ _
      have hk0:Bk X0 Rb 41 #[.int .i64 k.m.n,.int .i64 k.m.s,.slice qa k.m.i.length qb,.slice qc k.m.h.length qd,.slice qe k.m.e.length qf,.int .i64 k.m.z,.slice qg k.d.length qh,.slice qi k.p.length qj,.slice qk k.b.length ql,.int .i64 k.t,.int .i64 k.q,.bool k.f,.slice ay EL.length cy,.slice ax2 TL.length cx2]:=hX▸HR8.out.put14 _ _ _ _ _ _ _ _ _ _ _ _ _ _
      have x12:=(HA8.out.turns ht0 (fun e=>by omega)).cell (i:=12) rfl
      have y12:=(HP8.out.turns ht0 (fun e=>by omega)).cell (i:=12) rfl
      unfold put14 at hX
      obtain⟨X,hXd⟩:∃X,X0.drew=X:=⟨_,rfl⟩
      have hk:Bk X Rb 41 #[.int .i64 k.m.n,.int .i64 k.m.s,.slice qa k.m.i.length qb,.slice qc k.m.h.length qd,.slice qe k.m.e.length qf,.int .i64 k.m.z,.slice qg k.d.length qh,.slice qi k.p.length qj,.slice qk k.b.length ql,.int .i64 k.t,.int .i64 k.q,.bool k.f,.slice ay EL.length cy,.slice ax2 TL.length cx2]:=hXd▸hk0.drew
      have HTX:Hid (Turns (fun j=>j=Rb) w8 X):=hXd▸ht0.drew
      obtain⟨m0,m1,m2,m3,m4,m5,m6,m7,m8,m9,m10,m11,m12,m13⟩:=ywd HA8.out
      have n12:=HP8.out.cell (i:=12) rfl
      obtain⟨r0,r1,r2,r3,r4,r5,r6,r7,r8,r9,r10,r11,r12,r13⟩:=ywd HR8.out
      have rf:=HR8.out.free
      have HXX:Hid _:=hX
      have HXD:Hid _:=hXd
      clear ht0 hk0 hXd
      go_upto_region 15 with fail
      go_region
      clear m0 r0 m1 r1 m2 r2 m3 r3 m4 r4 m5 r5 m6 r6 m7 r7 m8 r8 m9 r9 m10 r10 m11 r11 m12 r12 m13 r13 n12 rf x12 y12
      try rw [HXX.out]
      rw [HXD.out]
      clear hX HXX HXD
      obtain⟨t0,t1,t2,t3,t4,t5,t6,t7,t8,t9,t10,t11,t12,t13⟩:=ywd hk
      go_wp2
      refine bodyPost_ret (v:= .tuple #[.agg #[.int .i64 k.m.n,.int .i64 k.m.s,.slice qa k.m.i.length qb,.slice qc k.m.h.length qd,.slice qe k.m.e.length qf,.int .i64 k.m.z,.slice qg k.d.length qh,.slice qi k.p.length qj,.slice qk k.b.length ql,.int .i64 k.t,.int .i64 k.q,.bool k.f,.slice ay EL.length cy,.slice ax2 TL.length cx2],.int .i64 (wrap64 ((EL.length:Int)-(k.s.length:Int)))]) (by simp [results,Tryz.results12,go_sem,t0,t1,t2,t3,t4,t5,t6,t7,t8,t9,t10,t11,t12,t13]) rfl ?_
      rw [HA.1,HA.2]
      have hw9:wrap64 ((EL.length:Int)-(k.s.length:Int))=((comL k).length:Int):=by
        have h9:=HLE.out
        unfold maxLen at hEz
        unfold wrap64
        omega
      rw [hw9]
      exact⟨_,rfl,(HK8.out.turns HTX.out (fun j hj e=>by omega)).wider (fun j hj=>⟨by omega,Nat.lt_of_lt_of_le hj.2 (Nat.le_trans hs8 HTX.out.size)⟩),HB8.out.trans (HTX.out.to_below (fun b e=>by omega) HB8.out.size)⟩
end Go.Proofs.YtghndljgadpijaaGreat
