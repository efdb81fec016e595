/- The program's Committed. -/
import Derived.Test.YtghndljgadpijaaGreatExactCollectG01
import Derived.Test.YtghndljgadpijaaGreatExactCollectG41
namespace Go.Proofs.YtghndljgadpijaaGreat
open Go.RowKit
theorem zdx {P:Program} {md:Region.Mode} {ops:Array Oper} {Q:Exit→Act→World→Prop} {S:World→Prop} {z fuel:Nat} {listed:Array Bool} {a:Act} {w:World} (i:Nat) (oi:Oper) (v:Value)
  (h:yx7 P md ops Q S z fuel (listed.setIfInBounds i true) (a.put oi.dst v) w) (hi:ops[i]? =some oi:=by rfl)
  (hs:Region.noSelect ops=true:=by kernel_rfl) (hf:Region.free md ops listed i=true:=by kernel_rfl) (hr:(Region.ready md ops listed).contains i=true:=by kernel_rfl)
  (hc:yzl md ops i z [i]=true:=by kernel_rfl) (hu: [i].all (fun p=> !listed.getD p true)=true:=by kernel_rfl)
  (hQ:∀c a w,Q (.panic c) (a.put oi.dst v) w→Q (.panic c) a w:=by exact fun _ _ _ h=>h)
  (hy:YieldsIf P ops S oi v a:=by exact Or.inl ⟨by rfl,by(intro wX hSw;(try dsimp only at hSw);go_simp;(try exact IntWalk.i64_in _ (by omega)))⟩) (hS:S w:=by assumption):yx7 P md ops Q S z (fuel+1) listed a w:=
  ywe i [] hi hs hf hr hc hu hQ hy hS h
theorem yxm {p:Prop} (h:p):Hid p:=h
def zb7 (n:Nat):Array Bool:=(Array.range 13).map fun i=>n.testBit i
theorem row_cell [Inhabited PsF] {w:World} {B g n cap j:Nat} {L:List PsF} (h:w.ownsRow B 172 12 (.slice (some ⟨g,0,none⟩) n cap) n (yxp L)) (hj:j<L.length) {r:Nat} (hr:r<12):w.cell? ⟨g,j*12+r,none⟩=(encP L[j]!)[r]? :=by
  obtain⟨cur,h1,_,_,_,_,h6⟩:=zkz h
  have h2:=zdq L (j*12+r) (by omega)
  rw [←h6,show(j*12+r)/12=j by omega,show(j*12+r)%12=r by omega]at h2
  rw [←h2]
  have hn:n*12=L.length*12:=by
    have h3:=h.1
    rw [za4]at h3
    exact h3.symm
  rw [List.getElem?_take_of_lt (by omega)]
  simp [World.cell?,h1]
theorem psOf_at [Inhabited PsF] {L:List PsF} {j:Nat} (hj:j<L.length):psAt (psOf L) j=L[j]!.1.1:=by
  have h1:=zfj (l:=psOf L) (j:=j) (by rw [yyi];exact hj)
  rw [psOf,List.getElem?_map,List.getElem?_eq_getElem hj]at h1
  rw [getElem!_pos L j hj]
  exact(Option.some.inj h1).symm
def actI (k:Kn) (ai:Option Addr) (ci:Nat) (ah:Option Addr) (ch:Nat) (ae:Option Addr) (ce:Nat) (ad:Option Addr) (cd:Nat) (ap:Option Addr) (cp:Nat) (ab:Option Addr) (cb:Nat) (au:Option Addr) (cu:Nat) (ax:Option Addr) (cx:Nat) (P Rb:Nat) (v4 v14 v17 v22:Value):Act:=⟨#[.agg #[.int .i64 k.m.n,.int .i64 k.m.s,.slice ai k.m.i.length ci,.slice ah k.m.h.length ch,.slice ae k.m.e.length ce,.int .i64 k.m.z,.slice ad k.d.length cd,.slice ap k.p.length cp,.slice ab k.b.length cb,.int .i64 k.t,.int .i64 k.q,.bool k.f,.slice au k.s.length cu,.slice ax k.x.length cx],.pointer (some ⟨P,0,none⟩),.pointer (some ⟨Rb,0,none⟩),.bool false,v4,undef,undef,undef,.agg #[.int .i64 k.m.n,.int .i64 k.m.s,.slice ai k.m.i.length ci,.slice ah k.m.h.length ch,.slice ae k.m.e.length ce,.int .i64 k.m.z,.slice ad k.d.length cd,.slice ap k.p.length cp,.slice ab k.b.length cb,.int .i64 k.t,.int .i64 k.q,.bool k.f,.slice au k.s.length cu,.slice ax k.x.length cx],.bool true,.bool false,undef,.pointer (some ⟨P,12,none⟩),.slice au k.s.length cu,v14,.pointer (some ⟨P,13,none⟩),.slice ax k.x.length cx,v17,.pointer (some ⟨P,10,none⟩),.int .i64 k.q,.pointer (some ⟨P,11,none⟩),.bool k.f,v22,undef,undef,undef,undef,undef,undef,undef,undef,undef,undef,undef,undef,undef,undef,undef,undef,undef,undef,undef,undef,undef,undef,undef,undef],[]⟩
structure CoJ (w1 w5:World) (k:Kn) (L:List PsF) (ya:Option Addr) (yc:Nat) (wr:World) (Hb j:Nat):Prop where
  row:wr.ownsRow w5.heap.size 172 12 (.slice ya L.length yc) L.length (yxp L)
  rows:∃ay cy ax cx,Bk wr Hb 86 #[.slice ay (k.s++yz8 ((psOf L).take j)).length cy,.slice ax (yze k ((psOf L).take j)).length cx,.int .i64 k.q,.bool k.f]∧wr.ownsRow w1.heap.size 90 7 (.slice ay (k.s++yz8 ((psOf L).take j)).length cy) (k.s++yz8 ((psOf L).take j)).length (yvz (k.s++yz8 ((psOf L).take j)))∧wr.ownsRow w1.heap.size 166 3 (.slice ax (yze k ((psOf L).take j)).length cx) (yze k ((psOf L).take j)).length (ywm (yze k ((psOf L).take j)))
  bel:Below w1.heap.size w1 wr
set_option maxRecDepth 100000 in
set_option maxHeartbeats 64000000 in
theorem zmi [Inhabited PsF] (x:Value) (k:Kn) (w:World) (hs:ywy k) (h:IsKern w x k):
    Calls Tryz.prog 46 #[x] w fun e w'=>∃y,e= .returned (.tuple #[y,.bool k.ok])∧HiF (fun j=>w.heap.size≤j∧j<w'.heap.size) w' y (comH k)∧Below w.heap.size w w':=by
  have HSK:Hid (ywy k):=hs
  obtain⟨HSM0,hsk⟩:=hs
  obtain⟨hdl,hpl,hbl,hsl,hxl⟩:=yyp hsk
  have HSL:Hid (k.s.length≤1048577):=by show _≤_;omega
  have HXL:Hid (k.x.length≤1048577):=by show _≤_;omega
  clear hsk HSM0
  obtain⟨ai,ci,ah,ch,ae,ce,ad,cd,ap,cp,ab,cb,au,cu,ax,cx,rfl,hm,hd,hp,hbg,hsu,hx⟩:=h.form
  have HSS:=yxm hsu.isD.srcEv
  have HXS:=yxm hx.isD.srcX
  have HK:=yxm h
  clear hm hd hp hbg hsu hx h
  obtain⟨Rb,hRb⟩:∃Rb,Rb=w.heap.size+1:=⟨_,rfl⟩
  obtain⟨W0,hW0⟩:=al2IsKern HK.out 41 (.cells #[.slice none 0 0,.slice none 0 0,.int .i64 0,.bool false] 86)
  have HB0:Hid (Below w.heap.size w W0):=hW0▸((Below.refl _ w).alloc (Nat.le_refl _) _).alloc (by simp) _
  have HP0:Hid (Bk W0 w.heap.size 41 #[.int .i64 k.m.n,.int .i64 k.m.s,.slice ai k.m.i.length ci,.slice ah k.m.h.length ch,.slice ae k.m.e.length ce,.int .i64 k.m.z,.slice ad k.d.length cd,.slice ap k.p.length cp,.slice ab k.b.length cb,.int .i64 k.t,.int .i64 k.q,.bool k.f,.slice au k.s.length cu,.slice ax k.x.length cx]):=hW0▸(Bk.new w _ _).alloc _
  have HR0:Hid (Bk W0 Rb 86 #[.slice none 0 0,.slice none 0 0,.int .i64 0,.bool false]):=by rw [←hW0,hRb];exact Bk.newAt (by simp) _ _
  have HW0:=yxm hW0
  have HRB:=yxm hRb
  have hRw:w.heap.size<Rb:=by omega
  have hRW:Rb<W0.heap.size:=HR0.out.lt
  clear hRb
  obtain⟨m0,m1,m2,m3,m4,m5,m6,m7,m8,m9,m10,m11,m12,m13⟩:=ywd HP0.out
  go_enter Tryz.func46,Tryz.ntmps46
  go_wp2_with fail
  clear m0 m1 m2 m3 m4 m5 m6 m7 m8 m9 m10 m11 m12 m13 hW0
  try rw [HW0.out]
  try rw [←HRB.out]
  refine(zhy _ k _ HSK.out (HK.out.under HB0.out)).mono ?_
  rintro e w1 ⟨rfl,hb1⟩
  have HB1:=trh HB0 hb1
  have HP1:=yxm (HP0.out.below hb1)
  have HR1:=yxm (HR0.out.below hb1)
  have hs1:W0.heap.size≤w1.heap.size:=hb1.size
  clear hb1 HP0 HR0 HB0
  cases hkk:k.ok
  case false=>
    have HA:Hid (comH k=⟨[],[],0,false⟩):=by show _=_;unfold comH;rw [hkk];rfl
    have HKF:Hid (k.ok=false):=hkk
    clear hkk
    obtain⟨r0,r1,r2,r3⟩:=c4_4 HR1.out
    have rf:=HR1.out.free
    go_wp2
    clear r0 r1 r2 r3 rf
    obtain⟨X,hX⟩:∃X,putH w1 Rb (.slice none 0 0) (.slice none 0 0) (.int .i64 0) (.bool false)=X:=⟨_,rfl⟩
    have ht:=za6 w1 Rb (.slice none 0 0) (.slice none 0 0) (.int .i64 0) (.bool false)
    have hk:=HR1.out.putH (.slice none 0 0) (.slice none 0 0) (.int .i64 0) (.bool false)
    rw [hX]at ht hk
    unfold putH at hX
    rw [hX]
    obtain⟨t0,t1,t2,t3⟩:=c4_4 hk
    refine bodyPost_ret (v:= .tuple #[.agg #[.slice none 0 0,.slice none 0 0,.int .i64 0,.bool false],.bool false]) (by simp [results,Tryz.results46,go_sem,t0,t1,t2,t3]) rfl ?_
    rw [HA.out,HKF.out]
    refine⟨_,rfl,?_,HB1.out.trans (ht.to_below (fun b e=>by omega) HB1.out.size)⟩
    exact(hi_of (World.ownsRow_nil X w.heap.size 90 7) (World.ownsRow_nil X w.heap.size 166 3))
  have HKK:Hid (k.ok=true):=hkk
  have HA:Hid (comH k=⟨k.s++yz8 (comL k),yze k (comL k),k.q,k.f⟩):=by show _=_;unfold comH;rw [hkk];rfl
  clear hkk
  go_upto_region 3 with fail
  go_cut [4]from 5 (fun s4 wc=>∃Hb,s4= .pointer (some ⟨Hb,0,none⟩)∧FinC w1 k wc Hb)
  case first=>
    refine yx1 12 (fun W=>W.cell? ⟨w.heap.size,10,none⟩=some (.int .i64 k.q)∧W.cell? ⟨w.heap.size,11,none⟩=some (.bool k.f)∧W.cell? ⟨w.heap.size,12,none⟩=some (.slice au k.s.length cu)∧W.cell? ⟨w.heap.size,13,none⟩=some (.slice ax k.x.length cx)) (by kernel_rfl) ⟨HP1.out.drew.cell (i:=10) rfl,HP1.out.drew.cell (i:=11) rfl,HP1.out.drew.cell (i:=12) rfl,HP1.out.drew.cell (i:=13) rfl⟩ (fun hHeld=> ?_)
    have hBd:Below w1.heap.size w1 w1.drew:=(Below.refl _ w1).drew
    refine zdx 0 {dst:=some 12,op:=Op.fieldAddr 41 (Operand.tmp 1) 7,type:=0,pos:=_,after:=_,guard:=none} (.pointer (some ⟨w.heap.size,12,none⟩)) ?_
    try simp only [Act.put,q1,q2,q3]
    refine zdx 1 {dst:=some 13,op:=Op.load 34 (Operand.tmp 12),type:=34,pos:=_,after:=_,guard:=none} (.slice au k.s.length cu) ?_
    try simp only [Act.put,q1,q2,q3]
    refine zdx 3 {dst:=some 15,op:=Op.fieldAddr 41 (Operand.tmp 1) 8,type:=0,pos:=_,after:=_,guard:=none} (.pointer (some ⟨w.heap.size,13,none⟩)) ?_
    try simp only [Act.put,q1,q2,q3]
    refine zdx 4 {dst:=some 16,op:=Op.load 39 (Operand.tmp 15),type:=39,pos:=_,after:=_,guard:=none} (.slice ax k.x.length cx) ?_
    try simp only [Act.put,q1,q2,q3]
    refine zdx 6 {dst:=some 18,op:=Op.fieldAddr 41 (Operand.tmp 1) 5,type:=0,pos:=_,after:=_,guard:=none} (.pointer (some ⟨w.heap.size,10,none⟩)) ?_
    try simp only [Act.put,q1,q2,q3]
    refine zdx 7 {dst:=some 19,op:=Op.load 3 (Operand.tmp 18),type:=3,pos:=_,after:=_,guard:=none} (.int .i64 k.q) ?_
    try simp only [Act.put,q1,q2,q3]
    refine zdx 8 {dst:=some 20,op:=Op.fieldAddr 41 (Operand.tmp 1) 6,type:=0,pos:=_,after:=_,guard:=none} (.pointer (some ⟨w.heap.size,11,none⟩)) ?_
    try simp only [Act.put,q1,q2,q3]
    refine zdx 9 {dst:=some 21,op:=Op.load 4 (Operand.tmp 20),type:=4,pos:=_,after:=_,guard:=none} (.bool k.f) ?_
    try simp only [Act.put,q1,q2,q3]
    refine yw2 (l':=(zb7 987)) (by kernel_rfl) ?_
    refine zfd (fun G hG=> ?_)
    have HGE:Hid (G=_):=hG
    clear hG hHeld
    have st111:Hid (∀(W:World) (ay:Option Addr) (cy:Nat) (ae2:Option Addr) (ce2:Nat) (Hb:Nat),Below w1.heap.size w1 W→W.ownsRow w1.heap.size 90 7 (.slice ay k.s.length cy) k.s.length (yvz k.s)→W.ownsRow w1.heap.size 166 3 (.slice ae2 k.x.length ce2) k.x.length (ywm k.x)→Bk W Hb 86 #[.slice none 0 0,.slice none 0 0,.int .i64 0,.bool false]→w1.heap.size≤Hb→G 1 (zb7 4095) (actI k ai ci ah ch ae ce ad cd ap cp ab cb au cu ax cx w.heap.size Rb (.pointer (some ⟨Hb,0,none⟩)) (.slice ay k.s.length cy) (.slice ae2 k.x.length ce2) (.agg #[.slice ay k.s.length cy,.slice ae2 k.x.length ce2,.int .i64 k.q,.bool k.f])) W):=by
      intro W ay cy ae2 ce2 Hb hB hC hX hH hHb
      rw [HGE.out]
      unfold actI
      refine yfb (rs:= [12]) (by kernel_rfl) (by simp) ?_
      refine AllReadyZ.last rfl (fun K hK=> ?_)
      obtain⟨k0,k1,k2,k3⟩:=c4_4 hH
      have kf:=hH.free
      obtain⟨wf,hwf⟩:∃X,putH W Hb (.slice ay k.s.length cy) (.slice ae2 k.x.length ce2) (.int .i64 k.q) (.bool k.f)=X:=⟨_,rfl⟩
      have ht:Turns (fun j=>j=Hb) W wf:=hwf▸za6 _ _ _ _ _ _
      have HFN:Hid (FinC w1 k wf Hb):=⟨ay,cy,ae2,ce2,owN hC ht hH,owN hX ht hH,hwf▸hH.putH _ _ _ _,hB.trans (ht.to_below (fun j hj=>by omega) hB.size),hHb⟩
      unfold putH at hwf
      have HWF:Hid _:=hwf
      clear hwf ht hC hX hH hB
      go_simp
      rw [HWF.out]
      clear HWF k0 k1 k2 k3 kf
      refine hK.out _ _ ?_
      clear hK K
      try simp only [Act.put,q1,q2,q3]
      refine yx2 (by kernel_rfl) ?_ _
      try go_wp2_with fail
      go_meet
      case rel=>exact⟨Hb,rfl,HFN.out⟩
    have st110:Hid (∀(W:World) (ay:Option Addr) (cy:Nat) (ae2:Option Addr) (ce2:Nat),Below w1.heap.size w1 W→W.ownsRow w1.heap.size 90 7 (.slice ay k.s.length cy) k.s.length (yvz k.s)→W.ownsRow w1.heap.size 166 3 (.slice ae2 k.x.length ce2) k.x.length (ywm k.x)→G 2 (zb7 2047) (actI k ai ci ah ch ae ce ad cd ap cp ab cb au cu ax cx w.heap.size Rb undef (.slice ay k.s.length cy) (.slice ae2 k.x.length ce2) (.agg #[.slice ay k.s.length cy,.slice ae2 k.x.length ce2,.int .i64 k.q,.bool k.f])) W):=by
      intro W ay cy ae2 ce2 hB hC hX
      rw [HGE.out]
      unfold actI
      refine yfb (rs:= [11]) (by kernel_rfl) (by simp) ?_
      refine AllReadyZ.cons (i:=11) rfl (fun K hKK=> ?_) AllReadyZ.nil
      · obtain⟨Hb,V,HX,HV,hb,hk⟩:=zcg W #[.slice none 0 0,.slice none 0 0,.int .i64 0,.bool false] 86
        go_simp
        rw [HV.out,←HX.out]
        have hB':Below w1.heap.size w1 V:=trm hB hb
        refine hKK.out _ _ ⟨(HP1.out.below hB').cell (i:=10) rfl,(HP1.out.below hB').cell (i:=11) rfl,(HP1.out.below hB').cell (i:=12) rfl,(HP1.out.below hB').cell (i:=13) rfl⟩ (fun hHeld=> ?_)
        try simp only [Act.put,q1]
        try simp only [q3]
        try simp only [q2]
        refine yw2 (l':=(zb7 4095)) (by kernel_rfl) ?_
        rw [←HGE.out]
        exact st111.out V ay cy ae2 ce2 Hb hB' (owB hC hb) (owB hX hb) hk (HX.out▸hB.size)
    have st011:Hid (∀(W:World) (ae2:Option Addr) (ce2:Nat) (Hb:Nat),Below w1.heap.size w1 W→W.ownsRow w1.heap.size 166 3 (.slice ae2 k.x.length ce2) k.x.length (ywm k.x)→Bk W Hb 86 #[.slice none 0 0,.slice none 0 0,.int .i64 0,.bool false]→w1.heap.size≤Hb→G 3 (zb7 3067) (actI k ai ci ah ch ae ce ad cd ap cp ab cb au cu ax cx w.heap.size Rb (.pointer (some ⟨Hb,0,none⟩)) undef (.slice ae2 k.x.length ce2) undef) W):=by
      intro W ae2 ce2 Hb hB hX hH hHb
      rw [HGE.out]
      unfold actI
      refine yfb (rs:= [2]) (by kernel_rfl) (by simp) ?_
      refine AllReadyZ.cons (i:=2) rfl (fun K hKK=> ?_) AllReadyZ.nil
      · go_simp
        go_at_call 116
        refine(yzb _ k.s W HSL.out ((HSS.out.below HB1.out).below hB)).mono ?_
        rintro e V ⟨y0,rfl,ho,hb⟩
        obtain⟨ay,cy,rfl⟩:=yfm ho
        have hC':V.ownsRow w1.heap.size 90 7 (.slice ay k.s.length cy) k.s.length (yvz k.s):=yw0 ho hB.size
        try go_simp
        have hB':Below w1.heap.size w1 V:=trm hB hb
        refine hKK.out _ _ ⟨(HP1.out.below hB').cell (i:=10) rfl,(HP1.out.below hB').cell (i:=11) rfl,(HP1.out.below hB').cell (i:=12) rfl,(HP1.out.below hB').cell (i:=13) rfl⟩ (fun hHeld=> ?_)
        try simp only [Act.put,q1]
        try simp only [q3]
        try simp only [q2]
        refine zdx 10 {dst:=some 22,op:=Op.build 86 #[(0,Operand.tmp 14),(1,Operand.tmp 17),(2,Operand.tmp 19),(3,Operand.tmp 21)],type:=86,pos:=_,after:=_,guard:=none} ((.agg #[.slice ay k.s.length cy,.slice ae2 k.x.length ce2,.int .i64 k.q,.bool k.f])) ?_
        try simp only [Act.put,q1,q2,q3]
        refine yw2 (l':=(zb7 4095)) (by kernel_rfl) ?_
        rw [←HGE.out]
        exact st111.out V ay cy ae2 ce2 Hb hB' hC' (owB hX hb) (hH.below hb) hHb
    have st101:Hid (∀(W:World) (ay:Option Addr) (cy:Nat) (Hb:Nat),Below w1.heap.size w1 W→W.ownsRow w1.heap.size 90 7 (.slice ay k.s.length cy) k.s.length (yvz k.s)→Bk W Hb 86 #[.slice none 0 0,.slice none 0 0,.int .i64 0,.bool false]→w1.heap.size≤Hb→G 3 (zb7 3039) (actI k ai ci ah ch ae ce ad cd ap cp ab cb au cu ax cx w.heap.size Rb (.pointer (some ⟨Hb,0,none⟩)) (.slice ay k.s.length cy) undef undef) W):=by
      intro W ay cy Hb hB hC hH hHb
      rw [HGE.out]
      unfold actI
      refine yfb (rs:= [5]) (by kernel_rfl) (by simp) ?_
      refine AllReadyZ.cons (i:=5) rfl (fun K hKK=> ?_) AllReadyZ.nil
      · go_simp
        go_at_call 117
        refine(zc2 _ k.x W HXL.out ((HXS.out.below HB1.out).below hB)).mono ?_
        rintro e V ⟨y0,rfl,ho,hb⟩
        obtain⟨ae2,ce2,rfl⟩:=yfm ho
        have hX':V.ownsRow w1.heap.size 166 3 (.slice ae2 k.x.length ce2) k.x.length (ywm k.x):=yw0 ho hB.size
        try go_simp
        have hB':Below w1.heap.size w1 V:=trm hB hb
        refine hKK.out _ _ ⟨(HP1.out.below hB').cell (i:=10) rfl,(HP1.out.below hB').cell (i:=11) rfl,(HP1.out.below hB').cell (i:=12) rfl,(HP1.out.below hB').cell (i:=13) rfl⟩ (fun hHeld=> ?_)
        try simp only [Act.put,q1]
        try simp only [q3]
        try simp only [q2]
        refine zdx 10 {dst:=some 22,op:=Op.build 86 #[(0,Operand.tmp 14),(1,Operand.tmp 17),(2,Operand.tmp 19),(3,Operand.tmp 21)],type:=86,pos:=_,after:=_,guard:=none} ((.agg #[.slice ay k.s.length cy,.slice ae2 k.x.length ce2,.int .i64 k.q,.bool k.f])) ?_
        try simp only [Act.put,q1,q2,q3]
        refine yw2 (l':=(zb7 4095)) (by kernel_rfl) ?_
        rw [←HGE.out]
        exact st111.out V ay cy ae2 ce2 Hb hB' (owB hC hb) hX' (hH.below hb) hHb
    have st001:Hid (∀(W:World) (Hb:Nat),Below w1.heap.size w1 W→Bk W Hb 86 #[.slice none 0 0,.slice none 0 0,.int .i64 0,.bool false]→w1.heap.size≤Hb→G 4 (zb7 3035) (actI k ai ci ah ch ae ce ad cd ap cp ab cb au cu ax cx w.heap.size Rb (.pointer (some ⟨Hb,0,none⟩)) undef undef undef) W):=by
      intro W Hb hB hH hHb
      rw [HGE.out]
      unfold actI
      refine yfb (rs:= [2]) (by kernel_rfl) (by simp) ?_
      refine AllReadyZ.cons (i:=2) rfl (fun K hKK=> ?_) AllReadyZ.nil
      · go_simp
        go_at_call 116
        refine(yzb _ k.s W HSL.out ((HSS.out.below HB1.out).below hB)).mono ?_
        rintro e V ⟨y0,rfl,ho,hb⟩
        obtain⟨ay,cy,rfl⟩:=yfm ho
        have hC':V.ownsRow w1.heap.size 90 7 (.slice ay k.s.length cy) k.s.length (yvz k.s):=yw0 ho hB.size
        try go_simp
        have hB':Below w1.heap.size w1 V:=trm hB hb
        refine hKK.out _ _ ⟨(HP1.out.below hB').cell (i:=10) rfl,(HP1.out.below hB').cell (i:=11) rfl,(HP1.out.below hB').cell (i:=12) rfl,(HP1.out.below hB').cell (i:=13) rfl⟩ (fun hHeld=> ?_)
        try simp only [Act.put,q1]
        try simp only [q3]
        try simp only [q2]
        refine yw2 (l':=(zb7 3039)) (by kernel_rfl) ?_
        rw [←HGE.out]
        exact st101.out V ay cy Hb hB' hC' (hH.below hb) hHb
    have st010:Hid (∀(W:World) (ae2:Option Addr) (ce2:Nat),Below w1.heap.size w1 W→W.ownsRow w1.heap.size 166 3 (.slice ae2 k.x.length ce2) k.x.length (ywm k.x)→G 4 (zb7 1019) (actI k ai ci ah ch ae ce ad cd ap cp ab cb au cu ax cx w.heap.size Rb undef undef (.slice ae2 k.x.length ce2) undef) W):=by
      intro W ae2 ce2 hB hX
      rw [HGE.out]
      unfold actI
      refine yfb (rs:= [2,11]) (by kernel_rfl) (by simp) ?_
      refine AllReadyZ.cons (i:=2) rfl (fun K hKK=> ?_) (AllReadyZ.cons (i:=11) rfl (fun K hKK=> ?_) AllReadyZ.nil)
      · go_simp
        go_at_call 116
        refine(yzb _ k.s W HSL.out ((HSS.out.below HB1.out).below hB)).mono ?_
        rintro e V ⟨y0,rfl,ho,hb⟩
        obtain⟨ay,cy,rfl⟩:=yfm ho
        have hC':V.ownsRow w1.heap.size 90 7 (.slice ay k.s.length cy) k.s.length (yvz k.s):=yw0 ho hB.size
        try go_simp
        have hB':Below w1.heap.size w1 V:=trm hB hb
        refine hKK.out _ _ ⟨(HP1.out.below hB').cell (i:=10) rfl,(HP1.out.below hB').cell (i:=11) rfl,(HP1.out.below hB').cell (i:=12) rfl,(HP1.out.below hB').cell (i:=13) rfl⟩ (fun hHeld=> ?_)
        try simp only [Act.put,q1]
        try simp only [q3]
        try simp only [q2]
        refine zdx 10 {dst:=some 22,op:=Op.build 86 #[(0,Operand.tmp 14),(1,Operand.tmp 17),(2,Operand.tmp 19),(3,Operand.tmp 21)],type:=86,pos:=_,after:=_,guard:=none} ((.agg #[.slice ay k.s.length cy,.slice ae2 k.x.length ce2,.int .i64 k.q,.bool k.f])) ?_
        try simp only [Act.put,q1,q2,q3]
        refine yw2 (l':=(zb7 2047)) (by kernel_rfl) ?_
        rw [←HGE.out]
        exact st110.out V ay cy ae2 ce2 hB' hC' (owB hX hb)
      · obtain⟨Hb,V,HX,HV,hb,hk⟩:=zcg W #[.slice none 0 0,.slice none 0 0,.int .i64 0,.bool false] 86
        go_simp
        rw [HV.out,←HX.out]
        have hB':Below w1.heap.size w1 V:=trm hB hb
        refine hKK.out _ _ ⟨(HP1.out.below hB').cell (i:=10) rfl,(HP1.out.below hB').cell (i:=11) rfl,(HP1.out.below hB').cell (i:=12) rfl,(HP1.out.below hB').cell (i:=13) rfl⟩ (fun hHeld=> ?_)
        try simp only [Act.put,q1]
        try simp only [q3]
        try simp only [q2]
        refine yw2 (l':=(zb7 3067)) (by kernel_rfl) ?_
        rw [←HGE.out]
        exact st011.out V ae2 ce2 Hb hB' (owB hX hb) hk (HX.out▸hB.size)
    have st100:Hid (∀(W:World) (ay:Option Addr) (cy:Nat),Below w1.heap.size w1 W→W.ownsRow w1.heap.size 90 7 (.slice ay k.s.length cy) k.s.length (yvz k.s)→G 4 (zb7 991) (actI k ai ci ah ch ae ce ad cd ap cp ab cb au cu ax cx w.heap.size Rb undef (.slice ay k.s.length cy) undef undef) W):=by
      intro W ay cy hB hC
      rw [HGE.out]
      unfold actI
      refine yfb (rs:= [5,11]) (by kernel_rfl) (by simp) ?_
      refine AllReadyZ.cons (i:=5) rfl (fun K hKK=> ?_) (AllReadyZ.cons (i:=11) rfl (fun K hKK=> ?_) AllReadyZ.nil)
      · go_simp
        go_at_call 117
        refine(zc2 _ k.x W HXL.out ((HXS.out.below HB1.out).below hB)).mono ?_
        rintro e V ⟨y0,rfl,ho,hb⟩
        obtain⟨ae2,ce2,rfl⟩:=yfm ho
        have hX':V.ownsRow w1.heap.size 166 3 (.slice ae2 k.x.length ce2) k.x.length (ywm k.x):=yw0 ho hB.size
        try go_simp
        have hB':Below w1.heap.size w1 V:=trm hB hb
        refine hKK.out _ _ ⟨(HP1.out.below hB').cell (i:=10) rfl,(HP1.out.below hB').cell (i:=11) rfl,(HP1.out.below hB').cell (i:=12) rfl,(HP1.out.below hB').cell (i:=13) rfl⟩ (fun hHeld=> ?_)
        try simp only [Act.put,q1]
        try simp only [q3]
        try simp only [q2]
        refine zdx 10 {dst:=some 22,op:=Op.build 86 #[(0,Operand.tmp 14),(1,Operand.tmp 17),(2,Operand.tmp 19),(3,Operand.tmp 21)],type:=86,pos:=_,after:=_,guard:=none} ((.agg #[.slice ay k.s.length cy,.slice ae2 k.x.length ce2,.int .i64 k.q,.bool k.f])) ?_
        try simp only [Act.put,q1,q2,q3]
        refine yw2 (l':=(zb7 2047)) (by kernel_rfl) ?_
        rw [←HGE.out]
        exact st110.out V ay cy ae2 ce2 hB' (owB hC hb) hX'
      · obtain⟨Hb,V,HX,HV,hb,hk⟩:=zcg W #[.slice none 0 0,.slice none 0 0,.int .i64 0,.bool false] 86
        go_simp
        rw [HV.out,←HX.out]
        have hB':Below w1.heap.size w1 V:=trm hB hb
        refine hKK.out _ _ ⟨(HP1.out.below hB').cell (i:=10) rfl,(HP1.out.below hB').cell (i:=11) rfl,(HP1.out.below hB').cell (i:=12) rfl,(HP1.out.below hB').cell (i:=13) rfl⟩ (fun hHeld=> ?_)
        try simp only [Act.put,q1]
        try simp only [q3]
        try simp only [q2]
        refine yw2 (l':=(zb7 3039)) (by kernel_rfl) ?_
        rw [←HGE.out]
        exact st101.out V ay cy Hb hB' (owB hC hb) hk (HX.out▸hB.size)
    have st000:Hid (∀(W:World),Below w1.heap.size w1 W→G 5 (zb7 987) (actI k ai ci ah ch ae ce ad cd ap cp ab cb au cu ax cx w.heap.size Rb undef undef undef undef) W):=by
      intro W hB
      rw [HGE.out]
      unfold actI
      refine yfb (rs:= [2,11]) (by kernel_rfl) (by simp) ?_
      refine AllReadyZ.cons (i:=2) rfl (fun K hKK=> ?_) (AllReadyZ.cons (i:=11) rfl (fun K hKK=> ?_) AllReadyZ.nil)
      · go_simp
        go_at_call 116
        refine(yzb _ k.s W HSL.out ((HSS.out.below HB1.out).below hB)).mono ?_
        rintro e V ⟨y0,rfl,ho,hb⟩
        obtain⟨ay,cy,rfl⟩:=yfm ho
        have hC':V.ownsRow w1.heap.size 90 7 (.slice ay k.s.length cy) k.s.length (yvz k.s):=yw0 ho hB.size
        try go_simp
        have hB':Below w1.heap.size w1 V:=trm hB hb
        refine hKK.out _ _ ⟨(HP1.out.below hB').cell (i:=10) rfl,(HP1.out.below hB').cell (i:=11) rfl,(HP1.out.below hB').cell (i:=12) rfl,(HP1.out.below hB').cell (i:=13) rfl⟩ (fun hHeld=> ?_)
        try simp only [Act.put,q1]
        try simp only [q3]
        try simp only [q2]
        refine yw2 (l':=(zb7 991)) (by kernel_rfl) ?_
        rw [←HGE.out]
        exact st100.out V ay cy hB' hC'
      · obtain⟨Hb,V,HX,HV,hb,hk⟩:=zcg W #[.slice none 0 0,.slice none 0 0,.int .i64 0,.bool false] 86
        go_simp
        rw [HV.out,←HX.out]
        have hB':Below w1.heap.size w1 V:=trm hB hb
        refine hKK.out _ _ ⟨(HP1.out.below hB').cell (i:=10) rfl,(HP1.out.below hB').cell (i:=11) rfl,(HP1.out.below hB').cell (i:=12) rfl,(HP1.out.below hB').cell (i:=13) rfl⟩ (fun hHeld=> ?_)
        try simp only [Act.put,q1]
        try simp only [q3]
        try simp only [q2]
        refine yw2 (l':=(zb7 3035)) (by kernel_rfl) ?_
        rw [←HGE.out]
        exact st001.out V Hb hB' hk (HX.out▸hB.size)
    exact st000.out _ hBd
  case rest=>
    obtain⟨Hb,rfl,ay,cy,ae2,ce2,hC,hX,hH,hB,hHb⟩:=hcut
    obtain⟨w5,rfl⟩:∃w5,w5=wc:=⟨wc,rfl⟩
    have HC5:=yxm hC
    have HX5:=yxm hX
    have HH5:=yxm hH
    have HP5:=yxm (HP1.out.below hB)
    have HR5:=yxm (HR1.out.below hB)
    have HB5:=trh HB1 hB
    have hs5:w1.heap.size≤w5.heap.size:=hB.size
    have hHl:Hb<w5.heap.size:=hH.lt
    have HBL5:=yxm hB
    clear hC hX hH hB HP1
    obtain⟨m0,m1,m2,m3,m4,m5,m6,m7,m8,m9,m10,m11,m12,m13⟩:=ywd HP5.out
    go_wp2_with fail
    clear m0 m1 m2 m3 m4 m5 m6 m7 m8 m9 m10 m11 m12 m13
    refine(iSettled _ k w _ HB5.out HSK.out (fun i hi=>kn_gvt HKK.out _ (getD_in hi)) (zby HKK.out) (zj9 HKK.out) HK.out).mono ?_
    rintro e w6 ⟨y,L,rfl,hperm,hsort,hrow,hpr,hb6⟩
    have hcl:=com_one HKK.out hperm hsort
    have HCL:Hid (psOf L=comL k):=hcl
    have HPR:Hid (∀z∈L,PsR w z):=hpr
    obtain⟨ya,yc,rfl⟩:=yfm hrow
    have HY6:=yxm hrow
    have HLL:Hid (L.length≤800):=by
      show _≤_
      have h1:=ziz HKK.out (pre:=comL k) (t:= []) (by simp)
      rw [←hcl,yyi]at h1
      exact h1
    have HC6:=yxm (owB HC5.out hb6)
    have HX6:=yxm (owB HX5.out hb6)
    have HH6:=yxm (HH5.out.below hb6)
    have HBL6:=yxm (HBL5.out.trans (hb6.mono hs5))
    clear hb6 hperm hsort hrow hpr hcl HC5 HX5 HH5 HP5 HR5 HBL5
    have hll:=HLL.out
    go_wp2
    clear hll
    go_loopw [26] (fun i wr=>∃j:Nat,j≤L.length∧i= .int .i64 j∧CoJ w1 w5 k L ya yc wr Hb j) (fun i _=>L.length-(intOf i).toNat)
    case atStart=>exact⟨0,Nat.zero_le _,rfl,⟨HY6.out,⟨ay,cy,ae2,ce2,by rw [List.take_zero,zpk,told0];exact HH6.out,by rw [List.take_zero,zpk];exact HC6.out,by rw [List.take_zero,told0];exact HX6.out⟩,HBL6.out⟩⟩
    case round=>
      clear HY6 HC6 HX6 HH6 HBL6
      obtain⟨j,hj,rfl,HJ⟩:=hrel
      obtain⟨ayj,cyj,axj,cxj,hHj,hCj,hXj⟩:=HJ.rows
      have HYj:=yxm HJ.row
      have HBj:=yxm HJ.bel
      obtain⟨ELj,hELj⟩:∃E,k.s++yz8 ((psOf L).take j)=E:=⟨_,rfl⟩
      obtain⟨TLj,hTLj⟩:∃E,yze k ((psOf L).take j)=E:=⟨_,rfl⟩
      have HELL:Hid (ELj.length≤1050000):=by
        show _≤_
        rw [←hELj,List.length_append,yz8,List.length_map,List.length_take]
        have h1:=HLL.out
        have h2:=HSL.out
        rw [yyi]
        omega
      have HTLL:Hid (TLj.length≤1060000):=by
        show _≤_
        rw [←hTLj]
        have h1:=zk0 HKK.out (pre:=(psOf L).take j) (t:=(psOf L).drop j) (by rw [List.take_append_drop,HCL.out])
        have h2:=HXL.out
        omega
      rw [hELj]at hCj
      rw [hTLj]at hXj
      rw [hELj,hTLj]at hHj
      have HELj:=yxm hELj
      have HTLj:=yxm hTLj
      have HHj:=yxm hHj
      have HCj:=yxm hCj
      have HXj:=yxm hXj
      clear hHj hCj hXj hELj hTLj HJ
      have hll:=HLL.out
      by_cases hlt:j<L.length
      · obtain⟨g,hg⟩:∃g,ya=some ⟨g,0,none⟩:=by
          rcases HYj.out.2 with ⟨h',_⟩|⟨g,cap,cur,h',_⟩
          · have h9:=(Value.slice.inj h').2.1
            omega
          · exact⟨g,(Value.slice.inj h').1⟩
        subst hg
        obtain⟨Q,hQ⟩:∃Q,L[j]!.1.1=Q:=⟨_,rfl⟩
        have HQ:Hid (psAt (psOf L) j=Q):=by show _=_;rw [psOf_at hlt,hQ]
        have hz:PsR w L[j]! :=HPR.out L[j]! (by rw [getElem!_pos L j hlt];exact List.getElem_mem hlt)
        have hcell:∀r,r<12→wr.cell? ⟨g,j*12+r,none⟩=(encP L[j]!)[r]? :=fun r hr=>row_cell HYj.out hlt hr
        unfold encP PsR at*
        generalize L[j]! =z at hQ hz hcell
        obtain⟨⟨q,u7,u10,u11⟩,hz0⟩:=z
        obtain rfl:q=Q:=hQ
        obtain⟨h7,h10,h11⟩:=hz
        obtain⟨a7,c7,e7,-⟩:=IsD.len (c:=1) (n:=q.b.r.length) h7
        obtain⟨a10,c10,e10,-⟩:=IsD.len (c:=7) (n:=q.s.length) h10
        obtain⟨a11,c11,e11,-⟩:=IsD.len (c:=3) (n:=q.x.length) h11
        dsimp only at e7 e10 e11
        subst e7 e10 e11
        have HX11:Hid (IsD w (.slice a11 q.x.length c11) (emsD q.x)):=h11
        have p0:wr.cell? ⟨g,j*12,none⟩=some (.int .i64 q.e.t):=hcell 0 (by decide)
        have p1:wr.cell? ⟨g,j*12+1,none⟩=some (.int .i64 q.e.s):=hcell 1 (by decide)
        have p2:wr.cell? ⟨g,j*12+2,none⟩=some (.int .i64 q.e.q):=hcell 2 (by decide)
        have p3:wr.cell? ⟨g,j*12+3,none⟩=some (.int .i64 q.e.d):=hcell 3 (by decide)
        have p4:wr.cell? ⟨g,j*12+4,none⟩=some (.int .i64 q.e.k):=hcell 4 (by decide)
        have p5:wr.cell? ⟨g,j*12+5,none⟩=some (.int .i64 q.e.v):=hcell 5 (by decide)
        have p6:wr.cell? ⟨g,j*12+6,none⟩=some (.int .i64 q.e.g):=hcell 6 (by decide)
        have p7:wr.cell? ⟨g,j*12+7,none⟩=some (.slice a7 q.b.r.length c7):=hcell 7 (by decide)
        have p8:wr.cell? ⟨g,j*12+8,none⟩=some (.int .i64 q.b.q):=hcell 8 (by decide)
        have p9:wr.cell? ⟨g,j*12+9,none⟩=some (.int .i64 q.b.d):=hcell 9 (by decide)
        have p10:wr.cell? ⟨g,j*12+10,none⟩=some (.slice a10 q.s.length c10):=hcell 10 (by decide)
        have p11:wr.cell? ⟨g,j*12+11,none⟩=some (.slice a11 q.x.length c11):=hcell 11 (by decide)
        have hki:(j:Int)<(L.length:Int):=by omega
        obtain⟨i0,hi,hi0,hi1,hi2⟩:=info_parts info25
        obtain⟨Xb,hXb⟩:∃X,wr.heap.size=X:=⟨_,rfl⟩
        obtain⟨V1,hV1⟩:∃V,wr.alloc (.cells #[.int .i64 q.e.t,.int .i64 q.e.s,.int .i64 q.e.q,.int .i64 q.e.d,.int .i64 q.e.k,.int .i64 q.e.v,.int .i64 q.e.g,.slice a7 q.b.r.length c7,.int .i64 q.b.q,.int .i64 q.b.d,.slice a10 q.s.length c10,.slice a11 q.x.length c11] 172)=V:=⟨_,rfl⟩
        have hbk1:Bk V1 Xb 172 #[.int .i64 q.e.t,.int .i64 q.e.s,.int .i64 q.e.q,.int .i64 q.e.d,.int .i64 q.e.k,.int .i64 q.e.v,.int .i64 q.e.g,.slice a7 q.b.r.length c7,.int .i64 q.b.q,.int .i64 q.b.d,.slice a10 q.s.length c10,.slice a11 q.x.length c11]:=hV1▸hXb▸Bk.new wr _ _
        have hB1:=beA hV1
        obtain⟨Eb,hEb⟩:∃X,V1.heap.size=X:=⟨_,rfl⟩
        obtain⟨V2,hV2⟩:∃V,V1.alloc (.cells #[.int .i64 q.e.t,.int .i64 q.e.s,.int .i64 q.e.q,.int .i64 q.e.d,.int .i64 q.e.k,.int .i64 q.e.v,.int .i64 q.e.g] 90)=V:=⟨_,rfl⟩
        have hbk2:Bk V2 Eb 90 #[.int .i64 q.e.t,.int .i64 q.e.s,.int .i64 q.e.q,.int .i64 q.e.d,.int .i64 q.e.k,.int .i64 q.e.v,.int .i64 q.e.g]:=hV2▸hEb▸Bk.new V1 _ _
        have hB2:Below wr.heap.size wr V2:=hV2▸hB1.alloc hB1.size _
        obtain⟨V3,hV3⟩:∃V,V2.setCell ⟨Eb,6,none⟩ (.int .i64 0)=V:=⟨_,rfl⟩
        have hbk3:Bk V3 Eb 90 #[.int .i64 q.e.t,.int .i64 q.e.s,.int .i64 q.e.q,.int .i64 q.e.d,.int .i64 q.e.k,.int .i64 q.e.v,.int .i64 0]:=hV3▸hbk2.put 6 _
        have ht3:Turns (fun j=>j=Eb) V2 V3:=hV3▸yag _ _ 6 _
        have hXE:Xb<Eb:=by rw [←hEb];exact hbk1.lt
        have hB3:Below wr.heap.size wr V3:=hB2.trans (ht3.to_below (fun b e=>by omega) hB2.size)
        obtain⟨Gb,hGb⟩:∃X,V3.heap.size=X:=⟨_,rfl⟩
        obtain⟨V4,hV4⟩:∃V,V3.alloc (.cells #[.int .i64 q.e.t,.int .i64 q.e.s,.int .i64 q.e.q,.int .i64 q.e.d,.int .i64 q.e.k,.int .i64 q.e.v,.int .i64 0] 90)=V:=⟨_,rfl⟩
        have hbk4:Bk V4 Gb 90 #[.int .i64 q.e.t,.int .i64 q.e.s,.int .i64 q.e.q,.int .i64 q.e.d,.int .i64 q.e.k,.int .i64 q.e.v,.int .i64 0]:=hV4▸hGb▸Bk.new V3 _ _
        have hB4:Below wr.heap.size wr V4:=hV4▸hB3.alloc hB3.size _
        have HX4:Hid (Bk V4 Xb 172 #[.int .i64 q.e.t,.int .i64 q.e.s,.int .i64 q.e.q,.int .i64 q.e.d,.int .i64 q.e.k,.int .i64 q.e.v,.int .i64 q.e.g,.slice a7 q.b.r.length c7,.int .i64 q.b.q,.int .i64 q.b.d,.slice a10 q.s.length c10,.slice a11 q.x.length c11]):=by
          have h9:Bk V2 Xb 172 #[.int .i64 q.e.t,.int .i64 q.e.s,.int .i64 q.e.q,.int .i64 q.e.d,.int .i64 q.e.k,.int .i64 q.e.v,.int .i64 q.e.g,.slice a7 q.b.r.length c7,.int .i64 q.b.q,.int .i64 q.b.d,.slice a10 q.s.length c10,.slice a11 q.x.length c11]:=hV2▸hbk1.alloc _
          have h8:Bk V3 Xb 172 #[.int .i64 q.e.t,.int .i64 q.e.s,.int .i64 q.e.q,.int .i64 q.e.d,.int .i64 q.e.k,.int .i64 q.e.v,.int .i64 q.e.g,.slice a7 q.b.r.length c7,.int .i64 q.b.q,.int .i64 q.b.d,.slice a10 q.s.length c10,.slice a11 q.x.length c11]:=h9.turns ht3 (fun e=>by omega)
          exact hV4▸h8.alloc _
        have HG4:=yxm hbk4
        have HB4:=yxm hB4
        have HH4:=yxm (HHj.out.below hB4)
        have HC4:=yxm (owB HCj.out hB4)
        have HT4:=yxm (owB HXj.out hB4)
        have HY4:=yxm (owB HYj.out hB4)
        have h0:=(HHj.out.below hB3).cell (i:=0) rfl
        have x0:=hbk1.cell (i:=0) rfl
        have y0:=hbk3.cell (i:=0) rfl
        have x1:=hbk1.cell (i:=1) rfl
        have y1:=hbk3.cell (i:=1) rfl
        have x2:=hbk1.cell (i:=2) rfl
        have y2:=hbk3.cell (i:=2) rfl
        have x3:=hbk1.cell (i:=3) rfl
        have y3:=hbk3.cell (i:=3) rfl
        have x4:=hbk1.cell (i:=4) rfl
        have y4:=hbk3.cell (i:=4) rfl
        have x5:=hbk1.cell (i:=5) rfl
        have y5:=hbk3.cell (i:=5) rfl
        have x6:=hbk1.cell (i:=6) rfl
        have y6:=hbk3.cell (i:=6) rfl
        have z6:=hbk2.cell (i:=6) rfl
        have zf:=hbk2.free
        clear hbk1 hbk2 hbk3 hbk4 hB1 hB2 hB3 hB4 ht3 h7 h10 h11 hz0 hcell HHj HCj HXj HYj
        go_upto_region 10 with (at_builtin;refine ywg _ rfl _ _ 34 rfl w1.heap.size 90 i0 _ 7 56 Tryz.underlying34 hi hi0 hi1 hi2 rfl (by decide) (.slice ayj ELj.length cyj) ELj.length (yvz ELj) rfl HC4.out (.slice (some ⟨Gb,0,none⟩) 1 1) 1 (zgz q.e).cs rfl (zk7 (e:=zgz q.e) HG4.out) (zi9 _) (by unfold maxLen;have h9:=HELL.out;omega) (by have h9:=HELL.out;omega) (Nat.le_trans HBj.out.size HB4.out.size) ?_;rintro v4 w7 hown hgrow-;obtain⟨ay2,cy2,rfl⟩:=yfm hown;obtain⟨EL2,hEL2⟩:∃E,ELj++ [zgz q.e]=E:=⟨_,rfl⟩;have HEL2:=hdq hEL2;have hnl:ELj.length+1=EL2.length:=(by rw [←hEL2];simp);rw [hnl];have HC7:Hid (w7.ownsRow w1.heap.size 90 7 (.slice ay2 EL2.length cy2) EL2.length (yvz EL2)):=(by rw [←hEL2,List.length_append];exact(yyk ELj [zgz q.e])▸hown);have hgt:=yw9 hgrow;have HH7:=hdq (HH4.out.turns hgt (ywp HC4.out HH4.out (by decide)));have HX7:=hdq (HX4.out.turns hgt (ywp HC4.out HX4.out (by decide)));have HT7:Hid (w7.ownsRow w1.heap.size 166 3 (.slice axj TLj.length cxj) TLj.length (ywm TLj)):=ypa HT4.out hgt (fun j hj e=>zdh HC4.out HT4.out (by decide) e hj);have HY7:Hid (w7.ownsRow w5.heap.size 172 12 (.slice (some ⟨g,0,none⟩) L.length yc) L.length (yxp L)):=ypa HY4.out hgt (fun j hj e=>zdh HC4.out HY4.out (by decide) e hj);have HB7:Hid (Below w1.heap.size w1 w7):=(trm HBj.out HB4.out).grown hgrow (Nat.le_trans HBj.out.size HB4.out.size) (fun q e=>yx4 HC4.out e);clear hown hgrow hgt hEL2 hnl HX4 HG4 HH4 HC4 HT4 HY4 HB4 p0 p1 p2 p3 p4 p5 p6 p7 p8 p9 p10 p11 x0 y0 x1 y1 x2 y2 x3 y3 x4 y4 x5 y5 x6 y6 z6 zf h0 hi hi0 hi1 hi2;clear hV1 hV2 hV3 hV4;have k0:=HH7.out.cell (i:=0) rfl;have kf:=HH7.out.free)
        obtain⟨w8,hw8⟩:∃X,w7.setCell ⟨Hb,0,none⟩ (.slice ay2 EL2.length cy2)=X:=⟨_,rfl⟩
        have ht8:Turns (fun j=>j=Hb) w7 w8:=hw8▸yag _ _ 0 _
        have HH8:Hid (Bk w8 Hb 86 #[.slice ay2 EL2.length cy2,.slice axj TLj.length cxj,.int .i64 k.q,.bool k.f]):=hw8▸HH7.out.put 0 _
        have HC8:Hid (w8.ownsRow w1.heap.size 90 7 (.slice ay2 EL2.length cy2) EL2.length (yvz EL2)):=owN HC7.out ht8 HH7.out
        have HX8:=yxm (HX7.out.turns ht8 (fun e=>zgx HX7.out HH7.out (by decide) e))
        have HT8:Hid (w8.ownsRow w1.heap.size 166 3 (.slice axj TLj.length cxj) TLj.length (ywm TLj)):=owN HT7.out ht8 HH7.out
        have HY8:Hid (w8.ownsRow w5.heap.size 172 12 (.slice (some ⟨g,0,none⟩) L.length yc) L.length (yxp L)):=owN HY7.out ht8 HH7.out
        have HB8:=yxm (HB7.out.trans (ht8.to_below (fun b e=>by omega) HB7.out.size))
        have HS11:=yxm (HX11.out.srcX.below (trm HB1.out HB8.out))
        have HQX:Hid (q.x.length≤8):=zjn HKK.out (by
          rw [←HCL.out,←HQ.out]
          have h9:=zfj (l:=psOf L) (j:=j) (by rw [yyi];exact hlt)
          exact List.mem_of_getElem? h9)
        rw [hw8]
        clear hw8 ht8 k0 kf HH7 HC7 HX7 HT7 HY7 HB7
        obtain⟨ip,hip,hip0,hip1,hip2⟩:=info_parts zfp
        have k1:=HH8.out.cell (i:=1) rfl
        have x11:=HX8.out.cell (i:=11) rfl
        go_upto_region 11 with (at_builtin;refine ywg _ rfl _ _ 39 rfl w1.heap.size 166 ip _ 3 24 Tryz.underlying39 hip hip0 hip1 hip2 rfl (by decide) (.slice axj TLj.length cxj) TLj.length (ywm TLj) rfl HT8.out (.slice a11 q.x.length c11) q.x.length (ywm q.x) rfl HS11.out (yyz q.x) (by unfold maxLen;have h9:=HTLL.out;have h8:=HQX.out;omega) (by have h9:=HTLL.out;have h8:=HQX.out;omega) HB8.out.size ?_;rintro v4 w9 hown hgrow-;obtain⟨ax2,cx2,rfl⟩:=yfm hown;obtain⟨TL2,hTL2⟩:∃E,TLj++q.x=E:=⟨_,rfl⟩;have HTL2:=hdq hTL2;have hnl:TLj.length+q.x.length=TL2.length:=(by rw [←hTL2,List.length_append]);rw [hnl];have HT9:Hid (w9.ownsRow w1.heap.size 166 3 (.slice ax2 TL2.length cx2) TL2.length (ywm TL2)):=(by rw [←hTL2,List.length_append,zb6];exact hown);have hgt:=yw9 hgrow;have HH9:=hdq (HH8.out.turns hgt (ywp HT8.out HH8.out (by decide)));have HC9:Hid (w9.ownsRow w1.heap.size 90 7 (.slice ay2 EL2.length cy2) EL2.length (yvz EL2)):=ypa HC8.out hgt (fun j hj e=>zdh HT8.out HC8.out (by decide) e hj);have HY9:Hid (w9.ownsRow w5.heap.size 172 12 (.slice (some ⟨g,0,none⟩) L.length yc) L.length (yxp L)):=ypa HY8.out hgt (fun j hj e=>zdh HT8.out HY8.out (by decide) e hj);have HB9:Hid (Below w1.heap.size w1 w9):=HB8.out.grown hgrow HB8.out.size (fun q e=>yx4 HT8.out e);clear hown hgrow hgt hTL2 hnl k1 x11 HH8 HC8 HX8 HT8 HY8 HB8 HS11 hip hip0 hip1 hip2;have k1:=HH9.out.cell (i:=1) rfl;have kf:=HH9.out.free)
        obtain⟨w10,hw10⟩:∃X,w9.setCell ⟨Hb,1,none⟩ (.slice ax2 TL2.length cx2)=X:=⟨_,rfl⟩
        have ht10:Turns (fun j=>j=Hb) w9 w10:=hw10▸yag _ _ 1 _
        have HH10:Hid (Bk w10 Hb 86 #[.slice ay2 EL2.length cy2,.slice ax2 TL2.length cx2,.int .i64 k.q,.bool k.f]):=hw10▸HH9.out.put 1 _
        have HC10:Hid (w10.ownsRow w1.heap.size 90 7 (.slice ay2 EL2.length cy2) EL2.length (yvz EL2)):=owN HC9.out ht10 HH9.out
        have HT10:Hid (w10.ownsRow w1.heap.size 166 3 (.slice ax2 TL2.length cx2) TL2.length (ywm TL2)):=owN HT9.out ht10 HH9.out
        have HY10:Hid (w10.ownsRow w5.heap.size 172 12 (.slice (some ⟨g,0,none⟩) L.length yc) L.length (yxp L)):=owN HY9.out ht10 HH9.out
        have HB10:=yxm (HB9.out.trans (ht10.to_below (fun b e=>by omega) HB9.out.size))
        rw [hw10]
        clear hw10 ht10 k1 kf HH9 HC9 HT9 HY9 HB9
        go_wp2
        go_roundw
        case rel=>
          have hsn:(psOf L).take (j+1)=(psOf L).take j++ [q]:=by rw [zff (by rw [yyi];exact hlt),HQ.out]
          refine⟨j+1,by omega,by go_num,⟨HY10.out,⟨ay2,cy2,ax2,cx2,?_,?_,?_⟩,HB10.out⟩⟩
          · rw [hsn,zbs,HELj.out,HEL2.out,zcq,HTLj.out,HTL2.out]
            exact HH10.out
          · rw [hsn,zbs,HELj.out,HEL2.out]
            exact HC10.out
          · rw [hsn,zcq,HTLj.out,HTL2.out]
            exact HT10.out
        case measure=>simp [intOf];omega
      · obtain rfl:L.length=j:=by omega
        have HEND:Hid ((psOf L).take L.length=comL k):=by
          show _=_
          rw [←HCL.out,←yyi,List.take_length]
        rw [HEND.out]at HELj HTLj
        have HRj:=yxm (HR1.out.below HBj.out)
        obtain⟨h0,h1,h2,h3⟩:=c4_4 HHj.out
        obtain⟨r0,r1,r2,r3⟩:=c4_4 HRj.out
        have rf:=HRj.out.free
        go_wp2
        clear r0 r1 r2 r3 rf
        obtain⟨X,hX⟩:∃X,putH wr Rb (.slice ayj ELj.length cyj) (.slice axj TLj.length cxj) (.int .i64 k.q) (.bool k.f)=X:=⟨_,rfl⟩
        have ht:=za6 wr Rb (.slice ayj ELj.length cyj) (.slice axj TLj.length cxj) (.int .i64 k.q) (.bool k.f)
        have hk:=HRj.out.putH (.slice ayj ELj.length cyj) (.slice axj TLj.length cxj) (.int .i64 k.q) (.bool k.f)
        rw [hX]at ht hk
        unfold putH at hX
        rw [hX]
        obtain⟨t0,t1,t2,t3⟩:=c4_4 hk
        refine bodyPost_ret (v:= .tuple #[.agg #[.slice ayj ELj.length cyj,.slice axj TLj.length cxj,.int .i64 k.q,.bool k.f],.bool true]) (by simp [results,Tryz.results46,go_sem,t0,t1,t2,t3]) rfl ?_
        rw [HA.out,HELj.out,HTLj.out,HKK.out]
        refine⟨_,rfl,?_,(trm HB1.out HBj.out).trans (ht.to_below (fun b e=>by omega) (Nat.le_trans HB1.out.size HBj.out.size))⟩
        exact hi_of (yw0 (owN HCj.out ht HRj.out) HB1.out.size) (yw0 (owN HXj.out ht HRj.out) HB1.out.size)
end Go.Proofs.YtghndljgadpijaaGreat
