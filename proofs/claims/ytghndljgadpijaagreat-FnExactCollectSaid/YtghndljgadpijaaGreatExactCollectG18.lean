/- PCp, PCq, PTd, CmP, SIp, SrQ, NCm, SoE -/
import Derived.Test.YtghndljgadpijaaGreatExactCollectG01
import Derived.Test.YtghndljgadpijaaGreatExactCollectG17
import Derived.Deep.RegionHeld3
import Derived.Test.YtghndljgadpijaaGreatExactCollectG04
import Derived.Test.YtghndljgadpijaaGreatRows
import Derived.Shelf.SlSortCmp.WholeK
import Derived.Test.YtghndljgadpijaaGreatExactCollectG12
import Derived.Test.YtghndljgadpijaaGreatExactCollectG13
import Derived.Sort.Statements
import Derived.Sort.Grow
import Derived.Deep.Draws
/- The program's copy of what was done: all of it in memory of its own. -/
namespace Go.Proofs.YtghndljgadpijaaGreat
open Go.RowKit
theorem zeb {P:Program} {md:Region.Mode} {ops:Array Oper} {Q:Exit→Act→World→Prop} {S:World→Prop} {fuel:Nat} {listed:Array Bool} {a:Act} {w:World} (i:Nat) (oi:Oper) (v:Value)
  (h:wpAnyH P md ops Q S fuel (listed.setIfInBounds i true) (a.put oi.dst v) w) (hi:ops[i]? =some oi:=by rfl)
  (hs:Region.noSelect ops=true:=by kernel_rfl) (hf:Region.free md ops listed i=true:=by kernel_rfl) (hr:(Region.ready md ops listed).contains i=true:=by kernel_rfl)
  (hQ:∀c a w,Q (.panic c) (a.put oi.dst v) w→Q (.panic c) a w:=by exact fun _ _ _ h=>h)
  (hy:YieldsIf P ops S oi v a:=by exact Or.inl ⟨by rfl,by(intro wX hSw;(try dsimp only at hSw);go_simp;(try exact IntWalk.i64_in _ (by omega)))⟩) (hS:S w:=by assumption):wpAnyH P md ops Q S (fuel+1) listed a w:=
  wpAnyH_take hi hs hf hr hQ hy hS h
theorem yxw {p:Prop} (h:p):Hid p:=h
set_option maxRecDepth 100000 in
set_option maxHeartbeats 16000000 in
theorem zgs (x:Value) (l:List Ps) (w:World) (hw:(yw3 l).wt≤1048577) (h:IsD w x (yw3 l)):
    Calls Tryz.prog 128 #[x] w fun r w'=>∃y,r= .returned y∧Below w.heap.size w w'∧OwnD w' (fun k=>w.heap.size≤k∧k<w'.heap.size) y (yw3 l):=by
  obtain⟨a4,c4,rfl,_⟩:=IsD.len h
  have hl9:l.length≤1048577:=by
    have:=yxh l
    omega
  have HWT:=yxw hw
  have HD:=yxw h
  obtain⟨ip,hip,hip0,hip1,hip2⟩:=info_parts zes
  clear hw h
  go_enter Tryz.func128,Tryz.ntmps128
  go_wp2
  go_loopw [3,5,8] (fun o3 u5 i wr=>∃(k:Nat) (vp:Value) (cs:List Value) (G:Nat→Nat→Prop),k≤l.length∧vp=o3∧i= .int .i64 k∧GrowD w.heap.size 172 wr vp 12 k cs (ydq l) G∧Below w.heap.size w wr) (fun _ _ i _=>l.length-(intOf i).toNat)
  case atStart=>exact⟨0,_,[],fun _ _=>False,Nat.zero_le _,rfl,rfl,GrowD.nil _ _ _ _ _ _,Below.refl _ _⟩
  case round=>
    obtain⟨k,vp,cs,G,hk,rfl,rfl,hG,hB⟩:=hrel
    obtain⟨ap,cp,hvp⟩:=yfm hG.row
    subst hvp
    have HG:=yxw hG
    have HBr:=yxw hB
    have hzr:w.heap.size≤wr.heap.size:=hB.size
    have HV:Hid (∀b,(.slice ap k cp:Value).ownBlock=some b→b<wr.heap.size):=fun b e=>owns_lt hG.row e
    clear hG hB
    by_cases hlt:k<l.length
    · have hki:(k:Int)<(l.length:Int):=by omega
      have hD4:=HD.out.under HBr.out
      obtain⟨a4',cap4,he4,_,_,h4⟩:=IsD.parts (c:=12) (n:=l.length) hD4
      have h4':=h4.resolve_left (by omega)
      obtain⟨b,off,ha4,hb4,hc4⟩:=h4'
      obtain⟨rfl,rfl⟩:a4=a4'∧c4=cap4:=by simpa using he4
      subst ha4
      obtain⟨u7,u10,u11,f0,f1,f2,f3,f4,f5,f6,f7c,f8,f9,f10c,f11c,d7,d10,d11⟩:=yya hc4 hlt
      obtain⟨f7,g7,rfl,_⟩:=IsD.len d7
      obtain⟨f10,g10,rfl,_⟩:=IsD.len d10
      obtain⟨f11,g11,rfl,_⟩:=IsD.len d11
      have hqs:(psAt l k).s.length≤1048577∧(psAt l k).x.length≤1048577∧(psAt l k).b.r.length≤1048577:=by
        have e0:=ywf (psAt l k).b.r
        have e1:=Ps.wt_le hlt
        have e2:=yx0 (psAt l k).s
        have e3:=yy3 (psAt l k).x
        have e4:=HWT.out
        unfold Ps.wt at e1
        omega
      obtain⟨hqs1,hqx1,hqr1⟩:=hqs
      obtain⟨V0,hV0⟩:∃V,wr.alloc (.cells #[.int .i64 (psAt l k).e.t,.int .i64 (psAt l k).e.s,.int .i64 (psAt l k).e.q,.int .i64 (psAt l k).e.d,.int .i64 (psAt l k).e.k,.int .i64 (psAt l k).e.v,.int .i64 (psAt l k).e.g,.slice f7 (psAt l k).b.r.length g7,.int .i64 (psAt l k).b.q,.int .i64 (psAt l k).b.d,.slice f10 (psAt l k).s.length g10,.slice f11 (psAt l k).x.length g11] 172)=V:=⟨_,rfl⟩
      have HV0:=yxw hV0
      have hbv:=beA hV0
      obtain⟨Eb,hEb⟩:∃g,g=wr.heap.size:=⟨_,rfl⟩
      have HEb:Hid (Eb=wr.heap.size):=hEb
      have XE:Hid (Bk V0 Eb 172 #[.int .i64 (psAt l k).e.t,.int .i64 (psAt l k).e.s,.int .i64 (psAt l k).e.q,.int .i64 (psAt l k).e.d,.int .i64 (psAt l k).e.k,.int .i64 (psAt l k).e.v,.int .i64 (psAt l k).e.g,.slice f7 (psAt l k).b.r.length g7,.int .i64 (psAt l k).b.q,.int .i64 (psAt l k).b.d,.slice f10 (psAt l k).s.length g10,.slice f11 (psAt l k).x.length g11]):=hV0▸hEb▸Bk.new wr _ _
      have GV:=yxw (HG.out.below hbv)
      have D7V:=yxw (d7.under hbv)
      have D10V:=yxw (d10.under hbv)
      have D11V:=yxw (d11.under hbv)
      have BV:=yxw (HBr.out.trans (hbv.mono hzr))
      have hEl:Eb<V0.heap.size:=XE.out.lt
      have hEy:wr.heap.size≤Eb∧Eb≤wr.heap.size:=by omega
      have HVE:Hid (∀b,(.slice ap k cp:Value).ownBlock=some b→b<Eb∧w.heap.size≤b):=fun b e=>⟨by have:=HV.out b e;omega,yx4 HG.out.row e⟩
      clear hV0 hEb hbv d7 d10 d11 hD4 h4 hc4 he4 HG HV
      go_wp2_with fail
      rw [HV0.out,←HEb.out]
      clear HV0 HEb f0 f1 f2 f3 f4 f5 f6 f7c f8 f9 f10c f11c
      have hzv:V0.drew.heap.size≤V0.heap.size∧V0.heap.size≤V0.drew.heap.size:=⟨Nat.le_refl _,Nat.le_refl _⟩
      have B_1:Hid (Below V0.heap.size V0 V0.drew):=(Below.refl _ V0).drew
      have X_1:=yxw XE.out.drew
      have D7_1:=yxw (D7V.out.under (Below.refl _ V0).drew)
      have D10_1:=yxw (D10V.out.under (Below.refl _ V0).drew)
      have D11_1:=yxw (D11V.out.under (Below.refl _ V0).drew)
      have Q_1:Hid (V0.drew.cell? ⟨Eb,0,none⟩=some (.int .i64 (psAt l k).e.t)∧V0.drew.cell? ⟨Eb,1,none⟩=some (.int .i64 (psAt l k).e.s)∧V0.drew.cell? ⟨Eb,2,none⟩=some (.int .i64 (psAt l k).e.q)∧V0.drew.cell? ⟨Eb,3,none⟩=some (.int .i64 (psAt l k).e.d)∧V0.drew.cell? ⟨Eb,4,none⟩=some (.int .i64 (psAt l k).e.k)∧V0.drew.cell? ⟨Eb,5,none⟩=some (.int .i64 (psAt l k).e.v)∧V0.drew.cell? ⟨Eb,6,none⟩=some (.int .i64 (psAt l k).e.g)∧V0.drew.cell? ⟨Eb,7,none⟩=some (.slice f7 (psAt l k).b.r.length g7)∧V0.drew.cell? ⟨Eb,8,none⟩=some (.int .i64 (psAt l k).b.q)∧V0.drew.cell? ⟨Eb,9,none⟩=some (.int .i64 (psAt l k).b.d)∧V0.drew.cell? ⟨Eb,10,none⟩=some (.slice f10 (psAt l k).s.length g10)∧V0.drew.cell? ⟨Eb,11,none⟩=some (.slice f11 (psAt l k).x.length g11)):=⟨X_1.out.cell rfl,X_1.out.cell rfl,X_1.out.cell rfl,X_1.out.cell rfl,X_1.out.cell rfl,X_1.out.cell rfl,X_1.out.cell rfl,X_1.out.cell rfl,X_1.out.cell rfl,X_1.out.cell rfl,X_1.out.cell rfl,X_1.out.cell rfl⟩
      clear XE D7V D10V D11V
      refine wp_region_held_drew (S:=fun W=>W.cell? ⟨Eb,0,none⟩=some (.int .i64 (psAt l k).e.t)∧W.cell? ⟨Eb,1,none⟩=some (.int .i64 (psAt l k).e.s)∧W.cell? ⟨Eb,2,none⟩=some (.int .i64 (psAt l k).e.q)∧W.cell? ⟨Eb,3,none⟩=some (.int .i64 (psAt l k).e.d)∧W.cell? ⟨Eb,4,none⟩=some (.int .i64 (psAt l k).e.k)∧W.cell? ⟨Eb,5,none⟩=some (.int .i64 (psAt l k).e.v)∧W.cell? ⟨Eb,6,none⟩=some (.int .i64 (psAt l k).e.g)∧W.cell? ⟨Eb,7,none⟩=some (.slice f7 (psAt l k).b.r.length g7)∧W.cell? ⟨Eb,8,none⟩=some (.int .i64 (psAt l k).b.q)∧W.cell? ⟨Eb,9,none⟩=some (.int .i64 (psAt l k).b.d)∧W.cell? ⟨Eb,10,none⟩=some (.slice f10 (psAt l k).s.length g10)∧W.cell? ⟨Eb,11,none⟩=some (.slice f11 (psAt l k).x.length g11)) (by kernel_rfl) Q_1.out (fun hHeld=> ?_)
      refine zeb 0 {dst:=some 12,op:=Op.move (Operand.tmp 3),type:=95,pos:=_,after:=_,guard:=none} (.slice ap k cp) ?_
      try simp only [Act.put,q1,q2,q3]
      refine zeb 1 {dst:=some 13,op:=Op.fieldAddr 172 (Operand.tmp 5) 0,type:=0,pos:=_,after:=_,guard:=none} (.pointer (some ⟨Eb,0,none⟩)) ?_
      try simp only [Act.put,q1,q2,q3]
      refine zeb 2 {dst:=some 14,op:=Op.load 90 (Operand.tmp 13),type:=90,pos:=_,after:=_,guard:=none} (.agg #[.int .i64 (psAt l k).e.t,.int .i64 (psAt l k).e.s,.int .i64 (psAt l k).e.q,.int .i64 (psAt l k).e.d,.int .i64 (psAt l k).e.k,.int .i64 (psAt l k).e.v,.int .i64 (psAt l k).e.g]) ?_
      try simp only [Act.put,q1,q2,q3]
      refine zeb 3 {dst:=some 15,op:=Op.fieldAddr 172 (Operand.tmp 5) 1,type:=0,pos:=_,after:=_,guard:=none} (.pointer (some ⟨Eb,7,none⟩)) ?_
      try simp only [Act.put,q1,q2,q3]
      refine zeb 4 {dst:=some 16,op:=Op.load 94 (Operand.tmp 15),type:=94,pos:=_,after:=_,guard:=none} (.agg #[.slice f7 (psAt l k).b.r.length g7,.int .i64 (psAt l k).b.q,.int .i64 (psAt l k).b.d]) ?_
      try simp only [Act.put,q1,q2,q3]
      refine zeb 6 {dst:=some 18,op:=Op.fieldAddr 172 (Operand.tmp 5) 2,type:=0,pos:=_,after:=_,guard:=none} (.pointer (some ⟨Eb,10,none⟩)) ?_
      try simp only [Act.put,q1,q2,q3]
      refine zeb 7 {dst:=some 19,op:=Op.load 34 (Operand.tmp 18),type:=34,pos:=_,after:=_,guard:=none} (.slice f10 (psAt l k).s.length g10) ?_
      try simp only [Act.put,q1,q2,q3]
      refine zeb 9 {dst:=some 21,op:=Op.fieldAddr 172 (Operand.tmp 5) 3,type:=0,pos:=_,after:=_,guard:=none} (.pointer (some ⟨Eb,11,none⟩)) ?_
      try simp only [Act.put,q1,q2,q3]
      refine zeb 10 {dst:=some 22,op:=Op.load 39 (Operand.tmp 21),type:=39,pos:=_,after:=_,guard:=none} (.slice f11 (psAt l k).x.length g11) ?_
      try simp only [Act.put,q1,q2,q3]
      refine wpAnyH_ready (rs:= [5]) (by kernel_rfl) (by simp) ?_
      refine AllReadyH.cons rfl (fun K hK=> ?_) AllReadyH.nil
      have hbs2:V0.heap.size≤V0.drew.heap.size:=B_1.out.size
      go_simp
      refine(zk8 _ _ (psAt l k).b V0.drew hqr1 rfl D7_1.out).mono ?_
      rintro e w2 ⟨vs1,rfl,hown,hb⟩
      obtain⟨as1,cs1,hvs⟩:=yfm hown
      subst hvs
      have HLS:=yxw (yxz hown)
      have hz2:V0.drew.heap.size≤w2.heap.size:=hb.size
      have B_3:=trh B_1 hb
      have X_3:=yxw (X_1.out.below hb)
      have D10_3:=yxw (D10_1.out.under hb)
      have D11_3:=yxw (D11_1.out.under hb)
      clear B_1 X_1 D7_1 D10_1 D11_1
      have S_3:=yxw (yw0 hown hbs2)
      clear hown hb
      have Q_3:Hid (w2.cell? ⟨Eb,0,none⟩=some (.int .i64 (psAt l k).e.t)∧w2.cell? ⟨Eb,1,none⟩=some (.int .i64 (psAt l k).e.s)∧w2.cell? ⟨Eb,2,none⟩=some (.int .i64 (psAt l k).e.q)∧w2.cell? ⟨Eb,3,none⟩=some (.int .i64 (psAt l k).e.d)∧w2.cell? ⟨Eb,4,none⟩=some (.int .i64 (psAt l k).e.k)∧w2.cell? ⟨Eb,5,none⟩=some (.int .i64 (psAt l k).e.v)∧w2.cell? ⟨Eb,6,none⟩=some (.int .i64 (psAt l k).e.g)∧w2.cell? ⟨Eb,7,none⟩=some (.slice f7 (psAt l k).b.r.length g7)∧w2.cell? ⟨Eb,8,none⟩=some (.int .i64 (psAt l k).b.q)∧w2.cell? ⟨Eb,9,none⟩=some (.int .i64 (psAt l k).b.d)∧w2.cell? ⟨Eb,10,none⟩=some (.slice f10 (psAt l k).s.length g10)∧w2.cell? ⟨Eb,11,none⟩=some (.slice f11 (psAt l k).x.length g11)):=⟨X_3.out.cell rfl,X_3.out.cell rfl,X_3.out.cell rfl,X_3.out.cell rfl,X_3.out.cell rfl,X_3.out.cell rfl,X_3.out.cell rfl,X_3.out.cell rfl,X_3.out.cell rfl,X_3.out.cell rfl,X_3.out.cell rfl,X_3.out.cell rfl⟩
      refine hK.out _ _ Q_3.out (fun hHeld=> ?_)
      clear hK K
      try simp only [Act.put,q1,q2,q3]
      refine wpAnyH_ready (rs:= [8]) (by kernel_rfl) (by simp) ?_
      refine AllReadyH.cons rfl (fun K hK=> ?_) AllReadyH.nil
      have hbs4:V0.heap.size≤w2.heap.size:=B_3.out.size
      go_simp
      refine(yzb _ (psAt l k).s w2 hqs1 D10_3.out.srcEv).mono ?_
      rintro e w4 ⟨vs1,rfl,hown,hb⟩
      obtain⟨at1,ct1,hvs⟩:=yfm hown
      subst hvs
      have HLT:=yxw (yxz hown)
      have hz4:w2.heap.size≤w4.heap.size:=hb.size
      have B_5:=trh B_3 hb
      have X_5:=yxw (X_3.out.below hb)
      have D11_5:=yxw (D11_3.out.under hb)
      have S_5:=yxw (ypa S_3.out (Turns.of_below hb) (fun _ _=>id))
      clear B_3 X_3 D10_3 D11_3 S_3
      have T_5:=yxw (yw0 hown hbs4)
      clear hown hb
      have Q_5:Hid (w4.cell? ⟨Eb,0,none⟩=some (.int .i64 (psAt l k).e.t)∧w4.cell? ⟨Eb,1,none⟩=some (.int .i64 (psAt l k).e.s)∧w4.cell? ⟨Eb,2,none⟩=some (.int .i64 (psAt l k).e.q)∧w4.cell? ⟨Eb,3,none⟩=some (.int .i64 (psAt l k).e.d)∧w4.cell? ⟨Eb,4,none⟩=some (.int .i64 (psAt l k).e.k)∧w4.cell? ⟨Eb,5,none⟩=some (.int .i64 (psAt l k).e.v)∧w4.cell? ⟨Eb,6,none⟩=some (.int .i64 (psAt l k).e.g)∧w4.cell? ⟨Eb,7,none⟩=some (.slice f7 (psAt l k).b.r.length g7)∧w4.cell? ⟨Eb,8,none⟩=some (.int .i64 (psAt l k).b.q)∧w4.cell? ⟨Eb,9,none⟩=some (.int .i64 (psAt l k).b.d)∧w4.cell? ⟨Eb,10,none⟩=some (.slice f10 (psAt l k).s.length g10)∧w4.cell? ⟨Eb,11,none⟩=some (.slice f11 (psAt l k).x.length g11)):=⟨X_5.out.cell rfl,X_5.out.cell rfl,X_5.out.cell rfl,X_5.out.cell rfl,X_5.out.cell rfl,X_5.out.cell rfl,X_5.out.cell rfl,X_5.out.cell rfl,X_5.out.cell rfl,X_5.out.cell rfl,X_5.out.cell rfl,X_5.out.cell rfl⟩
      refine hK.out _ _ Q_5.out (fun hHeld=> ?_)
      clear hK K
      try simp only [Act.put,q1,q2,q3]
      refine wpAnyH_ready (rs:= [11]) (by kernel_rfl) (by simp) ?_
      refine AllReadyH.cons rfl (fun K hK=> ?_) AllReadyH.nil
      have hbs6:V0.heap.size≤w4.heap.size:=B_5.out.size
      go_simp
      refine(zc2 _ (psAt l k).x w4 hqx1 D11_5.out.srcX).mono ?_
      rintro e w6 ⟨vs1,rfl,hown,hb⟩
      obtain⟨av1,cv1,hvs⟩:=yfm hown
      subst hvs
      have HLA:=yxw (yxz hown)
      have hz6:w4.heap.size≤w6.heap.size:=hb.size
      have B_7:=trh B_5 hb
      have X_7:=yxw (X_5.out.below hb)
      have S_7:=yxw (ypa S_5.out (Turns.of_below hb) (fun _ _=>id))
      have T_7:=yxw (ypa T_5.out (Turns.of_below hb) (fun _ _=>id))
      clear B_5 X_5 D11_5 S_5 T_5
      have A_7:=yxw (yw0 hown hbs6)
      clear hown hb
      have Q_7:Hid (w6.cell? ⟨Eb,0,none⟩=some (.int .i64 (psAt l k).e.t)∧w6.cell? ⟨Eb,1,none⟩=some (.int .i64 (psAt l k).e.s)∧w6.cell? ⟨Eb,2,none⟩=some (.int .i64 (psAt l k).e.q)∧w6.cell? ⟨Eb,3,none⟩=some (.int .i64 (psAt l k).e.d)∧w6.cell? ⟨Eb,4,none⟩=some (.int .i64 (psAt l k).e.k)∧w6.cell? ⟨Eb,5,none⟩=some (.int .i64 (psAt l k).e.v)∧w6.cell? ⟨Eb,6,none⟩=some (.int .i64 (psAt l k).e.g)∧w6.cell? ⟨Eb,7,none⟩=some (.slice f7 (psAt l k).b.r.length g7)∧w6.cell? ⟨Eb,8,none⟩=some (.int .i64 (psAt l k).b.q)∧w6.cell? ⟨Eb,9,none⟩=some (.int .i64 (psAt l k).b.d)∧w6.cell? ⟨Eb,10,none⟩=some (.slice f10 (psAt l k).s.length g10)∧w6.cell? ⟨Eb,11,none⟩=some (.slice f11 (psAt l k).x.length g11)):=⟨X_7.out.cell rfl,X_7.out.cell rfl,X_7.out.cell rfl,X_7.out.cell rfl,X_7.out.cell rfl,X_7.out.cell rfl,X_7.out.cell rfl,X_7.out.cell rfl,X_7.out.cell rfl,X_7.out.cell rfl,X_7.out.cell rfl,X_7.out.cell rfl⟩
      refine hK.out _ _ Q_7.out (fun hHeld=> ?_)
      clear hK K
      try simp only [Act.put,q1,q2,q3]
      refine zeb 12 {dst:=some 24,op:=Op.build 172 #[(0,Operand.tmp 14),(1,Operand.tmp 17),(2,Operand.tmp 20),(3,Operand.tmp 23)],type:=172,pos:=_,after:=_,guard:=none} (.agg #[.int .i64 (psAt l k).e.t,.int .i64 (psAt l k).e.s,.int .i64 (psAt l k).e.q,.int .i64 (psAt l k).e.d,.int .i64 (psAt l k).e.k,.int .i64 (psAt l k).e.v,.int .i64 (psAt l k).e.g,.slice as1 (psAt l k).b.r.length cs1,.int .i64 (psAt l k).b.q,.int .i64 (psAt l k).b.d,.slice at1 (psAt l k).s.length ct1,.slice av1 (psAt l k).x.length cv1]) ?_
      try simp only [Act.put,q1,q2,q3]
      refine wpAnyH_ready (rs:= [13]) (by kernel_rfl) (by simp) ?_
      refine AllReadyH.cons rfl (fun K hK=> ?_) AllReadyH.nil
      obtain⟨Nb,hNb⟩:∃g,g=w6.heap.size:=⟨_,rfl⟩
      obtain⟨w8,hw8⟩:∃V,w6.alloc (.cells #[.int .i64 (psAt l k).e.t,.int .i64 (psAt l k).e.s,.int .i64 (psAt l k).e.q,.int .i64 (psAt l k).e.d,.int .i64 (psAt l k).e.k,.int .i64 (psAt l k).e.v,.int .i64 (psAt l k).e.g,.slice as1 (psAt l k).b.r.length cs1,.int .i64 (psAt l k).b.q,.int .i64 (psAt l k).b.d,.slice at1 (psAt l k).s.length ct1,.slice av1 (psAt l k).x.length cv1] 172)=V:=⟨_,rfl⟩
      have HW8:=yxw hw8
      have HNb:Hid (Nb=w6.heap.size):=hNb
      have hs8:V0.heap.size≤w6.heap.size:=B_7.out.size
      have B_9:Hid (Below V0.heap.size V0 w8):=by(rw [←hw8];exact B_7.out.alloc B_7.out.size _)
      have X_9:Hid (Bk w8 Eb 172 #[.int .i64 (psAt l k).e.t,.int .i64 (psAt l k).e.s,.int .i64 (psAt l k).e.q,.int .i64 (psAt l k).e.d,.int .i64 (psAt l k).e.k,.int .i64 (psAt l k).e.v,.int .i64 (psAt l k).e.g,.slice f7 (psAt l k).b.r.length g7,.int .i64 (psAt l k).b.q,.int .i64 (psAt l k).b.d,.slice f10 (psAt l k).s.length g10,.slice f11 (psAt l k).x.length g11]):=by(rw [←hw8];exact X_7.out.alloc _)
      have S_9:Hid (w8.ownsRow V0.heap.size 3 1 (.slice as1 (psAt l k).b.r.length cs1) (psAt l k).b.r.length (intCells (psAt l k).b.r)):=by(rw [←hw8];exact S_7.out.alloc _)
      have T_9:Hid (w8.ownsRow V0.heap.size 90 7 (.slice at1 (psAt l k).s.length ct1) (psAt l k).s.length (yvz (psAt l k).s)):=by(rw [←hw8];exact T_7.out.alloc _)
      have A_9:Hid (w8.ownsRow V0.heap.size 166 3 (.slice av1 (psAt l k).x.length cv1) (psAt l k).x.length (ywm (psAt l k).x)):=by(rw [←hw8];exact A_7.out.alloc _)
      clear B_7 X_7 S_7 T_7 A_7
      have NB_9:Hid (Bk w8 Nb 172 #[.int .i64 (psAt l k).e.t,.int .i64 (psAt l k).e.s,.int .i64 (psAt l k).e.q,.int .i64 (psAt l k).e.d,.int .i64 (psAt l k).e.k,.int .i64 (psAt l k).e.v,.int .i64 (psAt l k).e.g,.slice as1 (psAt l k).b.r.length cs1,.int .i64 (psAt l k).b.q,.int .i64 (psAt l k).b.d,.slice at1 (psAt l k).s.length ct1,.slice av1 (psAt l k).x.length cv1]):=by(rw [←hw8];exact hNb▸Bk.new w6 _ _)
      have hz8:Nb<w8.heap.size:=NB_9.out.lt
      have hzy8:w6.heap.size≤Nb∧Nb≤w6.heap.size:=by omega
      clear hw8 hNb
      go_simp
      rw [HW8.out,←HNb.out]
      have Q_9:Hid (w8.cell? ⟨Eb,0,none⟩=some (.int .i64 (psAt l k).e.t)∧w8.cell? ⟨Eb,1,none⟩=some (.int .i64 (psAt l k).e.s)∧w8.cell? ⟨Eb,2,none⟩=some (.int .i64 (psAt l k).e.q)∧w8.cell? ⟨Eb,3,none⟩=some (.int .i64 (psAt l k).e.d)∧w8.cell? ⟨Eb,4,none⟩=some (.int .i64 (psAt l k).e.k)∧w8.cell? ⟨Eb,5,none⟩=some (.int .i64 (psAt l k).e.v)∧w8.cell? ⟨Eb,6,none⟩=some (.int .i64 (psAt l k).e.g)∧w8.cell? ⟨Eb,7,none⟩=some (.slice f7 (psAt l k).b.r.length g7)∧w8.cell? ⟨Eb,8,none⟩=some (.int .i64 (psAt l k).b.q)∧w8.cell? ⟨Eb,9,none⟩=some (.int .i64 (psAt l k).b.d)∧w8.cell? ⟨Eb,10,none⟩=some (.slice f10 (psAt l k).s.length g10)∧w8.cell? ⟨Eb,11,none⟩=some (.slice f11 (psAt l k).x.length g11)):=⟨X_9.out.cell rfl,X_9.out.cell rfl,X_9.out.cell rfl,X_9.out.cell rfl,X_9.out.cell rfl,X_9.out.cell rfl,X_9.out.cell rfl,X_9.out.cell rfl,X_9.out.cell rfl,X_9.out.cell rfl,X_9.out.cell rfl,X_9.out.cell rfl⟩
      refine hK.out _ _ Q_9.out (fun hHeld=> ?_)
      clear hK K
      try simp only [Act.put,q1,q2,q3]
      refine wpAnyH_ready (rs:= [14]) (by kernel_rfl) (by simp) ?_
      refine AllReadyH.cons rfl (fun K hK=> ?_) AllReadyH.nil
      have hbs10:V0.heap.size≤w8.heap.size:=B_9.out.size
      refine yym (w:=w8) rfl (.tmp 12) (.tmp 25) 95 rfl w.heap.size 172 ip _ 12 144 Tryz.underlying95 hip hip0 hip1 hip2 rfl (by decide) (.slice ap k cp) k cs rfl (GV.out.below B_9.out).row ⟨Nb,0,none⟩ 1 1 (pastL (psAt l k) (.slice as1 (psAt l k).b.r.length cs1) (.slice at1 (psAt l k).s.length ct1) (.slice av1 (psAt l k).x.length cv1)) rfl rfl NB_9.out.src (by simp [pastL,Value.oneCell']) (by unfold maxLen;omega) (by omega) (by omega) ?_
      intro vn w10 hown hgrow hnew
      obtain⟨ap3,cp3,hvn⟩:=yfm hown
      subst hvn
      have hgt:=yw9 hgrow
      have h7:OwnD w8 (fun b=>(.slice as1 (psAt l k).b.r.length cs1:Value).ownBlock=some b) (.slice as1 (psAt l k).b.r.length cs1) (ywr (psAt l k).b.r):=(yxq (by rw [yws];omega) S_9.out).own
      have h10:OwnD w8 (fun b=>(.slice at1 (psAt l k).s.length ct1:Value).ownBlock=some b) (.slice at1 (psAt l k).s.length ct1) (evsD (psAt l k).s):=(yxq (ywc _) T_9.out).own
      have h11:OwnD w8 (fun b=>(.slice av1 (psAt l k).x.length cv1:Value).ownBlock=some b) (.slice av1 (psAt l k).x.length cv1) (emsD (psAt l k).x):=(yxq (yxd _) A_9.out).own
      have HGN:=yxw (GV.out.snocPs B_9.out (by omega) h7 h10 h11 (fun b hb=>yxz S_9.out b hb) (fun b hb=>yxz T_9.out b hb) (fun b hb=>yxz A_9.out b hb) (fun b x y=>by have:=HLS.out b x;have:=HLT.out b y;omega) (fun b x y=>by have:=HLS.out b x;have:=HLA.out b y;omega) (fun b x y=>by have:=HLT.out b x;have:=HLA.out b y;omega) hown hgrow hnew)
      have BN:=yxw ((trm BV.out B_9.out).grown hgrow (by omega) (fun b e=>(HVE.out b e).2))
      have X_11:=yxw (X_9.out.turns hgt (fun e=>by have:=HVE.out _ e;omega))
      clear B_9 X_9 S_9 T_9 A_9 NB_9
      clear hown hgrow hnew hgt h7 h10 h11
      have Q_11:Hid (w10.cell? ⟨Eb,0,none⟩=some (.int .i64 (psAt l k).e.t)∧w10.cell? ⟨Eb,1,none⟩=some (.int .i64 (psAt l k).e.s)∧w10.cell? ⟨Eb,2,none⟩=some (.int .i64 (psAt l k).e.q)∧w10.cell? ⟨Eb,3,none⟩=some (.int .i64 (psAt l k).e.d)∧w10.cell? ⟨Eb,4,none⟩=some (.int .i64 (psAt l k).e.k)∧w10.cell? ⟨Eb,5,none⟩=some (.int .i64 (psAt l k).e.v)∧w10.cell? ⟨Eb,6,none⟩=some (.int .i64 (psAt l k).e.g)∧w10.cell? ⟨Eb,7,none⟩=some (.slice f7 (psAt l k).b.r.length g7)∧w10.cell? ⟨Eb,8,none⟩=some (.int .i64 (psAt l k).b.q)∧w10.cell? ⟨Eb,9,none⟩=some (.int .i64 (psAt l k).b.d)∧w10.cell? ⟨Eb,10,none⟩=some (.slice f10 (psAt l k).s.length g10)∧w10.cell? ⟨Eb,11,none⟩=some (.slice f11 (psAt l k).x.length g11)):=⟨X_11.out.cell rfl,X_11.out.cell rfl,X_11.out.cell rfl,X_11.out.cell rfl,X_11.out.cell rfl,X_11.out.cell rfl,X_11.out.cell rfl,X_11.out.cell rfl,X_11.out.cell rfl,X_11.out.cell rfl,X_11.out.cell rfl,X_11.out.cell rfl⟩
      refine hK.out _ _ Q_11.out (fun hHeld=> ?_)
      clear hK K
      try simp only [Act.put,q1,q2,q3]
      refine zeb 15 {dst:=some 3,op:=Op.assign (Operand.tmp 26),type:=95,pos:=_,after:=_,guard:=none} (.slice ap3 (k+1) cp3) ?_
      try simp only [Act.put,q1,q2,q3]
      refine wpAnyH_done (by kernel_rfl) ?_ _
      clear hHeld
      go_wp2
      go_roundw
      case rel=>exact⟨k+1,_,_,_,by omega,rfl,by go_num,HGN.out,BN.out⟩
      case measure=>simp [intOf];omega
    · obtain rfl:k=l.length:=by omega
      clear hlt hk
      go_wp2
      go_ret
      exact⟨_,rfl,HBr.out,HG.out.ownD.mono (fun b hb=>HG.out.blocks_ge hb)⟩
theorem ze9 {P:Program} {md:Region.Mode} {ops:Array Oper} {Q:Exit→Act→World→Prop} {S:World→Prop} {z fuel:Nat} {listed:Array Bool} {a:Act} {w:World} (i:Nat) (oi:Oper) (v:Value)
  (h:yx7 P md ops Q S z fuel (listed.setIfInBounds i true) (a.put oi.dst v) w) (hi:ops[i]? =some oi:=by rfl)
  (hs:Region.noSelect ops=true:=by kernel_rfl) (hf:Region.free md ops listed i=true:=by kernel_rfl) (hr:(Region.ready md ops listed).contains i=true:=by kernel_rfl)
  (hc:yzl md ops i z [i]=true:=by kernel_rfl) (hu: [i].all (fun p=> !listed.getD p true)=true:=by kernel_rfl)
  (hQ:∀c a w,Q (.panic c) (a.put oi.dst v) w→Q (.panic c) a w:=by exact fun _ _ _ h=>h)
  (hy:YieldsIf P ops S oi v a:=by exact Or.inl ⟨by rfl,by(intro wX hSw;(try dsimp only at hSw);go_simp;(try exact IntWalk.i64_in _ (by omega)))⟩) (hS:S w:=by assumption):yx7 P md ops Q S z (fuel+1) listed a w:=
  ywe i [] hi hs hf hr hc hu hQ hy hS h
theorem yxc {p:Prop} (h:p):Hid p:=h
set_option maxRecDepth 100000 in
set_option maxHeartbeats 16000000 in
theorem zdv (x:Value) (p:Pa) (w:World) (hw:p.wt≤1048577) (h:IsPart w x p):
    Calls Tryz.prog 50 #[x] w fun r w'=>∃y,r= .returned y∧Below w.heap.size w w'∧PartF (fun k=>w.heap.size≤k∧k<w'.heap.size) w' y p:=by
  obtain⟨u1,u4,u5,u6,rfl,d1,d4,d5,d6⟩:=h
  obtain⟨a1,c1,rfl,_⟩:=IsD.len d1
  obtain⟨a4,c4,rfl,_⟩:=IsD.len d4
  obtain⟨a5,c5,rfl,_⟩:=IsD.len d5
  obtain⟨a6,c6,rfl,_⟩:=IsD.len d6
  have hwt:p.t.length≤1048577∧p.a.length≤1048577∧(yw3 p.p).wt≤1048577∧p.st.r.length≤1048577:=by
    have e0:=ywf p.st.r
    have e1:=yx0 p.t
    have e2:=ywf p.a
    unfold Pa.wt at hw
    omega
  obtain⟨ht9,ha9,hp9,hr9⟩:=hwt
  obtain⟨W0,hW0⟩:∃W0,(w.alloc (.cells #[.int .i64 p.n,.slice a1 p.st.r.length c1,.int .i64 p.st.q,.int .i64 p.st.d,.slice a4 p.p.length c4,.slice a5 p.t.length c5,.slice a6 p.a.length c6] 97)).alloc (.cells #[.int .i64 0,.slice none 0 0,.int .i64 0,.int .i64 0,.slice none 0 0,.slice none 0 0,.slice none 0 0] 97)=W0:=⟨_,rfl⟩
  have hz0:W0.heap.size=w.heap.size+1+1:=by rw [←hW0];simp
  have hb0:=beA2 hW0
  have HBw:=yxc hb0
  have HW0:=yxc hW0
  have BX:=hdq (bkA2 hW0)
  have BZ:=hdq (bkB2 hW0)
  have D1:=yxc (d1.under hb0)
  have D4:=yxc (d4.under hb0)
  have D5:=yxc (d5.under hb0)
  have D6:=yxc (d6.under hb0)
  have hz0':W0.heap.size≤w.heap.size+1+1∧w.heap.size+1+1≤W0.heap.size:=by omega
  clear hW0 hb0 d1 d4 d5 d6 hw hz0
  go_enter Tryz.func50,Tryz.ntmps50
  go_wp2_with fail
  rw [HW0.out]
  clear HW0
  have hzd:W0.drew.heap.size≤W0.heap.size∧W0.heap.size≤W0.drew.heap.size:=⟨Nat.le_refl _,Nat.le_refl _⟩
  have B_0:Hid (Below W0.heap.size W0 W0.drew):=(Below.refl _ W0).drew
  have X_0:=yxc BX.out.drew
  have Z_0:=yxc BZ.out.drew
  have D1_0:=yxc (D1.out.under (Below.refl _ W0).drew)
  have D4_0:=yxc (D4.out.under (Below.refl _ W0).drew)
  have D5_0:=yxc (D5.out.under (Below.refl _ W0).drew)
  have D6_0:=yxc (D6.out.under (Below.refl _ W0).drew)
  have Q_0:Hid (W0.drew.cell? ⟨w.heap.size,0,none⟩=some (.int .i64 p.n)∧W0.drew.cell? ⟨w.heap.size,1,none⟩=some (.slice a1 p.st.r.length c1)∧W0.drew.cell? ⟨w.heap.size,2,none⟩=some (.int .i64 p.st.q)∧W0.drew.cell? ⟨w.heap.size,3,none⟩=some (.int .i64 p.st.d)∧W0.drew.cell? ⟨w.heap.size,4,none⟩=some (.slice a4 p.p.length c4)∧W0.drew.cell? ⟨w.heap.size,5,none⟩=some (.slice a5 p.t.length c5)∧W0.drew.cell? ⟨w.heap.size,6,none⟩=some (.slice a6 p.a.length c6)):=⟨X_0.out.cell rfl,X_0.out.cell rfl,X_0.out.cell rfl,X_0.out.cell rfl,X_0.out.cell rfl,X_0.out.cell rfl,X_0.out.cell rfl⟩
  clear BX BZ D1 D4 D5 D6
  refine yx1 15 (fun W=>W.cell? ⟨w.heap.size,0,none⟩=some (.int .i64 p.n)∧W.cell? ⟨w.heap.size,1,none⟩=some (.slice a1 p.st.r.length c1)∧W.cell? ⟨w.heap.size,2,none⟩=some (.int .i64 p.st.q)∧W.cell? ⟨w.heap.size,3,none⟩=some (.int .i64 p.st.d)∧W.cell? ⟨w.heap.size,4,none⟩=some (.slice a4 p.p.length c4)∧W.cell? ⟨w.heap.size,5,none⟩=some (.slice a5 p.t.length c5)∧W.cell? ⟨w.heap.size,6,none⟩=some (.slice a6 p.a.length c6)) (by kernel_rfl) Q_0.out (fun hHeld=> ?_)
  refine ze9 0 {dst:=some 3,op:=Op.fieldAddr 97 (Operand.tmp 1) 0,type:=0,pos:=_,after:=_,guard:=none} (.pointer (some ⟨w.heap.size,0,none⟩)) ?_
  try simp only [Act.put,q1,q2,q3]
  refine ze9 1 {dst:=some 4,op:=Op.load 3 (Operand.tmp 3),type:=3,pos:=_,after:=_,guard:=none} (.int .i64 p.n) ?_
  try simp only [Act.put,q1,q2,q3]
  refine ze9 2 {dst:=some 5,op:=Op.fieldAddr 97 (Operand.tmp 1) 1,type:=0,pos:=_,after:=_,guard:=none} (.pointer (some ⟨w.heap.size,1,none⟩)) ?_
  try simp only [Act.put,q1,q2,q3]
  refine ze9 3 {dst:=some 6,op:=Op.load 94 (Operand.tmp 5),type:=94,pos:=_,after:=_,guard:=none} (.agg #[.slice a1 p.st.r.length c1,.int .i64 p.st.q,.int .i64 p.st.d]) ?_
  try simp only [Act.put,q1,q2,q3]
  refine ze9 5 {dst:=some 8,op:=Op.fieldAddr 97 (Operand.tmp 1) 2,type:=0,pos:=_,after:=_,guard:=none} (.pointer (some ⟨w.heap.size,4,none⟩)) ?_
  try simp only [Act.put,q1,q2,q3]
  refine ze9 6 {dst:=some 9,op:=Op.load 95 (Operand.tmp 8),type:=95,pos:=_,after:=_,guard:=none} (.slice a4 p.p.length c4) ?_
  try simp only [Act.put,q1,q2,q3]
  refine ze9 8 {dst:=some 11,op:=Op.fieldAddr 97 (Operand.tmp 1) 3,type:=0,pos:=_,after:=_,guard:=none} (.pointer (some ⟨w.heap.size,5,none⟩)) ?_
  try simp only [Act.put,q1,q2,q3]
  refine ze9 9 {dst:=some 12,op:=Op.load 34 (Operand.tmp 11),type:=34,pos:=_,after:=_,guard:=none} (.slice a5 p.t.length c5) ?_
  try simp only [Act.put,q1,q2,q3]
  refine ze9 11 {dst:=some 14,op:=Op.fieldAddr 97 (Operand.tmp 1) 4,type:=0,pos:=_,after:=_,guard:=none} (.pointer (some ⟨w.heap.size,6,none⟩)) ?_
  try simp only [Act.put,q1,q2,q3]
  refine ze9 12 {dst:=some 15,op:=Op.load 22 (Operand.tmp 14),type:=22,pos:=_,after:=_,guard:=none} (.slice a6 p.a.length c6) ?_
  try simp only [Act.put,q1,q2,q3]
  refine yfb (rs:= [4]) (by kernel_rfl) (by simp) ?_
  refine AllReadyZ.cons rfl (fun K hK=> ?_) AllReadyZ.nil
  have hbs1:W0.heap.size≤W0.drew.heap.size:=B_0.out.size
  go_simp
  refine(zk8 _ _ p.st W0.drew hr9 rfl D1_0.out).mono ?_
  rintro e w1 ⟨vs1,rfl,hown,hb⟩
  obtain⟨as1,cs1,hvs⟩:=yfm hown
  subst hvs
  have HLS:=yxc (yxz hown)
  have hz1:W0.drew.heap.size≤w1.heap.size:=hb.size
  have B_2:=trh B_0 hb
  have X_2:=yxc (X_0.out.below hb)
  have Z_2:=yxc (Z_0.out.below hb)
  have D4_2:=yxc (D4_0.out.under hb)
  have D5_2:=yxc (D5_0.out.under hb)
  have D6_2:=yxc (D6_0.out.under hb)
  clear B_0 X_0 Z_0 D1_0 D4_0 D5_0 D6_0
  have S_2:=yxc (yw0 hown hbs1)
  clear hown hb
  have Q_2:Hid (w1.cell? ⟨w.heap.size,0,none⟩=some (.int .i64 p.n)∧w1.cell? ⟨w.heap.size,1,none⟩=some (.slice a1 p.st.r.length c1)∧w1.cell? ⟨w.heap.size,2,none⟩=some (.int .i64 p.st.q)∧w1.cell? ⟨w.heap.size,3,none⟩=some (.int .i64 p.st.d)∧w1.cell? ⟨w.heap.size,4,none⟩=some (.slice a4 p.p.length c4)∧w1.cell? ⟨w.heap.size,5,none⟩=some (.slice a5 p.t.length c5)∧w1.cell? ⟨w.heap.size,6,none⟩=some (.slice a6 p.a.length c6)):=⟨X_2.out.cell rfl,X_2.out.cell rfl,X_2.out.cell rfl,X_2.out.cell rfl,X_2.out.cell rfl,X_2.out.cell rfl,X_2.out.cell rfl⟩
  refine hK.out _ _ Q_2.out (fun hHeld=> ?_)
  clear hK K
  try simp only [Act.put,q1,q2,q3]
  refine yfb (rs:= [7]) (by kernel_rfl) (by simp) ?_
  refine AllReadyZ.cons rfl (fun K hK=> ?_) AllReadyZ.nil
  have hbs3:W0.heap.size≤w1.heap.size:=B_2.out.size
  go_simp
  refine(zgs _ p.p w1 hp9 D4_2.out).mono ?_
  rintro e w3 ⟨vs1,rfl,hb,hown⟩
  obtain⟨ap1,cp1,hvs,_⟩:=OwnD.parts (c:=12) (n:=p.p.length) hown
  subst hvs
  have hz3:w1.heap.size≤w3.heap.size:=hb.size
  have B_4:=trh B_2 hb
  have X_4:=yxc (X_2.out.below hb)
  have Z_4:=yxc (Z_2.out.below hb)
  have D5_4:=yxc (D5_2.out.under hb)
  have D6_4:=yxc (D6_2.out.under hb)
  have S_4:=yxc (ypa S_2.out (Turns.of_below hb) (fun _ _=>id))
  clear B_2 X_2 Z_2 D4_2 D5_2 D6_2 S_2
  have P_4:=yxc hown
  clear hown hb
  have Q_4:Hid (w3.cell? ⟨w.heap.size,0,none⟩=some (.int .i64 p.n)∧w3.cell? ⟨w.heap.size,1,none⟩=some (.slice a1 p.st.r.length c1)∧w3.cell? ⟨w.heap.size,2,none⟩=some (.int .i64 p.st.q)∧w3.cell? ⟨w.heap.size,3,none⟩=some (.int .i64 p.st.d)∧w3.cell? ⟨w.heap.size,4,none⟩=some (.slice a4 p.p.length c4)∧w3.cell? ⟨w.heap.size,5,none⟩=some (.slice a5 p.t.length c5)∧w3.cell? ⟨w.heap.size,6,none⟩=some (.slice a6 p.a.length c6)):=⟨X_4.out.cell rfl,X_4.out.cell rfl,X_4.out.cell rfl,X_4.out.cell rfl,X_4.out.cell rfl,X_4.out.cell rfl,X_4.out.cell rfl⟩
  refine hK.out _ _ Q_4.out (fun hHeld=> ?_)
  clear hK K
  try simp only [Act.put,q1,q2,q3]
  refine yfb (rs:= [10]) (by kernel_rfl) (by simp) ?_
  refine AllReadyZ.cons rfl (fun K hK=> ?_) AllReadyZ.nil
  have hbs5:W0.heap.size≤w3.heap.size:=B_4.out.size
  go_simp
  refine(yzb _ p.t w3 ht9 D5_4.out.srcEv).mono ?_
  rintro e w5 ⟨vs1,rfl,hown,hb⟩
  obtain⟨at1,ct1,hvs⟩:=yfm hown
  subst hvs
  have HLT:=yxc (yxz hown)
  have hz5:w3.heap.size≤w5.heap.size:=hb.size
  have B_6:=trh B_4 hb
  have X_6:=yxc (X_4.out.below hb)
  have Z_6:=yxc (Z_4.out.below hb)
  have D6_6:=yxc (D6_4.out.under hb)
  have S_6:=yxc (ypa S_4.out (Turns.of_below hb) (fun _ _=>id))
  have P_6:=yxc (P_4.out.under hb)
  clear B_4 X_4 Z_4 D5_4 D6_4 S_4 P_4
  have T_6:=yxc (yw0 hown hbs5)
  clear hown hb
  have Q_6:Hid (w5.cell? ⟨w.heap.size,0,none⟩=some (.int .i64 p.n)∧w5.cell? ⟨w.heap.size,1,none⟩=some (.slice a1 p.st.r.length c1)∧w5.cell? ⟨w.heap.size,2,none⟩=some (.int .i64 p.st.q)∧w5.cell? ⟨w.heap.size,3,none⟩=some (.int .i64 p.st.d)∧w5.cell? ⟨w.heap.size,4,none⟩=some (.slice a4 p.p.length c4)∧w5.cell? ⟨w.heap.size,5,none⟩=some (.slice a5 p.t.length c5)∧w5.cell? ⟨w.heap.size,6,none⟩=some (.slice a6 p.a.length c6)):=⟨X_6.out.cell rfl,X_6.out.cell rfl,X_6.out.cell rfl,X_6.out.cell rfl,X_6.out.cell rfl,X_6.out.cell rfl,X_6.out.cell rfl⟩
  refine hK.out _ _ Q_6.out (fun hHeld=> ?_)
  clear hK K
  try simp only [Act.put,q1,q2,q3]
  refine yfb (rs:= [13]) (by kernel_rfl) (by simp) ?_
  refine AllReadyZ.cons rfl (fun K hK=> ?_) AllReadyZ.nil
  have hbs7:W0.heap.size≤w5.heap.size:=B_6.out.size
  go_simp
  refine(zd8 _ p.a w5 ha9 D6_6.out.srcI).mono ?_
  rintro e w7 ⟨vs1,rfl,hown,hb⟩
  obtain⟨aa1,ca1,hvs⟩:=yfm hown
  subst hvs
  have HLA:=yxc (yxz hown)
  have hz7:w5.heap.size≤w7.heap.size:=hb.size
  have B_8:=trh B_6 hb
  have X_8:=yxc (X_6.out.below hb)
  have Z_8:=yxc (Z_6.out.below hb)
  have S_8:=yxc (ypa S_6.out (Turns.of_below hb) (fun _ _=>id))
  have P_8:=yxc (P_6.out.under hb)
  have T_8:=yxc (ypa T_6.out (Turns.of_below hb) (fun _ _=>id))
  clear B_6 X_6 Z_6 D6_6 S_6 P_6 T_6
  have A_8:=yxc (yw0 hown hbs7)
  clear hown hb
  have Q_8:Hid (w7.cell? ⟨w.heap.size,0,none⟩=some (.int .i64 p.n)∧w7.cell? ⟨w.heap.size,1,none⟩=some (.slice a1 p.st.r.length c1)∧w7.cell? ⟨w.heap.size,2,none⟩=some (.int .i64 p.st.q)∧w7.cell? ⟨w.heap.size,3,none⟩=some (.int .i64 p.st.d)∧w7.cell? ⟨w.heap.size,4,none⟩=some (.slice a4 p.p.length c4)∧w7.cell? ⟨w.heap.size,5,none⟩=some (.slice a5 p.t.length c5)∧w7.cell? ⟨w.heap.size,6,none⟩=some (.slice a6 p.a.length c6)):=⟨X_8.out.cell rfl,X_8.out.cell rfl,X_8.out.cell rfl,X_8.out.cell rfl,X_8.out.cell rfl,X_8.out.cell rfl,X_8.out.cell rfl⟩
  refine hK.out _ _ Q_8.out (fun hHeld=> ?_)
  clear hK K
  try simp only [Act.put,q1,q2,q3]
  refine ze9 14 {dst:=some 17,op:=Op.build 97 #[(0,Operand.tmp 4),(1,Operand.tmp 7),(2,Operand.tmp 10),(3,Operand.tmp 13),(4,Operand.tmp 16)],type:=97,pos:=_,after:=_,guard:=none} (.agg #[.int .i64 p.n,.slice as1 p.st.r.length cs1,.int .i64 p.st.q,.int .i64 p.st.d,.slice ap1 p.p.length cp1,.slice at1 p.t.length ct1,.slice aa1 p.a.length ca1]) ?_
  try simp only [Act.put,q1,q2,q3]
  refine yfb (rs:= [15]) (by kernel_rfl) (by simp) ?_
  refine AllReadyZ.last rfl (fun K hK=> ?_)
  obtain⟨q0,q1,q2,q3,q4,q5,q6⟩:=c7_7 Z_8.out
  have qf:=Z_8.out.free
  go_simp
  clear qf q0 q1 q2 q3 q4 q5 q6
  refine hK.out _ _ ?_
  clear hK K
  try simp only [Act.put,q1,q2,q3]
  refine yx2 (by kernel_rfl) ?_ _
  obtain⟨X5,hX5⟩:∃X5,put7s w7 (w.heap.size+1) (.int .i64 p.n) (.slice as1 p.st.r.length cs1) (.int .i64 p.st.q) (.int .i64 p.st.d) (.slice ap1 p.p.length cp1) (.slice at1 p.t.length ct1) (.slice aa1 p.a.length ca1)=X5:=⟨_,rfl⟩
  have hP:=Z_8.out.put7s (.int .i64 p.n) (.slice as1 p.st.r.length cs1) (.int .i64 p.st.q) (.int .i64 p.st.d) (.slice ap1 p.p.length cp1) (.slice at1 p.t.length ct1) (.slice aa1 p.a.length ca1)
  have ht:=yz7 w7 (w.heap.size+1) (.int .i64 p.n) (.slice as1 p.st.r.length cs1) (.int .i64 p.st.q) (.int .i64 p.st.d) (.slice ap1 p.p.length cp1) (.slice at1 p.t.length ct1) (.slice aa1 p.a.length ca1)
  rw [hX5]at hP ht
  unfold put7s at hX5
  rw [hX5]
  clear hX5
  go_wp2
  obtain⟨t0,t1,t2,t3,t4,t5,t6⟩:=c7_7 hP
  refine bodyPost_ret (v:= .agg #[.int .i64 p.n,.slice as1 p.st.r.length cs1,.int .i64 p.st.q,.int .i64 p.st.d,.slice ap1 p.p.length cp1,.slice at1 p.t.length ct1,.slice aa1 p.a.length ca1]) (by simp [results,Tryz.results50,go_sem,t0,t1,t2,t3,t4,t5,t6]) rfl ?_
  have hBs:=B_8.out.size
  have hts:=ht.size
  refine⟨_,rfl,(HBw.out.trans (B_8.out.mono (by omega))).trans (ht.to_below (fun k e=>by omega) (by omega)),(fun b=>(.slice as1 p.st.r.length cs1:Value).ownBlock=some b),(fun k=>w1.heap.size≤k∧k<w3.heap.size),(fun b=>(.slice at1 p.t.length ct1:Value).ownBlock=some b),(fun b=>(.slice aa1 p.a.length ca1:Value).ownBlock=some b),_,_,_,_,rfl,?_,?_,?_,?_,?_,?_,?_,?_⟩
  · exact(yxq (by rw [yws];omega) (ypa S_8.out ht (fun b hb e=>by have:=HLS.out b hb;omega))).own
  · exact P_8.out.turns ht (fun b hb e=>by omega)
  · exact(yxq (ywc _) (ypa T_8.out ht (fun b hb e=>by have:=HLT.out b hb;omega))).own
  · exact(yxq (by rw [yws];omega) (ypa A_8.out ht (fun b hb e=>by have:=HLA.out b hb;omega))).own
  · exact fun b hb=>⟨by have:=HLS.out b hb;omega,fun e=>by have:=HLS.out b hb;omega,fun e=>by have:=HLS.out b hb;have:=HLT.out b e;omega,fun e=>by have:=HLS.out b hb;have:=HLA.out b e;omega⟩
  · exact fun b hb=>⟨by omega,fun e=>by have:=HLT.out b e;omega,fun e=>by have:=HLA.out b e;omega⟩
  · exact fun b hb=>⟨by have:=HLT.out b hb;omega,fun e=>by have:=HLT.out b hb;have:=HLA.out b e;omega⟩
  · exact fun b hb=>by have:=HLA.out b hb;omega
theorem zkt {a b:Ev} (ha:a.ok=true) (hb:b.ok=true):a.ecmp b=a.cmp b:=by
  unfold Ev.ecmp ecmp Ev.cmp
  rw [if_pos ⟨ha,hb⟩]
theorem zow {p:Pa} {e:Ev} (hp:p.ok=true) (he:e.ok=true) {i:Nat} (h1:i≤p.p.length) (h2:i=0∨(psAt p.p (i-1)).e.ecmp e<0) (h3:i<p.p.length→ ¬(psAt p.p i).e.ecmp e<0):CutAt p.p e i:=by
  have hS:=(zd1 p).2 (by unfold Pa.ok at hp;simpa using hp)
  have hok:∀j,j<p.p.length→(psAt p.p j).e.ok=true:=fun j hj=>(hS.2.1 j hj).1
  have hlt:∀j,j<p.p.length→0<j→(psAt p.p (j-1)).e.cmp (psAt p.p j).e<0:=fun j hj h=>(hS.2.1 j hj).2.2.2.2.2.2 h
  refine⟨h1,fun j hj=> ?_,fun hi=>by rw [←zkt (hok i hi) he];exact h3 hi⟩
  have hlast:(psAt p.p (i-1)).e.cmp e<0:=by
    rw [←zkt (hok (i-1) (by omega)) he]
    exact h2.resolve_left (by omega)
  have down:∀d,d≤i-1→(psAt p.p (i-1-d)).e.cmp e<0:=fun d=>by
    induction d with
    |zero=>exact fun _=>hlast
    |succ d ih=>
      intro hd
      have:=hlt (i-1-d) (by omega) (by omega)
      rw [show i-1-d-1=i-1-(d+1)by omega]at this
      exact zaw this (ih (by omega))
  have:=down (i-1-j) (by omega)
  rwa [show i-1-(i-1-j)=j by omega]at this
theorem zpf {a b c:Ev} (h:¬a.cmp b<0) (k:a.cmp c<0):b.cmp c<0:=Decidable.byContradiction fun h2=>cmp_neg h h2 k
def yzm (g:Option Ev) (e:Ev):Bool:=match g with
  |none=>true
  |some g=>decide (e.cmp g<0)
structure CutO (g:Option Ev) (l:List Ps) (c:Nat):Prop where
  le:c≤l.length
  lo:∀j,j<c→yzm g (psAt l j).e=true
  hi:c<l.length→yzm g (psAt l c).e=false
def AscP (l:List Ps):Prop:=∀a b,a<b→b<l.length→(psAt l a).e.cmp (psAt l b).e<0
def hdE (P:Nat→List Ps) (nx:Nat→Nat) (i:Nat):Ev:=(psAt (P i) (nx i)).e
def ywt (P:Nat→List Ps) (nx:Nat→Nat):Nat→Int
  |0=> -1
  |i+1=>if nx i<(P i).length∧(ywt P nx i<0∨(hdE P nx i).cmp (hdE P nx (ywt P nx i).toNat)<0)then(i:Int)else ywt P nx i
def upN (nx:Nat→Nat) (b:Nat):Nat→Nat:=fun i=>if i=b then nx b+1 else nx i
def comR (P:Nat→List Ps) (n:Nat) (g:Option Ev) (nx:Nat→Nat):Nat→List Ps
  |0=> []
  |f+1=>if ywt P nx n<0 then []else
      if yzm g (hdE P nx (ywt P nx n).toNat)=true then psAt (P (ywt P nx n).toNat) (nx (ywt P nx n).toNat)::comR P n g (upN nx (ywt P nx n).toNat) f else []
def remL (P:Nat→List Ps) (ct nx:Nat→Nat) (n:Nat):List Ps:=(List.range n).flatMap fun i=>((P i).take (ct i)).drop (nx i)
def leP (a b:Ps):Prop:=¬b.e.cmp a.e<0
theorem zbr (P:Nat→List Ps) (nx:Nat→Nat):∀m,-1≤ywt P nx m∧(ywt P nx m<0→ ∀i,i<m→(P i).length≤nx i)∧
    (0≤ywt P nx m→(ywt P nx m).toNat<m∧nx (ywt P nx m).toNat<(P (ywt P nx m).toNat).length∧ ∀i,i<m→nx i<(P i).length→ ¬(hdE P nx i).cmp (hdE P nx (ywt P nx m).toNat)<0)
  |0=>⟨by simp [ywt],fun _ i hi=>by omega,fun h=>by simp [ywt]at h⟩
  |m+1=>by
    obtain⟨h0,h1,h2⟩:=zbr P nx m
    unfold ywt
    split
    · next hc=>
      refine⟨by omega,fun h=>by omega,fun _=> ?_⟩
      rw [show((m:Int)).toNat=m from by omega]
      refine⟨by omega,hc.1,fun i hi hl=> ?_⟩
      by_cases him:i=m
      · subst him
        exact fun h=>zid h h
      · rcases hc.2 with hb|hb
        · have:=h1 hb i (by omega);omega
        · by_cases hb0:ywt P nx m<0
          · have:=h1 hb0 i (by omega);omega
          · exact fun h=>(h2 (by omega)).2.2 i (by omega) hl (zaw h hb)
    · next hc=>
      refine⟨h0,fun h i hi=> ?_,fun h=> ?_⟩
      · by_cases him:i=m
        · subst him
          exact Nat.le_of_not_lt fun hl=>hc ⟨hl,.inl h⟩
        · exact h1 h i (by omega)
      · obtain⟨k1,k2,k3⟩:=h2 h
        refine⟨by omega,k2,fun i hi hl=> ?_⟩
        by_cases him:i=m
        · subst him
          exact fun hx=>hc ⟨hl,.inr hx⟩
        · exact k3 i (by omega) hl
theorem CutO.all {g:Option Ev} {l:List Ps} {c j:Nat} (h:CutO g l c) (ha:AscP l) (hc:c≤j) (hj:j<l.length):yzm g (psAt l j).e=false:=by
  by_cases e:c=j
  · subst e;exact h.hi hj
  · have h1:=h.hi (by omega)
    have h2:=ha c j (by omega) hj
    cases g with
    |none=>simp [yzm]at h1
    |some g=>
      simp only [yzm,decide_eq_false_iff_not]at h1⊢
      exact fun h3=>h1 (zaw h2 h3)
theorem zfj {l:List Ps} {j:Nat} (h:j<l.length):l[j]? =some (psAt l j):=by
  unfold psAt
  rw [List.getD_eq_getElem?_getD,List.getElem?_eq_getElem h]
  rfl
theorem zlt {l:List Ps} {c j:Nat} (hc:c≤l.length) (h:j<c):(l.take c).drop j=psAt l j::(l.take c).drop (j+1):=by
  have hl:j<(l.take c).length:=by rw [List.length_take];omega
  rw [List.drop_eq_getElem_cons hl]
  congr 1
  have h1:=zfj (l:=l) (j:=j) (by omega)
  rw [List.getElem_take]
  rw [List.getElem?_eq_getElem (by omega)]at h1
  exact Option.some.inj h1
theorem zbv (P:Nat→List Ps) (ct nx:Nat→Nat) (n:Nat):remL P ct nx (n+1)=remL P ct nx n++((P n).take (ct n)).drop (nx n):=by simp [remL,List.range_succ]
theorem rem_up {P:Nat→List Ps} {ct nx:Nat→Nat} {b:Nat}:∀{n:Nat},n≤b→remL P ct (upN nx b) n=remL P ct nx n
  |0,_=>rfl
  |n+1,h=>by rw [zbv,zbv,rem_up (by omega)];simp [upN,show¬n=b by omega]
theorem zg5 {P:Nat→List Ps} {ct nx:Nat→Nat} {b:Nat} (hc:ct b≤(P b).length) (hb:nx b<ct b):∀{n:Nat},b<n→(remL P ct nx n).Perm (psAt (P b) (nx b)::remL P ct (upN nx b) n)
  |n+1,h=>by
    rw [zbv,zbv]
    by_cases e:b=n
    · subst e
      rw [rem_up (Nat.le_refl _),zlt hc hb]
      simp only [upN,if_true]
      exact List.perm_middle
    · have h1:=zg5 hc hb (n:=n) (by omega)
      rw [show upN nx b n=nx n from by simp [upN,show¬n=b by omega]]
      exact(h1.append_right _)
theorem zg4 {P:Nat→List Ps} {ct nx:Nat→Nat} {n:Nat} {y:Ps} (hct:∀i,i<n→ct i≤(P i).length) (h:y∈remL P ct nx n):∃i j,i<n∧nx i≤j∧j<ct i∧y=psAt (P i) j:=by
  unfold remL at h
  obtain⟨i,hi,hy⟩:=List.mem_flatMap.1 h
  have hi':i<n:=List.mem_range.1 hi
  obtain⟨q,hq,e⟩:=List.getElem_of_mem hy
  rw [List.length_drop,List.length_take]at hq
  have hle:=hct i hi'
  refine⟨i,nx i+q,hi',by omega,by omega,?_⟩
  rw [←e,List.getElem_drop,List.getElem_take]
  have h1:=zfj (l:=P i) (j:=nx i+q) (by omega)
  rw [List.getElem?_eq_getElem (by omega)]at h1
  exact Option.some.inj h1
theorem ziu {P:Nat→List Ps} {ct nx:Nat→Nat}:∀{n:Nat},(∀i,i<n→ct i≤nx i)→remL P ct nx n= []
  |0,_=>rfl
  |n+1,h=>by
    rw [zbv,ziu (fun i hi=>h i (by omega)),List.nil_append]
    exact List.drop_eq_nil_of_le (by rw [List.length_take];have:=h n (by omega);omega)
theorem zpd {P:Nat→List Ps} {n:Nat} {g:Option Ev} {ct:Nat→Nat} (hasc:∀i,i<n→AscP (P i)) (hcut:∀i,i<n→CutO g (P i) (ct i)):∀(f:Nat) (nx:Nat→Nat),(∀i,i<n→nx i≤ct i)→(remL P ct nx n).length≤f→
    (comR P n g nx f).Perm (remL P ct nx n)∧(comR P n g nx f).Pairwise leP
  |0,nx,hnx,hf=>by
    have e:remL P ct nx n= []:=List.eq_nil_of_length_eq_zero (by omega)
    rw [e]
    exact⟨List.Perm.refl _,List.Pairwise.nil⟩
  |f+1,nx,hnx,hf=>by
    obtain⟨h0,h1,h2⟩:=zbr P nx n
    unfold comR
    by_cases hb:ywt P nx n<0
    · rw [if_pos hb]
      have e:remL P ct nx n= []:=ziu (fun i hi=>Nat.le_trans (hcut i hi).le (h1 hb i hi))
      rw [e]
      exact⟨List.Perm.refl _,List.Pairwise.nil⟩
    · rw [if_neg hb]
      obtain⟨k1,k2,k3⟩:=h2 (by omega)
      generalize (ywt P nx n).toNat=b at k1 k2 k3
      by_cases ha:yzm g (hdE P nx b)=true
      · rw [if_pos ha]
        have hbc:nx b<ct b:=Nat.lt_of_not_le fun h=>by
          have:=(hcut b k1).all (hasc b k1) h k2
          unfold hdE at ha
          rw [this]at ha
          cases ha
        have hp:=zg5 (P:=P) (ct:=ct) (nx:=nx) (hcut b k1).le hbc k1
        have hup:∀i,i<n→upN nx b i≤ct i:=fun i hi=>by
          unfold upN
          split
          · next e=>subst e;omega
          · exact hnx i hi
        obtain⟨q1,q2⟩:=zpd hasc hcut f (upN nx b) hup (by have:=hp.length_eq;simp only [List.length_cons]at this;omega)
        refine⟨(q1.cons _).trans hp.symm,List.Pairwise.cons (fun y hy=> ?_) q2⟩
        obtain⟨i,j,hi,hj1,hj2,rfl⟩:=zg4 (fun i hi=>(hcut i hi).le) (q1.subset hy)
        have hjl:j<(P i).length:=Nat.lt_of_lt_of_le hj2 (hcut i hi).le
        unfold leP
        intro hx
        by_cases e:i=b
        · subst e
          have hj3:nx i<j:=by unfold upN at hj1;rw [if_pos rfl]at hj1;omega
          exact zid hx (hasc i hi (nx i) j hj3 hjl)
        · unfold upN at hj1
          rw [if_neg e]at hj1
          have h4:=k3 i hi (by omega)
          by_cases e2:nx i=j
          · subst e2
            exact h4 hx
          · exact h4 (zaw (hasc i hi (nx i) j (by omega) hjl) hx)
      · rw [if_neg ha]
        have e:remL P ct nx n= []:=ziu (fun i hi=>Nat.le_of_not_lt fun hlt=>by
          have hl:nx i<(P i).length:=Nat.lt_of_lt_of_le hlt (hcut i hi).le
          have h5:=(hcut i hi).lo (nx i) hlt
          have h6:=k3 i hi hl
          cases g with
          |none=>exact ha rfl
          |some g=>
            simp only [yzm,decide_eq_true_eq]at h5 ha
            exact ha (zpf h6 h5))
        rw [e]
        exact⟨List.Perm.refl _,List.Pairwise.nil⟩
theorem zop {p:Prop} (h:p):Hid p:=h
theorem asc_step {l:List Ps} (h:∀j,j<l.length→0<j→(psAt l (j-1)).e.cmp (psAt l j).e<0):AscP l:=by
  intro a b hab hb
  induction b with
  |zero=>omega
  |succ b ih=>
    have h1:=h (b+1) hb (by omega)
    rw [Nat.add_sub_cancel]at h1
    by_cases e:a=b
    · subst e;exact h1
    · exact zaw (ih (by omega) (by omega)) h1
theorem asc_ok {p:Pa} (hp:p.ok=true):AscP p.p:=by
  have hS:=(zd1 p).2 (by unfold Pa.ok at hp;simpa using hp)
  exact asc_step fun j hj h=>(hS.2.1 j hj).2.2.2.2.2.2 h
theorem CutAt.cutO {l:List Ps} {e:Ev} {k:Nat} (h:CutAt l e k):CutO (some e) l k:=
  ⟨h.le,fun j hj=>by simp only [yzm,decide_eq_true_eq];exact h.lo j hj,fun hk=>by simp only [yzm,decide_eq_false_iff_not];exact h.hi hk⟩
theorem CutO.none' (l:List Ps):CutO none l l.length:=⟨Nat.le_refl _,fun _ _=>rfl,fun h=>by omega⟩
set_option maxRecDepth 100000 in
set_option maxHeartbeats 8000000 in
theorem zct (x:Value) (p:Pa) (e:Ev) (b:Bool) (w:World) (hw:p.wt≤1048577) (hp:p.ok=true) (he:b=true→e.ok=true) (h:IsPart w x p):
    Calls Tryz.prog 49 #[x,.agg #[.int .i64 e.t,.int .i64 e.s,.int .i64 e.q,.int .i64 e.d,.int .i64 e.k,.int .i64 e.v,.int .i64 e.g],.bool b] w fun r w'=>∃c:Nat,r= .returned (.int .i64 c)∧CutO (if b=true then some e else none) p.p c∧Below w.heap.size w w':=by
  obtain⟨u1,u4,u5,u6,rfl,d1,d4,d5,d6⟩:=h
  obtain⟨a1,c1,rfl,_⟩:=IsD.len d1
  obtain⟨a4,c4,rfl,hn4,_⟩:=IsD.parts (c:=12) (n:=p.p.length) d4
  obtain⟨a5,c5,rfl,_⟩:=IsD.len d5
  obtain⟨a6,c6,rfl,_⟩:=IsD.len d6
  have O4:=zop d4
  have HP:Hid (p.ok=true):=hp
  have HE:=zop he
  have hp9:p.p.length≤1048577:=by
    have e3:=yxh p.p
    unfold Pa.wt at hw
    omega
  obtain⟨W0,hW0⟩:∃W0,(w.alloc (.cells #[.int .i64 p.n,.slice a1 p.st.r.length c1,.int .i64 p.st.q,.int .i64 p.st.d,.slice a4 p.p.length c4,.slice a5 p.t.length c5,.slice a6 p.a.length c6] 97)).alloc (.cells #[.int .i64 e.t,.int .i64 e.s,.int .i64 e.q,.int .i64 e.d,.int .i64 e.k,.int .i64 e.v,.int .i64 e.g] 90)=W0:=⟨_,rfl⟩
  have HB0:=hdq (beA2 hW0)
  have BX:=hdq (bkA2 hW0)
  have BE:=hdq (bkB2 hW0)
  have x4:=BX.out.cell (i:=4) rfl
  obtain⟨e0,e1,e2,e3,e4,e5,e6⟩:=c7_7 BE.out
  clear d1 d4 d5 d6 hw hp he hn4
  go_enter Tryz.func49,Tryz.ntmps49
  cases b with
  |false=>
    go_wp2
    go_ret
    exact⟨p.p.length,rfl,CutO.none' _,HB0.out⟩
  |true=>
    go_wp2_with fail
    clear hW0 x4 e0 e1 e2 e3 e4 e5 e6
    refine(zf4 _ p.p e _ hp9 (O4.out.under HB0.out)).mono ?_
    rintro r w1 ⟨⟨i,f,rfl,hi1,hi2,hi3⟩,hb⟩
    have HB1:=trh HB0 hb
    have HC:=zop ((zow HP.out (HE.out trivial) hi1 hi2 hi3).cutO)
    clear hb hi1 hi2 hi3
    go_wp2
    go_ret
    exact⟨i,rfl,HC.out,HB1.out⟩
end Go.Proofs.YtghndljgadpijaaGreat

/- slices.SortFunc over pasts, at this dump (the laying, in plain words). -/
namespace Go.Proofs
open Go.Shelf
def Tryz.sortPs_ren:Go.Shelf.Ren:=⟨fun|6=>184|15=>244|14=>243|28=>287|29=>288|20=>279|21=>280|22=>281|23=>282|24=>283|25=>284|26=>285|27=>286|46=>306|47=>307|48=>308|49=>309|50=>310|57=>315|n=>n,fun|22=>95|24=>172|25=>254|3=>3|39=>259|0=>0|53=>336|55=>338|4=>4|46=>330|45=>329|50=>177|5=>5|9=>9|66=>350|70=>354|76=>361|77=>362|n=>n,fun|n=>n⟩
theorem Tryz.sortPs:Go.Proofs.SlLaysF0.n6 Tryz.prog Tryz.sortPs_ren:= {
  mixed:=by kernel_rfl
  f6:=⟨Tryz.f184.name,by decide,Tryz.func184.trans (congrArg some (by kernel_rfl))⟩
  f14:=⟨Tryz.f243.name,by decide,Tryz.func243.trans (congrArg some (by kernel_rfl))⟩
  f15:=Tryz.func244.trans (congrArg some (by kernel_rfl))
  f20:=⟨Tryz.f279.name,by decide,Tryz.func279.trans (congrArg some (by kernel_rfl))⟩
  f21:=⟨Tryz.f280.name,by decide,Tryz.func280.trans (congrArg some (by kernel_rfl))⟩
  f22:=⟨Tryz.f281.name,by decide,Tryz.func281.trans (congrArg some (by kernel_rfl))⟩
  f23:=⟨Tryz.f282.name,by decide,Tryz.func282.trans (congrArg some (by kernel_rfl))⟩
  f24:=⟨Tryz.f283.name,by decide,Tryz.func283.trans (congrArg some (by kernel_rfl))⟩
  f25:=⟨Tryz.f284.name,by decide,Tryz.func284.trans (congrArg some (by kernel_rfl))⟩
  f26:=⟨Tryz.f285.name,by decide,Tryz.func285.trans (congrArg some (by kernel_rfl))⟩
  f27:=⟨Tryz.f286.name,by decide,Tryz.func286.trans (congrArg some (by kernel_rfl))⟩
  f28:=Tryz.func287.trans (congrArg some (by kernel_rfl))
  f29:=Tryz.func288.trans (congrArg some (by kernel_rfl))
  f46:=⟨Tryz.f306.name,by decide,Tryz.func306.trans (congrArg some (by kernel_rfl))⟩
  f47:=Tryz.func307.trans (congrArg some (by kernel_rfl))
  f48:=Tryz.func308.trans (congrArg some (by kernel_rfl))
  f49:=⟨Tryz.f309.name,by decide,Tryz.func309.trans (congrArg some (by kernel_rfl))⟩
  f50:=⟨Tryz.f310.name,by decide,Tryz.func310.trans (congrArg some (by kernel_rfl))⟩
  f57:=⟨Tryz.f315.name,by decide,Tryz.func315.trans (congrArg some (by kernel_rfl))⟩
  t0:=Tryz.underlying0
  a0:=Tryz.isAgg0
  z0:=Tryz.sizeOf0
  v0:=Tryz.zeroValue0
  t3:=Tryz.underlying3
  a3:=Tryz.isAgg3
  z3:=Tryz.sizeOf3
  v3:=Tryz.zeroValue3
  t4:=Tryz.underlying4
  a4:=Tryz.isAgg4
  z4:=Tryz.sizeOf4
  v4:=Tryz.zeroValue4
  t5:=Tryz.underlying5
  a5:=Tryz.isAgg5
  z5:=Tryz.sizeOf5
  v5:=Tryz.zeroValue5
  t9:=Tryz.underlying9
  a9:=Tryz.isAgg9
  z9:=Tryz.sizeOf9
  v9:=Tryz.zeroValue9
  t22:=Tryz.underlying95
  a22:=Tryz.isAgg95
  z22:=Tryz.sizeOf95
  v22:=Tryz.zeroValue95
  t25:=Tryz.underlying254
  a25:=Tryz.isAgg254
  z25:=Tryz.sizeOf254
  v25:=Tryz.zeroValue254
  t39:=Tryz.underlying259
  a39:=Tryz.isAgg259
  z39:=Tryz.sizeOf259
  v39:=Tryz.zeroValue259
  t45:=Tryz.underlying329
  a45:=Tryz.isAgg329
  z45:=Tryz.sizeOf329
  v45:=Tryz.zeroValue329
  t46:=Tryz.underlying330
  a46:=Tryz.isAgg330
  z46:=Tryz.sizeOf330
  v46:=Tryz.zeroValue330
  t50:=Tryz.underlying177
  a50:=Tryz.isAgg177
  z50:=Tryz.sizeOf177
  v50:=Tryz.zeroValue177
  t53:=Tryz.underlying336
  a53:=Tryz.isAgg336
  z53:=Tryz.sizeOf336
  v53:=Tryz.zeroValue336
  t55:=Tryz.underlying338
  a55:=Tryz.isAgg338
  z55:=Tryz.sizeOf338
  v55:=Tryz.zeroValue338
  t66:=Tryz.underlying350
  a66:=Tryz.isAgg350
  z66:=Tryz.sizeOf350
  v66:=Tryz.zeroValue350
  t70:=Tryz.underlying354
  a70:=Tryz.isAgg354
  z70:=Tryz.sizeOf354
  v70:=Tryz.zeroValue354
  t76:=Tryz.underlying361
  a76:=Tryz.isAgg361
  z76:=Tryz.sizeOf361
  v76:=Tryz.zeroValue361
  t77:=Tryz.underlying362
  a77:=Tryz.isAgg362
  z77:=Tryz.sizeOf362
  v77:=Tryz.zeroValue362}
end Go.Proofs

/- The program's EventCmp at two events that are fit: what it lays, and that it draws. -/
namespace Go.Proofs.YtghndljgadpijaaGreat
set_option maxHeartbeats 2000000
open Go.RowKit
theorem hidNCm {p:Prop} (h:p):Hid p:=h
theorem iOkD (t s q d k v g:Int) (h:okB t s q d k v g=true) (w:World):
    Calls Tryz.prog 188 #[.agg #[.int .i64 t,.int .i64 s,.int .i64 q,.int .i64 d,.int .i64 k,.int .i64 v,.int .i64 g]] w fun e w'=>
      e= .returned (.bool true)∧Below w.heap.size w w'∧w.drawn≤w'.drawn:=by
  rw [←h]
  clear h
  go_enter Tryz.func188,Tryz.ntmps188
  go_wp2
  all_goals
    go_ret
    refine⟨?_,(Below.refl _ _).alloc (Nat.le_refl _) _,Nat.le_refl _⟩
    first|exact yy5 (by simp [okB];omega)|exact ye8 (by simp [okB];omega)
theorem iCmpD (t s q d k v g t' s' q' d' k' v' g':Int) (h1:okB t s q d k v g=true) (h2:okB t' s' q' d' k' v' g'=true) (w:World):
    Calls Tryz.prog 124 #[.agg #[.int .i64 t,.int .i64 s,.int .i64 q,.int .i64 d,.int .i64 k,.int .i64 v,.int .i64 g],.agg #[.int .i64 t',.int .i64 s',.int .i64 q',.int .i64 d',.int .i64 k',.int .i64 v',.int .i64 g']] w fun e w'=>
      e= .returned (.int .i64 (cmpI t s q g t' s' q' g'))∧Below w.heap.size w w'∧w.drawn≤w'.drawn:=by
  have H1:=hidNCm h1
  have H2:=hidNCm h2
  clear h1 h2
  go_enter Tryz.func124,Tryz.ntmps124
  go_wp2_with fail
  refine(iOkD t s q d k v g H1.out _).mono ?_
  rintro e w1 ⟨rfl,hb1,hd1⟩
  obtain⟨hc,hf⟩:=zdb hb1
  go_wp2_with fail
  refine(iOkD t' s' q' d' k' v' g' H2.out _).mono ?_
  rintro e w2 ⟨rfl,hb2,hd2⟩
  have hz1:w.heap.size+1<w1.heap.size:=by have:=hb1.size;simp at this;omega
  have hz2:w.heap.size+1<w2.heap.size:=by have:=hb2.size;omega
  obtain⟨hc2,hf2⟩:=zdb hb2
  have f0:w2.cell? ⟨w.heap.size,0,none⟩=some (.int .i64 t):=by rw [hc2 _ _ (by omega),hc _ _ (by simp;omega)];simp
  have f1:w2.cell? ⟨w.heap.size,1,none⟩=some (.int .i64 s):=by rw [hc2 _ _ (by omega),hc _ _ (by simp;omega)];simp
  have f2:w2.cell? ⟨w.heap.size,2,none⟩=some (.int .i64 q):=by rw [hc2 _ _ (by omega),hc _ _ (by simp;omega)];simp
  have f6:w2.cell? ⟨w.heap.size,6,none⟩=some (.int .i64 g):=by rw [hc2 _ _ (by omega),hc _ _ (by simp;omega)];simp
  have e0:w2.cell? ⟨w.heap.size+1,0,none⟩=some (.int .i64 t'):=by rw [hc2 _ _ (by omega),hc _ _ (by simp)];simp
  have e1:w2.cell? ⟨w.heap.size+1,1,none⟩=some (.int .i64 s'):=by rw [hc2 _ _ (by omega),hc _ _ (by simp)];simp
  have e2:w2.cell? ⟨w.heap.size+1,2,none⟩=some (.int .i64 q'):=by rw [hc2 _ _ (by omega),hc _ _ (by simp)];simp
  have e6:w2.cell? ⟨w.heap.size+1,6,none⟩=some (.int .i64 g'):=by rw [hc2 _ _ (by omega),hc _ _ (by simp)];simp
  have hB:Below w.heap.size w w2:=((((Below.refl _ _).alloc (Nat.le_refl _) _).alloc (by simp) _).trans (hb1.mono (by simp;omega))).trans (hb2.mono (by omega))
  have HDR:Hid (w.drawn≤w2.drawn+1):=(by have h9:w.drawn≤w1.drawn:=hd1;exact Nat.le_succ_of_le (Nat.le_trans h9 hd2):w.drawn≤w2.drawn+1)
  clear hc hf hc2 hf2 hb1 hb2 hz1 hd1 hd2
  go_wp2_with fail
  go_region_held3 (fun W=>W.cell? ⟨w.heap.size,0,none⟩=some (.int .i64 t)∧W.cell? ⟨w.heap.size,1,none⟩=some (.int .i64 s)∧W.cell? ⟨w.heap.size,2,none⟩=some (.int .i64 q)∧W.cell? ⟨w.heap.size,6,none⟩=some (.int .i64 g)∧W.cell? ⟨w.heap.size+1,0,none⟩=some (.int .i64 t')∧W.cell? ⟨w.heap.size+1,1,none⟩=some (.int .i64 s')∧W.cell? ⟨w.heap.size+1,2,none⟩=some (.int .i64 q')∧W.cell? ⟨w.heap.size+1,6,none⟩=some (.int .i64 g')) (go_keep)
    (first
      |(go_at_call 190;refine(zf0 _ _ _).mono ?_;rintro e w' ⟨rfl,rfl⟩)
      |(go_at_call 189;refine(or_any _ _ [num t t',num s s',num q q',num g g'] _ ?_ ?_).mono ?_;(simp [maxLen]);(intro i hi;have h4:i=0∨i=1∨i=2∨i=3:=(by simp at hi;omega);rcases h4 with rfl|rfl|rfl|rfl<;>simp);rintro e w' ⟨rfl,rfl⟩))
  go_wp2
  go_ret
  exact⟨ywz (by rw [zo3]),hB.drew.alloc (by simp;omega) _,HDR.out⟩
end Go.Proofs.YtghndljgadpijaaGreat

/- The order of events as slices.SortFunc asks it; what EventCmp lays, as it asks it. -/
namespace Go.Proofs.YtghndljgadpijaaGreat
open Go.RowKit
theorem zc3 (a b:Ev):a.cmp b<0↔a.t<b.t∨a.t=b.t∧(a.s<b.s∨a.s=b.s∧(a.q<b.q∨a.q=b.q∧a.g<b.g)):=zgu _ _ _ _ _ _ _ _
theorem lay_of {W w':World} (h:Below W.heap.size W w') (hd:W.drawn≤w'.drawn):∃q os',w'=Go.Sort.grow (W.drewN q) os':=by
  refine⟨w'.drawn-W.drawn,w'.heap.extract W.heap.size w'.heap.size,?_⟩
  have hh:w'.heap=W.heap++w'.heap.extract W.heap.size w'.heap.size:=by
    refine Array.ext_getElem? fun k=> ?_
    by_cases hk:k<W.heap.size
    · rw [Array.getElem?_append_left hk]
      exact h.block k hk
    · rw [Array.getElem?_append_right (by omega),Array.getElem?_extract]
      by_cases hk2:k<w'.heap.size
      · rw [if_pos (by omega),show W.heap.size+(k-W.heap.size)=k by omega]
      · rw [if_neg (by omega),Array.getElem?_eq_none (by omega)]
  obtain⟨hp,tp,dr,os,ou⟩:=w'
  have h1:=h.os
  have h2:=h.tape
  have h3:=h.output
  dsimp only at h1 h2 h3 hh hd⊢
  unfold Go.Sort.grow World.drewN
  subst h1 h2 h3
  dsimp only
  rw [←hh,show W.drawn+(dr-W.drawn)=dr by omega]
end Go.Proofs.YtghndljgadpijaaGreat

