/- The specification's l3event, l4model, l5emit. -/
import Derived.Test.YtmobiieoecjmdaaGreatExactVectorsG14
import Derived.Test.YtmobiieoecjmdaaGreatExactVectorsG19
import Derived.Test.YtmobiieoecjmdaaGreatExactVectorsLMOkS
import Derived.Test.YtmobiieoecjmdaaGreatExactVectorsG08
namespace Go.Proofs.YtmobiieoecjmdaaGreat
set_option maxHeartbeats 8000000
set_option maxRecDepth 100000
open Go.RowKit
theorem ev_nums {e:Ev} (h:e.ok=true):0≤e.t∧e.t≤1000∧0≤e.d∧e.d≤3∧0≤e.k∧e.k≤3∧0≤e.v∧e.v≤999:=by
 have h':okB e.t e.s e.q e.d e.k e.v e.g=true:=h
 simp [okB]at h'
 omega
theorem sEvent (x:Value) (m:Md) (e:Ev) (w:World) (h:IsM w x m):
  Calls Tryz.prog 99 #[x,.agg #[.int .i64 e.t,.int .i64 e.s,.int .i64 e.q,.int .i64 e.d,.int .i64 e.k,.int .i64 e.v,.int .i64 e.g]] w fun r w'=>r= .returned (.bool (e.ok&&fitB m e.t e.d e.k))∧Below w.heap.size w w':=by
 obtain⟨vi,vh,vs,rfl,⟨ai,ci,rfl,_⟩,⟨ah,ch,rfl,hh1,hh2,_⟩,⟨ae,ce,rfl,_⟩⟩:=h
 obtain⟨W0,hW0⟩:∃W0,(w.alloc (.cells #[.int .i64 m.n,.int .i64 m.s,.slice ai m.i.length ci,.slice ah m.h.length ch,.slice ae m.e.length ce,.int .i64 m.z] 36)).alloc (.cells #[.int .i64 e.t,.int .i64 e.s,.int .i64 e.q,.int .i64 e.d,.int .i64 e.k,.int .i64 e.v,.int .i64 e.g] 110)=W0:=⟨_,rfl⟩
 have HM0:Hid (Bk W0 w.heap.size 36 #[.int .i64 m.n,.int .i64 m.s,.slice ai m.i.length ci,.slice ah m.h.length ch,.slice ae m.e.length ce,.int .i64 m.z]):=by rw [←hW0];exact(Bk.new w _ _).alloc _
 have HV0:Hid (Bk W0 (w.heap.size+1) 110 #[.int .i64 e.t,.int .i64 e.s,.int .i64 e.q,.int .i64 e.d,.int .i64 e.k,.int .i64 e.v,.int .i64 e.g]):=by rw [←hW0];exact Bk.newAt (by simp) _ _
 have HB0:Hid (Below w.heap.size w W0):=by rw [←hW0];exact((Below.refl _ w).alloc (Nat.le_refl _) _).alloc (by simp) _
 have v0:=HV0.out.cell (i:=0) rfl
 have v1:=HV0.out.cell (i:=1) rfl
 have v2:=HV0.out.cell (i:=2) rfl
 have v3:=HV0.out.cell (i:=3) rfl
 have v4:=HV0.out.cell (i:=4) rfl
 have v5:=HV0.out.cell (i:=5) rfl
 have v6:=HV0.out.cell (i:=6) rfl
 go_enter Tryz.func99,Tryz.ntmps99
 go_wp2_with fail
 clear v0 v1 v2 v3 v4 v5 v6 hW0
 refine(yjr e.t e.s e.q e.d e.k e.v e.g _).mono ?_
 rintro r w1 ⟨rfl,hb⟩
 have HB1:Hid (Below w.heap.size w w1):=HB0.out.trans (hb.mono HB0.out.size)
 have v0:=(HV0.out.below hb).cell (i:=0) rfl
 have v3:=(HV0.out.below hb).cell (i:=3) rfl
 have v4:=(HV0.out.below hb).cell (i:=4) rfl
 have p0:=(HM0.out.below hb).cell (i:=0) rfl
 have p3:=(HM0.out.below hb).cell (i:=3) rfl
 have p5:=(HM0.out.below hb).cell (i:=5) rfl
 have heo':okB e.t e.s e.q e.d e.k e.v e.g=e.ok:=rfl
 rw [heo']
 clear hb HM0 HV0 HB0 heo'
 cases heo:e.ok with
 |false=>
  have HEO:Hid ((e.ok&&fitB m e.t e.d e.k)=false):=(by rw [heo];rfl:(e.ok&&fitB m e.t e.d e.k)=false)
  clear heo
  go_wp2
  go_ret
  exact⟨ya1 HEO.out.symm,HB1.out⟩
 |true=>
  obtain⟨_,_,hd0,_,hk0,_,_,_⟩:=ev_nums heo
  have HF:Hid ((e.ok&&fitB m e.t e.d e.k)=decide (e.d<m.n∧e.k<(m.h.length:Int)∧e.t≤m.z)):=(by rw [heo,Bool.true_and];unfold fitB;exact decide_eq_decide.2 (by omega):(e.ok&&fitB m e.t e.d e.k)=_)
  clear heo hd0 hk0
  go_wp2
  all_goals
   go_ret
   refine⟨?_,HB1.out⟩
   refine(?_:_=Ending.returned (.bool (decide (e.d<m.n∧e.k<(m.h.length:Int)∧e.t≤m.z)))).trans (ya1 HF.out.symm)
   first|exact ya1 (decide_eq_decide.2 (by omega))|exact ya1 (by simp;omega)|exact ya1 (decide_eq_false (by omega)).symm
theorem ybk (x:Value) (m:Md) (e:Ev) (b:Bool) (hb:evIn m e=b) (w:World) (h:IsM w x m):Calls Tryz.prog 99 #[x,e.val] w fun r w'=>r= .returned (.bool b)∧Below w.heap.size w w':=hb▸sEvent x m e w h
theorem sEmit5 (t l v:Int) (w:World):
  Calls Tryz.prog 149 #[.agg #[.int .i64 t,.int .i64 l,.int .i64 v]] w fun e w'=>e= .returned (.bool (Em.okB ⟨t,l,v⟩))∧Below w.heap.size w w':=by
 go_enter Tryz.func149,Tryz.ntmps149
 go_wp2
 all_goals
  go_ret
  refine⟨?_,(Below.refl _ _).alloc (Nat.le_refl _) _⟩
  first|exact yb8 (by simp [Em.okB];omega)|exact ya1 (by simp [Em.okB];omega)
theorem ya5 {w:World} {P:Nat} {T:TypeId} {vs:Array Value} {i:Nat} {v:Value} (h:Bk w P T vs) (hv:vs[i]? =some v):∀q:Beyond w,q.w.cell? ⟨P,i,none⟩=some v:=fun q=>q.cell h.lt (h.cell hv)
theorem sModel4 (x y:Value) (m:Md) (p:Pa) (w:World) (hm:SmallM m) (hw:p.wt≤1048576) (h:IsM w x m) (h':IsPart w y p):
  Calls Tryz.prog 98 #[x,y] w fun e w'=>e= .returned (.bool (modB m p))∧Below w.heap.size w w':=by
 have HIM:Hid (IsM w x m):=h
 have HIP:Hid (IsPart w y p):=h'
 have HSM:Hid (SmallM m):=hm
 have HPW:Hid (p.wt≤1048576):=hw
 have htl:p.t.length≤1048576:=by
  unfold Pa.wt at hw
  simp only [yah,yan]at hw
  omega
 obtain⟨_,_,_,rfl,⟨ai,ci,rfl,_⟩,⟨ah,ch,rfl,_⟩,⟨ae,ce,rfl,_⟩⟩:=h
 obtain⟨u1,u4,u5,u6,rfl,h1,h4,h5,h6⟩:=h'
 obtain⟨a1,c1,rfl⟩:=yay (c:=1) (n:=p.st.r.length) h1
 obtain⟨a4,c4,rfl⟩:=yay (c:=12) (n:=p.p.length) h4
 have g5:=h5.isEvs
 obtain⟨a5,c5,rfl,_⟩:=h5.isEvs
 obtain⟨a6,c6,rfl⟩:=yay (c:=1) (n:=p.a.length) h6
 have HT:Hid (p.t= []∨ ∃b off,a5=some ⟨b,off,none⟩∧EvsAt w b off p.t):=g5.rows
 clear h1 h4 h5 h6 hw hm g5
 obtain⟨PB,hPB⟩:∃PB,PB=w.heap.size+1:=⟨_,rfl⟩
 obtain⟨W0,hW0⟩:∃W0,(w.alloc (.cells #[.int .i64 m.n,.int .i64 m.s,.slice ai m.i.length ci,.slice ah m.h.length ch,.slice ae m.e.length ce,.int .i64 m.z] 36)).alloc (.cells #[.int .i64 p.n,.slice a1 p.st.r.length c1,.int .i64 p.st.q,.int .i64 p.st.d,.slice a4 p.p.length c4,.slice a5 p.t.length c5,.slice a6 p.a.length c6] 97)=W0:=⟨_,rfl⟩
 have HB0:Hid (Below w.heap.size w W0):=by rw [←hW0];exact((Below.refl _ w).alloc (Nat.le_refl _) _).alloc (by simp) _
 have HM0:Hid (Bk W0 w.heap.size 36 #[.int .i64 m.n,.int .i64 m.s,.slice ai m.i.length ci,.slice ah m.h.length ch,.slice ae m.e.length ce,.int .i64 m.z]):=by rw [←hW0];exact(Bk.new w _ _).alloc _
 have HP0:Hid (Bk W0 PB 97 #[.int .i64 p.n,.slice a1 p.st.r.length c1,.int .i64 p.st.q,.int .i64 p.st.d,.slice a4 p.p.length c4,.slice a5 p.t.length c5,.slice a6 p.a.length c6]):=by rw [←hW0,hPB];exact Bk.newAt (by simp) _ _
 have HW:Hid ((w.alloc (.cells #[.int .i64 m.n,.int .i64 m.s,.slice ai m.i.length ci,.slice ah m.h.length ch,.slice ae m.e.length ce,.int .i64 m.z] 36)).alloc (.cells #[.int .i64 p.n,.slice a1 p.st.r.length c1,.int .i64 p.st.q,.int .i64 p.st.d,.slice a4 p.p.length c4,.slice a5 p.t.length c5,.slice a6 p.a.length c6] 97)=W0):=hW0
 have HPB:Hid (PB=w.heap.size+1):=hPB
 clear hW0 hPB
 have q0:=HM0.out.cell (i:=0) rfl
 have q1:=HM0.out.cell (i:=1) rfl
 have q2:=HM0.out.cell (i:=2) rfl
 have q3:=HM0.out.cell (i:=3) rfl
 have q4:=HM0.out.cell (i:=4) rfl
 have q5:=HM0.out.cell (i:=5) rfl
 go_enter Tryz.func98,Tryz.ntmps98
 go_wp2_with fail
 try rw [HW.out,←HPB.out]
 refine(sModM _ m _ HSM.out (HIM.out.below HB0.out)).mono ?_
 rintro e w1 ⟨rfl,hb⟩
 have HB1:Hid (Below w.heap.size w w1):=HB0.out.trans (hb.mono HB0.out.size)
 have HM1:Hid (Bk w1 w.heap.size 36 #[.int .i64 m.n,.int .i64 m.s,.slice ai m.i.length ci,.slice ah m.h.length ch,.slice ae m.e.length ce,.int .i64 m.z]):=HM0.out.below hb
 have HP1:Hid (Bk w1 PB 97 #[.int .i64 p.n,.slice a1 p.st.r.length c1,.int .i64 p.st.q,.int .i64 p.st.d,.slice a4 p.p.length c4,.slice a5 p.t.length c5,.slice a6 p.a.length c6]):=HP0.out.below hb
 clear hb q0 q1 q2 q3 q4 q5 HB0 HM0 HP0 HW
 cases hmo:m.ok with
 |false=>
  have HN:Hid (modB m p=false):=(by unfold modB;rw [hmo];rfl:modB m p=false)
  clear hmo
  go_wp2
  go_ret
  exact⟨ya1 HN.out.symm,HB1.out⟩
 |true=>
  have HMO:Hid (m.ok=true):=hmo
  clear hmo
  have q0:=HP1.out.cell (i:=0) rfl
  have q1:=HP1.out.cell (i:=1) rfl
  have q2:=HP1.out.cell (i:=2) rfl
  have q3:=HP1.out.cell (i:=3) rfl
  have q4:=HP1.out.cell (i:=4) rfl
  have q5:=HP1.out.cell (i:=5) rfl
  have q6:=HP1.out.cell (i:=6) rfl
  go_wp2_with fail
  try rw [←HPB.out]
  refine(yme _ p _ HPW.out (HIP.out.under HB1.out)).mono ?_
  rintro e w2 ⟨rfl,hb⟩
  have HB2:Hid (Below w.heap.size w w2):=HB1.out.trans (hb.mono HB1.out.size)
  have HM2:Hid (Bk w2 w.heap.size 36 #[.int .i64 m.n,.int .i64 m.s,.slice ai m.i.length ci,.slice ah m.h.length ch,.slice ae m.e.length ce,.int .i64 m.z]):=HM1.out.below hb
  have HP2:Hid (Bk w2 PB 97 #[.int .i64 p.n,.slice a1 p.st.r.length c1,.int .i64 p.st.q,.int .i64 p.st.d,.slice a4 p.p.length c4,.slice a5 p.t.length c5,.slice a6 p.a.length c6]):=HP1.out.below hb
  clear hb q0 q1 q2 q3 q4 q5 q6 HB1 HM1 HP1
  cases hpo:p.ok with
  |false=>
   have HN:Hid (modB m p=false):=(by unfold modB;rw [hpo,Bool.and_false,Bool.false_and,Bool.false_and]:modB m p=false)
   clear hpo
   go_wp2
   go_ret
   exact⟨ya1 HN.out.symm,HB2.out⟩
  |true=>
   have HPO:Hid (p.ok=true):=hpo
   clear hpo
   have q0:=HP2.out.cell (i:=0) rfl
   have z0:=HM2.out.cell (i:=0) rfl
   by_cases hlt0:p.n<m.n
   case neg=>
    have hge:m.n≤p.n:=by omega
    have HN:Hid (modB m p=false):=(by unfold modB;rw [decide_eq_false hlt0,Bool.and_false,Bool.false_and]:modB m p=false)
    clear hlt0
    go_wp2
    go_ret
    exact⟨ya1 HN.out.symm,HB2.out⟩
   have hge:¬m.n≤p.n:=by omega
   have HD:Hid (modB m p=allB p.t.length (fun i=>evIn m (evAt p.t i))):=(by unfold modB;rw [HMO.out,HPO.out,decide_eq_true hlt0];rfl:modB m p=_)
   clear hlt0
   go_wp2
   clear q0 z0 hge
   go_loopw [5] (fun i wr=>∃j:Nat,j≤p.t.length∧i= .int .i64 j∧Hid (∀i,i<j→evIn m (evAt p.t i)=true)∧Below w2.heap.size w2 wr) (fun i _=>p.t.length-(intOf i).toNat)
   case atStart=>exact⟨0,Nat.zero_le _,rfl,fun j hj=>by omega,Below.refl _ _⟩
   case round=>
    obtain⟨j,hj,rfl,HA,hB⟩:=hrel
    have HBr:Hid (Below w.heap.size w wr):=HB2.out.trans (hB.mono HB2.out.size)
    have HBr2:Hid (Below w2.heap.size w2 wr):=hB
    have HMr:Hid (Bk wr w.heap.size 36 #[.int .i64 m.n,.int .i64 m.s,.slice ai m.i.length ci,.slice ah m.h.length ch,.slice ae m.e.length ce,.int .i64 m.z]):=HM2.out.below hB
    have HPr:Hid (Bk wr PB 97 #[.int .i64 p.n,.slice a1 p.st.r.length c1,.int .i64 p.st.q,.int .i64 p.st.d,.slice a4 p.p.length c4,.slice a5 p.t.length c5,.slice a6 p.a.length c6]):=HP2.out.below hB
    clear hB
    by_cases hlt:j<p.t.length
    ·obtain⟨b,off,rfl,hb,hc⟩:=HT.out.resolve_left (by intro e;rw [e]at hlt;simp at hlt)
     have hbr:b<wr.heap.size:=Nat.lt_of_lt_of_le hb HBr.out.size
     have hin:Ev.In wr b (off+j*7) (evAt p.t j):=(hc j hlt).below HBr.out hb
     obtain⟨g0,g1,g2,g3,g4,g5,g6⟩:=hin.beyond hbr
     have q5:=HPr.out.cell (i:=5) rfl
     have HMq:Hid (∀q:Beyond wr,IsM q.w (.agg #[.int .i64 m.n,.int .i64 m.s,.slice ai m.i.length ci,.slice ah m.h.length ch,.slice ae m.e.length ce,.int .i64 m.z]) m):=fun q=>(HIM.out.below HBr.out).below q.h
     have hne:Nonempty (Beyond wr):=⟨⟨wr,Below.refl _ _⟩⟩
     have y0:=ya5 (i:=0) HMr.out rfl
     have y1:=ya5 (i:=1) HMr.out rfl
     have y2:=ya5 (i:=2) HMr.out rfl
     have y3:=ya5 (i:=3) HMr.out rfl
     have y4:=ya5 (i:=4) HMr.out rfl
     have y5:=ya5 (i:=5) HMr.out rfl
     have z5:=ya5 (i:=5) HPr.out rfl
     clear hc hin
     cases hev:evIn m (evAt p.t j)
     case false=>
      have K1:Hid (evIn m (evAt p.t j)=false):=hev
      have HN:Hid (modB m p=false):=by rw [HD.out];exact allB_no hlt hev
      clear hev
      go_wp2_with fail
      refine ya0 (by kernel_rfl) (by kernel_rfl) ?_
      repeat(go_big_quiet_step (first|(go_at_call 99;exact Beyond.of (ybk _ m (evAt p.t j) false K1.out _ (HMq.out _)))))
      refine wpQuiet_nil ?_
      rintro w3 ⟨⟨_,hb3⟩,rfl⟩
      have HB3:Hid (Below wr.heap.size wr w3):=hb3
      clear hb3
      go_wp2
      go_ret
      exact⟨ya1 HN.out.symm,HBr.out.trans (HB3.out.mono HBr.out.size)⟩
     have K1:Hid (evIn m (evAt p.t j)=true):=hev
     clear hev
     go_wp2_with fail
     refine ya0 (by kernel_rfl) (by kernel_rfl) ?_
     repeat(go_big_quiet_step (first|(go_at_call 99;exact Beyond.of (ybk _ m (evAt p.t j) true K1.out _ (HMq.out _)))))
     refine wpQuiet_nil ?_
     rintro w3 ⟨⟨_,hb3⟩,rfl⟩
     have HB3:Hid (Below wr.heap.size wr w3):=hb3
     clear hb3
     go_wp2
     go_roundw
     case rel=>exact⟨j+1,by omega,by go_num,fun i hi=>by
      by_cases e:i=j
      ·subst e;exact K1.out
      ·exact HA.out i (by omega),HBr2.out.trans (HB3.out.mono HBr2.out.size)⟩
     case measure=>simp [intOf];omega
    ·obtain rfl:p.t.length=j:=by omega
     have HY:Hid (modB m p=true):=by rw [HD.out];exact allB_yes HA.out
     have q5:=HPr.out.cell (i:=5) rfl
     go_wp2
     go_ret
     exact⟨ya1 HY.out.symm,HBr.out⟩
end Go.Proofs.YtmobiieoecjmdaaGreat
