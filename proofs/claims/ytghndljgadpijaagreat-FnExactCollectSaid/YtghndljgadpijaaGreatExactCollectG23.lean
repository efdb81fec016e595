/- KSa, KSb -/
import Derived.Test.YtghndljgadpijaaGreatExactCollectG01
import Derived.Test.YtghndljgadpijaaGreatExactCollectG21
import Derived.Test.YtghndljgadpijaaGreatExactCollectG17
import Derived.Test.YtghndljgadpijaaGreatExactCollectLMOkS
import Derived.Test.YtghndljgadpijaaGreatExactCollectG11
/- The specification's l3event, l4model, l5emit. -/
namespace Go.Proofs.YtghndljgadpijaaGreat
set_option maxHeartbeats 8000000
set_option maxRecDepth 100000
open Go.RowKit
theorem zal {p:Prop} (h:p):Hid p:=h
theorem ev_nums {e:Ev} (h:e.ok=true):0≤e.t∧e.t≤1000∧0≤e.d∧e.d≤3∧0≤e.k∧e.k≤3∧0≤e.v∧e.v≤999:=by
  have h':okB e.t e.s e.q e.d e.k e.v e.g=true:=h
  simp [okB]at h'
  omega
theorem sEvent (x:Value) (m:Md) (e:Ev) (w:World) (h:IsM w x m):
    Calls Tryz.prog 102 #[x,.agg #[.int .i64 e.t,.int .i64 e.s,.int .i64 e.q,.int .i64 e.d,.int .i64 e.k,.int .i64 e.v,.int .i64 e.g]] w fun r w'=>r= .returned (.bool (e.ok&&fitB m e.t e.d e.k))∧Below w.heap.size w w':=by
  obtain⟨vi,vh,vs,rfl,⟨ai,ci,rfl,_⟩,⟨ah,ch,rfl,hh1,hh2,_⟩,⟨ae,ce,rfl,_⟩⟩:=h
  obtain⟨W0,hW0⟩:∃W0,(w.alloc (.cells #[.int .i64 m.n,.int .i64 m.s,.slice ai m.i.length ci,.slice ah m.h.length ch,.slice ae m.e.length ce,.int .i64 m.z] 36)).alloc (.cells #[.int .i64 e.t,.int .i64 e.s,.int .i64 e.q,.int .i64 e.d,.int .i64 e.k,.int .i64 e.v,.int .i64 e.g] 90)=W0:=⟨_,rfl⟩
  have HM0:=hdq (bkA2 hW0)
  have HV0:=hdq (bkB2 hW0)
  have HB0:=hdq (beA2 hW0)
  obtain⟨v0,v1,v2,v3,v4,v5,v6⟩:=c7_7 HV0.out
  go_enter Tryz.func102,Tryz.ntmps102
  go_wp2_with fail
  clear v0 v1 v2 v3 v4 v5 v6 hW0
  refine(zis e.t e.s e.q e.d e.k e.v e.g _).mono ?_
  rintro r w1 ⟨rfl,hb⟩
  have HB1:=trh HB0 hb
  have v0:=(HV0.out.below hb).cell (i:=0) rfl
  have v3:=(HV0.out.below hb).cell (i:=3) rfl
  have v4:=(HV0.out.below hb).cell (i:=4) rfl
  have p0:=(HM0.out.below hb).cell (i:=0) rfl
  have p3:=(HM0.out.below hb).cell (i:=3) rfl
  have p5:=(HM0.out.below hb).cell (i:=5) rfl
  have heo':okB e.t e.s e.q e.d e.k e.v e.g=e.ok:=rfl
  rw [heo']
  clear hb HM0 HV0 HB0 heo'
  cases heo:e.ok with
  |false=>
    have HEO:Hid ((e.ok&&fitB m e.t e.d e.k)=false):=(by rw [heo];rfl:(e.ok&&fitB m e.t e.d e.k)=false)
    clear heo
    go_wp2
    go_ret
    exact⟨ye8 HEO.out.symm,HB1.out⟩
  |true=>
    obtain⟨_,_,hd0,_,hk0,_,_,_⟩:=ev_nums heo
    have HF:Hid ((e.ok&&fitB m e.t e.d e.k)=decide (e.d<m.n∧e.k<(m.h.length:Int)∧e.t≤m.z)):=(by rw [heo,Bool.true_and];unfold fitB;exact decide_eq_decide.2 (by omega):(e.ok&&fitB m e.t e.d e.k)=_)
    clear heo hd0 hk0
    go_wp2
    all_goals
      go_ret
      refine⟨?_,HB1.out⟩
      refine(?_:_=Ending.returned (.bool (decide (e.d<m.n∧e.k<(m.h.length:Int)∧e.t≤m.z)))).trans (ye8 HF.out.symm)
      first|exact ye8 (decide_eq_decide.2 (by omega))|exact ye8 (by simp;omega)|exact ye8 (decide_eq_false (by omega)).symm
theorem yyw (x:Value) (m:Md) (e:Ev) (b:Bool) (hb:evIn m e=b) (w:World) (h:IsM w x m):Calls Tryz.prog 102 #[x,e.val] w fun r w'=>r= .returned (.bool b)∧Below w.heap.size w w':=hb▸sEvent x m e w h
theorem sEmit5 (t l v:Int) (w:World):
    Calls Tryz.prog 177 #[.agg #[.int .i64 t,.int .i64 l,.int .i64 v]] w fun e w'=>e= .returned (.bool (Em.okB ⟨t,l,v⟩))∧Below w.heap.size w w':=by
  go_enter Tryz.func177,Tryz.ntmps177
  go_wp2
  all_goals
    go_ret
    refine⟨?_,(Below.refl _ _).alloc (Nat.le_refl _) _⟩
    first|exact yy5 (by simp [Em.okB];omega)|exact ye8 (by simp [Em.okB];omega)
theorem yoj {w:World} {P:Nat} {T:TypeId} {vs:Array Value} {i:Nat} {v:Value} (h:Bk w P T vs) (hv:vs[i]? =some v):∀q:Beyond w,q.w.cell? ⟨P,i,none⟩=some v:=fun q=>q.cell h.lt (h.cell hv)
theorem sModel4 (x y:Value) (m:Md) (p:Pa) (w:World) (hm:SmallM m) (hw:p.wt≤1048576) (h:IsM w x m) (h':IsPart w y p):
    Calls Tryz.prog 101 #[x,y] w fun e w'=>e= .returned (.bool (modB m p))∧Below w.heap.size w w':=by
  have HIM:Hid (IsM w x m):=h
  have HIP:Hid (IsPart w y p):=h'
  have HSM:Hid (SmallM m):=hm
  have HPW:Hid (p.wt≤1048576):=hw
  have htl:p.t.length≤1048576:=by
    unfold Pa.wt at hw
    simp only [ywf,yx0]at hw
    omega
  obtain⟨_,_,_,rfl,⟨ai,ci,rfl,_⟩,⟨ah,ch,rfl,_⟩,⟨ae,ce,rfl,_⟩⟩:=h
  obtain⟨u1,u4,u5,u6,rfl,h1,h4,h5,h6⟩:=h'
  obtain⟨a1,c1,rfl⟩:=yw8 (c:=1) (n:=p.st.r.length) h1
  obtain⟨a4,c4,rfl⟩:=yw8 (c:=12) (n:=p.p.length) h4
  have g5:=h5.isEvs
  obtain⟨a5,c5,rfl,_⟩:=h5.isEvs
  obtain⟨a6,c6,rfl⟩:=yw8 (c:=1) (n:=p.a.length) h6
  have HT:=zal g5.rows
  clear h1 h4 h5 h6 hw hm g5
  obtain⟨PB,hPB⟩:∃PB,PB=w.heap.size+1:=⟨_,rfl⟩
  obtain⟨W0,hW0⟩:∃W0,(w.alloc (.cells #[.int .i64 m.n,.int .i64 m.s,.slice ai m.i.length ci,.slice ah m.h.length ch,.slice ae m.e.length ce,.int .i64 m.z] 36)).alloc (.cells #[.int .i64 p.n,.slice a1 p.st.r.length c1,.int .i64 p.st.q,.int .i64 p.st.d,.slice a4 p.p.length c4,.slice a5 p.t.length c5,.slice a6 p.a.length c6] 97)=W0:=⟨_,rfl⟩
  have HB0:=hdq (beA2 hW0)
  have HM0:=hdq (bkA2 hW0)
  have HP0:Hid (Bk W0 PB 97 #[.int .i64 p.n,.slice a1 p.st.r.length c1,.int .i64 p.st.q,.int .i64 p.st.d,.slice a4 p.p.length c4,.slice a5 p.t.length c5,.slice a6 p.a.length c6]):=by rw [←hW0,hPB];exact Bk.newAt (by simp) _ _
  have HW:=zal hW0
  have HPB:=zal hPB
  clear hW0 hPB
  obtain⟨q0,q1,q2,q3,q4,q5⟩:=c6_6 HM0.out
  go_enter Tryz.func101,Tryz.ntmps101
  go_wp2_with fail
  try rw [HW.out,←HPB.out]
  refine(sModM _ m _ HSM.out (HIM.out.below HB0.out)).mono ?_
  rintro e w1 ⟨rfl,hb⟩
  have HB1:=trh HB0 hb
  have HM1:=zal (HM0.out.below hb)
  have HP1:=zal (HP0.out.below hb)
  clear hb q0 q1 q2 q3 q4 q5 HB0 HM0 HP0 HW
  cases hmo:m.ok with
  |false=>
    have HN:Hid (modB m p=false):=(by unfold modB;rw [hmo];rfl:modB m p=false)
    clear hmo
    go_wp2
    go_ret
    exact⟨ye8 HN.out.symm,HB1.out⟩
  |true=>
    have HMO:Hid (m.ok=true):=hmo
    clear hmo
    obtain⟨q0,q1,q2,q3,q4,q5,q6⟩:=c7_7 HP1.out
    go_wp2_with fail
    try rw [←HPB.out]
    refine(zlo _ p _ HPW.out (HIP.out.under HB1.out)).mono ?_
    rintro e w2 ⟨rfl,hb⟩
    have HB2:=trh HB1 hb
    have HM2:=zal (HM1.out.below hb)
    have HP2:=zal (HP1.out.below hb)
    clear hb q0 q1 q2 q3 q4 q5 q6 HB1 HM1 HP1
    cases hpo:p.ok with
    |false=>
      have HN:Hid (modB m p=false):=(by unfold modB;rw [hpo,Bool.and_false,Bool.false_and,Bool.false_and]:modB m p=false)
      clear hpo
      go_wp2
      go_ret
      exact⟨ye8 HN.out.symm,HB2.out⟩
    |true=>
      have HPO:Hid (p.ok=true):=hpo
      clear hpo
      have q0:=HP2.out.cell (i:=0) rfl
      have z0:=HM2.out.cell (i:=0) rfl
      by_cases hlt0:p.n<m.n
      case neg=>
        have hge:m.n≤p.n:=by omega
        have HN:Hid (modB m p=false):=(by unfold modB;rw [decide_eq_false hlt0,Bool.and_false,Bool.false_and]:modB m p=false)
        clear hlt0
        go_wp2
        go_ret
        exact⟨ye8 HN.out.symm,HB2.out⟩
      have hge:¬m.n≤p.n:=by omega
      have HD:Hid (modB m p=allB p.t.length (fun i=>evIn m (evAt p.t i))):=(by unfold modB;rw [HMO.out,HPO.out,decide_eq_true hlt0];rfl:modB m p=_)
      clear hlt0
      go_wp2
      clear q0 z0 hge
      go_loopw [5] (fun i wr=>∃j:Nat,j≤p.t.length∧i= .int .i64 j∧Hid (∀i,i<j→evIn m (evAt p.t i)=true)∧Below w2.heap.size w2 wr) (fun i _=>p.t.length-(intOf i).toNat)
      case atStart=>exact⟨0,Nat.zero_le _,rfl,fun j hj=>by omega,Below.refl _ _⟩
      case round=>
        obtain⟨j,hj,rfl,HA,hB⟩:=hrel
        have HBr:=trh HB2 hB
        have HBr2:=zal hB
        have HMr:=zal (HM2.out.below hB)
        have HPr:=zal (HP2.out.below hB)
        clear hB
        by_cases hlt:j<p.t.length
        · obtain⟨b,off,rfl,hb,hc⟩:=HT.out.resolve_left (by intro e;rw [e]at hlt;simp at hlt)
          have hbr:b<wr.heap.size:=Nat.lt_of_lt_of_le hb HBr.out.size
          have hin:Ev.In wr b (off+j*7) (evAt p.t j):=(hc j hlt).below HBr.out hb
          obtain⟨g0,g1,g2,g3,g4,g5,g6⟩:=hin.beyond hbr
          have q5:=HPr.out.cell (i:=5) rfl
          have HMq:Hid (∀q:Beyond wr,IsM q.w (.agg #[.int .i64 m.n,.int .i64 m.s,.slice ai m.i.length ci,.slice ah m.h.length ch,.slice ae m.e.length ce,.int .i64 m.z]) m):=fun q=>(HIM.out.below HBr.out).below q.h
          have hne:=neB wr
          have y0:=yoj (i:=0) HMr.out rfl
          have y1:=yoj (i:=1) HMr.out rfl
          have y2:=yoj (i:=2) HMr.out rfl
          have y3:=yoj (i:=3) HMr.out rfl
          have y4:=yoj (i:=4) HMr.out rfl
          have y5:=yoj (i:=5) HMr.out rfl
          have z5:=yoj (i:=5) HPr.out rfl
          clear hc hin
          cases hev:evIn m (evAt p.t j)
          case false=>
            have K1:=zal hev
            have HN:Hid (modB m p=false):=by rw [HD.out];exact allB_no hlt hev
            clear hev
            go_wp2_with fail
            refine wrb ?_
            repeat(go_big_quiet_step (first|(go_at_call 102;exact Beyond.of (yyw _ m (evAt p.t j) false K1.out _ (HMq.out _)))))
            refine wpQuiet_nil ?_
            rintro w3 ⟨⟨_,hb3⟩,rfl⟩
            have HB3:=zal hb3
            clear hb3
            go_wp2
            go_ret
            exact⟨ye8 HN.out.symm,trm HBr.out HB3.out⟩
          have K1:=zal hev
          clear hev
          go_wp2_with fail
          refine wrb ?_
          repeat(go_big_quiet_step (first|(go_at_call 102;exact Beyond.of (yyw _ m (evAt p.t j) true K1.out _ (HMq.out _)))))
          refine wpQuiet_nil ?_
          rintro w3 ⟨⟨_,hb3⟩,rfl⟩
          have HB3:=zal hb3
          clear hb3
          go_wp2
          go_roundw
          case rel=>exact⟨j+1,by omega,by go_num,fun i hi=>by
            by_cases e:i=j
            · subst e;exact K1.out
            · exact HA.out i (by omega),trm HBr2.out HB3.out⟩
          case measure=>simp [intOf];omega
        · obtain rfl:p.t.length=j:=by omega
          have HY:Hid (modB m p=true):=by rw [HD.out];exact allB_yes HA.out
          have q5:=HPr.out.cell (i:=5) rfl
          go_wp2
          go_ret
          exact⟨ye8 HY.out.symm,HBr.out⟩
end Go.Proofs.YtghndljgadpijaaGreat

/- The specification's l5gvt: what is first of all that is still to be done, or to come. -/
namespace Go.Proofs.YtghndljgadpijaaGreat
open Go.RowKit
theorem yyt {p:Prop} (h:p):Hid p:=h
def zEv:Ev:=⟨0,0,0,0,0,0,0⟩
def orZ (o:Option Ev):Ev:=o.getD zEv
def retE (o:Option Ev):Value:= .tuple #[(orZ o).val,.bool o.isSome]
def evA (e:Ev):Array Value:= #[.int .i64 e.t,.int .i64 e.s,.int .i64 e.q,.int .i64 e.d,.int .i64 e.k,.int .i64 e.v,.int .i64 e.g]
abbrev putEv (w:World) (P:Nat) (e:Ev):World:=((((((w.setCell ⟨P,0,none⟩ (.int .i64 e.t)).setCell ⟨P,1,none⟩ (.int .i64 e.s)).setCell ⟨P,2,none⟩ (.int .i64 e.q)).setCell ⟨P,3,none⟩ (.int .i64 e.d)).setCell ⟨P,4,none⟩ (.int .i64 e.k)).setCell ⟨P,5,none⟩ (.int .i64 e.v)).setCell ⟨P,6,none⟩ (.int .i64 e.g)
theorem Bk.putEv {w:World} {P:Nat} {a:Ev} (h:Bk w P 90 (evA a)) (e:Ev):Bk (putEv w P e) P 90 (evA e):=by
  unfold evA at h
  have h0:Bk (w.setCell ⟨P,0,none⟩ (.int .i64 e.t)) P 90 #[.int .i64 e.t,.int .i64 a.s,.int .i64 a.q,.int .i64 a.d,.int .i64 a.k,.int .i64 a.v,.int .i64 a.g]:=h.put 0 _
  have h1:Bk ((w.setCell ⟨P,0,none⟩ (.int .i64 e.t)).setCell ⟨P,1,none⟩ (.int .i64 e.s)) P 90 #[.int .i64 e.t,.int .i64 e.s,.int .i64 a.q,.int .i64 a.d,.int .i64 a.k,.int .i64 a.v,.int .i64 a.g]:=h0.put 1 _
  have h2:Bk (((w.setCell ⟨P,0,none⟩ (.int .i64 e.t)).setCell ⟨P,1,none⟩ (.int .i64 e.s)).setCell ⟨P,2,none⟩ (.int .i64 e.q)) P 90 #[.int .i64 e.t,.int .i64 e.s,.int .i64 e.q,.int .i64 a.d,.int .i64 a.k,.int .i64 a.v,.int .i64 a.g]:=h1.put 2 _
  have h3:Bk ((((w.setCell ⟨P,0,none⟩ (.int .i64 e.t)).setCell ⟨P,1,none⟩ (.int .i64 e.s)).setCell ⟨P,2,none⟩ (.int .i64 e.q)).setCell ⟨P,3,none⟩ (.int .i64 e.d)) P 90 #[.int .i64 e.t,.int .i64 e.s,.int .i64 e.q,.int .i64 e.d,.int .i64 a.k,.int .i64 a.v,.int .i64 a.g]:=h2.put 3 _
  have h4:Bk (((((w.setCell ⟨P,0,none⟩ (.int .i64 e.t)).setCell ⟨P,1,none⟩ (.int .i64 e.s)).setCell ⟨P,2,none⟩ (.int .i64 e.q)).setCell ⟨P,3,none⟩ (.int .i64 e.d)).setCell ⟨P,4,none⟩ (.int .i64 e.k)) P 90 #[.int .i64 e.t,.int .i64 e.s,.int .i64 e.q,.int .i64 e.d,.int .i64 e.k,.int .i64 a.v,.int .i64 a.g]:=h3.put 4 _
  have h5:Bk ((((((w.setCell ⟨P,0,none⟩ (.int .i64 e.t)).setCell ⟨P,1,none⟩ (.int .i64 e.s)).setCell ⟨P,2,none⟩ (.int .i64 e.q)).setCell ⟨P,3,none⟩ (.int .i64 e.d)).setCell ⟨P,4,none⟩ (.int .i64 e.k)).setCell ⟨P,5,none⟩ (.int .i64 e.v)) P 90 #[.int .i64 e.t,.int .i64 e.s,.int .i64 e.q,.int .i64 e.d,.int .i64 e.k,.int .i64 e.v,.int .i64 a.g]:=h4.put 5 _
  have h6:Bk (((((((w.setCell ⟨P,0,none⟩ (.int .i64 e.t)).setCell ⟨P,1,none⟩ (.int .i64 e.s)).setCell ⟨P,2,none⟩ (.int .i64 e.q)).setCell ⟨P,3,none⟩ (.int .i64 e.d)).setCell ⟨P,4,none⟩ (.int .i64 e.k)).setCell ⟨P,5,none⟩ (.int .i64 e.v)).setCell ⟨P,6,none⟩ (.int .i64 e.g)) P 90 #[.int .i64 e.t,.int .i64 e.s,.int .i64 e.q,.int .i64 e.d,.int .i64 e.k,.int .i64 e.v,.int .i64 e.g]:=h5.put 6 _
  exact h6
theorem yyg (w:World) (P:Nat) (e:Ev):Turns (fun b=>b=P) w (putEv w P e):=
  ((((((yag w P 0 _).trans (yag _ P 1 _)).trans (yag _ P 2 _)).trans (yag _ P 3 _)).trans (yag _ P 4 _)).trans (yag _ P 5 _)).trans (yag _ P 6 _)
theorem zde {l:List Pa} {i:Nat} (h:i<l.length):l.take (i+1)=l.take i++ [paAt l i]:=by
  rw [List.take_add_one,paAt]
  simp [List.getD,h]
theorem zbt {l:List Ml} {i:Nat} (h:i<l.length):l.take (i+1)=l.take i++ [mlAt l i]:=by
  rw [List.take_add_one,mlAt]
  simp [List.getD,h]
theorem zft {l:List Pa} {i:Nat} (h:i<l.length):yx3 (l.take (i+1))=yx3 (l.take i)++zgl (paAt l i):=by
  rw [zde h,zgk,zmm]
theorem zi5 {p:Pa} (h:p.t.length=0):zgl p= []:=by
  rw [zgl,List.length_eq_zero_iff.1 h]
  rfl
theorem zi4 {p:Pa} {n:Nat} (h:p.t.length=n+1):zgl p= [evAt p.t 0]:=by
  unfold zgl evAt
  cases e:p.t with
  |nil=>rw [e]at h;simp at h
  |cons a l=>simp
structure GvS (w wr:World) (KAv:Array Value) (RB G:Nat) (cur:Option Ev):Prop where
  kb:Bk wr w.heap.size 41 KAv
  rb:Bk wr RB 90 (evA zEv)
  gb:Bk wr G 90 (evA (orZ cur))
  be:Below w.heap.size w wr
theorem GvS.below {w wr w':World} {KAv:Array Value} {RB G:Nat} {cur:Option Ev} (h:GvS w wr KAv RB G cur) (hb:Below wr.heap.size wr w'):GvS w w' KAv RB G cur:=
  ⟨h.kb.below hb,h.rb.below hb,h.gb.below hb,h.be.trans (hb.mono h.be.size)⟩
theorem GvS.put {w wr:World} {KAv:Array Value} {RB G:Nat} {cur:Option Ev} (h:GvS w wr KAv RB G cur) (h0:w.heap.size<RB) (h1:RB<G) (e:Ev):GvS w (putEv wr G e) KAv RB G (some e):=
  ⟨h.kb.turns (yyg wr G e) (by omega),h.rb.turns (yyg wr G e) (by omega),h.gb.putEv e,h.be.trans ((yyg wr G e).to_below (fun k hk=>by omega) h.be.size)⟩
theorem GvS.ev {w wr:World} {KAv:Array Value} {RB G:Nat} {cur:Option Ev} (h:GvS w wr KAv RB G cur):Ev.In wr G 0 (orZ cur):=
  ⟨h.gb.cell (i:=0) rfl,h.gb.cell (i:=1) rfl,h.gb.cell (i:=2) rfl,h.gb.cell (i:=3) rfl,h.gb.cell (i:=4) rfl,h.gb.cell (i:=5) rfl,h.gb.cell (i:=6) rfl⟩
set_option maxRecDepth 100000 in
set_option maxHeartbeats 16000000 in
theorem sGvt5 (x:Value) (k:Kn) (w:World) (hs:ywy k) (h:IsKern w x k):
    Calls Tryz.prog 109 #[x] w fun e w'=>e= .returned (retE (gvtE k))∧Below w.heap.size w w':=by
  obtain⟨HSM0,hsk⟩:=hs
  have HSM:Hid (SmallM k.m):=HSM0
  obtain⟨hdl,hpl,hbl,hsl,hxl⟩:=yyp hsk
  have HWP:=yyt (yyf hsk)
  clear hsk HSM0
  obtain⟨ai,ci,ah,ch,ae,ce,ad,cd,ap,cp,ab,cb,au,cu,ax,cx,rfl,hm,hd,hp,hbg,hsu,hx⟩:=h.form
  have HM:=yyt hm
  have HD:=yyt hd
  have HPP:=yyt hp
  have HBG:=yyt hbg.rows
  have HSU:=yyt hsu.rows
  have HXX:=yyt hx.rows
  have HSUI:=yyt hsu
  have HXXI:=yyt hx
  have HK:=yyt h
  clear hm hd hp hbg hsu hx h
  clear HM HD HSU HXX HSUI HXXI HK HSM HWP
  obtain⟨RB,hRB⟩:∃RB,RB=w.heap.size+1:=⟨_,rfl⟩
  obtain⟨G,hG⟩:∃G,G=w.heap.size+2:=⟨_,rfl⟩
  have hr1:w.heap.size<RB:=by omega
  have hr2:RB<G:=by omega
  obtain⟨W0,hW0⟩:∃W0,((w.alloc (.cells #[.int .i64 k.m.n,.int .i64 k.m.s,.slice ai k.m.i.length ci,.slice ah k.m.h.length ch,.slice ae k.m.e.length ce,.int .i64 k.m.z,.slice ad k.d.length cd,.slice ap k.p.length cp,.slice ab k.b.length cb,.int .i64 k.t,.int .i64 k.q,.bool k.f,.slice au k.s.length cu,.slice ax k.x.length cx] 41)).alloc (.cells #[.int .i64 0,.int .i64 0,.int .i64 0,.int .i64 0,.int .i64 0,.int .i64 0,.int .i64 0] 90)).alloc (.cells #[.int .i64 0,.int .i64 0,.int .i64 0,.int .i64 0,.int .i64 0,.int .i64 0,.int .i64 0] 90)=W0:=⟨_,rfl⟩
  have HG0:Hid (GvS w W0 #[.int .i64 k.m.n,.int .i64 k.m.s,.slice ai k.m.i.length ci,.slice ah k.m.h.length ch,.slice ae k.m.e.length ce,.int .i64 k.m.z,.slice ad k.d.length cd,.slice ap k.p.length cp,.slice ab k.b.length cb,.int .i64 k.t,.int .i64 k.q,.bool k.f,.slice au k.s.length cu,.slice ax k.x.length cx] RB G none):=by
    rw [←hW0]
    refine⟨((Bk.new w _ _).alloc _).alloc _,?_,?_,(((Below.refl _ w).alloc (Nat.le_refl _) _).alloc (by simp) _).alloc (by simp;omega) _⟩
    · rw [hRB];exact(Bk.newAt (by simp) _ _).alloc _
    · rw [hG];exact Bk.newAt (by simp) _ _
  have HW:=yyt hW0
  have HRB:Hid (RB=w.heap.size+1∧G=w.heap.size+1+1):=⟨hRB,hG⟩
  clear hW0 hRB hG
  go_enter Tryz.func109,Tryz.ntmps109
  go_wp2
  rw [HW.out,←HRB.out.2,←HRB.out.1]
  clear HW HRB
  go_loopw [5,6] (fun f i wr=>∃j:Nat,j≤k.p.length∧i= .int .i64 j∧f= .bool (minE (yx3 (k.p.take j))).isSome∧GvS w wr #[.int .i64 k.m.n,.int .i64 k.m.s,.slice ai k.m.i.length ci,.slice ah k.m.h.length ch,.slice ae k.m.e.length ce,.int .i64 k.m.z,.slice ad k.d.length cd,.slice ap k.p.length cp,.slice ab k.b.length cb,.int .i64 k.t,.int .i64 k.q,.bool k.f,.slice au k.s.length cu,.slice ax k.x.length cx] RB G (minE (yx3 (k.p.take j)))) (fun _ i _=>k.p.length-(intOf i).toNat)
  case atStart=>exact⟨0,Nat.zero_le _,rfl,rfl,HG0.out⟩
  case round=>
    clear HG0
    obtain⟨j,hj,rfl,rfl,hS⟩:=hrel
    by_cases hlt:j<k.p.length
    · have HN:=yyt (zft hlt)
      generalize hc:yx3 (k.p.take j)=hl at hS HN⊢
      clear hc
      obtain⟨b,off,rfl,hPA⟩:=HPP.out.resolve_left (by intro e;rw [e]at hlt;simp at hlt)
      obtain⟨a1,c1,a4,c4,a5,c5,a6,c6,hp⟩:=(hPA.below hS.be).2 j hlt
      have hbr:b<wr.heap.size:=Nat.lt_of_lt_of_le hPA.1 hS.be.size
      have hne:=neB wr
      have k7:=yoj (i:=7) hS.kb rfl
      have f5:=hp.f5
      have hd5:=hp.d5.isEvs.rows
      have HS:Hid (GvS w wr (#[.int .i64 k.m.n,.int .i64 k.m.s,.slice ai k.m.i.length ci,.slice ah k.m.h.length ch,.slice ae k.m.e.length ce,.int .i64 k.m.z,.slice ad k.d.length cd,.slice (some ⟨b,off,none⟩) k.p.length cp,.slice ab k.b.length cb,.int .i64 k.t,.int .i64 k.q,.bool k.f,.slice au k.s.length cu,.slice ax k.x.length cx]) RB G (minE hl)):=hS
      have m7:=hS.kb.cell (i:=7) rfl
      have hki:(j:Int)<(k.p.length:Int):=by omega
      clear hPA hp hS
      by_cases h0:(paAt k.p j).t.length=0
      · have HNN:Hid (minE (yx3 (k.p.take (j+1)))=minE hl):=by show _=_;rw [HN.out,zi5 h0,List.append_nil]
        rw [h0]at f5
        have y5:∀q:Beyond wr,q.w.cell? ⟨b,off+j*7+5,none⟩=some (.slice a5 0 c5):=fun q=>q.cell hbr f5
        clear hd5 h0 f5 HN
        generalize hfl:(minE hl).isSome=fl
        have HFL:Hid ((minE hl).isSome=fl):=hfl
        clear hfl
        go_wp2_with fail
        refine wrb ?_
        repeat(go_big_quiet_step (fail))
        refine wpQuiet_nil ?_
        rintro w3 ⟨⟨_,hb3⟩,rfl⟩
        have HB3:=yyt hb3
        clear hb3
        go_wp2
        go_roundw
        case rel=>exact⟨j+1,by omega,by go_num,by rw [HNN.out,HFL.out],by rw [HNN.out];exact HS.out.below HB3.out⟩
        case measure=>simp [intOf];omega
      · obtain⟨n,hn⟩:∃n,(paAt k.p j).t.length=n+1:=⟨(paAt k.p j).t.length-1,by omega⟩
        have HH:=yyt (zi4 hn)
        obtain⟨b5,off5,rfl,hb5,hc5⟩:=hd5.resolve_left (by intro e;rw [e]at hn;simp at hn)
        have hev:Ev.In wr b5 off5 (evAt (paAt k.p j).t 0):=by
          have:=hc5 0 (by omega)
          simpa using this
        rw [hn]at f5
        have y5:∀q:Beyond wr,q.w.cell? ⟨b,off+j*7+5,none⟩=some (.slice (some ⟨b5,off5,none⟩) (n+1) c5):=fun q=>q.cell hbr f5
        obtain⟨e0,e1,e2,e3,e4,e5,e6⟩:=hev.beyond hb5
        have HEV:=yyt hev
        have HB5:Hid (b5<wr.heap.size∧b<wr.heap.size):=⟨hb5,hbr⟩
        have F5:=yyt f5
        clear hc5 h0 hn hev f5
        generalize evAt (paAt k.p j).t 0=ev at HH HEV e0 e1 e2 e3 e4 e5 e6
        have HSP:Hid (∀q:World,Below wr.heap.size wr q→GvS w (putEv q G ev) (#[.int .i64 k.m.n,.int .i64 k.m.s,.slice ai k.m.i.length ci,.slice ah k.m.h.length ch,.slice ae k.m.e.length ce,.int .i64 k.m.z,.slice ad k.d.length cd,.slice (some ⟨b,off,none⟩) k.p.length cp,.slice ab k.b.length cb,.int .i64 k.t,.int .i64 k.q,.bool k.f,.slice au k.s.length cu,.slice ax k.x.length cx]) RB G (some ev)):=fun q hq=>(HS.out.below hq).put hr1 hr2 ev
        cases hcur:minE hl with
        |none=>
          have HNN:Hid (minE (yx3 (k.p.take (j+1)))=some ev):=by show _=_;rw [HN.out,HH.out,zbj,hcur];rfl
          have HCUR:Hid (minE hl=none):=hcur
          clear hcur
          go_wp2_with fail
          refine wrb ?_
          repeat(go_big_quiet_step (fail))
          refine wpQuiet_nil ?_
          rintro w3 ⟨⟨_,hb3⟩,rfl⟩
          have HB3:=yyt hb3
          clear hb3
          obtain⟨g0,g1,g2,g3,g4,g5,g6⟩:=c7_7 ((HS.out.below HB3.out).gb)
          have gf:=(HS.out.below HB3.out).gb.free
          have r7:=(HS.out.below HB3.out).kb.cell (i:=7) rfl
          have r5:=(HB3.out.cell (p:=⟨b,_,none⟩) HB5.out.2).trans F5.out
          obtain⟨v0,v1,v2,v3,v4,v5,v6⟩:=HEV.out.below HB3.out HB5.out.1
          go_wp2
          clear g0 g1 g2 g3 g4 g5 g6 gf r7 r5 v0 v1 v2 v3 v4 v5 v6
          go_roundw
          case rel=>exact⟨j+1,by omega,by go_num,by rw [HNN.out];rfl,by rw [HNN.out];exact HSP.out _ HB3.out⟩
          case measure=>simp [intOf];omega
        |some g=>
          have HCUR:Hid (minE hl=some g):=hcur
          have hge:Ev.In wr G 0 g:=by have:=HS.out.ev;rw [hcur]at this;exact this
          obtain⟨d0,d1,d2,d3,d4,d5,d6⟩:=hge.beyond HS.out.gb.lt
          have HNS:Hid (minE (yx3 (k.p.take (j+1)))=if ev.cmp g<0 then some ev else some g):=by show _=_;rw [HN.out,HH.out,zbj,hcur];rfl
          clear hcur hge
          generalize hz:ev.cmp g=z at HNS
          have KZ:Hid (ev.cmp g=z):=hz
          clear hz
          by_cases hz0:z<0
          · have hdz:decide (z<0)=true:=decide_eq_true hz0
            have HNN:Hid (minE (yx3 (k.p.take (j+1)))=some ev):=by show _=_;rw [HNS.out,if_pos hz0]
            go_wp2_with fail
            refine wrb ?_
            repeat(go_big_quiet_step (first|(go_at_call 176;exact Beyond.of (yxa ev g z KZ.out _))))
            refine wpQuiet_nil ?_
            rintro w3 ⟨⟨_,hb3⟩,rfl⟩
            have HB3:=yyt hb3
            clear hb3
            obtain⟨g0,g1,g2,g3,g4,g5,g6⟩:=c7_7 ((HS.out.below HB3.out).gb)
            have gf:=(HS.out.below HB3.out).gb.free
            have r7:=(HS.out.below HB3.out).kb.cell (i:=7) rfl
            have r5:=(HB3.out.cell (p:=⟨b,_,none⟩) HB5.out.2).trans F5.out
            obtain⟨v0,v1,v2,v3,v4,v5,v6⟩:=HEV.out.below HB3.out HB5.out.1
            go_wp2
            clear g0 g1 g2 g3 g4 g5 g6 gf r7 r5 v0 v1 v2 v3 v4 v5 v6
            go_roundw
            case rel=>exact⟨j+1,by omega,by go_num,by rw [HNN.out];rfl,by rw [HNN.out];exact HSP.out _ HB3.out⟩
            case measure=>simp [intOf];omega
          · have hdz:decide (z<0)=false:=decide_eq_false hz0
            have HNN:Hid (minE (yx3 (k.p.take (j+1)))=some g):=by show _=_;rw [HNS.out,if_neg hz0]
            go_wp2_with fail
            refine wrb ?_
            repeat(go_big_quiet_step (first|(go_at_call 176;exact Beyond.of (yxa ev g z KZ.out _))))
            refine wpQuiet_nil ?_
            rintro w3 ⟨⟨_,hb3⟩,rfl⟩
            have HB3:=yyt hb3
            clear hb3
            go_wp2
            go_roundw
            case rel=>exact⟨j+1,by omega,by go_num,by rw [HNN.out];rfl,by rw [HNN.out,←HCUR.out];exact HS.out.below HB3.out⟩
            case measure=>simp [intOf];omega
    · obtain rfl:k.p.length=j:=by omega
      rw [List.take_length]at hS⊢
      have HS0:=yyt hS
      have m7:=hS.kb.cell (i:=7) rfl
      clear hS
      go_wp2
      clear m7
      go_loopw [5,7] (fun f i wr=>∃j:Nat,j≤k.b.length∧i= .int .i64 j∧f= .bool (minE (yx3 k.p++(k.b.take j).map (·.e))).isSome∧GvS w wr #[.int .i64 k.m.n,.int .i64 k.m.s,.slice ai k.m.i.length ci,.slice ah k.m.h.length ch,.slice ae k.m.e.length ce,.int .i64 k.m.z,.slice ad k.d.length cd,.slice ap k.p.length cp,.slice ab k.b.length cb,.int .i64 k.t,.int .i64 k.q,.bool k.f,.slice au k.s.length cu,.slice ax k.x.length cx] RB G (minE (yx3 k.p++(k.b.take j).map (·.e)))) (fun _ i _=>k.b.length-(intOf i).toNat)
      case atStart=>exact⟨0,Nat.zero_le _,rfl,by simp,by simpa using HS0.out⟩
      case round=>
        clear HS0
        obtain⟨j,hj,rfl,rfl,hS⟩:=hrel
        by_cases hlt:j<k.b.length
        · have HN:Hid (yx3 k.p++(k.b.take (j+1)).map (·.e)=(yx3 k.p++(k.b.take j).map (·.e))++ [(mlAt k.b j).e]):=(by rw [zbt hlt];simp:yx3 k.p++(k.b.take (j+1)).map (·.e)=_)
          generalize hc:yx3 k.p++(k.b.take j).map (·.e)=hl at hS HN⊢
          clear hc
          obtain⟨b,off,rfl,hb,hMA⟩:=HBG.out.resolve_left (by intro e;rw [e]at hlt;simp at hlt)
          have hbr:b<wr.heap.size:=Nat.lt_of_lt_of_le hb hS.be.size
          have hml:=(hMA j hlt).below hS.be hb
          have hev:Ev.In wr b (off+j*8) (mlAt k.b j).e:=⟨hml.f0,hml.f1,hml.f2,hml.f3,hml.f4,hml.f5,hml.f6⟩
          obtain⟨e0,e1,e2,e3,e4,e5,e6⟩:=hev.beyond hbr
          have hne:=neB wr
          have k8:=yoj (i:=8) hS.kb rfl
          have HS:Hid (GvS w wr (#[.int .i64 k.m.n,.int .i64 k.m.s,.slice ai k.m.i.length ci,.slice ah k.m.h.length ch,.slice ae k.m.e.length ce,.int .i64 k.m.z,.slice ad k.d.length cd,.slice ap k.p.length cp,.slice (some ⟨b,off,none⟩) k.b.length cb,.int .i64 k.t,.int .i64 k.q,.bool k.f,.slice au k.s.length cu,.slice ax k.x.length cx]) RB G (minE hl)):=hS
          have m8:=hS.kb.cell (i:=8) rfl
          have hki:(j:Int)<(k.b.length:Int):=by omega
          have HEV:=yyt hev
          have HB5:Hid (b<wr.heap.size):=hbr
          clear hMA hml hev hS
          generalize (mlAt k.b j).e=ev at HN HEV e0 e1 e2 e3 e4 e5 e6
          have HSP:Hid (∀q:World,Below wr.heap.size wr q→GvS w (putEv q G ev) (#[.int .i64 k.m.n,.int .i64 k.m.s,.slice ai k.m.i.length ci,.slice ah k.m.h.length ch,.slice ae k.m.e.length ce,.int .i64 k.m.z,.slice ad k.d.length cd,.slice ap k.p.length cp,.slice (some ⟨b,off,none⟩) k.b.length cb,.int .i64 k.t,.int .i64 k.q,.bool k.f,.slice au k.s.length cu,.slice ax k.x.length cx]) RB G (some ev)):=fun q hq=>(HS.out.below hq).put hr1 hr2 ev
          cases hcur:minE hl with
          |none=>
            have HNN:Hid (minE (yx3 k.p++(k.b.take (j+1)).map (·.e))=some ev):=by show _=_;rw [HN.out,zbj,hcur];rfl
            clear hcur
            go_wp2_with fail
            refine wrb ?_
            repeat(go_big_quiet_step (fail))
            refine wpQuiet_nil ?_
            rintro w3 ⟨⟨_,hb3⟩,rfl⟩
            have HB3:=yyt hb3
            clear hb3
            obtain⟨g0,g1,g2,g3,g4,g5,g6⟩:=c7_7 ((HS.out.below HB3.out).gb)
            have gf:=(HS.out.below HB3.out).gb.free
            have r7:=(HS.out.below HB3.out).kb.cell (i:=8) rfl
            obtain⟨v0,v1,v2,v3,v4,v5,v6⟩:=HEV.out.below HB3.out HB5.out
            go_wp2
            clear g0 g1 g2 g3 g4 g5 g6 gf r7 v0 v1 v2 v3 v4 v5 v6
            go_roundw
            case rel=>exact⟨j+1,by omega,by go_num,by rw [HNN.out];rfl,by rw [HNN.out];exact HSP.out _ HB3.out⟩
            case measure=>simp [intOf];omega
          |some g=>
            have HCUR:Hid (minE hl=some g):=hcur
            have hge:Ev.In wr G 0 g:=by have:=HS.out.ev;rw [hcur]at this;exact this
            obtain⟨d0,d1,d2,d3,d4,d5,d6⟩:=hge.beyond HS.out.gb.lt
            have HNS:Hid (minE (yx3 k.p++(k.b.take (j+1)).map (·.e))=if ev.cmp g<0 then some ev else some g):=by show _=_;rw [HN.out,zbj,hcur];rfl
            clear hcur hge
            generalize hz:ev.cmp g=z at HNS
            have KZ:Hid (ev.cmp g=z):=hz
            clear hz
            by_cases hz0:z<0
            · have hdz:decide (z<0)=true:=decide_eq_true hz0
              have HNN:Hid (minE (yx3 k.p++(k.b.take (j+1)).map (·.e))=some ev):=by show _=_;rw [HNS.out,if_pos hz0]
              go_wp2_with fail
              refine wrb ?_
              repeat(go_big_quiet_step (first|(go_at_call 176;exact Beyond.of (yxa ev g z KZ.out _))))
              refine wpQuiet_nil ?_
              rintro w3 ⟨⟨_,hb3⟩,rfl⟩
              have HB3:=yyt hb3
              clear hb3
              obtain⟨g0,g1,g2,g3,g4,g5,g6⟩:=c7_7 ((HS.out.below HB3.out).gb)
              have gf:=(HS.out.below HB3.out).gb.free
              have r7:=(HS.out.below HB3.out).kb.cell (i:=8) rfl
              obtain⟨v0,v1,v2,v3,v4,v5,v6⟩:=HEV.out.below HB3.out HB5.out
              go_wp2
              clear g0 g1 g2 g3 g4 g5 g6 gf r7 v0 v1 v2 v3 v4 v5 v6
              go_roundw
              case rel=>exact⟨j+1,by omega,by go_num,by rw [HNN.out];rfl,by rw [HNN.out];exact HSP.out _ HB3.out⟩
              case measure=>simp [intOf];omega
            · have hdz:decide (z<0)=false:=decide_eq_false hz0
              have HNN:Hid (minE (yx3 k.p++(k.b.take (j+1)).map (·.e))=some g):=by show _=_;rw [HNS.out,if_neg hz0]
              go_wp2_with fail
              refine wrb ?_
              repeat(go_big_quiet_step (first|(go_at_call 176;exact Beyond.of (yxa ev g z KZ.out _))))
              refine wpQuiet_nil ?_
              rintro w3 ⟨⟨_,hb3⟩,rfl⟩
              have HB3:=yyt hb3
              clear hb3
              go_wp2
              go_roundw
              case rel=>exact⟨j+1,by omega,by go_num,by rw [HNN.out];rfl,by rw [HNN.out,←HCUR.out];exact HS.out.below HB3.out⟩
              case measure=>simp [intOf];omega
        · obtain rfl:k.b.length=j:=by omega
          rw [List.take_length]at hS⊢
          have HGV:Hid (gvtE k=minE (yx3 k.p++k.b.map (·.e))):=(rfl:gvtE k=_)
          generalize minE (yx3 k.p++k.b.map (·.e))=cur at hS HGV⊢
          have HS:Hid (GvS w wr #[.int .i64 k.m.n,.int .i64 k.m.s,.slice ai k.m.i.length ci,.slice ah k.m.h.length ch,.slice ae k.m.e.length ce,.int .i64 k.m.z,.slice ad k.d.length cd,.slice ap k.p.length cp,.slice ab k.b.length cb,.int .i64 k.t,.int .i64 k.q,.bool k.f,.slice au k.s.length cu,.slice ax k.x.length cx] RB G cur):=hS
          have m8:=hS.kb.cell (i:=8) rfl
          obtain⟨g0,g1,g2,g3,g4,g5,g6⟩:=hS.ev
          obtain⟨r0,r1,r2,r3,r4,r5,r6⟩:=c7_7 hS.rb
          have rf:=hS.rb.free
          clear hS
          generalize hfl:cur.isSome=fl
          have HFL:Hid (cur.isSome=fl):=hfl
          clear hfl
          go_wp2
          clear m8 g0 g1 g2 g3 g4 g5 g6 r0 r1 r2 r3 r4 r5 r6 rf
          obtain⟨V,hV⟩:∃V,putEv wr RB (orZ cur)=V:=⟨_,rfl⟩
          have ht:=yyg wr RB (orZ cur)
          have hk:=HS.out.rb.putEv (orZ cur)
          rw [hV]at ht hk
          unfold putEv at hV
          rw [hV]
          have t0:V.cell? ⟨RB,0,none⟩=some (.int .i64 (orZ cur).t):=hk.cell (i:=0) rfl
          have t1:V.cell? ⟨RB,1,none⟩=some (.int .i64 (orZ cur).s):=hk.cell (i:=1) rfl
          have t2:V.cell? ⟨RB,2,none⟩=some (.int .i64 (orZ cur).q):=hk.cell (i:=2) rfl
          have t3:V.cell? ⟨RB,3,none⟩=some (.int .i64 (orZ cur).d):=hk.cell (i:=3) rfl
          have t4:V.cell? ⟨RB,4,none⟩=some (.int .i64 (orZ cur).k):=hk.cell (i:=4) rfl
          have t5:V.cell? ⟨RB,5,none⟩=some (.int .i64 (orZ cur).v):=hk.cell (i:=5) rfl
          have t6:V.cell? ⟨RB,6,none⟩=some (.int .i64 (orZ cur).g):=hk.cell (i:=6) rfl
          refine bodyPost_ret (v:= .tuple #[(orZ cur).val,.bool fl]) (by simp [results,Tryz.results109,go_sem,t0,t1,t2,t3,t4,t5,t6,Ev.val]) rfl ⟨by rw [HGV.out,retE,HFL.out],HS.out.be.trans (ht.to_below (fun b e=>by omega) HS.out.be.size)⟩
end Go.Proofs.YtghndljgadpijaaGreat

