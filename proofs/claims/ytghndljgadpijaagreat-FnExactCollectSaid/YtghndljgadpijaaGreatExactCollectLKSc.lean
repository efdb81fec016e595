/- The specification's l5sure. -/
import Derived.Test.YtghndljgadpijaaGreatExactCollectG01
import Derived.Test.YtghndljgadpijaaGreatExactCollectG23
namespace Go.Proofs.YtghndljgadpijaaGreat
open Go.RowKit
theorem ywv {p:Prop} (h:p):Hid p:=h
theorem ywj {b:Bool} (h:b=true→False):b=false:=by
  cases b
  · rfl
  · exact(h rfl).elim
theorem sureB_iff {k:Kn}:zaq k=true↔k.s.length≤2000∧k.x.length≤16000∧(∀i,i<k.s.length→zhb k.m k.s i=true)∧(∀i,i<k.x.length→(xAt k.x i).okB=true)∧gvtB k=true∧ ∀i,i<k.p.length→zb9 k.s (paAt k.p i)=true:=by
  unfold zaq
  simp only [Bool.and_eq_true,decide_eq_true_eq,allB_iff,and_assoc]
theorem sure1_iff {m:Md} {s:List Ev} {i:Nat}:zhb m s i=true↔evIn m (evAt s i)=true∧(evAt s i).g=0∧(0<i→(evAt s (i-1)).cmp (evAt s i)<0):=by
  unfold zhb
  simp only [Bool.and_eq_true,decide_eq_true_eq,and_assoc]
theorem behB_iff {s:List Ev} {e:Ev}:behB s e=true↔(s= []∨0<e.cmp (yyq s)):=by
  unfold behB
  simp only [Bool.or_eq_true,decide_eq_true_eq]
theorem past0B_iff {s:List Ev} {p:Pa}:zb9 s p=true↔(p.p= []∨behB s (psAt p.p 0).e=true):=by
  unfold zb9
  simp only [Bool.or_eq_true,decide_eq_true_eq]
theorem zau {k:Kn} {g:Ev} (h:gvtE k=some g):gvtB k=behB k.s g:=by unfold gvtB;rw [h]
theorem zd0 {k:Kn} (h:gvtE k=none):gvtB k=true:=by unfold gvtB;rw [h]
set_option maxRecDepth 100000 in
set_option maxHeartbeats 16000000 in
theorem sSure5 (x:Value) (k:Kn) (w:World) (hs:ywy k) (h:IsKern w x k):
    Calls Tryz.prog 103 #[x] w fun e w'=>e= .returned (.bool (zaq k))∧Below w.heap.size w w':=by
  have HSK:Hid (ywy k):=hs
  obtain⟨HSM0,hsk⟩:=hs
  have HSM:Hid (SmallM k.m):=HSM0
  obtain⟨hdl,hpl,hbl,hsl,hxl⟩:=yyp hsk
  have HWP:=ywv (yyf hsk)
  clear hsk HSM0
  obtain⟨ai,ci,ah,ch,ae,ce,ad,cd,ap,cp,ab,cb,au,cu,ax,cx,rfl,hm,hd,hp,hbg,hsu,hx⟩:=h.form
  have HM:=ywv hm
  have HD:=ywv hd
  have HPP:=ywv hp
  have HBG:=ywv hbg.rows
  have HSU:=ywv hsu.rows
  have HXX:=ywv hx.rows
  have HSUI:=ywv hsu
  have HXXI:=ywv hx
  have HK:=ywv h
  clear hm hd hp hbg hsu hx h
  obtain⟨W0,hW0⟩:=alIsKern HK.out 41
  have HB0:Hid (Below w.heap.size w W0):=by rw [←hW0];exact(Below.refl _ w).alloc (Nat.le_refl _) _
  have HP0:Hid (Bk W0 w.heap.size 41 #[.int .i64 k.m.n,.int .i64 k.m.s,.slice ai k.m.i.length ci,.slice ah k.m.h.length ch,.slice ae k.m.e.length ce,.int .i64 k.m.z,.slice ad k.d.length cd,.slice ap k.p.length cp,.slice ab k.b.length cb,.int .i64 k.t,.int .i64 k.q,.bool k.f,.slice au k.s.length cu,.slice ax k.x.length cx]):=by rw [←hW0];exact Bk.new w _ _
  have HW:=ywv hW0
  have hs0:w.heap.size<W0.heap.size:=HP0.out.lt
  clear hW0
  have q12:=HP0.out.cell (i:=12) rfl
  have q13:=HP0.out.cell (i:=13) rfl
  by_cases c1:k.s.length≤2000
  case neg=>
    have c1':(2000:Int)<(k.s.length:Int):=by omega
    have HN:Hid (zaq k=false):=ywj (fun h=>c1 (sureB_iff.1 h).1)
    have hw:=HW.out
    clear c1
    go_enter Tryz.func103,Tryz.ntmps103
    go_wp2
    go_ret
    exact⟨ye8 HN.out.symm,HB0.out⟩
  have c1':¬(2000:Int)<(k.s.length:Int):=by omega
  by_cases c2:k.x.length≤16000
  case neg=>
    have c2':(16000:Int)<(k.x.length:Int):=by omega
    have HN:Hid (zaq k=false):=ywj (fun h=>c2 (sureB_iff.1 h).2.1)
    have hw:=HW.out
    clear c2
    go_enter Tryz.func103,Tryz.ntmps103
    go_wp2
    go_ret
    exact⟨ye8 HN.out.symm,HB0.out⟩
  have c2':¬(16000:Int)<(k.x.length:Int):=by omega
  have HC12:Hid (k.s.length≤2000∧k.x.length≤16000):=⟨c1,c2⟩
  have hw:=HW.out
  go_enter Tryz.func103,Tryz.ntmps103
  go_wp2
  clear q12 q13 c1 c2 c1' c2' hw
  go_loopw [3] (fun i wr=>∃j:Nat,j≤k.s.length∧i= .int .i64 j∧Hid (∀i,i<j→zhb k.m k.s i=true)∧Below W0.heap.size W0 wr) (fun i _=>k.s.length-(intOf i).toNat)
  case atStart=>exact⟨0,Nat.zero_le _,rfl,fun j hj=>by omega,Below.refl _ _⟩
  case round=>
    obtain⟨j,hj,rfl,HA,hB⟩:=hrel
    have HBr:=trh HB0 hB
    have HBr2:=ywv hB
    have hPr:Bk wr w.heap.size 41 #[.int .i64 k.m.n,.int .i64 k.m.s,.slice ai k.m.i.length ci,.slice ah k.m.h.length ch,.slice ae k.m.e.length ce,.int .i64 k.m.z,.slice ad k.d.length cd,.slice ap k.p.length cp,.slice ab k.b.length cb,.int .i64 k.t,.int .i64 k.q,.bool k.f,.slice au k.s.length cu,.slice ax k.x.length cx]:=HP0.out.below hB
    clear hB
    by_cases hlt:j<k.s.length
    · obtain⟨b,off,rfl,hb,hc⟩:=HSU.out.resolve_left (by intro e;rw [e]at hlt;simp at hlt)
      have hbr:b<wr.heap.size:=Nat.lt_of_lt_of_le hb HBr.out.size
      have hin:Ev.In wr b (off+j*7) (evAt k.s j):=(hc j hlt).below HBr.out hb
      have HINP:Hid (0<j→Ev.In wr b (off+(j-1)*7) (evAt k.s (j-1))):=fun h0=>(hc (j-1) (by omega)).below HBr.out hb
      obtain⟨g0,g1,g2,g3,g4,g5,g6⟩:=hin.beyond hbr
      have HMq:Hid (∀q:Beyond wr,IsM q.w (.agg #[.int .i64 k.m.n,.int .i64 k.m.s,.slice ai k.m.i.length ci,.slice ah k.m.h.length ch,.slice ae k.m.e.length ce,.int .i64 k.m.z]) k.m):=fun q=>(HM.out.below HBr.out).below q.h
      have hne:=neB wr
      have m12:=hPr.cell (i:=12) rfl
      have y0:=yoj (i:=0) hPr rfl
      have y1:=yoj (i:=1) hPr rfl
      have y2:=yoj (i:=2) hPr rfl
      have y3:=yoj (i:=3) hPr rfl
      have y4:=yoj (i:=4) hPr rfl
      have y5:=yoj (i:=5) hPr rfl
      have y12:=yoj (i:=12) hPr rfl
      have hki:(j:Int)<(k.s.length:Int):=by omega
      clear hc hin hPr
      cases hev:evIn k.m (evAt k.s j)
      case false=>
        have K1:=ywv hev
        clear hev
        go_wp2_with fail
        refine wrb ?_
        repeat(go_big_quiet_step (first|(go_at_call 102;exact Beyond.of (yyw _ k.m (evAt k.s j) false K1.out _ (HMq.out _)))))
        refine wpQuiet_nil ?_
        rintro w3 ⟨⟨_,hb3⟩,rfl⟩
        have HB3:=ywv hb3
        clear hb3
        have HN:Hid (zaq k=false):=ywj (fun h=>by have h1:=sure1_iff.1 ((sureB_iff.1 h).2.2.1 j hlt);exact by rw [K1.out]at h1;cases h1.1)
        go_wp2
        go_ret
        exact⟨ye8 HN.out.symm,trm HBr.out HB3.out⟩
      have K1:=ywv hev
      clear hev
      by_cases k2:(evAt k.s j).g=0
      case neg=>
        have k2':((evAt k.s j).g !=0)=true:=by simpa using k2
        have K2:=ywv k2
        clear k2
        go_wp2_with fail
        refine wrb ?_
        repeat(go_big_quiet_step (first|(go_at_call 102;exact Beyond.of (yyw _ k.m (evAt k.s j) true K1.out _ (HMq.out _)))))
        refine wpQuiet_nil ?_
        rintro w3 ⟨⟨_,hb3⟩,rfl⟩
        have HB3:=ywv hb3
        clear hb3
        have HN:Hid (zaq k=false):=ywj (fun h=>by have h1:=sure1_iff.1 ((sureB_iff.1 h).2.2.1 j hlt);exact K2.out h1.2.1)
        go_wp2
        go_ret
        exact⟨ye8 HN.out.symm,trm HBr.out HB3.out⟩
      have k2':((evAt k.s j).g !=0)=false:=by simpa using k2
      have K2:Hid ((evAt k.s j).g=0):=k2
      clear k2
      by_cases k0:j=0
      · have hd:decide (0<j)=false:=decide_eq_false (by omega)
        have HK0:Hid (j=0):=k0
        clear k0
        go_wp2_with fail
        refine wrb ?_
        repeat(go_big_quiet_step (first|(go_at_call 102;exact Beyond.of (yyw _ k.m (evAt k.s j) true K1.out _ (HMq.out _)))))
        refine wpQuiet_nil ?_
        rintro w3 ⟨⟨_,hb3⟩,rfl⟩
        have HB3:=ywv hb3
        clear hb3
        have K9:Hid (zhb k.m k.s j=true):=sure1_iff.2 ⟨K1.out,K2.out,fun h0=>absurd h0 (by have:=HK0.out;omega)⟩
        go_wp2
        go_roundw
        case rel=>exact⟨j+1,by omega,by go_num,fun i hi=>by
          by_cases e:i=j
          · subst e;exact K9.out
          · exact HA.out i (by omega),trm HBr2.out HB3.out⟩
        case measure=>simp [intOf];omega
      have hd:decide (0<j)=true:=decide_eq_true (by omega)
      have hkp:(1:Int)≤(j:Int):=by omega
      have ek:((j:Int)-1).toNat=j-1:=by omega
      obtain⟨d0,d1,d2,d3,d4,d5,d6⟩:=(HINP.out (by omega)).beyond hbr
      generalize hz:(evAt k.s (j-1)).cmp (evAt k.s j)=z
      have KZ:=ywv hz
      have HK0:Hid (¬j=0):=k0
      clear hz k0
      by_cases hz0:0≤z
      · have hdz:decide ((0:Int)≤z)=true:=by simpa using hz0
        go_wp2_with fail
        refine wrb ?_
        repeat(go_big_quiet_step (first|(go_at_call 102;exact Beyond.of (yyw _ k.m (evAt k.s j) true K1.out _ (HMq.out _)))|(go_at_call 176;exact Beyond.of (yxa (evAt k.s (j-1)) (evAt k.s j) z KZ.out _))))
        refine wpQuiet_nil ?_
        rintro w3 ⟨⟨_,hb3⟩,rfl⟩
        have HB3:=ywv hb3
        clear hb3
        have HN:Hid (zaq k=false):=ywj (fun h=>by have h1:=sure1_iff.1 ((sureB_iff.1 h).2.2.1 j hlt);exact by have:=h1.2.2 (by have:=HK0.out;omega);rw [KZ.out]at this;omega)
        go_wp2
        go_ret
        exact⟨ye8 HN.out.symm,trm HBr.out HB3.out⟩
      · have hdz:decide ((0:Int)≤z)=false:=by simpa using hz0
        go_wp2_with fail
        refine wrb ?_
        repeat(go_big_quiet_step (first|(go_at_call 102;exact Beyond.of (yyw _ k.m (evAt k.s j) true K1.out _ (HMq.out _)))|(go_at_call 176;exact Beyond.of (yxa (evAt k.s (j-1)) (evAt k.s j) z KZ.out _))))
        refine wpQuiet_nil ?_
        rintro w3 ⟨⟨_,hb3⟩,rfl⟩
        have HB3:=ywv hb3
        clear hb3
        have K9:Hid (zhb k.m k.s j=true):=sure1_iff.2 ⟨K1.out,K2.out,fun h0=>by rw [KZ.out];omega⟩
        go_wp2
        go_roundw
        case rel=>exact⟨j+1,by omega,by go_num,fun i hi=>by
          by_cases e:i=j
          · subst e;exact K9.out
          · exact HA.out i (by omega),trm HBr2.out HB3.out⟩
        case measure=>simp [intOf];omega
    · obtain rfl:k.s.length=j:=by omega
      have HSA:=ywv HA.out
      have m12:=hPr.cell (i:=12) rfl
      obtain⟨W1,rfl⟩:∃W1,W1=wr:=⟨wr,rfl⟩
      have HB1:=ywv HBr.out
      have HP1:=ywv hPr
      clear hPr HBr HBr2 HA hj hlt
      go_wp2
      clear m12
      go_loopw [4] (fun i wr=>∃j:Nat,j≤k.x.length∧i= .int .i64 j∧Hid (∀i,i<j→(xAt k.x i).okB=true)∧Below W1.heap.size W1 wr) (fun i _=>k.x.length-(intOf i).toNat)
      case atStart=>exact⟨0,Nat.zero_le _,rfl,fun j hj=>by omega,Below.refl _ _⟩
      case round=>
        obtain⟨j,hj,rfl,HA,hB⟩:=hrel
        have HBr:=trh HB1 hB
        have HBr2:=ywv hB
        have HPr:=ywv (HP1.out.below hB)
        have m13:=HPr.out.cell (i:=13) rfl
        clear hB
        by_cases hlt:j<k.x.length
        · obtain⟨b,off,rfl,hb,hc⟩:=HXX.out.resolve_left (by intro e;rw [e]at hlt;simp at hlt)
          obtain⟨f0,f1,f2⟩:=(hc j hlt).below HBr.out hb
          have HE:Hid (xAt k.x j=⟨(xAt k.x j).t,(xAt k.x j).l,(xAt k.x j).v⟩):=(rfl:xAt k.x j=_)
          generalize (xAt k.x j).t=et at f0 HE
          generalize (xAt k.x j).l=el at f1 HE
          generalize (xAt k.x j).v=ev at f2 HE
          go_wp2_with fail
          clear f0 f1 f2 m13 hc
          refine(sEmit5 et el ev _).mono ?_
          rintro e w3 ⟨rfl,hb3⟩
          have HB3:=ywv hb3
          clear hb3
          cases hok:Em.okB ⟨et,el,ev⟩with
          |false=>
            have HN:Hid (zaq k=false):=ywj (fun h=>by have h1:=(sureB_iff.1 h).2.2.2.1 j hlt;rw [HE.out,hok]at h1;cases h1)
            clear hok
            go_wp2
            go_ret
            exact⟨ye8 HN.out.symm,trm HBr.out HB3.out⟩
          |true=>
            have K9:Hid ((xAt k.x j).okB=true):=by rw [HE.out];exact hok
            clear hok
            go_wp2
            go_roundw
            case rel=>exact⟨j+1,by omega,by go_num,fun i hi=>by
              by_cases e:i=j
              · subst e;exact K9.out
              · exact HA.out i (by omega),trm HBr2.out HB3.out⟩
            case measure=>simp [intOf];omega
        · obtain rfl:k.x.length=j:=by omega
          have HXA:=ywv HA.out
          clear HA HB1 HP1 HBr2 hj hlt
          obtain⟨W2,rfl⟩:∃W2,W2=wr:=⟨wr,rfl⟩
          have m0:=HPr.out.cell (i:=0) rfl
          have m1:=HPr.out.cell (i:=1) rfl
          have m2:=HPr.out.cell (i:=2) rfl
          have m3:=HPr.out.cell (i:=3) rfl
          have m4:=HPr.out.cell (i:=4) rfl
          have m5:=HPr.out.cell (i:=5) rfl
          have m6:=HPr.out.cell (i:=6) rfl
          have m7:=HPr.out.cell (i:=7) rfl
          have m8:=HPr.out.cell (i:=8) rfl
          have m9:=HPr.out.cell (i:=9) rfl
          have m10:=HPr.out.cell (i:=10) rfl
          have m11:=HPr.out.cell (i:=11) rfl
          have m12:=HPr.out.cell (i:=12) rfl
          go_wp2_with fail
          refine(sGvt5 _ k _ HSK.out (HK.out.under HBr.out)).mono ?_
          rintro e w4 ⟨rfl,hb4⟩
          have HB4:=trh HBr hb4
          have HP4:=ywv (HPr.out.below hb4)
          clear hb4 HBr HPr m0 m1 m2 m3 m4 m5 m6 m7 m8 m9 m10 m11 m12 m13
          have HGV:Hid (gvtE k=gvtE k):=(rfl:gvtE k=_)
          generalize hgv:gvtE k=gv
          have HGE:Hid (gvtE k=gv):=hgv
          clear hgv HGV
          by_cases hs0':k.s= []
          · have HS0:Hid (k.s= []):=hs0'
            have hsz:decide (0<k.s.length)=false:=decide_eq_false (by rw [hs0'];simp)
            have hsz2:¬(0:Int)<(k.s.length:Int):=by rw [hs0'];simp
            clear hs0'
            cases gv with
            |none=>
              rw [show retE (none)= .tuple #[.agg #[.int .i64 zEv.t,.int .i64 zEv.s,.int .i64 zEv.q,.int .i64 zEv.d,.int .i64 zEv.k,.int .i64 zEv.v,.int .i64 zEv.g],.bool false]from rfl]
              obtain⟨V,hV⟩:∃V,w4.alloc (.cells #[.int .i64 zEv.t,.int .i64 zEv.s,.int .i64 zEv.q,.int .i64 zEv.d,.int .i64 zEv.k,.int .i64 zEv.v,.int .i64 zEv.g] 90)=V:=⟨_,rfl⟩
              have HBV:Hid (Below w.heap.size w V):=by rw [←hV];exact HB4.out.alloc HB4.out.size _
              have HPV:Hid (Bk V w.heap.size 41 #[.int .i64 k.m.n,.int .i64 k.m.s,.slice ai k.m.i.length ci,.slice ah k.m.h.length ch,.slice ae k.m.e.length ce,.int .i64 k.m.z,.slice ad k.d.length cd,.slice ap k.p.length cp,.slice ab k.b.length cb,.int .i64 k.t,.int .i64 k.q,.bool k.f,.slice au k.s.length cu,.slice ax k.x.length cx]):=by rw [←hV];exact HP4.out.alloc _
              have hGV:=bkA hV
              have g0:∀q:Beyond V,q.w.cell? ⟨w4.heap.size,0,none⟩=some (.int .i64 zEv.t):=yoj (i:=0) hGV rfl
              have g1:∀q:Beyond V,q.w.cell? ⟨w4.heap.size,1,none⟩=some (.int .i64 zEv.s):=yoj (i:=1) hGV rfl
              have g2:∀q:Beyond V,q.w.cell? ⟨w4.heap.size,2,none⟩=some (.int .i64 zEv.q):=yoj (i:=2) hGV rfl
              have g3:∀q:Beyond V,q.w.cell? ⟨w4.heap.size,3,none⟩=some (.int .i64 zEv.d):=yoj (i:=3) hGV rfl
              have g4:∀q:Beyond V,q.w.cell? ⟨w4.heap.size,4,none⟩=some (.int .i64 zEv.k):=yoj (i:=4) hGV rfl
              have g5:∀q:Beyond V,q.w.cell? ⟨w4.heap.size,5,none⟩=some (.int .i64 zEv.v):=yoj (i:=5) hGV rfl
              have g6:∀q:Beyond V,q.w.cell? ⟨w4.heap.size,6,none⟩=some (.int .i64 zEv.g):=yoj (i:=6) hGV rfl
              have y12:=yoj (i:=12) HPV.out rfl
              have hne:=neB V
              clear hGV
              go_wp2_with fail
              refine wrb ?_
              repeat(go_big_quiet_step (fail))
              refine wpQuiet_nil ?_
              rintro w3 ⟨⟨_,hb3⟩,rfl⟩
              have HB3:=ywv hb3
              clear hb3
              have HB5:=trh HBV HB3.out
              have HP5:=ywv (HPV.out.below HB3.out)
              clear HBV HPV HB3 hV y12 g0 g1 g2 g3 g4 g5 g6 hne
              go_wp2
              go_loopw [7] (fun i wr=>i= .int .i64 0∧wr=w3) (fun _ _=>0)
              case atStart=>exact⟨rfl,rfl⟩
              case round=>
                obtain⟨rfl,hw⟩:=hrel
                have hw':=hw.symm
                clear hw
                subst hw'
                have m7:=HP5.out.cell (i:=7) rfl
                have m12:=HP5.out.cell (i:=12) rfl
                have HBE:=ywv HB5.out
                have HY:Hid (zaq k=true):=sureB_iff.2 ⟨HC12.out.1,HC12.out.2,HSA.out,HXA.out,zd0 HGE.out,fun i hi=>past0B_iff.2 (.inr (behB_iff.2 (.inl HS0.out)))⟩
                go_wp2
                all_goals
                  go_ret
                  exact⟨ye8 HY.out.symm,HBE.out⟩
            |some g=>
              rw [show retE (some g)= .tuple #[.agg #[.int .i64 g.t,.int .i64 g.s,.int .i64 g.q,.int .i64 g.d,.int .i64 g.k,.int .i64 g.v,.int .i64 g.g],.bool true]from rfl]
              obtain⟨V,hV⟩:∃V,w4.alloc (.cells #[.int .i64 g.t,.int .i64 g.s,.int .i64 g.q,.int .i64 g.d,.int .i64 g.k,.int .i64 g.v,.int .i64 g.g] 90)=V:=⟨_,rfl⟩
              have HBV:Hid (Below w.heap.size w V):=by rw [←hV];exact HB4.out.alloc HB4.out.size _
              have HPV:Hid (Bk V w.heap.size 41 #[.int .i64 k.m.n,.int .i64 k.m.s,.slice ai k.m.i.length ci,.slice ah k.m.h.length ch,.slice ae k.m.e.length ce,.int .i64 k.m.z,.slice ad k.d.length cd,.slice ap k.p.length cp,.slice ab k.b.length cb,.int .i64 k.t,.int .i64 k.q,.bool k.f,.slice au k.s.length cu,.slice ax k.x.length cx]):=by rw [←hV];exact HP4.out.alloc _
              have hGV:=bkA hV
              have g0:∀q:Beyond V,q.w.cell? ⟨w4.heap.size,0,none⟩=some (.int .i64 g.t):=yoj (i:=0) hGV rfl
              have g1:∀q:Beyond V,q.w.cell? ⟨w4.heap.size,1,none⟩=some (.int .i64 g.s):=yoj (i:=1) hGV rfl
              have g2:∀q:Beyond V,q.w.cell? ⟨w4.heap.size,2,none⟩=some (.int .i64 g.q):=yoj (i:=2) hGV rfl
              have g3:∀q:Beyond V,q.w.cell? ⟨w4.heap.size,3,none⟩=some (.int .i64 g.d):=yoj (i:=3) hGV rfl
              have g4:∀q:Beyond V,q.w.cell? ⟨w4.heap.size,4,none⟩=some (.int .i64 g.k):=yoj (i:=4) hGV rfl
              have g5:∀q:Beyond V,q.w.cell? ⟨w4.heap.size,5,none⟩=some (.int .i64 g.v):=yoj (i:=5) hGV rfl
              have g6:∀q:Beyond V,q.w.cell? ⟨w4.heap.size,6,none⟩=some (.int .i64 g.g):=yoj (i:=6) hGV rfl
              have y12:=yoj (i:=12) HPV.out rfl
              have hne:=neB V
              clear hGV
              go_wp2_with fail
              refine wrb ?_
              repeat(go_big_quiet_step (fail))
              refine wpQuiet_nil ?_
              rintro w3 ⟨⟨_,hb3⟩,rfl⟩
              have HB3:=ywv hb3
              clear hb3
              have HB5:=trh HBV HB3.out
              have HP5:=ywv (HPV.out.below HB3.out)
              clear HBV HPV HB3 hV y12 g0 g1 g2 g3 g4 g5 g6 hne
              go_wp2
              go_loopw [7] (fun i wr=>i= .int .i64 0∧wr=w3) (fun _ _=>0)
              case atStart=>exact⟨rfl,rfl⟩
              case round=>
                obtain⟨rfl,hw⟩:=hrel
                have hw':=hw.symm
                clear hw
                subst hw'
                have m7:=HP5.out.cell (i:=7) rfl
                have m12:=HP5.out.cell (i:=12) rfl
                have HBE:=ywv HB5.out
                have HY:Hid (zaq k=true):=sureB_iff.2 ⟨HC12.out.1,HC12.out.2,HSA.out,HXA.out,(by rw [zau HGE.out];exact behB_iff.2 (.inl HS0.out)),fun i hi=>past0B_iff.2 (.inr (behB_iff.2 (.inl HS0.out)))⟩
                go_wp2
                all_goals
                  go_ret
                  exact⟨ye8 HY.out.symm,HBE.out⟩
          have HSN:Hid (¬k.s= []):=hs0'
          have hsp:0<k.s.length:=List.length_pos_iff.2 hs0'
          have hsz:decide (0<k.s.length)=true:=decide_eq_true hsp
          have hsz2:(0:Int)<(k.s.length:Int):=by omega
          have hs1:(1:Int)≤(k.s.length:Int):=by omega
          have es:((k.s.length:Int)-1).toNat=k.s.length-1:=by omega
          obtain⟨b,off,rfl,hbl9,hcl⟩:=HSU.out.resolve_left hs0'
          have HLE:=ywv (hcl (k.s.length-1) (by omega))
          have HBL:Hid (b<w.heap.size):=hbl9
          clear hs0' hcl hbl9
          cases gv with
          |none=>
            rw [show retE (none)= .tuple #[.agg #[.int .i64 zEv.t,.int .i64 zEv.s,.int .i64 zEv.q,.int .i64 zEv.d,.int .i64 zEv.k,.int .i64 zEv.v,.int .i64 zEv.g],.bool false]from rfl]
            obtain⟨V,hV⟩:∃V,w4.alloc (.cells #[.int .i64 zEv.t,.int .i64 zEv.s,.int .i64 zEv.q,.int .i64 zEv.d,.int .i64 zEv.k,.int .i64 zEv.v,.int .i64 zEv.g] 90)=V:=⟨_,rfl⟩
            have HBV:Hid (Below w.heap.size w V):=by rw [←hV];exact HB4.out.alloc HB4.out.size _
            have HPV:Hid (Bk V w.heap.size 41 #[.int .i64 k.m.n,.int .i64 k.m.s,.slice ai k.m.i.length ci,.slice ah k.m.h.length ch,.slice ae k.m.e.length ce,.int .i64 k.m.z,.slice ad k.d.length cd,.slice ap k.p.length cp,.slice ab k.b.length cb,.int .i64 k.t,.int .i64 k.q,.bool k.f,.slice (some ⟨b,off,none⟩) k.s.length cu,.slice ax k.x.length cx]):=by rw [←hV];exact HP4.out.alloc _
            have hGV:=bkA hV
            have g0:∀q:Beyond V,q.w.cell? ⟨w4.heap.size,0,none⟩=some (.int .i64 zEv.t):=yoj (i:=0) hGV rfl
            have g1:∀q:Beyond V,q.w.cell? ⟨w4.heap.size,1,none⟩=some (.int .i64 zEv.s):=yoj (i:=1) hGV rfl
            have g2:∀q:Beyond V,q.w.cell? ⟨w4.heap.size,2,none⟩=some (.int .i64 zEv.q):=yoj (i:=2) hGV rfl
            have g3:∀q:Beyond V,q.w.cell? ⟨w4.heap.size,3,none⟩=some (.int .i64 zEv.d):=yoj (i:=3) hGV rfl
            have g4:∀q:Beyond V,q.w.cell? ⟨w4.heap.size,4,none⟩=some (.int .i64 zEv.k):=yoj (i:=4) hGV rfl
            have g5:∀q:Beyond V,q.w.cell? ⟨w4.heap.size,5,none⟩=some (.int .i64 zEv.v):=yoj (i:=5) hGV rfl
            have g6:∀q:Beyond V,q.w.cell? ⟨w4.heap.size,6,none⟩=some (.int .i64 zEv.g):=yoj (i:=6) hGV rfl
            have y12:=yoj (i:=12) HPV.out rfl
            have hne:=neB V
            clear hGV
            go_wp2_with fail
            refine wrb ?_
            repeat(go_big_quiet_step (fail))
            refine wpQuiet_nil ?_
            rintro w3 ⟨⟨_,hb3⟩,rfl⟩
            have HB3:=ywv hb3
            clear hb3
            have HB5:=trh HBV HB3.out
            have HP5:=ywv (HPV.out.below HB3.out)
            clear HBV HPV HB3 hV y12 g0 g1 g2 g3 g4 g5 g6 hne
            go_wp2
            go_loopw [7] (fun i wr=>∃j:Nat,j≤k.p.length∧i= .int .i64 j∧Hid (∀i,i<j→zb9 k.s (paAt k.p i)=true)∧Below w3.heap.size w3 wr) (fun i _=>k.p.length-(intOf i).toNat)
            case atStart=>exact⟨0,Nat.zero_le _,rfl,fun j hj=>by omega,Below.refl _ _⟩
            case round=>
              obtain⟨j,hj,rfl,HA,hB⟩:=hrel
              have HBr:=trh HB5 hB
              have HBr2:=ywv hB
              have HPr:=ywv (HP5.out.below hB)
              have m7:=HPr.out.cell (i:=7) rfl
              have m12:=HPr.out.cell (i:=12) rfl
              clear hB
              by_cases hlt:j<k.p.length
              · obtain⟨bp,op,rfl,hPA⟩:=HPP.out.resolve_left (by intro e;rw [e]at hlt;simp at hlt)
                obtain⟨a1,c1,a4,c4,a5,c5,a6,c6,hp⟩:=(hPA.below HBr.out).2 j hlt
                have hbr:bp<wr.heap.size:=Nat.lt_of_lt_of_le hPA.1 HBr.out.size
                have hne:=neB wr
                have y7:=yoj (i:=7) HPr.out rfl
                have y12:=yoj (i:=12) HPr.out rfl
                obtain⟨l0,l1,l2,l3,l4,l5,l6⟩:=(HLE.out.below HBr.out HBL.out).beyond (Nat.lt_of_lt_of_le HBL.out HBr.out.size)
                have f4:=hp.f4
                have hd4:=yz1 hp.d4
                have hki:(j:Int)<(k.p.length:Int):=by omega
                clear hPA hp
                by_cases h0:(paAt k.p j).p.length=0
                · rw [h0]at f4
                  have y4:∀q:Beyond wr,q.w.cell? ⟨bp,op+j*7+4,none⟩=some (.slice a4 0 c4):=fun q=>q.cell hbr f4
                  have HP0E:Hid ((paAt k.p j).p= []):=List.length_eq_zero_iff.1 h0
                  clear hd4 h0 f4
                  go_wp2_with fail
                  refine wrb ?_
                  repeat(go_big_quiet_step (fail))
                  refine wpQuiet_nil ?_
                  rintro w6 ⟨⟨_,hb6⟩,rfl⟩
                  have HB6:=ywv hb6
                  clear hb6
                  have K9:Hid (zb9 k.s (paAt k.p j)=true):=past0B_iff.2 (.inl HP0E.out)
                  go_wp2
                  go_roundw
                  case rel=>exact⟨j+1,by omega,by go_num,fun i hi=>by
                    by_cases e:i=j
                    · subst e;exact K9.out
                    · exact HA.out i (by omega),trm HBr2.out HB6.out⟩
                  case measure=>simp [intOf];omega
                · obtain⟨n,hn⟩:∃n,(paAt k.p j).p.length=n+1:=⟨(paAt k.p j).p.length-1,by omega⟩
                  obtain⟨b4,off4,rfl,hb4,hc4⟩:=hd4.resolve_left (by intro e;rw [e]at hn;simp at hn)
                  obtain⟨_,_,_,_,_,_,hpp⟩:=hc4 0 (by omega)
                  have hev:Ev.In wr b4 off4 (psAt (paAt k.p j).p 0).e:=by simpa using hpp.ev
                  obtain⟨e0,e1,e2,e3,e4,e5,e6⟩:=hev.beyond hb4
                  rw [hn]at f4
                  have y4:∀q:Beyond wr,q.w.cell? ⟨bp,op+j*7+4,none⟩=some (.slice (some ⟨b4,off4,none⟩) (n+1) c4):=fun q=>q.cell hbr f4
                  have HNE:Hid (¬(paAt k.p j).p= []):=fun e=>by rw [e]at hn;simp at hn
                  generalize hz:(psAt (paAt k.p j).p 0).e.cmp (evAt k.s (k.s.length-1))=z
                  have KZ:=ywv hz
                  clear hz hc4 hpp hev f4 h0 hn
                  by_cases hz0:z≤0
                  · have hdz:decide (z≤0)=true:=decide_eq_true hz0
                    go_wp2_with fail
                    refine wrb ?_
                    repeat(go_big_quiet_step (first|(go_at_call 176;exact Beyond.of (yxa (psAt (paAt k.p j).p 0).e (evAt k.s (k.s.length-1)) z KZ.out _))))
                    refine wpQuiet_nil ?_
                    rintro w6 ⟨⟨_,hb6⟩,rfl⟩
                    have HB6:=ywv hb6
                    clear hb6
                    have HN:Hid (zaq k=false):=ywj (fun h=>by
                      rcases past0B_iff.1 ((sureB_iff.1 h).2.2.2.2.2 j hlt)with h1|h1
                      · exact HNE.out h1
                      · rcases behB_iff.1 h1 with h2|h2
                        · exact HSN.out h2
                        · have h3:0<(psAt (paAt k.p j).p 0).e.cmp (evAt k.s (k.s.length-1)):=h2
                          rw [KZ.out]at h3
                          omega)
                    go_wp2
                    go_ret
                    exact⟨ye8 HN.out.symm,trm HBr.out HB6.out⟩
                  · have hdz:decide (z≤0)=false:=decide_eq_false hz0
                    go_wp2_with fail
                    refine wrb ?_
                    repeat(go_big_quiet_step (first|(go_at_call 176;exact Beyond.of (yxa (psAt (paAt k.p j).p 0).e (evAt k.s (k.s.length-1)) z KZ.out _))))
                    refine wpQuiet_nil ?_
                    rintro w6 ⟨⟨_,hb6⟩,rfl⟩
                    have HB6:=ywv hb6
                    clear hb6
                    have K9:Hid (zb9 k.s (paAt k.p j)=true):=past0B_iff.2 (.inr (behB_iff.2 (.inr (by show 0<(psAt (paAt k.p j).p 0).e.cmp (evAt k.s (k.s.length-1));rw [KZ.out];omega))))
                    go_wp2
                    go_roundw
                    case rel=>exact⟨j+1,by omega,by go_num,fun i hi=>by
                      by_cases e:i=j
                      · subst e;exact K9.out
                      · exact HA.out i (by omega),trm HBr2.out HB6.out⟩
                    case measure=>simp [intOf];omega
              · obtain rfl:k.p.length=j:=by omega
                have HBE:=ywv HBr.out
                have HY:Hid (zaq k=true):=sureB_iff.2 ⟨HC12.out.1,HC12.out.2,HSA.out,HXA.out,zd0 HGE.out,HA.out⟩
                go_wp2
                all_goals
                  go_ret
                  exact⟨ye8 HY.out.symm,HBE.out⟩
          |some g=>
            rw [show retE (some g)= .tuple #[.agg #[.int .i64 g.t,.int .i64 g.s,.int .i64 g.q,.int .i64 g.d,.int .i64 g.k,.int .i64 g.v,.int .i64 g.g],.bool true]from rfl]
            obtain⟨V,hV⟩:∃V,w4.alloc (.cells #[.int .i64 g.t,.int .i64 g.s,.int .i64 g.q,.int .i64 g.d,.int .i64 g.k,.int .i64 g.v,.int .i64 g.g] 90)=V:=⟨_,rfl⟩
            have HBV:Hid (Below w.heap.size w V):=by rw [←hV];exact HB4.out.alloc HB4.out.size _
            have HPV:Hid (Bk V w.heap.size 41 #[.int .i64 k.m.n,.int .i64 k.m.s,.slice ai k.m.i.length ci,.slice ah k.m.h.length ch,.slice ae k.m.e.length ce,.int .i64 k.m.z,.slice ad k.d.length cd,.slice ap k.p.length cp,.slice ab k.b.length cb,.int .i64 k.t,.int .i64 k.q,.bool k.f,.slice (some ⟨b,off,none⟩) k.s.length cu,.slice ax k.x.length cx]):=by rw [←hV];exact HP4.out.alloc _
            have hGV:=bkA hV
            have g0:∀q:Beyond V,q.w.cell? ⟨w4.heap.size,0,none⟩=some (.int .i64 g.t):=yoj (i:=0) hGV rfl
            have g1:∀q:Beyond V,q.w.cell? ⟨w4.heap.size,1,none⟩=some (.int .i64 g.s):=yoj (i:=1) hGV rfl
            have g2:∀q:Beyond V,q.w.cell? ⟨w4.heap.size,2,none⟩=some (.int .i64 g.q):=yoj (i:=2) hGV rfl
            have g3:∀q:Beyond V,q.w.cell? ⟨w4.heap.size,3,none⟩=some (.int .i64 g.d):=yoj (i:=3) hGV rfl
            have g4:∀q:Beyond V,q.w.cell? ⟨w4.heap.size,4,none⟩=some (.int .i64 g.k):=yoj (i:=4) hGV rfl
            have g5:∀q:Beyond V,q.w.cell? ⟨w4.heap.size,5,none⟩=some (.int .i64 g.v):=yoj (i:=5) hGV rfl
            have g6:∀q:Beyond V,q.w.cell? ⟨w4.heap.size,6,none⟩=some (.int .i64 g.g):=yoj (i:=6) hGV rfl
            have y12:=yoj (i:=12) HPV.out rfl
            have hne:=neB V
            clear hGV
            obtain⟨l0,l1,l2,l3,l4,l5,l6⟩:=(HLE.out.below HBV.out HBL.out).beyond (Nat.lt_of_lt_of_le HBL.out HBV.out.size)
            generalize hz:g.cmp (evAt k.s (k.s.length-1))=z
            have KZ:=ywv hz
            clear hz
            by_cases hz0:z≤0
            · have hdz:decide (z≤0)=true:=decide_eq_true hz0
              go_wp2_with fail
              refine wrb ?_
              repeat(go_big_quiet_step (first|(go_at_call 176;exact Beyond.of (yxa g (evAt k.s (k.s.length-1)) z KZ.out _))))
              refine wpQuiet_nil ?_
              rintro w3 ⟨⟨_,hb3⟩,rfl⟩
              have HB3:=ywv hb3
              clear hb3
              have HN:Hid (zaq k=false):=ywj (fun h=>by
                have h1:=(sureB_iff.1 h).2.2.2.2.1
                rw [zau HGE.out]at h1
                rcases behB_iff.1 h1 with h2|h2
                · exact HSN.out h2
                · have h3:0<g.cmp (evAt k.s (k.s.length-1)):=h2
                  rw [KZ.out]at h3
                  omega)
              go_wp2
              go_ret
              exact⟨ye8 HN.out.symm,trm HBV.out HB3.out⟩
            have hdz:decide (z≤0)=false:=decide_eq_false hz0
            have HGB:Hid (gvtB k=true):=by rw [zau HGE.out];exact behB_iff.2 (.inr (by show 0<g.cmp (evAt k.s (k.s.length-1));rw [KZ.out];omega))
            go_wp2_with fail
            refine wrb ?_
            repeat(go_big_quiet_step (first|(go_at_call 176;exact Beyond.of (yxa g (evAt k.s (k.s.length-1)) z KZ.out _))))
            refine wpQuiet_nil ?_
            rintro w3 ⟨⟨_,hb3⟩,rfl⟩
            have HB3:=ywv hb3
            clear hb3
            have HB5:=trh HBV HB3.out
            have HP5:=ywv (HPV.out.below HB3.out)
            clear HBV HPV HB3 hV y12 g0 g1 g2 g3 g4 g5 g6 hne
            clear hdz hz0 KZ l0 l1 l2 l3 l4 l5 l6
            go_wp2
            go_loopw [7] (fun i wr=>∃j:Nat,j≤k.p.length∧i= .int .i64 j∧Hid (∀i,i<j→zb9 k.s (paAt k.p i)=true)∧Below w3.heap.size w3 wr) (fun i _=>k.p.length-(intOf i).toNat)
            case atStart=>exact⟨0,Nat.zero_le _,rfl,fun j hj=>by omega,Below.refl _ _⟩
            case round=>
              obtain⟨j,hj,rfl,HA,hB⟩:=hrel
              have HBr:=trh HB5 hB
              have HBr2:=ywv hB
              have HPr:=ywv (HP5.out.below hB)
              have m7:=HPr.out.cell (i:=7) rfl
              have m12:=HPr.out.cell (i:=12) rfl
              clear hB
              by_cases hlt:j<k.p.length
              · obtain⟨bp,op,rfl,hPA⟩:=HPP.out.resolve_left (by intro e;rw [e]at hlt;simp at hlt)
                obtain⟨a1,c1,a4,c4,a5,c5,a6,c6,hp⟩:=(hPA.below HBr.out).2 j hlt
                have hbr:bp<wr.heap.size:=Nat.lt_of_lt_of_le hPA.1 HBr.out.size
                have hne:=neB wr
                have y7:=yoj (i:=7) HPr.out rfl
                have y12:=yoj (i:=12) HPr.out rfl
                obtain⟨l0,l1,l2,l3,l4,l5,l6⟩:=(HLE.out.below HBr.out HBL.out).beyond (Nat.lt_of_lt_of_le HBL.out HBr.out.size)
                have f4:=hp.f4
                have hd4:=yz1 hp.d4
                have hki:(j:Int)<(k.p.length:Int):=by omega
                clear hPA hp
                by_cases h0:(paAt k.p j).p.length=0
                · rw [h0]at f4
                  have y4:∀q:Beyond wr,q.w.cell? ⟨bp,op+j*7+4,none⟩=some (.slice a4 0 c4):=fun q=>q.cell hbr f4
                  have HP0E:Hid ((paAt k.p j).p= []):=List.length_eq_zero_iff.1 h0
                  clear hd4 h0 f4
                  go_wp2_with fail
                  refine wrb ?_
                  repeat(go_big_quiet_step (fail))
                  refine wpQuiet_nil ?_
                  rintro w6 ⟨⟨_,hb6⟩,rfl⟩
                  have HB6:=ywv hb6
                  clear hb6
                  have K9:Hid (zb9 k.s (paAt k.p j)=true):=past0B_iff.2 (.inl HP0E.out)
                  go_wp2
                  go_roundw
                  case rel=>exact⟨j+1,by omega,by go_num,fun i hi=>by
                    by_cases e:i=j
                    · subst e;exact K9.out
                    · exact HA.out i (by omega),trm HBr2.out HB6.out⟩
                  case measure=>simp [intOf];omega
                · obtain⟨n,hn⟩:∃n,(paAt k.p j).p.length=n+1:=⟨(paAt k.p j).p.length-1,by omega⟩
                  obtain⟨b4,off4,rfl,hb4,hc4⟩:=hd4.resolve_left (by intro e;rw [e]at hn;simp at hn)
                  obtain⟨_,_,_,_,_,_,hpp⟩:=hc4 0 (by omega)
                  have hev:Ev.In wr b4 off4 (psAt (paAt k.p j).p 0).e:=by simpa using hpp.ev
                  obtain⟨e0,e1,e2,e3,e4,e5,e6⟩:=hev.beyond hb4
                  rw [hn]at f4
                  have y4:∀q:Beyond wr,q.w.cell? ⟨bp,op+j*7+4,none⟩=some (.slice (some ⟨b4,off4,none⟩) (n+1) c4):=fun q=>q.cell hbr f4
                  have HNE:Hid (¬(paAt k.p j).p= []):=fun e=>by rw [e]at hn;simp at hn
                  generalize hz:(psAt (paAt k.p j).p 0).e.cmp (evAt k.s (k.s.length-1))=z
                  have KZ:=ywv hz
                  clear hz hc4 hpp hev f4 h0 hn
                  by_cases hz0:z≤0
                  · have hdz:decide (z≤0)=true:=decide_eq_true hz0
                    go_wp2_with fail
                    refine wrb ?_
                    repeat(go_big_quiet_step (first|(go_at_call 176;exact Beyond.of (yxa (psAt (paAt k.p j).p 0).e (evAt k.s (k.s.length-1)) z KZ.out _))))
                    refine wpQuiet_nil ?_
                    rintro w6 ⟨⟨_,hb6⟩,rfl⟩
                    have HB6:=ywv hb6
                    clear hb6
                    have HN:Hid (zaq k=false):=ywj (fun h=>by
                      rcases past0B_iff.1 ((sureB_iff.1 h).2.2.2.2.2 j hlt)with h1|h1
                      · exact HNE.out h1
                      · rcases behB_iff.1 h1 with h2|h2
                        · exact HSN.out h2
                        · have h3:0<(psAt (paAt k.p j).p 0).e.cmp (evAt k.s (k.s.length-1)):=h2
                          rw [KZ.out]at h3
                          omega)
                    go_wp2
                    go_ret
                    exact⟨ye8 HN.out.symm,trm HBr.out HB6.out⟩
                  · have hdz:decide (z≤0)=false:=decide_eq_false hz0
                    go_wp2_with fail
                    refine wrb ?_
                    repeat(go_big_quiet_step (first|(go_at_call 176;exact Beyond.of (yxa (psAt (paAt k.p j).p 0).e (evAt k.s (k.s.length-1)) z KZ.out _))))
                    refine wpQuiet_nil ?_
                    rintro w6 ⟨⟨_,hb6⟩,rfl⟩
                    have HB6:=ywv hb6
                    clear hb6
                    have K9:Hid (zb9 k.s (paAt k.p j)=true):=past0B_iff.2 (.inr (behB_iff.2 (.inr (by show 0<(psAt (paAt k.p j).p 0).e.cmp (evAt k.s (k.s.length-1));rw [KZ.out];omega))))
                    go_wp2
                    go_roundw
                    case rel=>exact⟨j+1,by omega,by go_num,fun i hi=>by
                      by_cases e:i=j
                      · subst e;exact K9.out
                      · exact HA.out i (by omega),trm HBr2.out HB6.out⟩
                    case measure=>simp [intOf];omega
              · obtain rfl:k.p.length=j:=by omega
                have HBE:=ywv HBr.out
                have HY:Hid (zaq k=true):=sureB_iff.2 ⟨HC12.out.1,HC12.out.2,HSA.out,HXA.out,HGB.out,HA.out⟩
                go_wp2
                all_goals
                  go_ret
                  exact⟨ye8 HY.out.symm,HBE.out⟩
end Go.Proofs.YtghndljgadpijaaGreat
