/- The specification's KernelOk. -/
import Derived.Test.YtghndljgadpijaaGreatExactCollectG01
import Derived.Test.YtghndljgadpijaaGreatExactCollectLKSf
import Derived.Test.YtghndljgadpijaaGreatExactCollectLVOk
namespace Go.Proofs.YtghndljgadpijaaGreat
open Go.RowKit
theorem yxl {p:Prop} (h:p):Hid p:=h
theorem ok_iff {k:Kn}:k.ok=true↔zot k=true∧(∀i,i<k.p.length→zm1 k i=true)∧(∀i,i<k.b.length→bag1 k i=true)∧zaq k=true∧zbd k=true:=by
  unfold Kn.ok
  simp only [Bool.and_eq_true,allB_iff,and_assoc]
theorem headK_iff {k:Kn}:zot k=true↔k.m.ok=true∧vok k.d=true∧(k.p.length:Int)=k.m.n∧k.b.length≤2000∧6≤k.t∧k.t≤99992∧ -1≤k.q∧k.q<4:=by
  unfold zot
  simp only [Bool.and_eq_true,decide_eq_true_eq,and_assoc]
theorem part1_iff {k:Kn} {i:Nat}:zm1 k i=true↔modB k.m (paAt k.p i)=true∧(paAt k.p i).n=(i:Int):=by
  unfold zm1
  simp only [Bool.and_eq_true,decide_eq_true_eq]
theorem bag1_iff {k:Kn} {i:Nat}:bag1 k i=true↔evIn k.m (mlAt k.b i).e=true∧(mlAt k.b i).e.g<k.t:=by
  unfold bag1
  simp only [Bool.and_eq_true,decide_eq_true_eq]
theorem zdg (x y:Value) (m:Md) (p:Pa) (b:Bool) (hb:modB m p=b) (w:World) (hm:SmallM m) (hw:p.wt≤1048576) (h:IsM w x m) (h':IsPart w y p):
    Calls Tryz.prog 101 #[x,y] w fun e w'=>e= .returned (.bool b)∧Below w.heap.size w w':=hb▸sModel4 x y m p w hm hw h h'
set_option maxRecDepth 100000 in
set_option maxHeartbeats 32000000 in
theorem zhe (x:Value) (k:Kn) (w:World) (hs:ywy k) (h:IsKern w x k):
    Calls Tryz.prog 37 #[x] w fun e w'=>e= .returned (.bool k.ok)∧Below w.heap.size w w':=by
  have HSK:Hid (ywy k):=hs
  obtain⟨HSM0,hsk⟩:=hs
  have HSM:Hid (SmallM k.m):=HSM0
  obtain⟨hdl,hpl,hbl,hsl,hxl⟩:=yyp hsk
  have HWP:=yxl (yyf hsk)
  clear hsk HSM0
  obtain⟨ai,ci,ah,ch,ae,ce,ad,cd,ap,cp,ab,cb,au,cu,ax,cx,rfl,hm,hd,hp,hbg,hsu,hx⟩:=h.form
  have HM:=yxl hm
  have HD:=yxl hd
  have HPP:=yxl hp
  have HBG:=yxl hbg.rows
  have HSU:=yxl hsu.rows
  have HXX:=yxl hx.rows
  have HSUI:=yxl hsu
  have HXXI:=yxl hx
  have HK:=yxl h
  clear hm hd hp hbg hsu hx h
  obtain⟨W0,hW0⟩:=alIsKern HK.out 41
  have HB0:Hid (Below w.heap.size w W0):=by rw [←hW0];exact(Below.refl _ w).alloc (Nat.le_refl _) _
  have HP0:Hid (Bk W0 w.heap.size 41 #[.int .i64 k.m.n,.int .i64 k.m.s,.slice ai k.m.i.length ci,.slice ah k.m.h.length ch,.slice ae k.m.e.length ce,.int .i64 k.m.z,.slice ad k.d.length cd,.slice ap k.p.length cp,.slice ab k.b.length cb,.int .i64 k.t,.int .i64 k.q,.bool k.f,.slice au k.s.length cu,.slice ax k.x.length cx]):=by rw [←hW0];exact Bk.new w _ _
  have HW:=yxl hW0
  have hs0:w.heap.size<W0.heap.size:=HP0.out.lt
  clear hW0
  have hw:=HW.out
  have q0:=HP0.out.cell (i:=0) rfl
  have q1:=HP0.out.cell (i:=1) rfl
  have q2:=HP0.out.cell (i:=2) rfl
  have q3:=HP0.out.cell (i:=3) rfl
  have q4:=HP0.out.cell (i:=4) rfl
  have q5:=HP0.out.cell (i:=5) rfl
  have q6:=HP0.out.cell (i:=6) rfl
  have q7:=HP0.out.cell (i:=7) rfl
  have q8:=HP0.out.cell (i:=8) rfl
  have q9:=HP0.out.cell (i:=9) rfl
  have q10:=HP0.out.cell (i:=10) rfl
  go_enter Tryz.func37,Tryz.ntmps37
  go_wp2_with fail
  clear q0 q1 q2 q3 q4 q5 q6 q7 q8 q9 q10 hw
  refine(sModM _ k.m _ HSM.out (HM.out.below HB0.out)).mono ?_
  rintro e w1 ⟨rfl,hb⟩
  have HB1:=trh HB0 hb
  have HP1:=yxl (HP0.out.below hb)
  clear hb HB0 HP0
  have q0:=HP1.out.cell (i:=0) rfl
  have q6:=HP1.out.cell (i:=6) rfl
  have q7:=HP1.out.cell (i:=7) rfl
  have q8:=HP1.out.cell (i:=8) rfl
  have q9:=HP1.out.cell (i:=9) rfl
  have q10:=HP1.out.cell (i:=10) rfl
  cases hmo:k.m.ok
  case false=>
    have HN:Hid (k.ok=false):=ywj (fun h=>by have h1:=headK_iff.1 (ok_iff.1 h).1;rw [hmo]at h1;cases h1.1)
    clear hmo
    go_wp2
    go_ret
    exact⟨ye8 HN.out.symm,HB1.out⟩
  have HMO:Hid (k.m.ok=true):=hmo
  clear hmo
  go_wp2_with fail
  refine(sVok_any _ k.d _ (by omega) (HD.out.below HB1.out)).mono ?_
  rintro e w2 ⟨rfl,hw2⟩
  have hw2':=hw2.symm
  clear hw2
  subst hw2'
  cases hvo:vok k.d
  case false=>
    have HN:Hid (k.ok=false):=ywj (fun h=>by have h1:=headK_iff.1 (ok_iff.1 h).1;rw [hvo]at h1;cases h1.2.1)
    clear hvo
    go_wp2
    go_ret
    exact⟨ye8 HN.out.symm,HB1.out⟩
  have HVO:Hid (vok k.d=true):=hvo
  clear hvo
  by_cases c3:(k.p.length:Int)=k.m.n
  case neg=>
    have c3':((k.p.length:Int) !=k.m.n)=true:=by simpa using c3
    have HN:Hid (k.ok=false):=ywj (fun h=>by have h1:=headK_iff.1 (ok_iff.1 h).1;exact c3 h1.2.2.1)
    go_wp2
    go_ret
    exact⟨ye8 HN.out.symm,HB1.out⟩
  have c3':((k.p.length:Int) !=k.m.n)=false:=by simpa using c3
  have HC3:=yxl c3
  clear c3
  by_cases c4:k.b.length≤2000
  case neg=>
    have c4':(2000:Int)<(k.b.length:Int):=by omega
    have HN:Hid (k.ok=false):=ywj (fun h=>by have h1:=headK_iff.1 (ok_iff.1 h).1;exact c4 h1.2.2.2.1)
    clear c4
    go_wp2
    go_ret
    exact⟨ye8 HN.out.symm,HB1.out⟩
  have c4':¬(2000:Int)<(k.b.length:Int):=by omega
  have Hc4:Hid (k.b.length≤2000):=c4
  clear c4
  by_cases c5:6≤k.t
  case neg=>
    have c5':k.t<6:=by omega
    have HN:Hid (k.ok=false):=ywj (fun h=>by have h1:=headK_iff.1 (ok_iff.1 h).1;exact c5 h1.2.2.2.2.1)
    clear c5
    go_wp2
    go_ret
    exact⟨ye8 HN.out.symm,HB1.out⟩
  have c5':¬k.t<6:=by omega
  have Hc5:Hid (6≤k.t):=c5
  clear c5
  by_cases c6:k.t≤99992
  case neg=>
    have c6':99992<k.t:=by omega
    have HN:Hid (k.ok=false):=ywj (fun h=>by have h1:=headK_iff.1 (ok_iff.1 h).1;exact c6 h1.2.2.2.2.2.1)
    clear c6
    go_wp2
    go_ret
    exact⟨ye8 HN.out.symm,HB1.out⟩
  have c6':¬99992<k.t:=by omega
  have Hc6:Hid (k.t≤99992):=c6
  clear c6
  by_cases c7: -1≤k.q
  case neg=>
    have c7':k.q< -1:=by omega
    have HN:Hid (k.ok=false):=ywj (fun h=>by have h1:=headK_iff.1 (ok_iff.1 h).1;exact c7 h1.2.2.2.2.2.2.1)
    clear c7
    go_wp2
    go_ret
    exact⟨ye8 HN.out.symm,HB1.out⟩
  have c7':¬k.q< -1:=by omega
  have Hc7:Hid (-1≤k.q):=c7
  clear c7
  by_cases c8:k.q<4
  case neg=>
    have c8':4≤k.q:=by omega
    have HN:Hid (k.ok=false):=ywj (fun h=>by have h1:=headK_iff.1 (ok_iff.1 h).1;exact c8 h1.2.2.2.2.2.2.2)
    clear c8
    go_wp2
    go_ret
    exact⟨ye8 HN.out.symm,HB1.out⟩
  have c8':¬4≤k.q:=by omega
  have Hc8:Hid (k.q<4):=c8
  clear c8
  have HHD:Hid (zot k=true):=headK_iff.2 ⟨HMO.out,HVO.out,HC3.out,Hc4.out,Hc5.out,Hc6.out,Hc7.out,Hc8.out⟩
  go_wp2
  clear q0 q6 q7 q8 q9 q10 c3' c4' c5' c6' c7' c8' HMO HVO HC3 Hc4 Hc5 Hc6 Hc7 Hc8
  go_loopw [3] (fun i wr=>∃j:Nat,j≤k.p.length∧i= .int .i64 j∧Hid (∀i,i<j→zm1 k i=true)∧Below w1.heap.size w1 wr) (fun i _=>k.p.length-(intOf i).toNat)
  case atStart=>exact⟨0,Nat.zero_le _,rfl,fun j hj=>by omega,Below.refl _ _⟩
  case round=>
    obtain⟨j,hj,rfl,HA,hB⟩:=hrel
    have HBr:=trh HB1 hB
    have HBr2:=yxl hB
    have hPr:Bk wr w.heap.size 41 #[.int .i64 k.m.n,.int .i64 k.m.s,.slice ai k.m.i.length ci,.slice ah k.m.h.length ch,.slice ae k.m.e.length ce,.int .i64 k.m.z,.slice ad k.d.length cd,.slice ap k.p.length cp,.slice ab k.b.length cb,.int .i64 k.t,.int .i64 k.q,.bool k.f,.slice au k.s.length cu,.slice ax k.x.length cx]:=HP1.out.below hB
    clear hB
    by_cases hlt:j<k.p.length
    · obtain⟨b,off,rfl,hPA⟩:=HPP.out.resolve_left (by intro e;rw [e]at hlt;simp at hlt)
      obtain⟨a1,c1,a4,c4,a5,c5,a6,c6,hp⟩:=(hPA.below HBr.out).2 j hlt
      have hbr:b<wr.heap.size:=Nat.lt_of_lt_of_le hPA.1 HBr.out.size
      have hne:=neB wr
      have HMq:Hid (∀q:Beyond wr,IsM q.w (.agg #[.int .i64 k.m.n,.int .i64 k.m.s,.slice ai k.m.i.length ci,.slice ah k.m.h.length ch,.slice ae k.m.e.length ce,.int .i64 k.m.z]) k.m):=fun q=>(HM.out.below HBr.out).below q.h
      have HPq:Hid (∀q:Beyond wr,IsPart q.w (.agg #[.int .i64 (paAt k.p j).n,.slice a1 (paAt k.p j).st.r.length c1,.int .i64 (paAt k.p j).st.q,.int .i64 (paAt k.p j).st.d,.slice a4 (paAt k.p j).p.length c4,.slice a5 (paAt k.p j).t.length c5,.slice a6 (paAt k.p j).a.length c6]) (paAt k.p j)):=fun q=>hp.isPart.under q.h
      have HWj:=yxl (HWP.out j hlt)
      have m7:=hPr.cell (i:=7) rfl
      have y0:=yoj (i:=0) hPr rfl
      have y1:=yoj (i:=1) hPr rfl
      have y2:=yoj (i:=2) hPr rfl
      have y3:=yoj (i:=3) hPr rfl
      have y4:=yoj (i:=4) hPr rfl
      have y5:=yoj (i:=5) hPr rfl
      have y7:=yoj (i:=7) hPr rfl
      have x0:∀q:Beyond wr,q.w.cell? ⟨b,off+j*7,none⟩=some (.int .i64 (paAt k.p j).n):=fun q=>q.cell hbr hp.f0
      have x1:∀q:Beyond wr,q.w.cell? ⟨b,off+j*7+1,none⟩=some (.slice a1 (paAt k.p j).st.r.length c1):=fun q=>q.cell hbr hp.f1
      have x2:∀q:Beyond wr,q.w.cell? ⟨b,off+j*7+2,none⟩=some (.int .i64 (paAt k.p j).st.q):=fun q=>q.cell hbr hp.f2
      have x3:∀q:Beyond wr,q.w.cell? ⟨b,off+j*7+3,none⟩=some (.int .i64 (paAt k.p j).st.d):=fun q=>q.cell hbr hp.f3
      have x4:∀q:Beyond wr,q.w.cell? ⟨b,off+j*7+4,none⟩=some (.slice a4 (paAt k.p j).p.length c4):=fun q=>q.cell hbr hp.f4
      have x5:∀q:Beyond wr,q.w.cell? ⟨b,off+j*7+5,none⟩=some (.slice a5 (paAt k.p j).t.length c5):=fun q=>q.cell hbr hp.f5
      have x6:∀q:Beyond wr,q.w.cell? ⟨b,off+j*7+6,none⟩=some (.slice a6 (paAt k.p j).a.length c6):=fun q=>q.cell hbr hp.f6
      have hki:(j:Int)<(k.p.length:Int):=by omega
      clear hPA hp hPr
      cases hmb:modB k.m (paAt k.p j)
      case false=>
        have K1:=yxl hmb
        clear hmb
        go_wp2_with fail
        refine wrb ?_
        repeat(go_big_quiet_step (first|(go_at_call 101;exact Beyond.of (zdg _ _ k.m (paAt k.p j) false K1.out _ HSM.out HWj.out (HMq.out _) (HPq.out _)))))
        refine wpQuiet_nil ?_
        rintro w3 ⟨⟨_,hb3⟩,rfl⟩
        have HB3:=yxl hb3
        clear hb3
        have HN:Hid (k.ok=false):=ywj (fun h=>by have h1:=part1_iff.1 ((ok_iff.1 h).2.1 j hlt);rw [K1.out]at h1;cases h1.1)
        go_wp2
        go_ret
        exact⟨ye8 HN.out.symm,trm HBr.out HB3.out⟩
      have K1:=yxl hmb
      clear hmb
      by_cases hn:(paAt k.p j).n=(j:Int)
      case neg=>
        have hn':((paAt k.p j).n !=(j:Int))=true:=by simpa using hn
        have K2:=yxl hn
        clear hn
        go_wp2_with fail
        refine wrb ?_
        repeat(go_big_quiet_step (first|(go_at_call 101;exact Beyond.of (zdg _ _ k.m (paAt k.p j) true K1.out _ HSM.out HWj.out (HMq.out _) (HPq.out _)))))
        refine wpQuiet_nil ?_
        rintro w3 ⟨⟨_,hb3⟩,rfl⟩
        have HB3:=yxl hb3
        clear hb3
        have HN:Hid (k.ok=false):=ywj (fun h=>by have h1:=part1_iff.1 ((ok_iff.1 h).2.1 j hlt);exact K2.out h1.2)
        go_wp2
        go_ret
        exact⟨ye8 HN.out.symm,trm HBr.out HB3.out⟩
      have hn':((paAt k.p j).n !=(j:Int))=false:=by simpa using hn
      have K2:=yxl hn
      have K9:Hid (zm1 k j=true):=part1_iff.2 ⟨K1.out,K2.out⟩
      clear hn
      go_wp2_with fail
      refine wrb ?_
      repeat(go_big_quiet_step (first|(go_at_call 101;exact Beyond.of (zdg _ _ k.m (paAt k.p j) true K1.out _ HSM.out HWj.out (HMq.out _) (HPq.out _)))))
      refine wpQuiet_nil ?_
      rintro w3 ⟨⟨_,hb3⟩,rfl⟩
      have HB3:=yxl hb3
      clear hb3
      go_wp2
      go_roundw
      case rel=>exact⟨j+1,by omega,by go_num,fun i hi=>by
        by_cases e:i=j
        · subst e;exact K9.out
        · exact HA.out i (by omega),trm HBr2.out HB3.out⟩
      case measure=>simp [intOf];omega
    · obtain rfl:k.p.length=j:=by omega
      have HPA:=yxl HA.out
      obtain⟨W1,rfl⟩:∃W1,W1=wr:=⟨wr,rfl⟩
      have HB2:=yxl HBr.out
      have HP2:=yxl hPr
      have m7:=hPr.cell (i:=7) rfl
      clear hPr HBr HBr2 HA hj hlt
      go_wp2
      clear m7
      go_loopw [4] (fun i wr=>∃j:Nat,j≤k.b.length∧i= .int .i64 j∧Hid (∀i,i<j→bag1 k i=true)∧Below W1.heap.size W1 wr) (fun i _=>k.b.length-(intOf i).toNat)
      case atStart=>exact⟨0,Nat.zero_le _,rfl,fun j hj=>by omega,Below.refl _ _⟩
      case round=>
        obtain⟨j,hj,rfl,HA,hB⟩:=hrel
        have HBr:=trh HB2 hB
        have HBr2:=yxl hB
        have hPr:Bk wr w.heap.size 41 #[.int .i64 k.m.n,.int .i64 k.m.s,.slice ai k.m.i.length ci,.slice ah k.m.h.length ch,.slice ae k.m.e.length ce,.int .i64 k.m.z,.slice ad k.d.length cd,.slice ap k.p.length cp,.slice ab k.b.length cb,.int .i64 k.t,.int .i64 k.q,.bool k.f,.slice au k.s.length cu,.slice ax k.x.length cx]:=HP2.out.below hB
        clear hB
        by_cases hlt:j<k.b.length
        · obtain⟨b,off,rfl,hb,hMA⟩:=HBG.out.resolve_left (by intro e;rw [e]at hlt;simp at hlt)
          have hbr:b<wr.heap.size:=Nat.lt_of_lt_of_le hb HBr.out.size
          have hml:=(hMA j hlt).below HBr.out hb
          have hev:Ev.In wr b (off+j*8) (mlAt k.b j).e:=⟨hml.f0,hml.f1,hml.f2,hml.f3,hml.f4,hml.f5,hml.f6⟩
          obtain⟨e0,e1,e2,e3,e4,e5,e6⟩:=hev.beyond hbr
          have hne:=neB wr
          have HMq:Hid (∀q:Beyond wr,IsM q.w (.agg #[.int .i64 k.m.n,.int .i64 k.m.s,.slice ai k.m.i.length ci,.slice ah k.m.h.length ch,.slice ae k.m.e.length ce,.int .i64 k.m.z]) k.m):=fun q=>(HM.out.below HBr.out).below q.h
          have m8:=hPr.cell (i:=8) rfl
          have y0:=yoj (i:=0) hPr rfl
          have y1:=yoj (i:=1) hPr rfl
          have y2:=yoj (i:=2) hPr rfl
          have y3:=yoj (i:=3) hPr rfl
          have y4:=yoj (i:=4) hPr rfl
          have y5:=yoj (i:=5) hPr rfl
          have y8:=yoj (i:=8) hPr rfl
          have y9:=yoj (i:=9) hPr rfl
          have hki:(j:Int)<(k.b.length:Int):=by omega
          clear hMA hml hev hPr
          cases hmb:evIn k.m (mlAt k.b j).e
          case false=>
            have K1:=yxl hmb
            clear hmb
            go_wp2_with fail
            refine wrb ?_
            repeat(go_big_quiet_step (first|(go_at_call 102;exact Beyond.of (yyw _ k.m (mlAt k.b j).e false K1.out _ (HMq.out _)))))
            refine wpQuiet_nil ?_
            rintro w3 ⟨⟨_,hb3⟩,rfl⟩
            have HB3:=yxl hb3
            clear hb3
            have HN:Hid (k.ok=false):=ywj (fun h=>by have h1:=bag1_iff.1 ((ok_iff.1 h).2.2.1 j hlt);rw [K1.out]at h1;cases h1.1)
            go_wp2
            go_ret
            exact⟨ye8 HN.out.symm,trm HBr.out HB3.out⟩
          have K1:=yxl hmb
          clear hmb
          by_cases hn:(mlAt k.b j).e.g<k.t
          case neg=>
            have hn':decide (k.t≤(mlAt k.b j).e.g)=true:=decide_eq_true (by omega)
            have K2:=yxl hn
            clear hn
            go_wp2_with fail
            refine wrb ?_
            repeat(go_big_quiet_step (first|(go_at_call 102;exact Beyond.of (yyw _ k.m (mlAt k.b j).e true K1.out _ (HMq.out _)))))
            refine wpQuiet_nil ?_
            rintro w3 ⟨⟨_,hb3⟩,rfl⟩
            have HB3:=yxl hb3
            clear hb3
            have HN:Hid (k.ok=false):=ywj (fun h=>by have h1:=bag1_iff.1 ((ok_iff.1 h).2.2.1 j hlt);have h2:=K2.out;have h3:=h1.2;omega)
            go_wp2
            go_ret
            exact⟨ye8 HN.out.symm,trm HBr.out HB3.out⟩
          have hn':decide (k.t≤(mlAt k.b j).e.g)=false:=decide_eq_false (by omega)
          have K2:=yxl hn
          have K9:Hid (bag1 k j=true):=bag1_iff.2 ⟨K1.out,K2.out⟩
          clear hn
          go_wp2_with fail
          refine wrb ?_
          repeat(go_big_quiet_step (first|(go_at_call 102;exact Beyond.of (yyw _ k.m (mlAt k.b j).e true K1.out _ (HMq.out _)))))
          refine wpQuiet_nil ?_
          rintro w3 ⟨⟨_,hb3⟩,rfl⟩
          have HB3:=yxl hb3
          clear hb3
          go_wp2
          go_roundw
          case rel=>exact⟨j+1,by omega,by go_num,fun i hi=>by
            by_cases e:i=j
            · subst e;exact K9.out
            · exact HA.out i (by omega),trm HBr2.out HB3.out⟩
          case measure=>simp [intOf];omega
        · obtain rfl:k.b.length=j:=by omega
          have HBA:=yxl HA.out
          have HP3:=yxl hPr
          clear hPr HA hj hlt HBr2
          obtain⟨m0,m1,m2,m3,m4,m5,m6,m7,m8,m9,m10,m11,m12,m13⟩:=ywd HP3.out
          go_wp2_with fail
          refine(sSure5 _ k _ HSK.out (HK.out.under HBr.out)).mono ?_
          rintro e w5 ⟨rfl,hb5⟩
          have HB5:=trh HBr hb5
          have HP5:=yxl (HP3.out.below hb5)
          clear hb5 m0 m1 m2 m3 m4 m5 m6 m7 m8 m9 m10 m11 m12 m13
          cases hsu:zaq k
          case false=>
            have HN:Hid (k.ok=false):=ywj (fun h=>by have h1:=(ok_iff.1 h).2.2.2.1;rw [hsu]at h1;cases h1)
            clear hsu
            go_wp2
            go_ret
            exact⟨ye8 HN.out.symm,HB5.out⟩
          have HSB:Hid (zaq k=true):=hsu
          clear hsu
          obtain⟨m0,m1,m2,m3,m4,m5,m6,m7,m8,m9,m10,m11,m12,m13⟩:=ywd HP5.out
          go_wp2_with fail
          refine(sTags5 _ k _ HSK.out (HK.out.under HB5.out)).mono ?_
          rintro e w6 ⟨rfl,hb6⟩
          have HB6:=trh HB5 hb6
          have HOK:Hid (k.ok=zbd k):=(by
            cases e:zbd k
            · exact ywj (fun h=>by have h1:=(ok_iff.1 h).2.2.2.2;rw [e]at h1;cases h1)
            · exact ok_iff.2 ⟨HHD.out,HPA.out,HBA.out,HSB.out,e⟩:k.ok=_)
          clear hb6 m0 m1 m2 m3 m4 m5 m6 m7 m8 m9 m10 m11 m12 m13
          go_wp2
          go_ret
          exact⟨ye8 HOK.out.symm,HB6.out⟩
end Go.Proofs.YtghndljgadpijaaGreat
