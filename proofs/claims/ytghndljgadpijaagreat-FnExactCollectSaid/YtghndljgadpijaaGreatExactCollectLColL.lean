/- The specification's l5collect: what is settled goes over, in the kernel's own box. -/
import Derived.Test.YtghndljgadpijaaGreatExactCollectG01
import Derived.Test.YtghndljgadpijaaGreatExactCollectG36
import Derived.Test.YtghndljgadpijaaGreatExactCollectG35
namespace Go.Proofs.YtghndljgadpijaaGreat
open Go.RowKit
theorem zb8 {P:Program} {md:Region.Mode} {ops:Array Oper} {Q:Exit→Act→World→Prop} {S:World→Prop} {z fuel:Nat} {listed:Array Bool} {a:Act} {w:World} (i:Nat) (oi:Oper) (v:Value)
  (h:yx7 P md ops Q S z fuel (listed.setIfInBounds i true) (a.put oi.dst v) w) (hi:ops[i]? =some oi:=by rfl)
  (hs:Region.noSelect ops=true:=by kernel_rfl) (hf:Region.free md ops listed i=true:=by kernel_rfl) (hr:(Region.ready md ops listed).contains i=true:=by kernel_rfl)
  (hc:yzl md ops i z [i]=true:=by kernel_rfl) (hu: [i].all (fun p=> !listed.getD p true)=true:=by kernel_rfl)
  (hQ:∀c a w,Q (.panic c) (a.put oi.dst v) w→Q (.panic c) a w:=by exact fun _ _ _ h=>h)
  (hy:YieldsIf P ops S oi v a:=by exact Or.inl ⟨by rfl,by(intro wX hSw;(try dsimp only at hSw);go_simp;(try exact IntWalk.i64_in _ (by omega)))⟩) (hS:S w:=by assumption):yx7 P md ops Q S z (fuel+1) listed a w:=
  ywe i [] hi hs hf hr hc hu hQ hy hS h
theorem yzx {P:Program} {md:Region.Mode} {ops:Array Oper} {Q:Exit→Act→World→Prop} {S:World→Prop} {fuel:Nat} {listed:Array Bool} {a:Act} {w:World} (i:Nat) (oi:Oper) (v:Value)
  (h:wpAnyH P md ops Q S fuel (listed.setIfInBounds i true) (a.put oi.dst v) w) (hi:ops[i]? =some oi:=by rfl)
  (hs:Region.noSelect ops=true:=by kernel_rfl) (hf:Region.free md ops listed i=true:=by kernel_rfl) (hr:(Region.ready md ops listed).contains i=true:=by kernel_rfl)
  (hQ:∀c a w,Q (.panic c) (a.put oi.dst v) w→Q (.panic c) a w:=by exact fun _ _ _ h=>h)
  (hy:YieldsIf P ops S oi v a:=by exact Or.inl ⟨by rfl,by(intro wX hSw;(try dsimp only at hSw);go_simp;(try exact IntWalk.i64_in _ (by omega)))⟩) (hS:S w:=by assumption):wpAnyH P md ops Q S (fuel+1) listed a w:=
  wpAnyH_take hi hs hf hr hQ hy hS h
theorem ywx {p:Prop} (h:p):Hid p:=h
theorem InD.lt {F:Nat→Prop} {w:World} {x:Value} {d:Dat} (h:InD F w x d):InD (fun j=>F j∧j<w.heap.size) w x d:=by
  induction h with
  |val v=>exact .val v
  |nil a cap c f h=>exact .nil a cap c f h
  |row b off n cap c f U h1 h2 hF hb hc hs ih=>exact .row b off n cap c f U h1 h2 ⟨hF,hb⟩ hb hc ih
theorem zkb {w:World} {g m:Nat} {v0 v1 v2 v3 v4 v5 v6:Value} (h0:w.cell? ⟨g,m,none⟩=some v0) (h1:w.cell? ⟨g,m+1,none⟩=some v1) (h2:w.cell? ⟨g,m+2,none⟩=some v2) (h3:w.cell? ⟨g,m+3,none⟩=some v3) (h5:w.cell? ⟨g,m+5,none⟩=some v5) (h6:w.cell? ⟨g,m+6,none⟩=some v6):
    (((((((w.setCell ⟨g,m,none⟩ v0).setCell ⟨g,m+1,none⟩ v1).setCell ⟨g,m+2,none⟩ v2).setCell ⟨g,m+3,none⟩ v3).setCell ⟨g,m+4,none⟩ v4).setCell ⟨g,m+5,none⟩ v5).setCell ⟨g,m+6,none⟩ v6)=w.setCell ⟨g,m+4,none⟩ v4:=by
  rw [zbw h0,zbw h1,zbw h2,zbw h3,zbw (w:=w.setCell ⟨g,m+4,none⟩ v4) (j:=m+5) (by rw [zc5 (by omega)];exact h5),zbw (w:=w.setCell ⟨g,m+4,none⟩ v4) (j:=m+6) (by rw [zc5 (by omega)];exact h6)]
theorem cut_all (go:Option Ev) (l:List Pa) {w:World} {x:Value} (h:IsD w x (.row 7 l.length (yfa (zap go l.length l)))):IsD w x (ywi (l.map (cutP go))):=by
  have e:ywi (l.map (cutP go))= .row 7 l.length (yfa (zap go l.length l)):=by
    rw [zp9]
    show Dat.row 7 (l.map (cutP go)).length _=_
    rw [List.length_map]
  rw [e]
  exact h
set_option maxRecDepth 100000 in
set_option maxHeartbeats 64000000 in
theorem col5 (Ob:Nat) (k:Kn) (F:Nat→Prop) (xs:Array Value) (w:World) (hs:ywy k) (hok:k.ok=true) (hB:Bk w Ob 41 xs) (h:KernF F w (.agg xs) k) (hF:∀j,F j→j<w.heap.size) (hO:¬F Ob):
    Calls Tryz.prog 39 #[.pointer (some ⟨Ob,0,none⟩)] w fun e w'=>e= .returned (.int .i64 ((comL k).length:Int))∧(∃ys,Bk w' Ob 41 ys∧IsKern w' (.agg ys) (colK k))∧Turns (fun j=>j=Ob∨F j) w w':=by
  have HKI:=h.is
  obtain⟨A0,A6,A7,A8,A12,A13,vi,vh,vs,u6,u7,u8,u12,u13,hE,hm,h6,h7,h8,h12,h13,d0,d6,d7,d8,d12,d13⟩:=h
  cases hE
  obtain⟨ai,ci,ah,ch,ae,ce,hE⟩:=MdF.form hm
  cases hE
  obtain⟨ad,cd,rfl,_⟩:=OwnD.parts (c:=1) (n:=k.d.length) h6
  obtain⟨ap,cp,rfl,_⟩:=OwnD.parts (c:=7) (n:=k.p.length) h7
  obtain⟨ab,cb,rfl,_⟩:=OwnD.parts (c:=8) (n:=k.b.length) h8
  obtain⟨au,cu,rfl,_⟩:=OwnD.parts (c:=7) (n:=k.s.length) h12
  obtain⟨ax,cx,rfl,_⟩:=OwnD.parts (c:=3) (n:=k.x.length) h13
  have HSK:Hid (ywy k):=hs
  have HKK:Hid (k.ok=true):=hok
  have HK:=ywx HKI
  have HO0:=ywx hB
  have HMD:=ywx hm
  have HD6:=ywx h6
  have HD8:=ywx h8
  obtain⟨hrv,hgl0⟩:=OwnD.rowV (c:=7) (n:=k.p.length) (f:=yfa k.p) h7
  obtain⟨Gp,hGp⟩:∃Gp:Nat→Prop,Gp=fun j=>0<k.p.length∧ap=some ⟨j,0,none⟩:=⟨_,rfl⟩
  have hG:∀j,Gp j→A7 j∧j<w.heap.size:=fun j hj=>by rw [hGp]at hj;exact hgl0 j hj.1 hj.2
  have HGP:Hid (∀j,0<k.p.length→ap=some ⟨j,0,none⟩→Gp j):=fun j h1 h2=>by rw [hGp];exact⟨h1,h2⟩
  have HGQ:Hid (∀j,Gp j→ap=some ⟨j,0,none⟩):=fun j hj=>by rw [hGp]at hj;exact hj.2
  have HRV:=ywx hrv
  have HG:Hid (∀j,Gp j→F j∧j<w.heap.size∧ ¬A0 j∧ ¬A6 j∧ ¬A8 j):=fun j hj=>by
    obtain⟨h1,h2⟩:=hG j hj
    exact⟨(d7 j h1).1,h2,fun e=>(d0 j e).2.2.1 h1,fun e=>(d6 j e).2.1 h1,(d7 j h1).2.1⟩
  have HNO:Hid (¬A0 Ob∧ ¬A6 Ob∧ ¬A7 Ob∧ ¬A8 Ob∧ ¬Gp Ob):=⟨fun e=>hO (d0 _ e).1,fun e=>hO (d6 _ e).1,fun e=>hO (d7 _ e).1,fun e=>hO (d8 _ e).1,fun e=>hO (d7 _ (hG _ e).1).1⟩
  have HA7:Hid (∀j,A7 j→j<w.heap.size):=fun j hj=>hF j (d7 j hj).1
  have HWP:Hid (∀i,i<k.p.length→(paAt k.p i).wt≤1048577):=fun i hi=>Nat.le_trans (yyf hs.2 i hi) (by omega)
  have hOw:Ob<w.heap.size:=hB.lt
  have hN6:k.p.length≤1048576:=(yyp hs.2).2.1
  clear hs hok HKI hB hm h6 h7 h8 h12 h13 d0 d6 d7 d8 d12 d13 hF hO hrv hgl0 hG hGp
  obtain⟨m0,m1,m2,m3,m4,m5,m6,m7,m8,m9,m10,m11,m12,m13⟩:=ywd HO0.out
  go_enter Tryz.func39,Tryz.ntmps39
  go_wp2_with fail
  clear m0 m1 m2 m3 m4 m5 m6 m7 m8 m9 m10 m11 m12 m13
  refine(sCommit1 _ k _ HSK.out HKK.out HK.out).mono ?_
  rintro e w1 ⟨ay,cy,ax2,cx2,rfl,hC,hX,hb1⟩
  obtain⟨EL,hEL⟩:∃E,k.s++yz8 (comL k)=E:=⟨_,rfl⟩
  obtain⟨TL,hTL⟩:∃E,yze k (comL k)=E:=⟨_,rfl⟩
  have hLE:EL.length=k.s.length+(comL k).length:=by rw [←hEL];simp [yz8]
  have HLE:=ywx hLE
  clear hLE
  rw [hEL]at hC⊢
  rw [hTL]at hX⊢
  have HEL:=ywx hEL
  have HTL:=ywx hTL
  have HC1:=ywx ((RowF.of_owns (ywc EL) hC).own)
  have HX1:=ywx ((RowF.of_owns (yxd TL) hX).own)
  have HB1:=ywx hb1
  obtain⟨Hb,hHb⟩:∃Hb,Hb=w1.heap.size:=⟨_,rfl⟩
  obtain⟨w2,hw2⟩:∃V,w1.alloc (.cells #[.slice ay EL.length cy,.slice ax2 TL.length cx2,.int .i64 k.q,.bool k.f] 86)=V:=⟨_,rfl⟩
  have hb2:Below w.heap.size w w2:=hw2▸trm hb1 ((Below.refl _ w1).alloc (Nat.le_refl _) _)
  have HB2:=ywx hb2
  have HH2:Hid (Bk w2 Hb 86 #[.slice ay EL.length cy,.slice ax2 TL.length cx2,.int .i64 k.q,.bool k.f]):=hw2▸hHb▸Bk.new w1 _ _
  have HO2:=ywx (HO0.out.below hb2)
  have HB12:=hdq (beA hw2)
  have HW2:=ywx hw2
  have HHB:Hid (Hb=w1.heap.size):=hHb
  have hHw:w.heap.size≤Hb:=by rw [hHb];exact hb1.size
  have hHl:Hb<w2.heap.size:=HH2.out.lt
  have hEz:EL.length≤maxLen:=by
    obtain⟨_,_,e9,h91,h92,_⟩:=OwnD.parts (c:=7) (n:=EL.length) HC1.out
    cases e9
    omega
  have hw:=HW2.out
  clear hC hX hb1 hb2 hw2 hHb hEL hTL
  go_upto_region 2 with fail
  clear hw HW2
  try rw [←HHB.out]
  clear HHB
  have n0:=HH2.out.cell (i:=0) rfl
  have o12:=HO2.out.cell (i:=12) rfl
  go_region
  clear n0 o12
  obtain⟨w2x,hwx⟩:∃V,w2.drew=V:=⟨_,rfl⟩
  have hbx:Below w2.heap.size w2 w2x:=hwx▸(Below.refl _ w2).drew
  rw [hwx]
  clear hwx
  have HO2x:=ywx (HO2.out.below hbx)
  have HH2x:=ywx (HH2.out.below hbx)
  have HB2x:=trh HB2 hbx
  have HB12x:=trh HB12 hbx
  have hHl2:Hb<w2x.heap.size:=HH2x.out.lt
  clear HO2 HH2 HB2 HB12 hbx hHl
  have HO2:=HO2x
  have HH2:=HH2x
  have HB2:=HB2x
  have HB12:=HB12x
  have hHl:=hHl2
  clear HO2x HH2x HB2x HB12x hHl2
  obtain⟨m0,m1,m2,m3,m4,m5,m6,m7,m8,m9,m10,m11,m12,m13⟩:=ywd HO2.out
  go_wp2_with fail
  clear m0 m1 m2 m3 m4 m5 m6 m7 m8 m9 m10 m11 m12 m13
  refine(sGvt5 _ k _ HSK.out (HK.out.under HB2.out)).mono ?_
  rintro e w3 ⟨rfl,hb3⟩
  obtain⟨ge,gf,hg0,hg1⟩:∃(ge:Ev) (gf:Bool),retE (gvtE k)= .tuple #[.agg #[.int .i64 ge.t,.int .i64 ge.s,.int .i64 ge.q,.int .i64 ge.d,.int .i64 ge.k,.int .i64 ge.v,.int .i64 ge.g],.bool gf]∧(if gf=true then some ge else none)=gvtE k:=by
    refine⟨orZ (gvtE k),(gvtE k).isSome,rfl,?_⟩
    cases gvtE k<;>rfl
  have HGE:=ywx hg1
  rw [hg0]
  clear hg0 hg1
  obtain⟨Eb,hEb⟩:∃Eb,Eb=w3.heap.size:=⟨_,rfl⟩
  obtain⟨w5,hw5⟩:∃V,w3.alloc (.cells #[.int .i64 ge.t,.int .i64 ge.s,.int .i64 ge.q,.int .i64 ge.d,.int .i64 ge.k,.int .i64 ge.v,.int .i64 ge.g] 90)=V:=⟨_,rfl⟩
  have hb5:Below w2x.heap.size w2x w5:=hw5▸trm hb3 ((Below.refl _ w3).alloc (Nat.le_refl _) _)
  have HE5:Hid (Bk w5 Eb 90 #[.int .i64 ge.t,.int .i64 ge.s,.int .i64 ge.q,.int .i64 ge.d,.int .i64 ge.k,.int .i64 ge.v,.int .i64 ge.g]):=hw5▸hEb▸Bk.new w3 _ _
  have HO5:=ywx (HO2.out.below hb5)
  have HH5:=ywx (HH2.out.below hb5)
  have HB5:=trh HB2 hb5
  have HC5:=ywx ((HC1.out.under HB12.out).under hb5)
  have HX5:=ywx ((HX1.out.under HB12.out).under hb5)
  have HW5:=ywx hw5
  have HEB:Hid (Eb=w3.heap.size):=hEb
  have hs5:w.heap.size≤w5.heap.size:=HB5.out.size
  have hEw:w.heap.size≤Eb:=by rw [hEb];exact Nat.le_trans HB2.out.size hb3.size
  have hE5:Eb<w5.heap.size:=HE5.out.lt
  have hH5:Hb<w5.heap.size:=HH5.out.lt
  have hO5:Ob<w5.heap.size:=HO5.out.lt
  have HR5:Hid (RowV (fun j=>(A7 j∧ ¬ap=some ⟨j,0,none⟩)∨w5.heap.size≤j) w5 ap k.p.length cp 7 (yfa (zap (gvtE k) 0 k.p))):=by
    show RowV _ _ _ _ _ _ _
    rw [zmp]
    exact(HRV.out.below HB5.out).mono (fun j hj=> .inl hj) (fun g _ hg hn e=>by
      rcases e with e|e
      · exact hn e
      · omega)
  have hw:=HW5.out
  clear hb3 hb5 hw5 hEb HC1 HX1 HH2 HO2 HB2 HB12 HRV hHl
  have q7:=HO5.out.cell (i:=7) rfl
  go_wp2
  clear hw q7 HW5
  try rw [←HEB.out]
  clear HEB
  go_loopw [7] (fun i wr=>∃j:Nat,j≤k.p.length∧i= .int .i64 j∧RowV (fun j=>(A7 j∧ ¬ap=some ⟨j,0,none⟩)∨w5.heap.size≤j) wr ap k.p.length cp 7 (yfa (zap (gvtE k) j k.p))∧Turns Gp w5 wr) (fun i _=>k.p.length-(intOf i).toNat)
  case atStart=>exact⟨0,Nat.zero_le _,rfl,HR5.out,Turns.refl _ _⟩
  case round=>
    clear HR5
    obtain⟨i,hi,rfl,hRV,hTr⟩:=hrel
    have HTr:Hid (Turns Gp w5 wr):=hTr
    have HRr:=ywx hRV
    have HOr:=ywx (HO5.out.turns hTr HNO.out.2.2.2.2)
    have HEr:=ywx (HE5.out.turns hTr (fun e=>by have:=(HG.out _ e).2.1;omega))
    have HHr:=ywx (HH5.out.turns hTr (fun e=>by have:=(HG.out _ e).2.1;omega))
    have hs9:w5.heap.size≤wr.heap.size:=hTr.size
    have q7:=HOr.out.cell (i:=7) rfl
    clear hRV hTr
    by_cases hlt:i<k.p.length
    case pos=>
      obtain⟨hL1,hL2,hL3⟩:=HRr.out
      obtain⟨g,rfl,hRI⟩:=hL3.resolve_left (by omega)
      have HL:Hid (k.p.length≤cp∧cp≤maxLen):=⟨hL1,hL2⟩
      have hGg:Gp g:=HGP.out g (by omega) rfl
      have hgw:g<w.heap.size:=(HG.out g hGg).2.1
      have hgl:g<wr.heap.size:=by omega
      have hOl:Ob<wr.heap.size:=by omega
      have hEl:Eb<wr.heap.size:=by omega
      obtain⟨FF,hFF⟩:∃FF:Nat→Prop,FF=fun j=>(A7 j∧ ¬(some ⟨g,0,none⟩:Option Addr)=some ⟨j,0,none⟩)∨w5.heap.size≤j:=⟨_,rfl⟩
      have hki:decide ((i:Int)<(k.p.length:Int))=true:=by simpa using hlt
      cases hgf:gf
      case false=>
        have hgn:gvtE k=none:=by rw [←HGE.out,hgf];rfl
        rw [hgn]at hRI
        obtain⟨a1,c1,a4,c4,a5,c5,a6,c6,⟨f0,f1,f2,f3,f4,f5,f6⟩,d1,d4,d5,d6,hn4,hz⟩:=hRI.part hlt
        have z4:=hz 4 (by omega)
        have HRF:Hid (RowIn (fun j=>(A7 j∧ ¬(some ⟨g,0,none⟩:Option Addr)=some ⟨j,0,none⟩)∨w5.heap.size≤j) (wr.setCell ⟨g,i*7+4,none⟩ (.slice none 0 0)) g (k.p.length*7) (yfa (zap none (i+1) k.p))):=hRI.cut rfl hlt (by
          rw [←(CutO.none' (paAt k.p i).p).eq,List.drop_length]
          exact .nil _ _ _ _ (Nat.zero_le _))
        have HTF:Hid (Turns Gp w5 (wr.setCell ⟨g,i*7+4,none⟩ (.slice none 0 0))):=HTr.out.trans ((yag wr g (i*7+4) _).mono (fun j e=>e▸hGg))
        clear d1 d4 d5 d6 hn4 hz hRI f0 f1 f2 f3 f5 f6
        subst hgf
        go_wp2
        go_roundw
        case rel=>exact⟨i+1,by omega,by go_num,⟨hL1,hL2,.inr ⟨g,rfl,by rw [hgn];exact HRF.out⟩⟩,HTF.out⟩
        case measure=>simp [intOf];omega
      case true=>
        have hgn:gvtE k=some ge:=by rw [←HGE.out,hgf];rfl
        rw [hgn]at hRI
        have HGN:Hid (gvtE k=some ge):=hgn
        have hpe:paAt (zap (some ge) i k.p) i=paAt k.p i:=by rw [zgq _ hlt,if_neg (by omega)]
        obtain⟨a1,c1,a4,c4,a5,c5,a6,c6,⟨f0,f1,f2,f3,f4,f5,f6⟩,d1,d4,d5,d6,hn4,hz⟩:=hRI.part hlt
        rw [hpe]at f0 f1 f2 f3 f4 f5 f6 d1 d4 d5 d6 hn4
        rw [←hFF]at d4
        have HRI:Hid (RowIn FF wr g (k.p.length*7) (yfa (zap (some ge) i k.p))):=hFF▸hRI
        have HZ:=ywx hz
        have HQW:=ywx (HWP.out i hlt)
        generalize hq:paAt k.p i=q at f0 f1 f2 f3 f4 f5 f6 d1 d4 d5 d6 hn4 HQW
        have HQ:Hid (paAt k.p i=q):=hq
        have HD:Hid (IsD wr (.slice a1 q.st.r.length c1) (ywr q.st.r)∧InD FF wr (.slice a4 q.p.length c4) (yw3 q.p)∧IsD wr (.slice a5 q.t.length c5) (evsD q.t)∧IsD wr (.slice a6 q.a.length c6) (ywr q.a)∧q.p.length≤c4):=⟨d1,d4,d5,d6,hn4⟩
        have hFw:∀j,w5.heap.size≤j→FF j:=fun j hj=>by rw [hFF];exact .inr hj
        have o7:=q7
        have HFE:=ywx hFF
        obtain⟨e0,e1,e2,e3,e4,e5,e6⟩:=c7_7 HEr.out
        clear d1 d4 d5 d6 hn4 hz hRI hpe hgn hq hFF HRr
        subst hgf
        go_upto_region 9 with fail
        refine wp_region_held_drew (S:=fun W=>W.cell? ⟨Ob,7,none⟩=some (.slice (some ⟨g,0,none⟩) k.p.length cp)∧W.cell? ⟨g,i*7,none⟩=some (.int .i64 q.n)∧W.cell? ⟨g,i*7+1,none⟩=some (.slice a1 q.st.r.length c1)∧W.cell? ⟨g,i*7+2,none⟩=some (.int .i64 q.st.q)∧W.cell? ⟨g,i*7+3,none⟩=some (.int .i64 q.st.d)∧W.cell? ⟨g,i*7+4,none⟩=some (.slice a4 q.p.length c4)∧W.cell? ⟨g,i*7+5,none⟩=some (.slice a5 q.t.length c5)∧W.cell? ⟨g,i*7+6,none⟩=some (.slice a6 q.a.length c6)∧W.cell? ⟨Eb,0,none⟩=some (.int .i64 ge.t)∧W.cell? ⟨Eb,1,none⟩=some (.int .i64 ge.s)∧W.cell? ⟨Eb,2,none⟩=some (.int .i64 ge.q)∧W.cell? ⟨Eb,3,none⟩=some (.int .i64 ge.d)∧W.cell? ⟨Eb,4,none⟩=some (.int .i64 ge.k)∧W.cell? ⟨Eb,5,none⟩=some (.int .i64 ge.v)∧W.cell? ⟨Eb,6,none⟩=some (.int .i64 ge.g)) (by kernel_rfl) ⟨((Below.refl _ wr).drew.cell (p:=⟨Ob,_,none⟩) hOl).trans o7,((Below.refl _ wr).drew.cell (p:=⟨g,_,none⟩) hgl).trans f0,((Below.refl _ wr).drew.cell (p:=⟨g,_,none⟩) hgl).trans f1,((Below.refl _ wr).drew.cell (p:=⟨g,_,none⟩) hgl).trans f2,((Below.refl _ wr).drew.cell (p:=⟨g,_,none⟩) hgl).trans f3,((Below.refl _ wr).drew.cell (p:=⟨g,_,none⟩) hgl).trans f4,((Below.refl _ wr).drew.cell (p:=⟨g,_,none⟩) hgl).trans f5,((Below.refl _ wr).drew.cell (p:=⟨g,_,none⟩) hgl).trans f6,((Below.refl _ wr).drew.cell (p:=⟨Eb,_,none⟩) hEl).trans e0,((Below.refl _ wr).drew.cell (p:=⟨Eb,_,none⟩) hEl).trans e1,((Below.refl _ wr).drew.cell (p:=⟨Eb,_,none⟩) hEl).trans e2,((Below.refl _ wr).drew.cell (p:=⟨Eb,_,none⟩) hEl).trans e3,((Below.refl _ wr).drew.cell (p:=⟨Eb,_,none⟩) hEl).trans e4,((Below.refl _ wr).drew.cell (p:=⟨Eb,_,none⟩) hEl).trans e5,((Below.refl _ wr).drew.cell (p:=⟨Eb,_,none⟩) hEl).trans e6⟩ (fun hHeld=> ?_)
        obtain⟨wd,hwd⟩:∃wd,wr.drew=wd:=⟨_,rfl⟩
        have hbd:Below wr.heap.size wr wd:=hwd▸(Below.refl _ wr).drew
        rw [hwd]at hHeld
        rw [hwd]
        clear hwd
        refine yzx 0 {dst:=some 49,op:=Op.move (Operand.tmp 0),type:=78,pos:=_,after:=_,guard:=none} (.pointer (some ⟨Ob,0,none⟩)) ?_
        try simp only [Act.put,q1,q2,q3]
        refine yzx 1 {dst:=some 50,op:=Op.nilCheck (Operand.tmp 49),type:=0,pos:=_,after:=_,guard:=none} (.pointer (some ⟨Ob,0,none⟩)) ?_
        try simp only [Act.put,q1,q2,q3]
        refine yzx 2 {dst:=some 51,op:=Op.fieldAddr 41 (Operand.tmp 50) 2,type:=0,pos:=_,after:=_,guard:=none} (.pointer (some ⟨Ob,7,none⟩)) ?_
        try simp only [Act.put,q1,q2,q3]
        refine yzx 3 {dst:=some 52,op:=Op.load 37 (Operand.tmp 51),type:=37,pos:=_,after:=_,guard:=none} (.slice (some ⟨g,0,none⟩) k.p.length cp) ?_
        try simp only [Act.put,q1,q2,q3]
        refine yzx 4 {dst:=some 53,op:=Op.move (Operand.tmp 7),type:=3,pos:=_,after:=_,guard:=none} (.int .i64 (i:Int)) ?_
        try simp only [Act.put,q1,q2,q3]
        refine yzx 5 {dst:=some 54,op:=Op.indexAddr 37 (Operand.tmp 52) (Operand.tmp 53),type:=0,pos:=_,after:=_,guard:=none} (.pointer (some ⟨g,i*7,none⟩)) ?_
        try simp only [Act.put,q1,q2,q3]
        refine yzx 6 {dst:=some 55,op:=Op.load 97 (Operand.tmp 54),type:=97,pos:=_,after:=_,guard:=none} (.agg #[.int .i64 q.n,.slice a1 q.st.r.length c1,.int .i64 q.st.q,.int .i64 q.st.d,.slice a4 q.p.length c4,.slice a5 q.t.length c5,.slice a6 q.a.length c6]) ?_
        try simp only [Act.put,q1,q2,q3]
        refine yzx 7 {dst:=some 56,op:=Op.load 90 (Operand.tmp 5),type:=90,pos:=_,after:=_,guard:=none} (.agg #[.int .i64 ge.t,.int .i64 ge.s,.int .i64 ge.q,.int .i64 ge.d,.int .i64 ge.k,.int .i64 ge.v,.int .i64 ge.g]) ?_
        try simp only [Act.put,q1,q2,q3]
        refine wpAnyH_ready (rs:= [8,12]) (by kernel_rfl) (by simp) ?_
        refine AllReadyH.cons rfl (fun K hK=> ?_) (AllReadyH.cons rfl (fun K hK=> ?_) AllReadyH.nil)
        · go_simp
          refine(zhs a1 c1 a4 c4 a5 c5 a6 c6 q ge wd HQW.out HD.out.2.2.2.2 (HD.out.1.under hbd) (HD.out.2.1.isD.under hbd) (HD.out.2.2.1.under hbd) (HD.out.2.2.2.1.under hbd)).mono ?_
          rintro e v1 ⟨an,cn,y2,kc,cs,rfl,hcut,hsrc,hown,hbc⟩
          obtain⟨md,hmd⟩:∃m,(q.p.drop kc).length=m:=⟨_,rfl⟩
          have hb1:Below wr.heap.size wr v1:=trm hbd hbc
          have HIN:Hid (InD (fun j=>(FF j∧j<wr.heap.size)∨(wd.heap.size≤j∧j<v1.heap.size)) v1 (.slice an md cn) (yw3 (q.p.drop kc))):=hmd▸cut_in (HD.out.2.1.lt.under hbd) hsrc hown hbc
          rw [hmd]
          clear hmd
          have HKC:=ywx hcut.cutO.eq
          have hVV:wd.heap.size≤v1.heap.size:=hbc.size
          clear hcut hsrc hown hbc
          try go_simp
          refine hK.out _ _ ⟨(hb1.cell (p:=⟨Ob,_,none⟩) hOl).trans o7,(hb1.cell (p:=⟨g,_,none⟩) hgl).trans f0,(hb1.cell (p:=⟨g,_,none⟩) hgl).trans f1,(hb1.cell (p:=⟨g,_,none⟩) hgl).trans f2,(hb1.cell (p:=⟨g,_,none⟩) hgl).trans f3,(hb1.cell (p:=⟨g,_,none⟩) hgl).trans f4,(hb1.cell (p:=⟨g,_,none⟩) hgl).trans f5,(hb1.cell (p:=⟨g,_,none⟩) hgl).trans f6,(hb1.cell (p:=⟨Eb,_,none⟩) hEl).trans e0,(hb1.cell (p:=⟨Eb,_,none⟩) hEl).trans e1,(hb1.cell (p:=⟨Eb,_,none⟩) hEl).trans e2,(hb1.cell (p:=⟨Eb,_,none⟩) hEl).trans e3,(hb1.cell (p:=⟨Eb,_,none⟩) hEl).trans e4,(hb1.cell (p:=⟨Eb,_,none⟩) hEl).trans e5,(hb1.cell (p:=⟨Eb,_,none⟩) hEl).trans e6⟩ (fun hHeld=> ?_)
          clear hK K
          try simp only [Act.put,q1,q2,q3]
          refine yzx 9 {dst:=some 48,op:=Op.move (Operand.tmp 57),type:=156,pos:=_,after:=_,guard:=none} (.tuple #[.agg #[.int .i64 q.n,.slice a1 q.st.r.length c1,.int .i64 q.st.q,.int .i64 q.st.d,.slice an md cn,.slice a5 q.t.length c5,.slice a6 q.a.length c6],y2]) ?_
          try simp only [Act.put,q1,q2,q3]
          refine yzx 10 {dst:=some 58,op:=Op.extract (Operand.tmp 48) 0,type:=97,pos:=_,after:=_,guard:=none} (.agg #[.int .i64 q.n,.slice a1 q.st.r.length c1,.int .i64 q.st.q,.int .i64 q.st.d,.slice an md cn,.slice a5 q.t.length c5,.slice a6 q.a.length c6]) ?_
          try simp only [Act.put,q1,q2,q3]
          refine yzx 11 {dst:=some 59,op:=Op.extract (Operand.tmp 48) 1,type:=95,pos:=_,after:=_,guard:=none} y2 ?_
          try simp only [Act.put,q1,q2,q3]
          refine wpAnyH_ready (rs:= [12]) (by kernel_rfl) (by simp) ?_
          refine AllReadyH.cons rfl (fun K hK=> ?_) AllReadyH.nil
          obtain⟨X,v2,HX,HV,hbc,hxk⟩:=zb1 v1 #[.int .i64 0,.slice none 0 0,.int .i64 0,.int .i64 0,.slice none 0 0,.slice none 0 0,.slice none 0 0] 97
          have HXB:=ywx hxk
          have hb2:Below wr.heap.size wr v2:=trm hb1 hbc
          have HXE:Hid (X=v1.heap.size):=HX
          have hXl:X<v2.heap.size:=HXB.out.lt
          clear hxk
          go_simp
          rw [HV.out,←HX.out]
          clear HV HX
          have HIN2:Hid _:=HIN.out.under hbc
          clear HIN
          have HIN:=HIN2
          clear HIN2 hbc
          refine hK.out _ _ ⟨(hb2.cell (p:=⟨Ob,_,none⟩) hOl).trans o7,(hb2.cell (p:=⟨g,_,none⟩) hgl).trans f0,(hb2.cell (p:=⟨g,_,none⟩) hgl).trans f1,(hb2.cell (p:=⟨g,_,none⟩) hgl).trans f2,(hb2.cell (p:=⟨g,_,none⟩) hgl).trans f3,(hb2.cell (p:=⟨g,_,none⟩) hgl).trans f4,(hb2.cell (p:=⟨g,_,none⟩) hgl).trans f5,(hb2.cell (p:=⟨g,_,none⟩) hgl).trans f6,(hb2.cell (p:=⟨Eb,_,none⟩) hEl).trans e0,(hb2.cell (p:=⟨Eb,_,none⟩) hEl).trans e1,(hb2.cell (p:=⟨Eb,_,none⟩) hEl).trans e2,(hb2.cell (p:=⟨Eb,_,none⟩) hEl).trans e3,(hb2.cell (p:=⟨Eb,_,none⟩) hEl).trans e4,(hb2.cell (p:=⟨Eb,_,none⟩) hEl).trans e5,(hb2.cell (p:=⟨Eb,_,none⟩) hEl).trans e6⟩ (fun hHeld=> ?_)
          clear hK K
          try simp only [Act.put,q1,q2,q3]
          refine wpAnyH_ready (rs:= [13]) (by kernel_rfl) (by simp) ?_
          refine AllReadyH.cons rfl (fun K hK=> ?_) AllReadyH.nil
          obtain⟨x0,x1,x2,x3,x4,x5,x6⟩:=c7_7 HXB.out
          have xf:=HXB.out.free
          have hwX:wr.heap.size≤X:=by have:=hbd.size;have:=HXE.out;omega
          obtain⟨v3,hv3⟩:∃v3,put7s v2 X (.int .i64 q.n) (.slice a1 q.st.r.length c1) (.int .i64 q.st.q) (.int .i64 q.st.d) (.slice an md cn) (.slice a5 q.t.length c5) (.slice a6 q.a.length c6)=v3:=⟨_,rfl⟩
          have hP:=HXB.out.put7s (.int .i64 q.n) (.slice a1 q.st.r.length c1) (.int .i64 q.st.q) (.int .i64 q.st.d) (.slice an md cn) (.slice a5 q.t.length c5) (.slice a6 q.a.length c6)
          have ht:=yz7 v2 X (.int .i64 q.n) (.slice a1 q.st.r.length c1) (.int .i64 q.st.q) (.int .i64 q.st.d) (.slice an md cn) (.slice a5 q.t.length c5) (.slice a6 q.a.length c6)
          rw [hv3]at hP ht
          unfold put7s at hv3
          have HV3:Hid _:=hv3
          have HX3:=ywx hP
          have hb3:Below wr.heap.size wr v3:=hb2.trans (ht.to_below (fun b e=>by omega) hb2.size)
          have HIN3:=ywx ((HIN.out.turns ht (fun j hj e=>by have:=HXE.out;rcases hj with h|h<;>omega)).mono (fun j hj=>hj.elim And.left (fun h=>hFw j (by have:=hbd.size;omega))))
          clear hv3 hP
          go_simp
          clear xf x0 x1 x2 x3 x4 x5 x6
          rw [HV3.out]
          clear HV3 HXB
          refine hK.out _ _ ⟨(hb3.cell (p:=⟨Ob,_,none⟩) hOl).trans o7,(hb3.cell (p:=⟨g,_,none⟩) hgl).trans f0,(hb3.cell (p:=⟨g,_,none⟩) hgl).trans f1,(hb3.cell (p:=⟨g,_,none⟩) hgl).trans f2,(hb3.cell (p:=⟨g,_,none⟩) hgl).trans f3,(hb3.cell (p:=⟨g,_,none⟩) hgl).trans f4,(hb3.cell (p:=⟨g,_,none⟩) hgl).trans f5,(hb3.cell (p:=⟨g,_,none⟩) hgl).trans f6,(hb3.cell (p:=⟨Eb,_,none⟩) hEl).trans e0,(hb3.cell (p:=⟨Eb,_,none⟩) hEl).trans e1,(hb3.cell (p:=⟨Eb,_,none⟩) hEl).trans e2,(hb3.cell (p:=⟨Eb,_,none⟩) hEl).trans e3,(hb3.cell (p:=⟨Eb,_,none⟩) hEl).trans e4,(hb3.cell (p:=⟨Eb,_,none⟩) hEl).trans e5,(hb3.cell (p:=⟨Eb,_,none⟩) hEl).trans e6⟩ (fun hHeld=> ?_)
          clear hK K
          try simp only [Act.put,q1,q2,q3]
          refine yzx 14 {dst:=some 9,op:=Op.assign (Operand.tmp 59),type:=95,pos:=_,after:=_,guard:=none} y2 ?_
          try simp only [Act.put,q1,q2,q3]
          refine wpAnyH_done (by kernel_rfl) ?_ _
          clear hHeld HIN
          go_upto_region 10 with fail
          have hb3d:Below wr.heap.size wr v3.drew:=trm hb3 ((Below.refl _ v3).drew)
          refine yx1 7 (fun W=>W.cell? ⟨Ob,7,none⟩=some (.slice (some ⟨g,0,none⟩) k.p.length cp)∧W.cell? ⟨X,0,none⟩=some (.int .i64 q.n)∧W.cell? ⟨X,1,none⟩=some (.slice a1 q.st.r.length c1)∧W.cell? ⟨X,2,none⟩=some (.int .i64 q.st.q)∧W.cell? ⟨X,3,none⟩=some (.int .i64 q.st.d)∧W.cell? ⟨X,4,none⟩=some (.slice an md cn)∧W.cell? ⟨X,5,none⟩=some (.slice a5 q.t.length c5)∧W.cell? ⟨X,6,none⟩=some (.slice a6 q.a.length c6)∧W.cell? ⟨g,i*7,none⟩=some (.int .i64 q.n)∧W.cell? ⟨g,i*7+1,none⟩=some (.slice a1 q.st.r.length c1)∧W.cell? ⟨g,i*7+2,none⟩=some (.int .i64 q.st.q)∧W.cell? ⟨g,i*7+3,none⟩=some (.int .i64 q.st.d)∧W.cell? ⟨g,i*7+4,none⟩=some (.slice a4 q.p.length c4)∧W.cell? ⟨g,i*7+5,none⟩=some (.slice a5 q.t.length c5)∧W.cell? ⟨g,i*7+6,none⟩=some (.slice a6 q.a.length c6)) (by kernel_rfl) ⟨(hb3d.cell (p:=⟨Ob,_,none⟩) hOl).trans o7,HX3.out.drew.cell (i:=0) rfl,HX3.out.drew.cell (i:=1) rfl,HX3.out.drew.cell (i:=2) rfl,HX3.out.drew.cell (i:=3) rfl,HX3.out.drew.cell (i:=4) rfl,HX3.out.drew.cell (i:=5) rfl,HX3.out.drew.cell (i:=6) rfl,(hb3d.cell (p:=⟨g,_,none⟩) hgl).trans f0,(hb3d.cell (p:=⟨g,_,none⟩) hgl).trans f1,(hb3d.cell (p:=⟨g,_,none⟩) hgl).trans f2,(hb3d.cell (p:=⟨g,_,none⟩) hgl).trans f3,(hb3d.cell (p:=⟨g,_,none⟩) hgl).trans f4,(hb3d.cell (p:=⟨g,_,none⟩) hgl).trans f5,(hb3d.cell (p:=⟨g,_,none⟩) hgl).trans f6⟩ (fun hHeld=> ?_)
          obtain⟨vd,hvd⟩:∃vd,v3.drew=vd:=⟨_,rfl⟩
          have HIN4:Hid (InD FF vd (.slice an md cn) (yw3 (q.p.drop kc))):=HIN3.out.under (hvd▸(Below.refl _ v3).drew)
          rw [hvd]at hb3d hHeld
          rw [hvd]
          refine zb8 0 {dst:=some 60,op:=Op.move (Operand.tmp 0),type:=78,pos:=_,after:=_,guard:=none} (.pointer (some ⟨Ob,0,none⟩)) ?_
          try simp only [Act.put,q1,q2,q3]
          refine zb8 1 {dst:=some 61,op:=Op.nilCheck (Operand.tmp 60),type:=0,pos:=_,after:=_,guard:=none} (.pointer (some ⟨Ob,0,none⟩)) ?_
          try simp only [Act.put,q1,q2,q3]
          refine zb8 2 {dst:=some 62,op:=Op.fieldAddr 41 (Operand.tmp 61) 2,type:=0,pos:=_,after:=_,guard:=none} (.pointer (some ⟨Ob,7,none⟩)) ?_
          try simp only [Act.put,q1,q2,q3]
          refine zb8 3 {dst:=some 63,op:=Op.load 37 (Operand.tmp 62),type:=37,pos:=_,after:=_,guard:=none} (.slice (some ⟨g,0,none⟩) k.p.length cp) ?_
          try simp only [Act.put,q1,q2,q3]
          refine zb8 4 {dst:=some 64,op:=Op.move (Operand.tmp 7),type:=3,pos:=_,after:=_,guard:=none} (.int .i64 (i:Int)) ?_
          try simp only [Act.put,q1,q2,q3]
          refine zb8 5 {dst:=some 65,op:=Op.load 97 (Operand.tmp 8),type:=97,pos:=_,after:=_,guard:=none} (.agg #[.int .i64 q.n,.slice a1 q.st.r.length c1,.int .i64 q.st.q,.int .i64 q.st.d,.slice an md cn,.slice a5 q.t.length c5,.slice a6 q.a.length c6]) ?_
          try simp only [Act.put,q1,q2,q3]
          refine ywe (i:=6) (oi:= {dst:=some 66,op:=Op.indexAddr 37 (Operand.tmp 63) (Operand.tmp 64),type:=0,pos:=_,after:=_,guard:=none}) (v:= .pointer (some ⟨g,i*7,none⟩)) 6 [] rfl (by kernel_rfl) (by kernel_rfl) (by kernel_rfl) (by kernel_rfl) (by kernel_rfl) (fun _ _ _ h=>h) (Or.inl ⟨by rfl,?_⟩) (by assumption) ?_
          · intro wX hSw
            try dsimp only at hSw
            go_simp
            try exact IntWalk.i64_in _ (by omega)
            try(intro h9;exfalso;omega)
          try simp only [Act.put,q1,q2,q3]
          refine yfb (rs:= [7]) (by kernel_rfl) (by simp) ?_
          refine AllReadyZ.last rfl (fun K hK=> ?_)
          have k0:=(hb3d.cell (p:=⟨g,i*7,none⟩) hgl).trans f0
          have k1:=(hb3d.cell (p:=⟨g,i*7+1,none⟩) hgl).trans f1
          have k2:=(hb3d.cell (p:=⟨g,i*7+2,none⟩) hgl).trans f2
          have k3:=(hb3d.cell (p:=⟨g,i*7+3,none⟩) hgl).trans f3
          have k4:=(hb3d.cell (p:=⟨g,i*7+4,none⟩) hgl).trans f4
          have k5:=(hb3d.cell (p:=⟨g,i*7+5,none⟩) hgl).trans f5
          have k6:=(hb3d.cell (p:=⟨g,i*7+6,none⟩) hgl).trans f6
          have z0:=(yw4 hb3d (b:=g) (o:=i*7) hgl).trans (HZ.out 0 (by omega))
          have z1:=(yw4 hb3d (b:=g) (o:=i*7+1) hgl).trans (HZ.out 1 (by omega))
          have z2:=(yw4 hb3d (b:=g) (o:=i*7+2) hgl).trans (HZ.out 2 (by omega))
          have z3:=(yw4 hb3d (b:=g) (o:=i*7+3) hgl).trans (HZ.out 3 (by omega))
          have z4:=(yw4 hb3d (b:=g) (o:=i*7+4) hgl).trans (HZ.out 4 (by omega))
          have z5:=(yw4 hb3d (b:=g) (o:=i*7+5) hgl).trans (HZ.out 5 (by omega))
          have z6:=(yw4 hb3d (b:=g) (o:=i*7+6) hgl).trans (HZ.out 6 (by omega))
          have HRV:=ywx (HRI.out.below hb3d)
          obtain⟨wf,hwf⟩:∃X,vd.setCell ⟨g,i*7+4,none⟩ (.slice an md cn)=X:=⟨_,rfl⟩
          have HRF:Hid (RowIn FF wf g (k.p.length*7) (yfa (zap (some ge) (i+1) k.p))):=hwf▸HRV.out.cut rfl hlt (by rw [HQ.out,←HKC.out];exact HIN4.out)
          have HTF:Hid (Turns Gp w5 wf):=hwf▸(HTr.out.trans (Turns.of_below hb3d)).trans ((yag vd g (i*7+4) _).mono (fun j e=>e▸hGg))
          have HWF:Hid _:=hwf
          clear hwf
          go_simp
          rw [zkb k0 k1 k2 k3 k5 k6,HWF.out]
          clear HWF k0 z0 k1 z1 k2 z2 k3 z3 k4 z4 k5 z5 k6 z6
          refine hK.out _ _ ?_
          clear hK K
          try simp only [Act.put,q1,q2,q3]
          refine yx2 (by kernel_rfl) ?_ _
          clear hHeld
          go_wp2
          go_roundw
          case rel=>exact⟨i+1,by omega,by go_num,⟨HL.out.1,HL.out.2,.inr ⟨g,rfl,by rw [HGN.out];have h9:=HRF.out;rw [HFE.out]at h9;exact h9⟩⟩,HTF.out⟩
          case measure=>simp [intOf];omega
        · obtain⟨X,v1,HX,HV,hbc,hxk⟩:=zb1 wd #[.int .i64 0,.slice none 0 0,.int .i64 0,.int .i64 0,.slice none 0 0,.slice none 0 0,.slice none 0 0] 97
          have HXB:=ywx hxk
          have hb1:Below wr.heap.size wr v1:=trm hbd hbc
          have HXE:Hid (X=wd.heap.size):=HX
          have hXl:X<v1.heap.size:=HXB.out.lt
          clear hxk
          go_simp
          rw [HV.out,←HX.out]
          clear HV HX
          refine hK.out _ _ ⟨(hb1.cell (p:=⟨Ob,_,none⟩) hOl).trans o7,(hb1.cell (p:=⟨g,_,none⟩) hgl).trans f0,(hb1.cell (p:=⟨g,_,none⟩) hgl).trans f1,(hb1.cell (p:=⟨g,_,none⟩) hgl).trans f2,(hb1.cell (p:=⟨g,_,none⟩) hgl).trans f3,(hb1.cell (p:=⟨g,_,none⟩) hgl).trans f4,(hb1.cell (p:=⟨g,_,none⟩) hgl).trans f5,(hb1.cell (p:=⟨g,_,none⟩) hgl).trans f6,(hb1.cell (p:=⟨Eb,_,none⟩) hEl).trans e0,(hb1.cell (p:=⟨Eb,_,none⟩) hEl).trans e1,(hb1.cell (p:=⟨Eb,_,none⟩) hEl).trans e2,(hb1.cell (p:=⟨Eb,_,none⟩) hEl).trans e3,(hb1.cell (p:=⟨Eb,_,none⟩) hEl).trans e4,(hb1.cell (p:=⟨Eb,_,none⟩) hEl).trans e5,(hb1.cell (p:=⟨Eb,_,none⟩) hEl).trans e6⟩ (fun hHeld=> ?_)
          clear hK K
          try simp only [Act.put,q1,q2,q3]
          refine wpAnyH_ready (rs:= [8]) (by kernel_rfl) (by simp) ?_
          refine AllReadyH.cons rfl (fun K hK=> ?_) AllReadyH.nil
          have hv1d:wd.heap.size≤v1.heap.size:=hbc.size
          have HXB1:=HXB.out
          clear hbc HXB
          go_simp
          refine(zhs a1 c1 a4 c4 a5 c5 a6 c6 q ge v1 HQW.out HD.out.2.2.2.2 (HD.out.1.under hb1) (HD.out.2.1.isD.under hb1) (HD.out.2.2.1.under hb1) (HD.out.2.2.2.1.under hb1)).mono ?_
          rintro e v2 ⟨an,cn,y2,kc,cs,rfl,hcut,hsrc,hown,hbc⟩
          obtain⟨md,hmd⟩:∃m,(q.p.drop kc).length=m:=⟨_,rfl⟩
          have hb2:Below wr.heap.size wr v2:=trm hb1 hbc
          have HXB:=ywx (HXB1.below hbc)
          have HIN:Hid (InD (fun j=>(FF j∧j<wr.heap.size)∨(v1.heap.size≤j∧j<v2.heap.size)) v2 (.slice an md cn) (yw3 (q.p.drop kc))):=hmd▸cut_in (HD.out.2.1.lt.under hb1) hsrc hown hbc
          rw [hmd]
          clear hmd
          have HKC:=ywx hcut.cutO.eq
          have hVV:v1.heap.size≤v2.heap.size:=hbc.size
          clear hcut hsrc hown hbc HXB1
          try go_simp
          refine hK.out _ _ ⟨(hb2.cell (p:=⟨Ob,_,none⟩) hOl).trans o7,(hb2.cell (p:=⟨g,_,none⟩) hgl).trans f0,(hb2.cell (p:=⟨g,_,none⟩) hgl).trans f1,(hb2.cell (p:=⟨g,_,none⟩) hgl).trans f2,(hb2.cell (p:=⟨g,_,none⟩) hgl).trans f3,(hb2.cell (p:=⟨g,_,none⟩) hgl).trans f4,(hb2.cell (p:=⟨g,_,none⟩) hgl).trans f5,(hb2.cell (p:=⟨g,_,none⟩) hgl).trans f6,(hb2.cell (p:=⟨Eb,_,none⟩) hEl).trans e0,(hb2.cell (p:=⟨Eb,_,none⟩) hEl).trans e1,(hb2.cell (p:=⟨Eb,_,none⟩) hEl).trans e2,(hb2.cell (p:=⟨Eb,_,none⟩) hEl).trans e3,(hb2.cell (p:=⟨Eb,_,none⟩) hEl).trans e4,(hb2.cell (p:=⟨Eb,_,none⟩) hEl).trans e5,(hb2.cell (p:=⟨Eb,_,none⟩) hEl).trans e6⟩ (fun hHeld=> ?_)
          clear hK K
          try simp only [Act.put,q1,q2,q3]
          refine yzx 9 {dst:=some 48,op:=Op.move (Operand.tmp 57),type:=156,pos:=_,after:=_,guard:=none} (.tuple #[.agg #[.int .i64 q.n,.slice a1 q.st.r.length c1,.int .i64 q.st.q,.int .i64 q.st.d,.slice an md cn,.slice a5 q.t.length c5,.slice a6 q.a.length c6],y2]) ?_
          try simp only [Act.put,q1,q2,q3]
          refine yzx 10 {dst:=some 58,op:=Op.extract (Operand.tmp 48) 0,type:=97,pos:=_,after:=_,guard:=none} (.agg #[.int .i64 q.n,.slice a1 q.st.r.length c1,.int .i64 q.st.q,.int .i64 q.st.d,.slice an md cn,.slice a5 q.t.length c5,.slice a6 q.a.length c6]) ?_
          try simp only [Act.put,q1,q2,q3]
          refine yzx 11 {dst:=some 59,op:=Op.extract (Operand.tmp 48) 1,type:=95,pos:=_,after:=_,guard:=none} y2 ?_
          try simp only [Act.put,q1,q2,q3]
          refine wpAnyH_ready (rs:= [13]) (by kernel_rfl) (by simp) ?_
          refine AllReadyH.cons rfl (fun K hK=> ?_) AllReadyH.nil
          obtain⟨x0,x1,x2,x3,x4,x5,x6⟩:=c7_7 HXB.out
          have xf:=HXB.out.free
          have hwX:wr.heap.size≤X:=by have:=hbd.size;have:=HXE.out;omega
          obtain⟨v3,hv3⟩:∃v3,put7s v2 X (.int .i64 q.n) (.slice a1 q.st.r.length c1) (.int .i64 q.st.q) (.int .i64 q.st.d) (.slice an md cn) (.slice a5 q.t.length c5) (.slice a6 q.a.length c6)=v3:=⟨_,rfl⟩
          have hP:=HXB.out.put7s (.int .i64 q.n) (.slice a1 q.st.r.length c1) (.int .i64 q.st.q) (.int .i64 q.st.d) (.slice an md cn) (.slice a5 q.t.length c5) (.slice a6 q.a.length c6)
          have ht:=yz7 v2 X (.int .i64 q.n) (.slice a1 q.st.r.length c1) (.int .i64 q.st.q) (.int .i64 q.st.d) (.slice an md cn) (.slice a5 q.t.length c5) (.slice a6 q.a.length c6)
          rw [hv3]at hP ht
          unfold put7s at hv3
          have HV3:Hid _:=hv3
          have HX3:=ywx hP
          have hb3:Below wr.heap.size wr v3:=hb2.trans (ht.to_below (fun b e=>by omega) hb2.size)
          have HIN3:=ywx ((HIN.out.turns ht (fun j hj e=>by have:=HXE.out;rcases hj with h|h<;>omega)).mono (fun j hj=>hj.elim And.left (fun h=>hFw j (by have:=hbd.size;omega))))
          clear hv3 hP
          go_simp
          clear xf x0 x1 x2 x3 x4 x5 x6
          rw [HV3.out]
          clear HV3 HXB
          refine hK.out _ _ ⟨(hb3.cell (p:=⟨Ob,_,none⟩) hOl).trans o7,(hb3.cell (p:=⟨g,_,none⟩) hgl).trans f0,(hb3.cell (p:=⟨g,_,none⟩) hgl).trans f1,(hb3.cell (p:=⟨g,_,none⟩) hgl).trans f2,(hb3.cell (p:=⟨g,_,none⟩) hgl).trans f3,(hb3.cell (p:=⟨g,_,none⟩) hgl).trans f4,(hb3.cell (p:=⟨g,_,none⟩) hgl).trans f5,(hb3.cell (p:=⟨g,_,none⟩) hgl).trans f6,(hb3.cell (p:=⟨Eb,_,none⟩) hEl).trans e0,(hb3.cell (p:=⟨Eb,_,none⟩) hEl).trans e1,(hb3.cell (p:=⟨Eb,_,none⟩) hEl).trans e2,(hb3.cell (p:=⟨Eb,_,none⟩) hEl).trans e3,(hb3.cell (p:=⟨Eb,_,none⟩) hEl).trans e4,(hb3.cell (p:=⟨Eb,_,none⟩) hEl).trans e5,(hb3.cell (p:=⟨Eb,_,none⟩) hEl).trans e6⟩ (fun hHeld=> ?_)
          clear hK K
          try simp only [Act.put,q1,q2,q3]
          refine yzx 14 {dst:=some 9,op:=Op.assign (Operand.tmp 59),type:=95,pos:=_,after:=_,guard:=none} y2 ?_
          try simp only [Act.put,q1,q2,q3]
          refine wpAnyH_done (by kernel_rfl) ?_ _
          clear hHeld HIN
          go_upto_region 10 with fail
          have hb3d:Below wr.heap.size wr v3.drew:=trm hb3 ((Below.refl _ v3).drew)
          refine yx1 7 (fun W=>W.cell? ⟨Ob,7,none⟩=some (.slice (some ⟨g,0,none⟩) k.p.length cp)∧W.cell? ⟨X,0,none⟩=some (.int .i64 q.n)∧W.cell? ⟨X,1,none⟩=some (.slice a1 q.st.r.length c1)∧W.cell? ⟨X,2,none⟩=some (.int .i64 q.st.q)∧W.cell? ⟨X,3,none⟩=some (.int .i64 q.st.d)∧W.cell? ⟨X,4,none⟩=some (.slice an md cn)∧W.cell? ⟨X,5,none⟩=some (.slice a5 q.t.length c5)∧W.cell? ⟨X,6,none⟩=some (.slice a6 q.a.length c6)∧W.cell? ⟨g,i*7,none⟩=some (.int .i64 q.n)∧W.cell? ⟨g,i*7+1,none⟩=some (.slice a1 q.st.r.length c1)∧W.cell? ⟨g,i*7+2,none⟩=some (.int .i64 q.st.q)∧W.cell? ⟨g,i*7+3,none⟩=some (.int .i64 q.st.d)∧W.cell? ⟨g,i*7+4,none⟩=some (.slice a4 q.p.length c4)∧W.cell? ⟨g,i*7+5,none⟩=some (.slice a5 q.t.length c5)∧W.cell? ⟨g,i*7+6,none⟩=some (.slice a6 q.a.length c6)) (by kernel_rfl) ⟨(hb3d.cell (p:=⟨Ob,_,none⟩) hOl).trans o7,HX3.out.drew.cell (i:=0) rfl,HX3.out.drew.cell (i:=1) rfl,HX3.out.drew.cell (i:=2) rfl,HX3.out.drew.cell (i:=3) rfl,HX3.out.drew.cell (i:=4) rfl,HX3.out.drew.cell (i:=5) rfl,HX3.out.drew.cell (i:=6) rfl,(hb3d.cell (p:=⟨g,_,none⟩) hgl).trans f0,(hb3d.cell (p:=⟨g,_,none⟩) hgl).trans f1,(hb3d.cell (p:=⟨g,_,none⟩) hgl).trans f2,(hb3d.cell (p:=⟨g,_,none⟩) hgl).trans f3,(hb3d.cell (p:=⟨g,_,none⟩) hgl).trans f4,(hb3d.cell (p:=⟨g,_,none⟩) hgl).trans f5,(hb3d.cell (p:=⟨g,_,none⟩) hgl).trans f6⟩ (fun hHeld=> ?_)
          obtain⟨vd,hvd⟩:∃vd,v3.drew=vd:=⟨_,rfl⟩
          have HIN4:Hid (InD FF vd (.slice an md cn) (yw3 (q.p.drop kc))):=HIN3.out.under (hvd▸(Below.refl _ v3).drew)
          rw [hvd]at hb3d hHeld
          rw [hvd]
          refine zb8 0 {dst:=some 60,op:=Op.move (Operand.tmp 0),type:=78,pos:=_,after:=_,guard:=none} (.pointer (some ⟨Ob,0,none⟩)) ?_
          try simp only [Act.put,q1,q2,q3]
          refine zb8 1 {dst:=some 61,op:=Op.nilCheck (Operand.tmp 60),type:=0,pos:=_,after:=_,guard:=none} (.pointer (some ⟨Ob,0,none⟩)) ?_
          try simp only [Act.put,q1,q2,q3]
          refine zb8 2 {dst:=some 62,op:=Op.fieldAddr 41 (Operand.tmp 61) 2,type:=0,pos:=_,after:=_,guard:=none} (.pointer (some ⟨Ob,7,none⟩)) ?_
          try simp only [Act.put,q1,q2,q3]
          refine zb8 3 {dst:=some 63,op:=Op.load 37 (Operand.tmp 62),type:=37,pos:=_,after:=_,guard:=none} (.slice (some ⟨g,0,none⟩) k.p.length cp) ?_
          try simp only [Act.put,q1,q2,q3]
          refine zb8 4 {dst:=some 64,op:=Op.move (Operand.tmp 7),type:=3,pos:=_,after:=_,guard:=none} (.int .i64 (i:Int)) ?_
          try simp only [Act.put,q1,q2,q3]
          refine zb8 5 {dst:=some 65,op:=Op.load 97 (Operand.tmp 8),type:=97,pos:=_,after:=_,guard:=none} (.agg #[.int .i64 q.n,.slice a1 q.st.r.length c1,.int .i64 q.st.q,.int .i64 q.st.d,.slice an md cn,.slice a5 q.t.length c5,.slice a6 q.a.length c6]) ?_
          try simp only [Act.put,q1,q2,q3]
          refine ywe (i:=6) (oi:= {dst:=some 66,op:=Op.indexAddr 37 (Operand.tmp 63) (Operand.tmp 64),type:=0,pos:=_,after:=_,guard:=none}) (v:= .pointer (some ⟨g,i*7,none⟩)) 6 [] rfl (by kernel_rfl) (by kernel_rfl) (by kernel_rfl) (by kernel_rfl) (by kernel_rfl) (fun _ _ _ h=>h) (Or.inl ⟨by rfl,?_⟩) (by assumption) ?_
          · intro wX hSw
            try dsimp only at hSw
            go_simp
            try exact IntWalk.i64_in _ (by omega)
            try(intro h9;exfalso;omega)
          try simp only [Act.put,q1,q2,q3]
          refine yfb (rs:= [7]) (by kernel_rfl) (by simp) ?_
          refine AllReadyZ.last rfl (fun K hK=> ?_)
          have k0:=(hb3d.cell (p:=⟨g,i*7,none⟩) hgl).trans f0
          have k1:=(hb3d.cell (p:=⟨g,i*7+1,none⟩) hgl).trans f1
          have k2:=(hb3d.cell (p:=⟨g,i*7+2,none⟩) hgl).trans f2
          have k3:=(hb3d.cell (p:=⟨g,i*7+3,none⟩) hgl).trans f3
          have k4:=(hb3d.cell (p:=⟨g,i*7+4,none⟩) hgl).trans f4
          have k5:=(hb3d.cell (p:=⟨g,i*7+5,none⟩) hgl).trans f5
          have k6:=(hb3d.cell (p:=⟨g,i*7+6,none⟩) hgl).trans f6
          have z0:=(yw4 hb3d (b:=g) (o:=i*7) hgl).trans (HZ.out 0 (by omega))
          have z1:=(yw4 hb3d (b:=g) (o:=i*7+1) hgl).trans (HZ.out 1 (by omega))
          have z2:=(yw4 hb3d (b:=g) (o:=i*7+2) hgl).trans (HZ.out 2 (by omega))
          have z3:=(yw4 hb3d (b:=g) (o:=i*7+3) hgl).trans (HZ.out 3 (by omega))
          have z4:=(yw4 hb3d (b:=g) (o:=i*7+4) hgl).trans (HZ.out 4 (by omega))
          have z5:=(yw4 hb3d (b:=g) (o:=i*7+5) hgl).trans (HZ.out 5 (by omega))
          have z6:=(yw4 hb3d (b:=g) (o:=i*7+6) hgl).trans (HZ.out 6 (by omega))
          have HRV:=ywx (HRI.out.below hb3d)
          obtain⟨wf,hwf⟩:∃X,vd.setCell ⟨g,i*7+4,none⟩ (.slice an md cn)=X:=⟨_,rfl⟩
          have HRF:Hid (RowIn FF wf g (k.p.length*7) (yfa (zap (some ge) (i+1) k.p))):=hwf▸HRV.out.cut rfl hlt (by rw [HQ.out,←HKC.out];exact HIN4.out)
          have HTF:Hid (Turns Gp w5 wf):=hwf▸(HTr.out.trans (Turns.of_below hb3d)).trans ((yag vd g (i*7+4) _).mono (fun j e=>e▸hGg))
          have HWF:Hid _:=hwf
          clear hwf
          go_simp
          rw [zkb k0 k1 k2 k3 k5 k6,HWF.out]
          clear HWF k0 z0 k1 z1 k2 z2 k3 z3 k4 z4 k5 z5 k6 z6
          refine hK.out _ _ ?_
          clear hK K
          try simp only [Act.put,q1,q2,q3]
          refine yx2 (by kernel_rfl) ?_ _
          clear hHeld
          go_wp2
          go_roundw
          case rel=>exact⟨i+1,by omega,by go_num,⟨HL.out.1,HL.out.2,.inr ⟨g,rfl,by rw [HGN.out];have h9:=HRF.out;rw [HFE.out]at h9;exact h9⟩⟩,HTF.out⟩
          case measure=>simp [intOf];omega
    case neg=>
      obtain rfl:k.p.length=i:=by omega
      have hki:decide ((k.p.length:Int)<(k.p.length:Int))=false:=by simp
      have o12:=HOr.out.cell (i:=12) rfl
      have o13:=HOr.out.cell (i:=13) rfl
      have of:=HOr.out.free
      have n0:=HHr.out.cell (i:=0) rfl
      have n1:=HHr.out.cell (i:=1) rfl
      obtain⟨X,hX⟩:∃X,(wr.setCell ⟨Ob,12,none⟩ (.slice ay EL.length cy)).setCell ⟨Ob,13,none⟩ (.slice ax2 TL.length cx2)=X:=⟨_,rfl⟩
      have ht:Turns (fun j=>j=Ob) wr X:=hX▸(yag wr Ob 12 _).trans (yag _ Ob 13 _)
      have HOX:Hid (Bk X Ob 41 #[.int .i64 k.m.n,.int .i64 k.m.s,.slice ai k.m.i.length ci,.slice ah k.m.h.length ch,.slice ae k.m.e.length ce,.int .i64 k.m.z,.slice ad k.d.length cd,.slice ap k.p.length cp,.slice ab k.b.length cb,.int .i64 k.t,.int .i64 k.q,.bool k.f,.slice ay EL.length cy,.slice ax2 TL.length cx2]):=by
        have h1:Bk (wr.setCell ⟨Ob,12,none⟩ (.slice ay EL.length cy)) Ob 41 #[.int .i64 k.m.n,.int .i64 k.m.s,.slice ai k.m.i.length ci,.slice ah k.m.h.length ch,.slice ae k.m.e.length ce,.int .i64 k.m.z,.slice ad k.d.length cd,.slice ap k.p.length cp,.slice ab k.b.length cb,.int .i64 k.t,.int .i64 k.q,.bool k.f,.slice ay EL.length cy,.slice ax k.x.length cx]:=HOr.out.put 12 _
        have h2:=h1.put 13 (.slice ax2 TL.length cx2)
        exact hX▸h2
      have HXE:Hid _:=hX
      go_wp2
      go_ret
      try rw [HXE.out]
      have hGlo:∀j,w.heap.size≤j→ ¬Gp j:=fun j hj e=>by have:=(HG.out j e).2.1;omega
      refine⟨ywz ?_,⟨_,HOX.out,?_⟩,?_⟩
      · have h9:=HLE.out
        unfold maxLen at hEz
        first
          |(unfold wrap64;omega)
          |(rw [IntKind.wrap_i64];omega)
      · have hmX:=((HMD.out.turns (S:=fun _=>False) (Turns.of_below HB5.out) (fun _ _=>id)).turns HTr.out (fun j hj e=>(HG.out j e).2.2.1 hj)).turns ht (fun j hj e=>HNO.out.1 (e▸hj))
        have h6X:=((HD6.out.under HB5.out).turns HTr.out (fun j hj e=>(HG.out j e).2.2.2.1 hj)).turns ht (fun j hj e=>HNO.out.2.1 (e▸hj))
        have h8X:=((HD8.out.under HB5.out).turns HTr.out (fun j hj e=>(HG.out j e).2.2.2.2 hj)).turns ht (fun j hj e=>HNO.out.2.2.2.1 (e▸hj))
        have hcX:=(HC5.out.turns HTr.out (fun j hj e=>hGlo j hj.1 e)).turns ht (fun j hj e=>by have h1:w.heap.size≤j:=hj.1;have h2:j=Ob:=e;omega)
        have hxX:=(HX5.out.turns HTr.out (fun j hj e=>hGlo j hj.1 e)).turns ht (fun j hj e=>by have h1:w.heap.size≤j:=hj.1;have h2:j=Ob:=e;omega)
        have h7X:=(HRr.out.turns ht (fun j hj e=>by
          subst e
          rcases hj with h|h
          · exact HNO.out.2.2.1 h.1
          · omega) (fun g hn hg e=>by
          subst e
          exact HNO.out.2.2.2.2 (HGP.out _ hn hg))).isD
        have e1:=HEL.out
        have e2:=HTL.out
        subst e1 e2
        exact⟨_,_,_,_,_,_,_,_,rfl,hmX.isM,h6X.isD,cut_all _ _ h7X,h8X.isD,hcX.isD,hxX.isD⟩
      · exact((Turns.of_below HB5.out).trans (HTr.out.mono (fun j hj=> .inr (HG.out j hj).1))).trans (ht.mono (fun j e=> .inl e))
end Go.Proofs.YtghndljgadpijaaGreat
