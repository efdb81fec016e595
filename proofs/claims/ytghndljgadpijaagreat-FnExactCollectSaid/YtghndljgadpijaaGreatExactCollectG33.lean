/- KIl, UnI, CmQ -/
import Derived.Test.YtghndljgadpijaaGreatExactCollectG01
import Derived.Test.YtghndljgadpijaaGreatExactCollectG32
import Derived.Test.YtghndljgadpijaaGreatExactCollectG16
import Derived.Test.YtghndljgadpijaaGreatExactCollectG25
/- The program's KernelOk. -/
namespace Go.Proofs.YtghndljgadpijaaGreat
open Go.RowKit
theorem yyu {p:Prop} (h:p):Hid p:=h
theorem zmo (l:List Ev) (c:Bool) (hc:c=true↔zii l) (x:Value) (w:World) (hl:l.length≤1048576) (hp:0<w.heap.size) (hwf:∀i,i<l.length→wfI (evAt l i).g) (hI:IsEvs w x l):
    Calls Tryz.prog 133 #[x] w fun e w'=>e= .returned (.bool c)∧Below w.heap.size w w':=by
  obtain⟨a,cap,b,rfl,hb,hI⟩:=hI.parts hp
  refine(zc6 a cap b l w hl hI hb hwf).mono ?_
  rintro e w' ⟨⟨d,rfl,hd⟩,hw⟩
  refine⟨?_,hw⟩
  have hd':d=true↔zii l:=hd
  cases c<;>cases d
  · rfl
  · exact absurd (hc.2 (hd'.1 rfl)) (by simp)
  · exact absurd (hd'.2 (hc.1 rfl)) (by simp)
  · rfl
theorem ok_wf {e:Ev} (h:e.ok=true):wfI e.g:=zo5 h
theorem allK_ok {k:Kn} (hp:yz3 k=true) (hb:zf2 k=true) {e:Ev} (h:e∈allK k):e.ok=true:=by
  have P2:=fun i hi=>partI_iff.1 ((partsKB_iff.1 hp).2 i hi)
  rcases all_in h with ⟨i,hi,h1⟩|⟨i,hi,_,rfl⟩
  · rcases in_all.1 h1 with ⟨j,hj,rfl⟩|⟨j,hj,rfl⟩
    · exact zj5 (P2 i hi).2.1 j hj
    · exact yzn (knL_iff.1 (P2 i hi).2.2.1 j hj).1
  · exact yzn (bagKB_iff.1 hb i hi).1
theorem zou {k:Kn} (hp:yz3 k=true) (hb:zf2 k=true):∀e,e∈gvtL k→e.ok=true:=fun _ he=>
  zjh (fun i hi j hj=>yzn (knL_iff.1 (partI_iff.1 ((partsKB_iff.1 hp).2 i hi)).2.2.1 j hj).1) (fun i hi=>yzn (bagKB_iff.1 hb i hi).1) he
noncomputable def zku (l : List Ev) : Bool := @decide (zii l) (Classical.propDecidable _)
theorem diffEB_iff {l:List Ev}:zku l=true↔zii l:=by unfold zku;simp
def zn8 (t:Int):Bool:=decide (6≤t)&&decide (t≤99992)
theorem tagIn_iff {t:Int}:zn8 t=true↔6≤t∧t≤99992:=by unfold zn8;simp
def zpo (t:Int):Bool:=decide (-1≤t)&&decide (t≤3)
theorem askIn_iff {t:Int}:zpo t=true↔ -1≤t∧t≤3:=by unfold zpo;simp
theorem zl5 (x:Int) (w:World):Calls Tryz.prog 89 #[.int .i64 x,.int .i64 6,.int .i64 99992] w fun e w'=>e= .returned (.bool (zn8 x))∧Below w.heap.size w w':=(yw5 x 6 99992 w).mono fun e w' h=>⟨h.1,by rw [h.2];exact Below.refl _ _⟩
theorem zl6 (x:Int) (w:World):Calls Tryz.prog 89 #[.int .i64 x,.int .i64 (-1),.int .i64 3] w fun e w'=>e= .returned (.bool (zpo x))∧Below w.heap.size w w':=(yw5 x (-1) 3 w).mono fun e w' h=>⟨h.1,by rw [h.2];exact Below.refl _ _⟩
set_option maxRecDepth 100000 in
set_option maxHeartbeats 32000000 in
theorem zhy (x:Value) (k:Kn) (w:World) (hs:ywy k) (h:IsKern w x k):
    Calls Tryz.prog 51 #[x] w fun e w'=>e= .returned (.bool k.ok)∧Below w.heap.size w w':=by
  have HSK:Hid (ywy k):=hs
  have hall:=zl3 hs.2
  obtain⟨HSM0,hsk⟩:=hs
  have HSM:Hid (SmallM k.m):=HSM0
  obtain⟨hdl,hpl,hbl,hsl,hxl⟩:=yyp hsk
  have HWP:=yyu (yyf hsk)
  clear hsk HSM0
  obtain⟨ai,ci,ah,ch,ae,ce,ad,cd,ap,cp,ab,cb,au,cu,ax,cx,rfl,hm,hd,hp,hbg,hsu,hx⟩:=h.form
  have HM:=yyu hm
  have HD:=yyu hd
  have HPP:=yyu hp
  have HBG:=yyu hbg.rows
  have HSU:=yyu hsu.rows
  have HXX:=yyu hx.rows
  have HSUI:=yyu hsu
  have HXXI:=yyu hx
  have HK:=yyu h
  clear hm hd hp hbg hsu hx h
  obtain⟨W0,hW0⟩:=alIsKern HK.out 41
  have HB0:Hid (Below w.heap.size w W0):=by rw [←hW0];exact(Below.refl _ w).alloc (Nat.le_refl _) _
  have HP0:Hid (Bk W0 w.heap.size 41 #[.int .i64 k.m.n,.int .i64 k.m.s,.slice ai k.m.i.length ci,.slice ah k.m.h.length ch,.slice ae k.m.e.length ce,.int .i64 k.m.z,.slice ad k.d.length cd,.slice ap k.p.length cp,.slice ab k.b.length cb,.int .i64 k.t,.int .i64 k.q,.bool k.f,.slice au k.s.length cu,.slice ax k.x.length cx]):=by rw [←hW0];exact Bk.new w _ _
  have HW:=yyu hW0
  have hs0:w.heap.size<W0.heap.size:=HP0.out.lt
  clear HPP HBG HSU HXX HSUI HWP hW0
  have hw:=HW.out
  have q8:=HP0.out.cell (i:=8) rfl
  have q12:=HP0.out.cell (i:=12) rfl
  have q13:=HP0.out.cell (i:=13) rfl
  by_cases c1:k.b.length≤2000
  case neg=>
    have c1':(2000:Int)<(k.b.length:Int):=by omega
    have HN:Hid (k.ok=false):=ywj (fun h=>c1 (kern_iff.1 h).1.1)
    clear c1
    go_enter Tryz.func51,Tryz.ntmps51
    go_wp2
    go_ret
    exact⟨ye8 HN.out.symm,HB0.out⟩
  have c1':¬(2000:Int)<(k.b.length:Int):=by omega
  by_cases c2:k.s.length≤2000
  case neg=>
    have c2':(2000:Int)<(k.s.length:Int):=by omega
    have HN:Hid (k.ok=false):=ywj (fun h=>c2 (kern_iff.1 h).1.2.1)
    clear c2
    go_enter Tryz.func51,Tryz.ntmps51
    go_wp2
    go_ret
    exact⟨ye8 HN.out.symm,HB0.out⟩
  have c2':¬(2000:Int)<(k.s.length:Int):=by omega
  by_cases c3:k.x.length≤16000
  case neg=>
    have c3':(16000:Int)<(k.x.length:Int):=by omega
    have HN:Hid (k.ok=false):=ywj (fun h=>c3 (kern_iff.1 h).1.2.2)
    clear c3
    go_enter Tryz.func51,Tryz.ntmps51
    go_wp2
    go_ret
    exact⟨ye8 HN.out.symm,HB0.out⟩
  have c3':¬(16000:Int)<(k.x.length:Int):=by omega
  have HC:Hid (k.b.length≤2000∧k.s.length≤2000∧k.x.length≤16000):=⟨c1,c2,c3⟩
  obtain⟨m0,m1,m2,m3,m4,m5⟩:=zgw HP0.out
  go_enter Tryz.func51,Tryz.ntmps51
  go_wp2_with fail
  clear hw q8 q12 q13 c1 c1' c2 c2' c3 c3' m0 m1 m2 m3 m4 m5
  refine(iModM _ k.m _ HSM.out (HM.out.below HB0.out)).mono ?_
  rintro e w1 ⟨rfl,hb9⟩
  have HB1:=trh HB0 hb9
  have HP1:=yyu (HP0.out.below hb9)
  clear hb9
  cases hbb:k.m.ok
  case false=>
    have HN:Hid (k.ok=false):=ywj (fun h=>by have h1:=(kern_iff.1 h).2.1;rw [hbb]at h1;cases h1)
    clear hbb
    go_wp2
    go_ret
    exact⟨ye8 HN.out.symm,HB1.out⟩
  have T1:Hid (k.m.ok=true):=hbb
  clear hbb
  have m6:=HP1.out.cell (i:=6) rfl
  go_wp2_with fail
  clear m6
  refine(iVok_any _ k.d _ (by omega) (HD.out.below HB1.out)).mono ?_
  rintro e w2 ⟨rfl,hb9⟩
  have HB2:=trh HB1 hb9
  have HP2:=yyu (HP1.out.below hb9)
  clear hb9
  cases hbb:vok k.d
  case false=>
    have HN:Hid (k.ok=false):=ywj (fun h=>by have h1:=(kern_iff.1 h).2.2.1;rw [hbb]at h1;cases h1)
    clear hbb
    go_wp2
    go_ret
    exact⟨ye8 HN.out.symm,HB2.out⟩
  have T2:Hid (vok k.d=true):=hbb
  clear hbb
  have m9:=HP2.out.cell (i:=9) rfl
  go_wp2_with fail
  clear m9
  refine(zl5 k.t _).mono ?_
  rintro e w3 ⟨rfl,hb9⟩
  have HB3:=trh HB2 hb9
  have HP3:=yyu (HP2.out.below hb9)
  clear hb9
  cases hbb:zn8 k.t
  case false=>
    have HN:Hid (k.ok=false):=ywj (fun h=>by have h1:=tagIn_iff.2 (kern_iff.1 h).2.2.2.1;rw [hbb]at h1;cases h1)
    clear hbb
    go_wp2
    go_ret
    exact⟨ye8 HN.out.symm,HB3.out⟩
  have T3:Hid (zn8 k.t=true):=hbb
  clear hbb
  have m10:=HP3.out.cell (i:=10) rfl
  go_wp2_with fail
  clear m10
  refine(zl6 k.q _).mono ?_
  rintro e w4 ⟨rfl,hb9⟩
  have HB4:=trh HB3 hb9
  have HP4:=yyu (HP3.out.below hb9)
  clear hb9
  cases hbb:zpo k.q
  case false=>
    have HN:Hid (k.ok=false):=ywj (fun h=>by have h1:=askIn_iff.2 (kern_iff.1 h).2.2.2.2.1;rw [hbb]at h1;cases h1)
    clear hbb
    go_wp2
    go_ret
    exact⟨ye8 HN.out.symm,HB4.out⟩
  have T4:Hid (zpo k.q=true):=hbb
  clear hbb
  obtain⟨m0,m1,m2,m3,m4,m5,m6,m7,m8,m9,m10,m11,m12,m13⟩:=ywd HP4.out
  go_wp2_with fail
  clear m0 m1 m2 m3 m4 m5 m6 m7 m8 m9 m10 m11 m12 m13
  refine(iPartsOk _ k _ HSK.out (HK.out.under HB4.out)).mono ?_
  rintro e w5 ⟨rfl,hb9⟩
  have HB5:=trh HB4 hb9
  have HP5:=yyu (HP4.out.below hb9)
  clear hb9
  cases hbb:yz3 k
  case false=>
    have HN:Hid (k.ok=false):=ywj (fun h=>by have h1:=(kern_iff.1 h).2.2.2.2.2.1;rw [hbb]at h1;cases h1)
    clear hbb
    go_wp2
    go_ret
    exact⟨ye8 HN.out.symm,HB5.out⟩
  have T5:Hid (yz3 k=true):=hbb
  clear hbb
  obtain⟨m0,m1,m2,m3,m4,m5,m6,m7,m8,m9,m10,m11,m12,m13⟩:=ywd HP5.out
  go_wp2_with fail
  clear m0 m1 m2 m3 m4 m5 m6 m7 m8 m9 m10 m11 m12 m13
  refine(iBagOk _ k _ HSK.out (HK.out.under HB5.out)).mono ?_
  rintro e w6 ⟨rfl,hb9⟩
  have HB6:=trh HB5 hb9
  have HP6:=yyu (HP5.out.below hb9)
  clear hb9
  cases hbb:zf2 k
  case false=>
    have HN:Hid (k.ok=false):=ywj (fun h=>by have h1:=(kern_iff.1 h).2.2.2.2.2.2.1;rw [hbb]at h1;cases h1)
    clear hbb
    go_wp2
    go_ret
    exact⟨ye8 HN.out.symm,HB6.out⟩
  have T6:Hid (zf2 k=true):=hbb
  clear hbb
  obtain⟨m0,m1,m2,m3,m4,m5,m6,m7,m8,m9,m10,m11,m12,m13⟩:=ywd HP6.out
  go_wp2_with fail
  clear m0 m1 m2 m3 m4 m5 m6 m7 m8 m9 m10 m11 m12 m13
  have HAO:Hid (∀e,e∈allK k→e.ok=true):=fun e he=>allK_ok T5.out T6.out he
  have HGO:=yyu (zou T5.out T6.out)
  have hlk:(allK k).length≤1048576:=by unfold allK;rw [List.length_append];omega
  refine(zol _ k _ HSK.out (HK.out.under HB6.out)).mono ?_
  rintro e w8 ⟨y,rfl,ho,hb9⟩
  have HB8:=trh HB6 hb9
  have HP8:=yyu (HP6.out.below hb9)
  have HY8:=yyu ho.evs
  have h08:0<w8.heap.size:=Nat.lt_of_le_of_lt (Nat.zero_le _) HP8.out.lt
  clear hb9 ho
  go_wp2_with fail
  refine(zmo (allK k) (zku (allK k)) diffEB_iff y _ hlk h08 (fun i hi=>ok_wf (HAO.out _ (getD_in hi))) HY8.out).mono ?_
  rintro e w9 ⟨rfl,hb9⟩
  have HB9:=trh HB8 hb9
  have HP9:=yyu (HP8.out.below hb9)
  clear hb9
  cases hbb:zku (allK k)
  case false=>
    have HN:Hid (k.ok=false):=ywj (fun h=>by have h1:=diffEB_iff.2 (kern_iff.1 h).2.2.2.2.2.2.2.1;rw [hbb]at h1;cases h1)
    clear hbb
    go_wp2
    go_ret
    exact⟨ye8 HN.out.symm,HB9.out⟩
  have T9:=yyu hbb
  clear hbb
  obtain⟨m0,m1,m2,m3,m4,m5,m6,m7,m8,m9,m10,m11,m12,m13⟩:=ywd HP9.out
  go_wp2_with fail
  clear m0 m1 m2 m3 m4 m5 m6 m7 m8 m9 m10 m11 m12 m13
  refine(iSureOk _ k _ HSK.out HGO.out (HK.out.under HB9.out)).mono ?_
  rintro e w10 ⟨rfl,hb9⟩
  have HB10:=trh HB9 hb9
  have HP10:=yyu (HP9.out.below hb9)
  clear hb9
  cases hbb:zcr k
  case false=>
    have HN:Hid (k.ok=false):=ywj (fun h=>by have h1:=sureIB_iff.2 (kern_iff.1 h).2.2.2.2.2.2.2.2.1;rw [hbb]at h1;cases h1)
    clear hbb
    go_wp2
    go_ret
    exact⟨ye8 HN.out.symm,HB10.out⟩
  have T10:Hid (zcr k=true):=hbb
  clear hbb
  have m13:=HP10.out.cell (i:=13) rfl
  go_wp2_with fail
  clear m13
  refine(iEmits _ k.x _ hxl (HXXI.out.below HB10.out)).mono ?_
  rintro e w11 ⟨rfl,hb9⟩
  have HB11:=trh HB10 hb9
  have HP11:=yyu (HP10.out.below hb9)
  clear hb9
  cases hbb:emsC k.x
  case false=>
    have HN:Hid (k.ok=false):=ywj (fun h=>by have h1:=(kern_iff.1 h).2.2.2.2.2.2.2.2.2;rw [hbb]at h1;cases h1)
    clear hbb
    go_wp2
    go_ret
    exact⟨ye8 HN.out.symm,HB11.out⟩
  have T11:Hid (emsC k.x=true):=hbb
  clear hbb
  have HY:Hid (k.ok=true):=kern_iff.2 ⟨HC.out,T1.out,T2.out,tagIn_iff.1 T3.out,askIn_iff.1 T4.out,T5.out,T6.out,diffEB_iff.1 T9.out,sureIB_iff.1 T10.out,T11.out⟩
  go_wp2
  go_ret
  exact⟨ye8 HY.out.symm,HB11.out⟩
theorem zby {k:Kn} (h:k.ok=true):∀i,i<k.p.length→(paAt k.p i).ok=true:=fun i hi=>(partI_iff.1 ((partsKB_iff.1 (kern_iff.1 h).2.2.2.2.2.1).2 i hi)).2.1
theorem kn_gvt {k:Kn} (h:k.ok=true):∀e,e∈gvtL k→e.ok=true:=zou (kern_iff.1 h).2.2.2.2.2.1 (kern_iff.1 h).2.2.2.2.2.2.1
theorem zj9 {k:Kn} (h:k.ok=true) (g:Ev) (hg:gvtE k=some g):g.ok=true:=by
  have h2:(gvtL k).foldl ziq none=some g:=hg
  rcases zj8 (gvtL k) none g h2 with h3|h3
  · cases h3
  · exact kn_gvt h g h3
theorem tags_pw {k:Kn} (h:k.ok=true):(yyn k.p).Pairwise (fun a b=>a.g≠b.g):=by
  have h2:((allK k).map (·.g)).Nodup:=diffE_nodup.1 (kern_iff.1 h).2.2.2.2.2.2.2.1
  unfold allK at h2
  rw [List.map_append,List.nodup_append]at h2
  exact List.pairwise_map.1 h2.1
theorem zhn {l:List Pa} {i:Nat} (h:i<l.length):l[i]=paAt l i:=(getD_at _ h).symm
theorem zp5 {p:Pa} {a:Nat} (h:a<p.p.length):∃hh:a<p.all.length,p.all[a]=(psAt p.p a).e:=by
  have hl:a<p.all.length:=by rw [yzc];omega
  exact⟨hl,by rw [←yy4 p h];exact(getD_at _ hl).symm⟩
theorem one_tag {k:Kn} (h:k.ok=true) {i j a b:Nat} (hi:i<k.p.length) (hj:j<k.p.length) (ha:a<(paAt k.p i).p.length) (hb:b<(paAt k.p j).p.length) (he:(psAt (paAt k.p i).p a).e.g=(psAt (paAt k.p j).p b).e.g):i=j∧a=b:=by
  obtain⟨h1,h2⟩:=List.pairwise_flatMap.1 (tags_pw h)
  rw [List.pairwise_iff_getElem]at h2
  obtain⟨qa,ea⟩:=zp5 ha
  obtain⟨qb,eb⟩:=zp5 hb
  have ma:(psAt (paAt k.p i).p a).e∈(paAt k.p i).all:=ea▸List.getElem_mem qa
  have mb:(psAt (paAt k.p j).p b).e∈(paAt k.p j).all:=eb▸List.getElem_mem qb
  rcases Nat.lt_trichotomy i j with hl|rfl|hl
  · have h3:=h2 i j hi hj hl
    rw [zhn hi,zhn hj]at h3
    exact absurd he (h3 _ ma _ mb)
  · refine⟨rfl,?_⟩
    have h4:=h1 (paAt k.p i) (by rw [←zhn hi];exact List.getElem_mem hi)
    rw [List.pairwise_iff_getElem]at h4
    rcases Nat.lt_trichotomy a b with hl|rfl|hl
    · have h5:=h4 a b qa qb hl
      rw [ea,eb]at h5
      exact absurd he h5
    · rfl
    · have h5:=h4 b a qb qa hl
      rw [ea,eb]at h5
      exact absurd he.symm h5
  · have h3:=h2 j i hj hi hl
    rw [zhn hi,zhn hj]at h3
    exact absurd he.symm (h3 _ mb _ ma)
abbrev PP (k:Kn):Nat→List Ps:=fun i=>(paAt k.p i).p
abbrev ctK (k:Kn):Nat→Nat:=fun i=>cutN (gvtE k) (paAt k.p i).p
def comL (k:Kn):List Ps:=comR (PP k) k.p.length (gvtE k) (fun _=>0) (setL k k.p.length).length
theorem kn_asc {k:Kn} (h:k.ok=true):∀i,i<k.p.length→AscP (PP k i):=fun i hi=>asc_ok (zby h i hi)
theorem zkg (k:Kn):∀i,i<k.p.length→CutO (gvtE k) (PP k i) (ctK k i):=fun _ _=>zgr _ _
theorem ze6 {k:Kn} (h:k.ok=true):(comL k).Perm (setL k k.p.length)∧(comL k).Pairwise leP:=
  zpd (kn_asc h) (zkg k) _ (fun _=>0) (fun _ _=>Nat.zero_le _) (Nat.le_refl _)
theorem leP_anti {k:Kn} (h:k.ok=true) {x y:Ps} (hx:x∈setL k k.p.length) (hy:y∈setL k k.p.length) (h1:leP x y) (h2:leP y x):x=y:=by
  have hc:=zkg k
  obtain⟨i,a,hi,_,ha,rfl⟩:=zg4 (fun i hi=>(hc i hi).le) hx
  obtain⟨j,b,hj,_,hb,rfl⟩:=zg4 (fun i hi=>(hc i hi).le) hy
  have ha2:a<(paAt k.p i).p.length:=Nat.lt_of_lt_of_le ha (hc i hi).le
  have hb2:b<(paAt k.p j).p.length:=Nat.lt_of_lt_of_le hb (hc j hj).le
  have h1':¬(psAt (paAt k.p j).p b).e.cmp (psAt (paAt k.p i).p a).e<0:=h1
  have h2':¬(psAt (paAt k.p i).p a).e.cmp (psAt (paAt k.p j).p b).e<0:=h2
  rw [zc3]at h1' h2'
  obtain⟨rfl,rfl⟩:=one_tag h hi hj ha2 hb2 (by omega)
  rfl
theorem com_one {k:Kn} (h:k.ok=true) {L:List Ps} (hp:L.Perm (setL k k.p.length)) (hs:L.Pairwise leP):L=comL k:=by
  obtain⟨q1,q2⟩:=ze6 h
  exact List.Perm.eq_of_pairwise (fun a b ha hb=>leP_anti h (hp.subset ha) (q1.subset hb)) hs q2 (hp.trans q1.symm)
theorem com_step {P:Nat→List Ps} {n:Nat} {g:Option Ev} {ct nx:Nat→Nat} {f:Nat} (hasc:∀i,i<n→AscP (P i)) (hcut:∀i,i<n→CutO g (P i) (ct i)) (hnx:∀i,i<n→nx i≤ct i) (hf:(remL P ct nx n).length≤f) (hb:¬ywt P nx n<0) (ha:yzm g (hdE P nx (ywt P nx n).toNat)=true):
    ∃f',f=f'+1∧comR P n g nx f=psAt (P (ywt P nx n).toNat) (nx (ywt P nx n).toNat)::comR P n g (upN nx (ywt P nx n).toNat) f'∧(∀i,i<n→upN nx (ywt P nx n).toNat i≤ct i)∧(remL P ct (upN nx (ywt P nx n).toNat) n).length≤f':=by
  obtain⟨h0,h1,h2⟩:=zbr P nx n
  obtain⟨k1,k2,k3⟩:=h2 (by omega)
  have hbc:nx (ywt P nx n).toNat<ct (ywt P nx n).toNat:=Nat.lt_of_not_le fun h=>by
    have:=(hcut _ k1).all (hasc _ k1) h k2
    unfold hdE at ha
    rw [this]at ha
    cases ha
  have hp:=(zg5 (P:=P) (ct:=ct) (nx:=nx) (hcut _ k1).le hbc k1).length_eq
  simp only [List.length_cons]at hp
  obtain⟨f',rfl⟩:∃f',f=f'+1:=⟨f-1,by omega⟩
  refine⟨f',rfl,?_,fun i hi=> ?_,by omega⟩
  · rw [comR,if_neg hb,if_pos ha]
  · unfold upN
    split
    · next e=>rw [e];omega
    · exact hnx i hi
theorem zpc {P:Nat→List Ps} {n:Nat} {g:Option Ev} {nx:Nat→Nat} {f:Nat} (h:ywt P nx n<0∨ ¬yzm g (hdE P nx (ywt P nx n).toNat)=true):comR P n g nx f= []:=by
  cases f with
  |zero=>rfl
  |succ f=>
    rw [comR]
    rcases h with h|h
    · rw [if_pos h]
    · split
      · rfl
      · rfl
end Go.Proofs.YtghndljgadpijaaGreat

