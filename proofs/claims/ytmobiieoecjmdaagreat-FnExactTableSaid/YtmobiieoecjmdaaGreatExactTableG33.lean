/- HiK, CoS, TaS, WVs, MByJ -/
import Derived.Test.YtmobiieoecjmdaaGreatExactTableG01
import Derived.Test.YtmobiieoecjmdaaGreatExactTableG03
import Derived.Test.YtmobiieoecjmdaaGreatExactTableG22
import Derived.Test.YtmobiieoecjmdaaGreatExactTableLCtS
import Derived.Test.YtmobiieoecjmdaaGreatExactTableLKSg
import Derived.Test.YtmobiieoecjmdaaGreatExactTableG25
import Derived.Test.YtmobiieoecjmdaaGreatExactTableG23
/- Histories: held against each other, marked, and found again. -/
namespace Go.Proofs.YtmobiieoecjmdaaGreat
set_option maxHeartbeats 4000000
open Go.RowKit
theorem yeq {p:Prop} (h:p):Hid p:=h
structure Hi where
 ev:List Ev
 em:List Em
 k:Int
 f:Bool
theorem yqj {w:World} {B B':Nat} {T T':TypeId} {c c' n n':Nat} {v v':Value} {cs cs':List Value} (h:w.ownsRow B T c v n cs) (h':w.ownsRow B' T' c' v' n' cs') (hT:T≠T') {k:Nat} (e:v.ownBlock=some k) (e':v'.ownBlock=some k):False:=by
 obtain⟨_,⟨rfl,_⟩|⟨g,cap,cur,rfl,_,hc,_⟩⟩:=h
 ·cases e
 ·obtain⟨_,⟨rfl,_⟩|⟨g',cap',cur',rfl,_,hc',_⟩⟩:=h'
  ·cases e'
  ·cases e
   cases e'
   have h2:=hc.symm.trans hc'
   cases h2
   exact hT rfl
def HiF (F:Nat→Prop) (w:World) (y:Value) (h:Hi):Prop:=
 ∃(A C:Nat→Prop) (ve vx:Value),y= .agg #[ve,vx,.int .i64 h.k,.bool h.f]∧RowF A w ve h.ev.length 7 (yag h.ev)∧RowF C w vx h.em.length 3 (yav h.em)∧(∀k,A k→F k∧ ¬C k)∧ ∀k,C k→F k
theorem HiF.turns {F S:Nat→Prop} {w w':World} {x:Value} {h:Hi} (hh:HiF F w x h) (ht:Turns S w w') (hS:∀k,F k→ ¬S k):HiF F w' x h:=by
 obtain⟨A,C,ve,vx,rfl,h1,h2,h3,h4⟩:=hh
 exact⟨A,C,ve,vx,rfl,h1.turns ht (fun k hk=>hS k (h3 k hk).1),h2.turns ht (fun k hk=>hS k (h4 k hk)),h3,h4⟩
theorem HiF.below {F:Nat→Prop} {w w':World} {x:Value} {h:Hi} (hh:HiF F w x h) (hb:Below w.heap.size w w'):HiF F w' x h:=
 hh.turns (S:=fun _=>False) (Turns.of_below hb) (fun _ _=>id)
theorem HiF.mono {F F':Nat→Prop} {w:World} {x:Value} {h:Hi} (hh:HiF F w x h) (hF:∀k,F k→F' k):HiF F' w x h:=by
 obtain⟨A,C,ve,vx,rfl,h1,h2,h3,h4⟩:=hh
 exact⟨A,C,ve,vx,rfl,h1,h2,fun k hk=>⟨hF k (h3 k hk).1,(h3 k hk).2⟩,fun k hk=>hF k (h4 k hk)⟩
theorem yrj {w:World} {B:Nat} {ve vx:Value} {ev:List Ev} {em:List Em} {k:Int} {f:Bool} (h1:w.ownsRow B 110 7 ve ev.length (yag ev)) (h2:w.ownsRow B 113 3 vx em.length (yav em)):
  HiF (fun j=>B≤j∧j<w.heap.size) w (.agg #[ve,vx,.int .i64 k,.bool f]) ⟨ev,em,k,f⟩:=
 ⟨_,_,ve,vx,rfl,yp4 (yba _) h1,yp4 (ye8 _) h2,fun j e=>⟨World.ownsRow.lt h1 j e,fun e'=>yqj h1 h2 (by decide) e e'⟩,fun j e=>World.ownsRow.lt h2 j e⟩
structure SmallH (h:Hi):Prop where
 s:h.ev.length≤1048576
 x:h.em.length≤1048576
theorem yex {F G:Nat→Prop} (x y:Value) (f:Hi) (w:World) (hs:SmallH f) (hx:HiF F w x f) (hy:HiF G w y f):
  Calls Tryz.prog 25 #[x,y] w fun e w'=>e= .returned (.bool true)∧Below w.heap.size w w':=by
 obtain⟨_,_,us,ux,rfl,h2,h3,_⟩:=hx
 obtain⟨_,_,us',ux',rfl,k2,k3,_⟩:=hy
 obtain⟨s,x,k,b⟩:=f
 have HE:Hid (IsEvs w us s∧IsEvs w us' s):=⟨h2.isEvs,k2.isEvs⟩
 have HX:Hid (IsX w ux x∧IsX w ux' x):=⟨h3.isX,k3.isX⟩
 have HS:=yeq hs
 clear h2 h3 k2 k3 hs
 obtain⟨W0,hW0⟩:∃W0,(w.alloc (.cells #[us,ux,.int .i64 k,.bool b] 62)).alloc (.cells #[us',ux',.int .i64 k,.bool b] 62)=W0:=⟨_,rfl⟩
 have HB0:=hdq (beA2 hW0)
 have HP0:=hdq (bkA2 hW0)
 have HQ0:=hdq (bkB2 hW0)
 have p0:=HP0.out.cell (i:=0) rfl
 have q0:=HQ0.out.cell (i:=0) rfl
 go_enter Tryz.func25,Tryz.ntmps25
 go_wp2_with fail
 clear p0 q0 hW0
 refine(ylf _ _ s _ HS.out.s (HE.out.1.below HB0.out) (HE.out.2.below HB0.out)).mono ?_
 rintro e w2 ⟨rfl,hb⟩
 have HB2:=yeq (trm HB0.out hb)
 have HP2:=yeq (HP0.out.below hb)
 have HQ2:=yeq (HQ0.out.below hb)
 have p4:=HP2.out.cell (i:=1) rfl
 have q4:=HQ2.out.cell (i:=1) rfl
 clear hb HB0 HP0 HQ0
 go_wp2_with fail
 clear p4 q4
 refine(ypl _ _ x _ HS.out.x (HX.out.1.below HB2.out) (HX.out.2.below HB2.out)).mono ?_
 rintro e w3 ⟨rfl,hb⟩
 have HB3:=yeq (trm HB2.out hb)
 have p5:=(HP2.out.below hb).cell (i:=2) rfl
 have q5:=(HQ2.out.below hb).cell (i:=2) rfl
 have p6:=(HP2.out.below hb).cell (i:=3) rfl
 have q6:=(HQ2.out.below hb).cell (i:=3) rfl
 clear hb HB2 HP2 HQ2
 go_wp2
 go_ret
 exact⟨rfl,HB3.out⟩
def HeldHi (F:Nat→Prop) (w:World) (y:Value) (f:Hi):Prop:=
 ∃(B C:Nat→Prop) (us ux:Value),y= .agg #[us,ux,.int .i64 f.k,.bool f.f]∧RowF B w us f.ev.length 7 (ybr 1 (f.ev.length*7))∧
  RowF C w ux f.em.length 3 (ybr (1+7*(f.ev.length:Int)) (f.em.length*3))∧(∀k,B k→F k∧ ¬C k)∧ ∀k,C k→F k
theorem HeldHi.turns {F S:Nat→Prop} {w w':World} {x:Value} {f:Hi} (h:HeldHi F w x f) (ht:Turns S w w') (hS:∀k,F k→ ¬S k):HeldHi F w' x f:=by
 obtain⟨B,C,us,ux,rfl,h2,h3,h5,h6⟩:=h
 exact⟨B,C,us,ux,rfl,h2.turns ht (fun k hk=>hS k (h5 k hk).1),h3.turns ht (fun k hk=>hS k (h6 k hk)),h5,h6⟩
theorem HeldHi.below {F:Nat→Prop} {w w':World} {x:Value} {f:Hi} (h:HeldHi F w x f) (hb:Below w.heap.size w w'):HeldHi F w' x f:=
 h.turns (S:=fun _=>False) (Turns.of_below hb) (fun _ _=>id)
def ymm (f:Hi):Int:=1+7*(f.ev.length:Int)+3*(f.em.length:Int)
theorem yr6 (f:Hi):1≤ymm f:=by unfold ymm;omega
theorem yj9 {F:Nat→Prop} {x:Value} {f:Hi} {w:World} (hs:SmallH f) (h:HiF F w x f) (hF:∀k,F k→k<w.heap.size):
  Calls Tryz.prog 27 #[x,.int .i64 1] w fun e w'=>e= .returned (.int .i64 (ymm f))∧HeldHi F w' x f∧Turns F w w':=by
 obtain⟨B,C,us,ux,rfl,h2,h3,h5,h6⟩:=h
 obtain⟨s,x,k,b⟩:=f
 have HE:=yeq h2
 have HX:=yeq h3
 have HF:Hid ((∀k,F k→k<w.heap.size)∧(∀k,B k→F k∧ ¬C k)∧ ∀k,C k→F k):=⟨hF,h5,h6⟩
 have he:s.length≤1048576:=hs.s
 have hx:x.length≤1048576:=hs.x
 clear h2 h3 h5 h6 hs hF
 obtain⟨W0,hW0⟩:∃W0,w.alloc (.cells #[us,ux,.int .i64 k,.bool b] 62)=W0:=⟨_,rfl⟩
 have HB0:=hdq (beA hW0)
 have HP0:=hdq (bkA hW0)
 have p0:=HP0.out.cell (i:=0) rfl
 go_enter Tryz.func27,Tryz.ntmps27
 go_wp2_with fail
 clear p0 hW0
 refine(ytl (F:=B) 1 (by omega) (by omega) (by omega) (HE.out.below HB0.out)).mono ?_
 rintro e w2 ⟨rfl,hr2,ht⟩
 have HT2:Hid (Turns F W0 w2):=ht.mono (fun k hk=>(HF.out.2.1 k hk).1)
 have HE2:=yeq hr2
 have HX2:=yeq ((HX.out.below HB0.out).turns ht (fun k hk hb=>(HF.out.2.1 k hb).2 hk))
 have HP2:=yeq (HP0.out.turns ht (fun hk=>by have:=HF.out.1 _ (HF.out.2.1 _ hk).1;omega))
 have p4:=HP2.out.cell (i:=1) rfl
 clear hr2 ht HE HX HP0
 go_wp2_with fail
 clear p4
 refine(markXF (F:=C) (1+7*(s.length:Int)) (by omega) (by omega) (by omega) HX2.out).mono ?_
 rintro e w3 ⟨rfl,hr3,ht⟩
 have HT3:Hid (Turns F W0 w3):=HT2.out.trans (ht.mono (fun k hk=>HF.out.2.2 k hk))
 have HE3:=yeq (HE2.out.turns ht (fun k hk hc=>(HF.out.2.1 k hk).2 hc))
 have HX3:=yeq hr3
 clear hr3 ht HE2 HX2 HP2 HT2
 go_wp2
 go_ret
 exact⟨rfl,⟨B,C,us,ux,rfl,HE3.out,HX3.out,HF.out.2⟩,(Turns.of_below HB0.out).trans HT3.out⟩
theorem yg1 {F:Nat→Prop} {x:Value} {f:Hi} {w:World} (hs:SmallH f) (h:HeldHi F w x f):
  Calls Tryz.prog 28 #[x,.int .i64 1] w fun e w'=>e= .returned (.int .i64 (ymm f))∧Below w.heap.size w w':=by
 obtain⟨B,C,us,ux,rfl,h2,h3,_⟩:=h
 obtain⟨s,x,k,b⟩:=f
 have HE:=yeq h2
 have HX:=yeq h3
 have he:s.length≤1048576:=hs.s
 have hx:x.length≤1048576:=hs.x
 clear h2 h3 hs
 obtain⟨W0,hW0⟩:∃W0,w.alloc (.cells #[us,ux,.int .i64 k,.bool b] 62)=W0:=⟨_,rfl⟩
 have HB0:=hdq (beA hW0)
 have HP0:=hdq (bkA hW0)
 have p0:=HP0.out.cell (i:=0) rfl
 have p1:=HP0.out.cell (i:=1) rfl
 have n2:¬(1+7*(s.length:Int)<0):=by omega
 have n3:¬(1+7*(s.length:Int)+3*(x.length:Int)<0):=by omega
 go_enter Tryz.func28,Tryz.ntmps28
 go_wp2_with fail
 try simp only [hW0]
 clear hW0
 refine(heldEF (F:=B) 1 (by omega) (by omega) (by omega) (HE.out.below HB0.out)).mono ?_
 rintro e w' ⟨rfl,hw⟩
 have hw':=hw.symm
 clear hw
 subst hw'
 go_wp2_with fail
 refine(heldXF (F:=C) (1+7*(s.length:Int)) (by omega) (by omega) (by omega) (HX.out.below HB0.out)).mono ?_
 rintro e w' ⟨rfl,hw⟩
 have hw':=hw.symm
 clear hw
 subst hw'
 go_wp2
 go_ret
 exact⟨rfl,HB0.out⟩
end Go.Proofs.YtmobiieoecjmdaaGreat

/- The specification's Committed. -/
namespace Go.Proofs.YtmobiieoecjmdaaGreat
open Go.RowKit
noncomputable def comH (k : Kn) : Hi := if k.ok then ⟨k.s ++ ydi (comL k), ydn k (comL k), k.q, k.f⟩ else ⟨[], [], 0, false⟩
theorem ydj {p:Prop} (h:p):Hid p:=h
theorem kd_ok {v:Wd} (hok:v.ok=true) {i:Nat} (hi:i<v.k.length):(knAt v.k i).ok=true:=(runB_iff.1 ((wok_iff.1 hok).2.1 i hi)).1
noncomputable def tabA (v : Wd) (i : Int) : Hi := if (v.ok && (decide (0 ≤ i) && decide (i < v.k.length))) = true then comH (knAt v.k i.toNat) else ⟨[], [], 0, false⟩
set_option maxRecDepth 100000 in
set_option maxHeartbeats 16000000 in
theorem sTable (x:Value) (v:Wd) (i:Int) (w:World) (hs:ycs v) (h:IsW w x v):
  Calls Tryz.prog 34 #[x,.int .i64 i] w fun e w'=>∃y,e= .returned (.tuple #[y,.bool (v.ok&&(decide (0≤i)&&decide (i<v.k.length)))])∧HiF (fun j=>w.heap.size≤j∧j<w'.heap.size) w' y (tabA v i)∧Below w.heap.size w w':=by
 have HSW:Hid (ycs v):=hs
 have hkl:v.k.length≤1048576:=hs.2.1.1
 have hcl:v.c.length≤1048576:=by have h9:=hs.2.2;rw [ydy]at h9;omega
 obtain⟨ai,ci,ah,ch,ae,ce,ak,ck,ac,cc,rfl,hm,hk,hc⟩:=h.form
 have HWW:=ydj h
 have HKS:=ydj hk
 clear h hm hk hc
 obtain⟨Rb,hRb⟩:∃Rb,Rb=w.heap.size+1:=⟨_,rfl⟩
 obtain⟨W0,hW0⟩:∃W0,(w.alloc (.cells #[.int .i64 v.m.n,.int .i64 v.m.s,.slice ai v.m.i.length ci,.slice ah v.m.h.length ch,.slice ae v.m.e.length ce,.int .i64 v.m.z,.slice ak v.k.length ck,.slice ac v.c.length cc] 39)).alloc (.cells #[.slice none 0 0,.slice none 0 0,.int .i64 0,.bool false] 62)=W0:=⟨_,rfl⟩
 have HB0:=hdq (beA2 hW0)
 have HP0:=hdq (bkA2 hW0)
 have HR0:Hid (Bk W0 Rb 62 #[.slice none 0 0,.slice none 0 0,.int .i64 0,.bool false]):=by rw [←hW0,hRb];exact Bk.newAt (by simp) _ _
 have HW0:=ydj hW0
 have HRB:=ydj hRb
 have hRw:w.heap.size<Rb:=by omega
 have hRW:Rb<W0.heap.size:=HR0.out.lt
 clear hRb
 obtain⟨q0,q1,q2,q3,q4,q5,q6,q7⟩:=c8_8 HP0.out
 go_enter Tryz.func34,Tryz.ntmps34
 go_wp2_with fail
 clear q0 q1 q2 q3 q4 q5 q6 q7 hW0
 try rw [HW0.out]
 try rw [←HRB.out]
 cases hat:(v.ok&&(decide (0≤i)&&decide (i<v.k.length)))
 case false=>
  have HANS:Hid (tabA v i=⟨[],[],0,false⟩):=(by unfold tabA;rw [hat];rfl:tabA v i=⟨[],[],0,false⟩)
  have HATV:=ydj hat
  refine(yp7 _ v i false hat _ HSW.out (HWW.out.under HB0.out)).mono ?_
  rintro e w1 ⟨rfl,hb1⟩
  have HB1:=ydj (trm HB0.out hb1)
  have HR1:=ydj (HR0.out.below hb1)
  clear hb1 hat
  obtain⟨r0,r1,r2,r3⟩:=c4_4 HR1.out
  have rf:=HR1.out.free
  go_wp2
  clear r0 r1 r2 r3 rf
  obtain⟨X,hX⟩:∃X,putH w1 Rb (.slice none 0 0) (.slice none 0 0) (.int .i64 0) (.bool false)=X:=⟨_,rfl⟩
  have ht:=yc0 w1 Rb (.slice none 0 0) (.slice none 0 0) (.int .i64 0) (.bool false)
  have hk:=HR1.out.putH (.slice none 0 0) (.slice none 0 0) (.int .i64 0) (.bool false)
  rw [hX]at ht hk
  unfold putH at hX
  rw [hX]
  obtain⟨t0,t1,t2,t3⟩:=c4_4 hk
  refine bodyPost_ret (v:= .tuple #[.agg #[.slice none 0 0,.slice none 0 0,.int .i64 0,.bool false],.bool false]) (by simp [results,Tryz.results34,go_sem,t0,t1,t2,t3]) rfl ?_
  rw [HATV.out,HANS.out]
  refine⟨_,rfl,?_,HB1.out.trans (ht.to_below (fun b e=>by omega) HB1.out.size)⟩
  exact(yrj (World.ownsRow_nil X w.heap.size 110 7) (World.ownsRow_nil X w.heap.size 113 3))
 have HATV:=ydj hat
 refine(yp7 _ v i true hat _ HSW.out (HWW.out.under HB0.out)).mono ?_
 rintro e w1 ⟨rfl,hb1⟩
 have HB1:=ydj (trm HB0.out hb1)
 have HR1:=ydj (HR0.out.below hb1)
 have HP1:=ydj (HP0.out.below hb1)
 have HANS:Hid (tabA v i=comH (knAt v.k i.toNat)):=(by unfold tabA;rw [hat];rfl:tabA v i=_)
 simp only [Bool.and_eq_true,decide_eq_true_eq]at hat
 obtain⟨hok,hi0,hi1⟩:=hat
 obtain⟨ia,rfl⟩:∃n:Nat,i=(n:Int):=⟨i.toNat,by omega⟩
 rw [Int.toNat_natCast]at HANS
 have hia:ia<v.k.length:=by omega
 have HOKK:=ydj (kd_ok hok hia)
 clear hb1 hok
 obtain⟨b,off,rfl,hbl,hKA⟩:=HKS.out.resolve_left (by omega)
 obtain⟨ki,di,kh,dh,ke,de,k6,d6,k7,d7,k8,d8,k12,d12,k13,d13,⟨f0,f1,f2,f3,f4,f5,f6,f7,f8,f9,f10,f11,f12,f13⟩,hkn,-,-⟩:=(hKA ia hia).form
 have HKN:=ydj hkn
 have HSKi:=ydj (HSW.out.2.1.2 ia hia)
 have g0:=(HB1.out.cell (p:=⟨b,_,none⟩) hbl).trans f0
 have g1:=(HB1.out.cell (p:=⟨b,_,none⟩) hbl).trans f1
 have g2:=(HB1.out.cell (p:=⟨b,_,none⟩) hbl).trans f2
 have g3:=(HB1.out.cell (p:=⟨b,_,none⟩) hbl).trans f3
 have g4:=(HB1.out.cell (p:=⟨b,_,none⟩) hbl).trans f4
 have g5:=(HB1.out.cell (p:=⟨b,_,none⟩) hbl).trans f5
 have g6:=(HB1.out.cell (p:=⟨b,_,none⟩) hbl).trans f6
 have g7:=(HB1.out.cell (p:=⟨b,_,none⟩) hbl).trans f7
 have g8:=(HB1.out.cell (p:=⟨b,_,none⟩) hbl).trans f8
 have g9:=(HB1.out.cell (p:=⟨b,_,none⟩) hbl).trans f9
 have g10:=(HB1.out.cell (p:=⟨b,_,none⟩) hbl).trans f10
 have g11:=(HB1.out.cell (p:=⟨b,_,none⟩) hbl).trans f11
 have g12:=(HB1.out.cell (p:=⟨b,_,none⟩) hbl).trans f12
 have g13:=(HB1.out.cell (p:=⟨b,_,none⟩) hbl).trans f13
 have q6:=HP1.out.cell (i:=6) rfl
 have hki:(ia:Int)<(v.k.length:Int):=by omega
 clear hkn hKA f0 f1 f2 f3 f4 f5 f6 f7 f8 f9 f10 f11 f12 f13
 obtain⟨k,hk⟩:∃k,(knAt v.k ia)=k:=⟨_,rfl⟩
 rw [hk]at HKN HSKi HOKK g0 g1 g2 g3 g4 g5 g6 g7 g8 g9 g10 g11 g12 g13
 have HAK:Hid (comH (knAt v.k ia)=comH k):=(by rw [hk]:comH (knAt v.k ia)=comH k)
 clear hk
 go_wp2_with fail
 clear q6 g0 g1 g2 g3 g4 g5 g6 g7 g8 g9 g10 g11 g12 g13
 refine(sCommit1 _ k _ HSKi.out HOKK.out (HKN.out.under HB1.out)).mono ?_
 rintro e w7 ⟨ay,cy,ax,cx2,rfl,hC,hX9,hb7⟩
 have HB7:=ydj (trm HB1.out hb7)
 have HR7:=ydj (HR1.out.below hb7)
 have HAC:Hid (comH k=⟨k.s++ydi (comL k),ydn k (comL k),k.q,k.f⟩):=by show _=_;unfold comH;rw [if_pos HOKK.out]
 obtain⟨EL,hEL⟩:∃E,k.s++ydi (comL k)=E:=⟨_,rfl⟩
 obtain⟨TL,hTL⟩:∃E,ydn k (comL k)=E:=⟨_,rfl⟩
 rw [hEL]at hC HAC
 rw [hTL]at hX9 HAC
 rw [hEL,hTL]
 have HC7:=ydj hC
 have HX7:=ydj hX9
 have hs7:w1.heap.size≤w7.heap.size:=hb7.size
 clear hC hX9 hb7 hEL hTL
 obtain⟨r0,r1,r2,r3⟩:=c4_4 HR7.out
 have rf:=HR7.out.free
 go_wp2
 clear r0 r1 r2 r3 rf
 obtain⟨X,hX⟩:∃X,putH w7 Rb (.slice ay EL.length cy) (.slice ax TL.length cx2) (.int .i64 k.q) (.bool k.f)=X:=⟨_,rfl⟩
 have ht:=yc0 w7 Rb (.slice ay EL.length cy) (.slice ax TL.length cx2) (.int .i64 k.q) (.bool k.f)
 have hk:=HR7.out.putH (.slice ay EL.length cy) (.slice ax TL.length cx2) (.int .i64 k.q) (.bool k.f)
 rw [hX]at ht hk
 unfold putH at hX
 rw [hX]
 obtain⟨t0,t1,t2,t3⟩:=c4_4 hk
 refine bodyPost_ret (v:= .tuple #[.agg #[.slice ay EL.length cy,.slice ax TL.length cx2,.int .i64 k.q,.bool k.f],.bool true]) (by simp [results,Tryz.results34,go_sem,t0,t1,t2,t3]) rfl ?_
 rw [HATV.out,HANS.out,HAK.out,HAC.out]
 refine⟨_,rfl,?_,HB7.out.trans (ht.to_below (fun b e=>by omega) HB7.out.size)⟩
 exact yrj (yb8 (owN HC7.out ht HR7.out) HB1.out.size) (yb8 (owN HX7.out ht HR7.out) HB1.out.size)
set_option maxHeartbeats 8000000
set_option maxRecDepth 100000
open Go.RowKit
theorem yc6 {p:Prop} (h:p):Hid p:=h
theorem RowV.isD {B:Nat} {w0 w:World} {x:Value} {l:List (List Int)} (h:RowV B w0 w x l) (hb:Below w0.heap.size w0 w):IsD w x (yce l):=by
 obtain⟨us,h1,h2,h3⟩:=h
 obtain⟨hl,⟨rfl,h0⟩|⟨g,cap,cur,rfl,_,hc,k1,k2,k3,k4⟩⟩:=h1
 ·obtain rfl:=List.eq_nil_of_length_eq_zero h0
  exact .nil none 0 1 _ (by unfold maxLen;omega)
 ·refine IsD.of_parts k1 k2 (.inr ⟨g,0,rfl,(Array.getElem?_eq_some_iff.1 hc).1,fun j hj=> ?_⟩)
  obtain⟨u,hu,hd⟩:=h3 j (by omega)
  refine⟨u,?_,hd.under hb⟩
  have h9:(cur.toList.take (l.length*1))[j]? =some u:=by rw [k4];exact hu
  rw [List.getElem?_take_of_lt (by omega)]at h9
  rw [Nat.zero_add]
  simpa [World.cell?,hc] using h9
theorem runs_any (x:Value) (v:Wd) (w:World) (hs:ycs v) (h:IsW w x v):
  Calls Tryz.prog 46 #[x] w fun e w'=>∃y,e= .returned y∧Below w.heap.size w w'∧RowV w.heap.size w w' y (dsOf v.k):=by
 have HSM:Hid (SmallM v.m):=hs.1
 have HSK:Hid (yek v.k):=hs.2.1
 have HSV:=yc6 hs.2.2
 have hkl:v.k.length≤1048576:=hs.2.1.1
 have hcl:v.c.length≤1048576:=by have h9:=hs.2.2;rw [ydy]at h9;omega
 obtain⟨ai,ci,ah,ch,ae,ce,ak,ck,ac,cc,rfl,hm,hk,hc⟩:=h.form
 have HWW:=yc6 h
 have HMW:=yc6 hm
 have HKS:=yc6 hk
 have HCS:=yc6 hc
 clear h hm hk hc
 obtain⟨W0,hW0⟩:∃W0,w.alloc (.cells #[.int .i64 v.m.n,.int .i64 v.m.s,.slice ai v.m.i.length ci,.slice ah v.m.h.length ch,.slice ae v.m.e.length ce,.int .i64 v.m.z,.slice ak v.k.length ck,.slice ac v.c.length cc] 39)=W0:=⟨_,rfl⟩
 have HB0:=hdq (beA hW0)
 have HP0:=hdq (bkA hW0)
 have q6:=HP0.out.cell (i:=6) rfl
 go_enter Tryz.func46,Tryz.ntmps46
 go_wp2
 clear q6 hW0
 go_loopw [9,3] (fun i x wr=>∃j:Nat,j≤v.k.length∧i= .int .i64 j∧Below w.heap.size w wr∧ ∃(L:List (List Int)) (a3:Option Addr) (c3:Nat),x= .slice a3 L.length c3∧Hid (L=(dsOf v.k).take j)∧Hid (RowV w.heap.size w wr (.slice a3 L.length c3) L)) (fun i _ _=>v.k.length-(intOf i).toNat)
 case atStart=>exact⟨0,Nat.zero_le _,rfl,HB0.out,[],none,0,rfl,rfl,RowV.nil _ _ _⟩
 case round=>
  obtain⟨j,hj,rfl,hB,L,a3,c3,rfl,HL,HRV⟩:=hrel
  have HBw:=yc6 hB
  clear hB
  by_cases hlt:j<v.k.length
  case pos=>
   have hjd:decide ((j:Int)<(v.k.length:Int))=true:=by simpa using hlt
   obtain⟨b,off,rfl,hbl,hKA⟩:=HKS.out.resolve_left (by omega)
   obtain⟨ki,di,kh,dh,ke,de,k6,d6,k7,d7,k8,d8,k12,d12,k13,d13,⟨f0,f1,f2,f3,f4,f5,f6,f7,f8,f9,f10,f11,f12,f13⟩,hkn,hkm,hkd⟩:=(hKA j hlt).form
   have HDW:=yc6 hkd
   have f0:=(HBw.out.cell (p:=⟨b,_,none⟩) hbl).trans f0
   have f1:=(HBw.out.cell (p:=⟨b,_,none⟩) hbl).trans f1
   have f2:=(HBw.out.cell (p:=⟨b,_,none⟩) hbl).trans f2
   have f3:=(HBw.out.cell (p:=⟨b,_,none⟩) hbl).trans f3
   have f4:=(HBw.out.cell (p:=⟨b,_,none⟩) hbl).trans f4
   have f5:=(HBw.out.cell (p:=⟨b,_,none⟩) hbl).trans f5
   have f6:=(HBw.out.cell (p:=⟨b,_,none⟩) hbl).trans f6
   have f7:=(HBw.out.cell (p:=⟨b,_,none⟩) hbl).trans f7
   have f8:=(HBw.out.cell (p:=⟨b,_,none⟩) hbl).trans f8
   have f9:=(HBw.out.cell (p:=⟨b,_,none⟩) hbl).trans f9
   have f10:=(HBw.out.cell (p:=⟨b,_,none⟩) hbl).trans f10
   have f11:=(HBw.out.cell (p:=⟨b,_,none⟩) hbl).trans f11
   have f12:=(HBw.out.cell (p:=⟨b,_,none⟩) hbl).trans f12
   have f13:=(HBw.out.cell (p:=⟨b,_,none⟩) hbl).trans f13
   have HSKj:=yc6 (HSK.out.2 j hlt)
   obtain⟨V1,hV1⟩:∃V1,wr.alloc (.cells #[.int .i64 (knAt v.k j).m.n,.int .i64 (knAt v.k j).m.s,.slice ki (knAt v.k j).m.i.length di,.slice kh (knAt v.k j).m.h.length dh,.slice ke (knAt v.k j).m.e.length de,.int .i64 (knAt v.k j).m.z,.slice k6 (knAt v.k j).d.length d6,.slice k7 (knAt v.k j).p.length d7,.slice k8 (knAt v.k j).b.length d8,.int .i64 (knAt v.k j).t,.int .i64 (knAt v.k j).q,.bool (knAt v.k j).f,.slice k12 (knAt v.k j).s.length d12,.slice k13 (knAt v.k j).x.length d13] 57)=V1:=⟨_,rfl⟩
   have hbV:=beA hV1
   have HBV:=yc6 hbV
   have HV1:=yc6 hbV.size
   have HK1:=hdq (bkA hV1)
   have HKI:=yc6 ((hkn.under HBw.out).under hbV)
   have HMI:=yc6 ((hkm.below HBw.out).below hbV)
   clear hkn hkm hkd hbV hKA
   have hLl:L.length≤1048576:=by rw [HL.out,List.length_take];omega
   have HRV3:=yc6 (HRV.out.below HBV.out)
   have HB3:=yc6 (trm HBw.out HBV.out)
   have hk6:=HK1.out.cell (i:=6) rfl
   obtain⟨V4,hV4⟩:∃V4,V1.alloc (.cells #[.slice k6 (knAt v.k j).d.length d6] 22)=V4:=⟨_,rfl⟩
   have hb4:=beA hV4
   have HS4:Hid (SrcC V4 (.slice (some ⟨V1.heap.size,0,none⟩) 1 1) 1 1 [.slice k6 (knAt v.k j).d.length d6]):=ynl (T:=22) (hV4▸Bk.new V1 _ _)
   have HBV4:=yc6 (trm HB3.out hb4)
   have HD4:=yc6 HDW.out
   obtain⟨us,ho,h1,h3⟩:=HRV3.out.below hb4
   have HO4:=yc6 ho
   have HU1:=yc6 h1
   have HU3:=yc6 h3
   have hs4:w.heap.size≤V4.heap.size:=HBV4.out.size
   obtain⟨iv,hiv,hiv0,hiv1,hiv2⟩:=info_parts ytu
   clear ho h1 h3 hb4
   go_wp2_with (at_builtin;refine yat V4 rfl _ _ 28 rfl w.heap.size 22 iv (.slice none 0 0) 1 24 Tryz.underlying28 hiv hiv0 hiv1 hiv2 rfl (by decide) (.slice a3 L.length c3) L.length us rfl HO4.out (.slice (some ⟨V1.heap.size,0,none⟩) 1 1) 1 [.slice k6 (knAt v.k j).d.length d6] rfl HS4.out (yj5 HD4.out.one.1) (by unfold maxLen;omega) (by omega) hs4 ?_;intro vn w5 hown hgrow hnew;obtain⟨an,cn,hvn⟩:=yau hown;subst hvn;have HG5:Hid (V4.grownBy w5 (Value.slice a3 L.length c3).ownBlock):=hgrow;have HO5:Hid (w5.ownsRow w.heap.size 22 1 (.slice an (L.length+1) cn) (L.length+1) (us++ [.slice k6 (knAt v.k j).d.length d6])):=hown;clear hown hgrow hnew)
   go_roundw
   case rel=>
    have hR5:=RowV.grown HO4.out HU1.out HU3.out HO5.out HD4.out
    have hB5:=yfi HO4.out HG5.out HBV4.out (Nat.le_refl _) hs4
    refine⟨j+1,by omega,by go_num,hB5,L++ [(knAt v.k j).d],an,cn,by rw [List.length_append];rfl,?_,by rw [List.length_append];exact hR5⟩
    show L++ [(knAt v.k j).d]=_
    rw [yg9 (by rw [ycb];exact hlt),←HL.out,yjp hlt]
   case measure=>simp [intOf];omega
  case neg=>
   have hje:j=v.k.length:=by omega
   have hLK:L=dsOf v.k:=by(have h9:=HL.out;rw [hje,List.take_of_length_le (by rw [ycb];exact Nat.le_refl _)]at h9;exact h9)
   have HLK:Hid (L=dsOf v.k):=hLK
   subst hje
   clear hLK HL
   go_wp2
   go_ret
   exact⟨_,rfl,HBw.out,by rw [←HLK.out];exact HRV.out⟩
def ybz:List (List Int)→List Value
 | []=> []
 |d::l=> [i64 (intAt d 0),i64 (intAt d 1),i64 (intAt d 2),i64 (intAt d 3)]++ybz l
theorem yhr:∀l,(ybz l).length=l.length*4
 | []=>rfl
 |d::l=>by rw [ybz,List.length_append,yhr l,List.length_cons];simp;omega
theorem yhs:∀l r,ybz (l++r)=ybz l++ybz r
 | [],r=>rfl
 |d::l,r=>by rw [List.cons_append,ybz,yhs l r,ybz,List.append_assoc]
theorem yk5:∀l,∀u∈ybz l,u.oneCell'=true
 | [],u,h=>by cases h
 |d::l,u,h=>by
  rcases List.mem_append.1 h with h|h
  ·simp at h
   rcases h with rfl|rfl|rfl|rfl<;>rfl
  ·exact yk5 l u h
theorem yiq:∀(l:List (List Int)) (i r:Nat),i<l.length→r<4→(ybz l)[i*4+r]? =some (i64 (intAt (vAt l i) r))
 | [],i,r,h,_=>by simp at h
 |d::l,0,r,h,hr=>by
  rw [ybz,List.getElem?_append_left (by simp;omega)]
  have h4:r=0∨r=1∨r=2∨r=3:=by omega
  rcases h4 with rfl|rfl|rfl|rfl<;>rfl
 |d::l,i+1,r,h,hr=>by
  have e:vAt (d::l) (i+1)=vAt l i:=rfl
  rw [ybz,List.getElem?_append_right (by simp;omega),e]
  simp only [List.length_cons,List.length_nil]
  rw [show(i+1)*4+r-(0+1+1+1+1)=i*4+r by omega]
  exact yiq l i r (by simpa using h) hr
abbrev RowA (B:Nat) (w:World) (x:Value) (l:List (List Int)):Prop:=w.ownsRow B 137 4 x l.length (ybz l)
def VcAt (w:World) (b off:Nat) (l:List (List Int)):Prop:=b<w.heap.size∧ ∀i r,i<l.length→r<4→w.cell? ⟨b,off+i*4+r,none⟩=some (i64 (intAt (vAt l i) r))
theorem VcAt.below {w w':World} {b off:Nat} {l:List (List Int)} (h:VcAt w b off l) (hb:Below w.heap.size w w'):VcAt w' b off l:=
 ⟨Nat.lt_of_lt_of_le h.1 hb.size,fun i r hi hr=>(hb.cell (p:=⟨b,_,none⟩) h.1).trans (h.2 i r hi hr)⟩
theorem RowA.at {B:Nat} {w:World} {x:Value} {l:List (List Int)} (h:RowA B w x l):(x= .slice none 0 0∧l= [])∨ ∃g cap,x= .slice (some ⟨g,0,none⟩) l.length cap∧l.length≤cap∧cap≤maxLen∧VcAt w g 0 l:=by
 obtain⟨hl,⟨rfl,h0⟩|⟨g,cap,cur,rfl,_,hc,k1,k2,k3,k4⟩⟩:=h
 ·exact .inl ⟨rfl,List.eq_nil_of_length_eq_zero h0⟩
 ·refine .inr ⟨g,cap,rfl,k1,k2,(Array.getElem?_eq_some_iff.1 hc).1,fun i r hi hr=> ?_⟩
  have h9:=yiq l i r hi hr
  rw [←k4,List.getElem?_take_of_lt (by omega)]at h9
  rw [Nat.zero_add]
  simpa [World.cell?,hc] using h9
theorem VcAt.cells {w:World} {b off:Nat} {l:List (List Int)} (h:VcAt w b off l):∀j u,(ybz l)[j]? =some u→w.cell? ((⟨b,off,none⟩:Addr).add j)=some u:=fun j u hj=>by
 have hlt:j<(ybz l).length:=(List.getElem?_eq_some_iff.1 hj).1
 rw [yhr]at hlt
 have h1:=yiq l (j/4) (j%4) (by omega) (by omega)
 rw [show j/4*4+j%4=j by omega,hj]at h1
 cases h1
 rw [addS,←h.2 (j/4) (j%4) (by omega) (by omega),show off+j/4*4+j%4=off+j by omega]
theorem ypa:(Tryz.prog.info? 137).map (fun i=>(i.zero,i.size,i.bytes))=some (some (.agg #[.int .i64 0,.int .i64 0,.int .i64 0,.int .i64 0]),4,32):=by kernel_rfl
def yi4 (l:List (List Int)):Bool:=allB l.length fun i=>vok (vAt l i)
theorem allVk_iff {l:List (List Int)}:yi4 l=true↔ ∀i,i<l.length→vok (vAt l i)=true:=allB_iff
theorem src_four {w:World} {g:Nat} {T:TypeId} {a b c d:Value} (h:Bk w g T #[a,b,c,d]):SrcC w (.slice (some ⟨g,0,none⟩) 1 1) 4 1 [a,b,c,d]:=
 ⟨rfl,_,_,rfl,.inr ⟨g,0,rfl,h.lt,fun j hj=>by
  have h4:j=0∨j=1∨j=2∨j=3:=by omega
  rcases h4 with rfl|rfl|rfl|rfl
  ·exact h.cell (i:=0) rfl
  ·exact h.cell (i:=1) rfl
  ·exact h.cell (i:=2) rfl
  ·exact h.cell (i:=3) rfl⟩⟩
def InR (l:List (List Int)) (w w':World) (e:Ending):Prop:=Below w.heap.size w w'∧((yi4 l=true∧ ∃y,e= .returned (.tuple #[y,.bool true])∧RowA w.heap.size w' y l)∨(yi4 l=false∧e= .returned (.tuple #[.slice none 0 0,.bool false])))
theorem vsnoc {l:List (List Int)} {j:Nat} (h:j<l.length):ybz (l.take (j+1))=ybz (l.take j)++ [i64 (intAt (vAt l j) 0),i64 (intAt (vAt l j) 1),i64 (intAt (vAt l j) 2),i64 (intAt (vAt l j) 3)]:=by
 rw [yg9 h,yhs]
 rfl
theorem in_any (x:Value) (l:List (List Int)) (w:World) (hl2:l.length≤1048576) (hv9:∀j,j<l.length→(vAt l j).length≤1048576) (h:IsD w x (yce l)):
  Calls Tryz.prog 91 #[x] w fun e w'=>InR l w w' e:=by
 obtain⟨a,cap,rfl,h1,h2,h⟩:=IsD.parts (c:=1) (n:=l.length) h
 have HH:=yc6 h
 have HS:=yc6 hv9
 clear h h1 h2 hv9
 obtain⟨ia,hia,hia0,hia1,hia2⟩:=info_parts ypa
 go_enter Tryz.func91,Tryz.ntmps91
 go_wp2
 go_loopw [11,4] (fun i y wr=>∃j:Nat,j≤l.length∧i= .int .i64 j∧Hid (∀i,i<j→vok (vAt l i)=true)∧Hid (Below w.heap.size w wr)∧ ∃a3 c3,y= .slice a3 j c3∧Hid (wr.ownsRow w.heap.size 137 4 (.slice a3 j c3) j (ybz (l.take j)))) (fun i _ _=>l.length-(intOf i).toNat)
 case atStart=>exact⟨0,Nat.zero_le _,rfl,fun j hj=>by omega,Below.refl _ _,none,0,rfl,World.ownsRow_nil _ _ _ _⟩
 case round=>
  obtain⟨j,hj,rfl,HA,HB,a3,c3,rfl,HR⟩:=hrel
  have hsr:w.heap.size≤wr.heap.size:=HB.out.size
  by_cases hlt:j<l.length
  case pos=>
   have hjd:decide ((j:Int)<(l.length:Int))=true:=by simpa using hlt
   obtain⟨b,off,rfl,hbl,hc⟩:=HH.out.resolve_left (by omega)
   obtain⟨u,hu,hd⟩:=hc j (by omega)
   have f0:=(HB.out.cell (p:=⟨b,off+j,none⟩) hbl).trans hu
   have HD:Hid (IsI wr u (vAt l j)):=(IsD.under (d:=yas (vAt l j)) hd HB.out).isI
   have hvl:(vAt l j).length≤1048576:=HS.out j hlt
   clear hc hu hd
   go_wp2_with fail
   clear f0
   refine(of_any _ (vAt l j) _ (by omega) HD.out).mono ?_
   rintro e w2 ⟨rfl,hb2⟩
   have HB2:=yc6 (HB.out.trans (hb2.mono hsr))
   have HR2:=yc6 (owB HR.out hb2)
   clear hb2
   cases hv:vok (vAt l j)
   case false=>
    have HN:Hid (yi4 l=false):=yad (fun h9=>by have h8:=allVk_iff.1 h9 j hlt;rw [hv]at h8;cases h8)
    rw [ys1 hv]
    clear hv
    go_wp2
    go_ret2
    exact⟨trm HB2.out ((Below.refl _ w2).alloc (Nat.le_refl _) _),.inr ⟨HN.out,rfl⟩⟩
   case true=>
    have HV:=yc6 hv
    obtain⟨x0,hx0⟩:∃z,intAt (vAt l j) 0=z:=⟨_,rfl⟩
    obtain⟨x1,hx1⟩:∃z,intAt (vAt l j) 1=z:=⟨_,rfl⟩
    obtain⟨x2,hx2⟩:∃z,intAt (vAt l j) 2=z:=⟨_,rfl⟩
    obtain⟨x3,hx3⟩:∃z,intAt (vAt l j) 3=z:=⟨_,rfl⟩
    have HVS:Hid (ybz (l.take (j+1))=ybz (l.take j)++ [i64 x0,i64 x1,i64 x2,i64 x3]):=by
     have h9:=vsnoc hlt
     rw [hx0,hx1,hx2,hx3]at h9
     exact h9
    rw [show ylt (vAt l j)=vec x0 x1 x2 x3 by unfold ylt;rw [if_pos hv,hx0,hx1,hx2,hx3]]
    clear hv hx0 hx1 hx2 hx3
    obtain⟨V1,hV1⟩:∃V1,w2.alloc (ycv x0 x1 x2 x3)=V1:=⟨_,rfl⟩
    have hbV:=beA hV1
    have HK1:=hdq (bkA hV1)
    obtain⟨V4,hV4⟩:∃V4,V1.alloc (.cells #[i64 x0,i64 x1,i64 x2,i64 x3] 137)=V4:=⟨_,rfl⟩
    have hb4:=beA hV4
    have HS4:Hid (SrcC V4 (.slice (some ⟨V1.heap.size,0,none⟩) 1 1) 4 1 [i64 x0,i64 x1,i64 x2,i64 x3]):=src_four (T:=137) (hV4▸Bk.new V1 _ _)
    have HBV4:=yc6 ((trm HB2.out hbV).trans (hb4.mono (Nat.le_trans HB2.out.size hbV.size)))
    have HO4:=yc6 (yc2 (S:=fun _=>False) (owB HR2.out hbV) (Turns.of_below hb4) (fun _ _=>id))
    have hs4:w.heap.size≤V4.heap.size:=HBV4.out.size
    obtain⟨k0,k1,k2,k3⟩:=c4_4 HK1.out
    clear hbV hb4
    go_wp2_with (at_builtin;refine yat V4 rfl _ _ 131 rfl w.heap.size 137 ia (.agg #[.int .i64 0,.int .i64 0,.int .i64 0,.int .i64 0]) 4 32 Tryz.underlying131 hia hia0 hia1 hia2 rfl (by decide) (.slice a3 j c3) j (ybz (l.take j)) rfl HO4.out (.slice (some ⟨V1.heap.size,0,none⟩) 1 1) 1 [i64 x0,i64 x1,i64 x2,i64 x3] rfl HS4.out (by intro u hu;simp at hu;rcases hu with rfl|rfl|rfl|rfl<;>rfl) (by unfold maxLen;omega) (by omega) hs4 ?_;intro vn w5 hown hgrow hnew;obtain⟨an,cn,hvn⟩:=yau hown;subst hvn;have HG5:Hid (V4.grownBy w5 (Value.slice a3 j c3).ownBlock):=hgrow;have HO5:Hid (w5.ownsRow w.heap.size 137 4 (.slice an (j+1) cn) (j+1) (ybz (l.take j)++ [i64 x0,i64 x1,i64 x2,i64 x3])):=hown;clear hown hgrow hnew)
    go_roundw
    case rel=>
     refine⟨j+1,by omega,by go_num,fun i hi=> ?_,yfi HO4.out HG5.out HBV4.out (Nat.le_refl _) hs4,an,cn,rfl,by rw [HVS.out];exact HO5.out⟩
     by_cases hij:i<j
     ·exact HA.out i hij
     ·obtain rfl:i=j:=by omega
      exact HV.out
    case measure=>simp [intOf];omega
  case neg=>
   have hje:j=l.length:=by omega
   have HY:Hid (yi4 l=true):=allVk_iff.2 (fun i hi=>HA.out i (by omega))
   have HRL:Hid (RowA w.heap.size wr (.slice a3 l.length c3) l):=by
    have h9:=HR.out
    rw [hje,List.take_of_length_le (Nat.le_refl _)]at h9
    exact h9
   subst hje
   clear HR HA
   go_wp2
   go_ret2
   exact⟨HB.out,.inl ⟨HY.out,_,rfl,HRL.out⟩⟩
theorem ybf {p:Prop} (h:p):Hid p:=h
set_option maxRecDepth 100000 in
set_option maxHeartbeats 8000000 in
theorem yu0 (x:Value) (m:Md) (w:World) (hs:SmallM m) (h:IsM w x m):
  Calls Tryz.prog 142 #[x] w fun e w'=>∃u,e= .returned (.tuple #[u,.bool m.ok])∧By.OwnI w.heap.size w' u (yhq m)∧Below w.heap.size w w':=by
 have HX:Hid (IsM w x m):=h
 obtain⟨vi,vh,vs,rfl,⟨ai,ci,rfl,hi1,hi2,hi3⟩,⟨ah,ch,rfl,hh1,hh2,hh3⟩,⟨ae,ce,rfl,he1,he2,he3⟩⟩:=h
 have hi0:m.i.length≤1048576:=hs.i
 have hh0:m.h.length≤1048576:=hs.h
 have he0:m.e.length≤1048576:=hs.e
 have HS:Hid (SmallM m):=hs
 clear hs hi1 hi2 hh1 hh2 he1 he2
 have HI:=ybf hi3
 have HH:=ybf hh3
 have HEV:=ybf he3
 clear hi3 hh3 he3 hi0 he0 hh0
 obtain⟨W0,hW0⟩:∃W0,w.alloc (.cells #[.int .i64 m.n,.int .i64 m.s,.slice ai m.i.length ci,.slice ah m.h.length ch,.slice ae m.e.length ce,.int .i64 m.z] 36)=W0:=⟨_,rfl⟩
 have HB0:=hdq (beA hW0)
 have HP0:=hdq (bkA hW0)
 obtain⟨p0,p1,p2,p3,p4,p5⟩:=c6_6 HP0.out
 go_enter Tryz.func142,Tryz.ntmps142
 go_wp2_with fail
 clear hW0 p0 p1 p2 p3 p4 p5
 refine(iModM _ m _ HS.out (HX.out.below HB0.out)).mono ?_
 rintro e W1 ⟨rfl,hb⟩
 have HB1:=ybf (trm HB0.out hb)
 have HP1:=ybf (HP0.out.below hb)
 clear hb HB0 HP0
 cases hok:m.ok
 case false=>
  have HE:Hid (yhq m= []):=(by simp [yhq,hok]:yhq m= [])
  have HOF:Hid (m.ok=false):=hok
  clear hok
  go_wp2
  go_ret2
  exact⟨.slice none 0 0,by rw [HOF.out];rfl,by rw [HE.out];exact By.OwnI.nil _ _,HB1.out⟩
 have HE:Hid (yhq m=yd1 m):=(by simp [yhq,hok]:yhq m=yd1 m)
 have HOK:Hid (m.ok=true):=hok
 obtain⟨d0,d1,d2,d3,d4,d5,d6,d7,d8,d9⟩:=(ykc hok).1
 clear hok
 have hn0:0≤m.n:=by omega
 have hn1:m.n≤255:=by omega
 have hh0:(0:Int)≤(m.h.length:Int):=by omega
 have hh1:(m.h.length:Int)≤255:=by omega
 have he0:(0:Int)≤(m.e.length:Int):=by omega
 have he1:(m.e.length:Int)≤255:=by omega
 have HD:Hid ((0≤m.z∧m.z≤65535)∧(0≤m.s∧m.s≤65535)∧m.i.length≤4∧m.h.length≤4∧m.e.length≤6):=⟨⟨d8,by omega⟩,⟨d2,d3⟩,by omega,d6,d7⟩
 clear d0 d1 d2 d3 d4 d5 d6 d7 d8 d9
 obtain⟨i0,hi,hz0,hz1,hz2⟩:=info_parts By.info5
 obtain⟨B,hBe⟩:∃B,B=W1.heap.size:=⟨_,rfl⟩
 obtain⟨W2,hW2⟩:∃W2,W1.alloc (.cells #[.int .u8 m.n,.int .u8 (m.h.length:Int),.int .u8 (m.e.length:Int)] 5)=W2:=⟨_,rfl⟩
 have HR2:Hid (RowBy B W2 (.slice (some ⟨W1.heap.size,0,none⟩) 3 3) (ye5 m)):=by
  have:=yss W1 (.int .u8 m.n) (.int .u8 (m.h.length:Int)) (.int .u8 (m.e.length:Int))
  rw [hW2,←hBe]at this
  have e:By.intCells (ye5 m)= [.int .u8 m.n,.int .u8 (m.h.length:Int),.int .u8 (m.e.length:Int)]:=by
   have e1:By.intCells (ye5 m)=By.intCells [byteOf m.n]++(By.intCells [byteOf (m.h.length:Int)]++By.intCells [byteOf (m.e.length:Int)]):=rfl
   rw [e1,yd7 hn0 hn1,yd7 hh0 hh1,yd7 he0 he1];rfl
  show W2.ownsRow B 5 1 _ 3 (By.intCells (ye5 m))
  rw [e]
  rw [←hBe]
  exact this
 have hwB:w.heap.size<B:=hBe▸HP1.out.lt
 have HBB:Hid (Below B W1 W2):=hW2▸(Below.refl B W1).alloc (by omega) _
 have HP2:=ybf (HP1.out.keep HBB.out hwB)
 have HB2:=ybf (HB1.out.trans (HBB.out.mono (by omega)))
 have HZ:Hid (B≤W1.heap.size):=(by omega:B≤W1.heap.size)
 have p0:=HP1.out.cell (i:=0) rfl
 have p3:=HP1.out.cell (i:=3) rfl
 have p4:=HP1.out.cell (i:=4) rfl
 have q5:=HP2.out.cell (i:=5) rfl
 clear hBe
 go_wp2_with fail
 clear hW2 p0 p3 p4 q5
 have hs2:B≤W2.heap.size:=Nat.le_trans HZ.out HBB.out.size
 refine(ygd B _ _ _ _ hs2 (by simp [ye5]) HD.out.1.1 HD.out.1.2 HR2.out).mono ?_
 rintro e w3 ⟨v3,rfl,hr3,ht3⟩
 have hb3:=ht3.to_below (fun k e=>ybk HR2.out e) hs2
 have HR3:=ybf hr3
 have HP3:=ybf (HP2.out.keep hb3 hwB)
 have HB3:=ybf (HB2.out.trans (hb3.mono (by omega)))
 have HBB3:Hid (Below B W1 w3):=HBB.out.trans hb3
 have hs3:B≤w3.heap.size:=Nat.le_trans hs2 hb3.size
 have q1:=HP3.out.cell (i:=1) rfl
 clear hr3 ht3 hb3 HR2 HP2 HB2 HBB hs2
 go_wp2_with fail
 clear q1
 refine(ygd B _ _ _ _ hs3 (by simp [ye5,twoB]) HD.out.2.1.1 HD.out.2.1.2 HR3.out).mono ?_
 rintro e w4 ⟨v4,rfl,hr4,ht4⟩
 have hb4:=ht4.to_below (fun k e=>ybk HR3.out e) hs3
 have HR4:=ybf hr4
 have HP4:=ybf (HP3.out.keep hb4 hwB)
 have HB4:=ybf (HB3.out.trans (hb4.mono (by omega)))
 have hs4:B≤w4.heap.size:=Nat.le_trans hs3 hb4.size
 have HLL:Hid (yd1 m=ye5 m++twoB m.z++twoB m.s++iniB m m.i.length++yel m m.h.length++evsB m m.e.length):=rfl
 have hl4:(ye5 m++twoB m.z++twoB m.s).length≤7:=by simp [ye5,twoB]
 generalize ye5 m++twoB m.z++twoB m.s=l4 at HR4 HLL hl4
 have q2:=HP4.out.cell (i:=2) rfl
 clear hr4 ht4 hb4 HR3 HP3 HB3 HBB3 hs3
 go_wp2
 clear q2
 go_loopw [4,37] (fun o i wr=>∃(k:Nat) (v:Value),k≤m.i.length∧v=o∧i= .int .i64 k∧RowBy B wr o (l4++iniB m k)∧Below B w4 wr) (fun _ i _=>m.i.length-(intOf i).toNat)
 case atStart=>exact⟨0,_,Nat.zero_le _,rfl,rfl,by simpa [iniB] using HR4.out,Below.refl _ _⟩
 case round=>
  clear HR4
  obtain⟨k,o,hk,rfl,rfl,hR,hBw⟩:=hrel
  have HR4:=ybf hR
  have HBW:Hid (Below B w4 wr):=hBw
  have hsw:B≤wr.heap.size:=Nat.le_trans hs4 hBw.size
  have HBX:=ybf (HB4.out.trans (hBw.mono (by omega)))
  clear hR hBw
  have hd3:m.i.length≤4:=HD.out.2.2.1
  by_cases hlt:k<m.i.length
  ·obtain⟨b,off,rfl,hI⟩:=HI.out.resolve_left (by intro e;rw [e]at hlt;simp at hlt)
   have f0:=(HBX.out.cell (p:=⟨b,off+k,none⟩) hI.1).trans (hI.2 k hlt)
   have HJ:=ybf (ok_int HOK.out hlt)
   clear hI
   go_wp2_with fail
   clear f0
   refine(ygd B _ _ _ _ hsw (by rw [List.length_append,yef];omega) HJ.out.1 (by have:=HJ.out.2;omega) HR4.out).mono ?_
   rintro e w5 ⟨v5,rfl,hr5,ht5⟩
   have HR5:=ybf hr5
   have HBW5:Hid (Below B w4 w5):=HBW.out.trans (ht5.to_below (fun k e=>ybk HR4.out e) hsw)
   clear hr5 ht5
   go_wp2
   go_roundw
   case rel=>exact⟨k+1,_,by omega,rfl,by go_num,by have:=HR5.out;rw [List.append_assoc]at this;exact this,HBW5.out⟩
   case measure=>simp [intOf];omega
  ·obtain rfl:k=m.i.length:=by omega
   have hl5:(l4++iniB m m.i.length).length≤15:=by rw [List.length_append,yef];omega
   generalize l4++iniB m m.i.length=l5 at HR4 HLL hl5
   obtain⟨W5,hW5⟩:∃W5,W5=wr:=⟨_,rfl⟩
   subst hW5
   have HP5:=ybf (HP4.out.keep HBW.out hwB)
   have q3:=HP5.out.cell (i:=3) rfl
   clear HBW HP4 HB4 hs4
   go_wp2
   clear q3
   go_loopw [4,48] (fun o i wr=>∃(k:Nat) (v:Value),k≤m.h.length∧v=o∧i= .int .i64 k∧RowBy B wr o (l5++yel m k)∧Below B W5 wr) (fun _ i _=>m.h.length-(intOf i).toNat)
   case atStart=>exact⟨0,_,Nat.zero_le _,rfl,rfl,by simpa [yel] using HR4.out,Below.refl _ _⟩
   case round=>
    clear HR4
    obtain⟨k,o,hk,rfl,rfl,hR,hBw⟩:=hrel
    have HR4:=ybf hR
    have HBW:Hid (Below B W5 wr):=hBw
    have hsw2:B≤wr.heap.size:=Nat.le_trans hsw hBw.size
    have HBY:=ybf (HBX.out.trans (hBw.mono (by omega)))
    have hd4:m.h.length≤4:=HD.out.2.2.2.1
    clear hR hBw
    by_cases hlt:k<m.h.length
    ·obtain⟨b,off,rfl,hb,hc⟩:=HH.out.resolve_left (by intro e;rw [e]at hlt;simp at hlt)
     obtain⟨u,f0,hu⟩:=hc k hlt
     replace f0:=(HBY.out.cell (p:=⟨b,off+k,none⟩) hb).trans f0
     have HU:Hid (∃a cap,u= .slice a (hAt m.h k).length cap∧(hAt m.h k= []∨ ∃b off,a=some ⟨b,off,none⟩∧b<B∧OsAt wr b off (hAt m.h k))):=by
      obtain⟨a,cap,e,_,_,h⟩:=hu
      exact⟨a,cap,e,h.imp id (fun⟨b,off,e,h⟩=>⟨b,off,e,by have:=h.1;omega,h.below HBY.out h.1⟩)⟩
     have HSM:Hid (∀q,q<(hAt m.h k).length→ysj (oAt (hAt m.h k) q)):=fun q hq=>ok_small HOK.out hlt hq
     have HR8:=ybf (ynz HOK.out k)
     obtain⟨a1,c1,rfl,_⟩:=hu
     clear hc
     go_wp2_with fail
     clear f0
     refine(yoa B _ _ _ (hAt m.h k) _ hsw2 (by have:=yds HOK.out k;rw [List.length_append];omega) (by have:=HR8.out;omega) HSM.out HR4.out HU.out).mono ?_
     rintro e w5 ⟨v5,rfl,hr5,hb5⟩
     have HR5:=ybf hr5
     have HBW5:Hid (Below B W5 w5):=HBW.out.trans hb5
     clear hr5 hb5
     go_wp2
     go_roundw
     case rel=>exact⟨k+1,_,by omega,rfl,by go_num,by have:=HR5.out;rw [List.append_assoc]at this;exact this,HBW5.out⟩
     case measure=>simp [intOf];omega
    ·obtain rfl:k=m.h.length:=by omega
     have hl6:(l5++yel m m.h.length).length≤300:=by have:=yds HOK.out m.h.length;rw [List.length_append];omega
     generalize l5++yel m m.h.length=l6 at HR4 HLL hl6
     obtain⟨W6,hW6⟩:∃W6,W6=wr:=⟨_,rfl⟩
     subst hW6
     have HP6:=ybf (HP5.out.keep HBW.out hwB)
     have q4:=HP6.out.cell (i:=4) rfl
     clear HBW HP5 HBX hsw
     go_wp2
     clear q4
     go_loopw [4,59] (fun o i wr=>∃(k:Nat) (v:Value),k≤m.e.length∧v=o∧i= .int .i64 k∧RowBy B wr o (l6++evsB m k)∧Below B W6 wr) (fun _ i _=>m.e.length-(intOf i).toNat)
     case atStart=>exact⟨0,_,Nat.zero_le _,rfl,rfl,by simpa [evsB] using HR4.out,Below.refl _ _⟩
     case round=>
      clear HR4
      obtain⟨k,o,hk,rfl,rfl,hR,hBw⟩:=hrel
      have HR4:=ybf hR
      have HBW:Hid (Below B W6 wr):=hBw
      have hsw3:B≤wr.heap.size:=Nat.le_trans hsw2 hBw.size
      have HBZ:=ybf (HBY.out.trans (hBw.mono (by omega)))
      have hd5:m.e.length≤6:=HD.out.2.2.2.2
      clear hR hBw
      by_cases hlt:k<m.e.length
      ·obtain⟨b,off,rfl,hb,hc⟩:=HEV.out.resolve_left (by intro e;rw [e]at hlt;simp at hlt)
       obtain⟨f0,f1,f2,f3,f4,f5,f6⟩:=(hc k hlt).below HBZ.out hb
       have HEB:Hid (evsB m (k+1)=evsB m k++evB (evAt m.e k)):=rfl
       generalize hev:evAt m.e k=e at f0 f1 f2 f3 f4 f5 f6 HEB
       obtain⟨t,s1,qq,d,kk,v,g⟩:=e
       have HEO:=ybf (ok_ev HOK.out hlt hev)
       clear hc hev
       obtain⟨V,hV⟩:∃V,wr.alloc (.cells #[.int .i64 t,.int .i64 s1,.int .i64 qq,.int .i64 d,.int .i64 kk,.int .i64 v,.int .i64 g] 110)=V:=⟨_,rfl⟩
       have hbV:=beA hV
       have HRV:=ybf (HR4.out.below hbV)
       have HBV:Hid (Below B W6 V):=HBW.out.trans (hbV.mono hsw3)
       have hQV:=bkA hV
       have hsV:B≤V.heap.size:=Nat.le_trans hsw3 hbV.size
       obtain⟨e0,e1,e2,e3,e4,e5,e6⟩:=c7_7 hQV
       clear hbV hQV
       go_wp2_with fail
       clear f0 f1 f2 f3 f4 f5 f6 e0 e1 e2 e3 e4 e5 e6 hV
       refine(ysd B _ _ _ _ _ _ _ _ _ _ hsV (by rw [List.length_append,yh1];omega) HEO.out.1.1 (by have:=HEO.out.1.2;omega) HEO.out.2.1.1 (by have:=HEO.out.2.1.2;omega) HEO.out.2.2.1.1 (by have:=HEO.out.2.2.1.2;omega) HEO.out.2.2.2.1 (by have:=HEO.out.2.2.2.2;omega) HRV.out).mono ?_
       rintro e w5 ⟨v5,rfl,hr5,hb5⟩
       have HR5:Hid (RowBy B w5 v5 (l6++evsB m (k+1))):=by rw [HEB.out,←List.append_assoc];exact hr5
       have HBW5:Hid (Below B W6 w5):=HBV.out.trans hb5
       clear hr5 hb5
       go_wp2
       go_roundw
       case rel=>exact⟨k+1,_,by omega,rfl,by go_num,HR5.out,HBW5.out⟩
       case measure=>simp [intOf];omega
      ·obtain rfl:k=m.e.length:=by omega
       go_wp2
       go_ret2
       exact⟨o,by rw [HOK.out];rfl,by rw [HE.out,HLL.out];exact HR4.out.own.mono (Nat.le_of_lt hwB),HBZ.out⟩
end Go.Proofs.YtmobiieoecjmdaaGreat

