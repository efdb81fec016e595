/- TPsB, TPtA, TPsC, TPsD, TPtC, TMk -/
import Derived.Test.YtmobiieoecjmdaaGreatExactCommittedG04
import Derived.Deep.RegionHeld3
/- eqPastS: two rows alike. -/
namespace Go.Proofs.YtmobiieoecjmdaaGreat
open Go.RowKit
set_option maxHeartbeats 8000000 in
theorem eq_pasts (x y:Value) (l:List Ps) (w:World) (hl:(pastsD l).wt≤1048576) (hx:IsD w x (pastsD l)) (hy:IsD w y (pastsD l)):
  Calls Tryz.prog 176 #[x,y] w fun e w'=>e= .returned (.bool true)∧Below w.heap.size w w':=by
 obtain⟨a,cap,rfl,h1,h2,h⟩:=IsD.parts (c:=12) (n:=l.length) hx
 obtain⟨a',cap',rfl,h1',h2',h'⟩:=IsD.parts (c:=12) (n:=l.length) hy
 have HS:Hid ((pastsD l).wt≤1048576):=hl
 have hl2:l.length≤1048576:=by rw [pastsD_wt]at hl;omega
 clear h1 h2 h1' h2' hx hy hl
 go_enter Tryz.func176,Tryz.ntmps176
 go_wp2
 go_loopw [5] (fun i wr=>∃k:Nat,k≤l.length∧i= .int .i64 k∧Below w.heap.size w wr) (fun i _=>l.length-(intOf i).toNat)
 case atStart=>exact⟨0,Nat.zero_le _,rfl,Below.refl _ _⟩
 case round=>
  obtain⟨k,hk,rfl,hB⟩:=hrel
  have HB:Hid (Below w.heap.size w wr):=hB
  by_cases hlt:k<l.length
  ·obtain⟨b,off,rfl,hb,hc⟩:=h.resolve_left (by omega)
   obtain⟨b',off',rfl,hb',hc'⟩:=h'.resolve_left (by omega)
   obtain⟨u7,u10,u11,f0,f1,f2,f3,f4,f5,f6,f7,f8,f9,f10,f11,d7,d10,d11⟩:=pastsD_in (fun j hj=>by
    obtain⟨u,hu,hd⟩:=hc j hj
    exact⟨u,(hB.cell (p:=⟨b,off+j,none⟩) hb).trans hu,hd.under hB⟩) hlt
   obtain⟨v7,v10,v11,e0,e1,e2,e3,e4,e5,e6,e7,e8,e9,e10,e11,g7,g10,g11⟩:=pastsD_in (fun j hj=>by
    obtain⟨u,hu,hd⟩:=hc' j hj
    exact⟨u,(hB.cell (p:=⟨b',off'+j,none⟩) hb').trans hu,hd.under hB⟩) hlt
   have HD:Hid (IsPast wr.drew (.agg #[.int .i64 (psAt l k).e.t,.int .i64 (psAt l k).e.s,.int .i64 (psAt l k).e.q,.int .i64 (psAt l k).e.d,.int .i64 (psAt l k).e.k,.int .i64 (psAt l k).e.v,.int .i64 (psAt l k).e.g,u7,.int .i64 (psAt l k).b.q,.int .i64 (psAt l k).b.d,u10,u11]) (psAt l k)):=IsPast.under (w:=wr) ⟨u7,u10,u11,rfl,d7,d10,d11⟩ (Below.refl _ wr).drew
   have HG:Hid (IsPast wr.drew (.agg #[.int .i64 (psAt l k).e.t,.int .i64 (psAt l k).e.s,.int .i64 (psAt l k).e.q,.int .i64 (psAt l k).e.d,.int .i64 (psAt l k).e.k,.int .i64 (psAt l k).e.v,.int .i64 (psAt l k).e.g,v7,.int .i64 (psAt l k).b.q,.int .i64 (psAt l k).b.d,v10,v11]) (psAt l k)):=IsPast.under (w:=wr) ⟨v7,v10,v11,rfl,g7,g10,g11⟩ (Below.refl _ wr).drew
   have HW:Hid ((psAt l k).wt≤1048576):=Nat.le_trans (Ps.wt_le hlt) HS.out
   have hbr:b<wr.heap.size:=Nat.lt_of_lt_of_le hb hB.size
   have hbr':b'<wr.heap.size:=Nat.lt_of_lt_of_le hb' hB.size
   clear hB hc hc' h h' d7 d10 d11 g7 g10 g11
   go_wp2_with fail
   go_region_held3 (fun W=>W.cell? ⟨b,off+k*12,none⟩=some (.int .i64 (psAt l k).e.t)∧W.cell? ⟨b,off+k*12+1,none⟩=some (.int .i64 (psAt l k).e.s)∧W.cell? ⟨b,off+k*12+2,none⟩=some (.int .i64 (psAt l k).e.q)∧W.cell? ⟨b,off+k*12+3,none⟩=some (.int .i64 (psAt l k).e.d)∧W.cell? ⟨b,off+k*12+4,none⟩=some (.int .i64 (psAt l k).e.k)∧W.cell? ⟨b,off+k*12+5,none⟩=some (.int .i64 (psAt l k).e.v)∧W.cell? ⟨b,off+k*12+6,none⟩=some (.int .i64 (psAt l k).e.g)∧W.cell? ⟨b,off+k*12+7,none⟩=some (u7)∧W.cell? ⟨b,off+k*12+8,none⟩=some (.int .i64 (psAt l k).b.q)∧W.cell? ⟨b,off+k*12+9,none⟩=some (.int .i64 (psAt l k).b.d)∧W.cell? ⟨b,off+k*12+10,none⟩=some (u10)∧W.cell? ⟨b,off+k*12+11,none⟩=some (u11)∧W.cell? ⟨b',off'+k*12,none⟩=some (.int .i64 (psAt l k).e.t)∧W.cell? ⟨b',off'+k*12+1,none⟩=some (.int .i64 (psAt l k).e.s)∧W.cell? ⟨b',off'+k*12+2,none⟩=some (.int .i64 (psAt l k).e.q)∧W.cell? ⟨b',off'+k*12+3,none⟩=some (.int .i64 (psAt l k).e.d)∧W.cell? ⟨b',off'+k*12+4,none⟩=some (.int .i64 (psAt l k).e.k)∧W.cell? ⟨b',off'+k*12+5,none⟩=some (.int .i64 (psAt l k).e.v)∧W.cell? ⟨b',off'+k*12+6,none⟩=some (.int .i64 (psAt l k).e.g)∧W.cell? ⟨b',off'+k*12+7,none⟩=some (v7)∧W.cell? ⟨b',off'+k*12+8,none⟩=some (.int .i64 (psAt l k).b.q)∧W.cell? ⟨b',off'+k*12+9,none⟩=some (.int .i64 (psAt l k).b.d)∧W.cell? ⟨b',off'+k*12+10,none⟩=some (v10)∧W.cell? ⟨b',off'+k*12+11,none⟩=some (v11)) ((repeat' apply And.intro)<;>first|(go_keep;done)|(rw [hcA _ _ (by first|omega|(simp;omega)|simp [*])];simp [*];done))
    (first|(go_at_call 213;refine(eqPast_same _ _ (psAt l k) _ HW.out HD.out HG.out).mono ?_;rintro e w2 ⟨rfl,hb2⟩;obtain⟨hcA,hfA⟩:=bcell hb2))
   clear hcA hfA
   go_wp2
   go_roundw
   case rel=>exact⟨k+1,by omega,by go_num,HB.out.drew.trans (hb2.mono (by have:=HB.out.size;simpa using this))⟩
   case measure=>simp [intOf];omega
  ·clear hB h h'
   go_wp2
   go_ret
   exact⟨rfl,HB.out⟩
set_option maxHeartbeats 4000000 in
theorem szPart_any (x:Value) (p:Pa) (left:Int) (w:World) (h0:0≤left) (h1:left≤1048576) (h:IsPart w x p):
  Calls Tryz.prog 97 #[x,.int .i64 left] w fun e w'=>(∃r,e= .returned (.int .i64 r)∧SzR p.wt left r)∧Below w.heap.size w w':=by
 obtain⟨u1,u4,u5,u6,rfl,h1,h4,h5,h6⟩:=h
 have H1:Hid (IsD w u1 (intsD p.st.r)):=h1
 have H4:Hid (IsD w u4 (pastsD p.p)):=h4
 have H5:Hid (IsD w u5 (evsD p.t)):=h5
 have H6:Hid (IsD w u6 (intsD p.a)):=h6
 clear h1 h4 h5 h6
 obtain⟨W0,hW0⟩:∃W0,w.alloc (.cells #[.int .i64 p.n,u1,.int .i64 p.st.q,.int .i64 p.st.d,u4,u5,u6] 144)=W0:=⟨_,rfl⟩
 have HB0:Hid (Below w.heap.size w W0):=by rw [←hW0];exact(Below.refl _ w).alloc (Nat.le_refl _) _
 have HP0:Hid (Bk W0 w.heap.size 144 #[.int .i64 p.n,u1,.int .i64 p.st.q,.int .i64 p.st.d,u4,u5,u6]):=by rw [←hW0];exact Bk.new w _ _
 have HW:Hid (w.alloc (.cells #[.int .i64 p.n,u1,.int .i64 p.st.q,.int .i64 p.st.d,u4,u5,u6] 144)=W0):=hW0
 clear hW0
 go_enter Tryz.func97,Tryz.ntmps97
 have p1:=HP0.out.cell (i:=1) rfl
 have p2:=HP0.out.cell (i:=2) rfl
 have p3:=HP0.out.cell (i:=3) rfl
 go_wp2_with fail
 rw [HW.out]
 clear HW
 clear p1 p2 p3
 refine(szState_R _ p.st _ _ h0 h1 ⟨_,rfl,(H1.out.under HB0.out).isI⟩).mono ?_
 rintro e w1 ⟨⟨r1,rfl,hr⟩,hb⟩
 have HB1:Hid (Below w.heap.size w w1):=HB0.out.trans (hb.mono HB0.out.size)
 have HP1:Hid (Bk w1 w.heap.size 144 #[.int .i64 p.n,u1,.int .i64 p.st.q,.int .i64 p.st.d,u4,u5,u6]):=HP0.out.below hb
 clear hb
 rcases hr with rfl|⟨r10,hr⟩
 ·go_wp2
  go_ret
  exact⟨⟨_,rfl,.inl rfl⟩,HB1.out⟩
 have r11:r1≤1048576:=by omega
 have r12:¬(r1<0):=by omega
 have HR1:Hid (r1+((intsD p.st.r).wt:Int)=left):=hr
 clear hr
 have p4:=HP1.out.cell (i:=4) rfl
 go_wp2_with fail
 clear p4
 refine(sz_pasts _ p.p _ _ r10 r11 (H4.out.under HB1.out)).mono ?_
 rintro e w2 ⟨⟨r2,rfl,hr⟩,hb⟩
 have HB2:Hid (Below w.heap.size w w2):=HB1.out.trans (hb.mono HB1.out.size)
 have HP2:Hid (Bk w2 w.heap.size 144 #[.int .i64 p.n,u1,.int .i64 p.st.q,.int .i64 p.st.d,u4,u5,u6]):=HP1.out.below hb
 clear hb
 rcases hr with rfl|⟨r20,hr⟩
 ·go_wp2
  go_ret
  exact⟨⟨_,rfl,.inl rfl⟩,HB2.out⟩
 have r21:r2≤1048576:=by omega
 have r22:¬(r2<0):=by omega
 have HR2:Hid (r2+((pastsD p.p).wt:Int)=r1):=hr
 clear hr
 have p5:=HP2.out.cell (i:=5) rfl
 go_wp2_with fail
 clear p5
 refine(sz_evs _ p.t _ _ r20 r21 (H5.out.under HB2.out)).mono ?_
 rintro e w3 ⟨⟨r3,rfl,hr⟩,hb⟩
 have HB3:Hid (Below w.heap.size w w3):=HB2.out.trans (hb.mono HB2.out.size)
 have HP3:Hid (Bk w3 w.heap.size 144 #[.int .i64 p.n,u1,.int .i64 p.st.q,.int .i64 p.st.d,u4,u5,u6]):=HP2.out.below hb
 clear hb
 rcases hr with rfl|⟨r30,hr⟩
 ·go_wp2
  go_ret
  exact⟨⟨_,rfl,.inl rfl⟩,HB3.out⟩
 have r31:r3≤1048576:=by omega
 have r32:¬(r3<0):=by omega
 have HR3:Hid (r3+((evsD p.t).wt:Int)=r2):=hr
 clear hr
 have p6:=HP3.out.cell (i:=6) rfl
 go_wp2_with fail
 clear p6
 refine(sz_ints _ p.a _ _ r30 r31 (H6.out.under HB3.out)).mono ?_
 rintro e w4 ⟨⟨r4,rfl,hr⟩,hb⟩
 have HB4:Hid (Below w.heap.size w w4):=HB3.out.trans (hb.mono HB3.out.size)
 have HP4:Hid (Bk w4 w.heap.size 144 #[.int .i64 p.n,u1,.int .i64 p.st.q,.int .i64 p.st.d,u4,u5,u6]):=HP3.out.below hb
 clear hb
 rcases hr with rfl|⟨r40,hr⟩
 ·go_wp2
  go_ret
  exact⟨⟨_,rfl,.inl rfl⟩,HB4.out⟩
 have r41:r4≤1048576:=by omega
 have r42:¬(r4<0):=by omega
 have HR4:Hid (r4+((intsD p.a).wt:Int)=r3):=hr
 clear hr
 go_wp2
 go_ret
 refine⟨⟨_,rfl,.inr ⟨r40,?_⟩⟩,HB4.out⟩
 have:=HR1.out
 have:=HR2.out
 have:=HR3.out
 have:=HR4.out
 unfold Pa.wt
 omega
set_option maxHeartbeats 4000000 in
theorem eqPart_same (x y:Value) (p:Pa) (w:World) (hw:p.wt≤1048576) (hx:IsPart w x p) (hy:IsPart w y p):
  Calls Tryz.prog 124 #[x,y] w fun e w'=>e= .returned (.bool true)∧Below w.heap.size w w':=by
 obtain⟨u1,u4,u5,u6,rfl,h1,h4,h5,h6⟩:=hx
 obtain⟨v1,v4,v5,v6,rfl,k1,k4,k5,k6⟩:=hy
 have H1:Hid (IsD w u1 (intsD p.st.r)∧IsD w v1 (intsD p.st.r)):=⟨h1,k1⟩
 have H4:Hid (IsD w u4 (pastsD p.p)∧IsD w v4 (pastsD p.p)):=⟨h4,k4⟩
 have H5:Hid (IsD w u5 (evsD p.t)∧IsD w v5 (evsD p.t)):=⟨h5,k5⟩
 have H6:Hid (IsD w u6 (intsD p.a)∧IsD w v6 (intsD p.a)):=⟨h6,k6⟩
 have HS:Hid (p.wt≤1048576):=hw
 clear hw h1 k1 h4 k4 h5 k5 h6 k6
 obtain⟨W0,hW0⟩:∃W0,(w.alloc (.cells #[.int .i64 p.n,u1,.int .i64 p.st.q,.int .i64 p.st.d,u4,u5,u6] 97)).alloc (.cells #[.int .i64 p.n,v1,.int .i64 p.st.q,.int .i64 p.st.d,v4,v5,v6] 97)=W0:=⟨_,rfl⟩
 have HB0:Hid (Below w.heap.size w W0):=by rw [←hW0];exact((Below.refl _ w).alloc (Nat.le_refl _) _).alloc (by simp) _
 have HP0:Hid (Bk W0 w.heap.size 97 #[.int .i64 p.n,u1,.int .i64 p.st.q,.int .i64 p.st.d,u4,u5,u6]):=by rw [←hW0];exact(Bk.new w _ _).alloc _
 have HQ0:Hid (Bk W0 (w.heap.size+1) 97 #[.int .i64 p.n,v1,.int .i64 p.st.q,.int .i64 p.st.d,v4,v5,v6]):=by rw [←hW0];exact Bk.newAt (by simp) _ _
 have HW:Hid ((w.alloc (.cells #[.int .i64 p.n,u1,.int .i64 p.st.q,.int .i64 p.st.d,u4,u5,u6] 97)).alloc (.cells #[.int .i64 p.n,v1,.int .i64 p.st.q,.int .i64 p.st.d,v4,v5,v6] 97)=W0):=hW0
 clear hW0
 go_enter Tryz.func124,Tryz.ntmps124
 have p0:=HP0.out.cell (i:=0) rfl
 have q0:=HQ0.out.cell (i:=0) rfl
 have p1:=HP0.out.cell (i:=1) rfl
 have q1:=HQ0.out.cell (i:=1) rfl
 have p2:=HP0.out.cell (i:=2) rfl
 have q2:=HQ0.out.cell (i:=2) rfl
 have p3:=HP0.out.cell (i:=3) rfl
 have q3:=HQ0.out.cell (i:=3) rfl
 go_wp2_with fail
 rw [HW.out]
 clear HW
 clear p0 q0 p1 q1 p2 q2 p3 q3
 refine(eqState_same _ _ p.st _ (by have:=HS.out;unfold Pa.wt at this;simp only [evs_wt,ints_wt]at this;omega) ⟨_,rfl,(H1.out.1.under HB0.out).isI⟩ ⟨_,rfl,(H1.out.2.under HB0.out).isI⟩).mono ?_
 rintro e w1 ⟨rfl,hb⟩
 have HB1:Hid (Below w.heap.size w w1):=HB0.out.trans (hb.mono HB0.out.size)
 have HP1:Hid (Bk w1 w.heap.size 97 #[.int .i64 p.n,u1,.int .i64 p.st.q,.int .i64 p.st.d,u4,u5,u6]):=HP0.out.below hb
 have HQ1:Hid (Bk w1 (w.heap.size+1) 97 #[.int .i64 p.n,v1,.int .i64 p.st.q,.int .i64 p.st.d,v4,v5,v6]):=HQ0.out.below hb
 clear hb
 have p4:=HP1.out.cell (i:=4) rfl
 have q4:=HQ1.out.cell (i:=4) rfl
 go_wp2_with fail
 clear p4 q4
 refine(eq_pasts _ _ p.p _ (by have:=HS.out;unfold Pa.wt at this;simp only [evs_wt,ints_wt]at this;omega) (H4.out.1.under HB1.out) (H4.out.2.under HB1.out)).mono ?_
 rintro e w2 ⟨rfl,hb⟩
 have HB2:Hid (Below w.heap.size w w2):=HB1.out.trans (hb.mono HB1.out.size)
 have HP2:Hid (Bk w2 w.heap.size 97 #[.int .i64 p.n,u1,.int .i64 p.st.q,.int .i64 p.st.d,u4,u5,u6]):=HP1.out.below hb
 have HQ2:Hid (Bk w2 (w.heap.size+1) 97 #[.int .i64 p.n,v1,.int .i64 p.st.q,.int .i64 p.st.d,v4,v5,v6]):=HQ1.out.below hb
 clear hb
 have p5:=HP2.out.cell (i:=5) rfl
 have q5:=HQ2.out.cell (i:=5) rfl
 go_wp2_with fail
 clear p5 q5
 refine(eq_evs _ _ p.t _ (by have:=HS.out;unfold Pa.wt at this;simp only [evs_wt,ints_wt]at this;omega) (H5.out.1.under HB2.out) (H5.out.2.under HB2.out)).mono ?_
 rintro e w3 ⟨rfl,hb⟩
 have HB3:Hid (Below w.heap.size w w3):=HB2.out.trans (hb.mono HB2.out.size)
 have HP3:Hid (Bk w3 w.heap.size 97 #[.int .i64 p.n,u1,.int .i64 p.st.q,.int .i64 p.st.d,u4,u5,u6]):=HP2.out.below hb
 have HQ3:Hid (Bk w3 (w.heap.size+1) 97 #[.int .i64 p.n,v1,.int .i64 p.st.q,.int .i64 p.st.d,v4,v5,v6]):=HQ2.out.below hb
 clear hb
 have p6:=HP3.out.cell (i:=6) rfl
 have q6:=HQ3.out.cell (i:=6) rfl
 go_wp2_with fail
 clear p6 q6
 refine(eq_ints _ _ p.a _ (by have:=HS.out;unfold Pa.wt at this;simp only [evs_wt,ints_wt]at this;omega) (H6.out.1.under HB3.out) (H6.out.2.under HB3.out)).mono ?_
 rintro e w4 ⟨rfl,hb⟩
 have HB4:Hid (Below w.heap.size w w4):=HB3.out.trans (hb.mono HB3.out.size)
 have HP4:Hid (Bk w4 w.heap.size 97 #[.int .i64 p.n,u1,.int .i64 p.st.q,.int .i64 p.st.d,u4,u5,u6]):=HP3.out.below hb
 have HQ4:Hid (Bk w4 (w.heap.size+1) 97 #[.int .i64 p.n,v1,.int .i64 p.st.q,.int .i64 p.st.d,v4,v5,v6]):=HQ3.out.below hb
 clear hb
 go_wp2
 go_ret
 exact⟨rfl,HB4.out⟩
def putN (w:World) (g m:Nat) (U:Nat→Value):Nat→World
 |0=>w
 |N+1=>(putN w g m U N).setCell ⟨g,m+N,none⟩ (U N)
theorem putN_turns (w:World) (g m:Nat) (U:Nat→Value):∀N,Turns (fun k=>k=g) w (putN w g m U N)
 |0=>Turns.refl _ _
 |N+1=>(putN_turns w g m U N).trans (put1_turns _ _ _ _)
theorem OwnD.fillN {F:Nat→Prop} {w:World} {g n cap c m:Nat} {f:Nat→Dat} {zs:List Value} {G:Nat→Nat→Prop} {U:Nat→Value} (h:OwnD w F (.slice (some ⟨g,0,none⟩) n cap) (.row c n (toC f zs m))) (hF:F g):
  ∀N,m+N≤n*c→(∀i,i<N→OwnD w (G i) (U i) (f (m+i)))→(∀i,i<N→ ∀k,G i k→ ¬F k)→(∀i j,i<N→j<N→i≠j→ ∀k,G i k→ ¬G j k)→
   OwnD (putN w g m U N) (fun k=>F k∨ ∃i,i<N∧G i k) (.slice (some ⟨g,0,none⟩) n cap) (.row c n (toC f zs (m+N)))
 |0,_,_,_,_=>h.mono (fun _ hk=> .inl hk)
 |N+1,hm,hU,hGF,hGG=>by
  have q:=OwnD.fillN h hF N (by omega) (fun i hi=>hU i (by omega)) (fun i hi=>hGF i (by omega)) (fun i j hi hj=>hGG i j (by omega) (by omega))
  have hN:=(hU N (by omega)).turns (putN_turns w g m U N) (fun k hk e=>hGF N (by omega) k hk (e▸hF))
  refine(q.fill (by omega) hN (fun k hk hk'=> ?_)).mono (fun k hk=> ?_)
  ·rcases hk' with hk'|⟨i,hi,hk'⟩
   ·exact hGF N (by omega) k hk hk'
   ·exact hGG N i (by omega) (by omega) (by omega) k hk hk'
  ·rcases hk with (hk|⟨i,hi,hk⟩)|hk
   ·exact .inl hk
   ·exact .inr ⟨i,by omega,hk⟩
   ·exact .inr ⟨N,by omega,hk⟩
def PastF (F:Nat→Prop) (w:World) (y:Value) (p:Ps):Prop:=
 ∃(A7 A10 A11:Nat→Prop) (u7 u10 u11:Value),y= .agg #[.int .i64 p.e.t,.int .i64 p.e.s,.int .i64 p.e.q,.int .i64 p.e.d,.int .i64 p.e.k,.int .i64 p.e.v,.int .i64 p.e.g,u7,.int .i64 p.b.q,.int .i64 p.b.d,u10,u11]∧OwnD w A7 u7 (intsD p.b.r)∧OwnD w A10 u10 (evsD p.s)∧OwnD w A11 u11 (emsD p.x)∧(∀k,A7 k→F k∧ ¬A10 k∧ ¬A11 k)∧(∀k,A10 k→F k∧ ¬A11 k)∧(∀k,A11 k→F k)
set_option maxHeartbeats 8000000 in
theorem toPast_any (x:Value) (p:Ps) (w:World) (hw:p.wt≤1048576) (h:IsPast w x p):
  Calls Tryz.prog 191 #[x] w fun e w'=>∃y,e= .returned y∧Below w.heap.size w w'∧PastF (fun k=>w.heap.size≤k∧k<w'.heap.size) w' y p:=by
 obtain⟨u7,u10,u11,rfl,h7,h10,h11⟩:=h
 have HS:Hid (p.wt≤1048576):=hw
 have H7:Hid (IsD w u7 (intsD p.b.r)):=h7
 have H10:Hid (IsD w u10 (evsD p.s)):=h10
 have H11:Hid (IsD w u11 (emsD p.x)):=h11
 clear hw h7 h10 h11
 obtain⟨V0,hV0⟩:∃V0,((w.alloc (.cells #[.int .i64 p.e.t,.int .i64 p.e.s,.int .i64 p.e.q,.int .i64 p.e.d,.int .i64 p.e.k,.int .i64 p.e.v,.int .i64 p.e.g,u7,.int .i64 p.b.q,.int .i64 p.b.d,u10,u11] 230)).alloc (.cells #[.int .i64 0,.int .i64 0,.int .i64 0,.int .i64 0,.int .i64 0,.int .i64 0,.int .i64 0,.slice none 0 0,.int .i64 0,.int .i64 0,.slice none 0 0,.slice none 0 0] 115)).alloc (.cells #[.int .i64 0,.int .i64 0,.int .i64 0,.int .i64 0,.int .i64 0,.int .i64 0,.int .i64 0,.slice none 0 0,.int .i64 0,.int .i64 0,.slice none 0 0,.slice none 0 0] 115)=V0:=⟨_,rfl⟩
 have HX0:Hid (Below w.heap.size w V0):=by rw [←hV0];exact(((Below.refl _ w).alloc (Nat.le_refl _) _).alloc (by simp) _).alloc (by simp;omega) _
 have hs0:w.heap.size+3≤V0.heap.size:=by rw [←hV0];simp
 have HP0:Hid (Bk V0 w.heap.size 230 #[.int .i64 p.e.t,.int .i64 p.e.s,.int .i64 p.e.q,.int .i64 p.e.d,.int .i64 p.e.k,.int .i64 p.e.v,.int .i64 p.e.g,u7,.int .i64 p.b.q,.int .i64 p.b.d,u10,u11]):=by rw [←hV0];exact((Bk.new w _ _).alloc _).alloc _
 have HR0:Hid (Bk V0 (w.heap.size+1) 115 #[.int .i64 0,.int .i64 0,.int .i64 0,.int .i64 0,.int .i64 0,.int .i64 0,.int .i64 0,.slice none 0 0,.int .i64 0,.int .i64 0,.slice none 0 0,.slice none 0 0]):=by rw [←hV0];exact(Bk.newAt (by simp) _ _).alloc _
 have HQ0:Hid (Bk V0 (w.heap.size+1+1) 115 #[.int .i64 0,.int .i64 0,.int .i64 0,.int .i64 0,.int .i64 0,.int .i64 0,.int .i64 0,.slice none 0 0,.int .i64 0,.int .i64 0,.slice none 0 0,.slice none 0 0]):=by rw [←hV0];exact Bk.newAt (by simp) _ _
 have HW0:Hid (((w.alloc (.cells #[.int .i64 p.e.t,.int .i64 p.e.s,.int .i64 p.e.q,.int .i64 p.e.d,.int .i64 p.e.k,.int .i64 p.e.v,.int .i64 p.e.g,u7,.int .i64 p.b.q,.int .i64 p.b.d,u10,u11] 230)).alloc (.cells #[.int .i64 0,.int .i64 0,.int .i64 0,.int .i64 0,.int .i64 0,.int .i64 0,.int .i64 0,.slice none 0 0,.int .i64 0,.int .i64 0,.slice none 0 0,.slice none 0 0] 115)).alloc (.cells #[.int .i64 0,.int .i64 0,.int .i64 0,.int .i64 0,.int .i64 0,.int .i64 0,.int .i64 0,.slice none 0 0,.int .i64 0,.int .i64 0,.slice none 0 0,.slice none 0 0] 115)=V0):=hV0
 clear hV0
 go_enter Tryz.func191,Tryz.ntmps191
 have p0:=HP0.out.cell (i:=0) rfl
 have p1:=HP0.out.cell (i:=1) rfl
 have p2:=HP0.out.cell (i:=2) rfl
 have p3:=HP0.out.cell (i:=3) rfl
 have p4:=HP0.out.cell (i:=4) rfl
 have p5:=HP0.out.cell (i:=5) rfl
 have p6:=HP0.out.cell (i:=6) rfl
 go_wp2_with fail
 rw [HW0.out]
 clear p0 p1 p2 p3 p4 p5 p6
 refine(toEvent_any _ _ _ _ _ _ _ _).mono ?_
 rintro e w1 ⟨rfl,hb⟩
 have hz0:V0.heap.size≤w1.heap.size:=hb.size
 have HXb0:Hid (Below w.heap.size w w1):=HX0.out.trans (hb.mono (by omega))
 have HPb0:Hid (Bk w1 w.heap.size 230 #[.int .i64 p.e.t,.int .i64 p.e.s,.int .i64 p.e.q,.int .i64 p.e.d,.int .i64 p.e.k,.int .i64 p.e.v,.int .i64 p.e.g,u7,.int .i64 p.b.q,.int .i64 p.b.d,u10,u11]):=HP0.out.below hb
 have HRb0:Hid (Bk w1 (w.heap.size+1) 115 #[.int .i64 0,.int .i64 0,.int .i64 0,.int .i64 0,.int .i64 0,.int .i64 0,.int .i64 0,.slice none 0 0,.int .i64 0,.int .i64 0,.slice none 0 0,.slice none 0 0]):=HR0.out.below hb
 have HQb0:Hid (Bk w1 (w.heap.size+1+1) 115 #[.int .i64 0,.int .i64 0,.int .i64 0,.int .i64 0,.int .i64 0,.int .i64 0,.int .i64 0,.slice none 0 0,.int .i64 0,.int .i64 0,.slice none 0 0,.slice none 0 0]):=HQ0.out.below hb
 clear hb
 obtain⟨V1,hV1⟩:∃V1,(((((((w1.setCell ⟨(w.heap.size+1+1),0,none⟩ (.int .i64 p.e.t)).setCell ⟨(w.heap.size+1+1),1,none⟩ (.int .i64 p.e.s)).setCell ⟨(w.heap.size+1+1),2,none⟩ (.int .i64 p.e.q)).setCell ⟨(w.heap.size+1+1),3,none⟩ (.int .i64 p.e.d)).setCell ⟨(w.heap.size+1+1),4,none⟩ (.int .i64 p.e.k)).setCell ⟨(w.heap.size+1+1),5,none⟩ (.int .i64 p.e.v)).setCell ⟨(w.heap.size+1+1),6,none⟩ (.int .i64 p.e.g))=V1:=⟨_,rfl⟩
 have qq0:=HQb0.out.cell (i:=0) rfl
 have qq1:=HQb0.out.cell (i:=1) rfl
 have qq2:=HQb0.out.cell (i:=2) rfl
 have qq3:=HQb0.out.cell (i:=3) rfl
 have qq4:=HQb0.out.cell (i:=4) rfl
 have qq5:=HQb0.out.cell (i:=5) rfl
 have qq6:=HQb0.out.cell (i:=6) rfl
 have qf0:=HQb0.out.free
 have HY0:=HQb0.out
 obtain⟨Y1,hY1⟩:∃Y1,w1.setCell ⟨(w.heap.size+1+1),0,none⟩ (.int .i64 p.e.t)=Y1:=⟨_,rfl⟩
 have HY1:Bk Y1 (w.heap.size+1+1) 115 #[.int .i64 p.e.t,.int .i64 0,.int .i64 0,.int .i64 0,.int .i64 0,.int .i64 0,.int .i64 0,.slice none 0 0,.int .i64 0,.int .i64 0,.slice none 0 0,.slice none 0 0]:=hY1▸HY0.put 0 _
 clear HY0
 obtain⟨Y2,hY2⟩:∃Y2,Y1.setCell ⟨(w.heap.size+1+1),1,none⟩ (.int .i64 p.e.s)=Y2:=⟨_,rfl⟩
 have HY2:Bk Y2 (w.heap.size+1+1) 115 #[.int .i64 p.e.t,.int .i64 p.e.s,.int .i64 0,.int .i64 0,.int .i64 0,.int .i64 0,.int .i64 0,.slice none 0 0,.int .i64 0,.int .i64 0,.slice none 0 0,.slice none 0 0]:=hY2▸HY1.put 1 _
 clear HY1
 obtain⟨Y3,hY3⟩:∃Y3,Y2.setCell ⟨(w.heap.size+1+1),2,none⟩ (.int .i64 p.e.q)=Y3:=⟨_,rfl⟩
 have HY3:Bk Y3 (w.heap.size+1+1) 115 #[.int .i64 p.e.t,.int .i64 p.e.s,.int .i64 p.e.q,.int .i64 0,.int .i64 0,.int .i64 0,.int .i64 0,.slice none 0 0,.int .i64 0,.int .i64 0,.slice none 0 0,.slice none 0 0]:=hY3▸HY2.put 2 _
 clear HY2
 obtain⟨Y4,hY4⟩:∃Y4,Y3.setCell ⟨(w.heap.size+1+1),3,none⟩ (.int .i64 p.e.d)=Y4:=⟨_,rfl⟩
 have HY4:Bk Y4 (w.heap.size+1+1) 115 #[.int .i64 p.e.t,.int .i64 p.e.s,.int .i64 p.e.q,.int .i64 p.e.d,.int .i64 0,.int .i64 0,.int .i64 0,.slice none 0 0,.int .i64 0,.int .i64 0,.slice none 0 0,.slice none 0 0]:=hY4▸HY3.put 3 _
 clear HY3
 obtain⟨Y5,hY5⟩:∃Y5,Y4.setCell ⟨(w.heap.size+1+1),4,none⟩ (.int .i64 p.e.k)=Y5:=⟨_,rfl⟩
 have HY5:Bk Y5 (w.heap.size+1+1) 115 #[.int .i64 p.e.t,.int .i64 p.e.s,.int .i64 p.e.q,.int .i64 p.e.d,.int .i64 p.e.k,.int .i64 0,.int .i64 0,.slice none 0 0,.int .i64 0,.int .i64 0,.slice none 0 0,.slice none 0 0]:=hY5▸HY4.put 4 _
 clear HY4
 obtain⟨Y6,hY6⟩:∃Y6,Y5.setCell ⟨(w.heap.size+1+1),5,none⟩ (.int .i64 p.e.v)=Y6:=⟨_,rfl⟩
 have HY6:Bk Y6 (w.heap.size+1+1) 115 #[.int .i64 p.e.t,.int .i64 p.e.s,.int .i64 p.e.q,.int .i64 p.e.d,.int .i64 p.e.k,.int .i64 p.e.v,.int .i64 0,.slice none 0 0,.int .i64 0,.int .i64 0,.slice none 0 0,.slice none 0 0]:=hY6▸HY5.put 5 _
 clear HY5
 obtain⟨Y7,hY7⟩:∃Y7,Y6.setCell ⟨(w.heap.size+1+1),6,none⟩ (.int .i64 p.e.g)=Y7:=⟨_,rfl⟩
 have HY7:Bk Y7 (w.heap.size+1+1) 115 #[.int .i64 p.e.t,.int .i64 p.e.s,.int .i64 p.e.q,.int .i64 p.e.d,.int .i64 p.e.k,.int .i64 p.e.v,.int .i64 p.e.g,.slice none 0 0,.int .i64 0,.int .i64 0,.slice none 0 0,.slice none 0 0]:=hY7▸HY6.put 6 _
 clear HY6
 have hYV:Y7=V1:=by rw [←hV1,hY1,hY2,hY3,hY4,hY5,hY6,hY7]
 have HQ1:Hid (Bk V1 (w.heap.size+1+1) 115 #[.int .i64 p.e.t,.int .i64 p.e.s,.int .i64 p.e.q,.int .i64 p.e.d,.int .i64 p.e.k,.int .i64 p.e.v,.int .i64 p.e.g,.slice none 0 0,.int .i64 0,.int .i64 0,.slice none 0 0,.slice none 0 0]):=hYV▸HY7
 clear HY7 hYV hY7 hY6 hY5 hY4 hY3 hY2 hY1
 have HP1:Hid (Bk V1 w.heap.size 230 #[.int .i64 p.e.t,.int .i64 p.e.s,.int .i64 p.e.q,.int .i64 p.e.d,.int .i64 p.e.k,.int .i64 p.e.v,.int .i64 p.e.g,u7,.int .i64 p.b.q,.int .i64 p.b.d,u10,u11]):=by rw [←hV1];exact(((((((HPb0.out.other 0 _ (by omega)).other 1 _ (by omega)).other 2 _ (by omega)).other 3 _ (by omega)).other 4 _ (by omega)).other 5 _ (by omega)).other 6 _ (by omega))
 have HR1:Hid (Bk V1 (w.heap.size+1) 115 #[.int .i64 0,.int .i64 0,.int .i64 0,.int .i64 0,.int .i64 0,.int .i64 0,.int .i64 0,.slice none 0 0,.int .i64 0,.int .i64 0,.slice none 0 0,.slice none 0 0]):=by rw [←hV1];exact(((((((HRb0.out.other 0 _ (by omega)).other 1 _ (by omega)).other 2 _ (by omega)).other 3 _ (by omega)).other 4 _ (by omega)).other 5 _ (by omega)).other 6 _ (by omega))
 have HT1:Hid (Turns (fun k=>k=(w.heap.size+1+1)) w1 V1):=by rw [←hV1];exact((((((put1_turns _ _ 0 _).trans (put1_turns _ _ 1 _)).trans (put1_turns _ _ 2 _)).trans (put1_turns _ _ 3 _)).trans (put1_turns _ _ 4 _)).trans (put1_turns _ _ 5 _)).trans (put1_turns _ _ 6 _)
 have hy1:w1.heap.size≤V1.heap.size:=HT1.out.size
 have HX1:Hid (Below w.heap.size w V1):=HXb0.out.trans (HT1.out.to_below (fun k e=>by omega) (by omega))
 clear HPb0 HRb0 HQb0 HXb0 HP0 HR0 HQ0 HX0
 have p7:=HP1.out.cell (i:=7) rfl
 have p8:=HP1.out.cell (i:=8) rfl
 have p9:=HP1.out.cell (i:=9) rfl
 go_wp2_with fail
 clear qq0 qq1 qq2 qq3 qq4 qq5 qq6 qf0 hV1 p7 p8 p9
 refine(toState_any _ p.b _ (by have:=HS.out;unfold Ps.wt at this;simp only [ems_wt,evs_wt,ints_wt]at this;omega) ⟨_,rfl,(H7.out.under HX1.out).isI⟩).mono ?_
 rintro e w2 ⟨y7,rfl,hb,vr7,rfl,ho7⟩
 have HO7:Hid (OwnD w2 (fun k=>V1.heap.size≤k∧k<w2.heap.size) vr7 (intsD p.b.r)):=ho7.own
 obtain⟨_,a7,c7,rfl,_⟩:=ho7
 have hz1:V1.heap.size≤w2.heap.size:=hb.size
 have HXb1:Hid (Below w.heap.size w w2):=HX1.out.trans (hb.mono (by omega))
 have HPb1:Hid (Bk w2 w.heap.size 230 #[.int .i64 p.e.t,.int .i64 p.e.s,.int .i64 p.e.q,.int .i64 p.e.d,.int .i64 p.e.k,.int .i64 p.e.v,.int .i64 p.e.g,u7,.int .i64 p.b.q,.int .i64 p.b.d,u10,u11]):=HP1.out.below hb
 have HRb1:Hid (Bk w2 (w.heap.size+1) 115 #[.int .i64 0,.int .i64 0,.int .i64 0,.int .i64 0,.int .i64 0,.int .i64 0,.int .i64 0,.slice none 0 0,.int .i64 0,.int .i64 0,.slice none 0 0,.slice none 0 0]):=HR1.out.below hb
 have HQb1:Hid (Bk w2 (w.heap.size+1+1) 115 #[.int .i64 p.e.t,.int .i64 p.e.s,.int .i64 p.e.q,.int .i64 p.e.d,.int .i64 p.e.k,.int .i64 p.e.v,.int .i64 p.e.g,.slice none 0 0,.int .i64 0,.int .i64 0,.slice none 0 0,.slice none 0 0]):=HQ1.out.below hb
 clear hb
 obtain⟨V2,hV2⟩:∃V2,(((w2.setCell ⟨(w.heap.size+1+1),7,none⟩ (.slice a7 p.b.r.length c7)).setCell ⟨(w.heap.size+1+1),8,none⟩ (.int .i64 p.b.q)).setCell ⟨(w.heap.size+1+1),9,none⟩ (.int .i64 p.b.d))=V2:=⟨_,rfl⟩
 have qq7:=HQb1.out.cell (i:=7) rfl
 have qq8:=HQb1.out.cell (i:=8) rfl
 have qq9:=HQb1.out.cell (i:=9) rfl
 have qf1:=HQb1.out.free
 have HY7:=HQb1.out
 obtain⟨Y8,hY8⟩:∃Y8,w2.setCell ⟨(w.heap.size+1+1),7,none⟩ (.slice a7 p.b.r.length c7)=Y8:=⟨_,rfl⟩
 have HY8:Bk Y8 (w.heap.size+1+1) 115 #[.int .i64 p.e.t,.int .i64 p.e.s,.int .i64 p.e.q,.int .i64 p.e.d,.int .i64 p.e.k,.int .i64 p.e.v,.int .i64 p.e.g,.slice a7 p.b.r.length c7,.int .i64 0,.int .i64 0,.slice none 0 0,.slice none 0 0]:=hY8▸HY7.put 7 _
 clear HY7
 obtain⟨Y9,hY9⟩:∃Y9,Y8.setCell ⟨(w.heap.size+1+1),8,none⟩ (.int .i64 p.b.q)=Y9:=⟨_,rfl⟩
 have HY9:Bk Y9 (w.heap.size+1+1) 115 #[.int .i64 p.e.t,.int .i64 p.e.s,.int .i64 p.e.q,.int .i64 p.e.d,.int .i64 p.e.k,.int .i64 p.e.v,.int .i64 p.e.g,.slice a7 p.b.r.length c7,.int .i64 p.b.q,.int .i64 0,.slice none 0 0,.slice none 0 0]:=hY9▸HY8.put 8 _
 clear HY8
 obtain⟨Y10,hY10⟩:∃Y10,Y9.setCell ⟨(w.heap.size+1+1),9,none⟩ (.int .i64 p.b.d)=Y10:=⟨_,rfl⟩
 have HY10:Bk Y10 (w.heap.size+1+1) 115 #[.int .i64 p.e.t,.int .i64 p.e.s,.int .i64 p.e.q,.int .i64 p.e.d,.int .i64 p.e.k,.int .i64 p.e.v,.int .i64 p.e.g,.slice a7 p.b.r.length c7,.int .i64 p.b.q,.int .i64 p.b.d,.slice none 0 0,.slice none 0 0]:=hY10▸HY9.put 9 _
 clear HY9
 have hYV:Y10=V2:=by rw [←hV2,hY8,hY9,hY10]
 have HQ2:Hid (Bk V2 (w.heap.size+1+1) 115 #[.int .i64 p.e.t,.int .i64 p.e.s,.int .i64 p.e.q,.int .i64 p.e.d,.int .i64 p.e.k,.int .i64 p.e.v,.int .i64 p.e.g,.slice a7 p.b.r.length c7,.int .i64 p.b.q,.int .i64 p.b.d,.slice none 0 0,.slice none 0 0]):=hYV▸HY10
 clear HY10 hYV hY10 hY9 hY8
 have HP2:Hid (Bk V2 w.heap.size 230 #[.int .i64 p.e.t,.int .i64 p.e.s,.int .i64 p.e.q,.int .i64 p.e.d,.int .i64 p.e.k,.int .i64 p.e.v,.int .i64 p.e.g,u7,.int .i64 p.b.q,.int .i64 p.b.d,u10,u11]):=by rw [←hV2];exact(((HPb1.out.other 7 _ (by omega)).other 8 _ (by omega)).other 9 _ (by omega))
 have HR2:Hid (Bk V2 (w.heap.size+1) 115 #[.int .i64 0,.int .i64 0,.int .i64 0,.int .i64 0,.int .i64 0,.int .i64 0,.int .i64 0,.slice none 0 0,.int .i64 0,.int .i64 0,.slice none 0 0,.slice none 0 0]):=by rw [←hV2];exact(((HRb1.out.other 7 _ (by omega)).other 8 _ (by omega)).other 9 _ (by omega))
 have HT2:Hid (Turns (fun k=>k=(w.heap.size+1+1)) w2 V2):=by rw [←hV2];exact((put1_turns _ _ 7 _).trans (put1_turns _ _ 8 _)).trans (put1_turns _ _ 9 _)
 have hy2:w2.heap.size≤V2.heap.size:=HT2.out.size
 have HX2:Hid (Below w.heap.size w V2):=HXb1.out.trans (HT2.out.to_below (fun k e=>by omega) (by omega))
 have HO7':Hid (OwnD V2 (fun k=>V1.heap.size≤k∧k<w2.heap.size) (.slice a7 p.b.r.length c7) (intsD p.b.r)):=HO7.out.turns HT2.out (fun k e=>by omega)
 clear HO7
 have HO7:=HO7'
 clear HO7'
 clear HPb1 HRb1 HQb1 HXb1 HP1 HR1 HQ1 HX1
 have p10:=HP2.out.cell (i:=10) rfl
 go_wp2_with fail
 clear qq7 qq8 qq9 qf1 hV2 p10
 refine(to_evs _ p.s _ (by have:=HS.out;unfold Ps.wt at this;simp only [ems_wt,evs_wt,ints_wt]at this;omega) (H10.out.under HX2.out)).mono ?_
 rintro e w3 ⟨y10,rfl,hb,ho10⟩
 have HO10:Hid (OwnD w3 (fun k=>V2.heap.size≤k∧k<w3.heap.size) y10 (evsD p.s)):=ho10
 obtain⟨a10,c10,rfl,_⟩:=OwnD.parts (c:=7) (n:=p.s.length) ho10
 clear ho10
 have hz2:V2.heap.size≤w3.heap.size:=hb.size
 have HXb2:Hid (Below w.heap.size w w3):=HX2.out.trans (hb.mono (by omega))
 have HPb2:Hid (Bk w3 w.heap.size 230 #[.int .i64 p.e.t,.int .i64 p.e.s,.int .i64 p.e.q,.int .i64 p.e.d,.int .i64 p.e.k,.int .i64 p.e.v,.int .i64 p.e.g,u7,.int .i64 p.b.q,.int .i64 p.b.d,u10,u11]):=HP2.out.below hb
 have HRb2:Hid (Bk w3 (w.heap.size+1) 115 #[.int .i64 0,.int .i64 0,.int .i64 0,.int .i64 0,.int .i64 0,.int .i64 0,.int .i64 0,.slice none 0 0,.int .i64 0,.int .i64 0,.slice none 0 0,.slice none 0 0]):=HR2.out.below hb
 have HQb2:Hid (Bk w3 (w.heap.size+1+1) 115 #[.int .i64 p.e.t,.int .i64 p.e.s,.int .i64 p.e.q,.int .i64 p.e.d,.int .i64 p.e.k,.int .i64 p.e.v,.int .i64 p.e.g,.slice a7 p.b.r.length c7,.int .i64 p.b.q,.int .i64 p.b.d,.slice none 0 0,.slice none 0 0]):=HQ2.out.below hb
 have HO7':Hid (OwnD w3 (fun k=>V1.heap.size≤k∧k<w2.heap.size) (.slice a7 p.b.r.length c7) (intsD p.b.r)):=HO7.out.under hb
 clear HO7
 have HO7:=HO7'
 clear HO7'
 clear hb
 obtain⟨V3,hV3⟩:∃V3,(w3.setCell ⟨(w.heap.size+1+1),10,none⟩ (.slice a10 p.s.length c10))=V3:=⟨_,rfl⟩
 have qq10:=HQb2.out.cell (i:=10) rfl
 have qf2:=HQb2.out.free
 have HY10:=HQb2.out
 obtain⟨Y11,hY11⟩:∃Y11,w3.setCell ⟨(w.heap.size+1+1),10,none⟩ (.slice a10 p.s.length c10)=Y11:=⟨_,rfl⟩
 have HY11:Bk Y11 (w.heap.size+1+1) 115 #[.int .i64 p.e.t,.int .i64 p.e.s,.int .i64 p.e.q,.int .i64 p.e.d,.int .i64 p.e.k,.int .i64 p.e.v,.int .i64 p.e.g,.slice a7 p.b.r.length c7,.int .i64 p.b.q,.int .i64 p.b.d,.slice a10 p.s.length c10,.slice none 0 0]:=hY11▸HY10.put 10 _
 clear HY10
 have hYV:Y11=V3:=by rw [←hV3,hY11]
 have HQ3:Hid (Bk V3 (w.heap.size+1+1) 115 #[.int .i64 p.e.t,.int .i64 p.e.s,.int .i64 p.e.q,.int .i64 p.e.d,.int .i64 p.e.k,.int .i64 p.e.v,.int .i64 p.e.g,.slice a7 p.b.r.length c7,.int .i64 p.b.q,.int .i64 p.b.d,.slice a10 p.s.length c10,.slice none 0 0]):=hYV▸HY11
 clear HY11 hYV hY11
 have HP3:Hid (Bk V3 w.heap.size 230 #[.int .i64 p.e.t,.int .i64 p.e.s,.int .i64 p.e.q,.int .i64 p.e.d,.int .i64 p.e.k,.int .i64 p.e.v,.int .i64 p.e.g,u7,.int .i64 p.b.q,.int .i64 p.b.d,u10,u11]):=by rw [←hV3];exact(HPb2.out.other 10 _ (by omega))
 have HR3:Hid (Bk V3 (w.heap.size+1) 115 #[.int .i64 0,.int .i64 0,.int .i64 0,.int .i64 0,.int .i64 0,.int .i64 0,.int .i64 0,.slice none 0 0,.int .i64 0,.int .i64 0,.slice none 0 0,.slice none 0 0]):=by rw [←hV3];exact(HRb2.out.other 10 _ (by omega))
 have HT3:Hid (Turns (fun k=>k=(w.heap.size+1+1)) w3 V3):=by rw [←hV3];exact put1_turns _ _ 10 _
 have hy3:w3.heap.size≤V3.heap.size:=HT3.out.size
 have HX3:Hid (Below w.heap.size w V3):=HXb2.out.trans (HT3.out.to_below (fun k e=>by omega) (by omega))
 have HO7':Hid (OwnD V3 (fun k=>V1.heap.size≤k∧k<w2.heap.size) (.slice a7 p.b.r.length c7) (intsD p.b.r)):=HO7.out.turns HT3.out (fun k e=>by omega)
 clear HO7
 have HO7:=HO7'
 clear HO7'
 have HO10':Hid (OwnD V3 (fun k=>V2.heap.size≤k∧k<w3.heap.size) (.slice a10 p.s.length c10) (evsD p.s)):=HO10.out.turns HT3.out (fun k e=>by omega)
 clear HO10
 have HO10:=HO10'
 clear HO10'
 clear HPb2 HRb2 HQb2 HXb2 HP2 HR2 HQ2 HX2
 have p11:=HP3.out.cell (i:=11) rfl
 go_wp2_with fail
 clear qq10 qf2 hV3 p11
 refine(to_ems _ p.x _ (by have:=HS.out;unfold Ps.wt at this;simp only [ems_wt,evs_wt,ints_wt]at this;omega) (H11.out.under HX3.out)).mono ?_
 rintro e w4 ⟨y11,rfl,hb,ho11⟩
 have HO11:Hid (OwnD w4 (fun k=>V3.heap.size≤k∧k<w4.heap.size) y11 (emsD p.x)):=ho11
 obtain⟨a11,c11,rfl,_⟩:=OwnD.parts (c:=3) (n:=p.x.length) ho11
 clear ho11
 have hz3:V3.heap.size≤w4.heap.size:=hb.size
 have HXb3:Hid (Below w.heap.size w w4):=HX3.out.trans (hb.mono (by omega))
 have HPb3:Hid (Bk w4 w.heap.size 230 #[.int .i64 p.e.t,.int .i64 p.e.s,.int .i64 p.e.q,.int .i64 p.e.d,.int .i64 p.e.k,.int .i64 p.e.v,.int .i64 p.e.g,u7,.int .i64 p.b.q,.int .i64 p.b.d,u10,u11]):=HP3.out.below hb
 have HRb3:Hid (Bk w4 (w.heap.size+1) 115 #[.int .i64 0,.int .i64 0,.int .i64 0,.int .i64 0,.int .i64 0,.int .i64 0,.int .i64 0,.slice none 0 0,.int .i64 0,.int .i64 0,.slice none 0 0,.slice none 0 0]):=HR3.out.below hb
 have HQb3:Hid (Bk w4 (w.heap.size+1+1) 115 #[.int .i64 p.e.t,.int .i64 p.e.s,.int .i64 p.e.q,.int .i64 p.e.d,.int .i64 p.e.k,.int .i64 p.e.v,.int .i64 p.e.g,.slice a7 p.b.r.length c7,.int .i64 p.b.q,.int .i64 p.b.d,.slice a10 p.s.length c10,.slice none 0 0]):=HQ3.out.below hb
 have HO7':Hid (OwnD w4 (fun k=>V1.heap.size≤k∧k<w2.heap.size) (.slice a7 p.b.r.length c7) (intsD p.b.r)):=HO7.out.under hb
 clear HO7
 have HO7:=HO7'
 clear HO7'
 have HO10':Hid (OwnD w4 (fun k=>V2.heap.size≤k∧k<w3.heap.size) (.slice a10 p.s.length c10) (evsD p.s)):=HO10.out.under hb
 clear HO10
 have HO10:=HO10'
 clear HO10'
 clear hb
 obtain⟨V4,hV4⟩:∃V4,(w4.setCell ⟨(w.heap.size+1+1),11,none⟩ (.slice a11 p.x.length c11))=V4:=⟨_,rfl⟩
 have qq11:=HQb3.out.cell (i:=11) rfl
 have qf3:=HQb3.out.free
 have HY11:=HQb3.out
 obtain⟨Y12,hY12⟩:∃Y12,w4.setCell ⟨(w.heap.size+1+1),11,none⟩ (.slice a11 p.x.length c11)=Y12:=⟨_,rfl⟩
 have HY12:Bk Y12 (w.heap.size+1+1) 115 #[.int .i64 p.e.t,.int .i64 p.e.s,.int .i64 p.e.q,.int .i64 p.e.d,.int .i64 p.e.k,.int .i64 p.e.v,.int .i64 p.e.g,.slice a7 p.b.r.length c7,.int .i64 p.b.q,.int .i64 p.b.d,.slice a10 p.s.length c10,.slice a11 p.x.length c11]:=hY12▸HY11.put 11 _
 clear HY11
 have hYV:Y12=V4:=by rw [←hV4,hY12]
 have HQ4:Hid (Bk V4 (w.heap.size+1+1) 115 #[.int .i64 p.e.t,.int .i64 p.e.s,.int .i64 p.e.q,.int .i64 p.e.d,.int .i64 p.e.k,.int .i64 p.e.v,.int .i64 p.e.g,.slice a7 p.b.r.length c7,.int .i64 p.b.q,.int .i64 p.b.d,.slice a10 p.s.length c10,.slice a11 p.x.length c11]):=hYV▸HY12
 clear HY12 hYV hY12
 have HP4:Hid (Bk V4 w.heap.size 230 #[.int .i64 p.e.t,.int .i64 p.e.s,.int .i64 p.e.q,.int .i64 p.e.d,.int .i64 p.e.k,.int .i64 p.e.v,.int .i64 p.e.g,u7,.int .i64 p.b.q,.int .i64 p.b.d,u10,u11]):=by rw [←hV4];exact(HPb3.out.other 11 _ (by omega))
 have HR4:Hid (Bk V4 (w.heap.size+1) 115 #[.int .i64 0,.int .i64 0,.int .i64 0,.int .i64 0,.int .i64 0,.int .i64 0,.int .i64 0,.slice none 0 0,.int .i64 0,.int .i64 0,.slice none 0 0,.slice none 0 0]):=by rw [←hV4];exact(HRb3.out.other 11 _ (by omega))
 have HT4:Hid (Turns (fun k=>k=(w.heap.size+1+1)) w4 V4):=by rw [←hV4];exact put1_turns _ _ 11 _
 have hy4:w4.heap.size≤V4.heap.size:=HT4.out.size
 have HX4:Hid (Below w.heap.size w V4):=HXb3.out.trans (HT4.out.to_below (fun k e=>by omega) (by omega))
 have HO7':Hid (OwnD V4 (fun k=>V1.heap.size≤k∧k<w2.heap.size) (.slice a7 p.b.r.length c7) (intsD p.b.r)):=HO7.out.turns HT4.out (fun k e=>by omega)
 clear HO7
 have HO7:=HO7'
 clear HO7'
 have HO10':Hid (OwnD V4 (fun k=>V2.heap.size≤k∧k<w3.heap.size) (.slice a10 p.s.length c10) (evsD p.s)):=HO10.out.turns HT4.out (fun k e=>by omega)
 clear HO10
 have HO10:=HO10'
 clear HO10'
 have HO11':Hid (OwnD V4 (fun k=>V3.heap.size≤k∧k<w4.heap.size) (.slice a11 p.x.length c11) (emsD p.x)):=HO11.out.turns HT4.out (fun k e=>by omega)
 clear HO11
 have HO11:=HO11'
 clear HO11'
 clear HPb3 HRb3 HQb3 HXb3 HP3 HR3 HQ3 HX3
 have oo0:=HQ4.out.cell (i:=0) rfl
 have rr0:=HR4.out.cell (i:=0) rfl
 have oo1:=HQ4.out.cell (i:=1) rfl
 have rr1:=HR4.out.cell (i:=1) rfl
 have oo2:=HQ4.out.cell (i:=2) rfl
 have rr2:=HR4.out.cell (i:=2) rfl
 have oo3:=HQ4.out.cell (i:=3) rfl
 have rr3:=HR4.out.cell (i:=3) rfl
 have oo4:=HQ4.out.cell (i:=4) rfl
 have rr4:=HR4.out.cell (i:=4) rfl
 have oo5:=HQ4.out.cell (i:=5) rfl
 have rr5:=HR4.out.cell (i:=5) rfl
 have oo6:=HQ4.out.cell (i:=6) rfl
 have rr6:=HR4.out.cell (i:=6) rfl
 have oo7:=HQ4.out.cell (i:=7) rfl
 have rr7:=HR4.out.cell (i:=7) rfl
 have oo8:=HQ4.out.cell (i:=8) rfl
 have rr8:=HR4.out.cell (i:=8) rfl
 have oo9:=HQ4.out.cell (i:=9) rfl
 have rr9:=HR4.out.cell (i:=9) rfl
 have oo10:=HQ4.out.cell (i:=10) rfl
 have rr10:=HR4.out.cell (i:=10) rfl
 have oo11:=HQ4.out.cell (i:=11) rfl
 have rr11:=HR4.out.cell (i:=11) rfl
 have rf:=HR4.out.free
 go_wp2
 clear rf oo0 rr0 oo1 rr1 oo2 rr2 oo3 rr3 oo4 rr4 oo5 rr5 oo6 rr6 oo7 rr7 oo8 rr8 oo9 rr9 oo10 rr10 oo11 rr11 qq11 qf3 hV4
 have HY0:=HR4.out
 have HU0:Turns (fun k=>k=(w.heap.size+1)) V4 V4:=Turns.refl _ _
 obtain⟨Y1,hY1⟩:∃Y1,V4.setCell ⟨(w.heap.size+1),0,none⟩ (.int .i64 p.e.t)=Y1:=⟨_,rfl⟩
 have HY1:Bk Y1 (w.heap.size+1) 115 #[.int .i64 p.e.t,.int .i64 0,.int .i64 0,.int .i64 0,.int .i64 0,.int .i64 0,.int .i64 0,.slice none 0 0,.int .i64 0,.int .i64 0,.slice none 0 0,.slice none 0 0]:=hY1▸HY0.put 0 _
 have HU1:Turns (fun k=>k=(w.heap.size+1)) V4 Y1:=HU0.trans (hY1▸put1_turns _ _ 0 _)
 clear HY0 HU0
 obtain⟨Y2,hY2⟩:∃Y2,Y1.setCell ⟨(w.heap.size+1),1,none⟩ (.int .i64 p.e.s)=Y2:=⟨_,rfl⟩
 have HY2:Bk Y2 (w.heap.size+1) 115 #[.int .i64 p.e.t,.int .i64 p.e.s,.int .i64 0,.int .i64 0,.int .i64 0,.int .i64 0,.int .i64 0,.slice none 0 0,.int .i64 0,.int .i64 0,.slice none 0 0,.slice none 0 0]:=hY2▸HY1.put 1 _
 have HU2:Turns (fun k=>k=(w.heap.size+1)) V4 Y2:=HU1.trans (hY2▸put1_turns _ _ 1 _)
 clear HY1 HU1
 obtain⟨Y3,hY3⟩:∃Y3,Y2.setCell ⟨(w.heap.size+1),2,none⟩ (.int .i64 p.e.q)=Y3:=⟨_,rfl⟩
 have HY3:Bk Y3 (w.heap.size+1) 115 #[.int .i64 p.e.t,.int .i64 p.e.s,.int .i64 p.e.q,.int .i64 0,.int .i64 0,.int .i64 0,.int .i64 0,.slice none 0 0,.int .i64 0,.int .i64 0,.slice none 0 0,.slice none 0 0]:=hY3▸HY2.put 2 _
 have HU3:Turns (fun k=>k=(w.heap.size+1)) V4 Y3:=HU2.trans (hY3▸put1_turns _ _ 2 _)
 clear HY2 HU2
 obtain⟨Y4,hY4⟩:∃Y4,Y3.setCell ⟨(w.heap.size+1),3,none⟩ (.int .i64 p.e.d)=Y4:=⟨_,rfl⟩
 have HY4:Bk Y4 (w.heap.size+1) 115 #[.int .i64 p.e.t,.int .i64 p.e.s,.int .i64 p.e.q,.int .i64 p.e.d,.int .i64 0,.int .i64 0,.int .i64 0,.slice none 0 0,.int .i64 0,.int .i64 0,.slice none 0 0,.slice none 0 0]:=hY4▸HY3.put 3 _
 have HU4:Turns (fun k=>k=(w.heap.size+1)) V4 Y4:=HU3.trans (hY4▸put1_turns _ _ 3 _)
 clear HY3 HU3
 obtain⟨Y5,hY5⟩:∃Y5,Y4.setCell ⟨(w.heap.size+1),4,none⟩ (.int .i64 p.e.k)=Y5:=⟨_,rfl⟩
 have HY5:Bk Y5 (w.heap.size+1) 115 #[.int .i64 p.e.t,.int .i64 p.e.s,.int .i64 p.e.q,.int .i64 p.e.d,.int .i64 p.e.k,.int .i64 0,.int .i64 0,.slice none 0 0,.int .i64 0,.int .i64 0,.slice none 0 0,.slice none 0 0]:=hY5▸HY4.put 4 _
 have HU5:Turns (fun k=>k=(w.heap.size+1)) V4 Y5:=HU4.trans (hY5▸put1_turns _ _ 4 _)
 clear HY4 HU4
 obtain⟨Y6,hY6⟩:∃Y6,Y5.setCell ⟨(w.heap.size+1),5,none⟩ (.int .i64 p.e.v)=Y6:=⟨_,rfl⟩
 have HY6:Bk Y6 (w.heap.size+1) 115 #[.int .i64 p.e.t,.int .i64 p.e.s,.int .i64 p.e.q,.int .i64 p.e.d,.int .i64 p.e.k,.int .i64 p.e.v,.int .i64 0,.slice none 0 0,.int .i64 0,.int .i64 0,.slice none 0 0,.slice none 0 0]:=hY6▸HY5.put 5 _
 have HU6:Turns (fun k=>k=(w.heap.size+1)) V4 Y6:=HU5.trans (hY6▸put1_turns _ _ 5 _)
 clear HY5 HU5
 obtain⟨Y7,hY7⟩:∃Y7,Y6.setCell ⟨(w.heap.size+1),6,none⟩ (.int .i64 p.e.g)=Y7:=⟨_,rfl⟩
 have HY7:Bk Y7 (w.heap.size+1) 115 #[.int .i64 p.e.t,.int .i64 p.e.s,.int .i64 p.e.q,.int .i64 p.e.d,.int .i64 p.e.k,.int .i64 p.e.v,.int .i64 p.e.g,.slice none 0 0,.int .i64 0,.int .i64 0,.slice none 0 0,.slice none 0 0]:=hY7▸HY6.put 6 _
 have HU7:Turns (fun k=>k=(w.heap.size+1)) V4 Y7:=HU6.trans (hY7▸put1_turns _ _ 6 _)
 clear HY6 HU6
 obtain⟨Y8,hY8⟩:∃Y8,Y7.setCell ⟨(w.heap.size+1),7,none⟩ (.slice a7 p.b.r.length c7)=Y8:=⟨_,rfl⟩
 have HY8:Bk Y8 (w.heap.size+1) 115 #[.int .i64 p.e.t,.int .i64 p.e.s,.int .i64 p.e.q,.int .i64 p.e.d,.int .i64 p.e.k,.int .i64 p.e.v,.int .i64 p.e.g,.slice a7 p.b.r.length c7,.int .i64 0,.int .i64 0,.slice none 0 0,.slice none 0 0]:=hY8▸HY7.put 7 _
 have HU8:Turns (fun k=>k=(w.heap.size+1)) V4 Y8:=HU7.trans (hY8▸put1_turns _ _ 7 _)
 clear HY7 HU7
 obtain⟨Y9,hY9⟩:∃Y9,Y8.setCell ⟨(w.heap.size+1),8,none⟩ (.int .i64 p.b.q)=Y9:=⟨_,rfl⟩
 have HY9:Bk Y9 (w.heap.size+1) 115 #[.int .i64 p.e.t,.int .i64 p.e.s,.int .i64 p.e.q,.int .i64 p.e.d,.int .i64 p.e.k,.int .i64 p.e.v,.int .i64 p.e.g,.slice a7 p.b.r.length c7,.int .i64 p.b.q,.int .i64 0,.slice none 0 0,.slice none 0 0]:=hY9▸HY8.put 8 _
 have HU9:Turns (fun k=>k=(w.heap.size+1)) V4 Y9:=HU8.trans (hY9▸put1_turns _ _ 8 _)
 clear HY8 HU8
 obtain⟨Y10,hY10⟩:∃Y10,Y9.setCell ⟨(w.heap.size+1),9,none⟩ (.int .i64 p.b.d)=Y10:=⟨_,rfl⟩
 have HY10:Bk Y10 (w.heap.size+1) 115 #[.int .i64 p.e.t,.int .i64 p.e.s,.int .i64 p.e.q,.int .i64 p.e.d,.int .i64 p.e.k,.int .i64 p.e.v,.int .i64 p.e.g,.slice a7 p.b.r.length c7,.int .i64 p.b.q,.int .i64 p.b.d,.slice none 0 0,.slice none 0 0]:=hY10▸HY9.put 9 _
 have HU10:Turns (fun k=>k=(w.heap.size+1)) V4 Y10:=HU9.trans (hY10▸put1_turns _ _ 9 _)
 clear HY9 HU9
 obtain⟨Y11,hY11⟩:∃Y11,Y10.setCell ⟨(w.heap.size+1),10,none⟩ (.slice a10 p.s.length c10)=Y11:=⟨_,rfl⟩
 have HY11:Bk Y11 (w.heap.size+1) 115 #[.int .i64 p.e.t,.int .i64 p.e.s,.int .i64 p.e.q,.int .i64 p.e.d,.int .i64 p.e.k,.int .i64 p.e.v,.int .i64 p.e.g,.slice a7 p.b.r.length c7,.int .i64 p.b.q,.int .i64 p.b.d,.slice a10 p.s.length c10,.slice none 0 0]:=hY11▸HY10.put 10 _
 have HU11:Turns (fun k=>k=(w.heap.size+1)) V4 Y11:=HU10.trans (hY11▸put1_turns _ _ 10 _)
 clear HY10 HU10
 obtain⟨Y12,hY12⟩:∃Y12,Y11.setCell ⟨(w.heap.size+1),11,none⟩ (.slice a11 p.x.length c11)=Y12:=⟨_,rfl⟩
 have HY12:Bk Y12 (w.heap.size+1) 115 #[.int .i64 p.e.t,.int .i64 p.e.s,.int .i64 p.e.q,.int .i64 p.e.d,.int .i64 p.e.k,.int .i64 p.e.v,.int .i64 p.e.g,.slice a7 p.b.r.length c7,.int .i64 p.b.q,.int .i64 p.b.d,.slice a10 p.s.length c10,.slice a11 p.x.length c11]:=hY12▸HY11.put 11 _
 have HU12:Turns (fun k=>k=(w.heap.size+1)) V4 Y12:=HU11.trans (hY12▸put1_turns _ _ 11 _)
 clear HY11 HU11
 rw [hY1,hY2,hY3,hY4,hY5,hY6,hY7,hY8,hY9,hY10,hY11,hY12]
 have hR:=HY12
 have hT:=HU12
 have t0:=hR.cell (i:=0) rfl
 have t1:=hR.cell (i:=1) rfl
 have t2:=hR.cell (i:=2) rfl
 have t3:=hR.cell (i:=3) rfl
 have t4:=hR.cell (i:=4) rfl
 have t5:=hR.cell (i:=5) rfl
 have t6:=hR.cell (i:=6) rfl
 have t7:=hR.cell (i:=7) rfl
 have t8:=hR.cell (i:=8) rfl
 have t9:=hR.cell (i:=9) rfl
 have t10:=hR.cell (i:=10) rfl
 have t11:=hR.cell (i:=11) rfl
 have hsz:=hT.size
 refine bodyPost_ret (v:= .agg #[.int .i64 p.e.t,.int .i64 p.e.s,.int .i64 p.e.q,.int .i64 p.e.d,.int .i64 p.e.k,.int .i64 p.e.v,.int .i64 p.e.g,.slice a7 p.b.r.length c7,.int .i64 p.b.q,.int .i64 p.b.d,.slice a10 p.s.length c10,.slice a11 p.x.length c11]) (by simp [results,Tryz.results191,go_sem,t0,t1,t2,t3,t4,t5,t6,t7,t8,t9,t10,t11]) rfl
  ⟨_,rfl,HX4.out.trans (hT.to_below (fun k e=>by omega) (by omega)),_,_,_,_,_,_,rfl,HO7.out.turns hT (fun k e=>by omega),HO10.out.turns hT (fun k e=>by omega),HO11.out.turns hT (fun k e=>by omega),fun k e=>⟨⟨by omega,by omega⟩,by omega,by omega⟩,fun k e=>⟨⟨by omega,by omega⟩,by omega⟩,fun k e=>⟨by omega,by omega⟩⟩
theorem putN_12 (w:World) (g m:Nat) (v0 v1 v2 v3 v4 v5 v6 v7 v8 v9 v10 v11:Value):putN w g m (fun i=> [v0,v1,v2,v3,v4,v5,v6,v7,v8,v9,v10,v11].getD i (.int .i64 0)) 12=((((((((((((w.setCell ⟨g,m,none⟩ (v0)).setCell ⟨g,m+1,none⟩ (v1)).setCell ⟨g,m+2,none⟩ (v2)).setCell ⟨g,m+3,none⟩ (v3)).setCell ⟨g,m+4,none⟩ (v4)).setCell ⟨g,m+5,none⟩ (v5)).setCell ⟨g,m+6,none⟩ (v6)).setCell ⟨g,m+7,none⟩ (v7)).setCell ⟨g,m+8,none⟩ (v8)).setCell ⟨g,m+9,none⟩ (v9)).setCell ⟨g,m+10,none⟩ (v10)).setCell ⟨g,m+11,none⟩ (v11)):=rfl
theorem put12_turns (w:World) (g m:Nat) (v0 v1 v2 v3 v4 v5 v6 v7 v8 v9 v10 v11:Value):Turns (fun k=>k=g) w ((((((((((((w.setCell ⟨g,m,none⟩ (v0)).setCell ⟨g,m+1,none⟩ (v1)).setCell ⟨g,m+2,none⟩ (v2)).setCell ⟨g,m+3,none⟩ (v3)).setCell ⟨g,m+4,none⟩ (v4)).setCell ⟨g,m+5,none⟩ (v5)).setCell ⟨g,m+6,none⟩ (v6)).setCell ⟨g,m+7,none⟩ (v7)).setCell ⟨g,m+8,none⟩ (v8)).setCell ⟨g,m+9,none⟩ (v9)).setCell ⟨g,m+10,none⟩ (v10)).setCell ⟨g,m+11,none⟩ (v11)):=putN_12 w g m v0 v1 v2 v3 v4 v5 v6 v7 v8 v9 v10 v11▸putN_turns w g m _ 12
theorem infoPast:(Tryz.prog.info? 115).map (fun i=>(i.zero,i.size,i.bytes))=some (some (.agg #[.int .i64 0,.int .i64 0,.int .i64 0,.int .i64 0,.int .i64 0,.int .i64 0,.int .i64 0,.slice none 0 0,.int .i64 0,.int .i64 0,.slice none 0 0,.slice none 0 0]),12,144):=by kernel_rfl
set_option maxHeartbeats 8000000 in
theorem to_pasts (x:Value) (l:List Ps) (w:World) (hl:(pastsD l).wt≤1048576) (h:IsD w x (pastsD l)):
  Calls Tryz.prog 153 #[x] w fun e w'=>∃y,e= .returned y∧Below w.heap.size w w'∧OwnD w' (fun k=>w.heap.size≤k∧k<w'.heap.size) y (pastsD l):=by
 obtain⟨a,cap,rfl,h1,h2,h⟩:=IsD.parts (c:=12) (n:=l.length) h
 have HS:Hid ((pastsD l).wt≤1048576):=hl
 have hl2:l.length≤1048576:=by rw [pastsD_wt]at hl;omega
 have hp:(0:Int)≤(l.length:Int):=by omega
 clear hl
 obtain⟨i0,hi,hz0,hz1,hz2⟩:=info_parts infoPast
 go_enter Tryz.func153,Tryz.ntmps153
 go_wp2_with (at_make;refine wpList_make_full _ rfl _ _ 95 rfl w.heap.size 115 i0 _ 12 Tryz.underlying95 hi hz0 hz1 .i64 .i64 l.length l.length l.length rfl rfl rfl rfl (by rw [hz2];omega) (by unfold maxLen;omega) (Nat.le_refl _) ?_;intro w1 hown hgrow)
 have hB1:Hid (Below w.heap.size w w1):=(Below.refl _ _).grown hgrow (Nat.le_refl _) (fun k e=>by cases e)
 obtain⟨zs,hR0⟩:=OwnD.made0 (pastsD_f l) hown
 have hR1:Hid (OwnD w1 (fun k=>w.heap.size≤k∧k<w1.heap.size) (sl w.heap.size l.length) (.row 12 l.length (toC (pastsD_f l) zs (0*12)))):=hR0
 clear hown hgrow hi hz0 hz1 hz2 hR0
 go_loopw [4] (fun i wr=>∃k:Nat,k≤l.length∧i= .int .i64 k∧Below w.heap.size w wr∧OwnD wr (fun k=>w.heap.size≤k∧k<wr.heap.size) (sl w.heap.size l.length) (.row 12 l.length (toC (pastsD_f l) zs (k*12)))) (fun i _=>l.length-(intOf i).toNat)
 case atStart=>exact⟨0,Nat.zero_le _,rfl,hB1.out,hR1.out⟩
 case round=>
  obtain⟨k,hk,rfl,hB,hR⟩:=hrel
  have HB:Hid (Below w.heap.size w wr):=hB
  have HR:Hid (OwnD wr (fun k=>w.heap.size≤k∧k<wr.heap.size) (sl w.heap.size l.length) (.row 12 l.length (toC (pastsD_f l) zs (k*12)))):=hR
  clear hR
  by_cases hlt:k<l.length
  ·obtain⟨b,off,rfl,hb,hc⟩:=h.resolve_left (by omega)
   obtain⟨u7,u10,u11,f0,f1,f2,f3,f4,f5,f6,f7,f8,f9,f10,f11,d7,d10,d11⟩:=pastsD_in (fun j hj=>by
    obtain⟨u,hu,hd⟩:=hc j hj
    exact⟨u,(hB.cell (p:=⟨b,off+j,none⟩) hb).trans hu,hd.under hB⟩) hlt
   have HD:Hid (IsPast wr (.agg #[.int .i64 (psAt l k).e.t,.int .i64 (psAt l k).e.s,.int .i64 (psAt l k).e.q,.int .i64 (psAt l k).e.d,.int .i64 (psAt l k).e.k,.int .i64 (psAt l k).e.v,.int .i64 (psAt l k).e.g,u7,.int .i64 (psAt l k).b.q,.int .i64 (psAt l k).b.d,u10,u11]) (psAt l k)):=⟨u7,u10,u11,rfl,d7,d10,d11⟩
   have hg:w.heap.size<wr.heap.size:=(HR.out.lt (by omega)).1
   clear hB hB1 hR1 h hc d7 d10 d11
   go_wp2_with fail
   clear f0 f1 f2 f3 f4 f5 f6 f7 f8 f9 f10 f11
   refine(toPast_any _ (psAt l k) _ (Nat.le_trans (Ps.wt_le hlt) HS.out) HD.out).mono ?_
   rintro e w2 ⟨y,rfl,hb2,A7,A10,A11,v7,v10,v11,rfl,o7,o10,o11,d7,d10,d11⟩
   have HB2:Hid (Below wr.heap.size wr w2):=hb2
   have HR2:Hid (OwnD w2 (fun k=>w.heap.size≤k∧k<wr.heap.size) (sl w.heap.size l.length) (.row 12 l.length (toC (pastsD_f l) zs (k*12)))):=HR.out.under hb2
   obtain⟨a7,c7,rfl,_⟩:=OwnD.parts (c:=1) (n:=(psAt l k).b.r.length) o7
   have O7:Hid (OwnD w2 A7 (.slice a7 (psAt l k).b.r.length c7) (intsD (psAt l k).b.r)):=o7
   obtain⟨a10,c10,rfl,_⟩:=OwnD.parts (c:=7) (n:=(psAt l k).s.length) o10
   have O10:Hid (OwnD w2 A10 (.slice a10 (psAt l k).s.length c10) (evsD (psAt l k).s)):=o10
   obtain⟨a11,c11,rfl,_⟩:=OwnD.parts (c:=3) (n:=(psAt l k).x.length) o11
   have O11:Hid (OwnD w2 A11 (.slice a11 (psAt l k).x.length c11) (emsD (psAt l k).x)):=o11
   obtain⟨x0,_,g0,z0,_⟩:=HR2.out.step (j:=k*12) (by omega)
   obtain⟨x1,_,g1,z1,_⟩:=HR2.out.step (j:=k*12+1) (by omega)
   obtain⟨x2,_,g2,z2,_⟩:=HR2.out.step (j:=k*12+2) (by omega)
   obtain⟨x3,_,g3,z3,_⟩:=HR2.out.step (j:=k*12+3) (by omega)
   obtain⟨x4,_,g4,z4,_⟩:=HR2.out.step (j:=k*12+4) (by omega)
   obtain⟨x5,_,g5,z5,_⟩:=HR2.out.step (j:=k*12+5) (by omega)
   obtain⟨x6,_,g6,z6,_⟩:=HR2.out.step (j:=k*12+6) (by omega)
   obtain⟨x7,_,g7,z7,_⟩:=HR2.out.step (j:=k*12+7) (by omega)
   obtain⟨x8,_,g8,z8,_⟩:=HR2.out.step (j:=k*12+8) (by omega)
   obtain⟨x9,_,g9,z9,_⟩:=HR2.out.step (j:=k*12+9) (by omega)
   obtain⟨x10,_,g10,z10,_⟩:=HR2.out.step (j:=k*12+10) (by omega)
   obtain⟨x11,_,g11,z11,_⟩:=HR2.out.step (j:=k*12+11) (by omega)
   have D7:Hid (∀k,A7 k→(wr.heap.size≤k∧k<w2.heap.size)∧ ¬A10 k∧ ¬A11 k):=d7
   have D10:Hid (∀k,A10 k→(wr.heap.size≤k∧k<w2.heap.size)∧ ¬A11 k):=d10
   have D11:Hid (∀k,A11 k→(wr.heap.size≤k∧k<w2.heap.size)):=d11
   clear hb2 o7 d7 o10 d10 o11 d11
   go_wp2
   go_roundw
   case rel=>
    have hG:∀i b,(fun i=>if i=7 then A7 else if i=10 then A10 else if i=11 then A11 else fun _=>False) i b→wr.heap.size≤b∧b<w2.heap.size:=by
     intro i b hb
     by_cases e:i=7∨i=10∨i=11
     ·rcases e with rfl|rfl|rfl
      ·exact(D7.out b hb).1
      ·exact(D10.out b hb).1
      ·exact(D11.out b hb)
     ·simp only [not_or]at e
      simp [e]at hb
    have hGG:∀i j,i≠j→ ∀b,(fun i=>if i=7 then A7 else if i=10 then A10 else if i=11 then A11 else fun _=>False) i b→ ¬(fun i=>if i=7 then A7 else if i=10 then A10 else if i=11 then A11 else fun _=>False) j b:=by
     intro i j hij b hb hb'
     by_cases e:i=7∨i=10∨i=11
     ·by_cases e':j=7∨j=10∨j=11
      ·rcases e with rfl|rfl|rfl<;>rcases e' with rfl|rfl|rfl
       ·exact hij rfl
       ·exact(D7.out b hb).2.1 hb'
       ·exact(D7.out b hb).2.2 hb'
       ·exact(D7.out b hb').2.1 hb
       ·exact hij rfl
       ·exact(D10.out b hb).2 hb'
       ·exact(D7.out b hb').2.2 hb
       ·exact(D10.out b hb').2 hb
       ·exact hij rfl
      ·simp only [not_or]at e'
       simp [e']at hb'
     ·simp only [not_or]at e
      simp [e]at hb
    have q:=OwnD.fillN (G:=(fun i=>if i=7 then A7 else if i=10 then A10 else if i=11 then A11 else fun _=>False)) (U:=(fun i=> [.int .i64 (psAt l k).e.t,.int .i64 (psAt l k).e.s,.int .i64 (psAt l k).e.q,.int .i64 (psAt l k).e.d,.int .i64 (psAt l k).e.k,.int .i64 (psAt l k).e.v,.int .i64 (psAt l k).e.g,.slice a7 (psAt l k).b.r.length c7,.int .i64 (psAt l k).b.q,.int .i64 (psAt l k).b.d,.slice a10 (psAt l k).s.length c10,.slice a11 (psAt l k).x.length c11].getD i (.int .i64 0))) HR2.out ⟨Nat.le_refl _,hg⟩ 12 (by omega) (fun i hi=>by
     have hat:pastsD_f l (k*12+i)=(psAt l k).cell i:=pastsD_at l k (r:=i) hi
     match i,hi,hat with
     |0,_,hat=>rw [hat];exact OwnD.val _ _
     |1,_,hat=>rw [hat];exact OwnD.val _ _
     |2,_,hat=>rw [hat];exact OwnD.val _ _
     |3,_,hat=>rw [hat];exact OwnD.val _ _
     |4,_,hat=>rw [hat];exact OwnD.val _ _
     |5,_,hat=>rw [hat];exact OwnD.val _ _
     |6,_,hat=>rw [hat];exact OwnD.val _ _
     |7,_,hat=>rw [hat];exact O7.out
     |8,_,hat=>rw [hat];exact OwnD.val _ _
     |9,_,hat=>rw [hat];exact OwnD.val _ _
     |10,_,hat=>rw [hat];exact O10.out
     |11,_,hat=>rw [hat];exact O11.out
     |_+12,h,_=>exact absurd h (by omega)) (fun i _ b hb hb'=>by have:=hG i b hb;omega) (fun i j _ _ hij b hb hb'=>hGG i j hij b hb hb')
    rw [putN_12]at q
    have hT:=put12_turns w2 w.heap.size (k*12) (.int .i64 (psAt l k).e.t) (.int .i64 (psAt l k).e.s) (.int .i64 (psAt l k).e.q) (.int .i64 (psAt l k).e.d) (.int .i64 (psAt l k).e.k) (.int .i64 (psAt l k).e.v) (.int .i64 (psAt l k).e.g) (.slice a7 (psAt l k).b.r.length c7) (.int .i64 (psAt l k).b.q) (.int .i64 (psAt l k).b.d) (.slice a10 (psAt l k).s.length c10) (.slice a11 (psAt l k).x.length c11)
    have hsz:=hT.size
    refine⟨k+1,by omega,by go_num,(HB.out.trans (HB2.out.mono (by omega))).trans (hT.to_below (fun b e=>by omega) (by have:=HB2.out.size;omega)),?_⟩
    rw [show(k+1)*12=k*12+12 from by omega]
    refine q.mono (fun b hb=> ?_)
    have hs2:=HB2.out.size
    rcases hb with hb|⟨i,_,hb⟩
    ·exact⟨hb.1,Nat.lt_of_lt_of_le hb.2 (Nat.le_trans hs2 hsz)⟩
    ·have:=hG i b hb
     exact⟨by omega,Nat.lt_of_lt_of_le this.2 hsz⟩
   case measure=>simp [intOf];omega
  ·clear hB hB1 hR1 h
   go_wp2
   go_ret
   obtain rfl:k=l.length:=by omega
   exact⟨_,rfl,HB.out,HR.out.toAll rfl⟩
def PartF (F:Nat→Prop) (w:World) (y:Value) (p:Pa):Prop:=
 ∃(A1 A4 A5 A6:Nat→Prop) (u1 u4 u5 u6:Value),y= .agg #[.int .i64 p.n,u1,.int .i64 p.st.q,.int .i64 p.st.d,u4,u5,u6]∧OwnD w A1 u1 (intsD p.st.r)∧OwnD w A4 u4 (pastsD p.p)∧OwnD w A5 u5 (evsD p.t)∧OwnD w A6 u6 (intsD p.a)∧(∀k,A1 k→F k∧ ¬A4 k∧ ¬A5 k∧ ¬A6 k)∧(∀k,A4 k→F k∧ ¬A5 k∧ ¬A6 k)∧(∀k,A5 k→F k∧ ¬A6 k)∧(∀k,A6 k→F k)
set_option maxHeartbeats 8000000 in
theorem toPart_any (x:Value) (p:Pa) (w:World) (hw:p.wt≤1048576) (h:IsPart w x p):
  Calls Tryz.prog 106 #[x] w fun e w'=>∃y,e= .returned y∧Below w.heap.size w w'∧PartF (fun k=>w.heap.size≤k∧k<w'.heap.size) w' y p:=by
 obtain⟨u1,u4,u5,u6,rfl,h1,h4,h5,h6⟩:=h
 have HS:Hid (p.wt≤1048576):=hw
 have H1:Hid (IsD w u1 (intsD p.st.r)):=h1
 have H4:Hid (IsD w u4 (pastsD p.p)):=h4
 have H5:Hid (IsD w u5 (evsD p.t)):=h5
 have H6:Hid (IsD w u6 (intsD p.a)):=h6
 clear hw h1 h4 h5 h6
 obtain⟨V0,hV0⟩:∃V0,((w.alloc (.cells #[.int .i64 p.n,u1,.int .i64 p.st.q,.int .i64 p.st.d,u4,u5,u6] 144)).alloc (.cells #[.int .i64 0,.slice none 0 0,.int .i64 0,.int .i64 0,.slice none 0 0,.slice none 0 0,.slice none 0 0] 97)).alloc (.cells #[.int .i64 0,.slice none 0 0,.int .i64 0,.int .i64 0,.slice none 0 0,.slice none 0 0,.slice none 0 0] 97)=V0:=⟨_,rfl⟩
 have HX0:Hid (Below w.heap.size w V0):=by rw [←hV0];exact(((Below.refl _ w).alloc (Nat.le_refl _) _).alloc (by simp) _).alloc (by simp;omega) _
 have hs0:w.heap.size+3≤V0.heap.size:=by rw [←hV0];simp
 have HP0:Hid (Bk V0 w.heap.size 144 #[.int .i64 p.n,u1,.int .i64 p.st.q,.int .i64 p.st.d,u4,u5,u6]):=by rw [←hV0];exact((Bk.new w _ _).alloc _).alloc _
 have HR0:Hid (Bk V0 (w.heap.size+1) 97 #[.int .i64 0,.slice none 0 0,.int .i64 0,.int .i64 0,.slice none 0 0,.slice none 0 0,.slice none 0 0]):=by rw [←hV0];exact(Bk.newAt (by simp) _ _).alloc _
 have HQ0:Hid (Bk V0 (w.heap.size+1+1) 97 #[.int .i64 0,.slice none 0 0,.int .i64 0,.int .i64 0,.slice none 0 0,.slice none 0 0,.slice none 0 0]):=by rw [←hV0];exact Bk.newAt (by simp) _ _
 have HW0:Hid (((w.alloc (.cells #[.int .i64 p.n,u1,.int .i64 p.st.q,.int .i64 p.st.d,u4,u5,u6] 144)).alloc (.cells #[.int .i64 0,.slice none 0 0,.int .i64 0,.int .i64 0,.slice none 0 0,.slice none 0 0,.slice none 0 0] 97)).alloc (.cells #[.int .i64 0,.slice none 0 0,.int .i64 0,.int .i64 0,.slice none 0 0,.slice none 0 0,.slice none 0 0] 97)=V0):=hV0
 clear hV0
 go_enter Tryz.func106,Tryz.ntmps106
 have pp0:=HP0.out.cell (i:=0) rfl
 have qq0:=HQ0.out.cell (i:=0) rfl
 have qf0:=HQ0.out.free
 have hV0:=HW0.out
 obtain⟨V1,hV1⟩:∃V1,(V0.setCell ⟨(w.heap.size+1+1),0,none⟩ (.int .i64 p.n))=V1:=⟨_,rfl⟩
 have HY0:=HQ0.out
 obtain⟨Y1,hY1⟩:∃Y1,V0.setCell ⟨(w.heap.size+1+1),0,none⟩ (.int .i64 p.n)=Y1:=⟨_,rfl⟩
 have HY1:Bk Y1 (w.heap.size+1+1) 97 #[.int .i64 p.n,.slice none 0 0,.int .i64 0,.int .i64 0,.slice none 0 0,.slice none 0 0,.slice none 0 0]:=hY1▸HY0.put 0 _
 clear HY0
 have hYV:Y1=V1:=by rw [←hV1,hY1]
 have HQ1:Hid (Bk V1 (w.heap.size+1+1) 97 #[.int .i64 p.n,.slice none 0 0,.int .i64 0,.int .i64 0,.slice none 0 0,.slice none 0 0,.slice none 0 0]):=hYV▸HY1
 clear HY1 hYV hY1
 have HP1:Hid (Bk V1 w.heap.size 144 #[.int .i64 p.n,u1,.int .i64 p.st.q,.int .i64 p.st.d,u4,u5,u6]):=by rw [←hV1];exact(HP0.out.other 0 _ (by omega))
 have HR1:Hid (Bk V1 (w.heap.size+1) 97 #[.int .i64 0,.slice none 0 0,.int .i64 0,.int .i64 0,.slice none 0 0,.slice none 0 0,.slice none 0 0]):=by rw [←hV1];exact(HR0.out.other 0 _ (by omega))
 have HT1:Hid (Turns (fun k=>k=(w.heap.size+1+1)) V0 V1):=by rw [←hV1];exact put1_turns _ _ 0 _
 have hy1:V0.heap.size≤V1.heap.size:=HT1.out.size
 have HX1:Hid (Below w.heap.size w V1):=HX0.out.trans (HT1.out.to_below (fun k e=>by omega) (by omega))
 clear HP0 HR0 HQ0 HX0
 have p1:=HP1.out.cell (i:=1) rfl
 have p2:=HP1.out.cell (i:=2) rfl
 have p3:=HP1.out.cell (i:=3) rfl
 go_wp2_with fail
 clear pp0 qq0 qf0 hV0 hV1 p1 p2 p3
 refine(toState_any _ p.st _ (by have:=HS.out;unfold Pa.wt at this;simp only [evs_wt,ints_wt]at this;omega) ⟨_,rfl,(H1.out.under HX1.out).isI⟩).mono ?_
 rintro e w2 ⟨y1,rfl,hb,vr1,rfl,ho1⟩
 have HO1:Hid (OwnD w2 (fun k=>V1.heap.size≤k∧k<w2.heap.size) vr1 (intsD p.st.r)):=ho1.own
 obtain⟨_,a1,c1,rfl,_⟩:=ho1
 have hz1:V1.heap.size≤w2.heap.size:=hb.size
 have HXb1:Hid (Below w.heap.size w w2):=HX1.out.trans (hb.mono (by omega))
 have HPb1:Hid (Bk w2 w.heap.size 144 #[.int .i64 p.n,u1,.int .i64 p.st.q,.int .i64 p.st.d,u4,u5,u6]):=HP1.out.below hb
 have HRb1:Hid (Bk w2 (w.heap.size+1) 97 #[.int .i64 0,.slice none 0 0,.int .i64 0,.int .i64 0,.slice none 0 0,.slice none 0 0,.slice none 0 0]):=HR1.out.below hb
 have HQb1:Hid (Bk w2 (w.heap.size+1+1) 97 #[.int .i64 p.n,.slice none 0 0,.int .i64 0,.int .i64 0,.slice none 0 0,.slice none 0 0,.slice none 0 0]):=HQ1.out.below hb
 clear hb
 obtain⟨V2,hV2⟩:∃V2,(((w2.setCell ⟨(w.heap.size+1+1),1,none⟩ (.slice a1 p.st.r.length c1)).setCell ⟨(w.heap.size+1+1),2,none⟩ (.int .i64 p.st.q)).setCell ⟨(w.heap.size+1+1),3,none⟩ (.int .i64 p.st.d))=V2:=⟨_,rfl⟩
 have qq1:=HQb1.out.cell (i:=1) rfl
 have qq2:=HQb1.out.cell (i:=2) rfl
 have qq3:=HQb1.out.cell (i:=3) rfl
 have qf1:=HQb1.out.free
 have HY1:=HQb1.out
 obtain⟨Y2,hY2⟩:∃Y2,w2.setCell ⟨(w.heap.size+1+1),1,none⟩ (.slice a1 p.st.r.length c1)=Y2:=⟨_,rfl⟩
 have HY2:Bk Y2 (w.heap.size+1+1) 97 #[.int .i64 p.n,.slice a1 p.st.r.length c1,.int .i64 0,.int .i64 0,.slice none 0 0,.slice none 0 0,.slice none 0 0]:=hY2▸HY1.put 1 _
 clear HY1
 obtain⟨Y3,hY3⟩:∃Y3,Y2.setCell ⟨(w.heap.size+1+1),2,none⟩ (.int .i64 p.st.q)=Y3:=⟨_,rfl⟩
 have HY3:Bk Y3 (w.heap.size+1+1) 97 #[.int .i64 p.n,.slice a1 p.st.r.length c1,.int .i64 p.st.q,.int .i64 0,.slice none 0 0,.slice none 0 0,.slice none 0 0]:=hY3▸HY2.put 2 _
 clear HY2
 obtain⟨Y4,hY4⟩:∃Y4,Y3.setCell ⟨(w.heap.size+1+1),3,none⟩ (.int .i64 p.st.d)=Y4:=⟨_,rfl⟩
 have HY4:Bk Y4 (w.heap.size+1+1) 97 #[.int .i64 p.n,.slice a1 p.st.r.length c1,.int .i64 p.st.q,.int .i64 p.st.d,.slice none 0 0,.slice none 0 0,.slice none 0 0]:=hY4▸HY3.put 3 _
 clear HY3
 have hYV:Y4=V2:=by rw [←hV2,hY2,hY3,hY4]
 have HQ2:Hid (Bk V2 (w.heap.size+1+1) 97 #[.int .i64 p.n,.slice a1 p.st.r.length c1,.int .i64 p.st.q,.int .i64 p.st.d,.slice none 0 0,.slice none 0 0,.slice none 0 0]):=hYV▸HY4
 clear HY4 hYV hY4 hY3 hY2
 have HP2:Hid (Bk V2 w.heap.size 144 #[.int .i64 p.n,u1,.int .i64 p.st.q,.int .i64 p.st.d,u4,u5,u6]):=by rw [←hV2];exact(((HPb1.out.other 1 _ (by omega)).other 2 _ (by omega)).other 3 _ (by omega))
 have HR2:Hid (Bk V2 (w.heap.size+1) 97 #[.int .i64 0,.slice none 0 0,.int .i64 0,.int .i64 0,.slice none 0 0,.slice none 0 0,.slice none 0 0]):=by rw [←hV2];exact(((HRb1.out.other 1 _ (by omega)).other 2 _ (by omega)).other 3 _ (by omega))
 have HT2:Hid (Turns (fun k=>k=(w.heap.size+1+1)) w2 V2):=by rw [←hV2];exact((put1_turns _ _ 1 _).trans (put1_turns _ _ 2 _)).trans (put1_turns _ _ 3 _)
 have hy2:w2.heap.size≤V2.heap.size:=HT2.out.size
 have HX2:Hid (Below w.heap.size w V2):=HXb1.out.trans (HT2.out.to_below (fun k e=>by omega) (by omega))
 have HO1':Hid (OwnD V2 (fun k=>V1.heap.size≤k∧k<w2.heap.size) (.slice a1 p.st.r.length c1) (intsD p.st.r)):=HO1.out.turns HT2.out (fun k e=>by omega)
 clear HO1
 have HO1:=HO1'
 clear HO1'
 clear HPb1 HRb1 HQb1 HXb1 HP1 HR1 HQ1 HX1
 have p4:=HP2.out.cell (i:=4) rfl
 go_wp2_with fail
 clear qq1 qq2 qq3 qf1 hV2 p4
 refine(to_pasts _ p.p _ (by have:=HS.out;unfold Pa.wt at this;simp only [evs_wt,ints_wt]at this;omega) (H4.out.under HX2.out)).mono ?_
 rintro e w3 ⟨y4,rfl,hb,ho4⟩
 have HO4:Hid (OwnD w3 (fun k=>V2.heap.size≤k∧k<w3.heap.size) y4 (pastsD p.p)):=ho4
 obtain⟨a4,c4,rfl,_⟩:=OwnD.parts (c:=12) (n:=p.p.length) ho4
 clear ho4
 have hz2:V2.heap.size≤w3.heap.size:=hb.size
 have HXb2:Hid (Below w.heap.size w w3):=HX2.out.trans (hb.mono (by omega))
 have HPb2:Hid (Bk w3 w.heap.size 144 #[.int .i64 p.n,u1,.int .i64 p.st.q,.int .i64 p.st.d,u4,u5,u6]):=HP2.out.below hb
 have HRb2:Hid (Bk w3 (w.heap.size+1) 97 #[.int .i64 0,.slice none 0 0,.int .i64 0,.int .i64 0,.slice none 0 0,.slice none 0 0,.slice none 0 0]):=HR2.out.below hb
 have HQb2:Hid (Bk w3 (w.heap.size+1+1) 97 #[.int .i64 p.n,.slice a1 p.st.r.length c1,.int .i64 p.st.q,.int .i64 p.st.d,.slice none 0 0,.slice none 0 0,.slice none 0 0]):=HQ2.out.below hb
 have HO1':Hid (OwnD w3 (fun k=>V1.heap.size≤k∧k<w2.heap.size) (.slice a1 p.st.r.length c1) (intsD p.st.r)):=HO1.out.under hb
 clear HO1
 have HO1:=HO1'
 clear HO1'
 clear hb
 obtain⟨V3,hV3⟩:∃V3,(w3.setCell ⟨(w.heap.size+1+1),4,none⟩ (.slice a4 p.p.length c4))=V3:=⟨_,rfl⟩
 have qq4:=HQb2.out.cell (i:=4) rfl
 have qf2:=HQb2.out.free
 have HY4:=HQb2.out
 obtain⟨Y5,hY5⟩:∃Y5,w3.setCell ⟨(w.heap.size+1+1),4,none⟩ (.slice a4 p.p.length c4)=Y5:=⟨_,rfl⟩
 have HY5:Bk Y5 (w.heap.size+1+1) 97 #[.int .i64 p.n,.slice a1 p.st.r.length c1,.int .i64 p.st.q,.int .i64 p.st.d,.slice a4 p.p.length c4,.slice none 0 0,.slice none 0 0]:=hY5▸HY4.put 4 _
 clear HY4
 have hYV:Y5=V3:=by rw [←hV3,hY5]
 have HQ3:Hid (Bk V3 (w.heap.size+1+1) 97 #[.int .i64 p.n,.slice a1 p.st.r.length c1,.int .i64 p.st.q,.int .i64 p.st.d,.slice a4 p.p.length c4,.slice none 0 0,.slice none 0 0]):=hYV▸HY5
 clear HY5 hYV hY5
 have HP3:Hid (Bk V3 w.heap.size 144 #[.int .i64 p.n,u1,.int .i64 p.st.q,.int .i64 p.st.d,u4,u5,u6]):=by rw [←hV3];exact(HPb2.out.other 4 _ (by omega))
 have HR3:Hid (Bk V3 (w.heap.size+1) 97 #[.int .i64 0,.slice none 0 0,.int .i64 0,.int .i64 0,.slice none 0 0,.slice none 0 0,.slice none 0 0]):=by rw [←hV3];exact(HRb2.out.other 4 _ (by omega))
 have HT3:Hid (Turns (fun k=>k=(w.heap.size+1+1)) w3 V3):=by rw [←hV3];exact put1_turns _ _ 4 _
 have hy3:w3.heap.size≤V3.heap.size:=HT3.out.size
 have HX3:Hid (Below w.heap.size w V3):=HXb2.out.trans (HT3.out.to_below (fun k e=>by omega) (by omega))
 have HO1':Hid (OwnD V3 (fun k=>V1.heap.size≤k∧k<w2.heap.size) (.slice a1 p.st.r.length c1) (intsD p.st.r)):=HO1.out.turns HT3.out (fun k e=>by omega)
 clear HO1
 have HO1:=HO1'
 clear HO1'
 have HO4':Hid (OwnD V3 (fun k=>V2.heap.size≤k∧k<w3.heap.size) (.slice a4 p.p.length c4) (pastsD p.p)):=HO4.out.turns HT3.out (fun k e=>by omega)
 clear HO4
 have HO4:=HO4'
 clear HO4'
 clear HPb2 HRb2 HQb2 HXb2 HP2 HR2 HQ2 HX2
 have p5:=HP3.out.cell (i:=5) rfl
 go_wp2_with fail
 clear qq4 qf2 hV3 p5
 refine(to_evs _ p.t _ (by have:=HS.out;unfold Pa.wt at this;simp only [evs_wt,ints_wt]at this;omega) (H5.out.under HX3.out)).mono ?_
 rintro e w4 ⟨y5,rfl,hb,ho5⟩
 have HO5:Hid (OwnD w4 (fun k=>V3.heap.size≤k∧k<w4.heap.size) y5 (evsD p.t)):=ho5
 obtain⟨a5,c5,rfl,_⟩:=OwnD.parts (c:=7) (n:=p.t.length) ho5
 clear ho5
 have hz3:V3.heap.size≤w4.heap.size:=hb.size
 have HXb3:Hid (Below w.heap.size w w4):=HX3.out.trans (hb.mono (by omega))
 have HPb3:Hid (Bk w4 w.heap.size 144 #[.int .i64 p.n,u1,.int .i64 p.st.q,.int .i64 p.st.d,u4,u5,u6]):=HP3.out.below hb
 have HRb3:Hid (Bk w4 (w.heap.size+1) 97 #[.int .i64 0,.slice none 0 0,.int .i64 0,.int .i64 0,.slice none 0 0,.slice none 0 0,.slice none 0 0]):=HR3.out.below hb
 have HQb3:Hid (Bk w4 (w.heap.size+1+1) 97 #[.int .i64 p.n,.slice a1 p.st.r.length c1,.int .i64 p.st.q,.int .i64 p.st.d,.slice a4 p.p.length c4,.slice none 0 0,.slice none 0 0]):=HQ3.out.below hb
 have HO1':Hid (OwnD w4 (fun k=>V1.heap.size≤k∧k<w2.heap.size) (.slice a1 p.st.r.length c1) (intsD p.st.r)):=HO1.out.under hb
 clear HO1
 have HO1:=HO1'
 clear HO1'
 have HO4':Hid (OwnD w4 (fun k=>V2.heap.size≤k∧k<w3.heap.size) (.slice a4 p.p.length c4) (pastsD p.p)):=HO4.out.under hb
 clear HO4
 have HO4:=HO4'
 clear HO4'
 clear hb
 obtain⟨V4,hV4⟩:∃V4,(w4.setCell ⟨(w.heap.size+1+1),5,none⟩ (.slice a5 p.t.length c5))=V4:=⟨_,rfl⟩
 have qq5:=HQb3.out.cell (i:=5) rfl
 have qf3:=HQb3.out.free
 have HY5:=HQb3.out
 obtain⟨Y6,hY6⟩:∃Y6,w4.setCell ⟨(w.heap.size+1+1),5,none⟩ (.slice a5 p.t.length c5)=Y6:=⟨_,rfl⟩
 have HY6:Bk Y6 (w.heap.size+1+1) 97 #[.int .i64 p.n,.slice a1 p.st.r.length c1,.int .i64 p.st.q,.int .i64 p.st.d,.slice a4 p.p.length c4,.slice a5 p.t.length c5,.slice none 0 0]:=hY6▸HY5.put 5 _
 clear HY5
 have hYV:Y6=V4:=by rw [←hV4,hY6]
 have HQ4:Hid (Bk V4 (w.heap.size+1+1) 97 #[.int .i64 p.n,.slice a1 p.st.r.length c1,.int .i64 p.st.q,.int .i64 p.st.d,.slice a4 p.p.length c4,.slice a5 p.t.length c5,.slice none 0 0]):=hYV▸HY6
 clear HY6 hYV hY6
 have HP4:Hid (Bk V4 w.heap.size 144 #[.int .i64 p.n,u1,.int .i64 p.st.q,.int .i64 p.st.d,u4,u5,u6]):=by rw [←hV4];exact(HPb3.out.other 5 _ (by omega))
 have HR4:Hid (Bk V4 (w.heap.size+1) 97 #[.int .i64 0,.slice none 0 0,.int .i64 0,.int .i64 0,.slice none 0 0,.slice none 0 0,.slice none 0 0]):=by rw [←hV4];exact(HRb3.out.other 5 _ (by omega))
 have HT4:Hid (Turns (fun k=>k=(w.heap.size+1+1)) w4 V4):=by rw [←hV4];exact put1_turns _ _ 5 _
 have hy4:w4.heap.size≤V4.heap.size:=HT4.out.size
 have HX4:Hid (Below w.heap.size w V4):=HXb3.out.trans (HT4.out.to_below (fun k e=>by omega) (by omega))
 have HO1':Hid (OwnD V4 (fun k=>V1.heap.size≤k∧k<w2.heap.size) (.slice a1 p.st.r.length c1) (intsD p.st.r)):=HO1.out.turns HT4.out (fun k e=>by omega)
 clear HO1
 have HO1:=HO1'
 clear HO1'
 have HO4':Hid (OwnD V4 (fun k=>V2.heap.size≤k∧k<w3.heap.size) (.slice a4 p.p.length c4) (pastsD p.p)):=HO4.out.turns HT4.out (fun k e=>by omega)
 clear HO4
 have HO4:=HO4'
 clear HO4'
 have HO5':Hid (OwnD V4 (fun k=>V3.heap.size≤k∧k<w4.heap.size) (.slice a5 p.t.length c5) (evsD p.t)):=HO5.out.turns HT4.out (fun k e=>by omega)
 clear HO5
 have HO5:=HO5'
 clear HO5'
 clear HPb3 HRb3 HQb3 HXb3 HP3 HR3 HQ3 HX3
 have p6:=HP4.out.cell (i:=6) rfl
 go_wp2_with fail
 clear qq5 qf3 hV4 p6
 refine(to_ints _ p.a _ (by have:=HS.out;unfold Pa.wt at this;simp only [evs_wt,ints_wt]at this;omega) (H6.out.under HX4.out)).mono ?_
 rintro e w5 ⟨y6,rfl,hb,ho6⟩
 have HO6:Hid (OwnD w5 (fun k=>V4.heap.size≤k∧k<w5.heap.size) y6 (intsD p.a)):=ho6
 obtain⟨a6,c6,rfl,_⟩:=OwnD.parts (c:=1) (n:=p.a.length) ho6
 clear ho6
 have hz4:V4.heap.size≤w5.heap.size:=hb.size
 have HXb4:Hid (Below w.heap.size w w5):=HX4.out.trans (hb.mono (by omega))
 have HPb4:Hid (Bk w5 w.heap.size 144 #[.int .i64 p.n,u1,.int .i64 p.st.q,.int .i64 p.st.d,u4,u5,u6]):=HP4.out.below hb
 have HRb4:Hid (Bk w5 (w.heap.size+1) 97 #[.int .i64 0,.slice none 0 0,.int .i64 0,.int .i64 0,.slice none 0 0,.slice none 0 0,.slice none 0 0]):=HR4.out.below hb
 have HQb4:Hid (Bk w5 (w.heap.size+1+1) 97 #[.int .i64 p.n,.slice a1 p.st.r.length c1,.int .i64 p.st.q,.int .i64 p.st.d,.slice a4 p.p.length c4,.slice a5 p.t.length c5,.slice none 0 0]):=HQ4.out.below hb
 have HO1':Hid (OwnD w5 (fun k=>V1.heap.size≤k∧k<w2.heap.size) (.slice a1 p.st.r.length c1) (intsD p.st.r)):=HO1.out.under hb
 clear HO1
 have HO1:=HO1'
 clear HO1'
 have HO4':Hid (OwnD w5 (fun k=>V2.heap.size≤k∧k<w3.heap.size) (.slice a4 p.p.length c4) (pastsD p.p)):=HO4.out.under hb
 clear HO4
 have HO4:=HO4'
 clear HO4'
 have HO5':Hid (OwnD w5 (fun k=>V3.heap.size≤k∧k<w4.heap.size) (.slice a5 p.t.length c5) (evsD p.t)):=HO5.out.under hb
 clear HO5
 have HO5:=HO5'
 clear HO5'
 clear hb
 obtain⟨V5,hV5⟩:∃V5,(w5.setCell ⟨(w.heap.size+1+1),6,none⟩ (.slice a6 p.a.length c6))=V5:=⟨_,rfl⟩
 have qq6:=HQb4.out.cell (i:=6) rfl
 have qf4:=HQb4.out.free
 have HY6:=HQb4.out
 obtain⟨Y7,hY7⟩:∃Y7,w5.setCell ⟨(w.heap.size+1+1),6,none⟩ (.slice a6 p.a.length c6)=Y7:=⟨_,rfl⟩
 have HY7:Bk Y7 (w.heap.size+1+1) 97 #[.int .i64 p.n,.slice a1 p.st.r.length c1,.int .i64 p.st.q,.int .i64 p.st.d,.slice a4 p.p.length c4,.slice a5 p.t.length c5,.slice a6 p.a.length c6]:=hY7▸HY6.put 6 _
 clear HY6
 have hYV:Y7=V5:=by rw [←hV5,hY7]
 have HQ5:Hid (Bk V5 (w.heap.size+1+1) 97 #[.int .i64 p.n,.slice a1 p.st.r.length c1,.int .i64 p.st.q,.int .i64 p.st.d,.slice a4 p.p.length c4,.slice a5 p.t.length c5,.slice a6 p.a.length c6]):=hYV▸HY7
 clear HY7 hYV hY7
 have HP5:Hid (Bk V5 w.heap.size 144 #[.int .i64 p.n,u1,.int .i64 p.st.q,.int .i64 p.st.d,u4,u5,u6]):=by rw [←hV5];exact(HPb4.out.other 6 _ (by omega))
 have HR5:Hid (Bk V5 (w.heap.size+1) 97 #[.int .i64 0,.slice none 0 0,.int .i64 0,.int .i64 0,.slice none 0 0,.slice none 0 0,.slice none 0 0]):=by rw [←hV5];exact(HRb4.out.other 6 _ (by omega))
 have HT5:Hid (Turns (fun k=>k=(w.heap.size+1+1)) w5 V5):=by rw [←hV5];exact put1_turns _ _ 6 _
 have hy5:w5.heap.size≤V5.heap.size:=HT5.out.size
 have HX5:Hid (Below w.heap.size w V5):=HXb4.out.trans (HT5.out.to_below (fun k e=>by omega) (by omega))
 have HO1':Hid (OwnD V5 (fun k=>V1.heap.size≤k∧k<w2.heap.size) (.slice a1 p.st.r.length c1) (intsD p.st.r)):=HO1.out.turns HT5.out (fun k e=>by omega)
 clear HO1
 have HO1:=HO1'
 clear HO1'
 have HO4':Hid (OwnD V5 (fun k=>V2.heap.size≤k∧k<w3.heap.size) (.slice a4 p.p.length c4) (pastsD p.p)):=HO4.out.turns HT5.out (fun k e=>by omega)
 clear HO4
 have HO4:=HO4'
 clear HO4'
 have HO5':Hid (OwnD V5 (fun k=>V3.heap.size≤k∧k<w4.heap.size) (.slice a5 p.t.length c5) (evsD p.t)):=HO5.out.turns HT5.out (fun k e=>by omega)
 clear HO5
 have HO5:=HO5'
 clear HO5'
 have HO6':Hid (OwnD V5 (fun k=>V4.heap.size≤k∧k<w5.heap.size) (.slice a6 p.a.length c6) (intsD p.a)):=HO6.out.turns HT5.out (fun k e=>by omega)
 clear HO6
 have HO6:=HO6'
 clear HO6'
 clear HPb4 HRb4 HQb4 HXb4 HP4 HR4 HQ4 HX4
 have oo0:=HQ5.out.cell (i:=0) rfl
 have rr0:=HR5.out.cell (i:=0) rfl
 have oo1:=HQ5.out.cell (i:=1) rfl
 have rr1:=HR5.out.cell (i:=1) rfl
 have oo2:=HQ5.out.cell (i:=2) rfl
 have rr2:=HR5.out.cell (i:=2) rfl
 have oo3:=HQ5.out.cell (i:=3) rfl
 have rr3:=HR5.out.cell (i:=3) rfl
 have oo4:=HQ5.out.cell (i:=4) rfl
 have rr4:=HR5.out.cell (i:=4) rfl
 have oo5:=HQ5.out.cell (i:=5) rfl
 have rr5:=HR5.out.cell (i:=5) rfl
 have oo6:=HQ5.out.cell (i:=6) rfl
 have rr6:=HR5.out.cell (i:=6) rfl
 have rf:=HR5.out.free
 go_wp2
 clear rf oo0 rr0 oo1 rr1 oo2 rr2 oo3 rr3 oo4 rr4 oo5 rr5 oo6 rr6 qq6 qf4 hV5
 have HY0:=HR5.out
 have HU0:Turns (fun k=>k=(w.heap.size+1)) V5 V5:=Turns.refl _ _
 obtain⟨Y1,hY1⟩:∃Y1,V5.setCell ⟨(w.heap.size+1),0,none⟩ (.int .i64 p.n)=Y1:=⟨_,rfl⟩
 have HY1:Bk Y1 (w.heap.size+1) 97 #[.int .i64 p.n,.slice none 0 0,.int .i64 0,.int .i64 0,.slice none 0 0,.slice none 0 0,.slice none 0 0]:=hY1▸HY0.put 0 _
 have HU1:Turns (fun k=>k=(w.heap.size+1)) V5 Y1:=HU0.trans (hY1▸put1_turns _ _ 0 _)
 clear HY0 HU0
 obtain⟨Y2,hY2⟩:∃Y2,Y1.setCell ⟨(w.heap.size+1),1,none⟩ (.slice a1 p.st.r.length c1)=Y2:=⟨_,rfl⟩
 have HY2:Bk Y2 (w.heap.size+1) 97 #[.int .i64 p.n,.slice a1 p.st.r.length c1,.int .i64 0,.int .i64 0,.slice none 0 0,.slice none 0 0,.slice none 0 0]:=hY2▸HY1.put 1 _
 have HU2:Turns (fun k=>k=(w.heap.size+1)) V5 Y2:=HU1.trans (hY2▸put1_turns _ _ 1 _)
 clear HY1 HU1
 obtain⟨Y3,hY3⟩:∃Y3,Y2.setCell ⟨(w.heap.size+1),2,none⟩ (.int .i64 p.st.q)=Y3:=⟨_,rfl⟩
 have HY3:Bk Y3 (w.heap.size+1) 97 #[.int .i64 p.n,.slice a1 p.st.r.length c1,.int .i64 p.st.q,.int .i64 0,.slice none 0 0,.slice none 0 0,.slice none 0 0]:=hY3▸HY2.put 2 _
 have HU3:Turns (fun k=>k=(w.heap.size+1)) V5 Y3:=HU2.trans (hY3▸put1_turns _ _ 2 _)
 clear HY2 HU2
 obtain⟨Y4,hY4⟩:∃Y4,Y3.setCell ⟨(w.heap.size+1),3,none⟩ (.int .i64 p.st.d)=Y4:=⟨_,rfl⟩
 have HY4:Bk Y4 (w.heap.size+1) 97 #[.int .i64 p.n,.slice a1 p.st.r.length c1,.int .i64 p.st.q,.int .i64 p.st.d,.slice none 0 0,.slice none 0 0,.slice none 0 0]:=hY4▸HY3.put 3 _
 have HU4:Turns (fun k=>k=(w.heap.size+1)) V5 Y4:=HU3.trans (hY4▸put1_turns _ _ 3 _)
 clear HY3 HU3
 obtain⟨Y5,hY5⟩:∃Y5,Y4.setCell ⟨(w.heap.size+1),4,none⟩ (.slice a4 p.p.length c4)=Y5:=⟨_,rfl⟩
 have HY5:Bk Y5 (w.heap.size+1) 97 #[.int .i64 p.n,.slice a1 p.st.r.length c1,.int .i64 p.st.q,.int .i64 p.st.d,.slice a4 p.p.length c4,.slice none 0 0,.slice none 0 0]:=hY5▸HY4.put 4 _
 have HU5:Turns (fun k=>k=(w.heap.size+1)) V5 Y5:=HU4.trans (hY5▸put1_turns _ _ 4 _)
 clear HY4 HU4
 obtain⟨Y6,hY6⟩:∃Y6,Y5.setCell ⟨(w.heap.size+1),5,none⟩ (.slice a5 p.t.length c5)=Y6:=⟨_,rfl⟩
 have HY6:Bk Y6 (w.heap.size+1) 97 #[.int .i64 p.n,.slice a1 p.st.r.length c1,.int .i64 p.st.q,.int .i64 p.st.d,.slice a4 p.p.length c4,.slice a5 p.t.length c5,.slice none 0 0]:=hY6▸HY5.put 5 _
 have HU6:Turns (fun k=>k=(w.heap.size+1)) V5 Y6:=HU5.trans (hY6▸put1_turns _ _ 5 _)
 clear HY5 HU5
 obtain⟨Y7,hY7⟩:∃Y7,Y6.setCell ⟨(w.heap.size+1),6,none⟩ (.slice a6 p.a.length c6)=Y7:=⟨_,rfl⟩
 have HY7:Bk Y7 (w.heap.size+1) 97 #[.int .i64 p.n,.slice a1 p.st.r.length c1,.int .i64 p.st.q,.int .i64 p.st.d,.slice a4 p.p.length c4,.slice a5 p.t.length c5,.slice a6 p.a.length c6]:=hY7▸HY6.put 6 _
 have HU7:Turns (fun k=>k=(w.heap.size+1)) V5 Y7:=HU6.trans (hY7▸put1_turns _ _ 6 _)
 clear HY6 HU6
 rw [hY1,hY2,hY3,hY4,hY5,hY6,hY7]
 have hR:=HY7
 have hT:=HU7
 have t0:=hR.cell (i:=0) rfl
 have t1:=hR.cell (i:=1) rfl
 have t2:=hR.cell (i:=2) rfl
 have t3:=hR.cell (i:=3) rfl
 have t4:=hR.cell (i:=4) rfl
 have t5:=hR.cell (i:=5) rfl
 have t6:=hR.cell (i:=6) rfl
 have hsz:=hT.size
 refine bodyPost_ret (v:= .agg #[.int .i64 p.n,.slice a1 p.st.r.length c1,.int .i64 p.st.q,.int .i64 p.st.d,.slice a4 p.p.length c4,.slice a5 p.t.length c5,.slice a6 p.a.length c6]) (by simp [results,Tryz.results106,go_sem,t0,t1,t2,t3,t4,t5,t6]) rfl
  ⟨_,rfl,HX5.out.trans (hT.to_below (fun k e=>by omega) (by omega)),_,_,_,_,_,_,_,_,rfl,HO1.out.turns hT (fun k e=>by omega),HO4.out.turns hT (fun k e=>by omega),HO5.out.turns hT (fun k e=>by omega),HO6.out.turns hT (fun k e=>by omega),fun k e=>⟨⟨by omega,by omega⟩,by omega,by omega,by omega⟩,fun k e=>⟨⟨by omega,by omega⟩,by omega,by omega⟩,fun k e=>⟨⟨by omega,by omega⟩,by omega⟩,fun k e=>⟨by omega,by omega⟩⟩
def sumC (f:Nat→Dat) (j:Nat):Nat:=sumL (fun i=>(f i).cnt) j
def mkD (f:Nat→Dat) (z:Int) (m:Nat):Nat→Dat:=fun j=>if j<m then(f j).mark (z+(sumC f j:Int))else f j
theorem upd_mkD (f:Nat→Dat) (z:Int) (m:Nat):upd (mkD f z m) m ((f m).mark (z+(sumC f m:Int)))=mkD f z (m+1):=by
 funext j
 simp only [upd,mkD]
 by_cases e:j=m
 ·subst e;rw [if_pos rfl,if_pos (by omega)]
 ·rw [if_neg e]
  by_cases e2:j<m
  ·rw [if_pos e2,if_pos (by omega)]
  ·rw [if_neg e2,if_neg (by omega)]
theorem OwnD.mk0 {F:Nat→Prop} {w:World} {x:Value} {c n:Nat} {f:Nat→Dat} (z:Int) (h:OwnD w F x (.row c n f)):OwnD w F x (.row c n (mkD f z (0*c))):=
 h.congr (fun j _=>by simp [mkD])
theorem OwnD.mkAll {F:Nat→Prop} {w:World} {x:Value} {c n:Nat} {f:Nat→Dat} {z:Int} (h:OwnD w F x (.row c n (mkD f z (n*c)))):OwnD w F x ((Dat.row c n f).mark z):=
 OwnD.congr (f':=fun j=>(f j).mark (z+(sumL (fun i=>(f i).cnt) j:Int))) h (fun j hj=>by simp only [mkD];rw [if_pos hj];rfl)
theorem OwnD.mk_val {F:Nat→Prop} {w:World} {g n cap c m:Nat} {f:Nat→Dat} {z:Int} (h:OwnD w F (.slice (some ⟨g,0,none⟩) n cap) (.row c n (mkD f z m))) (hm:m<n*c) {u v:Value} (hv:f m= .val v) (hu:u=mark1 v (z+(sumC f m:Int))):
  OwnD (w.setCell ⟨g,m,none⟩ u) F (.slice (some ⟨g,0,none⟩) n cap) (.row c n (mkD f z (m+1))):=by
 have:=h.put_val hm u
 rw [←upd_mkD,hv]
 rw [hu]at this⊢
 exact this
theorem OwnD.mk_row {F:Nat→Prop} {w:World} {g n cap c m:Nat} {f:Nat→Dat} {z:Int} (h:OwnD w F (.slice (some ⟨g,0,none⟩) n cap) (.row c n (mkD f z m))) (hm:m<n*c):
  ∃u K,w.cell? ⟨g,m,none⟩=some u∧OwnD w K u (f m)∧(∀k,K k→F k)∧ ∀w',OwnD w' K u ((f m).mark (z+(sumC f m:Int)))→Turns K w w'→OwnD w' F (.slice (some ⟨g,0,none⟩) n cap) (.row c n (mkD f z (m+1))):=by
 obtain⟨u,K,h1,_,h3,h4,h5⟩:=h.step hm
 refine⟨u,K,h1,?_,fun k hk=>(h4 k hk).1,fun w' hw ht=> ?_⟩
 ·have e:mkD f z m m=f m:=by simp [mkD]
  rw [e]at h3;exact h3
 ·have:=h5 w' _ hw ht
  rw [upd_mkD]at this;exact this
theorem sumC_le {c n:Nat} {f:Nat→Dat} {j:Nat} (h:j≤n*c):sumC f j≤(Dat.row c n f).cnt:=sumL_mono _ h
theorem sumC_succ (f:Nat→Dat) (j:Nat):sumC f (j+1)=sumC f j+(f j).cnt:=rfl
end Go.Proofs.YtmobiieoecjmdaaGreat

