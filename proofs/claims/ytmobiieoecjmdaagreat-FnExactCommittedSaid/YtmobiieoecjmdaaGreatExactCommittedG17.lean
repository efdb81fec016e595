/- PIg, PIp, POb, PTb -/
import Derived.Test.YtmobiieoecjmdaaGreatExactCommittedG16
import Derived.Deep.RegionHeld3
import Derived.Test.YtmobiieoecjmdaaGreatExactCommittedG12
import Derived.Test.YtmobiieoecjmdaaGreatExactCommittedLPSo
import Derived.Test.YtmobiieoecjmdaaGreatExactCommittedG10
/- The program's doings. -/
namespace Go.Proofs.YtmobiieoecjmdaaGreat
open Go.RowKit
theorem run_append_zero {P:Program} {w:World} (base:Nat) (t ty e:TypeId) (i:TypeInfo) (size:Nat) (ht:P.underlying t=some (.slice e)) (hi:P.info? e=some i)
  (v:Value) (n c:Nat) (xs:List Value) (hown:w.ownsRow base e size v n xs):
  (Builtin.append_ #[t,t] ty #[v,.slice none 0 c]).run P w= .ok v w:=by
 rcases hown.2 with ⟨rfl,rfl⟩|⟨g,cap,cur,rfl,_,_,hnc,_⟩
 ·simp [Builtin.append_,run_underlying ht,sizeOf,typeInfo,hi,Builtin.lenOf,Builtin.firstCells]
 ·simp [Builtin.append_,run_underlying ht,sizeOf,typeInfo,hi,Builtin.lenOf,Builtin.firstCells,hnc,storeCells]
theorem step_append_zero {P:Program} {ops:Array Oper} {o:Oper} {a:Act} {w:World} {K:Act→World→Prop} {Q:Exit→Act→World→Prop} {E:Prop}
  (hg:o.guard=none) (s x:Operand) (t:TypeId) (hop:o.op=Op.call {callee:=Callee.builtin Builtin.append,args:= #[s,x],argTypes:= #[t,t]})
  (base:Nat) (e:TypeId) (i:TypeInfo) (size:Nat) (h1:P.underlying t=some (.slice e)) (h2:P.info? e=some i)
  (v:Value) (n c:Nat) (xs:List Value) (hs:a.eval s=v) (hown:w.ownsRow base e size v n xs) (hx:a.eval x= .slice none 0 c)
  (hK:K (a.put o.dst v) w):
  if Region.wanted o (yielded ops a.tmps)=true then Oper.wp P o a w K Q else E:=by
 have hw:Region.wanted o (yielded ops a.tmps)=true:=by simp [Region.wanted,hg]
 rw [if_pos hw]
 have hrun:=run_append_zero (P:=P) (w:=w) base t o.type e i size h1 h2 v n c xs hown
 unfold Oper.wp
 simp [execOp,hop,resolve,invoke,builtin,hs,hx,hrun,Result.andThen]
 exact hK
theorem off_grown {w w':World} {P:Nat} {T:TypeId} {vs:Array Value} {row:Option Nat} (h:Bk w P T vs) (hg:w.grownBy w' row) (hne:row=some P→False):Bk w' P T vs:=
 (hg.block P h.lt (fun e=>hne e.symm)).trans h
set_option maxRecDepth 100000 in
set_option maxHeartbeats 8000000 in
theorem iDoings (x:Value) (p:Pa) (w:World) (hw:p.wt≤1048576) (h:IsPart w x p):
  Calls Tryz.prog 162 #[x] w fun e w'=>∃y,e= .returned y∧OwnR w.heap.size w' y p.all∧Below w.heap.size w w':=by
 have HI:Hid (IsPart w x p):=h
 obtain⟨v1,v4,v5,v6,rfl,h1,h4,h5,h6⟩:=h
 have hwt:=hw
 unfold Pa.wt at hwt
 simp only [ints_wt,evs_wt]at hwt
 have hel:p.es.length≤1048576:=by rw [es_length];have:=pastsD_wt p.p;omega
 have htl:p.t.length≤1048576:=by omega
 obtain⟨ta,tc,rfl,_,_,h5⟩:=h5.isEvs
 clear h1 h4 h6 hwt
 obtain⟨i0,hi,hz0,hz1,hz2⟩:=info_parts info25
 cases ta with
 |none=>
  have ht0:p.t= []:=h5.resolve_right (by rintro ⟨b,off,e,_⟩;cases e)
  have HT0:Hid (p.t= []):=ht0
  have HI':Hid (IsPart w (.agg #[.int .i64 p.n,v1,.int .i64 p.st.q,.int .i64 p.st.d,v4,.slice none 0 tc,v6]) p):=by
   have h9:=HI.out
   rw [ht0]at h9
   exact h9
  clear HI
  have HI:=HI'
  rw [ht0]
  clear ht0 h5 HI'
  show Calls Tryz.prog 162 #[.agg #[.int .i64 p.n,v1,.int .i64 p.st.q,.int .i64 p.st.d,v4,.slice none 0 tc,v6]] w _
  obtain⟨W0,hW0⟩:∃W0,w.alloc (.cells #[.int .i64 p.n,v1,.int .i64 p.st.q,.int .i64 p.st.d,v4,.slice none 0 tc,v6] 97)=W0:=⟨_,rfl⟩
  have HB0:Hid (Below w.heap.size w W0):=by rw [←hW0];exact(Below.refl _ w).alloc (Nat.le_refl _) _
  have HP0:Hid (Bk W0 w.heap.size 97 #[.int .i64 p.n,v1,.int .i64 p.st.q,.int .i64 p.st.d,v4,.slice none 0 tc,v6]):=by rw [←hW0];exact Bk.new w _ _
  have hs0:w.heap.size<W0.heap.size:=HP0.out.lt
  have hs0d:w.heap.size≤W0.drew.heap.size:=Nat.le_of_lt hs0
  have HI0:Hid (IsPart W0.drew (.agg #[.int .i64 p.n,v1,.int .i64 p.st.q,.int .i64 p.st.d,v4,.slice none 0 tc,v6]) p):=HI.out.under HB0.out.drew
  have HS0:Hid (W0.drew.cell? ⟨w.heap.size,0,none⟩=some (.int .i64 p.n)∧W0.drew.cell? ⟨w.heap.size,1,none⟩=some (v1)∧W0.drew.cell? ⟨w.heap.size,2,none⟩=some (.int .i64 p.st.q)∧W0.drew.cell? ⟨w.heap.size,3,none⟩=some (.int .i64 p.st.d)∧W0.drew.cell? ⟨w.heap.size,4,none⟩=some (v4)∧W0.drew.cell? ⟨w.heap.size,5,none⟩=some (.slice none 0 tc)∧W0.drew.cell? ⟨w.heap.size,6,none⟩=some (v6)):=⟨HP0.out.drew.cell (i:=0) rfl,HP0.out.drew.cell (i:=1) rfl,HP0.out.drew.cell (i:=2) rfl,HP0.out.drew.cell (i:=3) rfl,HP0.out.drew.cell (i:=4) rfl,HP0.out.drew.cell (i:=5) rfl,HP0.out.drew.cell (i:=6) rfl⟩
  go_enter Tryz.func162,Tryz.ntmps162
  go_wp2
  clear hW0
  go_region_held3 (fun W=>W.cell? ⟨w.heap.size,0,none⟩=some (.int .i64 p.n)∧W.cell? ⟨w.heap.size,1,none⟩=some (v1)∧W.cell? ⟨w.heap.size,2,none⟩=some (.int .i64 p.st.q)∧W.cell? ⟨w.heap.size,3,none⟩=some (.int .i64 p.st.d)∧W.cell? ⟨w.heap.size,4,none⟩=some (v4)∧W.cell? ⟨w.heap.size,5,none⟩=some (.slice none 0 tc)∧W.cell? ⟨w.heap.size,6,none⟩=some (v6)) (first|exact HS0.out|exact HS2.out|exact HS3.out)
   (first|(go_at_call 199;refine(iDone _ p _ hw HI0.out).mono ?_;rintro e w2 ⟨y,rfl,ho,hb⟩;have HOb:Hid (OwnR W0.heap.size w2 y p.es):=ho;have HO2:Hid (w2.ownsRow w.heap.size 110 7 y p.es.length (cellsL p.es)):=ho.mono hs0d;have HB2:Hid (Below w.heap.size w w2):=HB0.out.drew.trans (hb.mono hs0d);have HX2:Hid (Bk w2 w.heap.size 97 #[.int .i64 p.n,v1,.int .i64 p.st.q,.int .i64 p.st.d,v4,.slice none 0 tc,v6]):=HP0.out.drew.below hb;have HS2:Hid (w2.cell? ⟨w.heap.size,0,none⟩=some (.int .i64 p.n)∧w2.cell? ⟨w.heap.size,1,none⟩=some (v1)∧w2.cell? ⟨w.heap.size,2,none⟩=some (.int .i64 p.st.q)∧w2.cell? ⟨w.heap.size,3,none⟩=some (.int .i64 p.st.d)∧w2.cell? ⟨w.heap.size,4,none⟩=some (v4)∧w2.cell? ⟨w.heap.size,5,none⟩=some (.slice none 0 tc)∧w2.cell? ⟨w.heap.size,6,none⟩=some (v6)):=⟨HX2.out.cell (i:=0) rfl,HX2.out.cell (i:=1) rfl,HX2.out.cell (i:=2) rfl,HX2.out.cell (i:=3) rfl,HX2.out.cell (i:=4) rfl,HX2.out.cell (i:=5) rfl,HX2.out.cell (i:=6) rfl⟩;have hsz2:w.heap.size≤w2.heap.size:=HB2.out.size;clear ho hb)|(refine step_append_zero (w:=w2) rfl (.tmp 4) (.tmp 6) 34 rfl w.heap.size 110 i0 7 Tryz.underlying34 hi y p.es.length tc (cellsL p.es) rfl HO2.out rfl ?_))
  go_wp2
  go_ret
  exact⟨_,rfl,by unfold OwnR Pa.all;rw [HT0.out,List.append_nil];exact HO2.out,HB2.out⟩
 |some ad=>
  have HC:Hid (∀w2,Below w.heap.size w w2→ ∀j u,(cellsL p.t)[j]? =some u→w2.cell? (ad.add j)=some u):=by
   rcases h5 with e|⟨b,off,e,hI⟩
   ·intro w2 _ j u hu
    rw [e]at hu
    simp [cellsL]at hu
   ·cases e
    exact fun w2 hb=>(hI.below hb hI.1).cells
  clear h5
  obtain⟨W0,hW0⟩:∃W0,w.alloc (.cells #[.int .i64 p.n,v1,.int .i64 p.st.q,.int .i64 p.st.d,v4,.slice (some ad) p.t.length tc,v6] 97)=W0:=⟨_,rfl⟩
  have HB0:Hid (Below w.heap.size w W0):=by rw [←hW0];exact(Below.refl _ w).alloc (Nat.le_refl _) _
  have HP0:Hid (Bk W0 w.heap.size 97 #[.int .i64 p.n,v1,.int .i64 p.st.q,.int .i64 p.st.d,v4,.slice (some ad) p.t.length tc,v6]):=by rw [←hW0];exact Bk.new w _ _
  have hs0:w.heap.size<W0.heap.size:=HP0.out.lt
  have hs0d:w.heap.size≤W0.drew.heap.size:=Nat.le_of_lt hs0
  have HI0:Hid (IsPart W0.drew (.agg #[.int .i64 p.n,v1,.int .i64 p.st.q,.int .i64 p.st.d,v4,.slice (some ad) p.t.length tc,v6]) p):=HI.out.under HB0.out.drew
  have HS0:Hid (W0.drew.cell? ⟨w.heap.size,0,none⟩=some (.int .i64 p.n)∧W0.drew.cell? ⟨w.heap.size,1,none⟩=some (v1)∧W0.drew.cell? ⟨w.heap.size,2,none⟩=some (.int .i64 p.st.q)∧W0.drew.cell? ⟨w.heap.size,3,none⟩=some (.int .i64 p.st.d)∧W0.drew.cell? ⟨w.heap.size,4,none⟩=some (v4)∧W0.drew.cell? ⟨w.heap.size,5,none⟩=some (.slice (some ad) p.t.length tc)∧W0.drew.cell? ⟨w.heap.size,6,none⟩=some (v6)):=⟨HP0.out.drew.cell (i:=0) rfl,HP0.out.drew.cell (i:=1) rfl,HP0.out.drew.cell (i:=2) rfl,HP0.out.drew.cell (i:=3) rfl,HP0.out.drew.cell (i:=4) rfl,HP0.out.drew.cell (i:=5) rfl,HP0.out.drew.cell (i:=6) rfl⟩
  go_enter Tryz.func162,Tryz.ntmps162
  go_wp2
  clear hW0
  go_region_held3 (fun W=>W.cell? ⟨w.heap.size,0,none⟩=some (.int .i64 p.n)∧W.cell? ⟨w.heap.size,1,none⟩=some (v1)∧W.cell? ⟨w.heap.size,2,none⟩=some (.int .i64 p.st.q)∧W.cell? ⟨w.heap.size,3,none⟩=some (.int .i64 p.st.d)∧W.cell? ⟨w.heap.size,4,none⟩=some (v4)∧W.cell? ⟨w.heap.size,5,none⟩=some (.slice (some ad) p.t.length tc)∧W.cell? ⟨w.heap.size,6,none⟩=some (v6)) (first|exact HS0.out|exact HS2.out|exact HS3.out)
   (first|(go_at_call 199;refine(iDone _ p _ hw HI0.out).mono ?_;rintro e w2 ⟨y,rfl,ho,hb⟩;have HOb:Hid (OwnR W0.heap.size w2 y p.es):=ho;have HO2:Hid (w2.ownsRow w.heap.size 110 7 y p.es.length (cellsL p.es)):=ho.mono hs0d;have HB2:Hid (Below w.heap.size w w2):=HB0.out.drew.trans (hb.mono hs0d);have HX2:Hid (Bk w2 w.heap.size 97 #[.int .i64 p.n,v1,.int .i64 p.st.q,.int .i64 p.st.d,v4,.slice (some ad) p.t.length tc,v6]):=HP0.out.drew.below hb;have HS2:Hid (w2.cell? ⟨w.heap.size,0,none⟩=some (.int .i64 p.n)∧w2.cell? ⟨w.heap.size,1,none⟩=some (v1)∧w2.cell? ⟨w.heap.size,2,none⟩=some (.int .i64 p.st.q)∧w2.cell? ⟨w.heap.size,3,none⟩=some (.int .i64 p.st.d)∧w2.cell? ⟨w.heap.size,4,none⟩=some (v4)∧w2.cell? ⟨w.heap.size,5,none⟩=some (.slice (some ad) p.t.length tc)∧w2.cell? ⟨w.heap.size,6,none⟩=some (v6)):=⟨HX2.out.cell (i:=0) rfl,HX2.out.cell (i:=1) rfl,HX2.out.cell (i:=2) rfl,HX2.out.cell (i:=3) rfl,HX2.out.cell (i:=4) rfl,HX2.out.cell (i:=5) rfl,HX2.out.cell (i:=6) rfl⟩;have hsz2:w.heap.size≤w2.heap.size:=HB2.out.size;have HC2:Hid (∀j u,(cellsL p.t)[j]? =some u→w2.cell? (ad.add j)=some u):=HC.out w2 HB2.out;clear ho hb)|(refine step_append_own (w:=w2) rfl (.tmp 4) (.tmp 6) 34 rfl w.heap.size 110 i0 _ 7 56 Tryz.underlying34 hi hz0 hz1 hz2 rfl (by decide) y p.es.length (cellsL p.es) rfl HO2.out ad p.t.length tc (cellsL p.t) rfl (cellsL_length p.t) HC2.out (cellsL_one p.t) (by unfold maxLen;omega) (by omega) hsz2 ?_;intro y3 w3 hown3 hgrow3;have HO3:Hid (w3.ownsRow w.heap.size 110 7 y3 (p.es.length+p.t.length) (cellsL p.es++cellsL p.t)):=hown3;have HB3:Hid (Below w.heap.size w w3):=HB2.out.grown hgrow3 hsz2 (fun k e=>row_ge HO2.out e);have HX3:Bk w3 w.heap.size 97 #[.int .i64 p.n,v1,.int .i64 p.st.q,.int .i64 p.st.d,v4,.slice (some ad) p.t.length tc,v6]:=off_grown HX2.out hgrow3 (fun e=>Nat.lt_irrefl _ (Nat.lt_of_lt_of_le hs0 (row_ge HOb.out e)));have HS3:Hid (w3.cell? ⟨w.heap.size,0,none⟩=some (.int .i64 p.n)∧w3.cell? ⟨w.heap.size,1,none⟩=some (v1)∧w3.cell? ⟨w.heap.size,2,none⟩=some (.int .i64 p.st.q)∧w3.cell? ⟨w.heap.size,3,none⟩=some (.int .i64 p.st.d)∧w3.cell? ⟨w.heap.size,4,none⟩=some (v4)∧w3.cell? ⟨w.heap.size,5,none⟩=some (.slice (some ad) p.t.length tc)∧w3.cell? ⟨w.heap.size,6,none⟩=some (v6)):=⟨HX3.cell (i:=0) rfl,HX3.cell (i:=1) rfl,HX3.cell (i:=2) rfl,HX3.cell (i:=3) rfl,HX3.cell (i:=4) rfl,HX3.cell (i:=5) rfl,HX3.cell (i:=6) rfl⟩;clear hown3 hgrow3 HX3))
  go_wp2
  go_ret
  exact⟨_,rfl,by unfold OwnR Pa.all;rw [cellsL_append,List.length_append];exact HO3.out,HB3.out⟩
set_option maxRecDepth 100000 in
set_option maxHeartbeats 8000000 in
theorem iDoingsOk (x:Value) (p:Pa) (w:World) (hw:p.wt≤1048576) (h2:p.p.length+p.t.length≤1048576) (h:IsPart w x p):
  Calls Tryz.prog 196 #[x] w fun e w'=>Says e (Doings p)∧Below w.heap.size w w':=by
 have HI:Hid (IsPart w x p):=h
 have hal:p.all.length≤1048576:=by rw [all_length];exact h2
 obtain⟨v1,v4,v5,v6,rfl,h1,h4,h5,h6⟩:=h
 clear h1 h4 h5 h6
 obtain⟨W0,hW0⟩:∃W0,w.alloc (.cells #[.int .i64 p.n,v1,.int .i64 p.st.q,.int .i64 p.st.d,v4,v5,v6] 97)=W0:=⟨_,rfl⟩
 have HB0:Hid (Below w.heap.size w W0):=by rw [←hW0];exact(Below.refl _ w).alloc (Nat.le_refl _) _
 have HP0:Hid (Bk W0 w.heap.size 97 #[.int .i64 p.n,v1,.int .i64 p.st.q,.int .i64 p.st.d,v4,v5,v6]):=by rw [←hW0];exact Bk.new w _ _
 have hs0:w.heap.size<W0.heap.size:=HP0.out.lt
 have p0:=HP0.out.cell (i:=0) rfl
 have p1:=HP0.out.cell (i:=1) rfl
 have p2:=HP0.out.cell (i:=2) rfl
 have p3:=HP0.out.cell (i:=3) rfl
 have p4:=HP0.out.cell (i:=4) rfl
 have p5:=HP0.out.cell (i:=5) rfl
 have p6:=HP0.out.cell (i:=6) rfl
 go_enter Tryz.func196,Tryz.ntmps196
 go_wp2_with fail
 clear hW0 p0 p1 p2 p3 p4 p5 p6
 refine(iDoings _ p _ hw (HI.out.under HB0.out)).mono ?_
 rintro e w1 ⟨y,rfl,ho,hb1⟩
 obtain⟨ya,yc,yb,rfl,hyb,hI⟩:=IsEvs.parts ho.evs (by have:=hb1.size;omega)
 have HI1:Hid (p.all= []∨ ∃off,ya=some ⟨yb,off,none⟩∧EvsAt w1 yb off p.all):=hI
 have HB1:Hid (Below w.heap.size w w1):=HB0.out.trans (hb1.mono HB0.out.size)
 have HP1:Hid (Bk w1 w.heap.size 97 #[.int .i64 p.n,v1,.int .i64 p.st.q,.int .i64 p.st.d,v4,v5,v6]):=HP0.out.below hb1
 clear ho hb1 hI
 go_wp2_with fail
 refine(eventsOk_any ya yc yb p.all _ hal HI1.out hyb).mono ?_
 rintro e w2 ⟨⟨b1,rfl,hs1⟩,hb2⟩
 have HS1:Hid (b1=true↔ ∀i,i<p.all.length→(evAt p.all i).ok=true):=hs1
 have HB2:Hid (Below w.heap.size w w2):=HB1.out.trans (hb2.mono HB1.out.size)
 have HI2:Hid (p.all= []∨ ∃off,ya=some ⟨yb,off,none⟩∧EvsAt w2 yb off p.all):=parts_below HI1.out hyb hb2
 have hy2:yb<w2.heap.size:=Nat.lt_of_lt_of_le hyb hb2.size
 have HP2:Hid (Bk w2 w.heap.size 97 #[.int .i64 p.n,v1,.int .i64 p.st.q,.int .i64 p.st.d,v4,v5,v6]):=HP1.out.below hb2
 have q0:=HP2.out.cell (i:=0) rfl
 clear hs1 hb2
 cases b1
 ·go_wp2
  go_ret
  exact⟨Says.no (fun h=>by have:=HS1.out.2 h.1;cases this),HB2.out⟩
 have HOK:Hid (∀i,i<p.all.length→(evAt p.all i).ok=true):=HS1.out.1 rfl
 go_wp2_with fail
 refine(allFor_any ya yc yb p.all p.n _ hal HI2.out hy2).mono ?_
 rintro e w3 ⟨⟨b2,rfl,hs2⟩,hb3⟩
 have HS2:Hid (b2=true↔ ∀i,i<p.all.length→(evAt p.all i).d=p.n):=hs2
 have HB3:Hid (Below w.heap.size w w3):=HB2.out.trans (hb3.mono HB2.out.size)
 have HI3:Hid (p.all= []∨ ∃off,ya=some ⟨yb,off,none⟩∧EvsAt w3 yb off p.all):=parts_below HI2.out hy2 hb3
 have hy3:yb<w3.heap.size:=Nat.lt_of_lt_of_le hy2 hb3.size
 clear hs2 hb3 q0
 cases b2
 ·go_wp2
  go_ret
  exact⟨Says.no (fun h=>by have:=HS2.out.2 h.2.1;cases this),HB3.out⟩
 have HDS:Hid (∀i,i<p.all.length→(evAt p.all i).d=p.n):=HS2.out.1 rfl
 go_wp2_with fail
 refine(inOrder_any ya yc yb p.all _ hal HI3.out hy3).mono ?_
 rintro e w4 ⟨⟨b3,rfl,hs3⟩,hb4⟩
 have HS3:Hid (b3=true↔ ∀i,i<p.all.length-1→(evAt p.all i).ecmp (evAt p.all (i+1))= -1):=hs3
 have HB4:Hid (Below w.heap.size w w4):=HB3.out.trans (hb4.mono HB3.out.size)
 have HI4:Hid (p.all= []∨ ∃off,ya=some ⟨yb,off,none⟩∧EvsAt w4 yb off p.all):=parts_below HI3.out hy3 hb4
 have hy4:yb<w4.heap.size:=Nat.lt_of_lt_of_le hy3 hb4.size
 clear hs3 hb4
 cases b3
 ·go_wp2
  go_ret
  exact⟨Says.no (fun h=>by have:=HS3.out.2 h.2.2.1;cases this),HB4.out⟩
 have HOR:Hid (∀i,i<p.all.length-1→(evAt p.all i).ecmp (evAt p.all (i+1))= -1):=HS3.out.1 rfl
 go_wp2_with fail
 refine(tagsDiffer_any ya yc yb p.all _ hal HI4.out hy4 (fun i hi=>okB_tag (HOK.out i hi))).mono ?_
 rintro e w5 ⟨⟨b4,rfl,hs4⟩,hb5⟩
 have HS4:Hid (b4=true↔ ∀i,i<p.all.length→ ∀j,j<i→(evAt p.all j).g≠(evAt p.all i).g):=hs4
 have HB5:Hid (Below w.heap.size w w5):=HB4.out.trans (hb5.mono HB4.out.size)
 clear hs4 hb5
 cases b4
 ·go_wp2
  go_ret
  exact⟨Says.no (fun h=>by have:=HS4.out.2 h.2.2.2;cases this),HB5.out⟩
 have HTG:Hid (∀i,i<p.all.length→ ∀j,j<i→(evAt p.all j).g≠(evAt p.all i).g):=HS4.out.1 rfl
 go_wp2
 go_ret
 exact⟨Says.yes ⟨HOK.out,HDS.out,HOR.out,HTG.out⟩,HB5.out⟩
set_option maxRecDepth 100000 in
set_option maxHeartbeats 8000000 in
theorem iPartOk (x:Value) (p:Pa) (w:World) (hw:p.wt≤1048576) (h:IsPart w x p):
  Calls Tryz.prog 157 #[x] w fun e w'=>Says e (GoodP p)∧Below w.heap.size w w':=by
 have HI:Hid (IsPart w x p):=h
 obtain⟨v1,v4,v5,v6,rfl,h1,h4,h5,h6⟩:=h
 have hwt:=hw
 unfold Pa.wt at hwt
 simp only [ints_wt,evs_wt]at hwt
 have H1:Hid (IsS w (.agg #[v1,.int .i64 p.st.q,.int .i64 p.st.d]) p.st):=⟨v1,rfl,h1.isI⟩
 have H6:Hid (IsI w v6 p.a):=h6.isI
 obtain⟨pa,pc,rfl,hpm⟩:=IsD.len (c:=12) (n:=p.p.length) h4
 obtain⟨ta,tc,rfl,htm⟩:=IsD.len (c:=7) (n:=p.t.length) h5
 obtain⟨aa,ac,rfl,ham⟩:=IsD.len (c:=1) (n:=p.a.length) h6
 unfold maxLen at hpm htm ham
 have hal:p.a.length≤1048576:=by omega
 clear h1 h4 h5 h6 hwt
 obtain⟨W0,hW0⟩:∃W0,w.alloc (.cells #[.int .i64 p.n,v1,.int .i64 p.st.q,.int .i64 p.st.d,.slice pa p.p.length pc,.slice ta p.t.length tc,.slice aa p.a.length ac] 97)=W0:=⟨_,rfl⟩
 have HB0:Hid (Below w.heap.size w W0):=by rw [←hW0];exact(Below.refl _ w).alloc (Nat.le_refl _) _
 have HP0:Hid (Bk W0 w.heap.size 97 #[.int .i64 p.n,v1,.int .i64 p.st.q,.int .i64 p.st.d,.slice pa p.p.length pc,.slice ta p.t.length tc,.slice aa p.a.length ac]):=by rw [←hW0];exact Bk.new w _ _
 have HI0:Hid (IsPart W0 (.agg #[.int .i64 p.n,v1,.int .i64 p.st.q,.int .i64 p.st.d,.slice pa p.p.length pc,.slice ta p.t.length tc,.slice aa p.a.length ac]) p):=HI.out.under HB0.out
 have p0:=HP0.out.cell (i:=0) rfl
 have p1:=HP0.out.cell (i:=1) rfl
 have p2:=HP0.out.cell (i:=2) rfl
 have p3:=HP0.out.cell (i:=3) rfl
 have p4:=HP0.out.cell (i:=4) rfl
 have p5:=HP0.out.cell (i:=5) rfl
 have p6:=HP0.out.cell (i:=6) rfl
 by_cases c0:200<p.p.length
 ·have c0':(200:Int)<(p.p.length:Int):=by omega
  go_enter Tryz.func157,Tryz.ntmps157
  go_wp2
  go_ret
  exact⟨Says.no (fun h=>by have:=h.1;omega),HB0.out⟩
 have c0':¬(200:Int)<(p.p.length:Int):=by omega
 by_cases c1:2000<p.t.length
 ·have c1':(2000:Int)<(p.t.length:Int):=by omega
  go_enter Tryz.func157,Tryz.ntmps157
  go_wp2
  go_ret
  exact⟨Says.no (fun h=>by have:=h.1;omega),HB0.out⟩
 have c1':¬(2000:Int)<(p.t.length:Int):=by omega
 by_cases c2:2000<p.a.length
 ·have c2':(2000:Int)<(p.a.length:Int):=by omega
  go_enter Tryz.func157,Tryz.ntmps157
  go_wp2
  go_ret
  exact⟨Says.no (fun h=>by have:=h.1;omega),HB0.out⟩
 have c2':¬(2000:Int)<(p.a.length:Int):=by omega
 have HL:Hid (p.p.length≤200∧p.t.length≤2000∧p.a.length≤2000):=⟨by omega,by omega,by omega⟩
 go_enter Tryz.func157,Tryz.ntmps157
 go_wp2_with fail
 refine(within_any _ _ _ _).mono ?_
 rintro e w2 ⟨rfl,hw2⟩
 have hw2':=hw2.symm
 clear hw2
 subst hw2'
 clear hW0
 by_cases n0:0≤p.n∧p.n≤3
 case neg=>
  rw [show(decide (0≤p.n)&&decide (p.n≤3))=false from by rw [←Bool.decide_and];exact decide_eq_false n0]
  have HN:Hid (¬(0≤p.n∧p.n≤3)):=n0
  clear n0
  go_wp2
  go_ret
  exact⟨Says.no (fun h=>HN.out h.2.1),HB0.out⟩
 rw [show(decide (0≤p.n)&&decide (p.n≤3))=true from by rw [←Bool.decide_and];exact decide_eq_true n0]
 have HN:Hid (0≤p.n∧p.n≤3):=n0
 clear n0
 go_wp2_with fail
 refine(iStOk _ p.st _ (H1.out.below HB0.out)).mono ?_
 rintro e w1 ⟨rfl,hb1⟩
 have HB1:Hid (Below w.heap.size w w1):=HB0.out.trans (hb1.mono HB0.out.size)
 have HP1:Hid (Bk w1 w.heap.size 97 #[.int .i64 p.n,v1,.int .i64 p.st.q,.int .i64 p.st.d,.slice pa p.p.length pc,.slice ta p.t.length tc,.slice aa p.a.length ac]):=HP0.out.below hb1
 have HI1:Hid (IsPart w1 (.agg #[.int .i64 p.n,v1,.int .i64 p.st.q,.int .i64 p.st.d,.slice pa p.p.length pc,.slice ta p.t.length tc,.slice aa p.a.length ac]) p):=HI0.out.under hb1
 clear hb1 p0 p1 p2 p3 p4 p5 p6
 have q0:=HP1.out.cell (i:=0) rfl
 have q1:=HP1.out.cell (i:=1) rfl
 have q2:=HP1.out.cell (i:=2) rfl
 have q3:=HP1.out.cell (i:=3) rfl
 have q4:=HP1.out.cell (i:=4) rfl
 have q5:=HP1.out.cell (i:=5) rfl
 have q6:=HP1.out.cell (i:=6) rfl
 cases hst:p.st.ok
 ·have KS:Hid (p.st.ok=false):=hst
  clear hst
  go_wp2
  go_ret
  exact⟨Says.no (fun h=>by have:=h.2.2.1;rw [KS.out]at this;cases this),HB1.out⟩
 have KS:Hid (p.st.ok=true):=hst
 clear hst
 go_wp2_with fail
 refine(iPastOk _ p _ hw HI1.out).mono ?_
 rintro e w3 ⟨⟨b1,rfl,hs1⟩,hb3⟩
 have HS1:Hid (b1=true↔ ∀i,i<p.p.length→Past2 p i):=hs1
 have HB3:Hid (Below w.heap.size w w3):=HB1.out.trans (hb3.mono HB1.out.size)
 have HP3:Hid (Bk w3 w.heap.size 97 #[.int .i64 p.n,v1,.int .i64 p.st.q,.int .i64 p.st.d,.slice pa p.p.length pc,.slice ta p.t.length tc,.slice aa p.a.length ac]):=HP1.out.below hb3
 have HI3:Hid (IsPart w3 (.agg #[.int .i64 p.n,v1,.int .i64 p.st.q,.int .i64 p.st.d,.slice pa p.p.length pc,.slice ta p.t.length tc,.slice aa p.a.length ac]) p):=HI1.out.under hb3
 clear hs1 hb3 q0 q1 q2 q3 q4 q5 q6
 have q0:=HP3.out.cell (i:=0) rfl
 have q1:=HP3.out.cell (i:=1) rfl
 have q2:=HP3.out.cell (i:=2) rfl
 have q3:=HP3.out.cell (i:=3) rfl
 have q4:=HP3.out.cell (i:=4) rfl
 have q5:=HP3.out.cell (i:=5) rfl
 have q6:=HP3.out.cell (i:=6) rfl
 cases b1
 ·go_wp2
  go_ret
  exact⟨Says.no (fun h=>by have:=HS1.out.2 h.2.2.2.1;cases this),HB3.out⟩
 have KB1:Hid (∀i,i<p.p.length→Past2 p i):=HS1.out.1 rfl
 go_wp2_with fail
 refine(iDoingsOk _ p _ hw (by omega) HI3.out).mono ?_
 rintro e w4 ⟨⟨b2,rfl,hs2⟩,hb4⟩
 have HS2:Hid (b2=true↔Doings p):=hs2
 have HB4:Hid (Below w.heap.size w w4):=HB3.out.trans (hb4.mono HB3.out.size)
 have HP4:Hid (Bk w4 w.heap.size 97 #[.int .i64 p.n,v1,.int .i64 p.st.q,.int .i64 p.st.d,.slice pa p.p.length pc,.slice ta p.t.length tc,.slice aa p.a.length ac]):=HP3.out.below hb4
 clear hs2 hb4 q0 q1 q2 q3 q4 q5 q6
 have q6:=HP4.out.cell (i:=6) rfl
 cases b2
 ·go_wp2
  go_ret
  exact⟨Says.no (fun h=>by have:=HS2.out.2 h.2.2.2.2.1;cases this),HB4.out⟩
 have KB2:Hid (Doings p):=HS2.out.1 rfl
 go_wp2_with fail
 refine(iAntis _ p.a _ (by omega) (H6.out.below HB4.out)).mono ?_
 rintro e w5 ⟨⟨b3,rfl,hs3⟩,hb5⟩
 have HS3:Hid (b3=true↔Asc p.a):=hs3
 have HB5:Hid (Below w.heap.size w w5):=HB4.out.trans (hb5.mono HB4.out.size)
 clear hs3 hb5 q6
 cases b3
 ·go_wp2
  go_ret
  exact⟨Says.no (fun h=>by have:=HS3.out.2 h.2.2.2.2.2;cases this),HB5.out⟩
 have KB3:Hid (Asc p.a):=HS3.out.1 rfl
 go_wp2
 go_ret
 exact⟨Says.yes ⟨HL.out,HN.out,KS.out,KB1.out,KB2.out,KB3.out⟩,HB5.out⟩
theorem sPartOk_is (x:Value) (p:Pa) (w:World) (hw:p.wt≤1048576) (h:IsPart w x p):
  Calls Tryz.prog 148 #[x] w fun e w'=>e= .returned (.bool p.ok)∧Below w.heap.size w w':=
 (sPartOk x p w hw h).mono fun _ _ ⟨hs,hb⟩=>⟨says_ok (by rwa [good_iff]at hs),hb⟩
theorem iPartOk_is (x:Value) (p:Pa) (w:World) (hw:p.wt≤1048576) (h:IsPart w x p):
  Calls Tryz.prog 157 #[x] w fun e w'=>e= .returned (.bool p.ok)∧Below w.heap.size w w':=
 (iPartOk x p w hw h).mono fun _ _ ⟨hs,hb⟩=>⟨says_ok hs,hb⟩
set_option maxRecDepth 100000 in
set_option maxHeartbeats 4000000 in
theorem pastCmp_any (x v7 v10 v11:Value) (p:Ps) (e:Ev) (z:Int) (hz:p.e.ecmp e=z) (w:World) (f7:∃a n c,v7= .slice a n c) (f10:∃a n c,v10= .slice a n c) (f11:∃a n c,v11= .slice a n c) (hx:x= .agg #[.int .i64 p.e.t,.int .i64 p.e.s,.int .i64 p.e.q,.int .i64 p.e.d,.int .i64 p.e.k,.int .i64 p.e.v,.int .i64 p.e.g,v7,.int .i64 p.b.q,.int .i64 p.b.d,v10,v11]):
  Calls Tryz.prog 170 #[x,.agg #[.int .i64 e.t,.int .i64 e.s,.int .i64 e.q,.int .i64 e.d,.int .i64 e.k,.int .i64 e.v,.int .i64 e.g]] w fun r w'=>r= .returned (.int .i64 z)∧Below w.heap.size w w':=by
 subst hx
 obtain⟨a7,n7,c7,rfl⟩:=f7
 obtain⟨a10,n10,c10,rfl⟩:=f10
 obtain⟨a11,n11,c11,rfl⟩:=f11
 obtain⟨W0,hW0⟩:∃W0,(w.alloc (.cells #[.int .i64 p.e.t,.int .i64 p.e.s,.int .i64 p.e.q,.int .i64 p.e.d,.int .i64 p.e.k,.int .i64 p.e.v,.int .i64 p.e.g,.slice a7 n7 c7,.int .i64 p.b.q,.int .i64 p.b.d,.slice a10 n10 c10,.slice a11 n11 c11] 115)).alloc (.cells #[.int .i64 e.t,.int .i64 e.s,.int .i64 e.q,.int .i64 e.d,.int .i64 e.k,.int .i64 e.v,.int .i64 e.g] 110)=W0:=⟨_,rfl⟩
 have HB0:Hid (Below w.heap.size w W0):=by rw [←hW0];exact((Below.refl _ w).alloc (Nat.le_refl _) _).alloc (by simp) _
 have BX:Bk W0 w.heap.size 115 #[.int .i64 p.e.t,.int .i64 p.e.s,.int .i64 p.e.q,.int .i64 p.e.d,.int .i64 p.e.k,.int .i64 p.e.v,.int .i64 p.e.g,.slice a7 n7 c7,.int .i64 p.b.q,.int .i64 p.b.d,.slice a10 n10 c10,.slice a11 n11 c11]:=hW0▸(Bk.new w _ _).alloc _
 have BE:Bk W0 (w.heap.size+1) 110 #[.int .i64 e.t,.int .i64 e.s,.int .i64 e.q,.int .i64 e.d,.int .i64 e.k,.int .i64 e.v,.int .i64 e.g]:=hW0▸Bk.newAt (by simp) _ _
 have x0:=BX.cell (i:=0) rfl
 have e0:=BE.cell (i:=0) rfl
 have x1:=BX.cell (i:=1) rfl
 have e1:=BE.cell (i:=1) rfl
 have x2:=BX.cell (i:=2) rfl
 have e2:=BE.cell (i:=2) rfl
 have x3:=BX.cell (i:=3) rfl
 have e3:=BE.cell (i:=3) rfl
 have x4:=BX.cell (i:=4) rfl
 have e4:=BE.cell (i:=4) rfl
 have x5:=BX.cell (i:=5) rfl
 have e5:=BE.cell (i:=5) rfl
 have x6:=BX.cell (i:=6) rfl
 have e6:=BE.cell (i:=6) rfl
 go_enter Tryz.func170,Tryz.ntmps170
 go_wp2_with fail
 refine(iCmp_ev p.e e z hz _).mono ?_
 rintro r w1 ⟨rfl,hb⟩
 have HB1:Hid (Below w.heap.size w w1):=HB0.out.trans (hb.mono HB0.out.size)
 clear hb hW0 BX BE x0 e0 x1 e1 x2 e2 x3 e3 x4 e4 x5 e5 x6 e6
 go_wp2
 go_ret
 exact⟨rfl,HB1.out⟩
end Go.Proofs.YtmobiieoecjmdaaGreat

