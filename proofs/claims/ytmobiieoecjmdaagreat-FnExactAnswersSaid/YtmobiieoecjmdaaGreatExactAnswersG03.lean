/- MLaw, EEm, XEm, TDat, SSt, TRow, TPs, TPt, TPsA, TPsB -/
import Derived.Test.YtmobiieoecjmdaaGreatExactAnswersG02
namespace Go.Proofs.YtmobiieoecjmdaaGreat
set_option maxHeartbeats 2000000
open Go.RowKit
theorem MdF.form {F:Nat→Prop} {w:World} {y:Value} {m:Md} (h:MdF F w y m):∃ai ci ah ch ae ce,y= .agg #[.int .i64 m.n,.int .i64 m.s,.slice ai m.i.length ci,.slice ah m.h.length ch,.slice ae m.e.length ce,.int .i64 m.z]:=by
 obtain⟨A,B,C,vi,vh,vs,rfl,⟨_,a1,c1,rfl,_⟩,⟨U,F0,G,⟨_,a2,c2,rfl,_⟩,_⟩,⟨_,a3,c3,rfl,_⟩,_⟩:=h
 exact⟨a1,c1,a2,c2,a3,c3,rfl⟩
theorem yin (x y:Value) (m:Md) (w:World) (hs:SmallM m) (hx:IsM w x m) (hy:IsM w y m):
  Calls Tryz.prog 48 #[x,y] w fun e w'=>e= .returned (.bool true)∧Below w.heap.size w w':=by
 obtain⟨vi,vh,vs,rfl,h1,h2,h3⟩:=hx
 obtain⟨ui,uh,us,rfl,k1,k2,k3⟩:=hy
 obtain⟨n,s,i,hh,ev,z⟩:=m
 have HI:Hid (IsI w vi i∧IsI w ui i):=⟨h1,k1⟩
 have HH:Hid (IsH w vh hh∧IsH w uh hh):=⟨h2,k2⟩
 have HE:Hid (IsEvs w vs ev∧IsEvs w us ev):=⟨h3,k3⟩
 have HS:Hid (SmallM ⟨n,s,i,hh,ev,z⟩):=hs
 clear h1 h2 h3 k1 k2 k3 hs
 obtain⟨W0,hW0⟩:∃W0,(w.alloc (.cells #[.int .i64 n,.int .i64 s,vi,vh,vs,.int .i64 z] 36)).alloc (.cells #[.int .i64 n,.int .i64 s,ui,uh,us,.int .i64 z] 36)=W0:=⟨_,rfl⟩
 have HB0:=hdq (beA2 hW0)
 have HP0:=hdq (bkA2 hW0)
 have HQ0:=hdq (bkB2 hW0)
 obtain⟨p0,p1,p2⟩:=c3_6 HP0.out
 obtain⟨q0,q1,q2⟩:=c3_6 HQ0.out
 go_enter Tryz.func48,Tryz.ntmps48
 go_wp2_with fail
 clear p0 p1 p2 q0 q1 q2 hW0
 refine(ylw _ _ i _ (by have:i.length≤1048576:=HS.out.i;omega) (HI.out.1.below HB0.out) (HI.out.2.below HB0.out)).mono ?_
 rintro e w1 ⟨rfl,hb⟩
 have HB1:Hid (Below w.heap.size w w1):=trm HB0.out hb
 have HP1:Hid (Bk w1 w.heap.size 36 #[.int .i64 n,.int .i64 s,vi,vh,vs,.int .i64 z]):=HP0.out.below hb
 have HQ1:Hid (Bk w1 (w.heap.size+1) 36 #[.int .i64 n,.int .i64 s,ui,uh,us,.int .i64 z]):=HQ0.out.below hb
 have p3:=HP1.out.cell (i:=3) rfl
 have q3:=HQ1.out.cell (i:=3) rfl
 clear hb HB0 HP0 HQ0
 go_wp2_with fail
 clear p3 q3
 refine(eqH_same _ _ hh _ HS.out.h HS.out.r (HH.out.1.below HB1.out) (HH.out.2.below HB1.out)).mono ?_
 rintro e w2 ⟨rfl,hb⟩
 have HB2:Hid (Below w.heap.size w w2):=trm HB1.out hb
 have HP2:Hid (Bk w2 w.heap.size 36 #[.int .i64 n,.int .i64 s,vi,vh,vs,.int .i64 z]):=HP1.out.below hb
 have HQ2:Hid (Bk w2 (w.heap.size+1) 36 #[.int .i64 n,.int .i64 s,ui,uh,us,.int .i64 z]):=HQ1.out.below hb
 have p4:=HP2.out.cell (i:=4) rfl
 have q4:=HQ2.out.cell (i:=4) rfl
 clear hb HB1 HP1 HQ1
 go_wp2_with fail
 clear p4 q4
 refine(ylu _ _ ev _ HS.out.e (HE.out.1.below HB2.out) (HE.out.2.below HB2.out)).mono ?_
 rintro e w3 ⟨rfl,hb⟩
 have HB3:Hid (Below w.heap.size w w3):=trm HB2.out hb
 have p5:=(HP2.out.below hb).cell (i:=5) rfl
 have q5:=(HQ2.out.below hb).cell (i:=5) rfl
 clear hb HB2 HP2 HQ2
 go_wp2
 go_ret
 exact⟨rfl,HB3.out⟩
def HeldM (F:Nat→Prop) (w:World) (x:Value) (m:Md):Prop:=
 ∃(A B C:Nat→Prop) (vi vh vs:Value) (U:Nat→Value),x= .agg #[.int .i64 m.n,.int .i64 m.s,vi,vh,vs,.int .i64 m.z]∧RowF A w vi m.i.length 1 (ybk 1 (m.i.length*1))∧
  RowsF B w vh m.h.length U (lens m.h) (yjk (1+(m.i.length:Int)) (lens m.h))∧RowF C w vs m.e.length 7 (ybk (1+(m.i.length:Int)+4*(sumL (lens m.h) m.h.length:Int)) (m.e.length*7))∧
  (∀k,A k→F k∧ ¬B k∧ ¬C k)∧(∀k,B k→F k∧ ¬C k)∧ ∀k,C k→F k
theorem HeldM.turns {F S:Nat→Prop} {w w':World} {x:Value} {m:Md} (h:HeldM F w x m) (ht:Turns S w w') (hS:∀k,F k→ ¬S k):HeldM F w' x m:=by
 obtain⟨A,B,C,vi,vh,vs,U,rfl,h1,h2,h3,h4,h5,h6⟩:=h
 exact⟨A,B,C,vi,vh,vs,U,rfl,h1.turns ht (fun k hk=>hS k (h4 k hk).1),h2.turns ht (fun k hk=>hS k (h5 k hk).1),h3.turns ht (fun k hk=>hS k (h6 k hk)),h4,h5,h6⟩
def yf2 (m:Md):Int:=1+(m.i.length:Int)+4*(sumL (lens m.h) m.h.length:Int)+7*(m.e.length:Int)
theorem yru (m:Md):1≤yf2 m:=by unfold yf2;omega
theorem yll {F:Nat→Prop} {x:Value} {m:Md} {w:World} (hs:SmallM m) (h:MdF F w x m) (hF:∀k,F k→k<w.heap.size):
  Calls Tryz.prog 50 #[x,.int .i64 1] w fun e w'=>e= .returned (.int .i64 (yf2 m))∧HeldM F w' x m∧Turns F w w':=by
 obtain⟨A,B,C,vi,vh,vs,rfl,h1,⟨U,h2⟩,h3,h4,h5,h6⟩:=h
 obtain⟨n,s,i,hh,ev,z⟩:=m
 have HI:Hid (RowF A w vi i.length 1 (intCells i)):=h1
 have HH:Hid (RowsF B w vh hh.length U (lens hh) (fun i=>yer (hAt hh i))):=h2
 have HE:Hid (RowF C w vs ev.length 7 (yag ev)):=h3
 have HS:Hid (SmallM ⟨n,s,i,hh,ev,z⟩):=hs
 have HF:Hid ((∀k,F k→k<w.heap.size)∧(∀k,A k→F k∧ ¬B k∧ ¬C k)∧(∀k,B k→F k∧ ¬C k)∧ ∀k,C k→F k):=⟨hF,h4,h5,h6⟩
 clear h1 h2 h3 h4 h5 h6 hs hF
 obtain⟨W0,hW0⟩:∃W0,w.alloc (.cells #[.int .i64 n,.int .i64 s,vi,vh,vs,.int .i64 z] 36)=W0:=⟨_,rfl⟩
 have HB0:=hdq (beA hW0)
 have HP0:=hdq (bkA hW0)
 have p2:=HP0.out.cell (i:=2) rfl
 have hi:i.length≤1048576:=HS.out.i
 have hh1:sumL (lens hh) hh.length≤1048576:=HS.out.t
 have hh2:hh.length≤1048576:=HS.out.h
 have he:ev.length≤1048576:=HS.out.e
 go_enter Tryz.func50,Tryz.ntmps50
 go_wp2_with fail
 clear p2 hW0
 refine(markIF (F:=A) 1 (by omega) (by omega) (by omega) (HI.out.below HB0.out)).mono ?_
 rintro e w1 ⟨rfl,hr,ht⟩
 have HT1:Hid (Turns F W0 w1):=ht.mono (fun k hk=>(HF.out.2.1 k hk).1)
 have HI1:Hid (RowF A w1 vi i.length 1 (ybk 1 (i.length*1))):=hr
 have HH1:Hid (RowsF B w1 vh hh.length U (lens hh) (fun i=>yer (hAt hh i))):=(HH.out.below HB0.out).turns ht (fun k hk ha=>(HF.out.2.1 k ha).2.1 hk)
 have HE1:Hid (RowF C w1 vs ev.length 7 (yag ev)):=(HE.out.below HB0.out).turns ht (fun k hk ha=>(HF.out.2.1 k ha).2.2 hk)
 have HP1:Hid (Bk w1 w.heap.size 36 #[.int .i64 n,.int .i64 s,vi,vh,vs,.int .i64 z]):=HP0.out.turns HT1.out (fun hk=>by have:=HF.out.1 _ hk;omega)
 have p3:=HP1.out.cell (i:=3) rfl
 clear hr ht HI HH HE HP0
 go_wp2_with fail
 clear p3
 refine(markHF (F:=B) (1+(i.length:Int)) (by omega) (by omega) (by omega) (by omega) HH1.out).mono ?_
 rintro e w2 ⟨rfl,hr,ht⟩
 have HT2:Hid (Turns F W0 w2):=HT1.out.trans (ht.mono (fun k hk=>(HF.out.2.2.1 k hk).1))
 have HI2:Hid (RowF A w2 vi i.length 1 (ybk 1 (i.length*1))):=HI1.out.turns ht (fun k hk hb=>(HF.out.2.1 k hk).2.1 hb)
 have HH2:Hid (RowsF B w2 vh hh.length U (lens hh) (yjk (1+(i.length:Int)) (lens hh))):=hr
 have HE2:Hid (RowF C w2 vs ev.length 7 (yag ev)):=HE1.out.turns ht (fun k hk hb=>(HF.out.2.2.1 k hb).2 hk)
 have HP2:Hid (Bk w2 w.heap.size 36 #[.int .i64 n,.int .i64 s,vi,vh,vs,.int .i64 z]):=HP1.out.turns ht (fun hk=>by have:=HF.out.1 _ (HF.out.2.2.1 _ hk).1;omega)
 have p4:=HP2.out.cell (i:=4) rfl
 clear hr ht HI1 HH1 HE1 HP1 HT1
 go_wp2_with fail
 clear p4
 refine(yu9 (F:=C) (1+(i.length:Int)+4*(sumL (lens hh) hh.length:Int)) (by omega) (by omega) (by omega) HE2.out).mono ?_
 rintro e w3 ⟨rfl,hr,ht⟩
 have HT3:Hid (Turns F W0 w3):=HT2.out.trans (ht.mono (fun k hk=>HF.out.2.2.2 k hk))
 have HI3:Hid (RowF A w3 vi i.length 1 (ybk 1 (i.length*1))):=HI2.out.turns ht (fun k hk hc=>(HF.out.2.1 k hk).2.2 hc)
 have HH3:Hid (RowsF B w3 vh hh.length U (lens hh) (yjk (1+(i.length:Int)) (lens hh))):=HH2.out.turns ht (fun k hk hc=>(HF.out.2.2.1 k hk).2 hc)
 have HE3:Hid (RowF C w3 vs ev.length 7 (ybk (1+(i.length:Int)+4*(sumL (lens hh) hh.length:Int)) (ev.length*7))):=hr
 clear hr ht HI2 HH2 HE2 HP2 HT2
 go_wp2
 go_ret
 exact⟨rfl,⟨A,B,C,vi,vh,vs,U,rfl,HI3.out,HH3.out,HE3.out,HF.out.2⟩,(Turns.of_below HB0.out).trans HT3.out⟩
end Go.Proofs.YtmobiieoecjmdaaGreat

namespace Go.Proofs.YtmobiieoecjmdaaGreat
open Go.RowKit
structure Em where
 t:Int
 l:Int
 v:Int
def xAt (l:List Em) (i:Nat):Em:=l.getD i ⟨0,0,0⟩
def Em.cs (e:Em):List Value:= [.int .i64 e.t,.int .i64 e.l,.int .i64 e.v]
def yaw:List Em→List Value
 | []=> []
 |e::l=>e.cs++yaw l
theorem ye8:∀l:List Em,(yaw l).length=l.length*3
 | []=>rfl
 |e::l=>by simp [yaw,ye8 l,Em.cs];omega
theorem yfm:∀l l':List Em,yaw (l++l')=yaw l++yaw l'
 | [],_=>rfl
 |e::l,l'=>by simp [yaw,yfm l l']
theorem yl0 (e:Em) (l:List Em) (i:Nat):xAt (e::l) (i+1)=xAt l i:=by simp [xAt]
theorem ydp:∀(l:List Em) (i r:Nat),i<l.length→r<3→(yaw l)[i*3+r]? =(xAt l i).cs[r]?
 | [],_,_,h,_=>by simp at h
 |e::l,0,r,_,hr=>by
  have:r<e.cs.length:=by simpa [Em.cs] using hr
  simp only [yaw,Nat.zero_mul,Nat.zero_add]
  rw [List.getElem?_append_left this]
  simp [xAt]
 |e::l,i+1,r,h,hr=>by
  have h1:=ydp l i r (by simpa using h) hr
  have:e.cs.length≤(i+1)*3+r:=by simp [Em.cs];omega
  simp only [yaw]
  rw [List.getElem?_append_right this,yl0,←h1]
  congr 1
  simp [Em.cs];omega
set_option maxHeartbeats 4000000
open Go.RowKit
theorem yjr {p:Prop} (h:p):Hid p:=h
structure XAt (w:World) (b o:Nat) (e:Em):Prop where
 f0:w.cell? ⟨b,o,none⟩=some (.int .i64 e.t)
 f1:w.cell? ⟨b,o+1,none⟩=some (.int .i64 e.l)
 f2:w.cell? ⟨b,o+2,none⟩=some (.int .i64 e.v)
theorem XAt.below {w w':World} {B b o:Nat} {e:Em} (h:XAt w b o e) (hb:Below B w w') (hlt:b<B):XAt w' b o e:=
 ⟨(hb.cell hlt).trans h.f0,(hb.cell hlt).trans h.f1,(hb.cell hlt).trans h.f2⟩
def XsAt (w:World) (b off:Nat) (l:List Em):Prop:=b<w.heap.size∧ ∀i,i<l.length→XAt w b (off+i*3) (xAt l i)
def IsX (w:World) (x:Value) (l:List Em):Prop:=∃a cap,x= .slice a l.length cap∧l.length≤cap∧cap≤maxLen∧(l= []∨ ∃b off,a=some ⟨b,off,none⟩∧XsAt w b off l)
theorem XsAt.below {w w':World} {B b off:Nat} {l:List Em} (h:XsAt w b off l) (hb:Below B w w') (hB:b<B):XsAt w' b off l:=
 ⟨Nat.lt_of_lt_of_le h.1 hb.size,fun i hi=>(h.2 i hi).below hb hB⟩
theorem IsX.below {w w':World} {x:Value} {l:List Em} (h:IsX w x l) (hb:Below w.heap.size w w'):IsX w' x l:=by
 obtain⟨a,cap,rfl,h1,h2,h⟩:=h
 exact⟨a,cap,rfl,h1,h2,h.imp id (fun⟨b,off,e,h⟩=>⟨b,off,e,h.below hb h.1⟩)⟩
theorem RowF.isX {F:Nat→Prop} {w:World} {x:Value} {l:List Em} (h:RowF F w x l.length 3 (yaw l)):IsX w x l:=by
 obtain⟨hl,a,cap,rfl,h1,h2,h⟩:=h
 refine⟨a,cap,rfl,h1,h2,h.imp List.eq_nil_of_length_eq_zero ?_⟩
 rintro ⟨g,rfl,hF,hg,hc⟩
 refine⟨g,0,rfl,hg,fun i hi=> ?_⟩
 have hget:∀r,r<3→w.cell? ⟨g,0+i*3+r,none⟩=(xAt l i).cs[r]? :=fun r hr=>by
  rw [←ydp l i r hi hr,Nat.zero_add]
  exact(hc _ (by omega)).1
 exact⟨hget 0 (by omega),hget 1 (by omega),hget 2 (by omega)⟩
theorem yp3 (t l v:Int) (w:World):
  Calls Tryz.prog 127 #[.agg #[.int .i64 t,.int .i64 l,.int .i64 v],.agg #[.int .i64 t,.int .i64 l,.int .i64 v]] w fun e w'=>e= .returned (.bool true)∧Below w.heap.size w w':=by
 go_enter Tryz.func127,Tryz.ntmps127
 go_wp2
 go_ret
 exact⟨rfl,((Below.refl _ _).alloc (Nat.le_refl _) _).alloc (by simp) _⟩
theorem yq6 (x y:Value) (l:List Em) (w:World) (hl:l.length≤1048576) (hx:IsX w x l) (hy:IsX w y l):
  Calls Tryz.prog 69 #[x,y] w fun e w'=>e= .returned (.bool true)∧Below w.heap.size w w':=by
 obtain⟨a,cap,rfl,h1,h2,h⟩:=hx
 obtain⟨a',cap',rfl,h1',h2',h'⟩:=hy
 clear h1 h2 h1' h2'
 by_cases hz:l= []
 ·subst hz
  clear h h'
  go_enter Tryz.func69,Tryz.ntmps69
  go_wp2
  go_loop [5] (fun i=>i= .int .i64 0) (fun _=>0)
  case atStart=>rfl
  case round=>
   subst hrel
   go_wp2
   go_ret
   exact⟨rfl,Below.refl _ _⟩
 ·obtain⟨b,off,rfl,hb,hc⟩:=h.resolve_left hz
  obtain⟨b',off',rfl,hb',hc'⟩:=h'.resolve_left hz
  clear h h' hz
  go_enter Tryz.func69,Tryz.ntmps69
  go_wp2
  go_loopw [5] (fun i wr=>∃k:Nat,k≤l.length∧i= .int .i64 k∧Below w.heap.size w wr) (fun i _=>l.length-(intOf i).toNat)
  case atStart=>exact⟨0,Nat.zero_le _,rfl,Below.refl _ _⟩
  case round=>
   obtain⟨k,hk,rfl,hB⟩:=hrel
   have HB:=yjr hB
   by_cases hlt:k<l.length
   ·obtain⟨f0,f1,f2⟩:=(hc k hlt).below hB hb
    obtain⟨e0,e1,e2⟩:=(hc' k hlt).below hB hb'
    have hbr:b<wr.heap.size:=Nat.lt_of_lt_of_le hb hB.size
    have hbr':b'<wr.heap.size:=Nat.lt_of_lt_of_le hb' hB.size
    clear hB hc hc'
    go_wp2_with fail
    go_region_held3 (fun W=>W.cell? ⟨b,off+k*3,none⟩=some (.int .i64 (xAt l k).t)∧W.cell? ⟨b,off+k*3+1,none⟩=some (.int .i64 (xAt l k).l)∧W.cell? ⟨b,off+k*3+2,none⟩=some (.int .i64 (xAt l k).v)∧W.cell? ⟨b',off'+k*3,none⟩=some (.int .i64 (xAt l k).t)∧W.cell? ⟨b',off'+k*3+1,none⟩=some (.int .i64 (xAt l k).l)∧W.cell? ⟨b',off'+k*3+2,none⟩=some (.int .i64 (xAt l k).v)) ((repeat' apply And.intro)<;>first|(go_keep;done)|(rw [hcA _ _ (by first|omega|(simp;omega)|simp [*])];simp [*];done))
     (first|(go_at_call 127;refine(yp3 _ _ _ _).mono ?_;rintro e w2 ⟨rfl,hb2⟩;obtain⟨hcA,hfA⟩:=ygs hb2))
    clear hcA hfA
    go_wp2
    go_roundw
    case rel=>exact⟨k+1,by omega,by go_num,HB.out.drew.trans (hb2.mono (by have:=HB.out.size;simpa using this))⟩
    case measure=>simp [intOf];omega
   ·clear hB hc hc'
    go_wp2
    go_ret
    exact⟨rfl,HB.out⟩
theorem markXF {F:Nat→Prop} {x:Value} {n:Nat} {cs:List Value} {w:World} (z:Int) (hn:n≤1048577) (hz0:0≤z) (hz1:z≤1073741824) (h:RowF F w x n 3 cs):
  Calls Tryz.prog 75 #[x,.int .i64 z] w fun e w'=>e= .returned (.int .i64 (z+3*(n:Int)))∧RowF F w' x n 3 (ybk z (n*3))∧Turns F w w':=by
 obtain⟨a,cap,rfl,h1,h2,h⟩:=h.mkTo z
 have HM:Hid (n≤cap∧cap≤maxLen):=⟨h1,h2⟩
 clear h1 h2
 by_cases hz:n=0
 ·subst hz
  clear h
  go_enter Tryz.func75,Tryz.ntmps75
  go_wp2
  go_loop [5,1] (fun i y=>i= .int .i64 0∧y= .int .i64 z) (fun _ _=>0)
  case atStart=>exact⟨rfl,rfl⟩
  case round=>
   obtain⟨rfl,rfl⟩:=hrel
   go_wp2
   go_ret
   exact⟨yau (by simp),RowF.nil HM.out.2,Turns.refl _ _⟩
 ·obtain⟨g,rfl,hF,h⟩:=h.resolve_left hz
  have HR0:=yjr h
  have HF:Hid (F g):=hF
  clear h hz hF
  go_enter Tryz.func75,Tryz.ntmps75
  go_wp2
  go_loopw [5,1] (fun i y wr=>∃k:Nat,k≤n∧i= .int .i64 k∧y= .int .i64 (z+3*(k:Int))∧MkTo wr g (n*3) z (k*3)∧Turns (fun b=>b=g) w wr) (fun i _ _=>n-(intOf i).toNat)
  case atStart=>exact⟨0,Nat.zero_le _,rfl,by simp,by rw [Nat.zero_mul];exact HR0.out,Turns.refl _ _⟩
  case round=>
   obtain⟨k,hk,rfl,rfl,hR,hg⟩:=hrel
   have HR:=yjr hR
   have HG:=yjr hg
   clear hR hg
   by_cases hlt:k<n
   ·have hh:∀j,j<3→(∃u,wr.cell? ⟨g,k*3+j,none⟩=some u)∧wr.frozen? ⟨g,k*3+j,none⟩=false:=fun j hj=>⟨Option.isSome_iff_exists.1 (HR.out.2.1 _ (by omega)).1,(HR.out.2.1 _ (by omega)).2⟩
    obtain⟨⟨v0,g0⟩,f0⟩:=hh 0 (by omega)
    obtain⟨⟨v1,g1⟩,f1⟩:=hh 1 (by omega)
    obtain⟨⟨v2,g2⟩,f2⟩:=hh 2 (by omega)
    rw [Nat.add_zero]at g0 f0
    clear hh
    obtain⟨y,hy⟩:∃y:Int,y=z+3*(k:Int):=⟨_,rfl⟩
    have hy0:0≤y:=by omega
    have hy1:y≤1090000000:=by omega
    have HY:=yjr hy
    rw [←hy]
    clear hy
    go_wp2
    go_roundw
    case rel=>
     have hY:=HY.out
     refine⟨k+1,by omega,by go_num,by rw [show y+1+1+1=z+3*((k+1:Nat):Int)from by omega],?_,?_⟩
     ·rw [show(k+1)*3=k*3+3 from by omega]
      exact((HR.out.put (by omega) (u:=y) (by omega)).put (by omega) (u:=y+1) (by omega)).put (by omega) (u:=y+1+1) (by omega)
     ·exact HG.out.trans (((yc9 wr g _ _).trans (yc9 _ _ _ _)).trans (yc9 _ _ _ _))
    case measure=>simp [intOf];omega
   ·go_wp2
    go_ret
    obtain rfl:k=n:=by omega
    exact⟨rfl,MkTo.row HR.out HF.out HM.out.1 HM.out.2,HG.out.mono (fun k e=>e▸HF.out)⟩
theorem heldXF {F:Nat→Prop} {x:Value} {n:Nat} {w:World} (z:Int) (hn:n≤1048577) (hz0:0≤z) (hz1:z≤1073741824) (h:RowF F w x n 3 (ybk z (n*3))):
  Calls Tryz.prog 77 #[x,.int .i64 z] w fun e w'=>e= .returned (.int .i64 (z+3*(n:Int)))∧w'=w:=by
 obtain⟨a,cap,rfl,hm⟩:=h.marked
 clear h
 by_cases hz:n=0
 ·subst hz
  clear hm
  go_enter Tryz.func77,Tryz.ntmps77
  go_wp2
  go_loop [5,1] (fun i y=>i= .int .i64 0∧y= .int .i64 z) (fun _ _=>0)
  case atStart=>exact⟨rfl,rfl⟩
  case round=>
   obtain⟨rfl,rfl⟩:=hrel
   go_wp2
   go_ret
   exact⟨yau (by simp),rfl⟩
 ·obtain⟨g,rfl,h⟩:=hm.resolve_left hz
  have HR:=yjr h
  clear h hz hm
  go_enter Tryz.func77,Tryz.ntmps77
  go_wp2
  go_loop [5,1] (fun i y=>∃k:Nat,k≤n∧i= .int .i64 k∧y= .int .i64 (z+3*(k:Int))) (fun i _=>n-(intOf i).toNat)
  case atStart=>exact⟨0,Nat.zero_le _,rfl,by simp⟩
  case round=>
   obtain⟨k,hk,rfl,rfl⟩:=hrel
   by_cases hlt:k<n
   ·have hh:=fun j (hj:j<3)=>HR.out (k*3+j) (by omega)
    obtain⟨y,hy⟩:∃y:Int,y=z+3*(k:Int):=⟨_,rfl⟩
    have g0:=hh 0 (by omega)
    rw [show z+((k*3+0:Nat):Int)=y from by omega]at g0
    have g1:=hh 1 (by omega)
    rw [show z+((k*3+1:Nat):Int)=y+1 from by omega]at g1
    have g2:=hh 2 (by omega)
    rw [show z+((k*3+2:Nat):Int)=y+1+1 from by omega]at g2
    rw [Nat.add_zero]at g0
    clear hh
    have hy0:0≤y:=by omega
    have hy1:y≤1090000000:=by omega
    have HY:=yjr hy
    rw [←hy]
    clear hy
    go_wp2
    go_round
    case rel=>exact⟨k+1,by omega,by go_num,by rw [show y+1+1+1=z+3*((k+1:Nat):Int)from by have:=HY.out;omega]⟩
    case measure=>simp [intOf];omega
   ·go_wp2
    go_ret
    obtain rfl:k=n:=by omega
    exact⟨rfl,rfl⟩
inductive Dat where
 |val (v:Value)
 |row (c n:Nat) (f:Nat→Dat)
inductive IsD (w : World) : Value → Dat → Prop
 |val (v:Value):IsD w v (.val v)
 |nil (a:Option Addr) (cap c:Nat) (f:Nat→Dat) (h:cap≤maxLen):IsD w (.slice a 0 cap) (.row c 0 f)
 |row (b off n cap c:Nat) (f:Nat→Dat) (U:Nat→Value) (h1:n≤cap) (h2:cap≤maxLen) (hb:b<w.heap.size) (hc:∀j,j<n*c→w.cell? ⟨b,off+j,none⟩=some (U j)) (hs:∀j,j<n*c→IsD w (U j) (f j)):IsD w (.slice (some ⟨b,off,none⟩) n cap) (.row c n f)
theorem IsD.under {w w':World} {x:Value} {d:Dat} (h:IsD w x d) (hb:Below w.heap.size w w'):IsD w' x d:=by
 induction h with
 |val v=>exact .val v
 |nil a cap c f h=>exact .nil a cap c f h
 |row b off n cap c f U h1 h2 hB hc hs ih=>exact .row b off n cap c f U h1 h2 (Nat.lt_of_lt_of_le hB hb.size) (fun j hj=>(hb.cell (p:=⟨b,off+j,none⟩) hB).trans (hc j hj)) ih
theorem IsD.parts {w:World} {x:Value} {c n:Nat} {f:Nat→Dat} (h:IsD w x (.row c n f)):∃a cap,x= .slice a n cap∧n≤cap∧cap≤maxLen∧
  (n=0∨ ∃b off,a=some ⟨b,off,none⟩∧b<w.heap.size∧ ∀j,j<n*c→ ∃u,w.cell? ⟨b,off+j,none⟩=some u∧IsD w u (f j)):=by
 cases h with
 |nil a cap _ _ h=>exact⟨a,cap,rfl,Nat.zero_le _,h,.inl rfl⟩
 |row b off _ cap _ _ U h1 h2 hB hc hs=>exact⟨_,cap,rfl,h1,h2,.inr ⟨b,off,rfl,hB,fun j hj=>⟨U j,hc j hj,hs j hj⟩⟩⟩
theorem IsD.of_parts {w:World} {a:Option Addr} {cap c n:Nat} {f:Nat→Dat} (h1:n≤cap) (h2:cap≤maxLen) (h:n=0∨ ∃b off,a=some ⟨b,off,none⟩∧b<w.heap.size∧ ∀j,j<n*c→ ∃u,w.cell? ⟨b,off+j,none⟩=some u∧IsD w u (f j)):IsD w (.slice a n cap) (.row c n f):=by
 rcases h with rfl|⟨b,off,rfl,hB,h⟩
 ·exact .nil a cap c f h2
 ·refine .row b off n cap c f (fun j=>(w.cell? ⟨b,off+j,none⟩).getD (.int .i64 0)) h1 h2 hB (fun j hj=> ?_) (fun j hj=> ?_)
  ·obtain⟨u,hu,_⟩:=h j hj
   rw [hu];rfl
  ·obtain⟨u,hu,hd⟩:=h j hj
   rw [hu];exact hd
theorem IsD.val_eq {w:World} {x v:Value} (h:IsD w x (.val v)):x=v:=by cases h;rfl
inductive OwnD (w : World) : (Nat → Prop) → Value → Dat → Prop
 |val (F:Nat→Prop) (v:Value):OwnD w F v (.val v)
 |nil (F:Nat→Prop) (a:Option Addr) (cap c:Nat) (f:Nat→Dat) (h:cap≤maxLen):OwnD w F (.slice a 0 cap) (.row c 0 f)
 |row (F:Nat→Prop) (g n cap c:Nat) (f:Nat→Dat) (U:Nat→Value) (G:Nat→Nat→Prop) (h1:n≤cap) (h2:cap≤maxLen) (hg:g<w.heap.size) (hF:F g)
   (hc:∀j,j<n*c→w.cell? ⟨g,j,none⟩=some (U j)∧w.frozen? ⟨g,j,none⟩=false) (hs:∀j,j<n*c→OwnD w (G j) (U j) (f j))
   (hG:∀j,j<n*c→ ∀k,G j k→F k∧k≠g) (hGG:∀i j,i<n*c→j<n*c→i≠j→ ∀k,G i k→ ¬G j k):OwnD w F (.slice (some ⟨g,0,none⟩) n cap) (.row c n f)
theorem OwnD.turns {S F:Nat→Prop} {w w':World} {x:Value} {d:Dat} (h:OwnD w F x d) (ht:Turns S w w') (hS:∀k,F k→ ¬S k):OwnD w' F x d:=by
 induction h with
 |val F v=>exact .val F v
 |nil F a cap c f h=>exact .nil F a cap c f h
 |row F g n cap c f U G h1 h2 hg hF hc hs hG hGG ih=>
  exact .row F g n cap c f U G h1 h2 (Nat.lt_of_lt_of_le hg ht.size) hF (fun j hj=>by rw [ht.cell hg (hS g hF),ht.frozen hg (hS g hF)];exact hc j hj) (fun j hj=>ih j hj fun k hk=>hS k (hG j hj k hk).1) hG hGG
theorem OwnD.under {F:Nat→Prop} {w w':World} {x:Value} {d:Dat} (h:OwnD w F x d) (hb:Below w.heap.size w w'):OwnD w' F x d:=
 h.turns (S:=fun _=>False) (Turns.of_below hb) (fun _ _=>id)
theorem OwnD.mono {F F':Nat→Prop} {w:World} {x:Value} {d:Dat} (h:OwnD w F x d) (hF:∀k,F k→F' k):OwnD w F' x d:=by
 cases h with
 |val=>exact .val F' _
 |nil F a cap c f h=>exact .nil F' a cap c f h
 |row F g n cap c f U G h1 h2 hg hF0 hc hs hG hGG=>
  exact .row F' g n cap c f U G h1 h2 hg (hF g hF0) hc hs (fun j hj k hk=>⟨hF k (hG j hj k hk).1,(hG j hj k hk).2⟩) hGG
theorem OwnD.isD {F:Nat→Prop} {w:World} {x:Value} {d:Dat} (h:OwnD w F x d):IsD w x d:=by
 induction h with
 |val F v=>exact .val v
 |nil F a cap c f h=>exact .nil a cap c f h
 |row F g n cap c f U G h1 h2 hg hF hc hs hG hGG ih=>
  exact .row g 0 n cap c f U h1 h2 hg (fun j hj=>by rw [Nat.zero_add];exact(hc j hj).1) ih
theorem OwnD.parts {F:Nat→Prop} {w:World} {x:Value} {c n:Nat} {f:Nat→Dat} (h:OwnD w F x (.row c n f)):∃a cap,x= .slice a n cap∧n≤cap∧cap≤maxLen∧
  (n=0∨ ∃g,a=some ⟨g,0,none⟩∧g<w.heap.size∧F g):=by
 cases h with
 |nil F a cap _ _ h=>exact⟨a,cap,rfl,Nat.zero_le _,h,.inl rfl⟩
 |row F g _ cap _ _ U G h1 h2 hg hF hc hs hG hGG=>exact⟨_,cap,rfl,h1,h2,.inr ⟨g,rfl,hg,hF⟩⟩
theorem OwnD.congr {F:Nat→Prop} {w:World} {x:Value} {c n:Nat} {f f':Nat→Dat} (h:OwnD w F x (.row c n f)) (hf:∀j,j<n*c→f j=f' j):OwnD w F x (.row c n f'):=by
 cases h with
 |nil F a cap _ _ h=>exact .nil F a cap c f' h
 |row F g _ cap _ _ U G h1 h2 hg hF hc hs hG hGG=>exact .row F g n cap c f' U G h1 h2 hg hF hc (fun j hj=>by rw [←hf j hj];exact hs j hj) hG hGG
def upd (f:Nat→Dat) (j:Nat) (d:Dat):Nat→Dat:=fun i=>if i=j then d else f i
theorem upd_same (f:Nat→Dat) (j:Nat) (d:Dat):upd f j d j=d:=by simp [upd]
theorem upd_ne (f:Nat→Dat) {i j:Nat} (d:Dat) (h:i≠j):upd f j d i=f i:=by simp [upd,h]
theorem OwnD.step {F:Nat→Prop} {w:World} {g n cap c:Nat} {f:Nat→Dat} (h:OwnD w F (.slice (some ⟨g,0,none⟩) n cap) (.row c n f)) {j:Nat} (hj:j<n*c):
  ∃u K,w.cell? ⟨g,j,none⟩=some u∧w.frozen? ⟨g,j,none⟩=false∧OwnD w K u (f j)∧(∀k,K k→F k∧k≠g)∧
   ∀w' d',OwnD w' K u d'→Turns K w w'→OwnD w' F (.slice (some ⟨g,0,none⟩) n cap) (.row c n (upd f j d')):=by
 cases h with
 |nil F a cap _ _ h=>omega
 |row F g _ cap _ _ U G h1 h2 hg hF hc hs hG hGG=>
  refine⟨U j,G j,(hc j hj).1,(hc j hj).2,hs j hj,hG j hj,fun w' d' hd ht=> ?_⟩
  have hgK:¬G j g:=fun e=>(hG j hj g e).2 rfl
  refine .row F g n cap c _ U G h1 h2 (Nat.lt_of_lt_of_le hg ht.size) hF (fun i hi=>by rw [ht.cell hg hgK,ht.frozen hg hgK];exact hc i hi) (fun i hi=> ?_) hG hGG
  by_cases e:i=j
  ·subst e;rw [upd_same];exact hd
  ·rw [upd_ne _ _ e];exact(hs i hi).turns ht (fun k hk hk'=>hGG i j hi hj e k hk hk')
theorem OwnD.lt {F:Nat→Prop} {w:World} {g n cap c:Nat} {f:Nat→Dat} (h:OwnD w F (.slice (some ⟨g,0,none⟩) n cap) (.row c n f)) (hn:0<n):g<w.heap.size∧F g:=by
 cases h with
 |nil F a cap _ _ h=>omega
 |row F g _ cap _ _ U G h1 h2 hg hF hc hs hG hGG=>exact⟨hg,hF⟩
theorem cell_put {w:World} {g j:Nat} {u v:Value} (h:w.cell? ⟨g,j,none⟩=some u):(w.setCell ⟨g,j,none⟩ v).cell? ⟨g,j,none⟩=some v:=by
 have e1:w.setCell ⟨g,j,none⟩ v=w.setCells g j [v]:=rfl
 rw [e1]
 have h0:=World.cell?_setCells_in g [v] j w (fun i hi=>by
  obtain rfl:i=0:=by simpa using hi
  rw [Nat.add_zero,h];rfl) 0 (by simp)
 simpa using h0
theorem ysl {w:World} {g j i:Nat} {v:Value} (h:i≠j):(w.setCell ⟨g,j,none⟩ v).cell? ⟨g,i,none⟩=w.cell? ⟨g,i,none⟩:=by
 have e1:w.setCell ⟨g,j,none⟩ v=w.setCells g j [v]:=rfl
 rw [e1]
 exact World.cell?_setCells_out g _ j w ⟨g,i,none⟩ (fun _ _=>by simp;omega)
theorem ysc {w:World} {g j i:Nat} {v:Value}:(w.setCell ⟨g,j,none⟩ v).frozen? ⟨g,i,none⟩=w.frozen? ⟨g,i,none⟩:=by
 have e1:w.setCell ⟨g,j,none⟩ v=w.setCells g j [v]:=rfl
 rw [e1,World.frozen?_setCells]
theorem OwnD.put {F K:Nat→Prop} {w:World} {g n cap c:Nat} {f:Nat→Dat} {u:Value} {d:Dat} (h:OwnD w F (.slice (some ⟨g,0,none⟩) n cap) (.row c n f)) {j:Nat} (hj:j<n*c) (hu:OwnD w K u d) (hK:∀k,K k→ ¬F k):
  OwnD (w.setCell ⟨g,j,none⟩ u) (fun k=>F k∨K k) (.slice (some ⟨g,0,none⟩) n cap) (.row c n (upd f j d)):=by
 cases h with
 |nil F a cap _ _ h=>omega
 |row F g _ cap _ _ U G h1 h2 hg hF hc hs hG hGG=>
  have ht:Turns (fun b=>b=g) w (w.setCell ⟨g,j,none⟩ u):=ya1 w g j u
  refine .row _ g n cap c _ (fun i=>if i=j then u else U i) (fun i=>if i=j then K else G i) h1 h2 (Nat.lt_of_lt_of_le hg ht.size) (.inl hF) (fun i hi=> ?_) (fun i hi=> ?_) (fun i hi k hk=> ?_) (fun i i' hi hi' hii k hk hk'=> ?_)
  ·refine⟨?_,by rw [ysc];exact(hc i hi).2⟩
   by_cases e:i=j
   ·subst e;simp only [if_true];exact cell_put (hc i hi).1
   ·simp only [if_neg e];rw [ysl e];exact(hc i hi).1
  ·by_cases e:i=j
   ·subst e;simp only [if_true,upd_same];exact hu.turns ht (fun k hk e=>hK k hk (e▸hF))
   ·simp only [if_neg e];rw [upd_ne _ _ e];exact(hs i hi).turns ht (fun k hk=>(hG i hi k hk).2)
  ·by_cases e:i=j
   ·subst e;simp only [if_true]at hk;exact⟨.inr hk,fun e=>hK k hk (e▸hF)⟩
   ·simp only [if_neg e]at hk;exact⟨.inl (hG i hi k hk).1,(hG i hi k hk).2⟩
  ·by_cases e:i=j
   ·subst e
    simp only [if_true]at hk
    rw [if_neg (Ne.symm hii)]at hk'
    exact hK k hk (hG i' hi' k hk').1
   ·simp only [if_neg e]at hk
    by_cases e':i'=j
    ·subst e'
     simp only [if_true]at hk'
     exact hK k hk' (hG i hi k hk).1
    ·simp only [if_neg e']at hk'
     exact hGG i i' hi hi' hii k hk hk'
theorem OwnD.put_val {F:Nat→Prop} {w:World} {g n cap c:Nat} {f:Nat→Dat} (h:OwnD w F (.slice (some ⟨g,0,none⟩) n cap) (.row c n f)) {j:Nat} (hj:j<n*c) (u:Value):
  OwnD (w.setCell ⟨g,j,none⟩ u) F (.slice (some ⟨g,0,none⟩) n cap) (.row c n (upd f j (.val u))):=
 (h.put hj (OwnD.val (fun _=>False) u) (fun _=>False.elim)).mono (fun _ hk=>hk.elim id False.elim)
def flat (c n:Nat) (cs:List Value):Dat:= .row c n (fun j=> .val (cs.getD j (.int .i64 0)))
theorem yba {cs:List Value} {j:Nat} {u:Value} (h:cs[j]? =some u):cs.getD j (.int .i64 0)=u:=by simp [h]
theorem RowF.own {F:Nat→Prop} {w:World} {x:Value} {n c:Nat} {cs:List Value} (h:RowF F w x n c cs):OwnD w F x (flat c n cs):=by
 obtain⟨hl,a,cap,rfl,h1,h2,h⟩:=h
 rcases h with rfl|⟨g,rfl,hF,hg,hc⟩
 ·exact .nil F a cap c _ h2
 ·refine .row F g n cap c _ (fun j=>cs.getD j (.int .i64 0)) (fun _ _=>False) h1 h2 hg hF (fun j hj=>⟨?_,(hc j hj).2⟩) (fun j hj=> .val _ _) (fun _ _ _=>False.elim) (fun _ _ _ _ _ _=>False.elim)
  rw [(hc j hj).1,List.getElem?_eq_getElem (by omega),yba (List.getElem?_eq_getElem (by omega))]
theorem OwnD.rowF {F:Nat→Prop} {w:World} {x:Value} {n c:Nat} {cs:List Value} (h:OwnD w F x (flat c n cs)) (hl:cs.length=n*c):RowF F w x n c cs:=by
 unfold flat at h
 cases h with
 |nil F a cap _ _ h=>exact⟨hl,a,cap,rfl,Nat.zero_le _,h,.inl rfl⟩
 |row F g _ cap _ _ U G h1 h2 hg hF hc hs hG hGG=>
  refine⟨hl,_,cap,rfl,h1,h2,.inr ⟨g,rfl,hF,hg,fun j hj=>⟨?_,(hc j hj).2⟩⟩⟩
  have:=(hs j hj).isD.val_eq
  rw [(hc j hj).1,this,List.getElem?_eq_getElem (by omega),yba (List.getElem?_eq_getElem (by omega))]
def Dat.cnt:Dat→Nat
 | .val _=>1
 | .row c n f=>sumL (fun j=>(f j).cnt) (n*c)
def mark1 (v:Value) (z:Int):Value:=match v with
 | .bool _=> .bool (decide (z%3=0))
 |_=> .int .i64 z
def Dat.mark:Dat→Int→Dat
 | .val v,z=> .val (mark1 v z)
 | .row c n f,z=> .row c n (fun j=>(f j).mark (z+(sumL (fun i=>(f i).cnt) j:Int)))
theorem yf0 {L L':Nat→Nat}:∀{n:Nat},(∀j,j<n→L j=L' j)→sumL L n=sumL L' n
 |0,_=>rfl
 |n+1,h=>by simp only [sumL];rw [yf0 (fun j hj=>h j (by omega)),h n (by omega)]
theorem yl6:∀n:Nat,sumL (fun _=>1) n=n
 |0=>rfl
 |n+1=>by simp only [sumL];rw [yl6 n]
theorem yj0 (c n:Nat) (cs:List Value):(flat c n cs).cnt=n*c:=by
 simp only [flat,Dat.cnt]
 exact yl6 _
theorem yfk {F:Nat→Prop} {w:World} {x:Value} {c n:Nat} {cs:List Value} {z:Int} (h:OwnD w F x (flat c n (ybk z (n*c)))) (hi:∀u∈cs,∃i,u= .int .i64 i):OwnD w F x ((flat c n cs).mark z):=by
 refine OwnD.congr (f:=fun j=> .val ((ybk z (n*c)).getD j (.int .i64 0))) h (fun j hj=> ?_)
 rw [yba (yh4 hj)]
 simp only [Dat.mark,Dat.cnt,yl6]
 congr 1
 by_cases hj':j<cs.length
 ·obtain⟨i,e⟩:=hi _ (List.getElem_mem hj')
  rw [yba (List.getElem?_eq_getElem hj'),e];rfl
 ·rw [show cs.getD j (.int .i64 0)= .int .i64 0 from by simp [List.getElem?_eq_none (Nat.le_of_not_lt hj')]];rfl
def Dat.wt:Dat→Nat
 | .val _=>0
 | .row c n f=>n+sumL (fun j=>(f j).wt) (n*c)
def Dat.thin:Dat→Prop
 | .val _=>True
 | .row c _ f=>c≤40∧ ∀j,(f j).thin
theorem ykl {L L':Nat→Nat} (K:Nat):∀{n:Nat},(∀j,j<n→L j≤1+K*L' j)→sumL L n≤n+K*sumL L' n
 |0,_=>by simp [sumL]
 |n+1,h=>by
  simp only [sumL]
  have h1:=ykl K (n:=n) (fun j hj=>h j (by omega))
  have h2:=h n (by omega)
  rw [Nat.mul_add]
  omega
theorem Dat.cnt_le1:∀d:Dat,d.thin→d.cnt≤1+40*d.wt∧(∀c n f,d= .row c n f→d.cnt≤40*d.wt)
 | .val _,_=>⟨by simp [Dat.cnt],fun _ _ _ e=>by cases e⟩
 | .row c n f,h=>by
  have h1:sumL (fun j=>(f j).cnt) (n*c)≤n*c+40*sumL (fun j=>(f j).wt) (n*c):=ykl 40 (fun j _=>(Dat.cnt_le1 (f j) (h.2 j)).1)
  have h2:n*c≤n*40:=Nat.mul_le_mul_left n h.1
  have h3:(Dat.row c n f).cnt≤40*(Dat.row c n f).wt:=by
   simp only [Dat.cnt,Dat.wt,Nat.mul_add]
   omega
  exact⟨by omega,fun _ _ _ _=>h3⟩
theorem Dat.cnt_le {c n:Nat} {f:Nat→Dat} (h:(Dat.row c n f).thin):(Dat.row c n f).cnt≤40*(Dat.row c n f).wt:=(Dat.cnt_le1 _ h).2 c n f rfl
theorem yjw (c n:Nat) (cs:List Value):(flat c n cs).wt=n:=by
 simp only [flat,Dat.wt]
 have:∀k,sumL (fun _=>0) k=0:=fun k=>by induction k with
  |zero=>rfl
  |succ k ih=>simp [sumL,ih]
 rw [this];rfl
theorem yg7 {c n:Nat} {cs:List Value} (h:c≤40):(flat c n cs).thin:=⟨h,fun _=>trivial⟩
def yaq (l:List Int):Dat:=flat 1 l.length (intCells l)
def evsD (l:List Ev):Dat:=flat 7 l.length (yag l)
def emsD (l:List Em):Dat:=flat 3 l.length (yaw l)
theorem IsI.isD {w:World} {x:Value} {l:List Int} (h:IsI w x l):IsD w x (yaq l):=by
 obtain⟨a,cap,rfl,h1,h2,h⟩:=h
 refine IsD.of_parts h1 h2 (h.imp (fun e=>by rw [e];rfl) ?_)
 rintro ⟨b,off,rfl,hb,hc⟩
 refine⟨b,off,rfl,hb,fun j hj=> ?_⟩
 have hj':j<l.length:=by omega
 refine⟨_,hc j hj',?_⟩
 rw [show(intCells l).getD j (.int .i64 0)= .int .i64 (intAt l j)from yba (by simp [intCells,intAt,hj'])]
 exact .val _
theorem IsD.isI {w:World} {x:Value} {l:List Int} (h:IsD w x (yaq l)):IsI w x l:=by
 obtain⟨a,cap,rfl,h1,h2,h⟩:=IsD.parts (c:=1) (n:=l.length) h
 refine⟨a,cap,rfl,h1,h2,h.imp List.eq_nil_of_length_eq_zero ?_⟩
 rintro ⟨b,off,rfl,hb,hc⟩
 refine⟨b,off,rfl,hb,fun j hj=> ?_⟩
 obtain⟨u,hu,hd⟩:=hc j (by omega)
 rw [hu,hd.val_eq,show(intCells l).getD j (.int .i64 0)= .int .i64 (intAt l j)from yba (by simp [intCells,intAt,hj])]
theorem IsEvs.isD {w:World} {x:Value} {l:List Ev} (h:IsEvs w x l):IsD w x (evsD l):=by
 obtain⟨a,cap,rfl,h1,h2,h⟩:=h
 refine IsD.of_parts h1 h2 (h.imp (fun e=>by rw [e];rfl) ?_)
 rintro ⟨b,off,rfl,hb,hc⟩
 refine⟨b,off,rfl,hb,fun j hj=> ?_⟩
 have hi:j/7<l.length:=by omega
 have hr:j%7<7:=by omega
 have hE:=hc (j/7) hi
 have hg:=ydq l (j/7) (j%7) hi hr
 rw [show j/7*7+j%7=j from by omega]at hg
 have hall:∀r,r<7→ ∃u,w.cell? ⟨b,off+j/7*7+r,none⟩=some u∧(evAt l (j/7)).cs[r]? =some u:=fun r hr=>by
  match r,hr with
  |0,_=>exact⟨_,hE.f0,rfl⟩
  |1,_=>exact⟨_,hE.f1,rfl⟩
  |2,_=>exact⟨_,hE.f2,rfl⟩
  |3,_=>exact⟨_,hE.f3,rfl⟩
  |4,_=>exact⟨_,hE.f4,rfl⟩
  |5,_=>exact⟨_,hE.f5,rfl⟩
  |6,_=>exact⟨_,hE.f6,rfl⟩
 obtain⟨u,h3,h4⟩:=hall _ hr
 refine⟨u,by rw [←h3];congr 2;omega,?_⟩
 rw [show(yag l).getD j (.int .i64 0)=u from yba (hg.trans h4)]
 exact .val _
theorem IsD.isEvs {w:World} {x:Value} {l:List Ev} (h:IsD w x (evsD l)):IsEvs w x l:=by
 obtain⟨a,cap,rfl,h1,h2,h⟩:=IsD.parts (c:=7) (n:=l.length) h
 refine⟨a,cap,rfl,h1,h2,h.imp List.eq_nil_of_length_eq_zero ?_⟩
 rintro ⟨b,off,rfl,hb,hc⟩
 refine⟨b,off,rfl,hb,fun i hi=> ?_⟩
 have hget:∀r,r<7→w.cell? ⟨b,off+i*7+r,none⟩=(evAt l i).cs[r]? :=fun r hr=>by
  obtain⟨u,hu,hd⟩:=hc (i*7+r) (by omega)
  rw [Nat.add_assoc,hu,hd.val_eq]
  have hg:=ydq l i r hi hr
  have:r<(evAt l i).cs.length:=by simpa [Ev.cs] using hr
  rw [List.getElem?_eq_getElem this]at hg⊢
  rw [yba hg]
 exact⟨hget 0 (by omega),hget 1 (by omega),hget 2 (by omega),hget 3 (by omega),hget 4 (by omega),hget 5 (by omega),hget 6 (by omega)⟩
theorem IsX.isD {w:World} {x:Value} {l:List Em} (h:IsX w x l):IsD w x (emsD l):=by
 obtain⟨a,cap,rfl,h1,h2,h⟩:=h
 refine IsD.of_parts h1 h2 (h.imp (fun e=>by rw [e];rfl) ?_)
 rintro ⟨b,off,rfl,hb,hc⟩
 refine⟨b,off,rfl,hb,fun j hj=> ?_⟩
 have hi:j/3<l.length:=by omega
 have hr:j%3<3:=by omega
 have hE:=hc (j/3) hi
 have hg:=ydp l (j/3) (j%3) hi hr
 rw [show j/3*3+j%3=j from by omega]at hg
 have hall:∀r,r<3→ ∃u,w.cell? ⟨b,off+j/3*3+r,none⟩=some u∧(xAt l (j/3)).cs[r]? =some u:=fun r hr=>by
  match r,hr with
  |0,_=>exact⟨_,hE.f0,rfl⟩
  |1,_=>exact⟨_,hE.f1,rfl⟩
  |2,_=>exact⟨_,hE.f2,rfl⟩
 obtain⟨u,h3,h4⟩:=hall _ hr
 refine⟨u,by rw [←h3];congr 2;omega,?_⟩
 rw [show(yaw l).getD j (.int .i64 0)=u from yba (hg.trans h4)]
 exact .val _
theorem IsD.isX {w:World} {x:Value} {l:List Em} (h:IsD w x (emsD l)):IsX w x l:=by
 obtain⟨a,cap,rfl,h1,h2,h⟩:=IsD.parts (c:=3) (n:=l.length) h
 refine⟨a,cap,rfl,h1,h2,h.imp List.eq_nil_of_length_eq_zero ?_⟩
 rintro ⟨b,off,rfl,hb,hc⟩
 refine⟨b,off,rfl,hb,fun i hi=> ?_⟩
 have hget:∀r,r<3→w.cell? ⟨b,off+i*3+r,none⟩=(xAt l i).cs[r]? :=fun r hr=>by
  obtain⟨u,hu,hd⟩:=hc (i*3+r) (by omega)
  rw [Nat.add_assoc,hu,hd.val_eq]
  have hg:=ydp l i r hi hr
  have:r<(xAt l i).cs.length:=by simpa [Em.cs] using hr
  rw [List.getElem?_eq_getElem this]at hg⊢
  rw [yba hg]
 exact⟨hget 0 (by omega),hget 1 (by omega),hget 2 (by omega)⟩
set_option maxHeartbeats 2000000
open Go.RowKit
theorem ynd {p:Prop} (h:p):Hid p:=h
structure St where
 r:List Int
 q:Int
 d:Int
def IsS (w:World) (x:Value) (s:St):Prop:=∃vr,x= .agg #[vr,.int .i64 s.q,.int .i64 s.d]∧IsI w vr s.r
theorem IsS.below {w w':World} {x:Value} {s:St} (h:IsS w x s) (hb:Below w.heap.size w w'):IsS w' x s:=by
 obtain⟨vr,rfl,h⟩:=h
 exact⟨vr,rfl,h.below hb⟩
def StF (F:Nat→Prop) (w:World) (x:Value) (s:St):Prop:=∃vr,x= .agg #[vr,.int .i64 s.q,.int .i64 s.d]∧RowF F w vr s.r.length 1 (intCells s.r)
abbrev put3 (w:World) (R:Nat) (v0 v1 v2:Value):World:=((w.setCell ⟨R,0,none⟩ v0).setCell ⟨R,1,none⟩ v1).setCell ⟨R,2,none⟩ v2
theorem Bk.put3 {w:World} {R:Nat} {T:TypeId} {a0 a1 a2:Value} (h:Bk w R T #[a0,a1,a2]) (v0 v1 v2:Value):Bk (put3 w R v0 v1 v2) R T #[v0,v1,v2]:=
 ((h.put 0 v0).put 1 v1).put 2 v2
theorem yrc (w:World) (R:Nat) (v0 v1 v2:Value):Turns (fun b=>b=R) w (put3 w R v0 v1 v2):=
 ((ya1 w R 0 v0).trans (ya1 _ R 1 v1)).trans (ya1 _ R 2 v2)
theorem yim (x y:Value) (s:St) (w:World) (hs:s.r.length≤1048576) (hx:IsS w x s) (hy:IsS w y s):
  Calls Tryz.prog 175 #[x,y] w fun e w'=>e= .returned (.bool true)∧Below w.heap.size w w':=by
 obtain⟨vr,rfl,h1⟩:=hx
 obtain⟨ur,rfl,k1⟩:=hy
 obtain⟨l,q,d⟩:=s
 have HI:Hid (IsI w vr l∧IsI w ur l):=⟨h1,k1⟩
 have HS:Hid (l.length≤4611686018427387904):=(by have:l.length≤1048576:=hs;omega:l.length≤4611686018427387904)
 clear h1 k1 hs
 obtain⟨W0,hW0⟩:∃W0,(w.alloc (.cells #[vr,.int .i64 q,.int .i64 d] 94)).alloc (.cells #[ur,.int .i64 q,.int .i64 d] 94)=W0:=⟨_,rfl⟩
 have HB0:=hdq (beA2 hW0)
 have HP0:=hdq (bkA2 hW0)
 have HQ0:=hdq (bkB2 hW0)
 have p0:=HP0.out.cell (i:=0) rfl
 have q0:=HQ0.out.cell (i:=0) rfl
 go_enter Tryz.func175,Tryz.ntmps175
 go_wp2_with fail
 clear p0 q0 hW0
 refine(ylw _ _ l _ HS.out (HI.out.1.below HB0.out) (HI.out.2.below HB0.out)).mono ?_
 rintro e w1 ⟨rfl,hb⟩
 have HB1:=trh HB0 hb
 have p1:=(HP0.out.below hb).cell (i:=1) rfl
 have q1:=(HQ0.out.below hb).cell (i:=1) rfl
 have p2:=(HP0.out.below hb).cell (i:=2) rfl
 have q2:=(HQ0.out.below hb).cell (i:=2) rfl
 clear hb HB0 HP0 HQ0
 go_wp2
 go_ret
 exact⟨rfl,HB1.out⟩
theorem yj5 (x:Value) (s:St) (w:World) (hs:s.r.length≤1048576) (h:IsS w x s):
  Calls Tryz.prog 152 #[x] w fun e w'=>∃y,e= .returned y∧Below w.heap.size w w'∧StF (fun k=>w.heap.size≤k∧k<w'.heap.size) w' y s:=by
 obtain⟨vr,rfl,h1⟩:=h
 obtain⟨i,n,z⟩:=s
 have HI:Hid (IsI w vr i):=h1
 have HS:Hid (i.length≤1048576):=hs
 clear h1 hs
 obtain⟨W0,hW0⟩:∃W0,((w.alloc (.cells #[vr,.int .i64 n,.int .i64 z] 141)).alloc (.cells #[.slice none 0 0,.int .i64 0,.int .i64 0] 94)).alloc (.cells #[.slice none 0 0,.int .i64 0,.int .i64 0] 94)=W0:=⟨_,rfl⟩
 have HB0:Hid (Below w.heap.size w W0):=by rw [←hW0];exact(((Below.refl _ w).alloc (Nat.le_refl _) _).alloc (by simp) _).alloc (by simp;omega) _
 have HP0:Hid (Bk W0 w.heap.size 141 #[vr,.int .i64 n,.int .i64 z]):=by rw [←hW0];exact((Bk.new w _ _).alloc _).alloc _
 have HR0:Hid (Bk W0 (w.heap.size+1) 94 #[.slice none 0 0,.int .i64 0,.int .i64 0]):=by rw [←hW0];exact(Bk.newAt (by simp) _ _).alloc _
 have HQ0:Hid (Bk W0 (w.heap.size+1+1) 94 #[.slice none 0 0,.int .i64 0,.int .i64 0]):=by rw [←hW0];exact Bk.newAt (by simp) _ _
 have HW0:=ynd hW0
 clear hW0
 go_enter Tryz.func152,Tryz.ntmps152
 go_wp2_with fail
 rw [HW0.out]
 clear HW0
 refine(yo2 _ i _ HS.out (HI.out.below HB0.out)).mono ?_
 rintro e w1 ⟨rfl,hb,hr⟩
 have HI1:=ynd hr
 have hz1:W0.heap.size<w1.heap.size:=hr.1
 have hq:=HQ0.out.lt
 have HX1:=ynd (HB0.out.trans (hb.mono (by omega)))
 have HPa:=HP0.out.below hb
 have HRa:=HR0.out.below hb
 have HQa:=HQ0.out.below hb
 clear hb hr HB0 HP0 HR0 HQ0
 obtain⟨X1,hX1⟩:∃X1,w1.setCell ⟨w.heap.size+1+1,0,none⟩ (sl W0.heap.size i.length)=X1:=⟨_,rfl⟩
 obtain⟨X2,hX2⟩:∃X2,X1.setCell ⟨w.heap.size+1+1,1,none⟩ (.int .i64 n)=X2:=⟨_,rfl⟩
 obtain⟨X3,hX3⟩:∃X3,X2.setCell ⟨w.heap.size+1+1,2,none⟩ (.int .i64 z)=X3:=⟨_,rfl⟩
 have a0:=HQa.cell (i:=0) rfl
 have af:=HQa.free
 have HP1:Bk X1 w.heap.size 141 #[vr,.int .i64 n,.int .i64 z]:=hX1▸HPa.other 0 _ (by omega)
 have HR1:Bk X1 (w.heap.size+1) 94 #[.slice none 0 0,.int .i64 0,.int .i64 0]:=hX1▸HRa.other 0 _ (by omega)
 have HQ1:Bk X1 (w.heap.size+1+1) 94 #[sl W0.heap.size i.length,.int .i64 0,.int .i64 0]:=hX1▸HQa.put 0 _
 have p1:=HP1.cell (i:=1) rfl
 have b1:=HQ1.cell (i:=1) rfl
 have bf:=HQ1.free
 have HP2:Bk X2 w.heap.size 141 #[vr,.int .i64 n,.int .i64 z]:=hX2▸HP1.other 1 _ (by omega)
 have HR2:Bk X2 (w.heap.size+1) 94 #[.slice none 0 0,.int .i64 0,.int .i64 0]:=hX2▸HR1.other 1 _ (by omega)
 have HQ2:Bk X2 (w.heap.size+1+1) 94 #[sl W0.heap.size i.length,.int .i64 n,.int .i64 0]:=hX2▸HQ1.put 1 _
 have p2:=HP2.cell (i:=2) rfl
 have c2:=HQ2.cell (i:=2) rfl
 have cf:=HQ2.free
 have HR3:Bk X3 (w.heap.size+1) 94 #[.slice none 0 0,.int .i64 0,.int .i64 0]:=hX3▸HR2.other 2 _ (by omega)
 have HQ3:Bk X3 (w.heap.size+1+1) 94 #[sl W0.heap.size i.length,.int .i64 n,.int .i64 z]:=hX3▸HQ2.put 2 _
 obtain⟨o0,o1,o2⟩:=c3_3 HQ3
 obtain⟨r0,r1,r2⟩:=c3_3 HR3
 have rf:=HR3.free
 have HR4:=ynd HR3
 have t1:=ya1 w1 (w.heap.size+1+1) 0 (sl W0.heap.size i.length)
 have t2:=ya1 X1 (w.heap.size+1+1) 1 (.int .i64 n)
 have t3:=ya1 X2 (w.heap.size+1+1) 2 (.int .i64 z)
 rw [hX1]at t1
 rw [hX2]at t2
 rw [hX3]at t3
 have HT:=ynd ((t1.trans t2).trans t3)
 clear HPa HRa HQa HP1 HR1 HQ1 HP2 HR2 HQ2 HR3 HQ3 t1 t2 t3
 go_wp2
 clear o0 o1 o2 r0 r1 r2 rf a0 af p1 b1 bf p2 c2 cf
 obtain⟨X5,hX5⟩:∃X5,put3 X3 (w.heap.size+1) (.slice (some ⟨W0.heap.size,0,none⟩) i.length i.length) (.int .i64 n) (.int .i64 z)=X5:=⟨_,rfl⟩
 have hR:=HR4.out.put3 (.slice (some ⟨W0.heap.size,0,none⟩) i.length i.length) (.int .i64 n) (.int .i64 z)
 have ht:=yrc X3 (w.heap.size+1) (.slice (some ⟨W0.heap.size,0,none⟩) i.length i.length) (.int .i64 n) (.int .i64 z)
 rw [hX5]at hR ht
 unfold put3 at hX5
 rw [hX5]
 obtain⟨t0,t1,t2⟩:=c3_3 hR
 have hT:Turns (fun k=>k=w.heap.size+1+1∨k=w.heap.size+1) w1 X5:=(HT.out.mono (fun k e=> .inl e)).trans (ht.mono (fun k e=> .inr e))
 have hsz:=hT.size
 refine bodyPost_ret (v:= .agg #[sl W0.heap.size i.length,.int .i64 n,.int .i64 z]) (by simp [results,Tryz.results152,go_sem,t0,t1,t2]) rfl
  ⟨_,rfl,HX1.out.trans (hT.to_below (fun k e=>by omega) (by omega)),_,rfl,?_⟩
 exact((HI1.out.rowF (by have:=HS.out;unfold maxLen;omega)).turns hT (fun k e=>by omega)).mono (fun k e=>by omega)
set_option maxHeartbeats 2000000
open Go.RowKit
theorem ylp {p:Prop} (h:p):Hid p:=h
def SzR (n:Nat) (left r:Int):Prop:=r= -1∨(0≤r∧r+(n:Int)=left)
theorem yt1 (n:Nat) (left:Int):SzR n left (szN n left):=by
 unfold szN
 split
 ·exact .inl rfl
 ·exact .inr ⟨by omega,by omega⟩
theorem ys1 (l:List Int):∀u∈intCells l,∃i,u= .int .i64 i:=by
 intro u hu
 simp only [intCells,List.mem_map]at hu
 obtain⟨i,_,rfl⟩:=hu
 exact⟨i,rfl⟩
theorem yk0:∀(l:List Ev),∀u∈yag l,∃i,u= .int .i64 i
 | [],u,hu=>by cases hu
 |e::l,u,hu=>by
  rcases List.mem_append.1 hu with h|h
  ·simp [Ev.cs]at h
   rcases h with rfl|rfl|rfl|rfl|rfl|rfl|rfl<;>exact⟨_,rfl⟩
  ·exact yk0 l u h
theorem yk1:∀(l:List Em),∀u∈yaw l,∃i,u= .int .i64 i
 | [],u,hu=>by cases hu
 |e::l,u,hu=>by
  rcases List.mem_append.1 hu with h|h
  ·simp [Em.cs]at h
   rcases h with rfl|rfl|rfl<;>exact⟨_,rfl⟩
  ·exact yk1 l u h
theorem IsD.len {w:World} {x:Value} {c n:Nat} {f:Nat→Dat} (h:IsD w x (.row c n f)):∃a cap,x= .slice a n cap∧n≤maxLen:=by
 obtain⟨a,cap,rfl,h1,h2,_⟩:=h.parts
 exact⟨a,cap,rfl,Nat.le_trans h1 h2⟩
theorem szX_any (a:Option Addr) (n cap:Nat) (left:Int) (w:World) (hn:n≤maxLen) (h0:0≤left) (h1:left≤1048576):
  Calls Tryz.prog 57 #[.slice a n cap,.int .i64 left] w fun e w'=>e= .returned (.int .i64 (szN n left))∧w'=w:=by
 unfold maxLen at hn
 by_cases hp:left-(n:Int)<0
 ·go_enter Tryz.func57,Tryz.ntmps57
  go_wp2
  go_ret
  exact⟨yau (by unfold szN;rw [if_pos hp]),rfl⟩
 ·go_enter Tryz.func57,Tryz.ntmps57
  go_wp2
  go_ret
  exact⟨yau (by unfold szN;rw [if_neg (by omega)]),rfl⟩
theorem yqz (t l v:Int) (w:World):
  Calls Tryz.prog 109 #[.agg #[.int .i64 t,.int .i64 l,.int .i64 v]] w fun e w'=>e= .returned (.agg #[.int .i64 t,.int .i64 l,.int .i64 v])∧Below w.heap.size w w':=by
 go_enter Tryz.func109,Tryz.ntmps109
 go_wp2
 refine bodyPost_ret (v:= .agg #[.int .i64 t,.int .i64 l,.int .i64 v]) (by simp [results,Tryz.results109,go_sem]) rfl ⟨rfl,(((Below.refl _ w).alloc (Nat.le_refl _) _).alloc (by simp) _).alloc (by simp;omega) _⟩
theorem infoEm:(Tryz.prog.info? 113).map (fun i=>(i.zero,i.size,i.bytes))=some (some (.agg #[.int .i64 0,.int .i64 0,.int .i64 0]),3,24):=by kernel_rfl
theorem OwnD.made {B:Nat} {T:TypeId} {w1:World} {zs:List Value} {n c:Nat} (h:w1.ownsRow B T c (.slice (some ⟨B,0,none⟩) n n) n zs) (hz:zs.length=n*c):OwnD w1 (fun k=>B≤k∧k<w1.heap.size) (.slice (some ⟨B,0,none⟩) n n) (flat c n zs):=
 (RowF.of_owns hz h).own
def toC (f:Nat→Dat) (zs:List Value) (m:Nat):Nat→Dat:=fun j=>if j<m then f j else .val (zs.getD j (.int .i64 0))
theorem OwnD.made0 {B:Nat} {T:TypeId} {w1:World} {zs:List Value} {n c:Nat} (f:Nat→Dat) (h:w1.ownsRow B T c (.slice (some ⟨B,0,none⟩) n n) n zs):∃zs,OwnD w1 (fun k=>B≤k∧k<w1.heap.size) (.slice (some ⟨B,0,none⟩) n n) (.row c n (toC f zs 0)):=by
 refine⟨zs,(OwnD.made h h.1).congr (fun j _=> ?_)⟩
 simp [toC]
theorem OwnD.toAll {F:Nat→Prop} {w:World} {x:Value} {c n m:Nat} {f:Nat→Dat} {zs:List Value} (h:OwnD w F x (.row c n (toC f zs m))) (hm:m=n*c):OwnD w F x (.row c n f):=
 h.congr (fun j hj=>by simp [toC,hm,hj])
theorem yss (f:Nat→Dat) (zs:List Value) (m:Nat):upd (toC f zs m) m (f m)=toC f zs (m+1):=by
 funext j
 simp only [upd,toC]
 by_cases e:j=m
 ·subst e;rw [if_pos rfl,if_pos (by omega)]
 ·rw [if_neg e]
  by_cases e2:j<m
  ·rw [if_pos e2,if_pos (by omega)]
  ·rw [if_neg e2,if_neg (by omega)]
theorem OwnD.fill_val {F:Nat→Prop} {w:World} {g n cap c m:Nat} {f:Nat→Dat} {zs:List Value} (h:OwnD w F (.slice (some ⟨g,0,none⟩) n cap) (.row c n (toC f zs m))) (hm:m<n*c) {u:Value} (hu:f m= .val u):
  OwnD (w.setCell ⟨g,m,none⟩ u) F (.slice (some ⟨g,0,none⟩) n cap) (.row c n (toC f zs (m+1))):=by
 have:=h.put_val hm u
 rwa [←hu,yss]at this
theorem OwnD.fill {F K:Nat→Prop} {w:World} {g n cap c m:Nat} {f:Nat→Dat} {zs:List Value} (h:OwnD w F (.slice (some ⟨g,0,none⟩) n cap) (.row c n (toC f zs m))) (hm:m<n*c) {u:Value} (hu:OwnD w K u (f m)) (hK:∀k,K k→ ¬F k):
  OwnD (w.setCell ⟨g,m,none⟩ u) (fun k=>F k∨K k) (.slice (some ⟨g,0,none⟩) n cap) (.row c n (toC f zs (m+1))):=by
 have:=h.put hm hu hK
 rwa [yss]at this
theorem ems_at {l:List Em} {k:Nat} (h:k<l.length):(yaw l).getD (k*3) (.int .i64 0)= .int .i64 (xAt l k).t∧(yaw l).getD (k*3+1) (.int .i64 0)= .int .i64 (xAt l k).l∧(yaw l).getD (k*3+2) (.int .i64 0)= .int .i64 (xAt l k).v:=
 ⟨yba (ydp l k 0 h (by omega)),yba (ydp l k 1 h (by omega)),yba (ydp l k 2 h (by omega))⟩
theorem toX_any (x:Value) (l:List Em) (w:World) (hl:l.length≤1048576) (h:IsX w x l):
  Calls Tryz.prog 63 #[x] w fun e w'=>e= .returned (sl w.heap.size l.length)∧Below w.heap.size w w'∧OwnD w' (fun k=>w.heap.size≤k∧k<w'.heap.size) (sl w.heap.size l.length) (emsD l):=by
 obtain⟨a,cap,rfl,h1,h2,h⟩:=h
 have hp:(0:Int)≤(l.length:Int):=by omega
 obtain⟨i0,hi,hz0,hz1,hz2⟩:=info_parts infoEm
 go_enter Tryz.func63,Tryz.ntmps63
 go_wp2_with (at_make;refine wpList_make_full _ rfl _ _ 55 rfl w.heap.size 113 i0 _ 3 Tryz.underlying55 hi hz0 hz1 .i64 .i64 l.length l.length l.length rfl rfl rfl rfl (by rw [hz2];omega) (by unfold maxLen;omega) (Nat.le_refl _) ?_;intro w1 hown hgrow)
 have hB1:Hid (Below w.heap.size w w1):=(Below.refl _ _).grown hgrow (Nat.le_refl _) (fun k e=>by cases e)
 obtain⟨zs,hR0⟩:=OwnD.made0 (fun j=> .val ((yaw l).getD j (.int .i64 0))) hown
 have hR1:=ylp hR0
 clear hown hgrow hi hz0 hz1 hz2 hR0
 go_loopw [4] (fun i wr=>∃k:Nat,k≤l.length∧i= .int .i64 k∧Below w.heap.size w wr∧OwnD wr (fun k=>w.heap.size≤k∧k<wr.heap.size) (sl w.heap.size l.length) (.row 3 l.length (toC (fun j=> .val ((yaw l).getD j (.int .i64 0))) zs (k*3)))) (fun i _=>l.length-(intOf i).toNat)
 case atStart=>exact⟨0,Nat.zero_le _,rfl,hB1.out,hR1.out⟩
 case round=>
  obtain⟨k,hk,rfl,hB,hR⟩:=hrel
  have HB:=ylp hB
  have HR:=ylp hR
  clear hR
  by_cases hlt:k<l.length
  ·obtain⟨b,off,rfl,hb,hc⟩:=h.resolve_left (by intro e;subst e;simp at hlt)
   obtain⟨f0,f1,f2⟩:=(hc k hlt).below hB hb
   have hg:w.heap.size<wr.heap.size:=(HR.out.lt (by omega)).1
   clear hB hB1 hR1 h hc
   go_wp2_with (go_at_call 109;refine(yqz _ _ _ _).mono ?_;rintro e w2 ⟨rfl,hb2⟩;have HB2:=hdq hb2;have HR2:Hid (OwnD w2 (fun k=>w.heap.size≤k∧k<wr.heap.size) (sl w.heap.size l.length) (.row 3 l.length (toC (fun j=> .val ((yaw l).getD j (.int .i64 0))) zs (k*3)))):=HR.out.under hb2;obtain⟨c0,_,g0,z0,_⟩:=HR2.out.step (j:=k*3) (by omega);obtain⟨c1,_,g1,z1,_⟩:=HR2.out.step (j:=k*3+1) (by omega);obtain⟨c2,_,g2,z2,_⟩:=HR2.out.step (j:=k*3+2) (by omega);clear hb2)
   go_roundw
   case rel=>
    obtain⟨e0,e1,e2⟩:=ems_at hlt
    refine⟨k+1,by omega,by go_num,(((HB.out.trans (HB2.out.mono (by omega))).setCell (p:=⟨w.heap.size,_,none⟩) (Nat.le_refl _) _).setCell (p:=⟨w.heap.size,_,none⟩) (Nat.le_refl _) _).setCell (p:=⟨w.heap.size,_,none⟩) (Nat.le_refl _) _,?_⟩
    rw [show(k+1)*3=k*3+1+1+1 from by omega]
    exact(((HR2.out.fill_val (m:=k*3) (by omega) (by rw [e0])).fill_val (m:=k*3+1) (by omega) (by rw [e1])).fill_val (m:=k*3+2) (by omega) (by rw [e2])).mono (fun b hb=>⟨hb.1,by have:=HB2.out.size;simp;omega⟩)
   case measure=>simp [intOf];omega
  ·clear hB hB1 hR1 h
   go_wp2
   go_ret
   obtain rfl:k=l.length:=by omega
   exact⟨rfl,HB.out,HR.out.toAll rfl⟩
theorem yal (l:List Int):(yaq l).wt=l.length:=yjw _ _ _
theorem ints_cnt (l:List Int):(yaq l).cnt=l.length*1:=yj0 _ _ _
theorem yf3 (l:List Int):(yaq l).thin:=yg7 (by omega)
theorem yj9 (x:Value) (l:List Int) (left:Int) (w:World) (h0:0≤left) (h1:left≤1048576) (h:IsD w x (yaq l)):
  Calls Tryz.prog 53 #[x,.int .i64 left] w fun e w'=>(∃r,e= .returned (.int .i64 r)∧SzR (yaq l).wt left r)∧Below w.heap.size w w':=by
 obtain⟨a,cap,rfl,hn⟩:=IsD.len (c:=1) (n:=l.length) h
 refine(szI_any a l.length cap left w hn h0 h1).mono ?_
 rintro e w' ⟨rfl,rfl⟩
 exact⟨⟨_,rfl,by rw [yal];exact yt1 _ _⟩,Below.refl _ _⟩
theorem ylt (x y:Value) (l:List Int) (w:World) (hl:l.length≤1048576) (hx:IsD w x (yaq l)) (hy:IsD w y (yaq l)):
  Calls Tryz.prog 32 #[x,y] w fun e w'=>e= .returned (.bool true)∧Below w.heap.size w w':=
 ylw x y l w (by omega) hx.isI hy.isI
theorem ygy (x:Value) (l:List Int) (w:World) (hl:l.length≤1048576) (h:IsD w x (yaq l)):
  Calls Tryz.prog 30 #[x] w fun e w'=>∃y,e= .returned y∧Below w.heap.size w w'∧OwnD w' (fun k=>w.heap.size≤k∧k<w'.heap.size) y (yaq l):=by
 refine(yo2 x l w hl h.isI).mono ?_
 rintro e w' ⟨rfl,hb,hr⟩
 exact⟨_,rfl,hb,((hr.rowF (by unfold maxLen;omega)).mono (fun k e=>by subst e;exact⟨Nat.le_refl _,hr.1⟩)).own⟩
theorem yee {F:Nat→Prop} {x:Value} {l:List Int} {w:World} (z:Int) (hn:l.length≤1048577) (hz0:0≤z) (hz1:z≤1073741824) (h:OwnD w F x (yaq l)):
  Calls Tryz.prog 33 #[x,.int .i64 z] w fun e w'=>e= .returned (.int .i64 (z+((yaq l).cnt:Int)))∧OwnD w' F x ((yaq l).mark z)∧Turns F w w':=by
 refine(markIF z hn hz0 hz1 (OwnD.rowF (c:=1) h (by rw [yjp,Nat.mul_one]))).mono ?_
 rintro e w' ⟨rfl,hr,ht⟩
 refine⟨yau ?_,yfk hr.own (ys1 l),ht⟩
 rw [ints_cnt]
 omega
theorem yb2 (l:List Ev):(evsD l).wt=l.length:=yjw _ _ _
theorem evs_cnt (l:List Ev):(evsD l).cnt=l.length*7:=yj0 _ _ _
theorem yj1 (l:List Ev):(evsD l).thin:=yg7 (by omega)
theorem ypj (x:Value) (l:List Ev) (left:Int) (w:World) (h0:0≤left) (h1:left≤1048576) (h:IsD w x (evsD l)):
  Calls Tryz.prog 56 #[x,.int .i64 left] w fun e w'=>(∃r,e= .returned (.int .i64 r)∧SzR (evsD l).wt left r)∧Below w.heap.size w w':=by
 obtain⟨a,cap,rfl,hn⟩:=IsD.len (c:=7) (n:=l.length) h
 refine(szE_any a l.length cap left w hn h0 h1).mono ?_
 rintro e w' ⟨rfl,rfl⟩
 exact⟨⟨_,rfl,by rw [yb2];exact yt1 _ _⟩,Below.refl _ _⟩
theorem yv5 (x y:Value) (l:List Ev) (w:World) (hl:l.length≤1048576) (hx:IsD w x (evsD l)) (hy:IsD w y (evsD l)):
  Calls Tryz.prog 68 #[x,y] w fun e w'=>e= .returned (.bool true)∧Below w.heap.size w w':=
 ylu x y l w hl hx.isEvs hy.isEvs
theorem ysx (x:Value) (l:List Ev) (w:World) (hl:l.length≤1048576) (h:IsD w x (evsD l)):
  Calls Tryz.prog 62 #[x] w fun e w'=>∃y,e= .returned y∧Below w.heap.size w w'∧OwnD w' (fun k=>w.heap.size≤k∧k<w'.heap.size) y (evsD l):=by
 refine(yij x l w hl h.isEvs).mono ?_
 rintro e w' ⟨rfl,hb,hr⟩
 exact⟨_,rfl,hb,((hr.rowF (by unfold maxLen;omega)).mono (fun k e=>by subst e;exact⟨Nat.le_refl _,hr.1⟩)).own⟩
theorem yiz {F:Nat→Prop} {x:Value} {l:List Ev} {w:World} (z:Int) (hn:l.length≤1048577) (hz0:0≤z) (hz1:z≤1073741824) (h:OwnD w F x (evsD l)):
  Calls Tryz.prog 74 #[x,.int .i64 z] w fun e w'=>e= .returned (.int .i64 (z+((evsD l).cnt:Int)))∧OwnD w' F x ((evsD l).mark z)∧Turns F w w':=by
 refine(yu9 z hn hz0 hz1 (OwnD.rowF (c:=7) h (yb7 l))).mono ?_
 rintro e w' ⟨rfl,hr,ht⟩
 refine⟨yau ?_,yfk hr.own (yk0 l),ht⟩
 rw [evs_cnt]
 omega
theorem ycm (l:List Em):(emsD l).wt=l.length:=yjw _ _ _
theorem ems_cnt (l:List Em):(emsD l).cnt=l.length*3:=yj0 _ _ _
theorem yq8 (l:List Em):(emsD l).thin:=yg7 (by omega)
theorem sz_ems (x:Value) (l:List Em) (left:Int) (w:World) (h0:0≤left) (h1:left≤1048576) (h:IsD w x (emsD l)):
  Calls Tryz.prog 57 #[x,.int .i64 left] w fun e w'=>(∃r,e= .returned (.int .i64 r)∧SzR (emsD l).wt left r)∧Below w.heap.size w w':=by
 obtain⟨a,cap,rfl,hn⟩:=IsD.len (c:=3) (n:=l.length) h
 refine(szX_any a l.length cap left w hn h0 h1).mono ?_
 rintro e w' ⟨rfl,rfl⟩
 exact⟨⟨_,rfl,by rw [ycm];exact yt1 _ _⟩,Below.refl _ _⟩
theorem eq_ems (x y:Value) (l:List Em) (w:World) (hl:l.length≤1048576) (hx:IsD w x (emsD l)) (hy:IsD w y (emsD l)):
  Calls Tryz.prog 69 #[x,y] w fun e w'=>e= .returned (.bool true)∧Below w.heap.size w w':=
 yq6 x y l w hl hx.isX hy.isX
theorem to_ems (x:Value) (l:List Em) (w:World) (hl:l.length≤1048576) (h:IsD w x (emsD l)):
  Calls Tryz.prog 63 #[x] w fun e w'=>∃y,e= .returned y∧Below w.heap.size w w'∧OwnD w' (fun k=>w.heap.size≤k∧k<w'.heap.size) y (emsD l):=by
 refine(toX_any x l w hl h.isX).mono ?_
 rintro e w' ⟨rfl,hb,hr⟩
 exact⟨_,rfl,hb,hr⟩
theorem ypu {F:Nat→Prop} {x:Value} {l:List Em} {w:World} (z:Int) (hn:l.length≤1048577) (hz0:0≤z) (hz1:z≤1073741824) (h:OwnD w F x (emsD l)):
  Calls Tryz.prog 75 #[x,.int .i64 z] w fun e w'=>e= .returned (.int .i64 (z+((emsD l).cnt:Int)))∧OwnD w' F x ((emsD l).mark z)∧Turns F w w':=by
 refine(markXF z hn hz0 hz1 (OwnD.rowF (c:=3) h (ye8 l))).mono ?_
 rintro e w' ⟨rfl,hr,ht⟩
 refine⟨yau ?_,yfk hr.own (yk1 l),ht⟩
 rw [ems_cnt]
 omega
theorem ymi (x:Value) (s:St) (left:Int) (w:World) (h0:0≤left) (h1:left≤1048576) (h:IsS w x s):
  Calls Tryz.prog 146 #[x,.int .i64 left] w fun e w'=>(∃r,e= .returned (.int .i64 r)∧SzR (yaq s.r).wt left r)∧Below w.heap.size w w':=by
 obtain⟨vr,rfl,hv⟩:=h
 obtain⟨l,q,d⟩:=s
 have HI:Hid (IsI w vr l):=hv
 clear hv
 obtain⟨W0,hW0⟩:∃W0,w.alloc (.cells #[vr,.int .i64 q,.int .i64 d] 141)=W0:=⟨_,rfl⟩
 have HB0:=hdq (beA hW0)
 have HP0:=bkA hW0
 have p0:=HP0.cell (i:=0) rfl
 clear HP0
 go_enter Tryz.func146,Tryz.ntmps146
 go_wp2_with fail
 clear p0 hW0
 refine(yj9 _ l _ _ h0 h1 (HI.out.below HB0.out).isD).mono ?_
 rintro e w1 ⟨⟨r,rfl,hr⟩,hb⟩
 have HB1:=trh HB0 hb
 clear hb
 rcases hr with rfl|⟨r0,hr⟩
 ·go_wp2
  go_ret
  exact⟨⟨_,rfl,.inl rfl⟩,HB1.out⟩
 ·have r2:¬(r<0):=by omega
  have HR:=ylp hr
  clear hr
  go_wp2
  go_ret
  exact⟨⟨_,rfl,.inr ⟨r0,HR.out⟩⟩,HB1.out⟩
theorem ypm (L:Nat→Nat) (a:Nat):∀b,sumL L (a+b)=sumL L a+sumL (fun i=>L (a+i)) b
 |0=>by simp [sumL]
 |b+1=>by
  rw [←Nat.add_assoc]
  simp only [sumL]
  rw [ypm L a b]
  omega
theorem yhk {c:Nat} {h:Nat→Nat→Nat}:∀n,sumL (fun j=>h (j/c) (j%c)) (n*c)=sumL (fun i=>sumL (fun r=>h i r) c) n
 |0=>by simp [sumL]
 |n+1=>by
  rw [Nat.succ_mul,ypm,yhk n]
  simp only [sumL]
  congr 1
  refine yf0 (fun r hr=> ?_)
  rw [Nat.mul_comm n c,Nat.mul_add_div (by omega),Nat.div_eq_of_lt hr,Nat.add_zero,Nat.mul_add_mod,Nat.mod_eq_of_lt hr]
theorem yfd (L:Nat→Nat) {n i:Nat} (h:i<n):L i≤sumL L n:=by
 have h1:=yjb L (show i+1≤n from h)
 simp only [sumL]at h1
 omega
structure Ps where
 e:Ev
 b:St
 s:List Ev
 x:List Em
def psAt (l:List Ps) (i:Nat):Ps:=l.getD i ⟨⟨0,0,0,0,0,0,0⟩,⟨[],0,0⟩,[],[]⟩
def Ps.cell (p:Ps):Nat→Dat
 |0=>Dat.val (.int .i64 p.e.t)
 |1=>Dat.val (.int .i64 p.e.s)
 |2=>Dat.val (.int .i64 p.e.q)
 |3=>Dat.val (.int .i64 p.e.d)
 |4=>Dat.val (.int .i64 p.e.k)
 |5=>Dat.val (.int .i64 p.e.v)
 |6=>Dat.val (.int .i64 p.e.g)
 |7=>yaq p.b.r
 |8=>Dat.val (.int .i64 p.b.q)
 |9=>Dat.val (.int .i64 p.b.d)
 |10=>evsD p.s
 |11=>emsD p.x
 |_=> .val (.int .i64 0)
def Ps.wt (p:Ps):Nat:=(yaq p.b.r).wt+(evsD p.s).wt+(emsD p.x).wt
def ya3 (l:List Ps):Nat→Dat:=fun j=>(psAt l (j/12)).cell (j%12)
def yay (l:List Ps):Dat:= .row 12 l.length (ya3 l)
theorem ybg (l:List Ps) (i:Nat) {r:Nat} (hr:r<12):ya3 l (i*12+r)=(psAt l i).cell r:=by
 show(psAt l ((i*12+r)/12)).cell ((i*12+r)%12)=_
 rw [show(i*12+r)/12=i from by omega,show(i*12+r)%12=r from by omega]
theorem yc3 (l:List Ps):(yay l).wt=l.length+sumL (fun i=>(psAt l i).wt) l.length:=by
 show l.length+sumL (fun j=>((psAt l (j/12)).cell (j%12)).wt) (l.length*12)=_
 rw [yhk (h:=fun i r=>((psAt l i).cell r).wt)]
 congr 1
 refine yf0 (fun i _=> ?_)
 simp only [sumL,Ps.cell,Ps.wt,Dat.wt,Nat.zero_add,Nat.add_zero]
theorem Ps.thin (p:Ps) (r:Nat):(p.cell r).thin:=by
 unfold Ps.cell
 split
 ·trivial
 ·trivial
 ·trivial
 ·trivial
 ·trivial
 ·trivial
 ·trivial
 ·exact yf3 _
 ·trivial
 ·trivial
 ·exact yj1 _
 ·exact yq8 _
 ·trivial
theorem yrf (l:List Ps):(yay l).thin:=⟨by omega,fun j=>Ps.thin (psAt l (j/12)) (j%12)⟩
theorem Ps.wt_le {l:List Ps} {i:Nat} (h:i<l.length):(psAt l i).wt≤(yay l).wt:=by
 rw [yc3]
 have:=yfd (fun i=>(psAt l i).wt) h
 omega
def IsPast (w:World) (x:Value) (p:Ps):Prop:=∃u7 u10 u11,x= .agg #[.int .i64 p.e.t,.int .i64 p.e.s,.int .i64 p.e.q,.int .i64 p.e.d,.int .i64 p.e.k,.int .i64 p.e.v,.int .i64 p.e.g,u7,.int .i64 p.b.q,.int .i64 p.b.d,u10,u11]∧IsD w u7 (yaq p.b.r)∧IsD w u10 (evsD p.s)∧IsD w u11 (emsD p.x)
theorem IsPast.under {w w':World} {x:Value} {p:Ps} (h:IsPast w x p) (hb:Below w.heap.size w w'):IsPast w' x p:=by
 obtain⟨u7,u10,u11,rfl,h7,h10,h11⟩:=h
 exact⟨u7,u10,u11,rfl,h7.under hb,h10.under hb,h11.under hb⟩
theorem ycw {w:World} {b off n:Nat} {l:List Ps} (h:∀j,j<n*12→ ∃u,w.cell? ⟨b,off+j,none⟩=some u∧IsD w u ((psAt l (j/12)).cell (j%12))) {i:Nat} (hi:i<n):
  ∃u7 u10 u11,w.cell? ⟨b,off+i*12,none⟩=some (.int .i64 (psAt l i).e.t)∧w.cell? ⟨b,off+i*12+1,none⟩=some (.int .i64 (psAt l i).e.s)∧w.cell? ⟨b,off+i*12+2,none⟩=some (.int .i64 (psAt l i).e.q)∧w.cell? ⟨b,off+i*12+3,none⟩=some (.int .i64 (psAt l i).e.d)∧w.cell? ⟨b,off+i*12+4,none⟩=some (.int .i64 (psAt l i).e.k)∧w.cell? ⟨b,off+i*12+5,none⟩=some (.int .i64 (psAt l i).e.v)∧w.cell? ⟨b,off+i*12+6,none⟩=some (.int .i64 (psAt l i).e.g)∧w.cell? ⟨b,off+i*12+7,none⟩=some (u7)∧w.cell? ⟨b,off+i*12+8,none⟩=some (.int .i64 (psAt l i).b.q)∧w.cell? ⟨b,off+i*12+9,none⟩=some (.int .i64 (psAt l i).b.d)∧w.cell? ⟨b,off+i*12+10,none⟩=some (u10)∧w.cell? ⟨b,off+i*12+11,none⟩=some (u11)∧IsD w u7 (yaq (psAt l i).b.r)∧IsD w u10 (evsD (psAt l i).s)∧IsD w u11 (emsD (psAt l i).x):=by
 have hh:∀r,r<12→ ∃u,w.cell? ⟨b,off+i*12+r,none⟩=some u∧IsD w u ((psAt l i).cell r):=fun r hr=>by
  have:=h (i*12+r) (by omega)
  rw [show(i*12+r)/12=i from by omega,show(i*12+r)%12=r from by omega,←Nat.add_assoc]at this
  exact this
 obtain⟨u0,c0,d0⟩:=hh 0 (by omega)
 obtain⟨u1,c1,d1⟩:=hh 1 (by omega)
 obtain⟨u2,c2,d2⟩:=hh 2 (by omega)
 obtain⟨u3,c3,d3⟩:=hh 3 (by omega)
 obtain⟨u4,c4,d4⟩:=hh 4 (by omega)
 obtain⟨u5,c5,d5⟩:=hh 5 (by omega)
 obtain⟨u6,c6,d6⟩:=hh 6 (by omega)
 obtain⟨u7,c7,d7⟩:=hh 7 (by omega)
 obtain⟨u8,c8,d8⟩:=hh 8 (by omega)
 obtain⟨u9,c9,d9⟩:=hh 9 (by omega)
 obtain⟨u10,c10,d10⟩:=hh 10 (by omega)
 obtain⟨u11,c11,d11⟩:=hh 11 (by omega)
 obtain rfl:=d0.val_eq
 obtain rfl:=d1.val_eq
 obtain rfl:=d2.val_eq
 obtain rfl:=d3.val_eq
 obtain rfl:=d4.val_eq
 obtain rfl:=d5.val_eq
 obtain rfl:=d6.val_eq
 obtain rfl:=d8.val_eq
 obtain rfl:=d9.val_eq
 exact⟨u7,u10,u11,c0,c1,c2,c3,c4,c5,c6,c7,c8,c9,c10,c11,d7,d10,d11⟩
structure Pa where
 n:Int
 st:St
 p:List Ps
 t:List Ev
 a:List Int
def paAt (l:List Pa) (i:Nat):Pa:=l.getD i ⟨0,⟨[],0,0⟩,[],[],[]⟩
def Pa.cell (p:Pa):Nat→Dat
 |0=>Dat.val (.int .i64 p.n)
 |1=>yaq p.st.r
 |2=>Dat.val (.int .i64 p.st.q)
 |3=>Dat.val (.int .i64 p.st.d)
 |4=>yay p.p
 |5=>evsD p.t
 |6=>yaq p.a
 |_=> .val (.int .i64 0)
def Pa.wt (p:Pa):Nat:=(yaq p.st.r).wt+(yay p.p).wt+(evsD p.t).wt+(yaq p.a).wt
def yab (l:List Pa):Nat→Dat:=fun j=>(paAt l (j/7)).cell (j%7)
def yb8 (l:List Pa):Dat:= .row 7 l.length (yab l)
theorem ydv (l:List Pa) (i:Nat) {r:Nat} (hr:r<7):yab l (i*7+r)=(paAt l i).cell r:=by
 show(paAt l ((i*7+r)/7)).cell ((i*7+r)%7)=_
 rw [show(i*7+r)/7=i from by omega,show(i*7+r)%7=r from by omega]
theorem yed (l:List Pa):(yb8 l).wt=l.length+sumL (fun i=>(paAt l i).wt) l.length:=by
 show l.length+sumL (fun j=>((paAt l (j/7)).cell (j%7)).wt) (l.length*7)=_
 rw [yhk (h:=fun i r=>((paAt l i).cell r).wt)]
 congr 1
 refine yf0 (fun i _=> ?_)
 simp only [sumL,Pa.cell,Pa.wt,Dat.wt,Nat.zero_add,Nat.add_zero]
theorem Pa.thin (p:Pa) (r:Nat):(p.cell r).thin:=by
 unfold Pa.cell
 split
 ·trivial
 ·exact yf3 _
 ·trivial
 ·trivial
 ·exact yrf _
 ·exact yj1 _
 ·exact yf3 _
 ·trivial
theorem yrh (l:List Pa):(yb8 l).thin:=⟨by omega,fun j=>Pa.thin (paAt l (j/7)) (j%7)⟩
theorem Pa.wt_le {l:List Pa} {i:Nat} (h:i<l.length):(paAt l i).wt≤(yb8 l).wt:=by
 rw [yed]
 have:=yfd (fun i=>(paAt l i).wt) h
 omega
def IsPart (w:World) (x:Value) (p:Pa):Prop:=∃u1 u4 u5 u6,x= .agg #[.int .i64 p.n,u1,.int .i64 p.st.q,.int .i64 p.st.d,u4,u5,u6]∧IsD w u1 (yaq p.st.r)∧IsD w u4 (yay p.p)∧IsD w u5 (evsD p.t)∧IsD w u6 (yaq p.a)
theorem IsPart.under {w w':World} {x:Value} {p:Pa} (h:IsPart w x p) (hb:Below w.heap.size w w'):IsPart w' x p:=by
 obtain⟨u1,u4,u5,u6,rfl,h1,h4,h5,h6⟩:=h
 exact⟨u1,u4,u5,u6,rfl,h1.under hb,h4.under hb,h5.under hb,h6.under hb⟩
theorem yg0 {w:World} {b off n:Nat} {l:List Pa} (h:∀j,j<n*7→ ∃u,w.cell? ⟨b,off+j,none⟩=some u∧IsD w u ((paAt l (j/7)).cell (j%7))) {i:Nat} (hi:i<n):
  ∃u1 u4 u5 u6,w.cell? ⟨b,off+i*7,none⟩=some (.int .i64 (paAt l i).n)∧w.cell? ⟨b,off+i*7+1,none⟩=some (u1)∧w.cell? ⟨b,off+i*7+2,none⟩=some (.int .i64 (paAt l i).st.q)∧w.cell? ⟨b,off+i*7+3,none⟩=some (.int .i64 (paAt l i).st.d)∧w.cell? ⟨b,off+i*7+4,none⟩=some (u4)∧w.cell? ⟨b,off+i*7+5,none⟩=some (u5)∧w.cell? ⟨b,off+i*7+6,none⟩=some (u6)∧IsD w u1 (yaq (paAt l i).st.r)∧IsD w u4 (yay (paAt l i).p)∧IsD w u5 (evsD (paAt l i).t)∧IsD w u6 (yaq (paAt l i).a):=by
 have hh:∀r,r<7→ ∃u,w.cell? ⟨b,off+i*7+r,none⟩=some u∧IsD w u ((paAt l i).cell r):=fun r hr=>by
  have:=h (i*7+r) (by omega)
  rw [show(i*7+r)/7=i from by omega,show(i*7+r)%7=r from by omega,←Nat.add_assoc]at this
  exact this
 obtain⟨u0,c0,d0⟩:=hh 0 (by omega)
 obtain⟨u1,c1,d1⟩:=hh 1 (by omega)
 obtain⟨u2,c2,d2⟩:=hh 2 (by omega)
 obtain⟨u3,c3,d3⟩:=hh 3 (by omega)
 obtain⟨u4,c4,d4⟩:=hh 4 (by omega)
 obtain⟨u5,c5,d5⟩:=hh 5 (by omega)
 obtain⟨u6,c6,d6⟩:=hh 6 (by omega)
 obtain rfl:=d0.val_eq
 obtain rfl:=d2.val_eq
 obtain rfl:=d3.val_eq
 exact⟨u1,u4,u5,u6,c0,c1,c2,c3,c4,c5,c6,d1,d4,d5,d6⟩
set_option maxHeartbeats 4000000
open Go.RowKit
theorem ybx {p:Prop} (h:p):Hid p:=h
theorem yr1 (x:Value) (p:Ps) (left:Int) (w:World) (h0:0≤left) (h1:left≤1048576) (h:IsPast w x p):
  Calls Tryz.prog 185 #[x,.int .i64 left] w fun e w'=>(∃r,e= .returned (.int .i64 r)∧SzR p.wt left r)∧Below w.heap.size w w':=by
 obtain⟨u7,u10,u11,rfl,h7,h10,h11⟩:=h
 have H7:=ybx h7
 have H10:=ybx h10
 have H11:=ybx h11
 clear h7 h10 h11
 obtain⟨W0,hW0⟩:∃W0,w.alloc (.cells #[.int .i64 p.e.t,.int .i64 p.e.s,.int .i64 p.e.q,.int .i64 p.e.d,.int .i64 p.e.k,.int .i64 p.e.v,.int .i64 p.e.g,u7,.int .i64 p.b.q,.int .i64 p.b.d,u10,u11] 230)=W0:=⟨_,rfl⟩
 have HB0:=hdq (beA hW0)
 have HP0:=hdq (bkA hW0)
 have HW:=ybx hW0
 clear hW0
 go_enter Tryz.func185,Tryz.ntmps185
 have p7:=HP0.out.cell (i:=7) rfl
 have p8:=HP0.out.cell (i:=8) rfl
 have p9:=HP0.out.cell (i:=9) rfl
 go_wp2_with fail
 rw [HW.out]
 clear HW
 clear p7 p8 p9
 refine(ymi _ p.b _ _ h0 h1 ⟨_,rfl,(H7.out.under HB0.out).isI⟩).mono ?_
 rintro e w1 ⟨⟨r1,rfl,hr⟩,hb⟩
 have HB1:=trh HB0 hb
 have HP1:=ybx (HP0.out.below hb)
 clear hb
 rcases hr with rfl|⟨r10,hr⟩
 ·go_wp2
  go_ret
  exact⟨⟨_,rfl,.inl rfl⟩,HB1.out⟩
 have r11:r1≤1048576:=by omega
 have r12:¬(r1<0):=by omega
 have HR1:=ybx hr
 clear hr
 have p10:=HP1.out.cell (i:=10) rfl
 go_wp2_with fail
 clear p10
 refine(ypj _ p.s _ _ r10 r11 (H10.out.under HB1.out)).mono ?_
 rintro e w2 ⟨⟨r2,rfl,hr⟩,hb⟩
 have HB2:=trh HB1 hb
 have HP2:=ybx (HP1.out.below hb)
 clear hb
 rcases hr with rfl|⟨r20,hr⟩
 ·go_wp2
  go_ret
  exact⟨⟨_,rfl,.inl rfl⟩,HB2.out⟩
 have r21:r2≤1048576:=by omega
 have r22:¬(r2<0):=by omega
 have HR2:=ybx hr
 clear hr
 have p11:=HP2.out.cell (i:=11) rfl
 go_wp2_with fail
 clear p11
 refine(sz_ems _ p.x _ _ r20 r21 (H11.out.under HB2.out)).mono ?_
 rintro e w3 ⟨⟨r3,rfl,hr⟩,hb⟩
 have HB3:=trh HB2 hb
 have HP3:=ybx (HP2.out.below hb)
 clear hb
 rcases hr with rfl|⟨r30,hr⟩
 ·go_wp2
  go_ret
  exact⟨⟨_,rfl,.inl rfl⟩,HB3.out⟩
 have r31:r3≤1048576:=by omega
 have r32:¬(r3<0):=by omega
 have HR3:=ybx hr
 clear hr
 go_wp2
 go_ret
 refine⟨⟨_,rfl,.inr ⟨r30,?_⟩⟩,HB3.out⟩
 have:=HR1.out
 have:=HR2.out
 have:=HR3.out
 unfold Ps.wt
 omega
theorem sz_pasts (x:Value) (l:List Ps) (left:Int) (w:World) (h0:0≤left) (h1:left≤1048576) (h:IsD w x (yay l)):
  Calls Tryz.prog 147 #[x,.int .i64 left] w fun e w'=>(∃r,e= .returned (.int .i64 r)∧SzR (yay l).wt left r)∧Below w.heap.size w w':=by
 obtain⟨a,cap,rfl,hn1,hn,h⟩:=IsD.parts (c:=12) (n:=l.length) h
 have hn2:l.length≤9223372036854775807:=by unfold maxLen at hn;omega
 clear hn1 hn
 by_cases hp:left-(l.length:Int)<0
 ·go_enter Tryz.func147,Tryz.ntmps147
  go_wp2
  go_ret
  exact⟨⟨_,rfl,.inl rfl⟩,Below.refl _ _⟩
 ·have HLF:Hid (0≤left-(l.length:Int)):=(by omega:0≤left-(l.length:Int))
  go_enter Tryz.func147,Tryz.ntmps147
  go_wp2
  go_loopw [5,1] (fun i z wr=>∃k:Nat,k≤l.length∧i= .int .i64 k∧Below w.heap.size w wr∧ ∃lf:Int,z= .int .i64 lf∧0≤lf∧lf+(l.length:Int)+(sumL (fun i=>(psAt l i).wt) k:Int)=left) (fun i _ _=>l.length-(intOf i).toNat)
  case atStart=>exact⟨0,Nat.zero_le _,rfl,Below.refl _ _,left-(l.length:Int),rfl,HLF.out,by simp [sumL]⟩
  case round=>
   obtain⟨k,hk,rfl,hB,lf2,rfl,hz0,hz1⟩:=hrel
   have HZ:=ybx hz1
   have HB:=ybx hB
   have hz2:lf2≤1048576:=by omega
   clear hz1
   by_cases hlt:k<l.length
   ·obtain⟨b,off,rfl,hb,hc⟩:=h.resolve_left (by omega)
    obtain⟨u7,u10,u11,f0,f1,f2,f3,f4,f5,f6,f7,f8,f9,f10,f11,d7,d10,d11⟩:=ycw (fun j hj=>by
     obtain⟨u,hu,hd⟩:=hc j hj
     exact⟨u,(hB.cell (p:=⟨b,off+j,none⟩) hb).trans hu,hd.under hB⟩) hlt
    have HD:Hid (IsPast wr (.agg #[.int .i64 (psAt l k).e.t,.int .i64 (psAt l k).e.s,.int .i64 (psAt l k).e.q,.int .i64 (psAt l k).e.d,.int .i64 (psAt l k).e.k,.int .i64 (psAt l k).e.v,.int .i64 (psAt l k).e.g,u7,.int .i64 (psAt l k).b.q,.int .i64 (psAt l k).b.d,u10,u11]) (psAt l k)):=⟨u7,u10,u11,rfl,d7,d10,d11⟩
    clear h hc hB d7 d10 d11
    go_wp2_with fail
    clear f0 f1 f2 f3 f4 f5 f6 f7 f8 f9 f10 f11
    refine(yr1 _ (psAt l k) _ _ hz0 hz2 HD.out).mono ?_
    rintro e w2 ⟨⟨r,rfl,hr⟩,hb2⟩
    have HB2:=trh HB hb2
    clear hb2
    rcases hr with rfl|⟨r0,hr⟩
    ·go_wp2
     go_ret
     exact⟨⟨_,rfl,.inl rfl⟩,HB2.out⟩
    ·have HR:=ybx hr
     have r2:¬(r<0):=by omega
     clear hr
     go_wp2
     go_roundw
     case rel=>exact⟨k+1,by omega,by go_num,HB2.out,r,rfl,r0,by have:=HR.out;have:=HZ.out;simp only [sumL];omega⟩
     case measure=>simp [intOf];omega
   ·clear h hB
    go_wp2
    go_ret
    obtain rfl:k=l.length:=by omega
    exact⟨⟨_,rfl,.inr ⟨hz0,by rw [yc3];have:=HZ.out;omega⟩⟩,HB.out⟩
theorem yp0 (x y:Value) (p:Ps) (w:World) (hw:p.wt≤1048576) (hx:IsPast w x p) (hy:IsPast w y p):
  Calls Tryz.prog 213 #[x,y] w fun e w'=>e= .returned (.bool true)∧Below w.heap.size w w':=by
 obtain⟨u7,u10,u11,rfl,h7,h10,h11⟩:=hx
 obtain⟨v7,v10,v11,rfl,k7,k10,k11⟩:=hy
 have H7:Hid (IsD w u7 (yaq p.b.r)∧IsD w v7 (yaq p.b.r)):=⟨h7,k7⟩
 have H10:Hid (IsD w u10 (evsD p.s)∧IsD w v10 (evsD p.s)):=⟨h10,k10⟩
 have H11:Hid (IsD w u11 (emsD p.x)∧IsD w v11 (emsD p.x)):=⟨h11,k11⟩
 have HS:Hid (p.wt≤1048576):=hw
 clear hw h7 k7 h10 k10 h11 k11
 obtain⟨W0,hW0⟩:∃W0,(w.alloc (.cells #[.int .i64 p.e.t,.int .i64 p.e.s,.int .i64 p.e.q,.int .i64 p.e.d,.int .i64 p.e.k,.int .i64 p.e.v,.int .i64 p.e.g,u7,.int .i64 p.b.q,.int .i64 p.b.d,u10,u11] 115)).alloc (.cells #[.int .i64 p.e.t,.int .i64 p.e.s,.int .i64 p.e.q,.int .i64 p.e.d,.int .i64 p.e.k,.int .i64 p.e.v,.int .i64 p.e.g,v7,.int .i64 p.b.q,.int .i64 p.b.d,v10,v11] 115)=W0:=⟨_,rfl⟩
 have HB0:=hdq (beA2 hW0)
 have HP0:=hdq (bkA2 hW0)
 have HQ0:=hdq (bkB2 hW0)
 have HW:=ybx hW0
 clear hW0
 go_enter Tryz.func213,Tryz.ntmps213
 have p0:=HP0.out.cell (i:=0) rfl
 have q0:=HQ0.out.cell (i:=0) rfl
 have p1:=HP0.out.cell (i:=1) rfl
 have q1:=HQ0.out.cell (i:=1) rfl
 have p2:=HP0.out.cell (i:=2) rfl
 have q2:=HQ0.out.cell (i:=2) rfl
 have p3:=HP0.out.cell (i:=3) rfl
 have q3:=HQ0.out.cell (i:=3) rfl
 have p4:=HP0.out.cell (i:=4) rfl
 have q4:=HQ0.out.cell (i:=4) rfl
 have p5:=HP0.out.cell (i:=5) rfl
 have q5:=HQ0.out.cell (i:=5) rfl
 have p6:=HP0.out.cell (i:=6) rfl
 have q6:=HQ0.out.cell (i:=6) rfl
 go_wp2_with fail
 rw [HW.out]
 clear HW
 clear p0 q0 p1 q1 p2 q2 p3 q3 p4 q4 p5 q5 p6 q6
 refine(yg9 _ _ _ _ _ _ _ _).mono ?_
 rintro e w1 ⟨rfl,hb⟩
 have HB1:=trh HB0 hb
 have HP1:=ybx (HP0.out.below hb)
 have HQ1:=ybx (HQ0.out.below hb)
 clear hb
 have p7:=HP1.out.cell (i:=7) rfl
 have q7:=HQ1.out.cell (i:=7) rfl
 have p8:=HP1.out.cell (i:=8) rfl
 have q8:=HQ1.out.cell (i:=8) rfl
 have p9:=HP1.out.cell (i:=9) rfl
 have q9:=HQ1.out.cell (i:=9) rfl
 go_wp2_with fail
 clear p7 q7 p8 q8 p9 q9
 refine(yim _ _ p.b _ (by have:=HS.out;unfold Ps.wt at this;simp only [ycm,yb2,yal]at this;omega) ⟨_,rfl,(H7.out.1.under HB1.out).isI⟩ ⟨_,rfl,(H7.out.2.under HB1.out).isI⟩).mono ?_
 rintro e w2 ⟨rfl,hb⟩
 have HB2:=trh HB1 hb
 have HP2:=ybx (HP1.out.below hb)
 have HQ2:=ybx (HQ1.out.below hb)
 clear hb
 have p10:=HP2.out.cell (i:=10) rfl
 have q10:=HQ2.out.cell (i:=10) rfl
 go_wp2_with fail
 clear p10 q10
 refine(yv5 _ _ p.s _ (by have:=HS.out;unfold Ps.wt at this;simp only [ycm,yb2,yal]at this;omega) (H10.out.1.under HB2.out) (H10.out.2.under HB2.out)).mono ?_
 rintro e w3 ⟨rfl,hb⟩
 have HB3:=trh HB2 hb
 have HP3:=ybx (HP2.out.below hb)
 have HQ3:=ybx (HQ2.out.below hb)
 clear hb
 have p11:=HP3.out.cell (i:=11) rfl
 have q11:=HQ3.out.cell (i:=11) rfl
 go_wp2_with fail
 clear p11 q11
 refine(eq_ems _ _ p.x _ (by have:=HS.out;unfold Ps.wt at this;simp only [ycm,yb2,yal]at this;omega) (H11.out.1.under HB3.out) (H11.out.2.under HB3.out)).mono ?_
 rintro e w4 ⟨rfl,hb⟩
 have HB4:=trh HB3 hb
 have HP4:=ybx (HP3.out.below hb)
 have HQ4:=ybx (HQ3.out.below hb)
 clear hb
 go_wp2
 go_ret
 exact⟨rfl,HB4.out⟩
theorem yjs {p:Prop} (h:p):Hid p:=h
set_option maxHeartbeats 8000000 in
theorem eq_pasts (x y:Value) (l:List Ps) (w:World) (hl:(yay l).wt≤1048576) (hx:IsD w x (yay l)) (hy:IsD w y (yay l)):
  Calls Tryz.prog 176 #[x,y] w fun e w'=>e= .returned (.bool true)∧Below w.heap.size w w':=by
 obtain⟨a,cap,rfl,h1,h2,h⟩:=IsD.parts (c:=12) (n:=l.length) hx
 obtain⟨a',cap',rfl,h1',h2',h'⟩:=IsD.parts (c:=12) (n:=l.length) hy
 have HS:=yjs hl
 have hl2:l.length≤1048576:=by rw [yc3]at hl;omega
 clear h1 h2 h1' h2' hx hy hl
 go_enter Tryz.func176,Tryz.ntmps176
 go_wp2
 go_loopw [5] (fun i wr=>∃k:Nat,k≤l.length∧i= .int .i64 k∧Below w.heap.size w wr) (fun i _=>l.length-(intOf i).toNat)
 case atStart=>exact⟨0,Nat.zero_le _,rfl,Below.refl _ _⟩
 case round=>
  obtain⟨k,hk,rfl,hB⟩:=hrel
  have HB:=yjs hB
  by_cases hlt:k<l.length
  ·obtain⟨b,off,rfl,hb,hc⟩:=h.resolve_left (by omega)
   obtain⟨b',off',rfl,hb',hc'⟩:=h'.resolve_left (by omega)
   obtain⟨u7,u10,u11,f0,f1,f2,f3,f4,f5,f6,f7,f8,f9,f10,f11,d7,d10,d11⟩:=ycw (fun j hj=>by
    obtain⟨u,hu,hd⟩:=hc j hj
    exact⟨u,(hB.cell (p:=⟨b,off+j,none⟩) hb).trans hu,hd.under hB⟩) hlt
   obtain⟨v7,v10,v11,e0,e1,e2,e3,e4,e5,e6,e7,e8,e9,e10,e11,g7,g10,g11⟩:=ycw (fun j hj=>by
    obtain⟨u,hu,hd⟩:=hc' j hj
    exact⟨u,(hB.cell (p:=⟨b',off'+j,none⟩) hb').trans hu,hd.under hB⟩) hlt
   have HD:=yjs (IsPast.under (w:=wr) ⟨u7,u10,u11,rfl,d7,d10,d11⟩ (Below.refl _ wr).drew)
   have HG:=yjs (IsPast.under (w:=wr) ⟨v7,v10,v11,rfl,g7,g10,g11⟩ (Below.refl _ wr).drew)
   have HW:=yjs (Nat.le_trans (Ps.wt_le hlt) HS.out)
   have hbr:b<wr.heap.size:=Nat.lt_of_lt_of_le hb hB.size
   have hbr':b'<wr.heap.size:=Nat.lt_of_lt_of_le hb' hB.size
   clear hB hc hc' h h' d7 d10 d11 g7 g10 g11
   go_wp2_with fail
   go_region_held3 (fun W=>W.cell? ⟨b,off+k*12,none⟩=some (.int .i64 (psAt l k).e.t)∧W.cell? ⟨b,off+k*12+1,none⟩=some (.int .i64 (psAt l k).e.s)∧W.cell? ⟨b,off+k*12+2,none⟩=some (.int .i64 (psAt l k).e.q)∧W.cell? ⟨b,off+k*12+3,none⟩=some (.int .i64 (psAt l k).e.d)∧W.cell? ⟨b,off+k*12+4,none⟩=some (.int .i64 (psAt l k).e.k)∧W.cell? ⟨b,off+k*12+5,none⟩=some (.int .i64 (psAt l k).e.v)∧W.cell? ⟨b,off+k*12+6,none⟩=some (.int .i64 (psAt l k).e.g)∧W.cell? ⟨b,off+k*12+7,none⟩=some (u7)∧W.cell? ⟨b,off+k*12+8,none⟩=some (.int .i64 (psAt l k).b.q)∧W.cell? ⟨b,off+k*12+9,none⟩=some (.int .i64 (psAt l k).b.d)∧W.cell? ⟨b,off+k*12+10,none⟩=some (u10)∧W.cell? ⟨b,off+k*12+11,none⟩=some (u11)∧W.cell? ⟨b',off'+k*12,none⟩=some (.int .i64 (psAt l k).e.t)∧W.cell? ⟨b',off'+k*12+1,none⟩=some (.int .i64 (psAt l k).e.s)∧W.cell? ⟨b',off'+k*12+2,none⟩=some (.int .i64 (psAt l k).e.q)∧W.cell? ⟨b',off'+k*12+3,none⟩=some (.int .i64 (psAt l k).e.d)∧W.cell? ⟨b',off'+k*12+4,none⟩=some (.int .i64 (psAt l k).e.k)∧W.cell? ⟨b',off'+k*12+5,none⟩=some (.int .i64 (psAt l k).e.v)∧W.cell? ⟨b',off'+k*12+6,none⟩=some (.int .i64 (psAt l k).e.g)∧W.cell? ⟨b',off'+k*12+7,none⟩=some (v7)∧W.cell? ⟨b',off'+k*12+8,none⟩=some (.int .i64 (psAt l k).b.q)∧W.cell? ⟨b',off'+k*12+9,none⟩=some (.int .i64 (psAt l k).b.d)∧W.cell? ⟨b',off'+k*12+10,none⟩=some (v10)∧W.cell? ⟨b',off'+k*12+11,none⟩=some (v11)) ((repeat' apply And.intro)<;>first|(go_keep;done)|(rw [hcA _ _ (by first|omega|(simp;omega)|simp [*])];simp [*];done))
    (first|(go_at_call 213;refine(yp0 _ _ (psAt l k) _ HW.out HD.out HG.out).mono ?_;rintro e w2 ⟨rfl,hb2⟩;obtain⟨hcA,hfA⟩:=ygs hb2))
   clear hcA hfA
   go_wp2
   go_roundw
   case rel=>exact⟨k+1,by omega,by go_num,HB.out.drew.trans (hb2.mono (by have:=HB.out.size;simpa using this))⟩
   case measure=>simp [intOf];omega
  ·clear hB h h'
   go_wp2
   go_ret
   exact⟨rfl,HB.out⟩
end Go.Proofs.YtmobiieoecjmdaaGreat

