/- WCt, WIo, VcI, WTt, TPpB, KKe -/
import Derived.Test.YtmobiieoecjmdaaGreatExactVectorsG47
import Derived.Laws.AppendOwnNone
import Derived.Test.YtmobiieoecjmdaaGreatExactVectorsG38
import Derived.Test.YtmobiieoecjmdaaGreatExactVectorsG05
import Derived.Deep.RegionHeld3
/- slices.Concat at vectors. -/
namespace Go.Proofs.YtmobiieoecjmdaaGreat
open Go.RowKit
structure CPart where
 a:Option Addr
 c:Nat
 l:List (List Int)
def partAt (ps:List CPart) (i:Nat):CPart:=ps.getD i ⟨none,0,[]⟩
def PartsAt (w:World) (B:Nat) (ps:List CPart):Prop:=B<w.heap.size∧ ∀i,i<ps.length→w.cell? ⟨B,i,none⟩=some (.slice (partAt ps i).a (partAt ps i).l.length (partAt ps i).c)∧(((partAt ps i).a=none∧(partAt ps i).c=0∧(partAt ps i).l= [])∨ ∃b off,(partAt ps i).a=some ⟨b,off,none⟩∧((partAt ps i).l= []∨VcAt w b off (partAt ps i).l))
theorem PartsAt.below {w w':World} {B:Nat} {ps:List CPart} (h:PartsAt w B ps) (hb:Below w.heap.size w w'):PartsAt w' B ps:=
 ⟨Nat.lt_of_lt_of_le h.1 hb.size,fun i hi=>⟨(hb.cell (p:=⟨B,i,none⟩) h.1).trans (h.2 i hi).1,(h.2 i hi).2.imp id (fun⟨b,off,e1,e2⟩=>⟨b,off,e1,e2.imp id (fun e=>e.below hb)⟩)⟩⟩
def ybo (ps:List CPart):Nat→List (List Int)
 |0=> []
 |k+1=>ybo ps k++(partAt ps k).l
theorem ylo (ps:List CPart) (k n:Nat) (h:k≤n):(ybo ps k).length≤(ybo ps n).length:=by
 induction n with
 |zero=>rw [show k=0 by omega];exact Nat.le_refl _
 |succ n ih=>
  by_cases e:k=n+1
  ·rw [e];exact Nat.le_refl _
  ·have:=ih (by omega)
   simp only [ybo,List.length_append]
   omega
set_option maxRecDepth 100000 in
set_option maxHeartbeats 2000000 in
theorem concatA (B:Nat) (ps:List CPart) (w:World) (hps:ps.length≤1000) (hn:(ybo ps ps.length).length≤4194304) (hP:PartsAt w B ps):
  Calls Tryz.prog 93 #[.slice (some ⟨B,0,none⟩) ps.length ps.length] w fun e w'=>∃x,e= .returned x∧RowA w.heap.size w' x (ybo ps ps.length)∧Below w.heap.size w w':=by
 obtain⟨i0,hi,hz0,hz1,hz2⟩:=info_parts ylb
 have HP:Hid (PartsAt w B ps):=hP
 clear hP
 have HN:Hid ((ybo ps ps.length).length≤4194304):=hn
 clear hn
 go_enter Tryz.func93,Tryz.ntmps93
 go_wp2
 go_loop [3,11] (fun z i=>∃k:Nat,k≤ps.length∧i= .int .i64 k∧z= .int .i64 ((ybo ps k).length:Int)) (fun _ i=>ps.length-(intOf i).toNat)
 case atStart=>exact⟨0,Nat.zero_le _,rfl,rfl⟩
 case round=>
  obtain⟨k,hk,rfl,rfl⟩:=hrel
  by_cases hlt:k<ps.length
  ·have hc:=(HP.out.2 k hlt).1
   have hle:=ylo ps (k+1) ps.length (by omega)
   have hsum:(ybo ps (k+1)).length=(ybo ps k).length+(partAt ps k).l.length:=by simp [ybo]
   generalize hA:(ybo ps k).length=A at hsum⊢
   generalize hL:(partAt ps k).l.length=L at hsum hc
   have hA1:(A:Int)+(L:Int)≤4194304:=by have:=HN.out;omega
   have hA2:(0:Int)≤(A:Int)+(L:Int):=by omega
   have HS:Hid ((ybo ps (k+1)).length=A+L):=hsum
   clear hA hL hsum hle
   go_wp2
   go_round
   case rel=>exact⟨k+1,by omega,by go_num,by rw [HS.out];go_num⟩
   case measure=>simp [intOf];omega
  ·obtain rfl:k=ps.length:=by omega
   generalize hT:(ybo ps ps.length).length=T
   have HT:Hid ((ybo ps ps.length).length=T):=hT
   have hT1:T≤4194304:=by have:=HN.out;omega
   clear hT
   go_wp2_with (go_at_call 141;refine(yph T _ hT1).mono ?_;rintro e w1 ⟨v0,rfl,hr1,hb1⟩)
   have HR1:Hid (w1.ownsRow w.heap.size 137 4 v0 0 []):=hr1
   have HB1:Hid (Below w.heap.size w w1):=hb1
   clear hr1 hb1
   go_loopw [6,27] (fun v i wr=>∃k:Nat,k≤ps.length∧i= .int .i64 k∧Hid (wr.ownsRow w.heap.size 137 4 v (ybo ps k).length (yb4 (ybo ps k)))∧Hid (Below w.heap.size w wr)) (fun _ i _=>ps.length-(intOf i).toNat)
   case atStart=>exact⟨0,Nat.zero_le _,rfl,HR1.out,HB1.out⟩
   case round=>
    clear HR1 HB1
    obtain⟨k,hk,rfl,HR,HB⟩:=hrel
    by_cases hlt:k<ps.length
    ·have hPk:=HP.out.below HB.out
     have hc:=(hPk.2 k hlt).1
     have HE:Hid (((partAt ps k).a=none∧(partAt ps k).c=0∧(partAt ps k).l= [])∨ ∃b off,(partAt ps k).a=some ⟨b,off,none⟩∧((partAt ps k).l= []∨VcAt wr b off (partAt ps k).l)):=(hPk.2 k hlt).2
     clear hPk
     have hle:=ylo ps (k+1) ps.length (by omega)
     have hsum:(ybo ps (k+1)).length=(ybo ps k).length+(partAt ps k).l.length:=by simp [ybo]
     have hsz:w.heap.size≤wr.heap.size:=HB.out.size
     have hb1:(ybo ps k).length+(partAt ps k).l.length≤4194304:=by have:=HN.out;omega
     have HS:Hid ((ybo ps (k+1)).length=(ybo ps k).length+(partAt ps k).l.length):=hsum
     clear hle hsum
     rcases HE.out with ⟨ha,hcz,hl0⟩|⟨b,off,ha,hE⟩
     ·have HL:Hid ((partAt ps k).l= []):=hl0
      rw [ha,hcz,hl0]at hc
      simp only [List.length_nil]at hc
      clear ha hcz hl0 HE hb1
      go_wp2_with (at_builtin;refine wpList_append_own_none rfl _ _ 131 rfl w.heap.size 137 i0 4 Tryz.underlying131 hi _ (ybo ps k).length (yb4 (ybo ps k)) rfl HR.out rfl ?_)
      go_roundw
      case rel=>exact⟨k+1,by omega,by go_num,by rw [show ybo ps (k+1)=ybo ps k from by show ybo ps k++(partAt ps k).l=_;rw [HL.out,List.append_nil]];exact HR.out,HB.out⟩
      case measure=>simp [intOf];omega
     ·rw [ha]at hc
      have HC:Hid (∀j u,(yb4 (partAt ps k).l)[j]? =some u→wr.cell? ((⟨b,off,none⟩:Addr).add j)=some u):=by
       rcases hE with h|h
       ·exact fun j u hu=>by rw [h]at hu;cases hu
       ·exact h.cells
      clear ha hE HE
      go_wp2_with (at_builtin;refine wpList_append_own _ rfl _ _ 131 rfl w.heap.size 137 i0 _ 4 32 Tryz.underlying131 hi hz0 hz1 hz2 rfl (by decide) _ (ybo ps k).length (yb4 (ybo ps k)) rfl HR.out ⟨b,off,none⟩ (partAt ps k).l.length (partAt ps k).c (yb4 (partAt ps k).l) rfl (yf3 _) HC.out (ygx _) (by unfold maxLen;omega) (by omega) hsz ?_;intro v' w2 hown hgrow hnil)
      go_roundw
      case rel=>exact⟨k+1,by omega,by go_num,by rw [HS.out];show World.ownsRow _ _ _ _ _ _ (yb4 (ybo ps k++(partAt ps k).l));rw [yf4];exact hown,HB.out.grown hgrow hsz (fun r e=>(World.ownsRow.lt HR.out r e).1)⟩
      case measure=>simp [intOf];omega
    ·obtain rfl:k=ps.length:=by omega
     go_wp2
     go_ret
     exact⟨_,rfl,HR.out,HB.out⟩
theorem vecs_len {v:Wd} (h:ycw v.k):∀j,j<(dsOf v.k).length→(vAt (dsOf v.k) j).length≤1048576:=fun j hj=>by
 rw [ybe]at hj
 rw [ygl hj]
 have h9:=(h.2 j hj).2
 unfold Kn.wt at h9
 rw [yah]at h9
 omega
theorem yoi {B1 B2:Nat} {w V:World} {y1 y2:Value} {l1 l2:List (List Int)} {g:Nat} (h1:RowA B1 w y1 l1) (h2:RowA B2 w y2 l2) (hb:Below w.heap.size w V) (hB:Bk V g 131 #[y1,y2]):∃ps:List CPart,ps.length=2∧ybo ps 2=l1++l2∧PartsAt V g ps:=by
 have e:∀{B:Nat} {y:Value} {l:List (List Int)},RowA B w y l→ ∃a c,y= .slice a l.length c∧((a=none∧c=0∧l= [])∨ ∃b off,a=some ⟨b,off,none⟩∧(l= []∨VcAt V b off l)):=fun h=>by
  rcases RowA.at h with ⟨rfl,rfl⟩|⟨g,cap,rfl,_,_,h3⟩
  ·exact⟨none,0,rfl,.inl ⟨rfl,rfl,rfl⟩⟩
  ·exact⟨_,cap,rfl,.inr ⟨g,0,rfl,.inr (h3.below hb)⟩⟩
 obtain⟨a1,c1,rfl,k1⟩:=e h1
 obtain⟨a2,c2,rfl,k2⟩:=e h2
 refine⟨[⟨a1,c1,l1⟩,⟨a2,c2,l2⟩],rfl,rfl,hB.lt,fun i hi=> ?_⟩
 have h4:i=0∨i=1:=by simp at hi;omega
 rcases h4 with rfl|rfl
 ·exact⟨hB.cell (i:=0) rfl,k1⟩
 ·exact⟨hB.cell (i:=1) rfl,k2⟩
theorem RowA.below {B:Nat} {w w':World} {x:Value} {l:List (List Int)} (h:RowA B w x l) (hb:Below w.heap.size w w'):RowA B w' x l:=ycg (S:=fun _=>False) h (Turns.of_below hb) (fun _ _=>id)
set_option maxRecDepth 100000 in
set_option maxHeartbeats 16000000 in
theorem iWorldOk (x:Value) (v:Wd) (w:World) (hs:ybq v) (h:IsW w x v):
  Calls Tryz.prog 45 #[x] w fun e w'=>e= .returned (.bool v.ok)∧Below w.heap.size w w':=by
 have HSW:Hid (ybq v):=hs
 have h0:=h
 have HSM:Hid (SmallM v.m):=hs.1
 have HSK:Hid (ycw v.k):=hs.2.1
 have HSV:Hid ((yad v.c).wt≤1048576):=hs.2.2
 have hkl:v.k.length≤1048576:=hs.2.1.1
 have hcl:v.c.length≤1048576:=by have h9:=hs.2.2;rw [yc9]at h9;omega
 obtain⟨ai,ci,ah,ch,ae,ce,ak,ck,ac,cc,rfl,hm,hk,hc⟩:=h.form
 have HWW:Hid (IsW w (.agg #[.int .i64 v.m.n,.int .i64 v.m.s,.slice ai v.m.i.length ci,.slice ah v.m.h.length ch,.slice ae v.m.e.length ce,.int .i64 v.m.z,.slice ak v.k.length ck,.slice ac v.c.length cc]) v):=h
 have HMW:Hid (IsM w (.agg #[.int .i64 v.m.n,.int .i64 v.m.s,.slice ai v.m.i.length ci,.slice ah v.m.h.length ch,.slice ae v.m.e.length ce,.int .i64 v.m.z]) v.m):=hm
 have HKS:Hid (v.k.length=0∨ ∃b off,ak=some ⟨b,off,none⟩∧b<w.heap.size∧ ∀i,i<v.k.length→KAt w b (off+i*14) (knAt v.k i)):=hk
 have HCS:Hid (v.c.length=0∨ ∃b off,ac=some ⟨b,off,none⟩∧b<w.heap.size∧ ∀j,j<v.c.length→ ∃u,w.cell? ⟨b,off+j,none⟩=some u∧IsD w u (ya9 (vAt v.c j))):=hc
 have HCD:Hid (IsD w (.slice ac v.c.length cc) (yad v.c)):=by
  obtain⟨_,_,_,_,uc,e9,_,_,h9⟩:=h0
  have e8:=congrArg Array.toList (Value.agg.inj e9)
  simp at e8
  rw [←e8.2.2.2.2]at h9
  exact h9
 clear h h0 hm hk hc
 obtain⟨W0,hW0⟩:∃W0,w.alloc (.cells #[.int .i64 v.m.n,.int .i64 v.m.s,.slice ai v.m.i.length ci,.slice ah v.m.h.length ch,.slice ae v.m.e.length ce,.int .i64 v.m.z,.slice ak v.k.length ck,.slice ac v.c.length cc] 39)=W0:=⟨_,rfl⟩
 have HB0:Hid (Below w.heap.size w W0):=by rw [←hW0];exact(Below.refl _ w).alloc (Nat.le_refl _) _
 have HP0:Hid (Bk W0 w.heap.size 39 #[.int .i64 v.m.n,.int .i64 v.m.s,.slice ai v.m.i.length ci,.slice ah v.m.h.length ch,.slice ae v.m.e.length ce,.int .i64 v.m.z,.slice ak v.k.length ck,.slice ac v.c.length cc]):=by rw [←hW0];exact Bk.new w _ _
 have q0:=HP0.out.cell (i:=0) rfl
 have q1:=HP0.out.cell (i:=1) rfl
 have q2:=HP0.out.cell (i:=2) rfl
 have q3:=HP0.out.cell (i:=3) rfl
 have q4:=HP0.out.cell (i:=4) rfl
 have q5:=HP0.out.cell (i:=5) rfl
 have q6:=HP0.out.cell (i:=6) rfl
 have q7:=HP0.out.cell (i:=7) rfl
 by_cases c4:v.k.length≤16
 case neg=>
  have c4':(16:Int)<(v.k.length:Int):=by omega
  have HN:Hid (v.ok=false):=yaa (fun h=>c4 (wok_iff.1 h).1.2.1)
  clear c4
  go_enter Tryz.func45,Tryz.ntmps45
  go_wp2
  go_ret
  exact⟨ya1 HN.out.symm,HB0.out⟩
 have c4':¬(16:Int)<(v.k.length:Int):=by omega
 by_cases c5:v.c.length≤100
 case neg=>
  have c5':(100:Int)<(v.c.length:Int):=by omega
  have HN:Hid (v.ok=false):=yaa (fun h=>c5 (wok_iff.1 h).1.2.2)
  clear c5
  go_enter Tryz.func45,Tryz.ntmps45
  go_wp2
  go_ret
  exact⟨ya1 HN.out.symm,HB0.out⟩
 have c5':¬(100:Int)<(v.c.length:Int):=by omega
 have HLN:Hid (v.k.length≤16∧v.c.length≤100):=⟨c4,c5⟩
 go_enter Tryz.func45,Tryz.ntmps45
 go_wp2_with fail
 clear q0 q1 q2 q3 q4 q5 q6 q7 c4' c5' hW0
 refine(yl3 _ v _ HSW.out (HWW.out.under HB0.out)).mono ?_
 rintro e w1 ⟨y1,rfl,hb1,hr1⟩
 have HB1:Hid (Below w.heap.size w w1):=HB0.out.trans (hb1.mono HB0.out.size)
 have HP1:Hid (Bk w1 w.heap.size 39 #[.int .i64 v.m.n,.int .i64 v.m.s,.slice ai v.m.i.length ci,.slice ah v.m.h.length ch,.slice ae v.m.e.length ce,.int .i64 v.m.z,.slice ak v.k.length ck,.slice ac v.c.length cc]):=HP0.out.below hb1
 have HD1:Hid (IsD w1 y1 (yad (dsOf v.k))):=hr1.isD hb1
 clear hb1 hr1 HB0 HP0
 go_wp2_with fail
 refine(in_any y1 (dsOf v.k) w1 (by rw [ybe];omega) (vecs_len HSK.out) HD1.out).mono ?_
 rintro e w2 ⟨hb2,hin⟩
 have HB2:Hid (Below w.heap.size w w2):=HB1.out.trans (hb2.mono HB1.out.size)
 have HP2:Hid (Bk w2 w.heap.size 39 #[.int .i64 v.m.n,.int .i64 v.m.s,.slice ai v.m.i.length ci,.slice ah v.m.h.length ch,.slice ae v.m.e.length ce,.int .i64 v.m.z,.slice ak v.k.length ck,.slice ac v.c.length cc]):=HP1.out.below hb2
 clear hb2 HB1 HP1 HD1
 obtain⟨y2,b2,rfl,HI2⟩:∃y2 b2,e= .returned (.tuple #[y2,.bool b2])∧Hid ((b2=true∧yfe (dsOf v.k)=true∧ ∃B,RowA B w2 y2 (dsOf v.k))∨(b2=false∧yfe (dsOf v.k)=false)):=by
  rcases hin with ⟨h1,y,rfl,h2⟩|⟨h1,rfl⟩
  ·exact⟨y,true,rfl,.inl ⟨rfl,h1,_,h2⟩⟩
  ·exact⟨_,false,rfl,.inr ⟨rfl,h1⟩⟩
 clear hin
 have q7:=HP2.out.cell (i:=7) rfl
 go_wp2_with fail
 clear q7
 refine(in_any (.slice ac v.c.length cc) v.c w2 (by omega) (fun j hj=>Nat.le_trans (ygw hj) HSV.out) (HCD.out.under HB2.out)).mono ?_
 rintro e w3 ⟨hb3,hin⟩
 have HB3:Hid (Below w.heap.size w w3):=HB2.out.trans (hb3.mono HB2.out.size)
 have HP3:Hid (Bk w3 w.heap.size 39 #[.int .i64 v.m.n,.int .i64 v.m.s,.slice ai v.m.i.length ci,.slice ah v.m.h.length ch,.slice ae v.m.e.length ce,.int .i64 v.m.z,.slice ak v.k.length ck,.slice ac v.c.length cc]):=HP2.out.below hb3
 have HI23:Hid ((b2=true∧yfe (dsOf v.k)=true∧ ∃B,RowA B w3 y2 (dsOf v.k))∨(b2=false∧yfe (dsOf v.k)=false)):=HI2.out.imp (fun⟨h1,h2,B,h3⟩=>⟨h1,h2,B,h3.below hb3⟩) id
 clear hb3 HB2 HP2 HI2
 obtain⟨y3,b3,rfl,HI3⟩:∃y3 b3,e= .returned (.tuple #[y3,.bool b3])∧Hid ((b3=true∧yfe v.c=true∧ ∃B,RowA B w3 y3 v.c)∨(b3=false∧yfe v.c=false)):=by
  rcases hin with ⟨h1,y,rfl,h2⟩|⟨h1,rfl⟩
  ·exact⟨y,true,rfl,.inl ⟨rfl,h1,_,h2⟩⟩
  ·exact⟨_,false,rfl,.inr ⟨rfl,h1⟩⟩
 clear hin
 rcases HI23.out with ⟨rfl,hk1,B1,hk2⟩|⟨rfl,hk1⟩
 case inr=>
  have HN:Hid (v.ok=false):=yaa (fun h=>by
   have h1:=(wok_iff.1 h).2.1
   have h2:yfe (dsOf v.k)=true:=allVk_iff.2 (fun i hi=>by
    rw [ybe]at hi
    rw [ygl hi]
    exact(yhx (runB_iff.1 (h1 i hi)).1).2)
   rw [hk1]at h2
   cases h2)
  clear hk1
  go_wp2
  go_ret
  exact⟨ya1 HN.out.symm,HB3.out⟩
 rcases HI3.out with ⟨rfl,hc1,B2,hc2⟩|⟨rfl,hc1⟩
 case inr=>
  have HN:Hid (v.ok=false):=yaa (fun h=>by
   have h2:yfe v.c=true:=allVk_iff.2 (wok_iff.1 h).2.2.1
   rw [hc1]at h2
   cases h2)
  clear hk1 hk2 hc1
  go_wp2
  go_ret
  exact⟨ya1 HN.out.symm,HB3.out⟩
 have HAV:Hid (∀i,i<v.c.length→vok (vAt v.c i)=true):=allVk_iff.1 hc1
 obtain⟨V4,hV4⟩:∃V4,w3.alloc (.cells #[y2,y3] 131)=V4:=⟨_,rfl⟩
 have hb4:Below w3.heap.size w3 V4:=hV4▸(Below.refl _ w3).alloc (Nat.le_refl _) _
 have hK4:Bk V4 w3.heap.size 131 #[y2,y3]:=hV4▸Bk.new w3 _ _
 obtain⟨ps,hps,hcat,hPA⟩:=yoi hk2 hc2 hb4 hK4
 have HPA:Hid (PartsAt V4 w3.heap.size ps):=hPA
 have HCAT:Hid (ybo ps ps.length=allV v):=by rw [hps];exact hcat
 have HPS:Hid (ps.length=2):=hps
 have HCON:Hid (Calls Tryz.prog 93 #[.slice (some ⟨w3.heap.size,0,none⟩) 2 2] V4 fun e w'=>∃x,e= .returned x∧RowA V4.heap.size w' x (allV v)∧Below V4.heap.size V4 w'):=by
  have h9:=concatA w3.heap.size ps V4 (by rw [hps];omega) (by rw [HCAT.out];unfold allV;rw [List.length_append,ybe];omega) hPA
  rw [HCAT.out,hps]at h9
  exact h9
 have HB4:Hid (Below w.heap.size w V4):=HB3.out.trans (hb4.mono HB3.out.size)
 have HP4:Hid (Bk V4 w.heap.size 39 #[.int .i64 v.m.n,.int .i64 v.m.s,.slice ai v.m.i.length ci,.slice ah v.m.h.length ch,.slice ae v.m.e.length ce,.int .i64 v.m.z,.slice ak v.k.length ck,.slice ac v.c.length cc]):=HP3.out.below hb4
 obtain⟨a2,c2,rfl⟩:=ybv hk2
 obtain⟨a3,c3,rfl⟩:=ybv hc2
 clear hk1 hk2 hc1 hc2 hb4 hK4 hps hcat hPA HPA HI23 HI3
 go_wp2_with fail
 clear hV4
 refine HCON.out.mono ?_
 rintro e w5 ⟨y5,rfl,hr5,hb5⟩
 have HB5:Hid (Below w.heap.size w w5):=HB4.out.trans (hb5.mono HB4.out.size)
 have HP5:Hid (Bk w5 w.heap.size 39 #[.int .i64 v.m.n,.int .i64 v.m.s,.slice ai v.m.i.length ci,.slice ah v.m.h.length ch,.slice ae v.m.e.length ce,.int .i64 v.m.z,.slice ak v.k.length ck,.slice ac v.c.length cc]):=HP4.out.below hb5
 have HR5:Hid (RowA V4.heap.size w5 y5 (allV v)):=hr5
 clear hr5 hb5 HB4 HP4 HCON
 go_wp2_with fail
 refine(none_any y5 (allV v) w5 (by unfold allV;rw [List.length_append,ybe];omega) HR5.out.at).mono ?_
 rintro e w6 ⟨rfl,hb6⟩
 have HB6:Hid (Below w.heap.size w w6):=HB5.out.trans (hb6.mono HB5.out.size)
 have HP6:Hid (Bk w6 w.heap.size 39 #[.int .i64 v.m.n,.int .i64 v.m.s,.slice ai v.m.i.length ci,.slice ah v.m.h.length ch,.slice ae v.m.e.length ce,.int .i64 v.m.z,.slice ak v.k.length ck,.slice ac v.c.length cc]):=HP5.out.below hb6
 clear hb6 HB5 HP5
 cases hnm:noMB (allV v)
 case false=>
  have HN:Hid (v.ok=false):=yaa (fun h=>by have h2:=(wok_iff.1 h).2.2.2;rw [hnm]at h2;cases h2)
  clear hnm
  go_wp2
  go_ret
  exact⟨ya1 HN.out.symm,HB6.out⟩
 have HNM:Hid (noMB (allV v)=true):=hnm
 clear hnm
 have q0:=HP6.out.cell (i:=0) rfl
 have q1:=HP6.out.cell (i:=1) rfl
 have q2:=HP6.out.cell (i:=2) rfl
 have q3:=HP6.out.cell (i:=3) rfl
 have q4:=HP6.out.cell (i:=4) rfl
 have q5:=HP6.out.cell (i:=5) rfl
 have q6:=HP6.out.cell (i:=6) rfl
 have q7:=HP6.out.cell (i:=7) rfl
 go_wp2_with fail
 clear q0 q1 q2 q3 q4 q5 q6 q7
 refine(iRunsOk _ v _ HSW.out (HWW.out.under HB6.out)).mono ?_
 rintro e w7 ⟨rfl,hb7⟩
 have HB7:Hid (Below w.heap.size w w7):=HB6.out.trans (hb7.mono HB6.out.size)
 clear hb7
 have HEQ:Hid (yg7 v=v.ok):=by
  cases hr:yg7 v
  ·exact(yaa (fun h=>by have h9:yg7 v=true:=runsB_iff.2 ⟨(wok_iff.1 h).1.1,(wok_iff.1 h).2.1⟩;rw [hr]at h9;cases h9)).symm
  ·exact(wok_iff.2 ⟨⟨(runsB_iff.1 hr).1,HLN.out.1,HLN.out.2⟩,(runsB_iff.1 hr).2,HAV.out,HNM.out⟩).symm
 go_wp2
 go_ret
 exact⟨ya1 HEQ.out,HB7.out⟩
theorem yo9 {B:Nat} {w0 w:World} {x:Value} {l:List (List Int)} (h:RowV B w0 w x l):∃us:List Value,(∀j,j<l.length→ ∃u,us[j]? =some u∧IsD w0 u (ya9 (vAt l j)))∧OwnD w (fun k=>B≤k∧k<w.heap.size) x (.row 1 l.length (toC (yaf l) us 0)):=by
 obtain⟨us,h1,h2,h3⟩:=h
 refine⟨us,h3,((RowF.of_owns h1.1 h1).own).congr (fun j hj=> ?_)⟩
 simp [toC]
set_option maxRecDepth 100000 in
set_option maxHeartbeats 8000000 in
theorem iVectors (x:Value) (v:Wd) (w:World) (hs:ybq v) (h:IsW w x v):
  Calls Tryz.prog 12 #[x] w fun e w'=>∃u,e= .returned u∧OwnD w' (fun k=>w.heap.size≤k∧k<w'.heap.size) u (yad (vecA v))∧Below w.heap.size w w':=by
 obtain⟨ai,ci,ah,ch,ae,ce,ak,ck,ac,cc,rfl,hm,hk,hc⟩:=h.form
 have HWW:Hid (IsW w (.agg #[.int .i64 v.m.n,.int .i64 v.m.s,.slice ai v.m.i.length ci,.slice ah v.m.h.length ch,.slice ae v.m.e.length ce,.int .i64 v.m.z,.slice ak v.k.length ck,.slice ac v.c.length cc]) v):=h
 have HS:Hid (ybq v):=hs
 have hkl:v.k.length≤1048576:=hs.2.1.1
 have HKS:Hid (v.k.length=0∨ ∃b off,ak=some ⟨b,off,none⟩∧b<w.heap.size∧ ∀i,i<v.k.length→KAt w b (off+i*14) (knAt v.k i)):=hk
 clear h hm hk hc hs
 obtain⟨W0,hW0⟩:∃W0,w.alloc (.cells #[.int .i64 v.m.n,.int .i64 v.m.s,.slice ai v.m.i.length ci,.slice ah v.m.h.length ch,.slice ae v.m.e.length ce,.int .i64 v.m.z,.slice ak v.k.length ck,.slice ac v.c.length cc] 39)=W0:=⟨_,rfl⟩
 have HB0:Hid (Below w.heap.size w W0):=by rw [←hW0];exact(Below.refl _ w).alloc (Nat.le_refl _) _
 have HP0:Hid (Bk W0 w.heap.size 39 #[.int .i64 v.m.n,.int .i64 v.m.s,.slice ai v.m.i.length ci,.slice ah v.m.h.length ch,.slice ae v.m.e.length ce,.int .i64 v.m.z,.slice ak v.k.length ck,.slice ac v.c.length cc]):=by rw [←hW0];exact Bk.new w _ _
 have p0:=HP0.out.cell (i:=0) rfl
 have p1:=HP0.out.cell (i:=1) rfl
 have p2:=HP0.out.cell (i:=2) rfl
 have p3:=HP0.out.cell (i:=3) rfl
 have p4:=HP0.out.cell (i:=4) rfl
 have p5:=HP0.out.cell (i:=5) rfl
 have p6:=HP0.out.cell (i:=6) rfl
 have p7:=HP0.out.cell (i:=7) rfl
 go_enter Tryz.func12,Tryz.ntmps12
 go_wp2_with fail
 clear hW0 p0 p1 p2 p3 p4 p5 p6 p7
 refine(iWorldOk _ v _ HS.out (HWW.out.under HB0.out)).mono ?_
 rintro e w1 ⟨rfl,hb⟩
 have HB1:Hid (Below w.heap.size w w1):=HB0.out.trans (hb.mono HB0.out.size)
 have HP1:Hid (Bk w1 w.heap.size 39 #[.int .i64 v.m.n,.int .i64 v.m.s,.slice ai v.m.i.length ci,.slice ah v.m.h.length ch,.slice ae v.m.e.length ce,.int .i64 v.m.z,.slice ak v.k.length ck,.slice ac v.c.length cc]):=HP0.out.below hb
 have hs1:w.heap.size≤w1.heap.size:=HB1.out.size
 clear hb HB0 HP0
 cases hok:v.ok
 case false=>
  have HE:Hid (vecA v= []):=(by simp [vecA,hok]:vecA v= [])
  clear hok
  go_wp2
  go_ret
  exact⟨.slice none 0 0,rfl,by rw [HE.out];exact .nil _ _ _ _ _ (Nat.zero_le _),HB1.out⟩
 have HE:Hid (vecA v=dsOf v.k):=(by simp [vecA,hok]:vecA v=dsOf v.k)
 clear hok
 have p0:=HP1.out.cell (i:=0) rfl
 have p1:=HP1.out.cell (i:=1) rfl
 have p2:=HP1.out.cell (i:=2) rfl
 have p3:=HP1.out.cell (i:=3) rfl
 have p4:=HP1.out.cell (i:=4) rfl
 have p5:=HP1.out.cell (i:=5) rfl
 have p6:=HP1.out.cell (i:=6) rfl
 have p7:=HP1.out.cell (i:=7) rfl
 go_wp2_with fail
 clear p0 p1 p2 p3 p4 p5 p6 p7
 refine(yl3 _ v _ HS.out (HWW.out.under HB1.out)).mono ?_
 rintro e w2 ⟨y,rfl,hb,hR⟩
 have HW1:Hid (IsW w1 (.agg #[.int .i64 v.m.n,.int .i64 v.m.s,.slice ai v.m.i.length ci,.slice ah v.m.h.length ch,.slice ae v.m.e.length ce,.int .i64 v.m.z,.slice ak v.k.length ck,.slice ac v.c.length cc]) v):=HWW.out.under HB1.out
 have HB2:Hid (Below w1.heap.size w1 w2):=hb
 have hs2:w1.heap.size≤w2.heap.size:=hb.size
 obtain⟨a3,c3,rfl⟩:=hR.slice
 obtain⟨us,hus,hR⟩:=yo9 hR
 have hdl:(dsOf v.k).length=v.k.length:=ylk v.k
 have HUS:Hid (∀j,j<(dsOf v.k).length→ ∃u,us[j]? =some u∧IsD w1 u (ya9 (vAt (dsOf v.k) j))):=hus
 have HLN:Hid (∀j,(vAt (dsOf v.k) j).length≤1048577):=fun j=>by
  by_cases hj:j<v.k.length
  ·rw [ds_at v.k hj]
   have h9:=(HS.out.2.1.2 j hj).2
   unfold Kn.wt at h9
   rw [yah]at h9
   omega
  ·unfold vAt
   rw [List.getD_eq_getElem?_getD,List.getElem?_eq_none (by omega)]
   exact Nat.zero_le _
 generalize dsOf v.k=D at HUS HLN HE hR hdl⊢
 have HR2:Hid (OwnD w2 (fun k=>w1.heap.size≤k∧k<w2.heap.size) (.slice a3 D.length c3) (.row 1 D.length (toC (yaf D) us 0))):=hR
 have hD:D.length≤1048576:=by omega
 have HFM:Hid (D.length=0∨ ∃g,a3=some ⟨g,0,none⟩):=by
  obtain⟨a,c,e,_,_,h9⟩:=OwnD.parts (c:=1) (n:=D.length) hR
  cases e
  rcases h9 with h9|⟨g,h9,_⟩
  ·exact .inl h9
  ·exact .inr ⟨g,h9⟩
 clear hb hR hus hdl HP1 HKS
 go_wp2
 go_loopw [13] (fun i wr=>∃j:Nat,j≤D.length∧i= .int .i64 j∧Below w1.heap.size w1 wr∧OwnD wr (fun k=>w1.heap.size≤k∧k<wr.heap.size) (.slice a3 D.length c3) (.row 1 D.length (toC (yaf D) us j))) (fun i _=>D.length-(intOf i).toNat)
 case atStart=>exact⟨0,Nat.zero_le _,rfl,HB2.out,HR2.out⟩
 case round=>
  obtain⟨j,hj,rfl,hB,hR⟩:=hrel
  have HB:Hid (Below w1.heap.size w1 wr):=hB
  have HR:Hid (OwnD wr (fun k=>w1.heap.size≤k∧k<wr.heap.size) (.slice a3 D.length c3) (.row 1 D.length (toC (yaf D) us j))):=hR
  have hsr:w1.heap.size≤wr.heap.size:=hB.size
  clear hB hR
  by_cases hlt:j<D.length
  ·have hlt1:(j:Int)<(D.length:Int):=by omega
   obtain⟨g,rfl⟩:=HFM.out.resolve_left (by omega)
   obtain⟨u,hu,hd⟩:=HUS.out j hlt
   obtain⟨x0,K,g0,z0,hx0,hK,_⟩:=HR.out.step (j:=j) (by omega)
   have hx:x0=u:=by
    simp only [toC,Nat.lt_irrefl,if_false]at hx0
    cases hx0
    simp [hu]
   subst hx
   have HD:Hid (IsD wr x0 (ya9 (vAt D j))):=hd.under HB.out
   have hgb:=HR.out.lt (by omega)
   clear hx0 hK hd hu z0
   go_wp2_with fail
   clear g0
   refine(ypt x0 (vAt D j) _ (HLN.out j) HD.out).mono ?_
   rintro e w3 ⟨y,rfl,hO,hb⟩
   have HB3:Hid (Below wr.heap.size wr w3):=hb
   have HO:Hid (OwnD w3 (fun k=>wr.heap.size≤k∧k<w3.heap.size) y (ya9 (vAt D j))):=hO
   have HR3:Hid (OwnD w3 (fun k=>w1.heap.size≤k∧k<wr.heap.size) (.slice (some ⟨g,0,none⟩) D.length c3) (.row 1 D.length (toC (yaf D) us j))):=HR.out.under hb
   obtain⟨x3,_,g3,z3,_⟩:=HR3.out.step (j:=j) (by omega)
   obtain⟨ya,yc,rfl,_⟩:=OwnD.parts (c:=1) (n:=(vAt D j).length) hO
   clear hb hO
   go_wp2
   go_roundw
   case rel=>
    have q:=OwnD.fillN (G:=fun _ k=>wr.heap.size≤k∧k<w3.heap.size) (U:=fun _=> .slice ya (vAt D j).length yc) HR3.out hgb.2 1 (by omega) (fun i hi=>by
     obtain rfl:i=0:=by omega
     have e9:=yfr D j (r:=0) (by omega)
     rw [Nat.mul_one,Nat.add_zero]at e9
     rw [Nat.add_zero,e9]
     exact HO.out) (fun i _ b hb hb'=>by omega) (fun i j hi hj hij b hb hb'=>by omega)
    have hT:=ya2 w3 g j (.slice ya (vAt D j).length yc)
    have hsz:=hT.size
    have hs3:=HB3.out.size
    refine⟨j+1,by omega,by go_num,(HB.out.trans (HB3.out.mono hsr)).trans (hT.to_below (fun b e=>by omega) (by omega)),?_⟩
    refine OwnD.mono q (fun b hb=> ?_)
    rcases hb with hb|⟨i,_,hb⟩
    ·exact⟨hb.1,Nat.lt_of_lt_of_le hb.2 (Nat.le_trans hs3 hsz)⟩
    ·exact⟨by omega,Nat.lt_of_lt_of_le hb.2 hsz⟩
   case measure=>simp [intOf];omega
  ·obtain rfl:j=D.length:=by omega
   have hlt1:¬((D.length:Int)<(D.length:Int)):=by omega
   go_wp2
   go_ret
   exact⟨_,rfl,by rw [HE.out];exact(HR.out.toAll (by omega)).mono (fun k hk=>⟨by omega,hk.2⟩),HB1.out.trans (HB.out.mono hs1)⟩
set_option maxHeartbeats 4000000
open Go.RowKit
theorem IsO.isDs {w:World} {x:Value} {l:List O} (h:IsO w x l):IsD w x (opsD l):=by
 obtain⟨a,cap,rfl,h1,h2,h⟩:=h
 refine IsD.of_parts h1 h2 (h.imp (fun e=>by rw [e];rfl) ?_)
 rintro ⟨b,off,rfl,hb,hc⟩
 refine⟨b,off,rfl,hb,fun j hj=> ?_⟩
 have hi:j/4<l.length:=by omega
 have hr:j%4<4:=by omega
 obtain⟨e0,e1,e2,e3⟩:=hc (j/4) hi
 have hg:=yd5 l (j/4) (j%4) hi hr
 rw [show j/4*4+j%4=j from by omega]at hg
 have hall:∀r,r<4→ ∃u,w.cell? ⟨b,off+j/4*4+r,none⟩=some u∧(oAt l (j/4)).cs[r]? =some u:=fun r hr=>by
  match r,hr with
  |0,_=>exact⟨_,e0,rfl⟩
  |1,_=>exact⟨_,e1,rfl⟩
  |2,_=>exact⟨_,e2,rfl⟩
  |3,_=>exact⟨_,e3,rfl⟩
 obtain⟨u,hu,hv⟩:=hall (j%4) hr
 rw [show off+j/4*4+j%4=off+j from by omega]at hu
 refine⟨u,hu,?_⟩
 rw [show(ycu l).getD j (.int .i64 0)=u from yas (hg.trans hv)]
 exact .val _
theorem IsH.isDh {w:World} {x:Value} {l:List (List O)} (h:IsH w x l):IsD w x (hsD l):=by
 obtain⟨a,cap,rfl,h1,h2,h⟩:=h
 refine IsD.of_parts h1 h2 (h.imp (fun e=>by rw [e];rfl) ?_)
 rintro ⟨b,off,rfl,hb,hc⟩
 refine⟨b,off,rfl,hb,fun j hj=> ?_⟩
 obtain⟨u,hu,ho⟩:=hc j (by omega)
 exact⟨u,hu,ho.isDs⟩
theorem sz_ops (x:Value) (l:List O) (left:Int) (w:World) (h0:0≤left) (h1:left≤1048576) (h:IsD w x (opsD l)):
  Calls Tryz.prog 134 #[x,.int .i64 left] w fun e w'=>(∃r,e= .returned (.int .i64 r)∧SzR (opsD l).wt left r)∧Below w.heap.size w w':=by
 obtain⟨a,cap,rfl,hn⟩:=IsD.len (c:=4) (n:=l.length) h
 refine(szO_any a l.length cap left w hn h0 h1).mono ?_
 rintro e w' ⟨rfl,rfl⟩
 exact⟨⟨_,rfl,by rw [yop];exact yo0 _ _⟩,Below.refl _ _⟩
def mdW (m:Md):Nat:=(ya9 m.i).wt+(hsD m.h).wt+(evsD m.e).wt
def wdW (v:Wd):Nat:=mdW v.m+(knsD v.k).wt+(yad v.c).wt
theorem sz_hs (x:Value) (l:List (List O)) (left:Int) (w:World) (h0:0≤left) (h1:left≤1048576) (h:IsD w x (hsD l)):
  Calls Tryz.prog 85 #[x,.int .i64 left] w fun e w'=>(∃r,e= .returned (.int .i64 r)∧SzR (hsD l).wt left r)∧Below w.heap.size w w':=by
 obtain⟨a,cap,rfl,hn1,hn,h⟩:=IsD.parts (c:=1) (n:=l.length) h
 have hn2:l.length≤9223372036854775807:=by unfold maxLen at hn;omega
 clear hn1 hn
 by_cases hp:left-(l.length:Int)<0
 ·go_enter Tryz.func85,Tryz.ntmps85
  go_wp2
  go_ret
  exact⟨⟨_,rfl,.inl rfl⟩,Below.refl _ _⟩
 ·have HLF:Hid (0≤left-(l.length:Int)):=(by omega:0≤left-(l.length:Int))
  go_enter Tryz.func85,Tryz.ntmps85
  go_wp2
  go_loopw [5,1] (fun i z wr=>∃k:Nat,k≤l.length∧i= .int .i64 k∧Below w.heap.size w wr∧ ∃lf:Int,z= .int .i64 lf∧0≤lf∧lf+(l.length:Int)+(sumL (fun i=>(opsD (hAt l i)).wt) k:Int)=left) (fun i _ _=>l.length-(intOf i).toNat)
  case atStart=>exact⟨0,Nat.zero_le _,rfl,Below.refl _ _,left-(l.length:Int),rfl,HLF.out,by simp [sumL]⟩
  case round=>
   obtain⟨k,hk,rfl,hB,lf2,rfl,hz0,hz1⟩:=hrel
   have HZ:Hid (lf2+(l.length:Int)+(sumL (fun i=>(opsD (hAt l i)).wt) k:Int)=left):=hz1
   have HB:Hid (Below w.heap.size w wr):=hB
   have hz2:lf2≤1048576:=by omega
   clear hz1
   by_cases hlt:k<l.length
   ·obtain⟨b,off,rfl,hb,hc⟩:=h.resolve_left (by omega)
    obtain⟨u,hu,hd⟩:=hc k (by omega)
    have f0:=(hB.cell (p:=⟨b,off+k,none⟩) hb).trans hu
    have HD:Hid (IsD wr u (opsD (hAt l k))):=hd.under hB
    clear h hc hB hd hu
    go_wp2_with fail
    clear f0
    refine(sz_ops _ (hAt l k) _ _ hz0 hz2 HD.out).mono ?_
    rintro e w2 ⟨⟨r,rfl,hr⟩,hb2⟩
    have HB2:Hid (Below w.heap.size w w2):=HB.out.trans (hb2.mono HB.out.size)
    clear hb2
    rcases hr with rfl|⟨r0,hr⟩
    ·go_wp2
     go_ret
     exact⟨⟨_,rfl,.inl rfl⟩,HB2.out⟩
    ·have HR:Hid (r+((opsD (hAt l k)).wt:Int)=lf2):=hr
     have r2:¬(r<0):=by omega
     clear hr
     go_wp2
     go_roundw
     case rel=>exact⟨k+1,by omega,by go_num,HB2.out,r,rfl,r0,by have:=HR.out;have:=HZ.out;simp only [sumL];omega⟩
     case measure=>simp [intOf];omega
   ·clear h hB
    go_wp2
    go_ret
    obtain rfl:k=l.length:=by omega
    exact⟨⟨_,rfl,.inr ⟨hz0,by rw [yld];have:=HZ.out;omega⟩⟩,HB.out⟩
theorem yij (x:Value) (m:Md) (left:Int) (w:World) (hl0:0≤left) (hl1:left≤1048576) (h:IsM w x m):
  Calls Tryz.prog 38 #[x,.int .i64 left] w fun e w'=>(∃r,e= .returned (.int .i64 r)∧SzR (mdW m) left r)∧Below w.heap.size w w':=by
 obtain⟨vi,vh,vs,rfl,h1,h2,h3⟩:=h
 have H2:Hid (IsD w vi (ya9 m.i)):=h1.isD
 have H3:Hid (IsD w vh (hsD m.h)):=h2.isDh
 have H4:Hid (IsD w vs (evsD m.e)):=h3.isD
 clear h1 h2 h3
 obtain⟨W0,hW0⟩:∃W0,w.alloc (.cells #[.int .i64 m.n,.int .i64 m.s,vi,vh,vs,.int .i64 m.z] 26)=W0:=⟨_,rfl⟩
 have HB0:Hid (Below w.heap.size w W0):=by rw [←hW0];exact(Below.refl _ w).alloc (Nat.le_refl _) _
 have HP0:Hid (Bk W0 w.heap.size 26 #[.int .i64 m.n,.int .i64 m.s,vi,vh,vs,.int .i64 m.z]):=by rw [←hW0];exact Bk.new w _ _
 have HW:Hid (w.alloc (.cells #[.int .i64 m.n,.int .i64 m.s,vi,vh,vs,.int .i64 m.z] 26)=W0):=hW0
 clear hW0
 go_enter Tryz.func38,Tryz.ntmps38
 have p2:=HP0.out.cell (i:=2) rfl
 go_wp2_with fail
 rw [HW.out]
 clear HW
 clear p2
 refine(yg4 _ m.i left _ hl0 hl1 (H2.out.under HB0.out)).mono ?_
 rintro e w1 ⟨⟨r1,rfl,hr⟩,hb⟩
 have HB1:Hid (Below w.heap.size w w1):=HB0.out.trans (hb.mono HB0.out.size)
 have HP1:Hid (Bk w1 w.heap.size 26 #[.int .i64 m.n,.int .i64 m.s,vi,vh,vs,.int .i64 m.z]):=HP0.out.below hb
 clear hb
 rcases hr with rfl|⟨r10,hr⟩
 ·go_wp2
  go_ret
  exact⟨⟨_,rfl,.inl rfl⟩,HB1.out⟩
 have HS1:Hid (r1+(((ya9 m.i).wt:Nat):Int)=left):=hr
 have r11:r1≤1048576:=by omega
 have r12:¬(r1<0):=by omega
 clear hr
 have p3:=HP1.out.cell (i:=3) rfl
 go_wp2_with fail
 clear p3
 refine(sz_hs _ m.h r1 _ r10 r11 (H3.out.under HB1.out)).mono ?_
 rintro e w2 ⟨⟨r2,rfl,hr⟩,hb⟩
 have HB2:Hid (Below w.heap.size w w2):=HB1.out.trans (hb.mono HB1.out.size)
 have HP2:Hid (Bk w2 w.heap.size 26 #[.int .i64 m.n,.int .i64 m.s,vi,vh,vs,.int .i64 m.z]):=HP1.out.below hb
 clear hb
 rcases hr with rfl|⟨r20,hr⟩
 ·go_wp2
  go_ret
  exact⟨⟨_,rfl,.inl rfl⟩,HB2.out⟩
 have HS2:Hid (r2+(((hsD m.h).wt:Nat):Int)=r1):=hr
 have r21:r2≤1048576:=by omega
 have r22:¬(r2<0):=by omega
 clear hr
 have p4:=HP2.out.cell (i:=4) rfl
 go_wp2_with fail
 clear p4
 refine(ykz _ m.e r2 _ r20 r21 (H4.out.under HB2.out)).mono ?_
 rintro e w3 ⟨⟨r3,rfl,hr⟩,hb⟩
 have HB3:Hid (Below w.heap.size w w3):=HB2.out.trans (hb.mono HB2.out.size)
 have HP3:Hid (Bk w3 w.heap.size 26 #[.int .i64 m.n,.int .i64 m.s,vi,vh,vs,.int .i64 m.z]):=HP2.out.below hb
 clear hb
 rcases hr with rfl|⟨r30,hr⟩
 ·go_wp2
  go_ret
  exact⟨⟨_,rfl,.inl rfl⟩,HB3.out⟩
 have HS3:Hid (r3+(((evsD m.e).wt:Nat):Int)=r2):=hr
 have r31:r3≤1048576:=by omega
 have r32:¬(r3<0):=by omega
 clear hr
 go_wp2
 go_ret
 exact⟨⟨_,rfl,.inr ⟨r30,by have h1:=HS1.out;have h2:=HS2.out;have h3:=HS3.out;show r3+(((mdW m):Nat):Int)=left;unfold mdW;omega⟩⟩,HB3.out⟩
theorem ymb (x:Value) (k:Kn) (left:Int) (w:World) (hl0:0≤left) (hl1:left≤1048576) (h:IsKern w x k):
  Calls Tryz.prog 18 #[x,.int .i64 left] w fun e w'=>(∃r,e= .returned (.int .i64 r)∧SzR (k.wd) left r)∧Below w.heap.size w w':=by
 obtain⟨vi,vh,vs,u6,u7,u8,u12,u13,rfl,hm,h6,h7,h8,h12,h13⟩:=h
 have HM:Hid (IsM w (.agg #[.int .i64 k.m.n,.int .i64 k.m.s,vi,vh,vs,.int .i64 k.m.z]) k.m):=hm
 have H6:Hid (IsD w u6 (ya9 k.d)):=h6
 have H7:Hid (IsD w u7 (yai k.p)):=h7
 have H8:Hid (IsD w u8 (yak k.b)):=h8
 have H12:Hid (IsD w u12 (evsD k.s)):=h12
 have H13:Hid (IsD w u13 (emsD k.x)):=h13
 clear hm h6 h7 h8 h12 h13
 obtain⟨W0,hW0⟩:∃W0,w.alloc (.cells #[.int .i64 k.m.n,.int .i64 k.m.s,vi,vh,vs,.int .i64 k.m.z,u6,u7,u8,.int .i64 k.t,.int .i64 k.q,.bool k.f,u12,u13] 50)=W0:=⟨_,rfl⟩
 have HB0:Hid (Below w.heap.size w W0):=by rw [←hW0];exact(Below.refl _ w).alloc (Nat.le_refl _) _
 have HP0:Hid (Bk W0 w.heap.size 50 #[.int .i64 k.m.n,.int .i64 k.m.s,vi,vh,vs,.int .i64 k.m.z,u6,u7,u8,.int .i64 k.t,.int .i64 k.q,.bool k.f,u12,u13]):=by rw [←hW0];exact Bk.new w _ _
 have HW:Hid (w.alloc (.cells #[.int .i64 k.m.n,.int .i64 k.m.s,vi,vh,vs,.int .i64 k.m.z,u6,u7,u8,.int .i64 k.t,.int .i64 k.q,.bool k.f,u12,u13] 50)=W0):=hW0
 clear hW0
 go_enter Tryz.func18,Tryz.ntmps18
 have p0:=HP0.out.cell (i:=0) rfl
 have p1:=HP0.out.cell (i:=1) rfl
 have p2:=HP0.out.cell (i:=2) rfl
 have p3:=HP0.out.cell (i:=3) rfl
 have p4:=HP0.out.cell (i:=4) rfl
 have p5:=HP0.out.cell (i:=5) rfl
 go_wp2_with fail
 rw [HW.out]
 clear HW
 clear p0 p1 p2 p3 p4 p5
 refine(yij _ k.m left _ hl0 hl1 (HM.out.below HB0.out)).mono ?_
 rintro e w1 ⟨⟨r1,rfl,hr⟩,hb⟩
 have HB1:Hid (Below w.heap.size w w1):=HB0.out.trans (hb.mono HB0.out.size)
 have HP1:Hid (Bk w1 w.heap.size 50 #[.int .i64 k.m.n,.int .i64 k.m.s,vi,vh,vs,.int .i64 k.m.z,u6,u7,u8,.int .i64 k.t,.int .i64 k.q,.bool k.f,u12,u13]):=HP0.out.below hb
 clear hb
 rcases hr with rfl|⟨r10,hr⟩
 ·go_wp2
  go_ret
  exact⟨⟨_,rfl,.inl rfl⟩,HB1.out⟩
 have HS1:Hid (r1+((mdW k.m:Nat):Int)=left):=hr
 have r11:r1≤1048576:=by omega
 have r12:¬(r1<0):=by omega
 clear hr
 have p6:=HP1.out.cell (i:=6) rfl
 go_wp2_with fail
 clear p6
 refine(yg4 _ k.d r1 _ r10 r11 (H6.out.under HB1.out)).mono ?_
 rintro e w2 ⟨⟨r2,rfl,hr⟩,hb⟩
 have HB2:Hid (Below w.heap.size w w2):=HB1.out.trans (hb.mono HB1.out.size)
 have HP2:Hid (Bk w2 w.heap.size 50 #[.int .i64 k.m.n,.int .i64 k.m.s,vi,vh,vs,.int .i64 k.m.z,u6,u7,u8,.int .i64 k.t,.int .i64 k.q,.bool k.f,u12,u13]):=HP1.out.below hb
 clear hb
 rcases hr with rfl|⟨r20,hr⟩
 ·go_wp2
  go_ret
  exact⟨⟨_,rfl,.inl rfl⟩,HB2.out⟩
 have HS2:Hid (r2+(((ya9 k.d).wt:Nat):Int)=r1):=hr
 have r21:r2≤1048576:=by omega
 have r22:¬(r2<0):=by omega
 clear hr
 have p7:=HP2.out.cell (i:=7) rfl
 go_wp2_with fail
 clear p7
 refine(sz_parts _ k.p r2 _ r20 r21 (H7.out.under HB2.out)).mono ?_
 rintro e w3 ⟨⟨r3,rfl,hr⟩,hb⟩
 have HB3:Hid (Below w.heap.size w w3):=HB2.out.trans (hb.mono HB2.out.size)
 have HP3:Hid (Bk w3 w.heap.size 50 #[.int .i64 k.m.n,.int .i64 k.m.s,vi,vh,vs,.int .i64 k.m.z,u6,u7,u8,.int .i64 k.t,.int .i64 k.q,.bool k.f,u12,u13]):=HP2.out.below hb
 clear hb
 rcases hr with rfl|⟨r30,hr⟩
 ·go_wp2
  go_ret
  exact⟨⟨_,rfl,.inl rfl⟩,HB3.out⟩
 have HS3:Hid (r3+(((yai k.p).wt:Nat):Int)=r2):=hr
 have r31:r3≤1048576:=by omega
 have r32:¬(r3<0):=by omega
 clear hr
 have p8:=HP3.out.cell (i:=8) rfl
 go_wp2_with fail
 clear p8
 refine(sz_mails _ k.b r3 _ r30 r31 (H8.out.under HB3.out)).mono ?_
 rintro e w4 ⟨⟨r4,rfl,hr⟩,hb⟩
 have HB4:Hid (Below w.heap.size w w4):=HB3.out.trans (hb.mono HB3.out.size)
 have HP4:Hid (Bk w4 w.heap.size 50 #[.int .i64 k.m.n,.int .i64 k.m.s,vi,vh,vs,.int .i64 k.m.z,u6,u7,u8,.int .i64 k.t,.int .i64 k.q,.bool k.f,u12,u13]):=HP3.out.below hb
 clear hb
 rcases hr with rfl|⟨r40,hr⟩
 ·go_wp2
  go_ret
  exact⟨⟨_,rfl,.inl rfl⟩,HB4.out⟩
 have HS4:Hid (r4+(((yak k.b).wt:Nat):Int)=r3):=hr
 have r41:r4≤1048576:=by omega
 have r42:¬(r4<0):=by omega
 clear hr
 have p12:=HP4.out.cell (i:=12) rfl
 go_wp2_with fail
 clear p12
 refine(ykz _ k.s r4 _ r40 r41 (H12.out.under HB4.out)).mono ?_
 rintro e w5 ⟨⟨r5,rfl,hr⟩,hb⟩
 have HB5:Hid (Below w.heap.size w w5):=HB4.out.trans (hb.mono HB4.out.size)
 have HP5:Hid (Bk w5 w.heap.size 50 #[.int .i64 k.m.n,.int .i64 k.m.s,vi,vh,vs,.int .i64 k.m.z,u6,u7,u8,.int .i64 k.t,.int .i64 k.q,.bool k.f,u12,u13]):=HP4.out.below hb
 clear hb
 rcases hr with rfl|⟨r50,hr⟩
 ·go_wp2
  go_ret
  exact⟨⟨_,rfl,.inl rfl⟩,HB5.out⟩
 have HS5:Hid (r5+(((evsD k.s).wt:Nat):Int)=r4):=hr
 have r51:r5≤1048576:=by omega
 have r52:¬(r5<0):=by omega
 clear hr
 have p13:=HP5.out.cell (i:=13) rfl
 go_wp2_with fail
 clear p13
 refine(sz_ems _ k.x r5 _ r50 r51 (H13.out.under HB5.out)).mono ?_
 rintro e w6 ⟨⟨r6,rfl,hr⟩,hb⟩
 have HB6:Hid (Below w.heap.size w w6):=HB5.out.trans (hb.mono HB5.out.size)
 have HP6:Hid (Bk w6 w.heap.size 50 #[.int .i64 k.m.n,.int .i64 k.m.s,vi,vh,vs,.int .i64 k.m.z,u6,u7,u8,.int .i64 k.t,.int .i64 k.q,.bool k.f,u12,u13]):=HP5.out.below hb
 clear hb
 rcases hr with rfl|⟨r60,hr⟩
 ·go_wp2
  go_ret
  exact⟨⟨_,rfl,.inl rfl⟩,HB6.out⟩
 have HS6:Hid (r6+(((emsD k.x).wt:Nat):Int)=r5):=hr
 have r61:r6≤1048576:=by omega
 have r62:¬(r6<0):=by omega
 clear hr
 go_wp2
 go_ret
 exact⟨⟨_,rfl,.inr ⟨r60,by have h1:=HS1.out;have h2:=HS2.out;have h3:=HS3.out;have h4:=HS4.out;have h5:=HS5.out;have h6:=HS6.out;show r6+(((k.wd):Nat):Int)=left;unfold mdW at h1;unfold Kn.wd;omega⟩⟩,HB6.out⟩
theorem sz_knsR (x:Value) (l:List Kn) (left:Int) (w:World) (h0:0≤left) (h1:left≤1048576) (h:IsKs w x l):
  Calls Tryz.prog 39 #[x,.int .i64 left] w fun e w'=>(∃r,e= .returned (.int .i64 r)∧SzR (knsD l).wt left r)∧Below w.heap.size w w':=by
 obtain⟨a,cap,rfl,hn1,hn,h⟩:=h
 have hn2:l.length≤9223372036854775807:=by unfold maxLen at hn;omega
 clear hn1 hn
 by_cases hp:left-(l.length:Int)<0
 ·go_enter Tryz.func39,Tryz.ntmps39
  go_wp2
  go_ret
  exact⟨⟨_,rfl,.inl rfl⟩,Below.refl _ _⟩
 ·have HLF:Hid (0≤left-(l.length:Int)):=(by omega:0≤left-(l.length:Int))
  go_enter Tryz.func39,Tryz.ntmps39
  go_wp2
  go_loopw [5,1] (fun i z wr=>∃k:Nat,k≤l.length∧i= .int .i64 k∧Below w.heap.size w wr∧ ∃lf:Int,z= .int .i64 lf∧0≤lf∧lf+(l.length:Int)+(sumL (fun i=>(knAt l i).wd) k:Int)=left) (fun i _ _=>l.length-(intOf i).toNat)
  case atStart=>exact⟨0,Nat.zero_le _,rfl,Below.refl _ _,left-(l.length:Int),rfl,HLF.out,by simp [sumL]⟩
  case round=>
   obtain⟨k,hk,rfl,hB,lf2,rfl,hz0,hz1⟩:=hrel
   have HZ:Hid (lf2+(l.length:Int)+(sumL (fun i=>(knAt l i).wd) k:Int)=left):=hz1
   have HB:Hid (Below w.heap.size w wr):=hB
   have hz2:lf2≤1048576:=by omega
   clear hz1
   by_cases hlt:k<l.length
   ·obtain⟨b,off,rfl,hb,hc⟩:=h.resolve_left (by omega)
    obtain⟨vi,vh,vs,u6,u7,u8,u12,u13,⟨f0,f1,f2,f3,f4,f5,f6,f7,f8,f9,f10,f11,f12,f13⟩,hD⟩:=(hc k hlt).under hb hB
    have HD:Hid (IsKern wr (.agg #[.int .i64 (knAt l k).m.n,.int .i64 (knAt l k).m.s,vi,vh,vs,.int .i64 (knAt l k).m.z,u6,u7,u8,.int .i64 (knAt l k).t,.int .i64 (knAt l k).q,.bool (knAt l k).f,u12,u13]) (knAt l k)):=hD
    clear h hc hB hD
    go_wp2_with fail
    clear f0 f1 f2 f3 f4 f5 f6 f7 f8 f9 f10 f11 f12 f13
    refine(ymb _ (knAt l k) _ _ hz0 hz2 HD.out).mono ?_
    rintro e w2 ⟨⟨r,rfl,hr⟩,hb2⟩
    have HB2:Hid (Below w.heap.size w w2):=HB.out.trans (hb2.mono HB.out.size)
    clear hb2
    rcases hr with rfl|⟨r0,hr⟩
    ·go_wp2
     go_ret
     exact⟨⟨_,rfl,.inl rfl⟩,HB2.out⟩
    ·have HR:Hid (r+((knAt l k).wd:Int)=lf2):=hr
     have r2:¬(r<0):=by omega
     clear hr
     go_wp2
     go_roundw
     case rel=>exact⟨k+1,by omega,by go_num,HB2.out,r,rfl,r0,by have:=HR.out;have:=HZ.out;simp only [sumL];omega⟩
     case measure=>simp [intOf];omega
   ·clear h hB
    go_wp2
    go_ret
    obtain rfl:k=l.length:=by omega
    exact⟨⟨_,rfl,.inr ⟨hz0,by rw [ygf];have:=HZ.out;omega⟩⟩,HB.out⟩
theorem ynz (x:Value) (v:Wd) (left:Int) (w:World) (hl0:0≤left) (hl1:left≤1048576) (h:IsW w x v):
  Calls Tryz.prog 9 #[x,.int .i64 left] w fun e w'=>(∃r,e= .returned (.int .i64 r)∧SzR (wdW v) left r)∧Below w.heap.size w w':=by
 obtain⟨vi,vh,vs,uk,uc,rfl,hm,hk,hc⟩:=h
 have HM:Hid (IsM w (.agg #[.int .i64 v.m.n,.int .i64 v.m.s,vi,vh,vs,.int .i64 v.m.z]) v.m):=hm
 have HK:Hid (IsKs w uk v.k):=hk
 have HC:Hid (IsD w uc (yad v.c)):=hc
 clear hm hk hc
 obtain⟨W0,hW0⟩:∃W0,w.alloc (.cells #[.int .i64 v.m.n,.int .i64 v.m.s,vi,vh,vs,.int .i64 v.m.z,uk,uc] 30)=W0:=⟨_,rfl⟩
 have HB0:Hid (Below w.heap.size w W0):=by rw [←hW0];exact(Below.refl _ w).alloc (Nat.le_refl _) _
 have HP0:Hid (Bk W0 w.heap.size 30 #[.int .i64 v.m.n,.int .i64 v.m.s,vi,vh,vs,.int .i64 v.m.z,uk,uc]):=by rw [←hW0];exact Bk.new w _ _
 have HW:Hid (w.alloc (.cells #[.int .i64 v.m.n,.int .i64 v.m.s,vi,vh,vs,.int .i64 v.m.z,uk,uc] 30)=W0):=hW0
 clear hW0
 go_enter Tryz.func9,Tryz.ntmps9
 have p0:=HP0.out.cell (i:=0) rfl
 have p1:=HP0.out.cell (i:=1) rfl
 have p2:=HP0.out.cell (i:=2) rfl
 have p3:=HP0.out.cell (i:=3) rfl
 have p4:=HP0.out.cell (i:=4) rfl
 have p5:=HP0.out.cell (i:=5) rfl
 go_wp2_with fail
 rw [HW.out]
 clear HW
 clear p0 p1 p2 p3 p4 p5
 refine(yij _ v.m left _ hl0 hl1 (HM.out.below HB0.out)).mono ?_
 rintro e w1 ⟨⟨r1,rfl,hr⟩,hb⟩
 have HB1:Hid (Below w.heap.size w w1):=HB0.out.trans (hb.mono HB0.out.size)
 have HP1:Hid (Bk w1 w.heap.size 30 #[.int .i64 v.m.n,.int .i64 v.m.s,vi,vh,vs,.int .i64 v.m.z,uk,uc]):=HP0.out.below hb
 clear hb
 rcases hr with rfl|⟨r10,hr⟩
 ·go_wp2
  go_ret
  exact⟨⟨_,rfl,.inl rfl⟩,HB1.out⟩
 have HS1:Hid (r1+((mdW v.m:Nat):Int)=left):=hr
 have r11:r1≤1048576:=by omega
 have r12:¬(r1<0):=by omega
 clear hr
 have p6:=HP1.out.cell (i:=6) rfl
 go_wp2_with fail
 clear p6
 refine(sz_knsR _ v.k r1 _ r10 r11 (HK.out.under HB1.out)).mono ?_
 rintro e w2 ⟨⟨r2,rfl,hr⟩,hb⟩
 have HB2:Hid (Below w.heap.size w w2):=HB1.out.trans (hb.mono HB1.out.size)
 have HP2:Hid (Bk w2 w.heap.size 30 #[.int .i64 v.m.n,.int .i64 v.m.s,vi,vh,vs,.int .i64 v.m.z,uk,uc]):=HP1.out.below hb
 clear hb
 rcases hr with rfl|⟨r20,hr⟩
 ·go_wp2
  go_ret
  exact⟨⟨_,rfl,.inl rfl⟩,HB2.out⟩
 have HS2:Hid (r2+(((knsD v.k).wt:Nat):Int)=r1):=hr
 have r21:r2≤1048576:=by omega
 have r22:¬(r2<0):=by omega
 clear hr
 have p7:=HP2.out.cell (i:=7) rfl
 go_wp2_with fail
 clear p7
 refine(sz_vecs _ v.c r2 _ r20 r21 (HC.out.under HB2.out)).mono ?_
 rintro e w3 ⟨⟨r3,rfl,hr⟩,hb⟩
 have HB3:Hid (Below w.heap.size w w3):=HB2.out.trans (hb.mono HB2.out.size)
 have HP3:Hid (Bk w3 w.heap.size 30 #[.int .i64 v.m.n,.int .i64 v.m.s,vi,vh,vs,.int .i64 v.m.z,uk,uc]):=HP2.out.below hb
 clear hb
 rcases hr with rfl|⟨r30,hr⟩
 ·go_wp2
  go_ret
  exact⟨⟨_,rfl,.inl rfl⟩,HB3.out⟩
 have HS3:Hid (r3+(((yad v.c).wt:Nat):Int)=r2):=hr
 have r31:r3≤1048576:=by omega
 have r32:¬(r3<0):=by omega
 clear hr
 go_wp2
 go_ret
 exact⟨⟨_,rfl,.inr ⟨r30,by have h1:=HS1.out;have h2:=HS2.out;have h3:=HS3.out;show r3+(((wdW v):Nat):Int)=left;unfold mdW at h1;unfold wdW mdW;omega⟩⟩,HB3.out⟩
theorem yht {m:Md} (h:mdW m≤1048576):SmallM m:=by
 unfold mdW at h
 rw [yah,yld,yan]at h
 have hw:∀i,(opsD (hAt m.h i)).wt=(hAt m.h i).length:=fun i=>yop _
 refine⟨by omega,by omega,fun i=> ?_,?_,by omega⟩
 ·by_cases hi:i<m.h.length
  ·have:=yd8 (fun i=>(opsD (hAt m.h i)).wt) hi
   have:=hw i
   omega
  ·rw [ypg (by omega)];simp
 ·have e:sumL (fun i=>(opsD (hAt m.h i)).wt) m.h.length=sumL (lens m.h) m.h.length:=by
   congr 1
   funext i
   exact hw i
  omega
theorem yhg {v:Wd} (h:wdW v≤1048576):ybq v∧TinyW v:=by
 unfold wdW at h
 have hk:=ygf v.k
 refine⟨⟨yht (by omega),⟨by omega,fun i hi=> ?_⟩,by omega⟩,⟨yht (by omega),by omega,by omega⟩⟩
 have h1:=yd8 (fun i=>(knAt v.k i).wd) hi
 have h2:(knAt v.k i).wd≤1048576:=by have:(fun i=>(knAt v.k i).wd) i=(knAt v.k i).wd:=rfl;omega
 unfold Kn.wd at h2
 refine⟨yht (by unfold mdW;omega),?_⟩
 unfold Kn.wt
 omega
set_option maxHeartbeats 8000000 in
theorem eq_parts (x y:Value) (l:List Pa) (w:World) (hl:(yai l).wt≤1048576) (hx:IsD w x (yai l)) (hy:IsD w y (yai l)):
  Calls Tryz.prog 66 #[x,y] w fun e w'=>e= .returned (.bool true)∧Below w.heap.size w w':=by
 obtain⟨a,cap,rfl,h1,h2,h⟩:=IsD.parts (c:=7) (n:=l.length) hx
 obtain⟨a',cap',rfl,h1',h2',h'⟩:=IsD.parts (c:=7) (n:=l.length) hy
 have HS:Hid ((yai l).wt≤1048576):=hl
 have hl2:l.length≤1048576:=by rw [yck]at hl;omega
 clear h1 h2 h1' h2' hx hy hl
 go_enter Tryz.func66,Tryz.ntmps66
 go_wp2
 go_loopw [5] (fun i wr=>∃k:Nat,k≤l.length∧i= .int .i64 k∧Below w.heap.size w wr) (fun i _=>l.length-(intOf i).toNat)
 case atStart=>exact⟨0,Nat.zero_le _,rfl,Below.refl _ _⟩
 case round=>
  obtain⟨k,hk,rfl,hB⟩:=hrel
  have HB:Hid (Below w.heap.size w wr):=hB
  by_cases hlt:k<l.length
  ·obtain⟨b,off,rfl,hb,hc⟩:=h.resolve_left (by omega)
   obtain⟨b',off',rfl,hb',hc'⟩:=h'.resolve_left (by omega)
   obtain⟨u1,u4,u5,u6,f0,f1,f2,f3,f4,f5,f6,d1,d4,d5,d6⟩:=ydp (fun j hj=>by
    obtain⟨u,hu,hd⟩:=hc j hj
    exact⟨u,(hB.cell (p:=⟨b,off+j,none⟩) hb).trans hu,hd.under hB⟩) hlt
   obtain⟨v1,v4,v5,v6,e0,e1,e2,e3,e4,e5,e6,g1,g4,g5,g6⟩:=ydp (fun j hj=>by
    obtain⟨u,hu,hd⟩:=hc' j hj
    exact⟨u,(hB.cell (p:=⟨b',off'+j,none⟩) hb').trans hu,hd.under hB⟩) hlt
   have HD:Hid (IsPart wr.drew (.agg #[.int .i64 (paAt l k).n,u1,.int .i64 (paAt l k).st.q,.int .i64 (paAt l k).st.d,u4,u5,u6]) (paAt l k)):=IsPart.under (w:=wr) ⟨u1,u4,u5,u6,rfl,d1,d4,d5,d6⟩ (Below.refl _ wr).drew
   have HG:Hid (IsPart wr.drew (.agg #[.int .i64 (paAt l k).n,v1,.int .i64 (paAt l k).st.q,.int .i64 (paAt l k).st.d,v4,v5,v6]) (paAt l k)):=IsPart.under (w:=wr) ⟨v1,v4,v5,v6,rfl,g1,g4,g5,g6⟩ (Below.refl _ wr).drew
   have HW:Hid ((paAt l k).wt≤1048576):=Nat.le_trans (Pa.wt_le hlt) HS.out
   have hbr:b<wr.heap.size:=Nat.lt_of_lt_of_le hb hB.size
   have hbr':b'<wr.heap.size:=Nat.lt_of_lt_of_le hb' hB.size
   clear hB hc hc' h h' d1 d4 d5 d6 g1 g4 g5 g6
   go_wp2_with fail
   go_region_held3 (fun W=>W.cell? ⟨b,off+k*7,none⟩=some (.int .i64 (paAt l k).n)∧W.cell? ⟨b,off+k*7+1,none⟩=some (u1)∧W.cell? ⟨b,off+k*7+2,none⟩=some (.int .i64 (paAt l k).st.q)∧W.cell? ⟨b,off+k*7+3,none⟩=some (.int .i64 (paAt l k).st.d)∧W.cell? ⟨b,off+k*7+4,none⟩=some (u4)∧W.cell? ⟨b,off+k*7+5,none⟩=some (u5)∧W.cell? ⟨b,off+k*7+6,none⟩=some (u6)∧W.cell? ⟨b',off'+k*7,none⟩=some (.int .i64 (paAt l k).n)∧W.cell? ⟨b',off'+k*7+1,none⟩=some (v1)∧W.cell? ⟨b',off'+k*7+2,none⟩=some (.int .i64 (paAt l k).st.q)∧W.cell? ⟨b',off'+k*7+3,none⟩=some (.int .i64 (paAt l k).st.d)∧W.cell? ⟨b',off'+k*7+4,none⟩=some (v4)∧W.cell? ⟨b',off'+k*7+5,none⟩=some (v5)∧W.cell? ⟨b',off'+k*7+6,none⟩=some (v6)) ((repeat' apply And.intro)<;>first|(go_keep;done)|(rw [hcA _ _ (by first|omega|(simp;omega)|simp [*])];simp [*];done))
    (first|(go_at_call 124;refine(ykf _ _ (paAt l k) _ HW.out HD.out HG.out).mono ?_;rintro e w2 ⟨rfl,hb2⟩;obtain⟨hcA,hfA⟩:=yf2 hb2))
   clear hcA hfA
   go_wp2
   go_roundw
   case rel=>exact⟨k+1,by omega,by go_num,HB.out.drew.trans (hb2.mono (by have:=HB.out.size;simpa using this))⟩
   case measure=>simp [intOf];omega
  ·clear hB h h'
   go_wp2
   go_ret
   exact⟨rfl,HB.out⟩
set_option maxRecDepth 100000 in
set_option maxHeartbeats 4000000 in
theorem yi2 (x y:Value) (k:Kn) (w:World) (hs:ybb k) (hx:IsKern w x k) (hy:IsKern w y k):
  Calls Tryz.prog 22 #[x,y] w fun e w'=>e= .returned (.bool true)∧Below w.heap.size w w':=by
 obtain⟨vi,vh,vs,u6,u7,u8,u12,u13,rfl,hm,h6,h7,h8,h12,h13⟩:=hx
 obtain⟨xvi,xvh,xvs,v6,v7,v8,v12,v13,rfl,jm,j6,j7,j8,j12,j13⟩:=hy
 have HS:Hid (ybb k):=hs
 have HM:Hid (IsM w (.agg #[.int .i64 k.m.n,.int .i64 k.m.s,vi,vh,vs,.int .i64 k.m.z]) k.m∧IsM w (.agg #[.int .i64 k.m.n,.int .i64 k.m.s,xvi,xvh,xvs,.int .i64 k.m.z]) k.m):=⟨hm,jm⟩
 have H6:Hid (IsD w u6 (ya9 k.d)∧IsD w v6 (ya9 k.d)):=⟨h6,j6⟩
 have H7:Hid (IsD w u7 (yai k.p)∧IsD w v7 (yai k.p)):=⟨h7,j7⟩
 have H8:Hid (IsD w u8 (yak k.b)∧IsD w v8 (yak k.b)):=⟨h8,j8⟩
 have H12:Hid (IsD w u12 (evsD k.s)∧IsD w v12 (evsD k.s)):=⟨h12,j12⟩
 have H13:Hid (IsD w u13 (emsD k.x)∧IsD w v13 (emsD k.x)):=⟨h13,j13⟩
 clear hs hm jm h6 j6 h7 j7 h8 j8 h12 j12 h13 j13
 obtain⟨W0,hW0⟩:∃W0,(w.alloc (.cells #[.int .i64 k.m.n,.int .i64 k.m.s,vi,vh,vs,.int .i64 k.m.z,u6,u7,u8,.int .i64 k.t,.int .i64 k.q,.bool k.f,u12,u13] 57)).alloc (.cells #[.int .i64 k.m.n,.int .i64 k.m.s,xvi,xvh,xvs,.int .i64 k.m.z,v6,v7,v8,.int .i64 k.t,.int .i64 k.q,.bool k.f,v12,v13] 57)=W0:=⟨_,rfl⟩
 have HB0:Hid (Below w.heap.size w W0):=by rw [←hW0];exact((Below.refl _ w).alloc (Nat.le_refl _) _).alloc (by simp) _
 have HP0:Hid (Bk W0 w.heap.size 57 #[.int .i64 k.m.n,.int .i64 k.m.s,vi,vh,vs,.int .i64 k.m.z,u6,u7,u8,.int .i64 k.t,.int .i64 k.q,.bool k.f,u12,u13]):=by rw [←hW0];exact(Bk.new w _ _).alloc _
 have HQ0:Hid (Bk W0 (w.heap.size+1) 57 #[.int .i64 k.m.n,.int .i64 k.m.s,xvi,xvh,xvs,.int .i64 k.m.z,v6,v7,v8,.int .i64 k.t,.int .i64 k.q,.bool k.f,v12,v13]):=by rw [←hW0];exact Bk.newAt (by simp) _ _
 have HW:Hid ((w.alloc (.cells #[.int .i64 k.m.n,.int .i64 k.m.s,vi,vh,vs,.int .i64 k.m.z,u6,u7,u8,.int .i64 k.t,.int .i64 k.q,.bool k.f,u12,u13] 57)).alloc (.cells #[.int .i64 k.m.n,.int .i64 k.m.s,xvi,xvh,xvs,.int .i64 k.m.z,v6,v7,v8,.int .i64 k.t,.int .i64 k.q,.bool k.f,v12,v13] 57)=W0):=hW0
 clear hW0
 go_enter Tryz.func22,Tryz.ntmps22
 have p0:=HP0.out.cell (i:=0) rfl
 have q0:=HQ0.out.cell (i:=0) rfl
 have p1:=HP0.out.cell (i:=1) rfl
 have q1:=HQ0.out.cell (i:=1) rfl
 have p2:=HP0.out.cell (i:=2) rfl
 have q2:=HQ0.out.cell (i:=2) rfl
 have p3:=HP0.out.cell (i:=3) rfl
 have q3:=HQ0.out.cell (i:=3) rfl
 have p4:=HP0.out.cell (i:=4) rfl
 have q4:=HQ0.out.cell (i:=4) rfl
 have p5:=HP0.out.cell (i:=5) rfl
 have q5:=HQ0.out.cell (i:=5) rfl
 go_wp2_with fail
 rw [HW.out]
 clear HW
 clear p0 q0 p1 q1 p2 q2 p3 q3 p4 q4 p5 q5
 refine(yfk _ _ k.m _ HS.out.1 (HM.out.1.below HB0.out) (HM.out.2.below HB0.out)).mono ?_
 rintro e w1 ⟨rfl,hb⟩
 have HB1:Hid (Below w.heap.size w w1):=HB0.out.trans (hb.mono HB0.out.size)
 have HP1:Hid (Bk w1 w.heap.size 57 #[.int .i64 k.m.n,.int .i64 k.m.s,vi,vh,vs,.int .i64 k.m.z,u6,u7,u8,.int .i64 k.t,.int .i64 k.q,.bool k.f,u12,u13]):=HP0.out.below hb
 have HQ1:Hid (Bk w1 (w.heap.size+1) 57 #[.int .i64 k.m.n,.int .i64 k.m.s,xvi,xvh,xvs,.int .i64 k.m.z,v6,v7,v8,.int .i64 k.t,.int .i64 k.q,.bool k.f,v12,v13]):=HQ0.out.below hb
 clear hb
 have p6:=HP1.out.cell (i:=6) rfl
 have q6:=HQ1.out.cell (i:=6) rfl
 go_wp2_with fail
 clear p6 q6
 refine(ykd _ _ k.d _ (by have:=HS.out.2;unfold Kn.wt at this;simp only [yah,yan,ybi,ybh]at this;omega) (H6.out.1.under HB1.out) (H6.out.2.under HB1.out)).mono ?_
 rintro e w2 ⟨rfl,hb⟩
 have HB2:Hid (Below w.heap.size w w2):=HB1.out.trans (hb.mono HB1.out.size)
 have HP2:Hid (Bk w2 w.heap.size 57 #[.int .i64 k.m.n,.int .i64 k.m.s,vi,vh,vs,.int .i64 k.m.z,u6,u7,u8,.int .i64 k.t,.int .i64 k.q,.bool k.f,u12,u13]):=HP1.out.below hb
 have HQ2:Hid (Bk w2 (w.heap.size+1) 57 #[.int .i64 k.m.n,.int .i64 k.m.s,xvi,xvh,xvs,.int .i64 k.m.z,v6,v7,v8,.int .i64 k.t,.int .i64 k.q,.bool k.f,v12,v13]):=HQ1.out.below hb
 clear hb
 have p7:=HP2.out.cell (i:=7) rfl
 have q7:=HQ2.out.cell (i:=7) rfl
 go_wp2_with fail
 clear p7 q7
 refine(eq_parts _ _ k.p _ (by have:=HS.out.2;unfold Kn.wt at this;simp only [yah,yan,ybi,ybh]at this;omega) (H7.out.1.under HB2.out) (H7.out.2.under HB2.out)).mono ?_
 rintro e w3 ⟨rfl,hb⟩
 have HB3:Hid (Below w.heap.size w w3):=HB2.out.trans (hb.mono HB2.out.size)
 have HP3:Hid (Bk w3 w.heap.size 57 #[.int .i64 k.m.n,.int .i64 k.m.s,vi,vh,vs,.int .i64 k.m.z,u6,u7,u8,.int .i64 k.t,.int .i64 k.q,.bool k.f,u12,u13]):=HP2.out.below hb
 have HQ3:Hid (Bk w3 (w.heap.size+1) 57 #[.int .i64 k.m.n,.int .i64 k.m.s,xvi,xvh,xvs,.int .i64 k.m.z,v6,v7,v8,.int .i64 k.t,.int .i64 k.q,.bool k.f,v12,v13]):=HQ2.out.below hb
 clear hb
 have p8:=HP3.out.cell (i:=8) rfl
 have q8:=HQ3.out.cell (i:=8) rfl
 go_wp2_with fail
 clear p8 q8
 refine(eq_mails _ _ k.b _ (by have:=HS.out.2;unfold Kn.wt at this;simp only [yah,yan,ybi,ybh]at this;omega) (H8.out.1.under HB3.out) (H8.out.2.under HB3.out)).mono ?_
 rintro e w4 ⟨rfl,hb⟩
 have HB4:Hid (Below w.heap.size w w4):=HB3.out.trans (hb.mono HB3.out.size)
 have HP4:Hid (Bk w4 w.heap.size 57 #[.int .i64 k.m.n,.int .i64 k.m.s,vi,vh,vs,.int .i64 k.m.z,u6,u7,u8,.int .i64 k.t,.int .i64 k.q,.bool k.f,u12,u13]):=HP3.out.below hb
 have HQ4:Hid (Bk w4 (w.heap.size+1) 57 #[.int .i64 k.m.n,.int .i64 k.m.s,xvi,xvh,xvs,.int .i64 k.m.z,v6,v7,v8,.int .i64 k.t,.int .i64 k.q,.bool k.f,v12,v13]):=HQ3.out.below hb
 clear hb
 have p12:=HP4.out.cell (i:=12) rfl
 have q12:=HQ4.out.cell (i:=12) rfl
 have p9:=HP4.out.cell (i:=9) rfl
 have q9:=HQ4.out.cell (i:=9) rfl
 have p10:=HP4.out.cell (i:=10) rfl
 have q10:=HQ4.out.cell (i:=10) rfl
 have p11:=HP4.out.cell (i:=11) rfl
 have q11:=HQ4.out.cell (i:=11) rfl
 have hff:(k.f !=k.f)=false:=by cases k.f<;>rfl
 go_wp2_with fail
 clear p12 q12 p9 q9 p10 q10 p11 q11
 refine(ypl _ _ k.s _ (by have:=HS.out.2;unfold Kn.wt at this;simp only [yah,yan,ybi,ybh]at this;omega) (H12.out.1.under HB4.out) (H12.out.2.under HB4.out)).mono ?_
 rintro e w5 ⟨rfl,hb⟩
 have HB5:Hid (Below w.heap.size w w5):=HB4.out.trans (hb.mono HB4.out.size)
 have HP5:Hid (Bk w5 w.heap.size 57 #[.int .i64 k.m.n,.int .i64 k.m.s,vi,vh,vs,.int .i64 k.m.z,u6,u7,u8,.int .i64 k.t,.int .i64 k.q,.bool k.f,u12,u13]):=HP4.out.below hb
 have HQ5:Hid (Bk w5 (w.heap.size+1) 57 #[.int .i64 k.m.n,.int .i64 k.m.s,xvi,xvh,xvs,.int .i64 k.m.z,v6,v7,v8,.int .i64 k.t,.int .i64 k.q,.bool k.f,v12,v13]):=HQ4.out.below hb
 clear hb
 have p13:=HP5.out.cell (i:=13) rfl
 have q13:=HQ5.out.cell (i:=13) rfl
 go_wp2_with fail
 clear p13 q13
 refine(eq_ems _ _ k.x _ (by have:=HS.out.2;unfold Kn.wt at this;simp only [yah,yan,ybi,ybh]at this;omega) (H13.out.1.under HB5.out) (H13.out.2.under HB5.out)).mono ?_
 rintro e w6 ⟨rfl,hb⟩
 have HB6:Hid (Below w.heap.size w w6):=HB5.out.trans (hb.mono HB5.out.size)
 have HP6:Hid (Bk w6 w.heap.size 57 #[.int .i64 k.m.n,.int .i64 k.m.s,vi,vh,vs,.int .i64 k.m.z,u6,u7,u8,.int .i64 k.t,.int .i64 k.q,.bool k.f,u12,u13]):=HP5.out.below hb
 have HQ6:Hid (Bk w6 (w.heap.size+1) 57 #[.int .i64 k.m.n,.int .i64 k.m.s,xvi,xvh,xvs,.int .i64 k.m.z,v6,v7,v8,.int .i64 k.t,.int .i64 k.q,.bool k.f,v12,v13]):=HQ5.out.below hb
 clear hb
 go_wp2
 go_ret
 exact⟨rfl,HB6.out⟩
end Go.Proofs.YtmobiieoecjmdaaGreat

