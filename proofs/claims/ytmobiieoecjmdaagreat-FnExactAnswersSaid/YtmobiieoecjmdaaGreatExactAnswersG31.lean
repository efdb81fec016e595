/- WNm, WGr, WCt, WIo, VImp, WCv, VWh, PGrow, PPst, PTo, PTr -/
import Derived.Test.YtmobiieoecjmdaaGreatExactAnswersG30
import Derived.Laws.Slices
namespace Go.Proofs.YtmobiieoecjmdaaGreat
set_option maxHeartbeats 16000000
set_option maxRecDepth 100000
open Go.RowKit
theorem ykq (l r:List Int):ybz [intAt l 0,intAt l 1,intAt l 2,intAt l 3] [intAt r 0,intAt r 1,intAt r 2,intAt r 3]=ybz l r:=rfl
theorem yu7 (a0 a1 a2 a3 b0 b1 b2 b3:Int) (c:Bool) (hc:ybz [a0,a1,a2,a3] [b0,b1,b2,b3]=c) (w:World):
  Calls Tryz.prog 140 #[vec a0 a1 a2 a3,vec b0 b1 b2 b3] w fun e w'=>e= .returned (.bool c)∧Below w.heap.size w w':=hc▸yn2 a0 a1 a2 a3 b0 b1 b2 b3 w
def idxV (d:List Int) (l:List (List Int)) (n:Nat) (r:Ending):Prop:=(∃i:Nat,r= .returned (.int .i64 (i:Int))∧i<n∧ybz d (vAt l i)=true)∨(r= .returned (.int .i64 (-1))∧ ∀i,i<n→ybz d (vAt l i)=false)
theorem VcAt.four {w:World} {b off:Nat} {l:List (List Int)} (h:VcAt w b off l) {i:Nat} (hi:i<l.length):w.cell? ⟨b,off+i*4,none⟩=some (i64 (intAt (vAt l i) 0))∧w.cell? ⟨b,off+i*4+1,none⟩=some (i64 (intAt (vAt l i) 1))∧w.cell? ⟨b,off+i*4+2,none⟩=some (i64 (intAt (vAt l i) 2))∧w.cell? ⟨b,off+i*4+3,none⟩=some (i64 (intAt (vAt l i) 3)):=
 ⟨h.2 i 0 hi (by omega),h.2 i 1 hi (by omega),h.2 i 2 hi (by omega),h.2 i 3 hi (by omega)⟩
theorem idxV_any (b off cap n:Nat) (l:List (List Int)) (d0 d1 d2 d3:Int) (w:World) (hn:n≤l.length) (hl:l.length≤1048576) (h:VcAt w b off l):
  Calls Tryz.prog 180 #[.slice (some ⟨b,off,none⟩) n cap,.func (.func 140) #[vec d0 d1 d2 d3] #[]] w fun r w'=>idxV [d0,d1,d2,d3] l n r∧Below w.heap.size w w':=by
 have HV:Hid (VcAt w b off l):=h
 clear h
 go_enter Tryz.func180,Tryz.ntmps180
 go_wp2
 go_loopw [8] (fun i wr=>Hid (Below w.heap.size w wr)∧ ∃j:Nat,j≤n∧i= .int .i64 j∧Hid (∀i,i<j→ybz [d0,d1,d2,d3] (vAt l i)=false)) (fun i _=>n-(intOf i).toNat)
 case atStart=>exact⟨Below.refl _ _,0,Nat.zero_le _,rfl,fun j hj=>by omega⟩
 case round=>
  obtain⟨HB,j,hj,rfl,HA⟩:=hrel
  have hsz:w.heap.size≤wr.heap.size:=HB.out.size
  by_cases hlt:j<n
  ·have hd:decide ((j:Int)<(n:Int))=true:=by simpa using hlt
   obtain⟨f0,f1,f2,f3⟩:=(HV.out.below HB.out).four (show j<l.length by omega)
   cases hz:ybz [d0,d1,d2,d3] (vAt l j)
   ·have HZ:Hid (ybz [d0,d1,d2,d3] (vAt l j)=false):=hz
    clear hz
    go_wp2_with (go_at_call 140;refine(yu7 _ _ _ _ _ _ _ _ false ((ykq [d0,d1,d2,d3] (vAt l j)).trans HZ.out) _).mono ?_;rintro r w2 ⟨rfl,hb2⟩)
    go_roundw
    case rel=>exact⟨HB.out.trans (hb2.mono hsz),j+1,by omega,by go_num,fun i hi=>by
     by_cases e:i=j
     ·subst e;exact HZ.out
     ·exact HA.out i (by omega)⟩
    case measure=>simp [intOf];omega
   ·have HZ:Hid (ybz [d0,d1,d2,d3] (vAt l j)=true):=hz
    clear hz
    go_wp2_with (go_at_call 140;refine(yu7 _ _ _ _ _ _ _ _ true ((ykq [d0,d1,d2,d3] (vAt l j)).trans HZ.out) _).mono ?_;rintro r w2 ⟨rfl,hb2⟩)
    go_ret
    exact⟨.inl ⟨j,rfl,hlt,HZ.out⟩,HB.out.trans (hb2.mono hsz)⟩
  ·obtain rfl:n=j:=by omega
   go_wp2
   go_ret
   exact⟨.inr ⟨rfl,HA.out⟩,HB.out⟩
def anyM (d:List Int) (l:List (List Int)) (n:Nat):Bool:= !(allB n fun i=> !ybz d (vAt l i))
theorem anyM_no {d:List Int} {l:List (List Int)} {n:Nat}:anyM d l n=false↔ ∀i,i<n→ybz d (vAt l i)=false:=by
 unfold anyM
 simp only [Bool.not_eq_false',allB_iff,Bool.not_eq_true']
theorem anyM_yes {d:List Int} {l:List (List Int)} {n i:Nat} (hi:i<n) (h:ybz d (vAt l i)=true):anyM d l n=true:=by
 cases hh:anyM d l n
 ·have:=anyM_no.1 hh i hi
  rw [h]at this
  cases this
 ·rfl
theorem yq1 (b off cap n:Nat) (l:List (List Int)) (d0 d1 d2 d3:Int) (c:Bool) (hc:anyM [d0,d1,d2,d3] l n=c) (w:World) (hn:n≤l.length) (hl:l.length≤1048576) (h:VcAt w b off l):
  Calls Tryz.prog 139 #[.slice (some ⟨b,off,none⟩) n cap,.func (.func 140) #[vec d0 d1 d2 d3] #[]] w fun r w'=>r= .returned (.bool c)∧Below w.heap.size w w':=by
 have HV:Hid (VcAt w b off l):=h
 have HC:Hid (anyM [d0,d1,d2,d3] l n=c):=hc
 clear h hc
 go_enter Tryz.func139,Tryz.ntmps139
 go_wp2_with fail
 refine(idxV_any b off cap n l d0 d1 d2 d3 w hn hl HV.out).mono ?_
 rintro r w1 ⟨hR,hb1⟩
 have HB1:Hid (Below w.heap.size w w1):=hb1
 clear hb1
 rcases hR with ⟨i,rfl,hi,hg⟩|⟨rfl,hno⟩
 ·have HY:Hid (anyM [d0,d1,d2,d3] l n=true):=anyM_yes hi hg
  have hi0:(0:Int)≤(i:Int):=by omega
  clear hi hg
  go_wp2
  go_ret
  exact⟨ya0 (HY.out.symm.trans HC.out),HB1.out⟩
 ·have HN:Hid (anyM [d0,d1,d2,d3] l n=false):=anyM_no.2 hno
  clear hno
  go_wp2
  go_ret
  exact⟨ya0 (HN.out.symm.trans HC.out),HB1.out⟩
theorem run_cutV (a:Option Addr) (n cap k:Nat) (hk:k≤cap) (w:World):(Instr.sliceAt 131 (.slice a n cap) none (some (.int .i64 (k:Int))) none).run Tryz.prog w= .ok (.slice a k cap) w:=by
 obtain⟨i0,hi,hz0,hz1,hz2⟩:=info_parts ypx
 have hu:Tryz.prog.underlying 131=some (.slice (Tryz.prog.elem 131)):=by kernel_rfl
 have he:Tryz.prog.elem 131=137:=by kernel_rfl
 rw [run_sliceAt_slice (h:=hu),run_slice_h (ht:=hu) (h0:=by omega) (h2:=by omega),he]
 have e1:a.map (fun x=>x.add 0)=a:=by
  cases a with
  |none=>rfl
  |some x=>simp [Addr.add]
 simp [sizeOf,typeInfo,hi,hz1,sliced,e1]
theorem none_any (x:Value) (l:List (List Int)) (w:World) (hl:l.length≤1048576) (h:(x= .slice none 0 0∧l= [])∨ ∃g cap,x= .slice (some ⟨g,0,none⟩) l.length cap∧l.length≤cap∧cap≤maxLen∧VcAt w g 0 l):
  Calls Tryz.prog 92 #[x] w fun e w'=>e= .returned (.bool (noMB l))∧Below w.heap.size w w':=by
 obtain⟨a,cap,rfl,hlc,hcm,HV0⟩:∃a cap,x= .slice a l.length cap∧l.length≤cap∧cap≤maxLen∧(l= []∨ ∃g,a=some ⟨g,0,none⟩∧VcAt w g 0 l):=by
  rcases h with ⟨rfl,rfl⟩|⟨g,cap,rfl,h1,h2,h3⟩
  ·exact⟨none,0,rfl,Nat.le_refl _,by unfold maxLen;omega,.inl rfl⟩
  ·exact⟨_,cap,rfl,h1,h2,.inr ⟨g,rfl,h3⟩⟩
 have HV:Hid (l= []∨ ∃g,a=some ⟨g,0,none⟩∧VcAt w g 0 l):=HV0
 clear h HV0
 go_enter Tryz.func92,Tryz.ntmps92
 go_wp2
 go_loopw [7] (fun i wr=>Hid (Below w.heap.size w wr)∧ ∃j:Nat,j≤l.length∧i= .int .i64 j∧Hid (∀i,i<j→ ∀q,q<i→ybz (vAt l i) (vAt l q)=false)) (fun i _=>l.length-(intOf i).toNat)
 case atStart=>exact⟨Below.refl _ _,0,Nat.zero_le _,rfl,fun j hj=>by omega⟩
 case round=>
  obtain⟨HB,j,hj,rfl,HA⟩:=hrel
  have hsz:w.heap.size≤wr.heap.size:=HB.out.size
  by_cases hlt:j<l.length
  case pos=>
   have hd:decide ((j:Int)<(l.length:Int))=true:=by simpa using hlt
   obtain⟨g,rfl,hva⟩:=HV.out.resolve_left (fun e=>by rw [e]at hlt;simp at hlt)
   obtain⟨f0,f1,f2,f3⟩:=(hva.below HB.out).four hlt
   rw [Nat.zero_add]at f0 f1 f2 f3
   obtain⟨x0,hx0⟩:∃z,intAt (vAt l j) 0=z:=⟨_,rfl⟩
   obtain⟨x1,hx1⟩:∃z,intAt (vAt l j) 1=z:=⟨_,rfl⟩
   obtain⟨x2,hx2⟩:∃z,intAt (vAt l j) 2=z:=⟨_,rfl⟩
   obtain⟨x3,hx3⟩:∃z,intAt (vAt l j) 3=z:=⟨_,rfl⟩
   have HX:Hid (∀r,ybz [x0,x1,x2,x3] r=ybz (vAt l j) r):=fun r=>by
    rw [←hx0,←hx1,←hx2,←hx3]
    rfl
   rw [hx0]at f0
   rw [hx1]at f1
   rw [hx2]at f2
   rw [hx3]at f3
   clear hx0 hx1 hx2 hx3
   obtain⟨V1,hV1⟩:∃V1,wr.alloc (yam x0 x1 x2 x3)=V1:=⟨_,rfl⟩
   have hbV:=beA hV1
   have HBV:Hid (Below wr.heap.size wr V1):=hbV
   have HK1:=hdq (bkA hV1)
   have HVV:Hid (VcAt V1 g 0 l):=(hva.below HB.out).below hbV
   clear hbV hva
   go_upto_region 4 with fail
   try rw [hV1]
   clear hV1 f0 f1 f2 f3
   have hne:=neB V1
   have hsl:∀w,(Instr.sliceAt 131 (.slice (some ⟨g,0,none⟩) l.length cap) none (some (.int .i64 (j:Int))) none).run Tryz.prog w= .ok (.slice (some ⟨g,0,none⟩) j cap) w:=run_cutV _ _ cap j (by omega)
   have b0:∀p:Beyond V1,p.w.cell? ⟨wr.heap.size,0,none⟩=some (i64 x0):=fun p=>p.cell HK1.out.lt (HK1.out.cell (i:=0) rfl)
   have b1:∀p:Beyond V1,p.w.cell? ⟨wr.heap.size,1,none⟩=some (i64 x1):=fun p=>p.cell HK1.out.lt (HK1.out.cell (i:=1) rfl)
   have b2:∀p:Beyond V1,p.w.cell? ⟨wr.heap.size,2,none⟩=some (i64 x2):=fun p=>p.cell HK1.out.lt (HK1.out.cell (i:=2) rfl)
   have b3:∀p:Beyond V1,p.w.cell? ⟨wr.heap.size,3,none⟩=some (i64 x3):=fun p=>p.cell HK1.out.lt (HK1.out.cell (i:=3) rfl)
   cases hm:anyM [x0,x1,x2,x3] l j
   case true=>
    have HM:Hid (anyM [x0,x1,x2,x3] l j=true):=hm
    have HN:Hid (noMB l=false):=yac (fun h9=>by
     have h8:=noMB_iff.1 h9 j hlt
     have h7:anyM [x0,x1,x2,x3] l j=false:=anyM_no.2 (fun i hi=>by rw [HX.out];exact h8 i hi)
     rw [hm]at h7
     cases h7)
    clear hm
    go_wp2_with fail
    refine wrb ?_
    repeat(go_big_quiet_step (first|(go_at_call 139;exact Beyond.of (yq1 g 0 cap j l x0 x1 x2 x3 true HM.out _ (by omega) hl (HVV.out.below (Beyond.h _))))))
    refine wpQuiet_nil ?_
    rintro w3 ⟨⟨_,hb3⟩,rfl⟩
    have HB3:Hid (Below V1.heap.size V1 w3):=hb3
    clear hb3
    clear b0 b1 b2 b3 hsl
    go_wp2
    go_ret
    exact⟨ya0 HN.out.symm,HB.out.trans ((trm HBV.out HB3.out).mono hsz)⟩
   case false=>
    have HM:Hid (anyM [x0,x1,x2,x3] l j=false):=hm
    clear hm
    go_wp2_with fail
    refine wrb ?_
    repeat(go_big_quiet_step (first|(go_at_call 139;exact Beyond.of (yq1 g 0 cap j l x0 x1 x2 x3 false HM.out _ (by omega) hl (HVV.out.below (Beyond.h _))))))
    refine wpQuiet_nil ?_
    rintro w3 ⟨⟨_,hb3⟩,rfl⟩
    have HB3:Hid (Below V1.heap.size V1 w3):=hb3
    clear hb3
    clear b0 b1 b2 b3 hsl
    go_wp2
    go_roundw
    case rel=>exact⟨HB.out.trans ((trm HBV.out HB3.out).mono hsz),j+1,by omega,by go_num,fun i hi=>by
     by_cases e:i=j
     ·subst e;exact fun q hq=>by rw [←HX.out];exact anyM_no.1 HM.out q hq
     ·exact HA.out i (by omega)⟩
    case measure=>simp [intOf];omega
  case neg=>
   have hje:j=l.length:=by omega
   have HY:Hid (noMB l=true):=noMB_iff.2 (fun i hi=>HA.out i (by omega))
   subst hje
   go_wp2
   go_ret
   exact⟨ya0 HY.out.symm,HB.out⟩
end Go.Proofs.YtmobiieoecjmdaaGreat

namespace Go.Proofs.YtmobiieoecjmdaaGreat
open Go.RowKit
theorem hidWGr {p:Prop} (h:p):Hid p:=h
abbrev zeroA:Value:= .agg #[.int .i64 0,.int .i64 0,.int .i64 0,.int .i64 0]
theorem yiu (ty:TypeId) (n:Nat) (w:World) (h0:0<n) (hn:n≤4194304):
  (Builtin.append_ #[131,3] ty #[.slice none 0 0,.int .i64 (n:Int)]).run Tryz.prog w=
   .ok (.slice (some ⟨w.heap.size,0,none⟩) n (grownCap w n 0 137)) (w.drew.alloc (.cells (Builtin.zeroCells zeroA.cells n++Builtin.zeroCells zeroA.cells (grownCap w n 0 137-n)) 137)):=by
 obtain⟨i0,hi,hz0,hz1,hz2⟩:=info_parts ypx
 have hn0:n≠0:=by omega
 have h63:¬(9223372036854775807<(n:Int)):=by omega
 have hw:IntKind.i64.wrap (n:Int)=(n:Int):=by rw [IntKind.wrap_i64];omega
 have hneg:¬((n:Int)<0):=by omega
 have h48a:¬(281474976710656<(n:Int)*(i0.bytes:Int)):=by rw [hz2];omega
 have h48b:¬(281474976710656<Builtin.nextslicecap n 0*i0.bytes):=by rw [nextslicecap_zero h0,hz2];omega
 simp [Builtin.append_,run_underlying Tryz.underlying131,run_underlying Tryz.underlying3,sizeOf,typeInfo,zeroValue,hi,hz0,asInt,asIntOf,hw,hneg,h48a,hz1,hn0,h63,h48b,Question.forced,run_firstCells_none,newRow,grownCap]
 intro h
 omega
theorem ygx {ops:Array Oper} {rest:List Oper} {o:Oper} {a:Act} {w:World} {Q:Exit→Act→World→Prop} (hg:o.guard=none) (s x:Operand)
  (ho:o.op= .call {callee:= .builtin .append,args:= #[s,x],argTypes:= #[131,3]}) (n:Nat) (hs:a.eval s= .slice none 0 0) (hx:a.eval x= .int .i64 (n:Int)) (h0:0<n) (hn:n≤4194304)
  (hK:wpList Tryz.prog ops Q rest (a.put o.dst (.slice (some ⟨w.heap.size,0,none⟩) n (grownCap w n 0 137))) (w.drew.alloc (.cells (Builtin.zeroCells zeroA.cells n++Builtin.zeroCells zeroA.cells (grownCap w n 0 137-n)) 137))):
  wpList Tryz.prog ops Q (o::rest) a w:=by
 refine wpList_plain hg fun K hK'=> ?_
 unfold Oper.wp
 simp [execOp,ho,resolve,invoke,builtin,hs,hx,yiu _ n w h0 hn,Result.andThen]
 exact hK' _ _ hK
theorem ysa (w:World) (n:Nat) (hn:n≤4194304):(w.drew.alloc (.cells (Builtin.zeroCells zeroA.cells n++Builtin.zeroCells zeroA.cells (grownCap w n 0 137-n)) 137)).ownsRow w.heap.size 137 4 (.slice (some ⟨w.heap.size,0,none⟩) 0 (grownCap w n 0 137)) 0 []:=by
 have hge:=grownCap_ge w n 0 137
 have hcm:grownCap w n 0 137≤maxLen:=grownCap_le_maxLen w n 0 137 (by unfold maxLen;omega)
 refine⟨rfl,.inr ⟨w.heap.size,_,_,rfl,Nat.le_refl _,(MapKept.heap_alloc w.drew _).1,Nat.zero_le _,hcm,?_,by simp⟩⟩
 rw [Array.size_append,size_zeroCells,size_zeroCells,←Nat.add_mul,show n+(grownCap w n 0 137-n)=grownCap w n 0 137 from by omega]
 rfl
set_option maxHeartbeats 1000000 in
theorem yv1 (n:Nat) (w:World) (hn:n≤4194304):
  Calls Tryz.prog 141 #[.slice none 0 0,.int .i64 (n:Int)] w fun e w'=>∃v,e= .returned v∧w'.ownsRow w.heap.size 137 4 v 0 []∧Below w.heap.size w w':=by
 by_cases h0:n=0
 ·subst h0
  go_enter Tryz.func141,Tryz.ntmps141
  go_wp2
  go_ret
  exact⟨.slice none 0 0,rfl,World.ownsRow_nil w _ 137 4,Below.refl _ _⟩
 ·have hp:0<n:=by omega
  have hp':(0:Int)<(n:Int):=by omega
  have hge:=grownCap_ge w n 0 137
  have hcm:grownCap w n 0 137≤maxLen:=grownCap_le_maxLen w n 0 137 (by unfold maxLen;omega)
  have HR:=hidWGr (ysa w n hn)
  go_enter Tryz.func141,Tryz.ntmps141
  go_wp2_with (at_builtin;refine ygx rfl _ _ rfl n rfl rfl hp hn ?_)
  go_ret
  exact⟨.slice (some ⟨w.heap.size,0,none⟩) 0 (grownCap w n 0 137),rfl,HR.out,(Below.refl _ w).drew.alloc (Nat.le_refl _) _⟩
theorem yik {p:Prop} (h:p):Hid p:=h
structure CPart where
 a:Option Addr
 c:Nat
 l:List (List Int)
def partAt (ps:List CPart) (i:Nat):CPart:=ps.getD i ⟨none,0,[]⟩
def PartsAt (w:World) (B:Nat) (ps:List CPart):Prop:=B<w.heap.size∧ ∀i,i<ps.length→w.cell? ⟨B,i,none⟩=some (.slice (partAt ps i).a (partAt ps i).l.length (partAt ps i).c)∧(((partAt ps i).a=none∧(partAt ps i).c=0∧(partAt ps i).l= [])∨ ∃b off,(partAt ps i).a=some ⟨b,off,none⟩∧((partAt ps i).l= []∨VcAt w b off (partAt ps i).l))
theorem PartsAt.below {w w':World} {B:Nat} {ps:List CPart} (h:PartsAt w B ps) (hb:Below w.heap.size w w'):PartsAt w' B ps:=
 ⟨Nat.lt_of_lt_of_le h.1 hb.size,fun i hi=>⟨(hb.cell (p:=⟨B,i,none⟩) h.1).trans (h.2 i hi).1,(h.2 i hi).2.imp id (fun⟨b,off,e1,e2⟩=>⟨b,off,e1,e2.imp id (fun e=>e.below hb)⟩)⟩⟩
def ydi (ps:List CPart):Nat→List (List Int)
 |0=> []
 |k+1=>ydi ps k++(partAt ps k).l
theorem yqf (ps:List CPart) (k n:Nat) (h:k≤n):(ydi ps k).length≤(ydi ps n).length:=by
 induction n with
 |zero=>rw [show k=0 by omega];exact Nat.le_refl _
 |succ n ih=>
  by_cases e:k=n+1
  ·rw [e];exact Nat.le_refl _
  ·have:=ih (by omega)
   simp only [ydi,List.length_append]
   omega
set_option maxRecDepth 100000 in
set_option maxHeartbeats 2000000 in
theorem concatA (B:Nat) (ps:List CPart) (w:World) (hps:ps.length≤1000) (hn:(ydi ps ps.length).length≤4194304) (hP:PartsAt w B ps):
  Calls Tryz.prog 93 #[.slice (some ⟨B,0,none⟩) ps.length ps.length] w fun e w'=>∃x,e= .returned x∧RowA w.heap.size w' x (ydi ps ps.length)∧Below w.heap.size w w':=by
 obtain⟨i0,hi,hz0,hz1,hz2⟩:=info_parts ypx
 have HP:Hid (PartsAt w B ps):=hP
 clear hP
 have HN:=yik hn
 clear hn
 go_enter Tryz.func93,Tryz.ntmps93
 go_wp2
 go_loop [3,11] (fun z i=>∃k:Nat,k≤ps.length∧i= .int .i64 k∧z= .int .i64 ((ydi ps k).length:Int)) (fun _ i=>ps.length-(intOf i).toNat)
 case atStart=>exact⟨0,Nat.zero_le _,rfl,rfl⟩
 case round=>
  obtain⟨k,hk,rfl,rfl⟩:=hrel
  by_cases hlt:k<ps.length
  ·have hc:=(HP.out.2 k hlt).1
   have hle:=yqf ps (k+1) ps.length (by omega)
   have hsum:(ydi ps (k+1)).length=(ydi ps k).length+(partAt ps k).l.length:=by simp [ydi]
   generalize hA:(ydi ps k).length=A at hsum⊢
   generalize hL:(partAt ps k).l.length=L at hsum hc
   have hA1:(A:Int)+(L:Int)≤4194304:=by have:=HN.out;omega
   have hA2:(0:Int)≤(A:Int)+(L:Int):=by omega
   have HS:=yik hsum
   clear hA hL hsum hle
   go_wp2
   go_round
   case rel=>exact⟨k+1,by omega,by go_num,by rw [HS.out];go_num⟩
   case measure=>simp [intOf];omega
  ·obtain rfl:k=ps.length:=by omega
   generalize hT:(ydi ps ps.length).length=T
   have HT:=yik hT
   have hT1:T≤4194304:=by have:=HN.out;omega
   clear hT
   go_wp2_with (go_at_call 141;refine(yv1 T _ hT1).mono ?_;rintro e w1 ⟨v0,rfl,hr1,hb1⟩)
   have HR1:=yik hr1
   have HB1:=yik hb1
   clear hr1 hb1
   go_loopw [6,27] (fun v i wr=>∃k:Nat,k≤ps.length∧i= .int .i64 k∧Hid (wr.ownsRow w.heap.size 137 4 v (ydi ps k).length (yc2 (ydi ps k)))∧Hid (Below w.heap.size w wr)) (fun _ i _=>ps.length-(intOf i).toNat)
   case atStart=>exact⟨0,Nat.zero_le _,rfl,HR1.out,HB1.out⟩
   case round=>
    clear HR1 HB1
    obtain⟨k,hk,rfl,HR,HB⟩:=hrel
    by_cases hlt:k<ps.length
    ·have hPk:=HP.out.below HB.out
     have hc:=(hPk.2 k hlt).1
     have HE:=yik ((hPk.2 k hlt).2)
     clear hPk
     have hle:=yqf ps (k+1) ps.length (by omega)
     have hsum:(ydi ps (k+1)).length=(ydi ps k).length+(partAt ps k).l.length:=by simp [ydi]
     have hsz:w.heap.size≤wr.heap.size:=HB.out.size
     have hb1:(ydi ps k).length+(partAt ps k).l.length≤4194304:=by have:=HN.out;omega
     have HS:=yik hsum
     clear hle hsum
     rcases HE.out with ⟨ha,hcz,hl0⟩|⟨b,off,ha,hE⟩
     ·have HL:=yik hl0
      rw [ha,hcz,hl0]at hc
      simp only [List.length_nil]at hc
      clear ha hcz hl0 HE hb1
      go_wp2_with (at_builtin;refine wpList_append_own_none rfl _ _ 131 rfl w.heap.size 137 i0 4 Tryz.underlying131 hi _ (ydi ps k).length (yc2 (ydi ps k)) rfl HR.out rfl ?_)
      go_roundw
      case rel=>exact⟨k+1,by omega,by go_num,by rw [show ydi ps (k+1)=ydi ps k from by show ydi ps k++(partAt ps k).l=_;rw [HL.out,List.append_nil]];exact HR.out,HB.out⟩
      case measure=>simp [intOf];omega
     ·rw [ha]at hc
      have HC:Hid (∀j u,(yc2 (partAt ps k).l)[j]? =some u→wr.cell? ((⟨b,off,none⟩:Addr).add j)=some u):=by
       rcases hE with h|h
       ·exact fun j u hu=>by rw [h]at hu;cases hu
       ·exact h.cells
      clear ha hE HE
      go_wp2_with (at_builtin;refine wpList_append_own _ rfl _ _ 131 rfl w.heap.size 137 i0 _ 4 32 Tryz.underlying131 hi hz0 hz1 hz2 rfl (by decide) _ (ydi ps k).length (yc2 (ydi ps k)) rfl HR.out ⟨b,off,none⟩ (partAt ps k).l.length (partAt ps k).c (yc2 (partAt ps k).l) rfl (yi3 _) HC.out (ykh _) (by unfold maxLen;omega) (by omega) hsz ?_;intro v' w2 hown hgrow hnil)
      go_roundw
      case rel=>exact⟨k+1,by omega,by go_num,by rw [HS.out];show World.ownsRow _ _ _ _ _ _ (yc2 (ydi ps k++(partAt ps k).l));rw [yi4];exact hown,HB.out.grown hgrow hsz (fun r e=>(World.ownsRow.lt HR.out r e).1)⟩
      case measure=>simp [intOf];omega
    ·obtain rfl:k=ps.length:=by omega
     go_wp2
     go_ret
     exact⟨_,rfl,HR.out,HB.out⟩
theorem ye1 {p:Prop} (h:p):Hid p:=h
theorem yl2 {v:Wd} (h:yd3 v.k):∀j,j<(dsOf v.k).length→(vAt (dsOf v.k) j).length≤1048576:=fun j hj=>by
 rw [yc0]at hj
 rw [yex hj]
 have h9:=(h.2 j hj).2
 unfold Kn.wt at h9
 rw [yal]at h9
 omega
theorem yts {B1 B2:Nat} {w V:World} {y1 y2:Value} {l1 l2:List (List Int)} {g:Nat} (h1:RowA B1 w y1 l1) (h2:RowA B2 w y2 l2) (hb:Below w.heap.size w V) (hB:Bk V g 131 #[y1,y2]):∃ps:List CPart,ps.length=2∧ydi ps 2=l1++l2∧PartsAt V g ps:=by
 have e:∀{B:Nat} {y:Value} {l:List (List Int)},RowA B w y l→ ∃a c,y= .slice a l.length c∧((a=none∧c=0∧l= [])∨ ∃b off,a=some ⟨b,off,none⟩∧(l= []∨VcAt V b off l)):=fun h=>by
  rcases RowA.at h with ⟨rfl,rfl⟩|⟨g,cap,rfl,_,_,h3⟩
  ·exact⟨none,0,rfl,.inl ⟨rfl,rfl,rfl⟩⟩
  ·exact⟨_,cap,rfl,.inr ⟨g,0,rfl,.inr (h3.below hb)⟩⟩
 obtain⟨a1,c1,rfl,k1⟩:=e h1
 obtain⟨a2,c2,rfl,k2⟩:=e h2
 refine⟨[⟨a1,c1,l1⟩,⟨a2,c2,l2⟩],rfl,rfl,hB.lt,fun i hi=> ?_⟩
 have h4:i=0∨i=1:=by simp at hi;omega
 rcases h4 with rfl|rfl
 ·exact⟨hB.cell (i:=0) rfl,k1⟩
 ·exact⟨hB.cell (i:=1) rfl,k2⟩
theorem RowA.below {B:Nat} {w w':World} {x:Value} {l:List (List Int)} (h:RowA B w x l) (hb:Below w.heap.size w w'):RowA B w' x l:=owB h hb
set_option maxRecDepth 100000 in
set_option maxHeartbeats 16000000 in
theorem iWorldOk (x:Value) (v:Wd) (w:World) (hs:ycc v) (h:IsW w x v):
  Calls Tryz.prog 45 #[x] w fun e w'=>e= .returned (.bool v.ok)∧Below w.heap.size w w':=by
 have HSW:Hid (ycc v):=hs
 have h0:=h
 have HSM:Hid (SmallM v.m):=hs.1
 have HSK:Hid (yd3 v.k):=hs.2.1
 have HSV:=ye1 hs.2.2
 have hkl:v.k.length≤1048576:=hs.2.1.1
 have hcl:v.c.length≤1048576:=by have h9:=hs.2.2;rw [ydl]at h9;omega
 obtain⟨ai,ci,ah,ch,ae,ce,ak,ck,ac,cc,rfl,hm,hk,hc⟩:=h.form
 have HWW:=ye1 h
 have HMW:=ye1 hm
 have HKS:=ye1 hk
 have HCS:=ye1 hc
 have HCD:Hid (IsD w (.slice ac v.c.length cc) (ycd v.c)):=by
  obtain⟨_,_,_,_,uc,e9,_,_,h9⟩:=h0
  have e8:=congrArg Array.toList (Value.agg.inj e9)
  simp at e8
  rw [←e8.2.2.2.2]at h9
  exact h9
 clear h h0 hm hk hc
 obtain⟨W0,hW0⟩:=yvv HWW.out 39
 have HB0:Hid (Below w.heap.size w W0):=by rw [←hW0];exact(Below.refl _ w).alloc (Nat.le_refl _) _
 have HP0:Hid (Bk W0 w.heap.size 39 #[.int .i64 v.m.n,.int .i64 v.m.s,.slice ai v.m.i.length ci,.slice ah v.m.h.length ch,.slice ae v.m.e.length ce,.int .i64 v.m.z,.slice ak v.k.length ck,.slice ac v.c.length cc]):=by rw [←hW0];exact Bk.new w _ _
 obtain⟨q0,q1,q2,q3,q4,q5,q6,q7⟩:=c8_8 HP0.out
 by_cases c4:v.k.length≤16
 case neg=>
  have c4':(16:Int)<(v.k.length:Int):=by omega
  have HN:Hid (v.ok=false):=yac (fun h=>c4 (wok_iff.1 h).1.2.1)
  clear c4
  go_enter Tryz.func45,Tryz.ntmps45
  go_wp2
  go_ret
  exact⟨ya0 HN.out.symm,HB0.out⟩
 have c4':¬(16:Int)<(v.k.length:Int):=by omega
 by_cases c5:v.c.length≤100
 case neg=>
  have c5':(100:Int)<(v.c.length:Int):=by omega
  have HN:Hid (v.ok=false):=yac (fun h=>c5 (wok_iff.1 h).1.2.2)
  clear c5
  go_enter Tryz.func45,Tryz.ntmps45
  go_wp2
  go_ret
  exact⟨ya0 HN.out.symm,HB0.out⟩
 have c5':¬(100:Int)<(v.c.length:Int):=by omega
 have HLN:Hid (v.k.length≤16∧v.c.length≤100):=⟨c4,c5⟩
 go_enter Tryz.func45,Tryz.ntmps45
 go_wp2_with fail
 clear q0 q1 q2 q3 q4 q5 q6 q7 c4' c5' hW0
 refine(runs_any _ v _ HSW.out (HWW.out.under HB0.out)).mono ?_
 rintro e w1 ⟨y1,rfl,hb1,hr1⟩
 have HB1:=trh HB0 hb1
 have HP1:=ye1 (HP0.out.below hb1)
 have HD1:=ye1 (hr1.isD hb1)
 clear hb1 hr1 HB0 HP0
 go_wp2_with fail
 refine(in_any y1 (dsOf v.k) w1 (by rw [yc0];omega) (yl2 HSK.out) HD1.out).mono ?_
 rintro e w2 ⟨hb2,hin⟩
 have HB2:=trh HB1 hb2
 have HP2:=ye1 (HP1.out.below hb2)
 clear hb2 HB1 HP1 HD1
 obtain⟨y2,b2,rfl,HI2⟩:∃y2 b2,e= .returned (.tuple #[y2,.bool b2])∧Hid ((b2=true∧yih (dsOf v.k)=true∧ ∃B,RowA B w2 y2 (dsOf v.k))∨(b2=false∧yih (dsOf v.k)=false)):=by
  rcases hin with ⟨h1,y,rfl,h2⟩|⟨h1,rfl⟩
  ·exact⟨y,true,rfl,.inl ⟨rfl,h1,_,h2⟩⟩
  ·exact⟨_,false,rfl,.inr ⟨rfl,h1⟩⟩
 clear hin
 have q7:=HP2.out.cell (i:=7) rfl
 go_wp2_with fail
 clear q7
 refine(in_any (.slice ac v.c.length cc) v.c w2 (by omega) (fun j hj=>Nat.le_trans (ym9 hj) HSV.out) (HCD.out.under HB2.out)).mono ?_
 rintro e w3 ⟨hb3,hin⟩
 have HB3:=trh HB2 hb3
 have HP3:=ye1 (HP2.out.below hb3)
 have HI23:Hid ((b2=true∧yih (dsOf v.k)=true∧ ∃B,RowA B w3 y2 (dsOf v.k))∨(b2=false∧yih (dsOf v.k)=false)):=HI2.out.imp (fun⟨h1,h2,B,h3⟩=>⟨h1,h2,B,h3.below hb3⟩) id
 clear hb3 HB2 HP2 HI2
 obtain⟨y3,b3,rfl,HI3⟩:∃y3 b3,e= .returned (.tuple #[y3,.bool b3])∧Hid ((b3=true∧yih v.c=true∧ ∃B,RowA B w3 y3 v.c)∨(b3=false∧yih v.c=false)):=by
  rcases hin with ⟨h1,y,rfl,h2⟩|⟨h1,rfl⟩
  ·exact⟨y,true,rfl,.inl ⟨rfl,h1,_,h2⟩⟩
  ·exact⟨_,false,rfl,.inr ⟨rfl,h1⟩⟩
 clear hin
 rcases HI23.out with ⟨rfl,hk1,B1,hk2⟩|⟨rfl,hk1⟩
 case inr=>
  have HN:Hid (v.ok=false):=yac (fun h=>by
   have h1:=(wok_iff.1 h).2.1
   have h2:yih (dsOf v.k)=true:=allVk_iff.2 (fun i hi=>by
    rw [yc0]at hi
    rw [yex hi]
    exact(yia (runB_iff.1 (h1 i hi)).1).2)
   rw [hk1]at h2
   cases h2)
  clear hk1
  go_wp2
  go_ret
  exact⟨ya0 HN.out.symm,HB3.out⟩
 rcases HI3.out with ⟨rfl,hc1,B2,hc2⟩|⟨rfl,hc1⟩
 case inr=>
  have HN:Hid (v.ok=false):=yac (fun h=>by
   have h2:yih v.c=true:=allVk_iff.2 (wok_iff.1 h).2.2.1
   rw [hc1]at h2
   cases h2)
  clear hk1 hk2 hc1
  go_wp2
  go_ret
  exact⟨ya0 HN.out.symm,HB3.out⟩
 have HAV:=ye1 (allVk_iff.1 hc1)
 obtain⟨V4,hV4⟩:∃V4,w3.alloc (.cells #[y2,y3] 131)=V4:=⟨_,rfl⟩
 have hb4:=beA hV4
 have hK4:=bkA hV4
 obtain⟨ps,hps,hcat,hPA⟩:=yts hk2 hc2 hb4 hK4
 have HPA:=ye1 hPA
 have HCAT:Hid (ydi ps ps.length=allV v):=by rw [hps];exact hcat
 have HPS:Hid (ps.length=2):=hps
 have HCON:Hid (Calls Tryz.prog 93 #[.slice (some ⟨w3.heap.size,0,none⟩) 2 2] V4 fun e w'=>∃x,e= .returned x∧RowA V4.heap.size w' x (allV v)∧Below V4.heap.size V4 w'):=by
  have h9:=concatA w3.heap.size ps V4 (by rw [hps];omega) (by rw [HCAT.out];unfold allV;rw [List.length_append,yc0];omega) hPA
  rw [HCAT.out,hps]at h9
  exact h9
 have HB4:=trh HB3 hb4
 have HP4:=ye1 (HP3.out.below hb4)
 obtain⟨a2,c2,rfl⟩:=yav hk2
 obtain⟨a3,c3,rfl⟩:=yav hc2
 clear hk1 hk2 hc1 hc2 hb4 hK4 hps hcat hPA HPA HI23 HI3
 go_wp2_with fail
 clear hV4
 refine HCON.out.mono ?_
 rintro e w5 ⟨y5,rfl,hr5,hb5⟩
 have HB5:=trh HB4 hb5
 have HP5:=ye1 (HP4.out.below hb5)
 have HR5:=ye1 hr5
 clear hr5 hb5 HB4 HP4 HCON
 go_wp2_with fail
 refine(none_any y5 (allV v) w5 (by unfold allV;rw [List.length_append,yc0];omega) HR5.out.at).mono ?_
 rintro e w6 ⟨rfl,hb6⟩
 have HB6:=trh HB5 hb6
 have HP6:=ye1 (HP5.out.below hb6)
 clear hb6 HB5 HP5
 cases hnm:noMB (allV v)
 case false=>
  have HN:Hid (v.ok=false):=yac (fun h=>by have h2:=(wok_iff.1 h).2.2.2;rw [hnm]at h2;cases h2)
  clear hnm
  go_wp2
  go_ret
  exact⟨ya0 HN.out.symm,HB6.out⟩
 have HNM:=ye1 hnm
 clear hnm
 obtain⟨q0,q1,q2,q3,q4,q5,q6,q7⟩:=c8_8 HP6.out
 go_wp2_with fail
 clear q0 q1 q2 q3 q4 q5 q6 q7
 refine(iRunsOk _ v _ HSW.out (HWW.out.under HB6.out)).mono ?_
 rintro e w7 ⟨rfl,hb7⟩
 have HB7:=trh HB6 hb7
 clear hb7
 have HEQ:Hid (yjc v=v.ok):=by
  cases hr:yjc v
  ·exact(yac (fun h=>by have h9:yjc v=true:=runsB_iff.2 ⟨(wok_iff.1 h).1.1,(wok_iff.1 h).2.1⟩;rw [hr]at h9;cases h9)).symm
  ·exact(wok_iff.2 ⟨⟨(runsB_iff.1 hr).1,HLN.out.1,HLN.out.2⟩,(runsB_iff.1 hr).2,HAV.out,HNM.out⟩).symm
 go_wp2
 go_ret
 exact⟨ya0 HEQ.out,HB7.out⟩
set_option maxHeartbeats 1000000 in
theorem ys7 (x y:Value) (l r:List Int) (w:World) (hl:l.length≤4611686018427387904) (hr:r.length≤4611686018427387904) (h:IsI w x l) (k:IsI w y r):
  Calls Tryz.prog 133 #[x,y] w fun e w'=>e= .returned (.bool (vok l&&vok r&&ybz l r))∧Below w.heap.size w w':=by
 have H:=two_any x y l r w hl hr h k
 cases hv:(vok l&&vok r)with
 |false=>
  rw [hv]at H
  obtain⟨p0,p1,p2,p3,hp⟩:=ygf l
  obtain⟨q0,q1,q2,q3,hq⟩:=ygf r
  rw [hp,hq]at H
  clear hp hq
  go_enter Tryz.func133,Tryz.ntmps133
  go_wp2_with fail
  refine H.mono ?_
  rintro e w1 ⟨rfl,hb1⟩
  go_wp2
  go_ret
  exact⟨rfl,(hb1.alloc hb1.size _).alloc (by have:=hb1.size;simp;omega) _⟩
 |true=>
  rw [hv]at H
  rw [Bool.and_eq_true]at hv
  obtain⟨a0,a1,a2,a3,rfl,_⟩:=yiw hv.1
  obtain⟨b0,b1,b2,b3,rfl,_⟩:=yiw hv.2
  rw [ykg _ _ _ _ hv.1,ykg _ _ _ _ hv.2]at H
  have M:=fun W=>yn2 a0 a1 a2 a3 b0 b1 b2 b3 W
  generalize ybz [a0,a1,a2,a3] [b0,b1,b2,b3]=m at M⊢
  have M':Hid (∀W,_):=M
  clear M
  go_enter Tryz.func133,Tryz.ntmps133
  go_wp2_with fail
  refine H.mono ?_
  rintro e w1 ⟨rfl,hb1⟩
  go_wp2_with fail
  refine(M'.out _).mono ?_
  rintro e w2 ⟨rfl,hb2⟩
  go_wp2
  go_ret
  exact⟨rfl,((hb1.alloc hb1.size _).alloc (by have:=hb1.size;simp;omega) _).trans (hb2.mono (by have:=hb1.size;simp;omega))⟩
set_option maxHeartbeats 16000000
set_option maxRecDepth 100000
open Go.RowKit
theorem yc1 {p:Prop} (h:p):Hid p:=h
def yhw (l:List (List Int)) (d:List Int):Nat→Nat→Option Nat
 |_,0=>none
 |i,n+1=>if ybz (vAt l i) d=true then some i else yhw l d (i+1) n
noncomputable def covA (v : Wd) (d : List Int) : Int := if v.ok = true ∧ vok d = true then (match yhw (dsOf v.k) d 0 v.k.length with | some i => (i : Int) | none => -1) else -1
theorem yjy {l:List (List Int)} {d:List Int}:∀(n i j:Nat),j<n→ybz (vAt l (i+j)) d=true→(∀q,q<j→ybz (vAt l (i+q)) d=false)→yhw l d i n=some (i+j)
 |0,i,j,hj,_,_=>by omega
 |n+1,i,j,hj,h1,h2=>by
  unfold yhw
  by_cases h0:j=0
  ·subst h0
   rw [if_pos (by simpa using h1)]
   rfl
  ·have h3:=h2 0 (by omega)
   rw [Nat.add_zero]at h3
   rw [if_neg (by rw [h3];simp),yjy n (i+1) (j-1) (by omega) (by rw [show i+1+(j-1)=i+j by omega];exact h1) (fun q hq=>by rw [show i+1+q=i+(q+1)by omega];exact h2 (q+1) (by omega))]
   rw [show i+1+(j-1)=i+j by omega]
theorem yjz {l:List (List Int)} {d:List Int}:∀(n i:Nat),(∀q,q<n→ybz (vAt l (i+q)) d=false)→yhw l d i n=none
 |0,i,_=>rfl
 |n+1,i,h=>by
  unfold yhw
  have h3:=h 0 (by omega)
  rw [Nat.add_zero]at h3
  rw [if_neg (by rw [h3];simp),yjz n (i+1) (fun q hq=>by rw [show i+1+q=i+(q+1)by omega];exact h (q+1) (by omega))]
theorem ylz {v:Wd} {d:List Int} (h:v.ok=false∨vok d=false):covA v d= -1:=by
 unfold covA
 rw [if_neg (by rcases h with h|h<;>rw [h]<;>simp)]
theorem ynr {v:Wd} {d:List Int} {j:Nat} (h1:v.ok=true) (h2:vok d=true) (hj:j<v.k.length) (h3:ybz (knAt v.k j).d d=true) (h4:∀q,q<j→ybz (knAt v.k q).d d=false):covA v d=(j:Int):=by
 unfold covA
 rw [if_pos ⟨h1,h2⟩,yjy v.k.length 0 j hj (by rw [Nat.zero_add,yex hj];exact h3) (fun q hq=>by rw [Nat.zero_add,yex (by omega)];exact h4 q hq)]
 simp
theorem yns {v:Wd} {d:List Int} (h4:∀q,q<v.k.length→ybz (knAt v.k q).d d=false):covA v d= -1:=by
 unfold covA
 split
 ·rw [yjz v.k.length 0 (fun q hq=>by rw [Nat.zero_add,yex hq];exact h4 q hq)]
 ·rfl
theorem d_len {v:Wd} (h:yd3 v.k) {j:Nat} (hj:j<v.k.length):(knAt v.k j).d.length≤1048576:=by
 have h9:=yl2 h j (by rw [yc0];exact hj)
 rw [yex hj]at h9
 exact h9
theorem sCovers (x:Value) (v:Wd) (z:Value) (d:List Int) (w:World) (hs:ycc v) (hdl:d.length≤1048576) (h:IsW w x v) (hz:IsI w z d):
  Calls Tryz.prog 78 #[x,z] w fun e w'=>e= .returned (.int .i64 (covA v d))∧Below w.heap.size w w':=by
 have HSW:Hid (ycc v):=hs
 have HZ:Hid (IsI w z d):=hz
 obtain⟨za,zc,rfl,_⟩:=hz
 have HSM:Hid (SmallM v.m):=hs.1
 have HSK:Hid (yd3 v.k):=hs.2.1
 have HSV:=yc1 hs.2.2
 have hkl:v.k.length≤1048576:=hs.2.1.1
 have hcl:v.c.length≤1048576:=by have h9:=hs.2.2;rw [ydl]at h9;omega
 obtain⟨ai,ci,ah,ch,ae,ce,ak,ck,ac,cc,rfl,hm,hk,hc⟩:=h.form
 have HWW:=yc1 h
 have HMW:=yc1 hm
 have HKS:=yc1 hk
 have HCS:=yc1 hc
 clear h hm hk hc
 obtain⟨W0,hW0⟩:=yvv HWW.out 39
 have HB0:Hid (Below w.heap.size w W0):=by rw [←hW0];exact(Below.refl _ w).alloc (Nat.le_refl _) _
 have HP0:Hid (Bk W0 w.heap.size 39 #[.int .i64 v.m.n,.int .i64 v.m.s,.slice ai v.m.i.length ci,.slice ah v.m.h.length ch,.slice ae v.m.e.length ce,.int .i64 v.m.z,.slice ak v.k.length ck,.slice ac v.c.length cc]):=by rw [←hW0];exact Bk.new w _ _
 obtain⟨q0,q1,q2,q3,q4,q5,q6,q7⟩:=c8_8 HP0.out
 go_enter Tryz.func78,Tryz.ntmps78
 go_wp2_with fail
 clear q0 q1 q2 q3 q4 q5 q6 q7 hW0
 refine(sWorldOk _ v _ HSW.out (HWW.out.under HB0.out)).mono ?_
 rintro e w1 ⟨rfl,hb1⟩
 have HB1:=trh HB0 hb1
 have HP1:=yc1 (HP0.out.below hb1)
 clear hb1 HB0 HP0
 cases hok:v.ok
 case false=>
  have HN:Hid (covA v d= -1):=ylz (.inl hok)
  clear hok
  go_wp2
  go_ret
  exact⟨yau HN.out.symm,HB1.out⟩
 have HOK:Hid (v.ok=true):=hok
 clear hok
 go_wp2_with fail
 refine(yiy _ d _ (by omega) (HZ.out.below HB1.out)).mono ?_
 rintro e w2 ⟨rfl,hw2⟩
 have hw2':=hw2.symm
 clear hw2
 subst hw2'
 cases hvo:vok d
 case false=>
  have HN:Hid (covA v d= -1):=ylz (.inr hvo)
  clear hvo
  go_wp2
  go_ret
  exact⟨yau HN.out.symm,HB1.out⟩
 have HVO:Hid (vok d=true):=hvo
 clear hvo
 go_wp2
 go_loopw [5] (fun i wr=>∃j:Nat,j≤v.k.length∧i= .int .i64 j∧Hid (∀q,q<j→ybz (knAt v.k q).d d=false)∧Hid (Below w1.heap.size w1 wr)) (fun i _=>v.k.length-(intOf i).toNat)
 case atStart=>exact⟨0,Nat.zero_le _,rfl,fun q hq=>by omega,Below.refl _ _⟩
 case round=>
  obtain⟨j,hj,rfl,HA,HBr⟩:=hrel
  have HBw:=trh HB1 HBr.out
  have HPr:=yc1 (HP1.out.below HBr.out)
  have hq:=HPr.out.cell (i:=6) rfl
  by_cases hlt:j<v.k.length
  case pos=>
   obtain⟨b,off,rfl,hbl,hKA⟩:=HKS.out.resolve_left (by omega)
   obtain⟨ki,di,kh,dh,ke,de,k6,d6,k7,d7,k8,d8,k12,d12,k13,d13,⟨_,_,_,_,_,_,f6,_,_,_,_,_,_,_⟩,hkn,hkm,hkd⟩:=(hKA j hlt).form
   have f6:=cst HBw.out hbl f6
   have HDW:=yc1 hkd
   have hvl:(knAt v.k j).d.length≤1048576:=by have h9:=yl2 HSK.out j (by rw [yc0];exact hlt);rw [yex hlt]at h9;exact h9
   clear hkn hkm hkd hKA
   go_wp2_with fail
   clear f6
   clear hq
   have HVK:=yc1 ((yia (runB_iff.1 ((wok_iff.1 HOK.out).2.1 j hlt)).1).2)
   refine(ypo _ _ (knAt v.k j).d d _ HVK.out HVO.out ((HDW.out.under HBw.out).isI) (HZ.out.below HBw.out)).mono ?_
   rintro e w2 ⟨rfl,hb2⟩
   have HB2:=trh HBr hb2
   have HB2w:=trh HBw hb2
   clear hb2
   cases hm:ybz (knAt v.k j).d d
   case true=>
    have HY:=yc1 (ynr HOK.out HVO.out hlt hm HA.out)
    clear hm
    go_wp2
    go_ret
    exact⟨yau HY.out.symm,HB2w.out⟩
   have HM:=yc1 hm
   clear hm
   go_wp2
   go_roundw
   case rel=>exact⟨j+1,by omega,by go_num,fun q hq=>by
    by_cases e:q=j
    ·subst e;exact HM.out
    ·exact HA.out q (by omega),HB2.out⟩
   case measure=>simp [intOf];omega
  case neg=>
   have hje:j=v.k.length:=by omega
   have HN:Hid (covA v d= -1):=yns (fun q hq=>HA.out q (by omega))
   subst hje
   go_wp2
   go_ret
   exact⟨yau HN.out.symm,HBw.out⟩
theorem iMeet_b (x y:Value) (l r:List Int) (w:World) (hl:l.length≤4611686018427387904) (hr:r.length≤4611686018427387904) (h:IsI w x l) (k:IsI w y r):
  Calls Tryz.prog 133 #[x,y] w fun e w'=>e= .returned (.bool (vok l&&(vok r&&ybz l r)))∧Below w.heap.size w w':=by
 rw [←Bool.and_assoc]
 exact ys7 x y l r w hl hr h k
theorem cov1_any (k:Kn) (x:Value) (Bt:Nat) (z:Value) (d:List Int) (w:World) (hkl:k.d.length≤1048576) (hdl:d.length≤1048576) (h:IsKern w x k) (hz:IsI w z d) (hb:Bt<w.heap.size) (hc:w.cell? ⟨Bt,0,none⟩=some z):
  Calls Tryz.prog 132 #[x,.pointer (some ⟨Bt,0,none⟩)] w fun e w'=>e= .returned (.bool (vok k.d&&(vok d&&ybz k.d d)))∧Below w.heap.size w w':=by
 obtain⟨vi,vh,vs,u6,u7,u8,u12,u13,rfl,_,h6,_⟩:=h
 have HD:Hid (IsI w u6 k.d):=h6.isI
 have HZ:Hid (IsI w z d):=hz
 obtain⟨W0,hW0⟩:∃V,w.alloc (.cells #[.int .i64 k.m.n,.int .i64 k.m.s,vi,vh,vs,.int .i64 k.m.z,u6,u7,u8,.int .i64 k.t,.int .i64 k.q,.bool k.f,u12,u13] 57)=V:=⟨_,rfl⟩
 have hb0:=beA hW0
 have HB0:=yc1 hb0
 have BX:=bkA hW0
 have x6:=BX.cell (i:=6) rfl
 have hc0:W0.cell? ⟨Bt,0,none⟩=some z:=(hb0.cell (p:=⟨Bt,0,none⟩) hb).trans hc
 clear hb0 BX hc h6 hz
 go_enter Tryz.func132,Tryz.ntmps132
 go_wp2_with fail
 clear x6 hc0 hW0
 refine(iMeet_b _ _ k.d d _ (by omega) (by omega) (HD.out.below HB0.out) (HZ.out.below HB0.out)).mono ?_
 rintro e w1 ⟨rfl,hb1⟩
 have HB1:=trh HB0 hb1
 clear hb1
 go_wp2
 go_ret
 exact⟨rfl,HB1.out⟩
def idxK (v:Wd) (d:List Int) (r:Ending):Prop:=(∃i:Nat,r= .returned (.int .i64 (i:Int))∧i<v.k.length∧(vok (knAt v.k i).d&&(vok d&&ybz (knAt v.k i).d d))=true∧ ∀q,q<i→(vok (knAt v.k q).d&&(vok d&&ybz (knAt v.k q).d d))=false)∨(r= .returned (.int .i64 (-1))∧ ∀q,q<v.k.length→(vok (knAt v.k q).d&&(vok d&&ybz (knAt v.k q).d d))=false)
theorem idxK_any (ak:Option Addr) (ck:Nat) (v:Wd) (Bt:Nat) (z:Value) (d:List Int) (w:World) (hS:yd3 v.k) (hdl:d.length≤1048576) (hz:IsI w z d) (hb:Bt<w.heap.size) (hc:w.cell? ⟨Bt,0,none⟩=some z)
  (h:v.k.length=0∨ ∃b off,ak=some ⟨b,off,none⟩∧b<w.heap.size∧ ∀i,i<v.k.length→KAt w b (off+i*14) (knAt v.k i)):
  Calls Tryz.prog 131 #[.slice ak v.k.length ck,.func (.func 132) #[] #[.pointer (some ⟨Bt,0,none⟩)]] w fun r w'=>idxK v d r∧Below w.heap.size w w':=by
 have HKS:=yc1 h
 have HC:=yc1 hc
 have HZ:Hid (IsI w z d):=hz
 have HSK:Hid (yd3 v.k):=hS
 have hkl:v.k.length≤1048576:=hS.1
 clear h hc hz hS
 go_enter Tryz.func131,Tryz.ntmps131
 go_wp2
 go_loopw [8] (fun i wr=>Hid (Below w.heap.size w wr)∧ ∃j:Nat,j≤v.k.length∧i= .int .i64 j∧Hid (∀q,q<j→(vok (knAt v.k q).d&&(vok d&&ybz (knAt v.k q).d d))=false)) (fun i _=>v.k.length-(intOf i).toNat)
 case atStart=>exact⟨Below.refl _ _,0,Nat.zero_le _,rfl,fun q hq=>by omega⟩
 case round=>
  obtain⟨HBw,j,hj,rfl,HA⟩:=hrel
  have hsz:w.heap.size≤wr.heap.size:=HBw.out.size
  by_cases hlt:j<v.k.length
  case pos=>
   have hjd:decide ((j:Int)<(v.k.length:Int))=true:=by simpa using hlt
   obtain⟨b,off,rfl,hbl,hKA⟩:=HKS.out.resolve_left (by omega)
   obtain⟨ki,di,kh,dh,ke,de,k6,d6,k7,d7,k8,d8,k12,d12,k13,d13,⟨f0,f1,f2,f3,f4,f5,f6,f7,f8,f9,f10,f11,f12,f13⟩,hkn,_,_⟩:=(hKA j hlt).form
   have f0:=cst HBw.out hbl f0
   have f1:=cst HBw.out hbl f1
   have f2:=cst HBw.out hbl f2
   have f3:=cst HBw.out hbl f3
   have f4:=cst HBw.out hbl f4
   have f5:=cst HBw.out hbl f5
   have f6:=cst HBw.out hbl f6
   have f7:=cst HBw.out hbl f7
   have f8:=cst HBw.out hbl f8
   have f9:=cst HBw.out hbl f9
   have f10:=cst HBw.out hbl f10
   have f11:=cst HBw.out hbl f11
   have f12:=cst HBw.out hbl f12
   have f13:=cst HBw.out hbl f13
   have HKI:=yc1 (hkn.under HBw.out)
   have hdk:=d_len HSK.out hlt
   have HCT:=yc1 ((HBw.out.cell (p:=⟨Bt,0,none⟩) hb).trans HC.out)
   clear hkn hKA
   go_wp2_with fail
   clear f0 f1 f2 f3 f4 f5 f6 f7 f8 f9 f10 f11 f12 f13
   refine(cov1_any (knAt v.k j) _ Bt z d _ hdk hdl HKI.out (HZ.out.below HBw.out) (by omega) HCT.out).mono ?_
   rintro e w2 ⟨rfl,hb2⟩
   have HB2:=yc1 (HBw.out.trans (hb2.mono hsz))
   clear hb2
   obtain⟨c,hc⟩:∃c,(vok (knAt v.k j).d&&(vok d&&ybz (knAt v.k j).d d))=c:=⟨_,rfl⟩
   rw [hc]
   cases c
   case true=>
    have HY:=yc1 hc
    clear hc
    go_wp2
    go_ret
    exact⟨.inl ⟨j,rfl,hlt,HY.out,HA.out⟩,HB2.out⟩
   case false=>
    have HN:=yc1 hc
    clear hc
    go_wp2
    go_roundw
    case rel=>exact⟨HB2.out,j+1,by omega,by go_num,fun q hq=>by
     by_cases e:q=j
     ·subst e;exact HN.out
     ·exact HA.out q (by omega)⟩
    case measure=>simp [intOf];omega
  case neg=>
   have hje:j=v.k.length:=by omega
   subst hje
   go_wp2
   go_ret
   exact⟨.inr ⟨rfl,HA.out⟩,HBw.out⟩
theorem idxK_cov {v:Wd} {d:List Int} {r:Ending} (hok:v.ok=true) (h:idxK v d r):r= .returned (.int .i64 (covA v d)):=by
 have hv:∀i,i<v.k.length→vok (knAt v.k i).d=true:=fun i hi=>(yia (runB_iff.1 ((wok_iff.1 hok).2.1 i hi)).1).2
 cases hd:vok d
 ·rw [ylz (.inr hd)]
  rcases h with ⟨i,rfl,hi,h1,_⟩|⟨rfl,_⟩
  ·rw [hd]at h1
   simp at h1
  ·rfl
 ·have hm:∀i,i<v.k.length→(vok (knAt v.k i).d&&(vok d&&ybz (knAt v.k i).d d))=ybz (knAt v.k i).d d:=fun i hi=>by rw [hv i hi,hd];rfl
  rcases h with ⟨i,rfl,hi,h1,h2⟩|⟨rfl,h2⟩
  ·rw [ynr hok hd hi (by rw [←hm i hi];exact h1) (fun q hq=>by rw [←hm q (by omega)];exact h2 q hq)]
  ·rw [yns (fun q hq=>by rw [←hm q hq];exact h2 q hq)]
theorem iCovers (x:Value) (v:Wd) (z:Value) (d:List Int) (w:World) (hs:ycc v) (hdl:d.length≤1048576) (h:IsW w x v) (hz:IsI w z d):
  Calls Tryz.prog 81 #[x,z] w fun e w'=>e= .returned (.int .i64 (covA v d))∧Below w.heap.size w w':=by
 have HSW:Hid (ycc v):=hs
 have HZ:Hid (IsI w z d):=hz
 obtain⟨za,zc,rfl,_⟩:=hz
 have HSM:Hid (SmallM v.m):=hs.1
 have HSK:Hid (yd3 v.k):=hs.2.1
 have HSV:=yc1 hs.2.2
 have hkl:v.k.length≤1048576:=hs.2.1.1
 have hcl:v.c.length≤1048576:=by have h9:=hs.2.2;rw [ydl]at h9;omega
 obtain⟨ai,ci,ah,ch,ae,ce,ak,ck,ac,cc,rfl,hm,hk,hc⟩:=h.form
 have HWW:=yc1 h
 have HMW:=yc1 hm
 have HKS:=yc1 hk
 have HCS:=yc1 hc
 clear h hm hk hc
 obtain⟨W0,hW0⟩:=yvv HWW.out 39
 have HB0:=hdq (beA hW0)
 have HP0:=hdq (bkA hW0)
 obtain⟨W1,hW1⟩:∃W1,W0.alloc (.cells #[.slice za d.length zc] 22)=W1:=⟨_,rfl⟩
 have hs0:W0.heap.size=w.heap.size+1:=by rw [←hW0];simp
 have hb01:=beA hW1
 have HBa:=yc1 (HB0.out.trans (hb01.mono (by omega)))
 have HPa:=yc1 (HP0.out.below hb01)
 have HDa:Hid (Bk W1 (w.heap.size+1) 22 #[.slice za d.length zc]):=by rw [←hs0];exact hW1▸Bk.new W0 _ _
 rw [←hW0]at hW1
 clear hb01 hW0 HB0 HP0
 obtain⟨q0,q1,q2,q3,q4,q5,q6,q7⟩:=c8_8 HPa.out
 go_enter Tryz.func81,Tryz.ntmps81
 go_wp2_with fail
 clear q0 q1 q2 q3 q4 q5 q6 q7 hW1
 refine(iWorldOk _ v _ HSW.out (HWW.out.under HBa.out)).mono ?_
 rintro e w1 ⟨rfl,hb1⟩
 have HB1:=trh HBa hb1
 have HP1:=yc1 (HPa.out.below hb1)
 have HD1:=yc1 (HDa.out.below hb1)
 clear hb1 HBa HPa HDa
 cases hok:v.ok
 case false=>
  have HN:Hid (covA v d= -1):=ylz (.inl hok)
  clear hok
  go_wp2
  go_ret
  exact⟨yau HN.out.symm,HB1.out⟩
 have HOK:Hid (v.ok=true):=hok
 clear hok
 have q6:=HP1.out.cell (i:=6) rfl
 go_wp2_with fail
 clear q6
 refine(idxK_any ak ck v (w.heap.size+1) (.slice za d.length zc) d w1 HSK.out hdl (HZ.out.below HB1.out) HD1.out.lt (HD1.out.cell (i:=0) rfl) (HKS.out.imp id (fun⟨b,off,e1,hbl,hk⟩=>⟨b,off,e1,Nat.lt_of_lt_of_le hbl HB1.out.size,fun i hi=>(hk i hi).under hbl HB1.out⟩))).mono ?_
 rintro e w2 ⟨hR,hb2⟩
 have HB2:=trh HB1 hb2
 have hE:=idxK_cov HOK.out hR
 subst hE
 clear hb2 hR
 go_wp2
 go_ret
 exact⟨rfl,HB2.out⟩
set_option maxHeartbeats 2000000
open Go.RowKit
theorem hidVWh {p:Prop} (h:p):Hid p:=h
def whN (l:List Int):Int:=l.foldl (fun n z=>if z= -1 then 2*n else n) 1
theorem yhg {l:List Int} {k:Nat} (h:k<l.length) {z:Int} (hz:z=intAt l k):whN (l.take (k+1))=if z= -1 then 2*whN (l.take k)else whN (l.take k):=by
 have e:l.take (k+1)=l.take k++ [z]:=by rw [List.take_add_one,hz];simp [intAt,h]
 rw [e];simp [whN]
theorem whN_low (l:List Int):1≤whN l∧whN l≤2^l.length:=by
 have:∀(l:List Int) (n:Int),1≤n→n≤l.foldl (fun n z=>if z= -1 then 2*n else n) n∧l.foldl (fun n z=>if z= -1 then 2*n else n) n≤n*2^l.length:=by
  intro l
  induction l with
  |nil=>intro n _;simp
  |cons z r ih=>
   intro n hn
   simp only [List.foldl_cons,List.length_cons,Int.pow_succ]
   have hp:(0:Int)<2^r.length:=Int.pow_pos (by omega)
   split
   ·have:=ih (2*n) (by omega)
    rw [show n*(2^r.length*2)=2*n*2^r.length by rw [Int.mul_comm (2^r.length) 2,←Int.mul_assoc,Int.mul_comm n 2]]
    omega
   ·have:=ih n hn
    have h2:n*2^r.length≤n*(2^r.length*2):=Int.mul_le_mul_of_nonneg_left (by omega) (by omega)
    omega
 have h:=this l 1 (by omega)
 unfold whN;omega
theorem yfw {l:List Int} {k:Nat} (hl:l.length=4) (hk:k<4):1≤whN (l.take k)∧whN (l.take k)≤8:=by
 have h:=whN_low (l.take k)
 have e:(l.take k).length=k:=by simp;omega
 rw [e]at h
 have hk4:k=0∨k=1∨k=2∨k=3:=by omega
 rcases hk4 with rfl|rfl|rfl|rfl<;>exact⟨h.1,Int.le_trans h.2 (by decide)⟩
theorem yr4 (b off cap:Nat) (l:List Int) (w:World) (hl:l.length=4) (hv:∀j,j<4→ -1≤intAt l j) (hI:IntsAt w b off l) (H:Calls Tryz.prog 88 #[.slice (some ⟨b,off,none⟩) 4 cap] w fun e w'=>e= .returned (.bool true)∧w'=w):
  Calls Tryz.prog 79 #[.slice (some ⟨b,off,none⟩) 4 cap] w fun e w'=>e= .returned (.int .i64 (whN l))∧Below w.heap.size w w':=by
 have HL:Hid (l.length=4):=hl
 have HV:=hidVWh hv
 have HI:Hid (IntsAt w b off l):=hI
 have H':Hid (Calls Tryz.prog 88 #[.slice (some ⟨b,off,none⟩) 4 cap] w fun e w'=>e= .returned (.bool true)∧w'=w):=H
 clear hl hv hI H
 go_enter Tryz.func79,Tryz.ntmps79
 go_wp2_with fail
 refine H'.out.mono ?_
 rintro e w1 ⟨rfl,hw⟩
 obtain rfl:=hw.symm
 go_wp2
 go_loop [3,4] (fun n i=>∃(k:Nat) (N:Int),k≤4∧i= .int .i64 k∧n= .int .i64 N∧Hid (N=whN (l.take k))) (fun _ i=>4-(intOf i).toNat)
 case atStart=>exact⟨0,1,by omega,rfl,rfl,rfl⟩
 case round=>
  obtain⟨k,N,hk,rfl,rfl,HN⟩:=hrel
  by_cases hlt:k<4
  ·have hki:(k:Int)<4:=by omega
   have hkl:k<l.length:=by rw [HL.out];exact hlt
   have f0:=HI.out.2 k hkl
   obtain⟨z,hz⟩:∃z,z=intAt l k:=⟨_,rfl⟩
   have HX:Hid (whN (l.take (k+1))=if z= -1 then 2*N else N):=by have:=yhg hkl hz;rw [←HN.out]at this;exact this
   have hb:=yfw HL.out hlt
   rw [←HN.out]at hb
   have hz1: -1≤z:=hz▸HV.out k hlt
   rw [←hz]at f0
   have hN1:1≤N:=hb.1
   have hN2:N≤8:=hb.2
   clear hz hb hkl HN
   by_cases hz0:z<0
   ·have HE:Hid (z= -1):=by show z= -1;omega
    go_wp2
    go_round
    case rel=>exact⟨k+1,2*N,by omega,by go_num,by go_num,by show _=_;rw [HX.out,if_pos HE.out]⟩
    case measure=>simp [intOf];omega
   ·have HE:Hid (¬z= -1):=by show¬z= -1;omega
    go_wp2
    go_round
    case rel=>exact⟨k+1,N,by omega,by go_num,rfl,by show _=_;rw [HX.out,if_neg HE.out]⟩
    case measure=>simp [intOf];omega
  ·have e4:l.take k=l:=by rw [show k=4 by omega,←HL.out];exact List.take_length
   have HE:Hid (N=whN l):=by have:=HN.out;rw [e4]at this;exact this
   clear HN e4
   go_wp2
   go_ret
   exact⟨yau HE.out,Below.refl _ _⟩
theorem yo7 (x:Value) (l:List Int) (w:World) (hl:l.length≤4611686018427387904) (h:IsI w x l):
  Calls Tryz.prog 79 #[x] w fun e w'=>e= .returned (.int .i64 (if vok l=true then whN l else 0))∧Below w.heap.size w w':=by
 have H:=hidVWh (yiy x l w hl h)
 cases hv:vok l with
 |false=>
  rw [hv]at H
  clear h
  go_enter Tryz.func79,Tryz.ntmps79
  go_wp2_with fail
  refine H.out.mono ?_
  rintro e w1 ⟨rfl,hw⟩
  obtain rfl:=hw.symm
  go_wp2
  go_ret
  exact⟨rfl,Below.refl _ _⟩
 |true=>
  rw [hv]at H
  obtain⟨b,off,cap,rfl,hI⟩:=h.four (yge hv)
  exact yr4 b off cap l w (yge hv) (fun j hj=>(yso hv j hj).1) hI H.out
set_option maxRecDepth 100000 in
theorem yqp (a0 a1 a2 a3:Int) (w:World):
  Calls Tryz.prog 130 #[vec a0 a1 a2 a3] w fun e w'=>e= .returned (.int .i64 (whN [a0,a1,a2,a3]))∧Below w.heap.size w w':=by
 have j0:∀w:World,(Instr.index 137 (.agg #[.int .i64 a0,.int .i64 a1,.int .i64 a2,.int .i64 a3]) (.int .i64 0)).run Tryz.prog w= .ok (.int .i64 a0) w:=fun _=>by kernel_rfl
 have j1:∀w:World,(Instr.index 137 (.agg #[.int .i64 a0,.int .i64 a1,.int .i64 a2,.int .i64 a3]) (.int .i64 1)).run Tryz.prog w= .ok (.int .i64 a1) w:=fun _=>by kernel_rfl
 have j2:∀w:World,(Instr.index 137 (.agg #[.int .i64 a0,.int .i64 a1,.int .i64 a2,.int .i64 a3]) (.int .i64 2)).run Tryz.prog w= .ok (.int .i64 a2) w:=fun _=>by kernel_rfl
 have j3:∀w:World,(Instr.index 137 (.agg #[.int .i64 a0,.int .i64 a1,.int .i64 a2,.int .i64 a3]) (.int .i64 3)).run Tryz.prog w= .ok (.int .i64 a3) w:=fun _=>by kernel_rfl
 have HB0:Hid (Below w.heap.size w (w.alloc (yam a0 a1 a2 a3))):=(Below.refl _ w).alloc (Nat.le_refl _) _
 go_enter Tryz.func130,Tryz.ntmps130
 go_wp2
 generalize w.alloc (yam a0 a1 a2 a3)=W0 at HB0⊢
 go_loop [3,7] (fun n i=>∃(k:Nat) (N:Int),k≤4∧i= .int .i64 k∧n= .int .i64 N∧Hid (N=whN ([a0,a1,a2,a3].take k))) (fun _ i=>4-(intOf i).toNat)
 case atStart=>exact⟨0,1,by omega,rfl,rfl,rfl⟩
 case round=>
  obtain⟨k,N,hk,rfl,rfl,HN⟩:=hrel
  have hk4:k=0∨k=1∨k=2∨k=3∨k=4:=by omega
  clear hk
  rcases hk4 with rfl|rfl|rfl|rfl|rfl
  ·have HX:Hid (whN ([a0,a1,a2,a3].take (0+1))=if a0= -1 then 2*N else N):=by have:=yhg (l:= [a0,a1,a2,a3]) (k:=0) (by simp) (z:=a0) rfl;rw [←HN.out]at this;exact this
   have hb:=yfw (l:= [a0,a1,a2,a3]) (k:=0) rfl (by omega)
   rw [←HN.out]at hb
   have hN1:1≤N:=hb.1
   have hN2:N≤8:=hb.2
   clear hb HN
   by_cases e:a0= -1
   ·have HE:Hid (a0= -1):=e
    have d:(a0==(-1:Int))=true:=by simp [e]
    clear e
    go_wp2
    go_round
    case rel=>exact⟨1,2*N,by omega,rfl,by go_num,by show _=_;rw [HX.out,if_pos HE.out]⟩
    case measure=>simp [intOf]
   ·have HE:Hid (¬a0= -1):=e
    have d:(a0==(-1:Int))=false:=by simp [e]
    clear e
    go_wp2
    go_round
    case rel=>exact⟨1,N,by omega,rfl,rfl,by show _=_;rw [HX.out,if_neg HE.out]⟩
    case measure=>simp [intOf]
  ·have HX:Hid (whN ([a0,a1,a2,a3].take (1+1))=if a1= -1 then 2*N else N):=by have:=yhg (l:= [a0,a1,a2,a3]) (k:=1) (by simp) (z:=a1) rfl;rw [←HN.out]at this;exact this
   have hb:=yfw (l:= [a0,a1,a2,a3]) (k:=1) rfl (by omega)
   rw [←HN.out]at hb
   have hN1:1≤N:=hb.1
   have hN2:N≤8:=hb.2
   clear hb HN
   by_cases e:a1= -1
   ·have HE:Hid (a1= -1):=e
    have d:(a1==(-1:Int))=true:=by simp [e]
    clear e
    go_wp2
    go_round
    case rel=>exact⟨2,2*N,by omega,rfl,by go_num,by show _=_;rw [HX.out,if_pos HE.out]⟩
    case measure=>simp [intOf]
   ·have HE:Hid (¬a1= -1):=e
    have d:(a1==(-1:Int))=false:=by simp [e]
    clear e
    go_wp2
    go_round
    case rel=>exact⟨2,N,by omega,rfl,rfl,by show _=_;rw [HX.out,if_neg HE.out]⟩
    case measure=>simp [intOf]
  ·have HX:Hid (whN ([a0,a1,a2,a3].take (2+1))=if a2= -1 then 2*N else N):=by have:=yhg (l:= [a0,a1,a2,a3]) (k:=2) (by simp) (z:=a2) rfl;rw [←HN.out]at this;exact this
   have hb:=yfw (l:= [a0,a1,a2,a3]) (k:=2) rfl (by omega)
   rw [←HN.out]at hb
   have hN1:1≤N:=hb.1
   have hN2:N≤8:=hb.2
   clear hb HN
   by_cases e:a2= -1
   ·have HE:Hid (a2= -1):=e
    have d:(a2==(-1:Int))=true:=by simp [e]
    clear e
    go_wp2
    go_round
    case rel=>exact⟨3,2*N,by omega,rfl,by go_num,by show _=_;rw [HX.out,if_pos HE.out]⟩
    case measure=>simp [intOf]
   ·have HE:Hid (¬a2= -1):=e
    have d:(a2==(-1:Int))=false:=by simp [e]
    clear e
    go_wp2
    go_round
    case rel=>exact⟨3,N,by omega,rfl,rfl,by show _=_;rw [HX.out,if_neg HE.out]⟩
    case measure=>simp [intOf]
  ·have HX:Hid (whN ([a0,a1,a2,a3].take (3+1))=if a3= -1 then 2*N else N):=by have:=yhg (l:= [a0,a1,a2,a3]) (k:=3) (by simp) (z:=a3) rfl;rw [←HN.out]at this;exact this
   have hb:=yfw (l:= [a0,a1,a2,a3]) (k:=3) rfl (by omega)
   rw [←HN.out]at hb
   have hN1:1≤N:=hb.1
   have hN2:N≤8:=hb.2
   clear hb HN
   by_cases e:a3= -1
   ·have HE:Hid (a3= -1):=e
    have d:(a3==(-1:Int))=true:=by simp [e]
    clear e
    go_wp2
    go_round
    case rel=>exact⟨4,2*N,by omega,rfl,by go_num,by show _=_;rw [HX.out,if_pos HE.out]⟩
    case measure=>simp [intOf]
   ·have HE:Hid (¬a3= -1):=e
    have d:(a3==(-1:Int))=false:=by simp [e]
    clear e
    go_wp2
    go_round
    case rel=>exact⟨4,N,by omega,rfl,rfl,by show _=_;rw [HX.out,if_neg HE.out]⟩
    case measure=>simp [intOf]
  ·go_wp2
   go_ret
   exact⟨yau HN.out,HB0.out⟩
theorem yos (x:Value) (l:List Int) (w:World) (hl:l.length≤4611686018427387904) (h:IsI w x l):
  Calls Tryz.prog 80 #[x] w fun e w'=>e= .returned (.int .i64 (if vok l=true then whN l else 0))∧Below w.heap.size w w':=by
 have H:=yn1 x l w hl h
 cases hv:vok l with
 |false=>
  rw [hv,ypf hv]at H
  go_enter Tryz.func80,Tryz.ntmps80
  go_wp2_with fail
  refine H.mono ?_
  rintro e w1 ⟨rfl,hb1⟩
  go_wp2
  go_ret
  exact⟨rfl,hb1.alloc hb1.size _⟩
 |true=>
  rw [hv]at H
  obtain⟨a0,a1,a2,a3,rfl,_⟩:=yiw hv
  rw [show ygr [a0,a1,a2,a3]=vec a0 a1 a2 a3 by simp [ygr,hv,intAt]]at H
  have M:Hid (∀W,Calls Tryz.prog 130 #[vec a0 a1 a2 a3] W fun e w'=>e= .returned (.int .i64 (whN [a0,a1,a2,a3]))∧Below W.heap.size W w'):=fun W=>yqp a0 a1 a2 a3 W
  go_enter Tryz.func80,Tryz.ntmps80
  go_wp2_with fail
  refine H.mono ?_
  rintro e w1 ⟨rfl,hb1⟩
  go_wp2_with fail
  refine(M.out _).mono ?_
  rintro e w2 ⟨rfl,hb2⟩
  have hz:=hb1.size
  go_wp2
  go_ret
  exact⟨rfl,(hb1.alloc hb1.size _).trans (hb2.mono (by simp;omega))⟩
def nthV (cs:List Value) (j:Nat):Value:=cs.getD j (.int .i64 0)
theorem yn7:(Tryz.prog.info? 113).map (fun i=>(i.zero,i.size,i.bytes))=some (some (.agg #[.int .i64 0,.int .i64 0,.int .i64 0]),3,24):=by kernel_rfl
theorem yuk:(Tryz.prog.info? 115).map (fun i=>(i.zero,i.size,i.bytes))=some (some (.agg #[.int .i64 0,.int .i64 0,.int .i64 0,.int .i64 0,.int .i64 0,.int .i64 0,.int .i64 0,.slice none 0 0,.int .i64 0,.int .i64 0,.slice none 0 0,.slice none 0 0]),12,144):=by kernel_rfl
def pastL (q:Ps) (v7 v10 v11:Value):List Value:= [.int .i64 q.e.t,.int .i64 q.e.s,.int .i64 q.e.q,.int .i64 q.e.d,.int .i64 q.e.k,.int .i64 q.e.v,.int .i64 q.e.g,v7,.int .i64 q.b.q,.int .i64 q.b.d,v10,v11]
theorem IsD.cells {w:World} {x:Value} {c n:Nat} {f:Nat→Dat} (h:IsD w x (.row c n f)):∃cs,SrcC w x c n cs∧ ∀j,j<n*c→IsD w (nthV cs j) (f j):=by
 obtain⟨a,cap,rfl,h1,h2,h⟩:=IsD.parts (c:=c) (n:=n) h
 rcases h with rfl|⟨b,off,rfl,hb,hc⟩
 ·exact⟨[],⟨by simp,a,cap,rfl,.inl rfl⟩,fun j hj=>by omega⟩
 ·refine⟨(List.range (n*c)).map (fun j=>((w.cell? ⟨b,off+j,none⟩).getD (.int .i64 0))),⟨by simp,some ⟨b,off,none⟩,cap,rfl,.inr ⟨b,off,rfl,hb,fun j hj=> ?_⟩⟩,fun j hj=> ?_⟩
  ·obtain⟨u,hu,_⟩:=hc j hj
   simp [hj,hu]
  ·obtain⟨u,hu,hd⟩:=hc j hj
   have:nthV ((List.range (n*c)).map (fun j=>((w.cell? ⟨b,off+j,none⟩).getD (.int .i64 0)))) j=u:=by
    unfold nthV
    simp [hj,hu]
   rw [this]
   exact hd
theorem ytr {l:List Ps} {k j:Nat} (h:j<k):psAt (l.take k) j=psAt l j:=by
 unfold psAt
 rw [List.getD_eq_getElem?_getD,List.getD_eq_getElem?_getD,List.getElem?_take_of_lt h]
theorem yrg {w:World} {a:Option Addr} {cap k:Nat} {l:List Ps} (h:IsD w (.slice a l.length cap) (yay l)) (hk:k≤l.length):IsD w (sliced a 0 k cap 12) (yay (l.take k)):=by
 obtain⟨a',cap',he,h1,h2,h⟩:=IsD.parts (c:=12) (n:=l.length) h
 obtain⟨rfl,rfl⟩:a=a'∧cap=cap':=by simpa using he
 unfold sliced yay
 rw [List.length_take,Nat.min_eq_left hk]
 refine IsD.of_parts (by omega) (by omega) ?_
 by_cases hn:k=0
 ·exact .inl (by omega)
 ·refine .inr ?_
  obtain⟨b,off,rfl,hb,hc⟩:=h.resolve_left (by omega)
  rw [if_neg (by omega)]
  refine⟨b,off,by simp [Addr.add_lit],hb,fun j hj=> ?_⟩
  obtain⟨u,hu,hd⟩:=hc j (by omega)
  refine⟨u,hu,?_⟩
  have e:ya3 (l.take k) j=ya3 l j:=by
   show(psAt (l.take k) (j/12)).cell (j%12)=_
   rw [ytr (by omega)]
   rfl
  rw [e]
  exact hd
theorem ytg (a:Option Addr) (n cap k:Nat) (hk:k≤cap) (w:World):(Instr.sliceAt 95 (.slice a n cap) none (some (.int .i64 (k:Int))) none).run Tryz.prog w= .ok (sliced a 0 k cap 12) w:=by
 obtain⟨i0,hi,hz0,hz1,hz2⟩:=info_parts yuk
 have hu:Tryz.prog.underlying 95=some (.slice (Tryz.prog.elem 95)):=by kernel_rfl
 have he:Tryz.prog.elem 95=115:=by kernel_rfl
 rw [run_sliceAt_slice (h:=hu),run_slice_h (ht:=hu) (h0:=by omega) (h2:=by omega),he]
 simp [sizeOf,typeInfo,hi,hz1]
end Go.Proofs.YtmobiieoecjmdaaGreat

