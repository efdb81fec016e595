/- WNm, WGr, WCt, WIo, HiK, CoS -/
import Derived.Test.YtmobiieoecjmdaaGreatExactDifferG01
import Derived.Test.YtmobiieoecjmdaaGreatExactDifferG35
import Derived.Laws.AppendOwnNone
import Derived.Test.YtmobiieoecjmdaaGreatExactDifferG03
import Derived.Test.YtmobiieoecjmdaaGreatExactDifferG22
import Derived.Test.YtmobiieoecjmdaaGreatExactDifferLCtS
import Derived.Test.YtmobiieoecjmdaaGreatExactDifferLKSg
/- Whether a vector meets one of a row. -/
namespace Go.Proofs.YtmobiieoecjmdaaGreat
set_option maxHeartbeats 16000000
set_option maxRecDepth 100000
open Go.RowKit
theorem yj9 (l r:List Int):ydp [intAt l 0,intAt l 1,intAt l 2,intAt l 3] [intAt r 0,intAt r 1,intAt r 2,intAt r 3]=ydp l r:=rfl
theorem yry (a0 a1 a2 a3 b0 b1 b2 b3:Int) (c:Bool) (hc:ydp [a0,a1,a2,a3] [b0,b1,b2,b3]=c) (w:World):
  Calls Tryz.prog 140 #[vec a0 a1 a2 a3,vec b0 b1 b2 b3] w fun e w'=>e= .returned (.bool c)∧Below w.heap.size w w':=hc▸yrz a0 a1 a2 a3 b0 b1 b2 b3 w
def idxV (d:List Int) (l:List (List Int)) (n:Nat) (r:Ending):Prop:=(∃i:Nat,r= .returned (.int .i64 (i:Int))∧i<n∧ydp d (vAt l i)=true)∨(r= .returned (.int .i64 (-1))∧ ∀i,i<n→ydp d (vAt l i)=false)
theorem VcAt.four {w:World} {b off:Nat} {l:List (List Int)} (h:VcAt w b off l) {i:Nat} (hi:i<l.length):w.cell? ⟨b,off+i*4,none⟩=some (i64 (intAt (vAt l i) 0))∧w.cell? ⟨b,off+i*4+1,none⟩=some (i64 (intAt (vAt l i) 1))∧w.cell? ⟨b,off+i*4+2,none⟩=some (i64 (intAt (vAt l i) 2))∧w.cell? ⟨b,off+i*4+3,none⟩=some (i64 (intAt (vAt l i) 3)):=
 ⟨h.2 i 0 hi (by omega),h.2 i 1 hi (by omega),h.2 i 2 hi (by omega),h.2 i 3 hi (by omega)⟩
theorem idxV_any (b off cap n:Nat) (l:List (List Int)) (d0 d1 d2 d3:Int) (w:World) (hn:n≤l.length) (hl:l.length≤1048576) (h:VcAt w b off l):
  Calls Tryz.prog 180 #[.slice (some ⟨b,off,none⟩) n cap,.func (.func 140) #[vec d0 d1 d2 d3] #[]] w fun r w'=>idxV [d0,d1,d2,d3] l n r∧Below w.heap.size w w':=by
 have HV:Hid (VcAt w b off l):=h
 clear h
 go_enter Tryz.func180,Tryz.ntmps180
 go_wp2
 go_loopw [8] (fun i wr=>Hid (Below w.heap.size w wr)∧ ∃j:Nat,j≤n∧i= .int .i64 j∧Hid (∀i,i<j→ydp [d0,d1,d2,d3] (vAt l i)=false)) (fun i _=>n-(intOf i).toNat)
 case atStart=>exact⟨Below.refl _ _,0,Nat.zero_le _,rfl,fun j hj=>by omega⟩
 case round=>
  obtain⟨HB,j,hj,rfl,HA⟩:=hrel
  have hsz:w.heap.size≤wr.heap.size:=HB.out.size
  by_cases hlt:j<n
  ·have hd:decide ((j:Int)<(n:Int))=true:=by simpa using hlt
   obtain⟨f0,f1,f2,f3⟩:=(HV.out.below HB.out).four (show j<l.length by omega)
   cases hz:ydp [d0,d1,d2,d3] (vAt l j)
   ·have HZ:Hid (ydp [d0,d1,d2,d3] (vAt l j)=false):=hz
    clear hz
    go_wp2_with (go_at_call 140;refine(yry _ _ _ _ _ _ _ _ false ((yj9 [d0,d1,d2,d3] (vAt l j)).trans HZ.out) _).mono ?_;rintro r w2 ⟨rfl,hb2⟩)
    go_roundw
    case rel=>exact⟨HB.out.trans (hb2.mono hsz),j+1,by omega,by go_num,fun i hi=>by
     by_cases e:i=j
     ·subst e;exact HZ.out
     ·exact HA.out i (by omega)⟩
    case measure=>simp [intOf];omega
   ·have HZ:Hid (ydp [d0,d1,d2,d3] (vAt l j)=true):=hz
    clear hz
    go_wp2_with (go_at_call 140;refine(yry _ _ _ _ _ _ _ _ true ((yj9 [d0,d1,d2,d3] (vAt l j)).trans HZ.out) _).mono ?_;rintro r w2 ⟨rfl,hb2⟩)
    go_ret
    exact⟨.inl ⟨j,rfl,hlt,HZ.out⟩,HB.out.trans (hb2.mono hsz)⟩
  ·obtain rfl:n=j:=by omega
   go_wp2
   go_ret
   exact⟨.inr ⟨rfl,HA.out⟩,HB.out⟩
def anyM (d:List Int) (l:List (List Int)) (n:Nat):Bool:= !(allB n fun i=> !ydp d (vAt l i))
theorem anyM_no {d:List Int} {l:List (List Int)} {n:Nat}:anyM d l n=false↔ ∀i,i<n→ydp d (vAt l i)=false:=by
 unfold anyM
 simp only [Bool.not_eq_false',allB_iff,Bool.not_eq_true']
theorem anyM_yes {d:List Int} {l:List (List Int)} {n i:Nat} (hi:i<n) (h:ydp d (vAt l i)=true):anyM d l n=true:=by
 cases hh:anyM d l n
 ·have:=anyM_no.1 hh i hi
  rw [h]at this
  cases this
 ·rfl
theorem yo9 (b off cap n:Nat) (l:List (List Int)) (d0 d1 d2 d3:Int) (c:Bool) (hc:anyM [d0,d1,d2,d3] l n=c) (w:World) (hn:n≤l.length) (hl:l.length≤1048576) (h:VcAt w b off l):
  Calls Tryz.prog 139 #[.slice (some ⟨b,off,none⟩) n cap,.func (.func 140) #[vec d0 d1 d2 d3] #[]] w fun r w'=>r= .returned (.bool c)∧Below w.heap.size w w':=by
 have HV:Hid (VcAt w b off l):=h
 have HC:Hid (anyM [d0,d1,d2,d3] l n=c):=hc
 clear h hc
 go_enter Tryz.func139,Tryz.ntmps139
 go_wp2_with fail
 refine(idxV_any b off cap n l d0 d1 d2 d3 w hn hl HV.out).mono ?_
 rintro r w1 ⟨hR,hb1⟩
 have HB1:Hid (Below w.heap.size w w1):=hb1
 clear hb1
 rcases hR with ⟨i,rfl,hi,hg⟩|⟨rfl,hno⟩
 ·have HY:Hid (anyM [d0,d1,d2,d3] l n=true):=anyM_yes hi hg
  have hi0:(0:Int)≤(i:Int):=by omega
  clear hi hg
  go_wp2
  go_ret
  exact⟨ya0 (HY.out.symm.trans HC.out),HB1.out⟩
 ·have HN:Hid (anyM [d0,d1,d2,d3] l n=false):=anyM_no.2 hno
  clear hno
  go_wp2
  go_ret
  exact⟨ya0 (HN.out.symm.trans HC.out),HB1.out⟩
theorem run_cutV (a:Option Addr) (n cap k:Nat) (hk:k≤cap) (w:World):(Instr.sliceAt 131 (.slice a n cap) none (some (.int .i64 (k:Int))) none).run Tryz.prog w= .ok (.slice a k cap) w:=by
 obtain⟨i0,hi,hz0,hz1,hz2⟩:=info_parts yo1
 have hu:Tryz.prog.underlying 131=some (.slice (Tryz.prog.elem 131)):=by kernel_rfl
 have he:Tryz.prog.elem 131=137:=by kernel_rfl
 rw [run_sliceAt_slice (h:=hu),run_slice_h (ht:=hu) (h0:=by omega) (h2:=by omega),he]
 have e1:a.map (fun x=>x.add 0)=a:=by
  cases a with
  |none=>rfl
  |some x=>simp [Addr.add]
 simp [sizeOf,typeInfo,hi,hz1,sliced,e1]
theorem none_any (x:Value) (l:List (List Int)) (w:World) (hl:l.length≤1048576) (h:(x= .slice none 0 0∧l= [])∨ ∃g cap,x= .slice (some ⟨g,0,none⟩) l.length cap∧l.length≤cap∧cap≤maxLen∧VcAt w g 0 l):
  Calls Tryz.prog 92 #[x] w fun e w'=>e= .returned (.bool (noMB l))∧Below w.heap.size w w':=by
 obtain⟨a,cap,rfl,hlc,hcm,HV0⟩:∃a cap,x= .slice a l.length cap∧l.length≤cap∧cap≤maxLen∧(l= []∨ ∃g,a=some ⟨g,0,none⟩∧VcAt w g 0 l):=by
  rcases h with ⟨rfl,rfl⟩|⟨g,cap,rfl,h1,h2,h3⟩
  ·exact⟨none,0,rfl,Nat.le_refl _,by unfold maxLen;omega,.inl rfl⟩
  ·exact⟨_,cap,rfl,h1,h2,.inr ⟨g,rfl,h3⟩⟩
 have HV:Hid (l= []∨ ∃g,a=some ⟨g,0,none⟩∧VcAt w g 0 l):=HV0
 clear h HV0
 go_enter Tryz.func92,Tryz.ntmps92
 go_wp2
 go_loopw [7] (fun i wr=>Hid (Below w.heap.size w wr)∧ ∃j:Nat,j≤l.length∧i= .int .i64 j∧Hid (∀i,i<j→ ∀q,q<i→ydp (vAt l i) (vAt l q)=false)) (fun i _=>l.length-(intOf i).toNat)
 case atStart=>exact⟨Below.refl _ _,0,Nat.zero_le _,rfl,fun j hj=>by omega⟩
 case round=>
  obtain⟨HB,j,hj,rfl,HA⟩:=hrel
  have hsz:w.heap.size≤wr.heap.size:=HB.out.size
  by_cases hlt:j<l.length
  case pos=>
   have hd:decide ((j:Int)<(l.length:Int))=true:=by simpa using hlt
   obtain⟨g,rfl,hva⟩:=HV.out.resolve_left (fun e=>by rw [e]at hlt;simp at hlt)
   obtain⟨f0,f1,f2,f3⟩:=(hva.below HB.out).four hlt
   rw [Nat.zero_add]at f0 f1 f2 f3
   obtain⟨x0,hx0⟩:∃z,intAt (vAt l j) 0=z:=⟨_,rfl⟩
   obtain⟨x1,hx1⟩:∃z,intAt (vAt l j) 1=z:=⟨_,rfl⟩
   obtain⟨x2,hx2⟩:∃z,intAt (vAt l j) 2=z:=⟨_,rfl⟩
   obtain⟨x3,hx3⟩:∃z,intAt (vAt l j) 3=z:=⟨_,rfl⟩
   have HX:Hid (∀r,ydp [x0,x1,x2,x3] r=ydp (vAt l j) r):=fun r=>by
    rw [←hx0,←hx1,←hx2,←hx3]
    rfl
   rw [hx0]at f0
   rw [hx1]at f1
   rw [hx2]at f2
   rw [hx3]at f3
   clear hx0 hx1 hx2 hx3
   obtain⟨V1,hV1⟩:∃V1,wr.alloc (ycf x0 x1 x2 x3)=V1:=⟨_,rfl⟩
   have hbV:=beA hV1
   have HBV:Hid (Below wr.heap.size wr V1):=hbV
   have HK1:=hdq (bkA hV1)
   have HVV:Hid (VcAt V1 g 0 l):=(hva.below HB.out).below hbV
   clear hbV hva
   go_upto_region 4 with fail
   try rw [hV1]
   clear hV1 f0 f1 f2 f3
   have hne:=neB V1
   have hsl:∀w,(Instr.sliceAt 131 (.slice (some ⟨g,0,none⟩) l.length cap) none (some (.int .i64 (j:Int))) none).run Tryz.prog w= .ok (.slice (some ⟨g,0,none⟩) j cap) w:=run_cutV _ _ cap j (by omega)
   have b0:∀p:Beyond V1,p.w.cell? ⟨wr.heap.size,0,none⟩=some (i64 x0):=fun p=>p.cell HK1.out.lt (HK1.out.cell (i:=0) rfl)
   have b1:∀p:Beyond V1,p.w.cell? ⟨wr.heap.size,1,none⟩=some (i64 x1):=fun p=>p.cell HK1.out.lt (HK1.out.cell (i:=1) rfl)
   have b2:∀p:Beyond V1,p.w.cell? ⟨wr.heap.size,2,none⟩=some (i64 x2):=fun p=>p.cell HK1.out.lt (HK1.out.cell (i:=2) rfl)
   have b3:∀p:Beyond V1,p.w.cell? ⟨wr.heap.size,3,none⟩=some (i64 x3):=fun p=>p.cell HK1.out.lt (HK1.out.cell (i:=3) rfl)
   cases hm:anyM [x0,x1,x2,x3] l j
   case true=>
    have HM:Hid (anyM [x0,x1,x2,x3] l j=true):=hm
    have HN:Hid (noMB l=false):=ya8 (fun h9=>by
     have h8:=noMB_iff.1 h9 j hlt
     have h7:anyM [x0,x1,x2,x3] l j=false:=anyM_no.2 (fun i hi=>by rw [HX.out];exact h8 i hi)
     rw [hm]at h7
     cases h7)
    clear hm
    go_wp2_with fail
    refine wrb ?_
    repeat(go_big_quiet_step (first|(go_at_call 139;exact Beyond.of (yo9 g 0 cap j l x0 x1 x2 x3 true HM.out _ (by omega) hl (HVV.out.below (Beyond.h _))))))
    refine wpQuiet_nil ?_
    rintro w3 ⟨⟨_,hb3⟩,rfl⟩
    have HB3:Hid (Below V1.heap.size V1 w3):=hb3
    clear hb3
    clear b0 b1 b2 b3 hsl
    go_wp2
    go_ret
    exact⟨ya0 HN.out.symm,HB.out.trans ((trm HBV.out HB3.out).mono hsz)⟩
   case false=>
    have HM:Hid (anyM [x0,x1,x2,x3] l j=false):=hm
    clear hm
    go_wp2_with fail
    refine wrb ?_
    repeat(go_big_quiet_step (first|(go_at_call 139;exact Beyond.of (yo9 g 0 cap j l x0 x1 x2 x3 false HM.out _ (by omega) hl (HVV.out.below (Beyond.h _))))))
    refine wpQuiet_nil ?_
    rintro w3 ⟨⟨_,hb3⟩,rfl⟩
    have HB3:Hid (Below V1.heap.size V1 w3):=hb3
    clear hb3
    clear b0 b1 b2 b3 hsl
    go_wp2
    go_roundw
    case rel=>exact⟨HB.out.trans ((trm HBV.out HB3.out).mono hsz),j+1,by omega,by go_num,fun i hi=>by
     by_cases e:i=j
     ·subst e;exact fun q hq=>by rw [←HX.out];exact anyM_no.1 HM.out q hq
     ·exact HA.out i (by omega)⟩
    case measure=>simp [intOf];omega
  case neg=>
   have hje:j=l.length:=by omega
   have HY:Hid (noMB l=true):=noMB_iff.2 (fun i hi=>HA.out i (by omega))
   subst hje
   go_wp2
   go_ret
   exact⟨ya0 HY.out.symm,HB.out⟩
end Go.Proofs.YtmobiieoecjmdaaGreat

/- slices.Grow of the nil slice, at vectors. -/
namespace Go.Proofs.YtmobiieoecjmdaaGreat
open Go.RowKit
theorem hidWGr {p:Prop} (h:p):Hid p:=h
abbrev zeroA:Value:= .agg #[.int .i64 0,.int .i64 0,.int .i64 0,.int .i64 0]
theorem yhr (ty:TypeId) (n:Nat) (w:World) (h0:0<n) (hn:n≤4194304):
  (Builtin.append_ #[131,3] ty #[.slice none 0 0,.int .i64 (n:Int)]).run Tryz.prog w=
   .ok (.slice (some ⟨w.heap.size,0,none⟩) n (grownCap w n 0 137)) (w.drew.alloc (.cells (Builtin.zeroCells zeroA.cells n++Builtin.zeroCells zeroA.cells (grownCap w n 0 137-n)) 137)):=by
 obtain⟨i0,hi,hz0,hz1,hz2⟩:=info_parts yo1
 have hn0:n≠0:=by omega
 have h63:¬(9223372036854775807<(n:Int)):=by omega
 have hw:IntKind.i64.wrap (n:Int)=(n:Int):=by rw [IntKind.wrap_i64];omega
 have hneg:¬((n:Int)<0):=by omega
 have h48a:¬(281474976710656<(n:Int)*(i0.bytes:Int)):=by rw [hz2];omega
 have h48b:¬(281474976710656<Builtin.nextslicecap n 0*i0.bytes):=by rw [nextslicecap_zero h0,hz2];omega
 simp [Builtin.append_,run_underlying Tryz.underlying131,run_underlying Tryz.underlying3,sizeOf,typeInfo,zeroValue,hi,hz0,asInt,asIntOf,hw,hneg,h48a,hz1,hn0,h63,h48b,Question.forced,run_firstCells_none,newRow,grownCap]
 intro h
 omega
theorem yfy {ops:Array Oper} {rest:List Oper} {o:Oper} {a:Act} {w:World} {Q:Exit→Act→World→Prop} (hg:o.guard=none) (s x:Operand)
  (ho:o.op= .call {callee:= .builtin .append,args:= #[s,x],argTypes:= #[131,3]}) (n:Nat) (hs:a.eval s= .slice none 0 0) (hx:a.eval x= .int .i64 (n:Int)) (h0:0<n) (hn:n≤4194304)
  (hK:wpList Tryz.prog ops Q rest (a.put o.dst (.slice (some ⟨w.heap.size,0,none⟩) n (grownCap w n 0 137))) (w.drew.alloc (.cells (Builtin.zeroCells zeroA.cells n++Builtin.zeroCells zeroA.cells (grownCap w n 0 137-n)) 137))):
  wpList Tryz.prog ops Q (o::rest) a w:=by
 refine wpList_plain hg fun K hK'=> ?_
 unfold Oper.wp
 simp [execOp,ho,resolve,invoke,builtin,hs,hx,yhr _ n w h0 hn,Result.andThen]
 exact hK' _ _ hK
theorem yq2 (w:World) (n:Nat) (hn:n≤4194304):(w.drew.alloc (.cells (Builtin.zeroCells zeroA.cells n++Builtin.zeroCells zeroA.cells (grownCap w n 0 137-n)) 137)).ownsRow w.heap.size 137 4 (.slice (some ⟨w.heap.size,0,none⟩) 0 (grownCap w n 0 137)) 0 []:=by
 have hge:=grownCap_ge w n 0 137
 have hcm:grownCap w n 0 137≤maxLen:=grownCap_le_maxLen w n 0 137 (by unfold maxLen;omega)
 refine⟨rfl,.inr ⟨w.heap.size,_,_,rfl,Nat.le_refl _,(MapKept.heap_alloc w.drew _).1,Nat.zero_le _,hcm,?_,by simp⟩⟩
 rw [Array.size_append,size_zeroCells,size_zeroCells,←Nat.add_mul,show n+(grownCap w n 0 137-n)=grownCap w n 0 137 from by omega]
 rfl
set_option maxHeartbeats 1000000 in
theorem ysr (n:Nat) (w:World) (hn:n≤4194304):
  Calls Tryz.prog 141 #[.slice none 0 0,.int .i64 (n:Int)] w fun e w'=>∃v,e= .returned v∧w'.ownsRow w.heap.size 137 4 v 0 []∧Below w.heap.size w w':=by
 by_cases h0:n=0
 ·subst h0
  go_enter Tryz.func141,Tryz.ntmps141
  go_wp2
  go_ret
  exact⟨.slice none 0 0,rfl,World.ownsRow_nil w _ 137 4,Below.refl _ _⟩
 ·have hp:0<n:=by omega
  have hp':(0:Int)<(n:Int):=by omega
  have hge:=grownCap_ge w n 0 137
  have hcm:grownCap w n 0 137≤maxLen:=grownCap_le_maxLen w n 0 137 (by unfold maxLen;omega)
  have HR:=hidWGr (yq2 w n hn)
  go_enter Tryz.func141,Tryz.ntmps141
  go_wp2_with (at_builtin;refine yfy rfl _ _ rfl n rfl rfl hp hn ?_)
  go_ret
  exact⟨.slice (some ⟨w.heap.size,0,none⟩) 0 (grownCap w n 0 137),rfl,HR.out,(Below.refl _ w).drew.alloc (Nat.le_refl _) _⟩
theorem yhg {p:Prop} (h:p):Hid p:=h
structure CPart where
 a:Option Addr
 c:Nat
 l:List (List Int)
def partAt (ps:List CPart) (i:Nat):CPart:=ps.getD i ⟨none,0,[]⟩
def PartsAt (w:World) (B:Nat) (ps:List CPart):Prop:=B<w.heap.size∧ ∀i,i<ps.length→w.cell? ⟨B,i,none⟩=some (.slice (partAt ps i).a (partAt ps i).l.length (partAt ps i).c)∧(((partAt ps i).a=none∧(partAt ps i).c=0∧(partAt ps i).l= [])∨ ∃b off,(partAt ps i).a=some ⟨b,off,none⟩∧((partAt ps i).l= []∨VcAt w b off (partAt ps i).l))
theorem PartsAt.below {w w':World} {B:Nat} {ps:List CPart} (h:PartsAt w B ps) (hb:Below w.heap.size w w'):PartsAt w' B ps:=
 ⟨Nat.lt_of_lt_of_le h.1 hb.size,fun i hi=>⟨(hb.cell (p:=⟨B,i,none⟩) h.1).trans (h.2 i hi).1,(h.2 i hi).2.imp id (fun⟨b,off,e1,e2⟩=>⟨b,off,e1,e2.imp id (fun e=>e.below hb)⟩)⟩⟩
def yd4 (ps:List CPart):Nat→List (List Int)
 |0=> []
 |k+1=>yd4 ps k++(partAt ps k).l
theorem yom (ps:List CPart) (k n:Nat) (h:k≤n):(yd4 ps k).length≤(yd4 ps n).length:=by
 induction n with
 |zero=>rw [show k=0 by omega];exact Nat.le_refl _
 |succ n ih=>
  by_cases e:k=n+1
  ·rw [e];exact Nat.le_refl _
  ·have:=ih (by omega)
   simp only [yd4,List.length_append]
   omega
set_option maxRecDepth 100000 in
set_option maxHeartbeats 2000000 in
theorem concatA (B:Nat) (ps:List CPart) (w:World) (hps:ps.length≤1000) (hn:(yd4 ps ps.length).length≤4194304) (hP:PartsAt w B ps):
  Calls Tryz.prog 93 #[.slice (some ⟨B,0,none⟩) ps.length ps.length] w fun e w'=>∃x,e= .returned x∧RowA w.heap.size w' x (yd4 ps ps.length)∧Below w.heap.size w w':=by
 obtain⟨i0,hi,hz0,hz1,hz2⟩:=info_parts yo1
 have HP:Hid (PartsAt w B ps):=hP
 clear hP
 have HN:=yhg hn
 clear hn
 go_enter Tryz.func93,Tryz.ntmps93
 go_wp2
 go_loop [3,11] (fun z i=>∃k:Nat,k≤ps.length∧i= .int .i64 k∧z= .int .i64 ((yd4 ps k).length:Int)) (fun _ i=>ps.length-(intOf i).toNat)
 case atStart=>exact⟨0,Nat.zero_le _,rfl,rfl⟩
 case round=>
  obtain⟨k,hk,rfl,rfl⟩:=hrel
  by_cases hlt:k<ps.length
  ·have hc:=(HP.out.2 k hlt).1
   have hle:=yom ps (k+1) ps.length (by omega)
   have hsum:(yd4 ps (k+1)).length=(yd4 ps k).length+(partAt ps k).l.length:=by simp [yd4]
   generalize hA:(yd4 ps k).length=A at hsum⊢
   generalize hL:(partAt ps k).l.length=L at hsum hc
   have hA1:(A:Int)+(L:Int)≤4194304:=by have:=HN.out;omega
   have hA2:(0:Int)≤(A:Int)+(L:Int):=by omega
   have HS:=yhg hsum
   clear hA hL hsum hle
   go_wp2
   go_round
   case rel=>exact⟨k+1,by omega,by go_num,by rw [HS.out];go_num⟩
   case measure=>simp [intOf];omega
  ·obtain rfl:k=ps.length:=by omega
   generalize hT:(yd4 ps ps.length).length=T
   have HT:=yhg hT
   have hT1:T≤4194304:=by have:=HN.out;omega
   clear hT
   go_wp2_with (go_at_call 141;refine(ysr T _ hT1).mono ?_;rintro e w1 ⟨v0,rfl,hr1,hb1⟩)
   have HR1:=yhg hr1
   have HB1:=yhg hb1
   clear hr1 hb1
   go_loopw [6,27] (fun v i wr=>∃k:Nat,k≤ps.length∧i= .int .i64 k∧Hid (wr.ownsRow w.heap.size 137 4 v (yd4 ps k).length (ybk (yd4 ps k)))∧Hid (Below w.heap.size w wr)) (fun _ i _=>ps.length-(intOf i).toNat)
   case atStart=>exact⟨0,Nat.zero_le _,rfl,HR1.out,HB1.out⟩
   case round=>
    clear HR1 HB1
    obtain⟨k,hk,rfl,HR,HB⟩:=hrel
    by_cases hlt:k<ps.length
    ·have hPk:=HP.out.below HB.out
     have hc:=(hPk.2 k hlt).1
     have HE:=yhg ((hPk.2 k hlt).2)
     clear hPk
     have hle:=yom ps (k+1) ps.length (by omega)
     have hsum:(yd4 ps (k+1)).length=(yd4 ps k).length+(partAt ps k).l.length:=by simp [yd4]
     have hsz:w.heap.size≤wr.heap.size:=HB.out.size
     have hb1:(yd4 ps k).length+(partAt ps k).l.length≤4194304:=by have:=HN.out;omega
     have HS:=yhg hsum
     clear hle hsum
     rcases HE.out with ⟨ha,hcz,hl0⟩|⟨b,off,ha,hE⟩
     ·have HL:=yhg hl0
      rw [ha,hcz,hl0]at hc
      simp only [List.length_nil]at hc
      clear ha hcz hl0 HE hb1
      go_wp2_with (at_builtin;refine wpList_append_own_none rfl _ _ 131 rfl w.heap.size 137 i0 4 Tryz.underlying131 hi _ (yd4 ps k).length (ybk (yd4 ps k)) rfl HR.out rfl ?_)
      go_roundw
      case rel=>exact⟨k+1,by omega,by go_num,by rw [show yd4 ps (k+1)=yd4 ps k from by show yd4 ps k++(partAt ps k).l=_;rw [HL.out,List.append_nil]];exact HR.out,HB.out⟩
      case measure=>simp [intOf];omega
     ·rw [ha]at hc
      have HC:Hid (∀j u,(ybk (partAt ps k).l)[j]? =some u→wr.cell? ((⟨b,off,none⟩:Addr).add j)=some u):=by
       rcases hE with h|h
       ·exact fun j u hu=>by rw [h]at hu;cases hu
       ·exact h.cells
      clear ha hE HE
      go_wp2_with (at_builtin;refine wpList_append_own _ rfl _ _ 131 rfl w.heap.size 137 i0 _ 4 32 Tryz.underlying131 hi hz0 hz1 hz2 rfl (by decide) _ (yd4 ps k).length (ybk (yd4 ps k)) rfl HR.out ⟨b,off,none⟩ (partAt ps k).l.length (partAt ps k).c (ybk (partAt ps k).l) rfl (ygz _) HC.out (yj1 _) (by unfold maxLen;omega) (by omega) hsz ?_;intro v' w2 hown hgrow hnil)
      go_roundw
      case rel=>exact⟨k+1,by omega,by go_num,by rw [HS.out];show World.ownsRow _ _ _ _ _ _ (ybk (yd4 ps k++(partAt ps k).l));rw [yh0];exact hown,HB.out.grown hgrow hsz (fun r e=>(World.ownsRow.lt HR.out r e).1)⟩
      case measure=>simp [intOf];omega
    ·obtain rfl:k=ps.length:=by omega
     go_wp2
     go_ret
     exact⟨_,rfl,HR.out,HB.out⟩
theorem yc5 {p:Prop} (h:p):Hid p:=h
theorem vecs_len {v:Wd} (h:ydb v.k):∀j,j<(dsOf v.k).length→(vAt (dsOf v.k) j).length≤1048576:=fun j hj=>by
 rw [ybu]at hj
 rw [yim hj]
 have h9:=(h.2 j hj).2
 unfold Kn.wt at h9
 rw [yam]at h9
 omega
theorem yrj {B1 B2:Nat} {w V:World} {y1 y2:Value} {l1 l2:List (List Int)} {g:Nat} (h1:RowA B1 w y1 l1) (h2:RowA B2 w y2 l2) (hb:Below w.heap.size w V) (hB:Bk V g 131 #[y1,y2]):∃ps:List CPart,ps.length=2∧yd4 ps 2=l1++l2∧PartsAt V g ps:=by
 have e:∀{B:Nat} {y:Value} {l:List (List Int)},RowA B w y l→ ∃a c,y= .slice a l.length c∧((a=none∧c=0∧l= [])∨ ∃b off,a=some ⟨b,off,none⟩∧(l= []∨VcAt V b off l)):=fun h=>by
  rcases RowA.at h with ⟨rfl,rfl⟩|⟨g,cap,rfl,_,_,h3⟩
  ·exact⟨none,0,rfl,.inl ⟨rfl,rfl,rfl⟩⟩
  ·exact⟨_,cap,rfl,.inr ⟨g,0,rfl,.inr (h3.below hb)⟩⟩
 obtain⟨a1,c1,rfl,k1⟩:=e h1
 obtain⟨a2,c2,rfl,k2⟩:=e h2
 refine⟨[⟨a1,c1,l1⟩,⟨a2,c2,l2⟩],rfl,rfl,hB.lt,fun i hi=> ?_⟩
 have h4:i=0∨i=1:=by simp at hi;omega
 rcases h4 with rfl|rfl
 ·exact⟨hB.cell (i:=0) rfl,k1⟩
 ·exact⟨hB.cell (i:=1) rfl,k2⟩
theorem RowA.below {B:Nat} {w w':World} {x:Value} {l:List (List Int)} (h:RowA B w x l) (hb:Below w.heap.size w w'):RowA B w' x l:=owB h hb
set_option maxRecDepth 100000 in
set_option maxHeartbeats 16000000 in
theorem iWorldOk (x:Value) (v:Wd) (w:World) (hs:ycb v) (h:IsW w x v):
  Calls Tryz.prog 45 #[x] w fun e w'=>e= .returned (.bool v.ok)∧Below w.heap.size w w':=by
 have HSW:Hid (ycb v):=hs
 have h0:=h
 have HSM:Hid (SmallM v.m):=hs.1
 have HSK:Hid (ydb v.k):=hs.2.1
 have HSV:=yc5 hs.2.2
 have hkl:v.k.length≤1048576:=hs.2.1.1
 have hcl:v.c.length≤1048576:=by have h9:=hs.2.2;rw [ydx]at h9;omega
 obtain⟨ai,ci,ah,ch,ae,ce,ak,ck,ac,cc,rfl,hm,hk,hc⟩:=h.form
 have HWW:=yc5 h
 have HMW:=yc5 hm
 have HKS:=yc5 hk
 have HCS:=yc5 hc
 have HCD:Hid (IsD w (.slice ac v.c.length cc) (yef v.c)):=by
  obtain⟨_,_,_,_,uc,e9,_,_,h9⟩:=h0
  have e8:=congrArg Array.toList (Value.agg.inj e9)
  simp at e8
  rw [←e8.2.2.2.2]at h9
  exact h9
 clear h h0 hm hk hc
 obtain⟨W0,hW0⟩:∃W0,w.alloc (.cells #[.int .i64 v.m.n,.int .i64 v.m.s,.slice ai v.m.i.length ci,.slice ah v.m.h.length ch,.slice ae v.m.e.length ce,.int .i64 v.m.z,.slice ak v.k.length ck,.slice ac v.c.length cc] 39)=W0:=⟨_,rfl⟩
 have HB0:=hdq (beA hW0)
 have HP0:=hdq (bkA hW0)
 obtain⟨q0,q1,q2,q3,q4,q5,q6,q7⟩:=c8_8 HP0.out
 by_cases c4:v.k.length≤16
 case neg=>
  have c4':(16:Int)<(v.k.length:Int):=by omega
  have HN:Hid (v.ok=false):=ya8 (fun h=>c4 (wok_iff.1 h).1.2.1)
  clear c4
  go_enter Tryz.func45,Tryz.ntmps45
  go_wp2
  go_ret
  exact⟨ya0 HN.out.symm,HB0.out⟩
 have c4':¬(16:Int)<(v.k.length:Int):=by omega
 by_cases c5:v.c.length≤100
 case neg=>
  have c5':(100:Int)<(v.c.length:Int):=by omega
  have HN:Hid (v.ok=false):=ya8 (fun h=>c5 (wok_iff.1 h).1.2.2)
  clear c5
  go_enter Tryz.func45,Tryz.ntmps45
  go_wp2
  go_ret
  exact⟨ya0 HN.out.symm,HB0.out⟩
 have c5':¬(100:Int)<(v.c.length:Int):=by omega
 have HLN:Hid (v.k.length≤16∧v.c.length≤100):=⟨c4,c5⟩
 go_enter Tryz.func45,Tryz.ntmps45
 go_wp2_with fail
 clear q0 q1 q2 q3 q4 q5 q6 q7 c4' c5' hW0
 refine(runs_any _ v _ HSW.out (HWW.out.under HB0.out)).mono ?_
 rintro e w1 ⟨y1,rfl,hb1,hr1⟩
 have HB1:=yc5 (trm HB0.out hb1)
 have HP1:=yc5 (HP0.out.below hb1)
 have HD1:=yc5 (hr1.isD hb1)
 clear hb1 hr1 HB0 HP0
 go_wp2_with fail
 refine(in_any y1 (dsOf v.k) w1 (by rw [ybu];omega) (vecs_len HSK.out) HD1.out).mono ?_
 rintro e w2 ⟨hb2,hin⟩
 have HB2:=yc5 (trm HB1.out hb2)
 have HP2:=yc5 (HP1.out.below hb2)
 clear hb2 HB1 HP1 HD1
 obtain⟨y2,b2,rfl,HI2⟩:∃y2 b2,e= .returned (.tuple #[y2,.bool b2])∧Hid ((b2=true∧yhd (dsOf v.k)=true∧ ∃B,RowA B w2 y2 (dsOf v.k))∨(b2=false∧yhd (dsOf v.k)=false)):=by
  rcases hin with ⟨h1,y,rfl,h2⟩|⟨h1,rfl⟩
  ·exact⟨y,true,rfl,.inl ⟨rfl,h1,_,h2⟩⟩
  ·exact⟨_,false,rfl,.inr ⟨rfl,h1⟩⟩
 clear hin
 have q7:=HP2.out.cell (i:=7) rfl
 go_wp2_with fail
 clear q7
 refine(in_any (.slice ac v.c.length cc) v.c w2 (by omega) (fun j hj=>Nat.le_trans (yni hj) HSV.out) (HCD.out.under HB2.out)).mono ?_
 rintro e w3 ⟨hb3,hin⟩
 have HB3:=yc5 (trm HB2.out hb3)
 have HP3:=yc5 (HP2.out.below hb3)
 have HI23:Hid ((b2=true∧yhd (dsOf v.k)=true∧ ∃B,RowA B w3 y2 (dsOf v.k))∨(b2=false∧yhd (dsOf v.k)=false)):=HI2.out.imp (fun⟨h1,h2,B,h3⟩=>⟨h1,h2,B,h3.below hb3⟩) id
 clear hb3 HB2 HP2 HI2
 obtain⟨y3,b3,rfl,HI3⟩:∃y3 b3,e= .returned (.tuple #[y3,.bool b3])∧Hid ((b3=true∧yhd v.c=true∧ ∃B,RowA B w3 y3 v.c)∨(b3=false∧yhd v.c=false)):=by
  rcases hin with ⟨h1,y,rfl,h2⟩|⟨h1,rfl⟩
  ·exact⟨y,true,rfl,.inl ⟨rfl,h1,_,h2⟩⟩
  ·exact⟨_,false,rfl,.inr ⟨rfl,h1⟩⟩
 clear hin
 rcases HI23.out with ⟨rfl,hk1,B1,hk2⟩|⟨rfl,hk1⟩
 case inr=>
  have HN:Hid (v.ok=false):=ya8 (fun h=>by
   have h1:=(wok_iff.1 h).2.1
   have h2:yhd (dsOf v.k)=true:=allVk_iff.2 (fun i hi=>by
    rw [ybu]at hi
    rw [yim hi]
    exact(yk3 (runB_iff.1 (h1 i hi)).1).2)
   rw [hk1]at h2
   cases h2)
  clear hk1
  go_wp2
  go_ret
  exact⟨ya0 HN.out.symm,HB3.out⟩
 rcases HI3.out with ⟨rfl,hc1,B2,hc2⟩|⟨rfl,hc1⟩
 case inr=>
  have HN:Hid (v.ok=false):=ya8 (fun h=>by
   have h2:yhd v.c=true:=allVk_iff.2 (wok_iff.1 h).2.2.1
   rw [hc1]at h2
   cases h2)
  clear hk1 hk2 hc1
  go_wp2
  go_ret
  exact⟨ya0 HN.out.symm,HB3.out⟩
 have HAV:=yc5 (allVk_iff.1 hc1)
 obtain⟨V4,hV4⟩:∃V4,w3.alloc (.cells #[y2,y3] 131)=V4:=⟨_,rfl⟩
 have hb4:=beA hV4
 have hK4:=bkA hV4
 obtain⟨ps,hps,hcat,hPA⟩:=yrj hk2 hc2 hb4 hK4
 have HPA:=yc5 hPA
 have HCAT:Hid (yd4 ps ps.length=allV v):=by rw [hps];exact hcat
 have HPS:Hid (ps.length=2):=hps
 have HCON:Hid (Calls Tryz.prog 93 #[.slice (some ⟨w3.heap.size,0,none⟩) 2 2] V4 fun e w'=>∃x,e= .returned x∧RowA V4.heap.size w' x (allV v)∧Below V4.heap.size V4 w'):=by
  have h9:=concatA w3.heap.size ps V4 (by rw [hps];omega) (by rw [HCAT.out];unfold allV;rw [List.length_append,ybu];omega) hPA
  rw [HCAT.out,hps]at h9
  exact h9
 have HB4:=yc5 (trm HB3.out hb4)
 have HP4:=yc5 (HP3.out.below hb4)
 obtain⟨a2,c2,rfl⟩:=yal hk2
 obtain⟨a3,c3,rfl⟩:=yal hc2
 clear hk1 hk2 hc1 hc2 hb4 hK4 hps hcat hPA HPA HI23 HI3
 go_wp2_with fail
 clear hV4
 refine HCON.out.mono ?_
 rintro e w5 ⟨y5,rfl,hr5,hb5⟩
 have HB5:=yc5 (trm HB4.out hb5)
 have HP5:=yc5 (HP4.out.below hb5)
 have HR5:=yc5 hr5
 clear hr5 hb5 HB4 HP4 HCON
 go_wp2_with fail
 refine(none_any y5 (allV v) w5 (by unfold allV;rw [List.length_append,ybu];omega) HR5.out.at).mono ?_
 rintro e w6 ⟨rfl,hb6⟩
 have HB6:=yc5 (trm HB5.out hb6)
 have HP6:=yc5 (HP5.out.below hb6)
 clear hb6 HB5 HP5
 cases hnm:noMB (allV v)
 case false=>
  have HN:Hid (v.ok=false):=ya8 (fun h=>by have h2:=(wok_iff.1 h).2.2.2;rw [hnm]at h2;cases h2)
  clear hnm
  go_wp2
  go_ret
  exact⟨ya0 HN.out.symm,HB6.out⟩
 have HNM:=yc5 hnm
 clear hnm
 obtain⟨q0,q1,q2,q3,q4,q5,q6,q7⟩:=c8_8 HP6.out
 go_wp2_with fail
 clear q0 q1 q2 q3 q4 q5 q6 q7
 refine(iRunsOk _ v _ HSW.out (HWW.out.under HB6.out)).mono ?_
 rintro e w7 ⟨rfl,hb7⟩
 have HB7:=yc5 (trm HB6.out hb7)
 clear hb7
 have HEQ:Hid (yi5 v=v.ok):=by
  cases hr:yi5 v
  ·exact(ya8 (fun h=>by have h9:yi5 v=true:=runsB_iff.2 ⟨(wok_iff.1 h).1.1,(wok_iff.1 h).2.1⟩;rw [hr]at h9;cases h9)).symm
  ·exact(wok_iff.2 ⟨⟨(runsB_iff.1 hr).1,HLN.out.1,HLN.out.2⟩,(runsB_iff.1 hr).2,HAV.out,HNM.out⟩).symm
 go_wp2
 go_ret
 exact⟨ya0 HEQ.out,HB7.out⟩
structure Hi where
 ev:List Ev
 em:List Em
 k:Int
 f:Bool
theorem ypb {w:World} {B B':Nat} {T T':TypeId} {c c' n n':Nat} {v v':Value} {cs cs':List Value} (h:w.ownsRow B T c v n cs) (h':w.ownsRow B' T' c' v' n' cs') (hT:T≠T') {k:Nat} (e:v.ownBlock=some k) (e':v'.ownBlock=some k):False:=by
 obtain⟨_,⟨rfl,_⟩|⟨g,cap,cur,rfl,_,hc,_⟩⟩:=h
 ·cases e
 ·obtain⟨_,⟨rfl,_⟩|⟨g',cap',cur',rfl,_,hc',_⟩⟩:=h'
  ·cases e'
  ·cases e
   cases e'
   have h2:=hc.symm.trans hc'
   cases h2
   exact hT rfl
def HiF (F:Nat→Prop) (w:World) (y:Value) (h:Hi):Prop:=
 ∃(A C:Nat→Prop) (ve vx:Value),y= .agg #[ve,vx,.int .i64 h.k,.bool h.f]∧RowF A w ve h.ev.length 7 (yaa h.ev)∧RowF C w vx h.em.length 3 (yan h.em)∧(∀k,A k→F k∧ ¬C k)∧ ∀k,C k→F k
theorem hi_of {w:World} {B:Nat} {ve vx:Value} {ev:List Ev} {em:List Em} {k:Int} {f:Bool} (h1:w.ownsRow B 110 7 ve ev.length (yaa ev)) (h2:w.ownsRow B 113 3 vx em.length (yan em)):
  HiF (fun j=>B≤j∧j<w.heap.size) w (.agg #[ve,vx,.int .i64 k,.bool f]) ⟨ev,em,k,f⟩:=
 ⟨_,_,ve,vx,rfl,yjx (yb4 _) h1,yjx (ydt _) h2,fun j e=>⟨World.ownsRow.lt h1 j e,fun e'=>ypb h1 h2 (by decide) e e'⟩,fun j e=>World.ownsRow.lt h2 j e⟩
noncomputable def comH (k : Kn) : Hi := if k.ok then ⟨k.s ++ ydl (comL k), ydh k (comL k), k.q, k.f⟩ else ⟨[], [], 0, false⟩
end Go.Proofs.YtmobiieoecjmdaaGreat

