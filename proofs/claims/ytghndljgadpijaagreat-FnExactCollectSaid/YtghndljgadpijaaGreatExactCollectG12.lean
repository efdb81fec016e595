/- Pair, Or, CmpI -/
import Derived.Test.YtghndljgadpijaaGreatExactCollectG11
import Derived.Test.YtghndljgadpijaaGreatExactCollectG01
import Derived.Deep.RegionHeld3
import Derived.Deep.DeepMust
/- The program's iterator over the neighbours of a list. -/
namespace Go.Proofs.YtghndljgadpijaaGreat
set_option maxHeartbeats 2000000
set_option maxRecDepth 100000
open Go.RowKit Go.Shelf
attribute [local go_sem] Oper.semAt_some
abbrev zg8 (l:List Ev) (x:Fin (l.length-1)):Array Value:= #[(evAt l x.val).val,(evAt l (x.val+1)).val]
theorem grown_drew (w:World) (row:Option Nat):w.grownBy w.drew row:=⟨rfl,rfl,rfl,Nat.le_refl _,fun _ _ _=>rfl⟩
theorem pair1_in (n:Nat) (hn:1≤n) (lp Bs b off cap:Nat) (l:List Ev) (hl0:1≤l.length) (hreach:l.length≤1048576) (J Jx:List (Fin (l.length-1))→World→Prop) (B0:Nat) (hJ:AbidesFrom B0 J)
    (hY:∀pre x W,J pre W→pre.length<l.length-1→YieldAt Fence.wide (n-1) Tryz.prog lp (zg8 l x) W fun e W'=>
      (e= .returned (.bool true)∧J (pre++ [x]) W'∧Same2 Bs b W W')∨(e= .returned (.bool false)∧Jx (pre++ [x]) W'))
    (W:World) (hBs:W.cell? ⟨Bs,0,none⟩=some (.slice (some ⟨b,off,none⟩) l.length cap)) (hc:∀i,i<l.length→Ev.In W b (off+i*7) (evAt l i)) (h0:J [] W):
    CallsIn Fence.wide n Tryz.prog 293 #[.func (.yield lp) #[] #[],.pointer (some ⟨Bs,0,none⟩)] W fun e W'=>(∃v,e= .returned v)∧
      ((∃ys,ys=List.finRange (l.length-1)∧J ys W')∨(∃pre,(∃k,k≤l.length-1∧pre=(List.finRange (l.length-1)).take k)∧Jx pre W')):=by
  refine callsIn_of_wp Tryz.func293 rfl trivial ?_ rfl
  simp only [Tryz.ntmps293,List.size_toArray,List.length_cons,List.length_nil,Nat.reduceAdd,Nat.reduceSub,Array.replicate_succ,Array.replicate_zero,List.push_toArray,List.append_toArray,List.nil_append,List.cons_append]
  gi_wp2
  gi_loopw [3] (fun i wr=>∃k:Nat,k≤l.length-1∧i= .int .i64 ((k:Int)+1)∧J ((List.finRange (l.length-1)).take k) wr∧Same2 Bs b W wr)
    (fun i _=>l.length-(intOf i).toNat)
  case atStart=>exact⟨0,Nat.zero_le _,rfl,by simpa using h0,Same2.refl _ _ _⟩
  case round=>
    obtain⟨k,hk,rfl,hJs,hnx⟩:=hrel
    have hBs':wr.cell? ⟨Bs,0,none⟩=some (.slice (some ⟨b,off,none⟩) l.length cap):=(hnx.cell1 0).trans hBs
    by_cases hlt:k<l.length-1
    · have hy0:=hY _ ⟨k,hlt⟩ wr.drew (hJ _ _ _ none hJs (grown_drew _ _) (fun r e=>by cases e)) (by rw [zbo _ _ hk];exact hlt)
      rw [←za1 _ _ hlt]at hy0
      obtain⟨fn,tmps,assign,body,hy,hR⟩:=hy0
      simp only [zg8]at hy
      obtain⟨f0,f1,f2,f3,f4,f5,f6⟩:=hnx.ev (hc k (by omega))
      obtain⟨e0,e1,e2,e3,e4,e5,e6⟩:=hnx.ev (hc (k+1) (by omega))
      have hki:(k:Int)+1<(l.length:Int):=by omega
      have ek:((k:Int)+1).toNat=k+1:=by omega
      clear hc hY
      gi_wp2
      have hmo:Tryz.prog.follows .mixedOrders=true:=by kernel_rfl
      have hw1:IntKind.i64.wrap (k:Int)=(k:Int):=by rw [IntKind.wrap_i64];omega
      have hw2:IntKind.i64.wrap ((k:Int)+1)=(k:Int)+1:=by rw [IntKind.wrap_i64];omega
      have hkl:(k:Int)<(l.length:Int):=by omega
      have hk0:(0:Int)≤(k:Int):=by omega
      have hk1:(0:Int)≤(k:Int)+1:=by omega
      have hR':RoundIn Fence.wide (n-1) Tryz.prog lp fn tmps assign body wr.drew fun e W'=>∃bb:Bool,e=Ending.returned (Value.bool bb)∧Hid ((bb=true∧J (List.take (k+1) (List.finRange (l.length-1))) W'∧Same2 Bs b wr.drew W')∨(bb=false∧Jx (List.take (k+1) (List.finRange (l.length-1))) W')):=
        hR.mono fun e W' h=>h.elim (fun h=>⟨true,h.1,.inl ⟨rfl,h.2⟩⟩) (fun h=>⟨false,h.1,.inr ⟨rfl,h.2⟩⟩)
      clear hR
      gi_region_with_o (refine hR'.mono ?_;rintro e W3 ⟨bb,rfl,H3⟩)
      all_goals
        cases bb
        · obtain hJx3:=H3.out.resolve_left (fun h=>by cases h.1)
          gi_wp2
          refine bodyPost_ret (results_none rfl _ _ _) rfl ?_
          exact⟨⟨_,rfl⟩,.inr ⟨_,⟨k+1,by omega,rfl⟩,hJx3.2⟩⟩
        · obtain hJ3:=H3.out.resolve_right (fun h=>by cases h.1)
          gi_wp2
          go_roundw
          case rel=>exact⟨k+1,by omega,by go_num,hJ3.2.1,hnx.trans (Same2.trans (⟨rfl,rfl⟩:Same2 Bs b wr wr.drew) hJ3.2.2)⟩
          case measure=>simp [intOf];omega
    · obtain rfl:k=l.length-1:=by omega
      have hki:((l.length-1:Nat):Int)+1=(l.length:Int):=by omega
      gi_wp2
      go_end0
      exact⟨⟨_,rfl⟩,.inl ⟨_,rfl,by rw [List.take_of_length_le (by simp)]at hJs;exact hJs⟩⟩
theorem zny (n:Nat) (lp Bs cap:Nat) (a:Option Addr) (J:List (Fin (0-1))→World→Prop) (W:World) (hBs:W.cell? ⟨Bs,0,none⟩=some (.slice a 0 cap)) (h0:J [] W):
    CallsIn Fence.wide n Tryz.prog 293 #[.func (.yield lp) #[] #[],.pointer (some ⟨Bs,0,none⟩)] W fun e W'=>(∃v,e= .returned v)∧J [] W':=by
  refine callsIn_of_wp Tryz.func293 rfl trivial ?_ rfl
  simp only [Tryz.ntmps293,List.size_toArray,List.length_cons,List.length_nil,Nat.reduceAdd,Nat.reduceSub,Array.replicate_succ,Array.replicate_zero,List.push_toArray,List.append_toArray,List.nil_append,List.cons_append]
  gi_wp2
  gi_loopw [3] (fun i wr=>i= .int .i64 1∧J [] wr∧wr.cell? ⟨Bs,0,none⟩=some (.slice a 0 cap)) (fun _ _=>0)
  case atStart=>exact⟨rfl,h0,hBs⟩
  case round=>
    obtain⟨rfl,hJs,hBs'⟩:=hrel
    gi_wp2
    go_end0
    exact⟨⟨_,rfl⟩,hJs⟩
theorem pair_any (a:Option Addr) (len cap:Nat) (w:World):
    Calls Tryz.prog 255 #[.slice a len cap] w fun e w'=>e= .returned (.func (.func 293) #[] #[.pointer (some ⟨w.heap.size,0,none⟩)])∧w'=w.alloc (.cells #[.slice a len cap] 34):=by
  go_enter Tryz.func255,Tryz.ntmps255
  go_wp2
  go_ret
  exact⟨rfl,rfl⟩
theorem zm2 (n:Nat) (hn:1≤n) (c b:Nat) (a:Option Addr) (cap:Nat) (l:List Ev) (hreach:l.length≤1048576) (w:World) (hcs:c<w.heap.size)
    (hc:w.cell? ⟨c,0,none⟩=some (.slice a l.length cap)) (hI:l= []∨ ∃off,a=some ⟨b,off,none⟩∧EvsAt w b off l):
    SeqStopsK Fence.wide n Tryz.prog 293 #[.pointer (some ⟨c,0,none⟩)] (zg8 l) (Same2 c b) (fun ys=>ys=List.finRange (l.length-1)) (fun pre=>∃k,k≤l.length-1∧pre=(List.finRange (l.length-1)).take k) (l.length-1) w:=fun lp J Jx W hW hJ _ hY h0=>by
  have hc':=(hW.cell (p:=⟨c,0,none⟩) hcs).trans hc
  by_cases hl:l= []
  · subst hl
    exact(zny n lp c cap a J W hc' h0).mono fun e W' ⟨he,hj⟩=>⟨he,.inl ⟨_,rfl,hj⟩⟩
  · obtain⟨off,rfl,hb,hev⟩:=hI.resolve_left hl
    exact pair1_in n hn lp c b off cap l (by cases l with|nil=>exact(hl rfl).elim|cons x r=>simp) hreach J Jx _ hJ hY W hc' (fun i hi=>(hev i hi).below hW hb) h0
end Go.Proofs.YtghndljgadpijaaGreat

/- cmp.Or over a row of ints. -/
namespace Go.Proofs.YtghndljgadpijaaGreat
open Go.RowKit
theorem hidOr {p:Prop} (h:p):Hid p:=h
def orL:List Int→Int
  | []=>0
  |x::r=>if x≠0 then x else orL r
theorem orL_at (zs:List Int) (k:Nat) (hk:k<zs.length) (h0:∀i,i<k→zs[i]?.getD 0=0) (hx:zs[k]?.getD 0≠0):orL zs=zs[k]?.getD 0:=by
  induction zs generalizing k with
  |nil=>simp at hk
  |cons x r ih=>
    cases k with
    |zero=>simp at hx;simp [orL,hx]
    |succ k=>
      have hx0:x=0:=by simpa using h0 0 (by omega)
      simp only [orL,hx0]
      simpa using ih k (by simpa using hk) (fun i hi=>by simpa using h0 (i+1) (by omega)) (by simpa using hx)
theorem orL_none (zs:List Int) (h0:∀i,i<zs.length→zs[i]?.getD 0=0):orL zs=0:=by
  induction zs with
  |nil=>rfl
  |cons x r ih=>
    have hx0:x=0:=by simpa using h0 0 (by simp)
    simp only [orL,hx0]
    simpa using ih (fun i hi=>by simpa using h0 (i+1) (by simpa using hi))
set_option maxHeartbeats 400000 in
theorem or_any (b cap:Nat) (zs:List Int) (w:World) (hl:zs.length≤maxLen) (hc:∀i,i<zs.length→w.cell? ⟨b,i,none⟩=some (.int .i64 (zs[i]?.getD 0))):
    Calls Tryz.prog 189 #[.slice (some ⟨b,0,none⟩) zs.length cap] w fun e w'=>e= .returned (.int .i64 (orL zs))∧w'=w:=by
  unfold maxLen at hl
  go_enter Tryz.func189,Tryz.ntmps189
  go_wp2
  go_loop [8] (fun i=>∃k:Nat,k≤zs.length∧i= .int .i64 k∧ ∀i,i<k→zs[i]?.getD 0=0) (fun i=>zs.length-(intOf i).toNat)
  case atStart=>exact⟨0,Nat.zero_le _,rfl,fun i h=>by omega⟩
  case round=>
    obtain⟨k,hk,rfl,h0⟩:=hrel
    have H0:=hidOr h0
    clear h0
    by_cases hlt:k<zs.length
    · have hck:=hc k hlt
      have HC:=hidOr hc
      clear hc
      generalize hx:zs[k]?.getD 0=x at hck
      have HX:Hid (zs[k]?.getD 0=x):=hx
      clear hx
      by_cases hz:x=0
      · subst hz
        go_wp2
        go_round
        case rel=>exact⟨k+1,by omega,by go_num,fun i hi=>by
          by_cases e:i=k
          · subst e;exact HX.out
          · exact H0.out i (by omega)⟩
        case measure=>simp [intOf];omega
      · have hne:(x !=0)=true:=by simpa using hz
        go_wp2
        go_ret
        exact⟨ywz (by rw [orL_at zs k hlt H0.out (by rw [HX.out];exact hz),HX.out]),rfl⟩
    · go_wp2
      go_ret
      exact⟨ywz (by rw [orL_none zs (fun i hi=>H0.out i (by omega))]),rfl⟩
theorem zgh {p:Prop} (h:p):Hid p:=h
theorem zcw (a b:Int):num a b=0↔a=b:=by unfold num;split<;>(try split)<;>omega
theorem zo3 (t s q g t' s' q' g':Int):orL [num t t',num s s',num q q',num g g']=cmpI t s q g t' s' q' g':=by
  unfold cmpI
  by_cases h1:t=t'
  · by_cases h2:s=s'
    · by_cases h3:q=q'
      · by_cases h4:g=g'<;>simp [orL,zcw,h1,h2,h3,h4]
        · exact((zcw _ _).2 rfl).symm
      · simp [orL,zcw,h1,h2,h3]
    · simp [orL,zcw,h1,h2]
  · simp [orL,zcw,h1]
theorem zhx (t s q d k v g:Int) (b:Bool) (h:okB t s q d k v g=b) (w:World):
    Calls Tryz.prog 188 #[.agg #[.int .i64 t,.int .i64 s,.int .i64 q,.int .i64 d,.int .i64 k,.int .i64 v,.int .i64 g]] w fun e w'=>e= .returned (.bool b)∧Below w.heap.size w w':=by
  subst h;exact zje t s q d k v g w
set_option maxHeartbeats 2000000 in
theorem iCmp_any (t s q d k v g t' s' q' d' k' v' g':Int) (w:World):
    Calls Tryz.prog 124 #[.agg #[.int .i64 t,.int .i64 s,.int .i64 q,.int .i64 d,.int .i64 k,.int .i64 v,.int .i64 g],.agg #[.int .i64 t',.int .i64 s',.int .i64 q',.int .i64 d',.int .i64 k',.int .i64 v',.int .i64 g']] w fun e w'=>
      e= .returned (.int .i64 (ecmp t s q d k v g t' s' q' d' k' v' g'))∧Below w.heap.size w w':=by
  cases h1:okB t s q d k v g
  · have H1:=zgh h1
    clear h1
    go_enter Tryz.func124,Tryz.ntmps124
    go_wp2_with fail
    refine(zhx t s q d k v g false H1.out _).mono ?_
    rintro e w1 ⟨rfl,hb1⟩
    go_wp2_with fail
    go_ret
    exact⟨ywz (by simp [ecmp,H1.out]),(((Below.refl _ _).alloc (Nat.le_refl _) _).alloc (by simp) _).trans (hb1.mono (by simp;omega))⟩
  · have H1:=zgh h1
    clear h1
    cases h2:okB t' s' q' d' k' v' g'
    · have H2:=zgh h2
      clear h2
      go_enter Tryz.func124,Tryz.ntmps124
      go_wp2_with fail
      refine(zhx t s q d k v g true H1.out _).mono ?_
      rintro e w1 ⟨rfl,hb1⟩
      obtain⟨hc,hf⟩:=zdb hb1
      go_wp2_with fail
      refine(zhx t' s' q' d' k' v' g' false H2.out _).mono ?_
      rintro e w2 ⟨rfl,hb2⟩
      go_wp2_with fail
      go_ret
      exact⟨ywz (by simp [ecmp,H1.out,H2.out]),((((Below.refl _ _).alloc (Nat.le_refl _) _).alloc (by simp) _).trans (hb1.mono (by simp;omega))).trans (hb2.mono (by have:=hb1.size;simp at this;omega))⟩
    · have H2:=zgh h2
      clear h2
      go_enter Tryz.func124,Tryz.ntmps124
      go_wp2_with fail
      refine(zhx t s q d k v g true H1.out _).mono ?_
      rintro e w1 ⟨rfl,hb1⟩
      obtain⟨hc,hf⟩:=zdb hb1
      go_wp2_with fail
      refine(zhx t' s' q' d' k' v' g' true H2.out _).mono ?_
      rintro e w2 ⟨rfl,hb2⟩
      have hz1:w.heap.size+1<w1.heap.size:=by have:=hb1.size;simp at this;omega
      have hz2:w.heap.size+1<w2.heap.size:=by have:=hb2.size;omega
      obtain⟨hc2,hf2⟩:=zdb hb2
      have f0:w2.cell? ⟨w.heap.size,0,none⟩=some (.int .i64 t):=by rw [hc2 _ _ (by omega),hc _ _ (by simp;omega)];simp
      have f1:w2.cell? ⟨w.heap.size,1,none⟩=some (.int .i64 s):=by rw [hc2 _ _ (by omega),hc _ _ (by simp;omega)];simp
      have f2:w2.cell? ⟨w.heap.size,2,none⟩=some (.int .i64 q):=by rw [hc2 _ _ (by omega),hc _ _ (by simp;omega)];simp
      have f6:w2.cell? ⟨w.heap.size,6,none⟩=some (.int .i64 g):=by rw [hc2 _ _ (by omega),hc _ _ (by simp;omega)];simp
      have e0:w2.cell? ⟨w.heap.size+1,0,none⟩=some (.int .i64 t'):=by rw [hc2 _ _ (by omega),hc _ _ (by simp)];simp
      have e1:w2.cell? ⟨w.heap.size+1,1,none⟩=some (.int .i64 s'):=by rw [hc2 _ _ (by omega),hc _ _ (by simp)];simp
      have e2:w2.cell? ⟨w.heap.size+1,2,none⟩=some (.int .i64 q'):=by rw [hc2 _ _ (by omega),hc _ _ (by simp)];simp
      have e6:w2.cell? ⟨w.heap.size+1,6,none⟩=some (.int .i64 g'):=by rw [hc2 _ _ (by omega),hc _ _ (by simp)];simp
      have hB:Below w.heap.size w w2:=((((Below.refl _ _).alloc (Nat.le_refl _) _).alloc (by simp) _).trans (hb1.mono (by simp;omega))).trans (hb2.mono (by omega))
      clear hc hf hc2 hf2 hb1 hb2 hz1
      go_wp2_with fail
      go_region_held3 (fun W=>W.cell? ⟨w.heap.size,0,none⟩=some (.int .i64 t)∧W.cell? ⟨w.heap.size,1,none⟩=some (.int .i64 s)∧W.cell? ⟨w.heap.size,2,none⟩=some (.int .i64 q)∧W.cell? ⟨w.heap.size,6,none⟩=some (.int .i64 g)∧W.cell? ⟨w.heap.size+1,0,none⟩=some (.int .i64 t')∧W.cell? ⟨w.heap.size+1,1,none⟩=some (.int .i64 s')∧W.cell? ⟨w.heap.size+1,2,none⟩=some (.int .i64 q')∧W.cell? ⟨w.heap.size+1,6,none⟩=some (.int .i64 g')) (go_keep)
        (first
          |(go_at_call 190;refine(zf0 _ _ _).mono ?_;rintro e w' ⟨rfl,rfl⟩)
          |(go_at_call 189;refine(or_any _ _ [num t t',num s s',num q q',num g g'] _ ?_ ?_).mono ?_;(simp [maxLen]);(intro i hi;have h4:i=0∨i=1∨i=2∨i=3:=(by simp at hi;omega);rcases h4 with rfl|rfl|rfl|rfl<;>simp);rintro e w' ⟨rfl,rfl⟩))
      go_wp2
      go_ret
      exact⟨ywz (by rw [zo3];simp [ecmp,H1.out,H2.out]),hB.drew.alloc (by simp;omega) _⟩
end Go.Proofs.YtghndljgadpijaaGreat

