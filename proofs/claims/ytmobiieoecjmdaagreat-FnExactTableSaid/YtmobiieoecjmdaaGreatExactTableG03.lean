/- SSt, TRow, TPs, TPt, TPsA, TPsB, TPtA, TPp, KMl, KKr -/
import Derived.Test.YtmobiieoecjmdaaGreatExactTableG02
import Derived.Deep.RegionHeld3
/- States: what they hold, how they come in, are held against each other, marked, and found again. -/
namespace Go.Proofs.YtmobiieoecjmdaaGreat
open Go.RowKit
structure St where
 r:List Int
 q:Int
 d:Int
def IsS (w:World) (x:Value) (s:St):Prop:=∃vr,x= .agg #[vr,.int .i64 s.q,.int .i64 s.d]∧IsI w vr s.r
theorem IsS.below {w w':World} {x:Value} {s:St} (h:IsS w x s) (hb:Below w.heap.size w w'):IsS w' x s:=by
 obtain⟨vr,rfl,h⟩:=h
 exact⟨vr,rfl,h.below hb⟩
def StF (F:Nat→Prop) (w:World) (x:Value) (s:St):Prop:=∃vr,x= .agg #[vr,.int .i64 s.q,.int .i64 s.d]∧RowF F w vr s.r.length 1 (intCells s.r)
abbrev put3 (w:World) (R:Nat) (v0 v1 v2:Value):World:=((w.setCell ⟨R,0,none⟩ v0).setCell ⟨R,1,none⟩ v1).setCell ⟨R,2,none⟩ v2
theorem Bk.put3 {w:World} {R:Nat} {T:TypeId} {a0 a1 a2:Value} (h:Bk w R T #[a0,a1,a2]) (v0 v1 v2:Value):Bk (put3 w R v0 v1 v2) R T #[v0,v1,v2]:=
 ((h.put 0 v0).put 1 v1).put 2 v2
theorem put3_turns (w:World) (R:Nat) (v0 v1 v2:Value):Turns (fun b=>b=R) w (put3 w R v0 v1 v2):=
 ((put1_turns w R 0 v0).trans (put1_turns _ R 1 v1)).trans (put1_turns _ R 2 v2)
set_option maxHeartbeats 2000000 in
theorem eqState_same (x y:Value) (s:St) (w:World) (hs:s.r.length≤1048576) (hx:IsS w x s) (hy:IsS w y s):
  Calls Tryz.prog 175 #[x,y] w fun e w'=>e= .returned (.bool true)∧Below w.heap.size w w':=by
 obtain⟨vr,rfl,h1⟩:=hx
 obtain⟨ur,rfl,k1⟩:=hy
 obtain⟨l,q,d⟩:=s
 have HI:Hid (IsI w vr l∧IsI w ur l):=⟨h1,k1⟩
 have HS:Hid (l.length≤4611686018427387904):=(by have:l.length≤1048576:=hs;omega:l.length≤4611686018427387904)
 clear h1 k1 hs
 obtain⟨W0,hW0⟩:∃W0,(w.alloc (.cells #[vr,.int .i64 q,.int .i64 d] 94)).alloc (.cells #[ur,.int .i64 q,.int .i64 d] 94)=W0:=⟨_,rfl⟩
 have HB0:Hid (Below w.heap.size w W0):=by rw [←hW0];exact((Below.refl _ w).alloc (Nat.le_refl _) _).alloc (by simp) _
 have HP0:Hid (Bk W0 w.heap.size 94 #[vr,.int .i64 q,.int .i64 d]):=by rw [←hW0];exact(Bk.new w _ _).alloc _
 have HQ0:Hid (Bk W0 (w.heap.size+1) 94 #[ur,.int .i64 q,.int .i64 d]):=by rw [←hW0];exact Bk.newAt (by simp) _ _
 have p0:=HP0.out.cell (i:=0) rfl
 have q0:=HQ0.out.cell (i:=0) rfl
 go_enter Tryz.func175,Tryz.ntmps175
 go_wp2_with fail
 clear p0 q0 hW0
 refine(eqI_same _ _ l _ HS.out (HI.out.1.below HB0.out) (HI.out.2.below HB0.out)).mono ?_
 rintro e w1 ⟨rfl,hb⟩
 have HB1:Hid (Below w.heap.size w w1):=HB0.out.trans (hb.mono HB0.out.size)
 have p1:=(HP0.out.below hb).cell (i:=1) rfl
 have q1:=(HQ0.out.below hb).cell (i:=1) rfl
 have p2:=(HP0.out.below hb).cell (i:=2) rfl
 have q2:=(HQ0.out.below hb).cell (i:=2) rfl
 clear hb HB0 HP0 HQ0
 go_wp2
 go_ret
 exact⟨rfl,HB1.out⟩
set_option maxHeartbeats 2000000 in
theorem toState_any (x:Value) (s:St) (w:World) (hs:s.r.length≤1048576) (h:IsS w x s):
  Calls Tryz.prog 152 #[x] w fun e w'=>∃y,e= .returned y∧Below w.heap.size w w'∧StF (fun k=>w.heap.size≤k∧k<w'.heap.size) w' y s:=by
 obtain⟨vr,rfl,h1⟩:=h
 obtain⟨i,n,z⟩:=s
 have HI:Hid (IsI w vr i):=h1
 have HS:Hid (i.length≤1048576):=hs
 clear h1 hs
 obtain⟨W0,hW0⟩:∃W0,((w.alloc (.cells #[vr,.int .i64 n,.int .i64 z] 141)).alloc (.cells #[.slice none 0 0,.int .i64 0,.int .i64 0] 94)).alloc (.cells #[.slice none 0 0,.int .i64 0,.int .i64 0] 94)=W0:=⟨_,rfl⟩
 have HB0:Hid (Below w.heap.size w W0):=by rw [←hW0];exact(((Below.refl _ w).alloc (Nat.le_refl _) _).alloc (by simp) _).alloc (by simp;omega) _
 have HP0:Hid (Bk W0 w.heap.size 141 #[vr,.int .i64 n,.int .i64 z]):=by rw [←hW0];exact((Bk.new w _ _).alloc _).alloc _
 have HR0:Hid (Bk W0 (w.heap.size+1) 94 #[.slice none 0 0,.int .i64 0,.int .i64 0]):=by rw [←hW0];exact(Bk.newAt (by simp) _ _).alloc _
 have HQ0:Hid (Bk W0 (w.heap.size+1+1) 94 #[.slice none 0 0,.int .i64 0,.int .i64 0]):=by rw [←hW0];exact Bk.newAt (by simp) _ _
 have HW0:Hid (((w.alloc (.cells #[vr,.int .i64 n,.int .i64 z] 141)).alloc (.cells #[.slice none 0 0,.int .i64 0,.int .i64 0] 94)).alloc (.cells #[.slice none 0 0,.int .i64 0,.int .i64 0] 94)=W0):=hW0
 clear hW0
 go_enter Tryz.func152,Tryz.ntmps152
 go_wp2_with fail
 rw [HW0.out]
 clear HW0
 refine(toI_any _ i _ HS.out (HI.out.below HB0.out)).mono ?_
 rintro e w1 ⟨rfl,hb,hr⟩
 have HI1:Hid (RowI w1 W0.heap.size i):=hr
 have hz1:W0.heap.size<w1.heap.size:=hr.1
 have hq:=HQ0.out.lt
 have HX1:Hid (Below w.heap.size w w1):=HB0.out.trans (hb.mono (by omega))
 have HPa:=HP0.out.below hb
 have HRa:=HR0.out.below hb
 have HQa:=HQ0.out.below hb
 clear hb hr HB0 HP0 HR0 HQ0
 obtain⟨X1,hX1⟩:∃X1,w1.setCell ⟨w.heap.size+1+1,0,none⟩ (sl W0.heap.size i.length)=X1:=⟨_,rfl⟩
 obtain⟨X2,hX2⟩:∃X2,X1.setCell ⟨w.heap.size+1+1,1,none⟩ (.int .i64 n)=X2:=⟨_,rfl⟩
 obtain⟨X3,hX3⟩:∃X3,X2.setCell ⟨w.heap.size+1+1,2,none⟩ (.int .i64 z)=X3:=⟨_,rfl⟩
 have a0:=HQa.cell (i:=0) rfl
 have af:=HQa.free
 have HP1:Bk X1 w.heap.size 141 #[vr,.int .i64 n,.int .i64 z]:=hX1▸HPa.other 0 _ (by omega)
 have HR1:Bk X1 (w.heap.size+1) 94 #[.slice none 0 0,.int .i64 0,.int .i64 0]:=hX1▸HRa.other 0 _ (by omega)
 have HQ1:Bk X1 (w.heap.size+1+1) 94 #[sl W0.heap.size i.length,.int .i64 0,.int .i64 0]:=hX1▸HQa.put 0 _
 have p1:=HP1.cell (i:=1) rfl
 have b1:=HQ1.cell (i:=1) rfl
 have bf:=HQ1.free
 have HP2:Bk X2 w.heap.size 141 #[vr,.int .i64 n,.int .i64 z]:=hX2▸HP1.other 1 _ (by omega)
 have HR2:Bk X2 (w.heap.size+1) 94 #[.slice none 0 0,.int .i64 0,.int .i64 0]:=hX2▸HR1.other 1 _ (by omega)
 have HQ2:Bk X2 (w.heap.size+1+1) 94 #[sl W0.heap.size i.length,.int .i64 n,.int .i64 0]:=hX2▸HQ1.put 1 _
 have p2:=HP2.cell (i:=2) rfl
 have c2:=HQ2.cell (i:=2) rfl
 have cf:=HQ2.free
 have HR3:Bk X3 (w.heap.size+1) 94 #[.slice none 0 0,.int .i64 0,.int .i64 0]:=hX3▸HR2.other 2 _ (by omega)
 have HQ3:Bk X3 (w.heap.size+1+1) 94 #[sl W0.heap.size i.length,.int .i64 n,.int .i64 z]:=hX3▸HQ2.put 2 _
 have o0:=HQ3.cell (i:=0) rfl
 have o1:=HQ3.cell (i:=1) rfl
 have o2:=HQ3.cell (i:=2) rfl
 have r0:=HR3.cell (i:=0) rfl
 have r1:=HR3.cell (i:=1) rfl
 have r2:=HR3.cell (i:=2) rfl
 have rf:=HR3.free
 have HR4:Hid (Bk X3 (w.heap.size+1) 94 #[.slice none 0 0,.int .i64 0,.int .i64 0]):=HR3
 have t1:=put1_turns w1 (w.heap.size+1+1) 0 (sl W0.heap.size i.length)
 have t2:=put1_turns X1 (w.heap.size+1+1) 1 (.int .i64 n)
 have t3:=put1_turns X2 (w.heap.size+1+1) 2 (.int .i64 z)
 rw [hX1]at t1
 rw [hX2]at t2
 rw [hX3]at t3
 have HT:Hid (Turns (fun k=>k=w.heap.size+1+1) w1 X3):=(t1.trans t2).trans t3
 clear HPa HRa HQa HP1 HR1 HQ1 HP2 HR2 HQ2 HR3 HQ3 t1 t2 t3
 go_wp2
 clear o0 o1 o2 r0 r1 r2 rf a0 af p1 b1 bf p2 c2 cf
 obtain⟨X5,hX5⟩:∃X5,put3 X3 (w.heap.size+1) (.slice (some ⟨W0.heap.size,0,none⟩) i.length i.length) (.int .i64 n) (.int .i64 z)=X5:=⟨_,rfl⟩
 have hR:=HR4.out.put3 (.slice (some ⟨W0.heap.size,0,none⟩) i.length i.length) (.int .i64 n) (.int .i64 z)
 have ht:=put3_turns X3 (w.heap.size+1) (.slice (some ⟨W0.heap.size,0,none⟩) i.length i.length) (.int .i64 n) (.int .i64 z)
 rw [hX5]at hR ht
 unfold put3 at hX5
 rw [hX5]
 have t0:=hR.cell (i:=0) rfl
 have t1:=hR.cell (i:=1) rfl
 have t2:=hR.cell (i:=2) rfl
 have hT:Turns (fun k=>k=w.heap.size+1+1∨k=w.heap.size+1) w1 X5:=(HT.out.mono (fun k e=> .inl e)).trans (ht.mono (fun k e=> .inr e))
 have hsz:=hT.size
 refine bodyPost_ret (v:= .agg #[sl W0.heap.size i.length,.int .i64 n,.int .i64 z]) (by simp [results,Tryz.results152,go_sem,t0,t1,t2]) rfl
  ⟨_,rfl,HX1.out.trans (hT.to_below (fun k e=>by omega) (by omega)),_,rfl,?_⟩
 exact((HI1.out.rowF (by have:=HS.out;unfold maxLen;omega)).turns hT (fun k e=>by omega)).mono (fun k e=>by omega)
def SzR (n:Nat) (left r:Int):Prop:=r= -1∨(0≤r∧r+(n:Int)=left)
theorem szN_R (n:Nat) (left:Int):SzR n left (szN n left):=by
 unfold szN
 split
 ·exact .inl rfl
 ·exact .inr ⟨by omega,by omega⟩
theorem ints_plain (l:List Int):∀u∈intCells l,∃i,u= .int .i64 i:=by
 intro u hu
 simp only [intCells,List.mem_map]at hu
 obtain⟨i,_,rfl⟩:=hu
 exact⟨i,rfl⟩
theorem evs_plain:∀(l:List Ev),∀u∈cellsL l,∃i,u= .int .i64 i
 | [],u,hu=>by cases hu
 |e::l,u,hu=>by
  rcases List.mem_append.1 hu with h|h
  ·simp [Ev.cs]at h
   rcases h with rfl|rfl|rfl|rfl|rfl|rfl|rfl<;>exact⟨_,rfl⟩
  ·exact evs_plain l u h
theorem ems_plain:∀(l:List Em),∀u∈cellsX l,∃i,u= .int .i64 i
 | [],u,hu=>by cases hu
 |e::l,u,hu=>by
  rcases List.mem_append.1 hu with h|h
  ·simp [Em.cs]at h
   rcases h with rfl|rfl|rfl<;>exact⟨_,rfl⟩
  ·exact ems_plain l u h
theorem IsD.len {w:World} {x:Value} {c n:Nat} {f:Nat→Dat} (h:IsD w x (.row c n f)):∃a cap,x= .slice a n cap∧n≤maxLen:=by
 obtain⟨a,cap,rfl,h1,h2,_⟩:=h.parts
 exact⟨a,cap,rfl,Nat.le_trans h1 h2⟩
set_option maxHeartbeats 400000 in
theorem szX_any (a:Option Addr) (n cap:Nat) (left:Int) (w:World) (hn:n≤maxLen) (h0:0≤left) (h1:left≤1048576):
  Calls Tryz.prog 57 #[.slice a n cap,.int .i64 left] w fun e w'=>e= .returned (.int .i64 (szN n left))∧w'=w:=by
 unfold maxLen at hn
 by_cases hp:left-(n:Int)<0
 ·go_enter Tryz.func57,Tryz.ntmps57
  go_wp2
  go_ret
  exact⟨ret_int (by unfold szN;rw [if_pos hp]),rfl⟩
 ·go_enter Tryz.func57,Tryz.ntmps57
  go_wp2
  go_ret
  exact⟨ret_int (by unfold szN;rw [if_neg (by omega)]),rfl⟩
set_option maxHeartbeats 400000 in
theorem toEmit_any (t l v:Int) (w:World):
  Calls Tryz.prog 109 #[.agg #[.int .i64 t,.int .i64 l,.int .i64 v]] w fun e w'=>e= .returned (.agg #[.int .i64 t,.int .i64 l,.int .i64 v])∧Below w.heap.size w w':=by
 go_enter Tryz.func109,Tryz.ntmps109
 go_wp2
 refine bodyPost_ret (v:= .agg #[.int .i64 t,.int .i64 l,.int .i64 v]) (by simp [results,Tryz.results109,go_sem]) rfl ⟨rfl,(((Below.refl _ w).alloc (Nat.le_refl _) _).alloc (by simp) _).alloc (by simp;omega) _⟩
theorem infoEm:(Tryz.prog.info? 113).map (fun i=>(i.zero,i.size,i.bytes))=some (some (.agg #[.int .i64 0,.int .i64 0,.int .i64 0]),3,24):=by kernel_rfl
theorem OwnD.made {B:Nat} {T:TypeId} {w1:World} {zs:List Value} {n c:Nat} (h:w1.ownsRow B T c (.slice (some ⟨B,0,none⟩) n n) n zs) (hz:zs.length=n*c):OwnD w1 (fun k=>B≤k∧k<w1.heap.size) (.slice (some ⟨B,0,none⟩) n n) (flat c n zs):=
 (RowF.of_owns hz h).own
def toC (f:Nat→Dat) (zs:List Value) (m:Nat):Nat→Dat:=fun j=>if j<m then f j else .val (zs.getD j (.int .i64 0))
theorem OwnD.made0 {B:Nat} {T:TypeId} {w1:World} {zs:List Value} {n c:Nat} (f:Nat→Dat) (h:w1.ownsRow B T c (.slice (some ⟨B,0,none⟩) n n) n zs):∃zs,OwnD w1 (fun k=>B≤k∧k<w1.heap.size) (.slice (some ⟨B,0,none⟩) n n) (.row c n (toC f zs 0)):=by
 refine⟨zs,(OwnD.made h h.1).congr (fun j _=> ?_)⟩
 simp [toC]
theorem OwnD.toAll {F:Nat→Prop} {w:World} {x:Value} {c n m:Nat} {f:Nat→Dat} {zs:List Value} (h:OwnD w F x (.row c n (toC f zs m))) (hm:m=n*c):OwnD w F x (.row c n f):=
 h.congr (fun j hj=>by simp [toC,hm,hj])
theorem upd_toC (f:Nat→Dat) (zs:List Value) (m:Nat):upd (toC f zs m) m (f m)=toC f zs (m+1):=by
 funext j
 simp only [upd,toC]
 by_cases e:j=m
 ·subst e;rw [if_pos rfl,if_pos (by omega)]
 ·rw [if_neg e]
  by_cases e2:j<m
  ·rw [if_pos e2,if_pos (by omega)]
  ·rw [if_neg e2,if_neg (by omega)]
theorem OwnD.fill_val {F:Nat→Prop} {w:World} {g n cap c m:Nat} {f:Nat→Dat} {zs:List Value} (h:OwnD w F (.slice (some ⟨g,0,none⟩) n cap) (.row c n (toC f zs m))) (hm:m<n*c) {u:Value} (hu:f m= .val u):
  OwnD (w.setCell ⟨g,m,none⟩ u) F (.slice (some ⟨g,0,none⟩) n cap) (.row c n (toC f zs (m+1))):=by
 have:=h.put_val hm u
 rwa [←hu,upd_toC]at this
theorem OwnD.fill {F K:Nat→Prop} {w:World} {g n cap c m:Nat} {f:Nat→Dat} {zs:List Value} (h:OwnD w F (.slice (some ⟨g,0,none⟩) n cap) (.row c n (toC f zs m))) (hm:m<n*c) {u:Value} (hu:OwnD w K u (f m)) (hK:∀k,K k→ ¬F k):
  OwnD (w.setCell ⟨g,m,none⟩ u) (fun k=>F k∨K k) (.slice (some ⟨g,0,none⟩) n cap) (.row c n (toC f zs (m+1))):=by
 have:=h.put hm hu hK
 rwa [upd_toC]at this
theorem ems_at {l:List Em} {k:Nat} (h:k<l.length):(cellsX l).getD (k*3) (.int .i64 0)= .int .i64 (xAt l k).t∧(cellsX l).getD (k*3+1) (.int .i64 0)= .int .i64 (xAt l k).l∧(cellsX l).getD (k*3+2) (.int .i64 0)= .int .i64 (xAt l k).v:=
 ⟨getD_of (cellsX_get l k 0 h (by omega)),getD_of (cellsX_get l k 1 h (by omega)),getD_of (cellsX_get l k 2 h (by omega))⟩
set_option maxHeartbeats 2000000 in
theorem toX_any (x:Value) (l:List Em) (w:World) (hl:l.length≤1048576) (h:IsX w x l):
  Calls Tryz.prog 63 #[x] w fun e w'=>e= .returned (sl w.heap.size l.length)∧Below w.heap.size w w'∧OwnD w' (fun k=>w.heap.size≤k∧k<w'.heap.size) (sl w.heap.size l.length) (emsD l):=by
 obtain⟨a,cap,rfl,h1,h2,h⟩:=h
 have hp:(0:Int)≤(l.length:Int):=by omega
 obtain⟨i0,hi,hz0,hz1,hz2⟩:=info_parts infoEm
 go_enter Tryz.func63,Tryz.ntmps63
 go_wp2_with (at_make;refine wpList_make_full _ rfl _ _ 55 rfl w.heap.size 113 i0 _ 3 Tryz.underlying55 hi hz0 hz1 .i64 .i64 l.length l.length l.length rfl rfl rfl rfl (by rw [hz2];omega) (by unfold maxLen;omega) (Nat.le_refl _) ?_;intro w1 hown hgrow)
 have hB1:Hid (Below w.heap.size w w1):=(Below.refl _ _).grown hgrow (Nat.le_refl _) (fun k e=>by cases e)
 obtain⟨zs,hR0⟩:=OwnD.made0 (fun j=> .val ((cellsX l).getD j (.int .i64 0))) hown
 have hR1:Hid (OwnD w1 (fun k=>w.heap.size≤k∧k<w1.heap.size) (sl w.heap.size l.length) (.row 3 l.length (toC (fun j=> .val ((cellsX l).getD j (.int .i64 0))) zs (0*3)))):=hR0
 clear hown hgrow hi hz0 hz1 hz2 hR0
 go_loopw [4] (fun i wr=>∃k:Nat,k≤l.length∧i= .int .i64 k∧Below w.heap.size w wr∧OwnD wr (fun k=>w.heap.size≤k∧k<wr.heap.size) (sl w.heap.size l.length) (.row 3 l.length (toC (fun j=> .val ((cellsX l).getD j (.int .i64 0))) zs (k*3)))) (fun i _=>l.length-(intOf i).toNat)
 case atStart=>exact⟨0,Nat.zero_le _,rfl,hB1.out,hR1.out⟩
 case round=>
  obtain⟨k,hk,rfl,hB,hR⟩:=hrel
  have HB:Hid (Below w.heap.size w wr):=hB
  have HR:Hid (OwnD wr (fun k=>w.heap.size≤k∧k<wr.heap.size) (sl w.heap.size l.length) (.row 3 l.length (toC (fun j=> .val ((cellsX l).getD j (.int .i64 0))) zs (k*3)))):=hR
  clear hR
  by_cases hlt:k<l.length
  ·obtain⟨b,off,rfl,hb,hc⟩:=h.resolve_left (by intro e;subst e;simp at hlt)
   obtain⟨f0,f1,f2⟩:=(hc k hlt).below hB hb
   have hg:w.heap.size<wr.heap.size:=(HR.out.lt (by omega)).1
   clear hB hB1 hR1 h hc
   go_wp2_with (go_at_call 109;refine(toEmit_any _ _ _ _).mono ?_;rintro e w2 ⟨rfl,hb2⟩;have HB2:Hid (Below wr.heap.size wr w2):=hb2;have HR2:Hid (OwnD w2 (fun k=>w.heap.size≤k∧k<wr.heap.size) (sl w.heap.size l.length) (.row 3 l.length (toC (fun j=> .val ((cellsX l).getD j (.int .i64 0))) zs (k*3)))):=HR.out.under hb2;obtain⟨c0,_,g0,z0,_⟩:=HR2.out.step (j:=k*3) (by omega);obtain⟨c1,_,g1,z1,_⟩:=HR2.out.step (j:=k*3+1) (by omega);obtain⟨c2,_,g2,z2,_⟩:=HR2.out.step (j:=k*3+2) (by omega);clear hb2)
   go_roundw
   case rel=>
    obtain⟨e0,e1,e2⟩:=ems_at hlt
    refine⟨k+1,by omega,by go_num,(((HB.out.trans (HB2.out.mono (by omega))).setCell (p:=⟨w.heap.size,_,none⟩) (Nat.le_refl _) _).setCell (p:=⟨w.heap.size,_,none⟩) (Nat.le_refl _) _).setCell (p:=⟨w.heap.size,_,none⟩) (Nat.le_refl _) _,?_⟩
    rw [show(k+1)*3=k*3+1+1+1 from by omega]
    exact(((HR2.out.fill_val (m:=k*3) (by omega) (by rw [e0])).fill_val (m:=k*3+1) (by omega) (by rw [e1])).fill_val (m:=k*3+2) (by omega) (by rw [e2])).mono (fun b hb=>⟨hb.1,by have:=HB2.out.size;simp;omega⟩)
   case measure=>simp [intOf];omega
  ·clear hB hB1 hR1 h
   go_wp2
   go_ret
   obtain rfl:k=l.length:=by omega
   exact⟨rfl,HB.out,HR.out.toAll rfl⟩
theorem ints_wt (l:List Int):(intsD l).wt=l.length:=flat_wt _ _ _
theorem ints_cnt (l:List Int):(intsD l).cnt=l.length*1:=flat_cnt _ _ _
theorem ints_thin (l:List Int):(intsD l).thin:=flat_thin (by omega)
theorem sz_ints (x:Value) (l:List Int) (left:Int) (w:World) (h0:0≤left) (h1:left≤1048576) (h:IsD w x (intsD l)):
  Calls Tryz.prog 53 #[x,.int .i64 left] w fun e w'=>(∃r,e= .returned (.int .i64 r)∧SzR (intsD l).wt left r)∧Below w.heap.size w w':=by
 obtain⟨a,cap,rfl,hn⟩:=IsD.len (c:=1) (n:=l.length) h
 refine(szI_any a l.length cap left w hn h0 h1).mono ?_
 rintro e w' ⟨rfl,rfl⟩
 exact⟨⟨_,rfl,by rw [ints_wt];exact szN_R _ _⟩,Below.refl _ _⟩
theorem eq_ints (x y:Value) (l:List Int) (w:World) (hl:l.length≤1048576) (hx:IsD w x (intsD l)) (hy:IsD w y (intsD l)):
  Calls Tryz.prog 32 #[x,y] w fun e w'=>e= .returned (.bool true)∧Below w.heap.size w w':=
 eqI_same x y l w (by omega) hx.isI hy.isI
theorem to_ints (x:Value) (l:List Int) (w:World) (hl:l.length≤1048576) (h:IsD w x (intsD l)):
  Calls Tryz.prog 30 #[x] w fun e w'=>∃y,e= .returned y∧Below w.heap.size w w'∧OwnD w' (fun k=>w.heap.size≤k∧k<w'.heap.size) y (intsD l):=by
 refine(toI_any x l w hl h.isI).mono ?_
 rintro e w' ⟨rfl,hb,hr⟩
 exact⟨_,rfl,hb,((hr.rowF (by unfold maxLen;omega)).mono (fun k e=>by subst e;exact⟨Nat.le_refl _,hr.1⟩)).own⟩
theorem mark_ints {F:Nat→Prop} {x:Value} {l:List Int} {w:World} (z:Int) (hn:l.length≤1048577) (hz0:0≤z) (hz1:z≤1073741824) (h:OwnD w F x (intsD l)):
  Calls Tryz.prog 33 #[x,.int .i64 z] w fun e w'=>e= .returned (.int .i64 (z+((intsD l).cnt:Int)))∧OwnD w' F x ((intsD l).mark z)∧Turns F w w':=by
 refine(markIF z hn hz0 hz1 (OwnD.rowF (c:=1) h (by rw [intCells_length,Nat.mul_one]))).mono ?_
 rintro e w' ⟨rfl,hr,ht⟩
 refine⟨ret_int ?_,flat_marked hr.own (ints_plain l),ht⟩
 rw [ints_cnt]
 omega
theorem evs_wt (l:List Ev):(evsD l).wt=l.length:=flat_wt _ _ _
theorem evs_cnt (l:List Ev):(evsD l).cnt=l.length*7:=flat_cnt _ _ _
theorem evs_thin (l:List Ev):(evsD l).thin:=flat_thin (by omega)
theorem sz_evs (x:Value) (l:List Ev) (left:Int) (w:World) (h0:0≤left) (h1:left≤1048576) (h:IsD w x (evsD l)):
  Calls Tryz.prog 56 #[x,.int .i64 left] w fun e w'=>(∃r,e= .returned (.int .i64 r)∧SzR (evsD l).wt left r)∧Below w.heap.size w w':=by
 obtain⟨a,cap,rfl,hn⟩:=IsD.len (c:=7) (n:=l.length) h
 refine(szE_any a l.length cap left w hn h0 h1).mono ?_
 rintro e w' ⟨rfl,rfl⟩
 exact⟨⟨_,rfl,by rw [evs_wt];exact szN_R _ _⟩,Below.refl _ _⟩
theorem eq_evs (x y:Value) (l:List Ev) (w:World) (hl:l.length≤1048576) (hx:IsD w x (evsD l)) (hy:IsD w y (evsD l)):
  Calls Tryz.prog 68 #[x,y] w fun e w'=>e= .returned (.bool true)∧Below w.heap.size w w':=
 eqS_same x y l w hl hx.isEvs hy.isEvs
theorem to_evs (x:Value) (l:List Ev) (w:World) (hl:l.length≤1048576) (h:IsD w x (evsD l)):
  Calls Tryz.prog 62 #[x] w fun e w'=>∃y,e= .returned y∧Below w.heap.size w w'∧OwnD w' (fun k=>w.heap.size≤k∧k<w'.heap.size) y (evsD l):=by
 refine(toEventS_any x l w hl h.isEvs).mono ?_
 rintro e w' ⟨rfl,hb,hr⟩
 exact⟨_,rfl,hb,((hr.rowF (by unfold maxLen;omega)).mono (fun k e=>by subst e;exact⟨Nat.le_refl _,hr.1⟩)).own⟩
theorem mark_evs {F:Nat→Prop} {x:Value} {l:List Ev} {w:World} (z:Int) (hn:l.length≤1048577) (hz0:0≤z) (hz1:z≤1073741824) (h:OwnD w F x (evsD l)):
  Calls Tryz.prog 74 #[x,.int .i64 z] w fun e w'=>e= .returned (.int .i64 (z+((evsD l).cnt:Int)))∧OwnD w' F x ((evsD l).mark z)∧Turns F w w':=by
 refine(markEF z hn hz0 hz1 (OwnD.rowF (c:=7) h (cellsL_length l))).mono ?_
 rintro e w' ⟨rfl,hr,ht⟩
 refine⟨ret_int ?_,flat_marked hr.own (evs_plain l),ht⟩
 rw [evs_cnt]
 omega
theorem ems_wt (l:List Em):(emsD l).wt=l.length:=flat_wt _ _ _
theorem ems_cnt (l:List Em):(emsD l).cnt=l.length*3:=flat_cnt _ _ _
theorem ems_thin (l:List Em):(emsD l).thin:=flat_thin (by omega)
theorem sz_ems (x:Value) (l:List Em) (left:Int) (w:World) (h0:0≤left) (h1:left≤1048576) (h:IsD w x (emsD l)):
  Calls Tryz.prog 57 #[x,.int .i64 left] w fun e w'=>(∃r,e= .returned (.int .i64 r)∧SzR (emsD l).wt left r)∧Below w.heap.size w w':=by
 obtain⟨a,cap,rfl,hn⟩:=IsD.len (c:=3) (n:=l.length) h
 refine(szX_any a l.length cap left w hn h0 h1).mono ?_
 rintro e w' ⟨rfl,rfl⟩
 exact⟨⟨_,rfl,by rw [ems_wt];exact szN_R _ _⟩,Below.refl _ _⟩
theorem eq_ems (x y:Value) (l:List Em) (w:World) (hl:l.length≤1048576) (hx:IsD w x (emsD l)) (hy:IsD w y (emsD l)):
  Calls Tryz.prog 69 #[x,y] w fun e w'=>e= .returned (.bool true)∧Below w.heap.size w w':=
 eqX_same x y l w hl hx.isX hy.isX
theorem to_ems (x:Value) (l:List Em) (w:World) (hl:l.length≤1048576) (h:IsD w x (emsD l)):
  Calls Tryz.prog 63 #[x] w fun e w'=>∃y,e= .returned y∧Below w.heap.size w w'∧OwnD w' (fun k=>w.heap.size≤k∧k<w'.heap.size) y (emsD l):=by
 refine(toX_any x l w hl h.isX).mono ?_
 rintro e w' ⟨rfl,hb,hr⟩
 exact⟨_,rfl,hb,hr⟩
theorem mark_ems {F:Nat→Prop} {x:Value} {l:List Em} {w:World} (z:Int) (hn:l.length≤1048577) (hz0:0≤z) (hz1:z≤1073741824) (h:OwnD w F x (emsD l)):
  Calls Tryz.prog 75 #[x,.int .i64 z] w fun e w'=>e= .returned (.int .i64 (z+((emsD l).cnt:Int)))∧OwnD w' F x ((emsD l).mark z)∧Turns F w w':=by
 refine(markXF z hn hz0 hz1 (OwnD.rowF (c:=3) h (cellsX_length l))).mono ?_
 rintro e w' ⟨rfl,hr,ht⟩
 refine⟨ret_int ?_,flat_marked hr.own (ems_plain l),ht⟩
 rw [ems_cnt]
 omega
set_option maxHeartbeats 2000000 in
theorem szState_R (x:Value) (s:St) (left:Int) (w:World) (h0:0≤left) (h1:left≤1048576) (h:IsS w x s):
  Calls Tryz.prog 146 #[x,.int .i64 left] w fun e w'=>(∃r,e= .returned (.int .i64 r)∧SzR (intsD s.r).wt left r)∧Below w.heap.size w w':=by
 obtain⟨vr,rfl,hv⟩:=h
 obtain⟨l,q,d⟩:=s
 have HI:Hid (IsI w vr l):=hv
 clear hv
 obtain⟨W0,hW0⟩:∃W0,w.alloc (.cells #[vr,.int .i64 q,.int .i64 d] 141)=W0:=⟨_,rfl⟩
 have HB0:Hid (Below w.heap.size w W0):=by rw [←hW0];exact(Below.refl _ w).alloc (Nat.le_refl _) _
 have HP0:Bk W0 w.heap.size 141 #[vr,.int .i64 q,.int .i64 d]:=by rw [←hW0];exact Bk.new w _ _
 have p0:=HP0.cell (i:=0) rfl
 clear HP0
 go_enter Tryz.func146,Tryz.ntmps146
 go_wp2_with fail
 clear p0 hW0
 refine(sz_ints _ l _ _ h0 h1 (HI.out.below HB0.out).isD).mono ?_
 rintro e w1 ⟨⟨r,rfl,hr⟩,hb⟩
 have HB1:Hid (Below w.heap.size w w1):=HB0.out.trans (hb.mono HB0.out.size)
 clear hb
 rcases hr with rfl|⟨r0,hr⟩
 ·go_wp2
  go_ret
  exact⟨⟨_,rfl,.inl rfl⟩,HB1.out⟩
 ·have r2:¬(r<0):=by omega
  have HR:Hid (r+((intsD l).wt:Int)=left):=hr
  clear hr
  go_wp2
  go_ret
  exact⟨⟨_,rfl,.inr ⟨r0,HR.out⟩⟩,HB1.out⟩
theorem sumL_add (L:Nat→Nat) (a:Nat):∀b,sumL L (a+b)=sumL L a+sumL (fun i=>L (a+i)) b
 |0=>by simp [sumL]
 |b+1=>by
  rw [←Nat.add_assoc]
  simp only [sumL]
  rw [sumL_add L a b]
  omega
theorem sumL_grid {c:Nat} {h:Nat→Nat→Nat}:∀n,sumL (fun j=>h (j/c) (j%c)) (n*c)=sumL (fun i=>sumL (fun r=>h i r) c) n
 |0=>by simp [sumL]
 |n+1=>by
  rw [Nat.succ_mul,sumL_add,sumL_grid n]
  simp only [sumL]
  congr 1
  refine sumL_congr (fun r hr=> ?_)
  rw [Nat.mul_comm n c,Nat.mul_add_div (by omega),Nat.div_eq_of_lt hr,Nat.add_zero,Nat.mul_add_mod,Nat.mod_eq_of_lt hr]
theorem sumL_mem (L:Nat→Nat) {n i:Nat} (h:i<n):L i≤sumL L n:=by
 have h1:=sumL_mono L (show i+1≤n from h)
 simp only [sumL]at h1
 omega
structure Ps where
 e:Ev
 b:St
 s:List Ev
 x:List Em
def psAt (l:List Ps) (i:Nat):Ps:=l.getD i ⟨⟨0,0,0,0,0,0,0⟩,⟨[],0,0⟩,[],[]⟩
def Ps.cell (p:Ps):Nat→Dat
 |0=>Dat.val (.int .i64 p.e.t)
 |1=>Dat.val (.int .i64 p.e.s)
 |2=>Dat.val (.int .i64 p.e.q)
 |3=>Dat.val (.int .i64 p.e.d)
 |4=>Dat.val (.int .i64 p.e.k)
 |5=>Dat.val (.int .i64 p.e.v)
 |6=>Dat.val (.int .i64 p.e.g)
 |7=>intsD p.b.r
 |8=>Dat.val (.int .i64 p.b.q)
 |9=>Dat.val (.int .i64 p.b.d)
 |10=>evsD p.s
 |11=>emsD p.x
 |_=> .val (.int .i64 0)
def Ps.wt (p:Ps):Nat:=(intsD p.b.r).wt+(evsD p.s).wt+(emsD p.x).wt
def pastsD_f (l:List Ps):Nat→Dat:=fun j=>(psAt l (j/12)).cell (j%12)
def pastsD (l:List Ps):Dat:= .row 12 l.length (pastsD_f l)
theorem pastsD_at (l:List Ps) (i:Nat) {r:Nat} (hr:r<12):pastsD_f l (i*12+r)=(psAt l i).cell r:=by
 show(psAt l ((i*12+r)/12)).cell ((i*12+r)%12)=_
 rw [show(i*12+r)/12=i from by omega,show(i*12+r)%12=r from by omega]
theorem pastsD_wt (l:List Ps):(pastsD l).wt=l.length+sumL (fun i=>(psAt l i).wt) l.length:=by
 show l.length+sumL (fun j=>((psAt l (j/12)).cell (j%12)).wt) (l.length*12)=_
 rw [sumL_grid (h:=fun i r=>((psAt l i).cell r).wt)]
 congr 1
 refine sumL_congr (fun i _=> ?_)
 simp only [sumL,Ps.cell,Ps.wt,Dat.wt,Nat.zero_add,Nat.add_zero]
theorem Ps.thin (p:Ps) (r:Nat):(p.cell r).thin:=by
 unfold Ps.cell
 split
 ·trivial
 ·trivial
 ·trivial
 ·trivial
 ·trivial
 ·trivial
 ·trivial
 ·exact ints_thin _
 ·trivial
 ·trivial
 ·exact evs_thin _
 ·exact ems_thin _
 ·trivial
theorem pasts_thin (l:List Ps):(pastsD l).thin:=⟨by omega,fun j=>Ps.thin (psAt l (j/12)) (j%12)⟩
theorem Ps.wt_le {l:List Ps} {i:Nat} (h:i<l.length):(psAt l i).wt≤(pastsD l).wt:=by
 rw [pastsD_wt]
 have:=sumL_mem (fun i=>(psAt l i).wt) h
 omega
def IsPast (w:World) (x:Value) (p:Ps):Prop:=∃u7 u10 u11,x= .agg #[.int .i64 p.e.t,.int .i64 p.e.s,.int .i64 p.e.q,.int .i64 p.e.d,.int .i64 p.e.k,.int .i64 p.e.v,.int .i64 p.e.g,u7,.int .i64 p.b.q,.int .i64 p.b.d,u10,u11]∧IsD w u7 (intsD p.b.r)∧IsD w u10 (evsD p.s)∧IsD w u11 (emsD p.x)
theorem IsPast.under {w w':World} {x:Value} {p:Ps} (h:IsPast w x p) (hb:Below w.heap.size w w'):IsPast w' x p:=by
 obtain⟨u7,u10,u11,rfl,h7,h10,h11⟩:=h
 exact⟨u7,u10,u11,rfl,h7.under hb,h10.under hb,h11.under hb⟩
theorem pastsD_in {w:World} {b off n:Nat} {l:List Ps} (h:∀j,j<n*12→ ∃u,w.cell? ⟨b,off+j,none⟩=some u∧IsD w u ((psAt l (j/12)).cell (j%12))) {i:Nat} (hi:i<n):
  ∃u7 u10 u11,w.cell? ⟨b,off+i*12,none⟩=some (.int .i64 (psAt l i).e.t)∧w.cell? ⟨b,off+i*12+1,none⟩=some (.int .i64 (psAt l i).e.s)∧w.cell? ⟨b,off+i*12+2,none⟩=some (.int .i64 (psAt l i).e.q)∧w.cell? ⟨b,off+i*12+3,none⟩=some (.int .i64 (psAt l i).e.d)∧w.cell? ⟨b,off+i*12+4,none⟩=some (.int .i64 (psAt l i).e.k)∧w.cell? ⟨b,off+i*12+5,none⟩=some (.int .i64 (psAt l i).e.v)∧w.cell? ⟨b,off+i*12+6,none⟩=some (.int .i64 (psAt l i).e.g)∧w.cell? ⟨b,off+i*12+7,none⟩=some (u7)∧w.cell? ⟨b,off+i*12+8,none⟩=some (.int .i64 (psAt l i).b.q)∧w.cell? ⟨b,off+i*12+9,none⟩=some (.int .i64 (psAt l i).b.d)∧w.cell? ⟨b,off+i*12+10,none⟩=some (u10)∧w.cell? ⟨b,off+i*12+11,none⟩=some (u11)∧IsD w u7 (intsD (psAt l i).b.r)∧IsD w u10 (evsD (psAt l i).s)∧IsD w u11 (emsD (psAt l i).x):=by
 have hh:∀r,r<12→ ∃u,w.cell? ⟨b,off+i*12+r,none⟩=some u∧IsD w u ((psAt l i).cell r):=fun r hr=>by
  have:=h (i*12+r) (by omega)
  rw [show(i*12+r)/12=i from by omega,show(i*12+r)%12=r from by omega,←Nat.add_assoc]at this
  exact this
 obtain⟨u0,c0,d0⟩:=hh 0 (by omega)
 obtain⟨u1,c1,d1⟩:=hh 1 (by omega)
 obtain⟨u2,c2,d2⟩:=hh 2 (by omega)
 obtain⟨u3,c3,d3⟩:=hh 3 (by omega)
 obtain⟨u4,c4,d4⟩:=hh 4 (by omega)
 obtain⟨u5,c5,d5⟩:=hh 5 (by omega)
 obtain⟨u6,c6,d6⟩:=hh 6 (by omega)
 obtain⟨u7,c7,d7⟩:=hh 7 (by omega)
 obtain⟨u8,c8,d8⟩:=hh 8 (by omega)
 obtain⟨u9,c9,d9⟩:=hh 9 (by omega)
 obtain⟨u10,c10,d10⟩:=hh 10 (by omega)
 obtain⟨u11,c11,d11⟩:=hh 11 (by omega)
 obtain rfl:=d0.val_eq
 obtain rfl:=d1.val_eq
 obtain rfl:=d2.val_eq
 obtain rfl:=d3.val_eq
 obtain rfl:=d4.val_eq
 obtain rfl:=d5.val_eq
 obtain rfl:=d6.val_eq
 obtain rfl:=d8.val_eq
 obtain rfl:=d9.val_eq
 exact⟨u7,u10,u11,c0,c1,c2,c3,c4,c5,c6,c7,c8,c9,c10,c11,d7,d10,d11⟩
structure Pa where
 n:Int
 st:St
 p:List Ps
 t:List Ev
 a:List Int
def paAt (l:List Pa) (i:Nat):Pa:=l.getD i ⟨0,⟨[],0,0⟩,[],[],[]⟩
def Pa.cell (p:Pa):Nat→Dat
 |0=>Dat.val (.int .i64 p.n)
 |1=>intsD p.st.r
 |2=>Dat.val (.int .i64 p.st.q)
 |3=>Dat.val (.int .i64 p.st.d)
 |4=>pastsD p.p
 |5=>evsD p.t
 |6=>intsD p.a
 |_=> .val (.int .i64 0)
def Pa.wt (p:Pa):Nat:=(intsD p.st.r).wt+(pastsD p.p).wt+(evsD p.t).wt+(intsD p.a).wt
def partsD_f (l:List Pa):Nat→Dat:=fun j=>(paAt l (j/7)).cell (j%7)
def partsD (l:List Pa):Dat:= .row 7 l.length (partsD_f l)
theorem partsD_at (l:List Pa) (i:Nat) {r:Nat} (hr:r<7):partsD_f l (i*7+r)=(paAt l i).cell r:=by
 show(paAt l ((i*7+r)/7)).cell ((i*7+r)%7)=_
 rw [show(i*7+r)/7=i from by omega,show(i*7+r)%7=r from by omega]
theorem partsD_wt (l:List Pa):(partsD l).wt=l.length+sumL (fun i=>(paAt l i).wt) l.length:=by
 show l.length+sumL (fun j=>((paAt l (j/7)).cell (j%7)).wt) (l.length*7)=_
 rw [sumL_grid (h:=fun i r=>((paAt l i).cell r).wt)]
 congr 1
 refine sumL_congr (fun i _=> ?_)
 simp only [sumL,Pa.cell,Pa.wt,Dat.wt,Nat.zero_add,Nat.add_zero]
theorem Pa.thin (p:Pa) (r:Nat):(p.cell r).thin:=by
 unfold Pa.cell
 split
 ·trivial
 ·exact ints_thin _
 ·trivial
 ·trivial
 ·exact pasts_thin _
 ·exact evs_thin _
 ·exact ints_thin _
 ·trivial
theorem parts_thin (l:List Pa):(partsD l).thin:=⟨by omega,fun j=>Pa.thin (paAt l (j/7)) (j%7)⟩
theorem Pa.wt_le {l:List Pa} {i:Nat} (h:i<l.length):(paAt l i).wt≤(partsD l).wt:=by
 rw [partsD_wt]
 have:=sumL_mem (fun i=>(paAt l i).wt) h
 omega
def IsPart (w:World) (x:Value) (p:Pa):Prop:=∃u1 u4 u5 u6,x= .agg #[.int .i64 p.n,u1,.int .i64 p.st.q,.int .i64 p.st.d,u4,u5,u6]∧IsD w u1 (intsD p.st.r)∧IsD w u4 (pastsD p.p)∧IsD w u5 (evsD p.t)∧IsD w u6 (intsD p.a)
theorem IsPart.under {w w':World} {x:Value} {p:Pa} (h:IsPart w x p) (hb:Below w.heap.size w w'):IsPart w' x p:=by
 obtain⟨u1,u4,u5,u6,rfl,h1,h4,h5,h6⟩:=h
 exact⟨u1,u4,u5,u6,rfl,h1.under hb,h4.under hb,h5.under hb,h6.under hb⟩
theorem partsD_in {w:World} {b off n:Nat} {l:List Pa} (h:∀j,j<n*7→ ∃u,w.cell? ⟨b,off+j,none⟩=some u∧IsD w u ((paAt l (j/7)).cell (j%7))) {i:Nat} (hi:i<n):
  ∃u1 u4 u5 u6,w.cell? ⟨b,off+i*7,none⟩=some (.int .i64 (paAt l i).n)∧w.cell? ⟨b,off+i*7+1,none⟩=some (u1)∧w.cell? ⟨b,off+i*7+2,none⟩=some (.int .i64 (paAt l i).st.q)∧w.cell? ⟨b,off+i*7+3,none⟩=some (.int .i64 (paAt l i).st.d)∧w.cell? ⟨b,off+i*7+4,none⟩=some (u4)∧w.cell? ⟨b,off+i*7+5,none⟩=some (u5)∧w.cell? ⟨b,off+i*7+6,none⟩=some (u6)∧IsD w u1 (intsD (paAt l i).st.r)∧IsD w u4 (pastsD (paAt l i).p)∧IsD w u5 (evsD (paAt l i).t)∧IsD w u6 (intsD (paAt l i).a):=by
 have hh:∀r,r<7→ ∃u,w.cell? ⟨b,off+i*7+r,none⟩=some u∧IsD w u ((paAt l i).cell r):=fun r hr=>by
  have:=h (i*7+r) (by omega)
  rw [show(i*7+r)/7=i from by omega,show(i*7+r)%7=r from by omega,←Nat.add_assoc]at this
  exact this
 obtain⟨u0,c0,d0⟩:=hh 0 (by omega)
 obtain⟨u1,c1,d1⟩:=hh 1 (by omega)
 obtain⟨u2,c2,d2⟩:=hh 2 (by omega)
 obtain⟨u3,c3,d3⟩:=hh 3 (by omega)
 obtain⟨u4,c4,d4⟩:=hh 4 (by omega)
 obtain⟨u5,c5,d5⟩:=hh 5 (by omega)
 obtain⟨u6,c6,d6⟩:=hh 6 (by omega)
 obtain rfl:=d0.val_eq
 obtain rfl:=d2.val_eq
 obtain rfl:=d3.val_eq
 exact⟨u1,u4,u5,u6,c0,c1,c2,c3,c4,c5,c6,d1,d4,d5,d6⟩
set_option maxHeartbeats 4000000 in
theorem szPast_any (x:Value) (p:Ps) (left:Int) (w:World) (h0:0≤left) (h1:left≤1048576) (h:IsPast w x p):
  Calls Tryz.prog 185 #[x,.int .i64 left] w fun e w'=>(∃r,e= .returned (.int .i64 r)∧SzR p.wt left r)∧Below w.heap.size w w':=by
 obtain⟨u7,u10,u11,rfl,h7,h10,h11⟩:=h
 have H7:Hid (IsD w u7 (intsD p.b.r)):=h7
 have H10:Hid (IsD w u10 (evsD p.s)):=h10
 have H11:Hid (IsD w u11 (emsD p.x)):=h11
 clear h7 h10 h11
 obtain⟨W0,hW0⟩:∃W0,w.alloc (.cells #[.int .i64 p.e.t,.int .i64 p.e.s,.int .i64 p.e.q,.int .i64 p.e.d,.int .i64 p.e.k,.int .i64 p.e.v,.int .i64 p.e.g,u7,.int .i64 p.b.q,.int .i64 p.b.d,u10,u11] 230)=W0:=⟨_,rfl⟩
 have HB0:Hid (Below w.heap.size w W0):=by rw [←hW0];exact(Below.refl _ w).alloc (Nat.le_refl _) _
 have HP0:Hid (Bk W0 w.heap.size 230 #[.int .i64 p.e.t,.int .i64 p.e.s,.int .i64 p.e.q,.int .i64 p.e.d,.int .i64 p.e.k,.int .i64 p.e.v,.int .i64 p.e.g,u7,.int .i64 p.b.q,.int .i64 p.b.d,u10,u11]):=by rw [←hW0];exact Bk.new w _ _
 have HW:Hid (w.alloc (.cells #[.int .i64 p.e.t,.int .i64 p.e.s,.int .i64 p.e.q,.int .i64 p.e.d,.int .i64 p.e.k,.int .i64 p.e.v,.int .i64 p.e.g,u7,.int .i64 p.b.q,.int .i64 p.b.d,u10,u11] 230)=W0):=hW0
 clear hW0
 go_enter Tryz.func185,Tryz.ntmps185
 have p7:=HP0.out.cell (i:=7) rfl
 have p8:=HP0.out.cell (i:=8) rfl
 have p9:=HP0.out.cell (i:=9) rfl
 go_wp2_with fail
 rw [HW.out]
 clear HW
 clear p7 p8 p9
 refine(szState_R _ p.b _ _ h0 h1 ⟨_,rfl,(H7.out.under HB0.out).isI⟩).mono ?_
 rintro e w1 ⟨⟨r1,rfl,hr⟩,hb⟩
 have HB1:Hid (Below w.heap.size w w1):=HB0.out.trans (hb.mono HB0.out.size)
 have HP1:Hid (Bk w1 w.heap.size 230 #[.int .i64 p.e.t,.int .i64 p.e.s,.int .i64 p.e.q,.int .i64 p.e.d,.int .i64 p.e.k,.int .i64 p.e.v,.int .i64 p.e.g,u7,.int .i64 p.b.q,.int .i64 p.b.d,u10,u11]):=HP0.out.below hb
 clear hb
 rcases hr with rfl|⟨r10,hr⟩
 ·go_wp2
  go_ret
  exact⟨⟨_,rfl,.inl rfl⟩,HB1.out⟩
 have r11:r1≤1048576:=by omega
 have r12:¬(r1<0):=by omega
 have HR1:Hid (r1+((intsD p.b.r).wt:Int)=left):=hr
 clear hr
 have p10:=HP1.out.cell (i:=10) rfl
 go_wp2_with fail
 clear p10
 refine(sz_evs _ p.s _ _ r10 r11 (H10.out.under HB1.out)).mono ?_
 rintro e w2 ⟨⟨r2,rfl,hr⟩,hb⟩
 have HB2:Hid (Below w.heap.size w w2):=HB1.out.trans (hb.mono HB1.out.size)
 have HP2:Hid (Bk w2 w.heap.size 230 #[.int .i64 p.e.t,.int .i64 p.e.s,.int .i64 p.e.q,.int .i64 p.e.d,.int .i64 p.e.k,.int .i64 p.e.v,.int .i64 p.e.g,u7,.int .i64 p.b.q,.int .i64 p.b.d,u10,u11]):=HP1.out.below hb
 clear hb
 rcases hr with rfl|⟨r20,hr⟩
 ·go_wp2
  go_ret
  exact⟨⟨_,rfl,.inl rfl⟩,HB2.out⟩
 have r21:r2≤1048576:=by omega
 have r22:¬(r2<0):=by omega
 have HR2:Hid (r2+((evsD p.s).wt:Int)=r1):=hr
 clear hr
 have p11:=HP2.out.cell (i:=11) rfl
 go_wp2_with fail
 clear p11
 refine(sz_ems _ p.x _ _ r20 r21 (H11.out.under HB2.out)).mono ?_
 rintro e w3 ⟨⟨r3,rfl,hr⟩,hb⟩
 have HB3:Hid (Below w.heap.size w w3):=HB2.out.trans (hb.mono HB2.out.size)
 have HP3:Hid (Bk w3 w.heap.size 230 #[.int .i64 p.e.t,.int .i64 p.e.s,.int .i64 p.e.q,.int .i64 p.e.d,.int .i64 p.e.k,.int .i64 p.e.v,.int .i64 p.e.g,u7,.int .i64 p.b.q,.int .i64 p.b.d,u10,u11]):=HP2.out.below hb
 clear hb
 rcases hr with rfl|⟨r30,hr⟩
 ·go_wp2
  go_ret
  exact⟨⟨_,rfl,.inl rfl⟩,HB3.out⟩
 have r31:r3≤1048576:=by omega
 have r32:¬(r3<0):=by omega
 have HR3:Hid (r3+((emsD p.x).wt:Int)=r2):=hr
 clear hr
 go_wp2
 go_ret
 refine⟨⟨_,rfl,.inr ⟨r30,?_⟩⟩,HB3.out⟩
 have:=HR1.out
 have:=HR2.out
 have:=HR3.out
 unfold Ps.wt
 omega
set_option maxHeartbeats 4000000 in
theorem sz_pasts (x:Value) (l:List Ps) (left:Int) (w:World) (h0:0≤left) (h1:left≤1048576) (h:IsD w x (pastsD l)):
  Calls Tryz.prog 147 #[x,.int .i64 left] w fun e w'=>(∃r,e= .returned (.int .i64 r)∧SzR (pastsD l).wt left r)∧Below w.heap.size w w':=by
 obtain⟨a,cap,rfl,hn1,hn,h⟩:=IsD.parts (c:=12) (n:=l.length) h
 have hn2:l.length≤9223372036854775807:=by unfold maxLen at hn;omega
 clear hn1 hn
 by_cases hp:left-(l.length:Int)<0
 ·go_enter Tryz.func147,Tryz.ntmps147
  go_wp2
  go_ret
  exact⟨⟨_,rfl,.inl rfl⟩,Below.refl _ _⟩
 ·have HLF:Hid (0≤left-(l.length:Int)):=(by omega:0≤left-(l.length:Int))
  go_enter Tryz.func147,Tryz.ntmps147
  go_wp2
  go_loopw [5,1] (fun i z wr=>∃k:Nat,k≤l.length∧i= .int .i64 k∧Below w.heap.size w wr∧ ∃lf:Int,z= .int .i64 lf∧0≤lf∧lf+(l.length:Int)+(sumL (fun i=>(psAt l i).wt) k:Int)=left) (fun i _ _=>l.length-(intOf i).toNat)
  case atStart=>exact⟨0,Nat.zero_le _,rfl,Below.refl _ _,left-(l.length:Int),rfl,HLF.out,by simp [sumL]⟩
  case round=>
   obtain⟨k,hk,rfl,hB,lf2,rfl,hz0,hz1⟩:=hrel
   have HZ:Hid (lf2+(l.length:Int)+(sumL (fun i=>(psAt l i).wt) k:Int)=left):=hz1
   have HB:Hid (Below w.heap.size w wr):=hB
   have hz2:lf2≤1048576:=by omega
   clear hz1
   by_cases hlt:k<l.length
   ·obtain⟨b,off,rfl,hb,hc⟩:=h.resolve_left (by omega)
    obtain⟨u7,u10,u11,f0,f1,f2,f3,f4,f5,f6,f7,f8,f9,f10,f11,d7,d10,d11⟩:=pastsD_in (fun j hj=>by
     obtain⟨u,hu,hd⟩:=hc j hj
     exact⟨u,(hB.cell (p:=⟨b,off+j,none⟩) hb).trans hu,hd.under hB⟩) hlt
    have HD:Hid (IsPast wr (.agg #[.int .i64 (psAt l k).e.t,.int .i64 (psAt l k).e.s,.int .i64 (psAt l k).e.q,.int .i64 (psAt l k).e.d,.int .i64 (psAt l k).e.k,.int .i64 (psAt l k).e.v,.int .i64 (psAt l k).e.g,u7,.int .i64 (psAt l k).b.q,.int .i64 (psAt l k).b.d,u10,u11]) (psAt l k)):=⟨u7,u10,u11,rfl,d7,d10,d11⟩
    clear h hc hB d7 d10 d11
    go_wp2_with fail
    clear f0 f1 f2 f3 f4 f5 f6 f7 f8 f9 f10 f11
    refine(szPast_any _ (psAt l k) _ _ hz0 hz2 HD.out).mono ?_
    rintro e w2 ⟨⟨r,rfl,hr⟩,hb2⟩
    have HB2:Hid (Below w.heap.size w w2):=HB.out.trans (hb2.mono HB.out.size)
    clear hb2
    rcases hr with rfl|⟨r0,hr⟩
    ·go_wp2
     go_ret
     exact⟨⟨_,rfl,.inl rfl⟩,HB2.out⟩
    ·have HR:Hid (r+((psAt l k).wt:Int)=lf2):=hr
     have r2:¬(r<0):=by omega
     clear hr
     go_wp2
     go_roundw
     case rel=>exact⟨k+1,by omega,by go_num,HB2.out,r,rfl,r0,by have:=HR.out;have:=HZ.out;simp only [sumL];omega⟩
     case measure=>simp [intOf];omega
   ·clear h hB
    go_wp2
    go_ret
    obtain rfl:k=l.length:=by omega
    exact⟨⟨_,rfl,.inr ⟨hz0,by rw [pastsD_wt];have:=HZ.out;omega⟩⟩,HB.out⟩
set_option maxHeartbeats 4000000 in
theorem eqPast_same (x y:Value) (p:Ps) (w:World) (hw:p.wt≤1048576) (hx:IsPast w x p) (hy:IsPast w y p):
  Calls Tryz.prog 213 #[x,y] w fun e w'=>e= .returned (.bool true)∧Below w.heap.size w w':=by
 obtain⟨u7,u10,u11,rfl,h7,h10,h11⟩:=hx
 obtain⟨v7,v10,v11,rfl,k7,k10,k11⟩:=hy
 have H7:Hid (IsD w u7 (intsD p.b.r)∧IsD w v7 (intsD p.b.r)):=⟨h7,k7⟩
 have H10:Hid (IsD w u10 (evsD p.s)∧IsD w v10 (evsD p.s)):=⟨h10,k10⟩
 have H11:Hid (IsD w u11 (emsD p.x)∧IsD w v11 (emsD p.x)):=⟨h11,k11⟩
 have HS:Hid (p.wt≤1048576):=hw
 clear hw h7 k7 h10 k10 h11 k11
 obtain⟨W0,hW0⟩:∃W0,(w.alloc (.cells #[.int .i64 p.e.t,.int .i64 p.e.s,.int .i64 p.e.q,.int .i64 p.e.d,.int .i64 p.e.k,.int .i64 p.e.v,.int .i64 p.e.g,u7,.int .i64 p.b.q,.int .i64 p.b.d,u10,u11] 115)).alloc (.cells #[.int .i64 p.e.t,.int .i64 p.e.s,.int .i64 p.e.q,.int .i64 p.e.d,.int .i64 p.e.k,.int .i64 p.e.v,.int .i64 p.e.g,v7,.int .i64 p.b.q,.int .i64 p.b.d,v10,v11] 115)=W0:=⟨_,rfl⟩
 have HB0:Hid (Below w.heap.size w W0):=by rw [←hW0];exact((Below.refl _ w).alloc (Nat.le_refl _) _).alloc (by simp) _
 have HP0:Hid (Bk W0 w.heap.size 115 #[.int .i64 p.e.t,.int .i64 p.e.s,.int .i64 p.e.q,.int .i64 p.e.d,.int .i64 p.e.k,.int .i64 p.e.v,.int .i64 p.e.g,u7,.int .i64 p.b.q,.int .i64 p.b.d,u10,u11]):=by rw [←hW0];exact(Bk.new w _ _).alloc _
 have HQ0:Hid (Bk W0 (w.heap.size+1) 115 #[.int .i64 p.e.t,.int .i64 p.e.s,.int .i64 p.e.q,.int .i64 p.e.d,.int .i64 p.e.k,.int .i64 p.e.v,.int .i64 p.e.g,v7,.int .i64 p.b.q,.int .i64 p.b.d,v10,v11]):=by rw [←hW0];exact Bk.newAt (by simp) _ _
 have HW:Hid ((w.alloc (.cells #[.int .i64 p.e.t,.int .i64 p.e.s,.int .i64 p.e.q,.int .i64 p.e.d,.int .i64 p.e.k,.int .i64 p.e.v,.int .i64 p.e.g,u7,.int .i64 p.b.q,.int .i64 p.b.d,u10,u11] 115)).alloc (.cells #[.int .i64 p.e.t,.int .i64 p.e.s,.int .i64 p.e.q,.int .i64 p.e.d,.int .i64 p.e.k,.int .i64 p.e.v,.int .i64 p.e.g,v7,.int .i64 p.b.q,.int .i64 p.b.d,v10,v11] 115)=W0):=hW0
 clear hW0
 go_enter Tryz.func213,Tryz.ntmps213
 have p0:=HP0.out.cell (i:=0) rfl
 have q0:=HQ0.out.cell (i:=0) rfl
 have p1:=HP0.out.cell (i:=1) rfl
 have q1:=HQ0.out.cell (i:=1) rfl
 have p2:=HP0.out.cell (i:=2) rfl
 have q2:=HQ0.out.cell (i:=2) rfl
 have p3:=HP0.out.cell (i:=3) rfl
 have q3:=HQ0.out.cell (i:=3) rfl
 have p4:=HP0.out.cell (i:=4) rfl
 have q4:=HQ0.out.cell (i:=4) rfl
 have p5:=HP0.out.cell (i:=5) rfl
 have q5:=HQ0.out.cell (i:=5) rfl
 have p6:=HP0.out.cell (i:=6) rfl
 have q6:=HQ0.out.cell (i:=6) rfl
 go_wp2_with fail
 rw [HW.out]
 clear HW
 clear p0 q0 p1 q1 p2 q2 p3 q3 p4 q4 p5 q5 p6 q6
 refine(eqEvent_same _ _ _ _ _ _ _ _).mono ?_
 rintro e w1 ⟨rfl,hb⟩
 have HB1:Hid (Below w.heap.size w w1):=HB0.out.trans (hb.mono HB0.out.size)
 have HP1:Hid (Bk w1 w.heap.size 115 #[.int .i64 p.e.t,.int .i64 p.e.s,.int .i64 p.e.q,.int .i64 p.e.d,.int .i64 p.e.k,.int .i64 p.e.v,.int .i64 p.e.g,u7,.int .i64 p.b.q,.int .i64 p.b.d,u10,u11]):=HP0.out.below hb
 have HQ1:Hid (Bk w1 (w.heap.size+1) 115 #[.int .i64 p.e.t,.int .i64 p.e.s,.int .i64 p.e.q,.int .i64 p.e.d,.int .i64 p.e.k,.int .i64 p.e.v,.int .i64 p.e.g,v7,.int .i64 p.b.q,.int .i64 p.b.d,v10,v11]):=HQ0.out.below hb
 clear hb
 have p7:=HP1.out.cell (i:=7) rfl
 have q7:=HQ1.out.cell (i:=7) rfl
 have p8:=HP1.out.cell (i:=8) rfl
 have q8:=HQ1.out.cell (i:=8) rfl
 have p9:=HP1.out.cell (i:=9) rfl
 have q9:=HQ1.out.cell (i:=9) rfl
 go_wp2_with fail
 clear p7 q7 p8 q8 p9 q9
 refine(eqState_same _ _ p.b _ (by have:=HS.out;unfold Ps.wt at this;simp only [ems_wt,evs_wt,ints_wt]at this;omega) ⟨_,rfl,(H7.out.1.under HB1.out).isI⟩ ⟨_,rfl,(H7.out.2.under HB1.out).isI⟩).mono ?_
 rintro e w2 ⟨rfl,hb⟩
 have HB2:Hid (Below w.heap.size w w2):=HB1.out.trans (hb.mono HB1.out.size)
 have HP2:Hid (Bk w2 w.heap.size 115 #[.int .i64 p.e.t,.int .i64 p.e.s,.int .i64 p.e.q,.int .i64 p.e.d,.int .i64 p.e.k,.int .i64 p.e.v,.int .i64 p.e.g,u7,.int .i64 p.b.q,.int .i64 p.b.d,u10,u11]):=HP1.out.below hb
 have HQ2:Hid (Bk w2 (w.heap.size+1) 115 #[.int .i64 p.e.t,.int .i64 p.e.s,.int .i64 p.e.q,.int .i64 p.e.d,.int .i64 p.e.k,.int .i64 p.e.v,.int .i64 p.e.g,v7,.int .i64 p.b.q,.int .i64 p.b.d,v10,v11]):=HQ1.out.below hb
 clear hb
 have p10:=HP2.out.cell (i:=10) rfl
 have q10:=HQ2.out.cell (i:=10) rfl
 go_wp2_with fail
 clear p10 q10
 refine(eq_evs _ _ p.s _ (by have:=HS.out;unfold Ps.wt at this;simp only [ems_wt,evs_wt,ints_wt]at this;omega) (H10.out.1.under HB2.out) (H10.out.2.under HB2.out)).mono ?_
 rintro e w3 ⟨rfl,hb⟩
 have HB3:Hid (Below w.heap.size w w3):=HB2.out.trans (hb.mono HB2.out.size)
 have HP3:Hid (Bk w3 w.heap.size 115 #[.int .i64 p.e.t,.int .i64 p.e.s,.int .i64 p.e.q,.int .i64 p.e.d,.int .i64 p.e.k,.int .i64 p.e.v,.int .i64 p.e.g,u7,.int .i64 p.b.q,.int .i64 p.b.d,u10,u11]):=HP2.out.below hb
 have HQ3:Hid (Bk w3 (w.heap.size+1) 115 #[.int .i64 p.e.t,.int .i64 p.e.s,.int .i64 p.e.q,.int .i64 p.e.d,.int .i64 p.e.k,.int .i64 p.e.v,.int .i64 p.e.g,v7,.int .i64 p.b.q,.int .i64 p.b.d,v10,v11]):=HQ2.out.below hb
 clear hb
 have p11:=HP3.out.cell (i:=11) rfl
 have q11:=HQ3.out.cell (i:=11) rfl
 go_wp2_with fail
 clear p11 q11
 refine(eq_ems _ _ p.x _ (by have:=HS.out;unfold Ps.wt at this;simp only [ems_wt,evs_wt,ints_wt]at this;omega) (H11.out.1.under HB3.out) (H11.out.2.under HB3.out)).mono ?_
 rintro e w4 ⟨rfl,hb⟩
 have HB4:Hid (Below w.heap.size w w4):=HB3.out.trans (hb.mono HB3.out.size)
 have HP4:Hid (Bk w4 w.heap.size 115 #[.int .i64 p.e.t,.int .i64 p.e.s,.int .i64 p.e.q,.int .i64 p.e.d,.int .i64 p.e.k,.int .i64 p.e.v,.int .i64 p.e.g,u7,.int .i64 p.b.q,.int .i64 p.b.d,u10,u11]):=HP3.out.below hb
 have HQ4:Hid (Bk w4 (w.heap.size+1) 115 #[.int .i64 p.e.t,.int .i64 p.e.s,.int .i64 p.e.q,.int .i64 p.e.d,.int .i64 p.e.k,.int .i64 p.e.v,.int .i64 p.e.g,v7,.int .i64 p.b.q,.int .i64 p.b.d,v10,v11]):=HQ3.out.below hb
 clear hb
 go_wp2
 go_ret
 exact⟨rfl,HB4.out⟩
set_option maxHeartbeats 8000000 in
theorem eq_pasts (x y:Value) (l:List Ps) (w:World) (hl:(pastsD l).wt≤1048576) (hx:IsD w x (pastsD l)) (hy:IsD w y (pastsD l)):
  Calls Tryz.prog 176 #[x,y] w fun e w'=>e= .returned (.bool true)∧Below w.heap.size w w':=by
 obtain⟨a,cap,rfl,h1,h2,h⟩:=IsD.parts (c:=12) (n:=l.length) hx
 obtain⟨a',cap',rfl,h1',h2',h'⟩:=IsD.parts (c:=12) (n:=l.length) hy
 have HS:Hid ((pastsD l).wt≤1048576):=hl
 have hl2:l.length≤1048576:=by rw [pastsD_wt]at hl;omega
 clear h1 h2 h1' h2' hx hy hl
 go_enter Tryz.func176,Tryz.ntmps176
 go_wp2
 go_loopw [5] (fun i wr=>∃k:Nat,k≤l.length∧i= .int .i64 k∧Below w.heap.size w wr) (fun i _=>l.length-(intOf i).toNat)
 case atStart=>exact⟨0,Nat.zero_le _,rfl,Below.refl _ _⟩
 case round=>
  obtain⟨k,hk,rfl,hB⟩:=hrel
  have HB:Hid (Below w.heap.size w wr):=hB
  by_cases hlt:k<l.length
  ·obtain⟨b,off,rfl,hb,hc⟩:=h.resolve_left (by omega)
   obtain⟨b',off',rfl,hb',hc'⟩:=h'.resolve_left (by omega)
   obtain⟨u7,u10,u11,f0,f1,f2,f3,f4,f5,f6,f7,f8,f9,f10,f11,d7,d10,d11⟩:=pastsD_in (fun j hj=>by
    obtain⟨u,hu,hd⟩:=hc j hj
    exact⟨u,(hB.cell (p:=⟨b,off+j,none⟩) hb).trans hu,hd.under hB⟩) hlt
   obtain⟨v7,v10,v11,e0,e1,e2,e3,e4,e5,e6,e7,e8,e9,e10,e11,g7,g10,g11⟩:=pastsD_in (fun j hj=>by
    obtain⟨u,hu,hd⟩:=hc' j hj
    exact⟨u,(hB.cell (p:=⟨b',off'+j,none⟩) hb').trans hu,hd.under hB⟩) hlt
   have HD:Hid (IsPast wr.drew (.agg #[.int .i64 (psAt l k).e.t,.int .i64 (psAt l k).e.s,.int .i64 (psAt l k).e.q,.int .i64 (psAt l k).e.d,.int .i64 (psAt l k).e.k,.int .i64 (psAt l k).e.v,.int .i64 (psAt l k).e.g,u7,.int .i64 (psAt l k).b.q,.int .i64 (psAt l k).b.d,u10,u11]) (psAt l k)):=IsPast.under (w:=wr) ⟨u7,u10,u11,rfl,d7,d10,d11⟩ (Below.refl _ wr).drew
   have HG:Hid (IsPast wr.drew (.agg #[.int .i64 (psAt l k).e.t,.int .i64 (psAt l k).e.s,.int .i64 (psAt l k).e.q,.int .i64 (psAt l k).e.d,.int .i64 (psAt l k).e.k,.int .i64 (psAt l k).e.v,.int .i64 (psAt l k).e.g,v7,.int .i64 (psAt l k).b.q,.int .i64 (psAt l k).b.d,v10,v11]) (psAt l k)):=IsPast.under (w:=wr) ⟨v7,v10,v11,rfl,g7,g10,g11⟩ (Below.refl _ wr).drew
   have HW:Hid ((psAt l k).wt≤1048576):=Nat.le_trans (Ps.wt_le hlt) HS.out
   have hbr:b<wr.heap.size:=Nat.lt_of_lt_of_le hb hB.size
   have hbr':b'<wr.heap.size:=Nat.lt_of_lt_of_le hb' hB.size
   clear hB hc hc' h h' d7 d10 d11 g7 g10 g11
   go_wp2_with fail
   go_region_held3 (fun W=>W.cell? ⟨b,off+k*12,none⟩=some (.int .i64 (psAt l k).e.t)∧W.cell? ⟨b,off+k*12+1,none⟩=some (.int .i64 (psAt l k).e.s)∧W.cell? ⟨b,off+k*12+2,none⟩=some (.int .i64 (psAt l k).e.q)∧W.cell? ⟨b,off+k*12+3,none⟩=some (.int .i64 (psAt l k).e.d)∧W.cell? ⟨b,off+k*12+4,none⟩=some (.int .i64 (psAt l k).e.k)∧W.cell? ⟨b,off+k*12+5,none⟩=some (.int .i64 (psAt l k).e.v)∧W.cell? ⟨b,off+k*12+6,none⟩=some (.int .i64 (psAt l k).e.g)∧W.cell? ⟨b,off+k*12+7,none⟩=some (u7)∧W.cell? ⟨b,off+k*12+8,none⟩=some (.int .i64 (psAt l k).b.q)∧W.cell? ⟨b,off+k*12+9,none⟩=some (.int .i64 (psAt l k).b.d)∧W.cell? ⟨b,off+k*12+10,none⟩=some (u10)∧W.cell? ⟨b,off+k*12+11,none⟩=some (u11)∧W.cell? ⟨b',off'+k*12,none⟩=some (.int .i64 (psAt l k).e.t)∧W.cell? ⟨b',off'+k*12+1,none⟩=some (.int .i64 (psAt l k).e.s)∧W.cell? ⟨b',off'+k*12+2,none⟩=some (.int .i64 (psAt l k).e.q)∧W.cell? ⟨b',off'+k*12+3,none⟩=some (.int .i64 (psAt l k).e.d)∧W.cell? ⟨b',off'+k*12+4,none⟩=some (.int .i64 (psAt l k).e.k)∧W.cell? ⟨b',off'+k*12+5,none⟩=some (.int .i64 (psAt l k).e.v)∧W.cell? ⟨b',off'+k*12+6,none⟩=some (.int .i64 (psAt l k).e.g)∧W.cell? ⟨b',off'+k*12+7,none⟩=some (v7)∧W.cell? ⟨b',off'+k*12+8,none⟩=some (.int .i64 (psAt l k).b.q)∧W.cell? ⟨b',off'+k*12+9,none⟩=some (.int .i64 (psAt l k).b.d)∧W.cell? ⟨b',off'+k*12+10,none⟩=some (v10)∧W.cell? ⟨b',off'+k*12+11,none⟩=some (v11)) ((repeat' apply And.intro)<;>first|(go_keep;done)|(rw [hcA _ _ (by first|omega|(simp;omega)|simp [*])];simp [*];done))
    (first|(go_at_call 213;refine(eqPast_same _ _ (psAt l k) _ HW.out HD.out HG.out).mono ?_;rintro e w2 ⟨rfl,hb2⟩;obtain⟨hcA,hfA⟩:=bcell hb2))
   clear hcA hfA
   go_wp2
   go_roundw
   case rel=>exact⟨k+1,by omega,by go_num,HB.out.drew.trans (hb2.mono (by have:=HB.out.size;simpa using this))⟩
   case measure=>simp [intOf];omega
  ·clear hB h h'
   go_wp2
   go_ret
   exact⟨rfl,HB.out⟩
set_option maxHeartbeats 4000000 in
theorem szPart_any (x:Value) (p:Pa) (left:Int) (w:World) (h0:0≤left) (h1:left≤1048576) (h:IsPart w x p):
  Calls Tryz.prog 97 #[x,.int .i64 left] w fun e w'=>(∃r,e= .returned (.int .i64 r)∧SzR p.wt left r)∧Below w.heap.size w w':=by
 obtain⟨u1,u4,u5,u6,rfl,h1,h4,h5,h6⟩:=h
 have H1:Hid (IsD w u1 (intsD p.st.r)):=h1
 have H4:Hid (IsD w u4 (pastsD p.p)):=h4
 have H5:Hid (IsD w u5 (evsD p.t)):=h5
 have H6:Hid (IsD w u6 (intsD p.a)):=h6
 clear h1 h4 h5 h6
 obtain⟨W0,hW0⟩:∃W0,w.alloc (.cells #[.int .i64 p.n,u1,.int .i64 p.st.q,.int .i64 p.st.d,u4,u5,u6] 144)=W0:=⟨_,rfl⟩
 have HB0:Hid (Below w.heap.size w W0):=by rw [←hW0];exact(Below.refl _ w).alloc (Nat.le_refl _) _
 have HP0:Hid (Bk W0 w.heap.size 144 #[.int .i64 p.n,u1,.int .i64 p.st.q,.int .i64 p.st.d,u4,u5,u6]):=by rw [←hW0];exact Bk.new w _ _
 have HW:Hid (w.alloc (.cells #[.int .i64 p.n,u1,.int .i64 p.st.q,.int .i64 p.st.d,u4,u5,u6] 144)=W0):=hW0
 clear hW0
 go_enter Tryz.func97,Tryz.ntmps97
 have p1:=HP0.out.cell (i:=1) rfl
 have p2:=HP0.out.cell (i:=2) rfl
 have p3:=HP0.out.cell (i:=3) rfl
 go_wp2_with fail
 rw [HW.out]
 clear HW
 clear p1 p2 p3
 refine(szState_R _ p.st _ _ h0 h1 ⟨_,rfl,(H1.out.under HB0.out).isI⟩).mono ?_
 rintro e w1 ⟨⟨r1,rfl,hr⟩,hb⟩
 have HB1:Hid (Below w.heap.size w w1):=HB0.out.trans (hb.mono HB0.out.size)
 have HP1:Hid (Bk w1 w.heap.size 144 #[.int .i64 p.n,u1,.int .i64 p.st.q,.int .i64 p.st.d,u4,u5,u6]):=HP0.out.below hb
 clear hb
 rcases hr with rfl|⟨r10,hr⟩
 ·go_wp2
  go_ret
  exact⟨⟨_,rfl,.inl rfl⟩,HB1.out⟩
 have r11:r1≤1048576:=by omega
 have r12:¬(r1<0):=by omega
 have HR1:Hid (r1+((intsD p.st.r).wt:Int)=left):=hr
 clear hr
 have p4:=HP1.out.cell (i:=4) rfl
 go_wp2_with fail
 clear p4
 refine(sz_pasts _ p.p _ _ r10 r11 (H4.out.under HB1.out)).mono ?_
 rintro e w2 ⟨⟨r2,rfl,hr⟩,hb⟩
 have HB2:Hid (Below w.heap.size w w2):=HB1.out.trans (hb.mono HB1.out.size)
 have HP2:Hid (Bk w2 w.heap.size 144 #[.int .i64 p.n,u1,.int .i64 p.st.q,.int .i64 p.st.d,u4,u5,u6]):=HP1.out.below hb
 clear hb
 rcases hr with rfl|⟨r20,hr⟩
 ·go_wp2
  go_ret
  exact⟨⟨_,rfl,.inl rfl⟩,HB2.out⟩
 have r21:r2≤1048576:=by omega
 have r22:¬(r2<0):=by omega
 have HR2:Hid (r2+((pastsD p.p).wt:Int)=r1):=hr
 clear hr
 have p5:=HP2.out.cell (i:=5) rfl
 go_wp2_with fail
 clear p5
 refine(sz_evs _ p.t _ _ r20 r21 (H5.out.under HB2.out)).mono ?_
 rintro e w3 ⟨⟨r3,rfl,hr⟩,hb⟩
 have HB3:Hid (Below w.heap.size w w3):=HB2.out.trans (hb.mono HB2.out.size)
 have HP3:Hid (Bk w3 w.heap.size 144 #[.int .i64 p.n,u1,.int .i64 p.st.q,.int .i64 p.st.d,u4,u5,u6]):=HP2.out.below hb
 clear hb
 rcases hr with rfl|⟨r30,hr⟩
 ·go_wp2
  go_ret
  exact⟨⟨_,rfl,.inl rfl⟩,HB3.out⟩
 have r31:r3≤1048576:=by omega
 have r32:¬(r3<0):=by omega
 have HR3:Hid (r3+((evsD p.t).wt:Int)=r2):=hr
 clear hr
 have p6:=HP3.out.cell (i:=6) rfl
 go_wp2_with fail
 clear p6
 refine(sz_ints _ p.a _ _ r30 r31 (H6.out.under HB3.out)).mono ?_
 rintro e w4 ⟨⟨r4,rfl,hr⟩,hb⟩
 have HB4:Hid (Below w.heap.size w w4):=HB3.out.trans (hb.mono HB3.out.size)
 have HP4:Hid (Bk w4 w.heap.size 144 #[.int .i64 p.n,u1,.int .i64 p.st.q,.int .i64 p.st.d,u4,u5,u6]):=HP3.out.below hb
 clear hb
 rcases hr with rfl|⟨r40,hr⟩
 ·go_wp2
  go_ret
  exact⟨⟨_,rfl,.inl rfl⟩,HB4.out⟩
 have r41:r4≤1048576:=by omega
 have r42:¬(r4<0):=by omega
 have HR4:Hid (r4+((intsD p.a).wt:Int)=r3):=hr
 clear hr
 go_wp2
 go_ret
 refine⟨⟨_,rfl,.inr ⟨r40,?_⟩⟩,HB4.out⟩
 have:=HR1.out
 have:=HR2.out
 have:=HR3.out
 have:=HR4.out
 unfold Pa.wt
 omega
set_option maxHeartbeats 4000000 in
theorem eqPart_same (x y:Value) (p:Pa) (w:World) (hw:p.wt≤1048576) (hx:IsPart w x p) (hy:IsPart w y p):
  Calls Tryz.prog 124 #[x,y] w fun e w'=>e= .returned (.bool true)∧Below w.heap.size w w':=by
 obtain⟨u1,u4,u5,u6,rfl,h1,h4,h5,h6⟩:=hx
 obtain⟨v1,v4,v5,v6,rfl,k1,k4,k5,k6⟩:=hy
 have H1:Hid (IsD w u1 (intsD p.st.r)∧IsD w v1 (intsD p.st.r)):=⟨h1,k1⟩
 have H4:Hid (IsD w u4 (pastsD p.p)∧IsD w v4 (pastsD p.p)):=⟨h4,k4⟩
 have H5:Hid (IsD w u5 (evsD p.t)∧IsD w v5 (evsD p.t)):=⟨h5,k5⟩
 have H6:Hid (IsD w u6 (intsD p.a)∧IsD w v6 (intsD p.a)):=⟨h6,k6⟩
 have HS:Hid (p.wt≤1048576):=hw
 clear hw h1 k1 h4 k4 h5 k5 h6 k6
 obtain⟨W0,hW0⟩:∃W0,(w.alloc (.cells #[.int .i64 p.n,u1,.int .i64 p.st.q,.int .i64 p.st.d,u4,u5,u6] 97)).alloc (.cells #[.int .i64 p.n,v1,.int .i64 p.st.q,.int .i64 p.st.d,v4,v5,v6] 97)=W0:=⟨_,rfl⟩
 have HB0:Hid (Below w.heap.size w W0):=by rw [←hW0];exact((Below.refl _ w).alloc (Nat.le_refl _) _).alloc (by simp) _
 have HP0:Hid (Bk W0 w.heap.size 97 #[.int .i64 p.n,u1,.int .i64 p.st.q,.int .i64 p.st.d,u4,u5,u6]):=by rw [←hW0];exact(Bk.new w _ _).alloc _
 have HQ0:Hid (Bk W0 (w.heap.size+1) 97 #[.int .i64 p.n,v1,.int .i64 p.st.q,.int .i64 p.st.d,v4,v5,v6]):=by rw [←hW0];exact Bk.newAt (by simp) _ _
 have HW:Hid ((w.alloc (.cells #[.int .i64 p.n,u1,.int .i64 p.st.q,.int .i64 p.st.d,u4,u5,u6] 97)).alloc (.cells #[.int .i64 p.n,v1,.int .i64 p.st.q,.int .i64 p.st.d,v4,v5,v6] 97)=W0):=hW0
 clear hW0
 go_enter Tryz.func124,Tryz.ntmps124
 have p0:=HP0.out.cell (i:=0) rfl
 have q0:=HQ0.out.cell (i:=0) rfl
 have p1:=HP0.out.cell (i:=1) rfl
 have q1:=HQ0.out.cell (i:=1) rfl
 have p2:=HP0.out.cell (i:=2) rfl
 have q2:=HQ0.out.cell (i:=2) rfl
 have p3:=HP0.out.cell (i:=3) rfl
 have q3:=HQ0.out.cell (i:=3) rfl
 go_wp2_with fail
 rw [HW.out]
 clear HW
 clear p0 q0 p1 q1 p2 q2 p3 q3
 refine(eqState_same _ _ p.st _ (by have:=HS.out;unfold Pa.wt at this;simp only [evs_wt,ints_wt]at this;omega) ⟨_,rfl,(H1.out.1.under HB0.out).isI⟩ ⟨_,rfl,(H1.out.2.under HB0.out).isI⟩).mono ?_
 rintro e w1 ⟨rfl,hb⟩
 have HB1:Hid (Below w.heap.size w w1):=HB0.out.trans (hb.mono HB0.out.size)
 have HP1:Hid (Bk w1 w.heap.size 97 #[.int .i64 p.n,u1,.int .i64 p.st.q,.int .i64 p.st.d,u4,u5,u6]):=HP0.out.below hb
 have HQ1:Hid (Bk w1 (w.heap.size+1) 97 #[.int .i64 p.n,v1,.int .i64 p.st.q,.int .i64 p.st.d,v4,v5,v6]):=HQ0.out.below hb
 clear hb
 have p4:=HP1.out.cell (i:=4) rfl
 have q4:=HQ1.out.cell (i:=4) rfl
 go_wp2_with fail
 clear p4 q4
 refine(eq_pasts _ _ p.p _ (by have:=HS.out;unfold Pa.wt at this;simp only [evs_wt,ints_wt]at this;omega) (H4.out.1.under HB1.out) (H4.out.2.under HB1.out)).mono ?_
 rintro e w2 ⟨rfl,hb⟩
 have HB2:Hid (Below w.heap.size w w2):=HB1.out.trans (hb.mono HB1.out.size)
 have HP2:Hid (Bk w2 w.heap.size 97 #[.int .i64 p.n,u1,.int .i64 p.st.q,.int .i64 p.st.d,u4,u5,u6]):=HP1.out.below hb
 have HQ2:Hid (Bk w2 (w.heap.size+1) 97 #[.int .i64 p.n,v1,.int .i64 p.st.q,.int .i64 p.st.d,v4,v5,v6]):=HQ1.out.below hb
 clear hb
 have p5:=HP2.out.cell (i:=5) rfl
 have q5:=HQ2.out.cell (i:=5) rfl
 go_wp2_with fail
 clear p5 q5
 refine(eq_evs _ _ p.t _ (by have:=HS.out;unfold Pa.wt at this;simp only [evs_wt,ints_wt]at this;omega) (H5.out.1.under HB2.out) (H5.out.2.under HB2.out)).mono ?_
 rintro e w3 ⟨rfl,hb⟩
 have HB3:Hid (Below w.heap.size w w3):=HB2.out.trans (hb.mono HB2.out.size)
 have HP3:Hid (Bk w3 w.heap.size 97 #[.int .i64 p.n,u1,.int .i64 p.st.q,.int .i64 p.st.d,u4,u5,u6]):=HP2.out.below hb
 have HQ3:Hid (Bk w3 (w.heap.size+1) 97 #[.int .i64 p.n,v1,.int .i64 p.st.q,.int .i64 p.st.d,v4,v5,v6]):=HQ2.out.below hb
 clear hb
 have p6:=HP3.out.cell (i:=6) rfl
 have q6:=HQ3.out.cell (i:=6) rfl
 go_wp2_with fail
 clear p6 q6
 refine(eq_ints _ _ p.a _ (by have:=HS.out;unfold Pa.wt at this;simp only [evs_wt,ints_wt]at this;omega) (H6.out.1.under HB3.out) (H6.out.2.under HB3.out)).mono ?_
 rintro e w4 ⟨rfl,hb⟩
 have HB4:Hid (Below w.heap.size w w4):=HB3.out.trans (hb.mono HB3.out.size)
 have HP4:Hid (Bk w4 w.heap.size 97 #[.int .i64 p.n,u1,.int .i64 p.st.q,.int .i64 p.st.d,u4,u5,u6]):=HP3.out.below hb
 have HQ4:Hid (Bk w4 (w.heap.size+1) 97 #[.int .i64 p.n,v1,.int .i64 p.st.q,.int .i64 p.st.d,v4,v5,v6]):=HQ3.out.below hb
 clear hb
 go_wp2
 go_ret
 exact⟨rfl,HB4.out⟩
set_option maxHeartbeats 4000000 in
theorem sz_parts (x:Value) (l:List Pa) (left:Int) (w:World) (h0:0≤left) (h1:left≤1048576) (h:IsD w x (partsD l)):
  Calls Tryz.prog 54 #[x,.int .i64 left] w fun e w'=>(∃r,e= .returned (.int .i64 r)∧SzR (partsD l).wt left r)∧Below w.heap.size w w':=by
 obtain⟨a,cap,rfl,hn1,hn,h⟩:=IsD.parts (c:=7) (n:=l.length) h
 have hn2:l.length≤9223372036854775807:=by unfold maxLen at hn;omega
 clear hn1 hn
 by_cases hp:left-(l.length:Int)<0
 ·go_enter Tryz.func54,Tryz.ntmps54
  go_wp2
  go_ret
  exact⟨⟨_,rfl,.inl rfl⟩,Below.refl _ _⟩
 ·have HLF:Hid (0≤left-(l.length:Int)):=(by omega:0≤left-(l.length:Int))
  go_enter Tryz.func54,Tryz.ntmps54
  go_wp2
  go_loopw [5,1] (fun i z wr=>∃k:Nat,k≤l.length∧i= .int .i64 k∧Below w.heap.size w wr∧ ∃lf:Int,z= .int .i64 lf∧0≤lf∧lf+(l.length:Int)+(sumL (fun i=>(paAt l i).wt) k:Int)=left) (fun i _ _=>l.length-(intOf i).toNat)
  case atStart=>exact⟨0,Nat.zero_le _,rfl,Below.refl _ _,left-(l.length:Int),rfl,HLF.out,by simp [sumL]⟩
  case round=>
   obtain⟨k,hk,rfl,hB,lf2,rfl,hz0,hz1⟩:=hrel
   have HZ:Hid (lf2+(l.length:Int)+(sumL (fun i=>(paAt l i).wt) k:Int)=left):=hz1
   have HB:Hid (Below w.heap.size w wr):=hB
   have hz2:lf2≤1048576:=by omega
   clear hz1
   by_cases hlt:k<l.length
   ·obtain⟨b,off,rfl,hb,hc⟩:=h.resolve_left (by omega)
    obtain⟨u1,u4,u5,u6,f0,f1,f2,f3,f4,f5,f6,d1,d4,d5,d6⟩:=partsD_in (fun j hj=>by
     obtain⟨u,hu,hd⟩:=hc j hj
     exact⟨u,(hB.cell (p:=⟨b,off+j,none⟩) hb).trans hu,hd.under hB⟩) hlt
    have HD:Hid (IsPart wr (.agg #[.int .i64 (paAt l k).n,u1,.int .i64 (paAt l k).st.q,.int .i64 (paAt l k).st.d,u4,u5,u6]) (paAt l k)):=⟨u1,u4,u5,u6,rfl,d1,d4,d5,d6⟩
    clear h hc hB d1 d4 d5 d6
    go_wp2_with fail
    clear f0 f1 f2 f3 f4 f5 f6
    refine(szPart_any _ (paAt l k) _ _ hz0 hz2 HD.out).mono ?_
    rintro e w2 ⟨⟨r,rfl,hr⟩,hb2⟩
    have HB2:Hid (Below w.heap.size w w2):=HB.out.trans (hb2.mono HB.out.size)
    clear hb2
    rcases hr with rfl|⟨r0,hr⟩
    ·go_wp2
     go_ret
     exact⟨⟨_,rfl,.inl rfl⟩,HB2.out⟩
    ·have HR:Hid (r+((paAt l k).wt:Int)=lf2):=hr
     have r2:¬(r<0):=by omega
     clear hr
     go_wp2
     go_roundw
     case rel=>exact⟨k+1,by omega,by go_num,HB2.out,r,rfl,r0,by have:=HR.out;have:=HZ.out;simp only [sumL];omega⟩
     case measure=>simp [intOf];omega
   ·clear h hB
    go_wp2
    go_ret
    obtain rfl:k=l.length:=by omega
    exact⟨⟨_,rfl,.inr ⟨hz0,by rw [partsD_wt];have:=HZ.out;omega⟩⟩,HB.out⟩
structure Ml where
 e:Ev
 a:Bool
def mlAt (l:List Ml) (i:Nat):Ml:=l.getD i ⟨⟨0,0,0,0,0,0,0⟩,false⟩
def Ml.cs (m:Ml):List Value:= [.int .i64 m.e.t,.int .i64 m.e.s,.int .i64 m.e.q,.int .i64 m.e.d,.int .i64 m.e.k,.int .i64 m.e.v,.int .i64 m.e.g,.bool m.a]
def cellsMl:List Ml→List Value
 | []=> []
 |e::l=>e.cs++cellsMl l
theorem mlAt_cons_succ (e:Ml) (l:List Ml) (i:Nat):mlAt (e::l) (i+1)=mlAt l i:=by simp [mlAt]
theorem cellsMl_get:∀(l:List Ml) (i r:Nat),i<l.length→r<8→(cellsMl l)[i*8+r]? =(mlAt l i).cs[r]?
 | [],_,_,h,_=>by simp at h
 |e::l,0,r,_,hr=>by
  have:r<e.cs.length:=by simpa [Ml.cs] using hr
  simp only [cellsMl,Nat.zero_mul,Nat.zero_add]
  rw [List.getElem?_append_left this]
  simp [mlAt]
 |e::l,i+1,r,h,hr=>by
  have h1:=cellsMl_get l i r (by simpa using h) hr
  have:e.cs.length≤(i+1)*8+r:=by simp [Ml.cs];omega
  simp only [cellsMl]
  rw [List.getElem?_append_right this,mlAt_cons_succ,←h1]
  congr 1
  simp [Ml.cs];omega
structure MlAt (w:World) (b o:Nat) (m:Ml):Prop where
 f0:w.cell? ⟨b,o,none⟩=some (.int .i64 m.e.t)
 f1:w.cell? ⟨b,o+1,none⟩=some (.int .i64 m.e.s)
 f2:w.cell? ⟨b,o+2,none⟩=some (.int .i64 m.e.q)
 f3:w.cell? ⟨b,o+3,none⟩=some (.int .i64 m.e.d)
 f4:w.cell? ⟨b,o+4,none⟩=some (.int .i64 m.e.k)
 f5:w.cell? ⟨b,o+5,none⟩=some (.int .i64 m.e.v)
 f6:w.cell? ⟨b,o+6,none⟩=some (.int .i64 m.e.g)
 f7:w.cell? ⟨b,o+7,none⟩=some (.bool m.a)
theorem MlAt.below {w w':World} {B b o:Nat} {m:Ml} (h:MlAt w b o m) (hb:Below B w w') (hlt:b<B):MlAt w' b o m:=
 ⟨(hb.cell hlt).trans h.f0,(hb.cell hlt).trans h.f1,(hb.cell hlt).trans h.f2,(hb.cell hlt).trans h.f3,(hb.cell hlt).trans h.f4,(hb.cell hlt).trans h.f5,(hb.cell hlt).trans h.f6,(hb.cell hlt).trans h.f7⟩
def MlsAt (w:World) (b off:Nat) (l:List Ml):Prop:=b<w.heap.size∧ ∀i,i<l.length→MlAt w b (off+i*8) (mlAt l i)
def IsMl (w:World) (x:Value) (l:List Ml):Prop:=∃a cap,x= .slice a l.length cap∧l.length≤cap∧cap≤maxLen∧(l= []∨ ∃b off,a=some ⟨b,off,none⟩∧MlsAt w b off l)
def mailsD (l:List Ml):Dat:=flat 8 l.length (cellsMl l)
theorem IsMl.isD {w:World} {x:Value} {l:List Ml} (h:IsMl w x l):IsD w x (mailsD l):=by
 obtain⟨a,cap,rfl,h1,h2,h⟩:=h
 refine IsD.of_parts h1 h2 (h.imp (fun e=>by rw [e];rfl) ?_)
 rintro ⟨b,off,rfl,hb,hc⟩
 refine⟨b,off,rfl,hb,fun j hj=> ?_⟩
 have hi:j/8<l.length:=by omega
 have hr:j%8<8:=by omega
 have hE:=hc (j/8) hi
 have hg:=cellsMl_get l (j/8) (j%8) hi hr
 rw [show j/8*8+j%8=j from by omega]at hg
 have hall:∀r,r<8→ ∃u,w.cell? ⟨b,off+j/8*8+r,none⟩=some u∧(mlAt l (j/8)).cs[r]? =some u:=fun r hr=>by
  match r,hr with
  |0,_=>exact⟨_,hE.f0,rfl⟩
  |1,_=>exact⟨_,hE.f1,rfl⟩
  |2,_=>exact⟨_,hE.f2,rfl⟩
  |3,_=>exact⟨_,hE.f3,rfl⟩
  |4,_=>exact⟨_,hE.f4,rfl⟩
  |5,_=>exact⟨_,hE.f5,rfl⟩
  |6,_=>exact⟨_,hE.f6,rfl⟩
  |7,_=>exact⟨_,hE.f7,rfl⟩
 obtain⟨u,h3,h4⟩:=hall _ hr
 refine⟨u,by rw [←h3];congr 2;omega,?_⟩
 rw [show(cellsMl l).getD j (.int .i64 0)=u from getD_of (hg.trans h4)]
 exact .val _
theorem IsD.isMl {w:World} {x:Value} {l:List Ml} (h:IsD w x (mailsD l)):IsMl w x l:=by
 obtain⟨a,cap,rfl,h1,h2,h⟩:=IsD.parts (c:=8) (n:=l.length) h
 refine⟨a,cap,rfl,h1,h2,h.imp List.eq_nil_of_length_eq_zero ?_⟩
 rintro ⟨b,off,rfl,hb,hc⟩
 refine⟨b,off,rfl,hb,fun i hi=> ?_⟩
 have hget:∀r,r<8→w.cell? ⟨b,off+i*8+r,none⟩=(mlAt l i).cs[r]? :=fun r hr=>by
  obtain⟨u,hu,hd⟩:=hc (i*8+r) (by omega)
  rw [Nat.add_assoc,hu,hd.val_eq]
  have hg:=cellsMl_get l i r hi hr
  have:r<(mlAt l i).cs.length:=by simpa [Ml.cs] using hr
  rw [List.getElem?_eq_getElem this]at hg⊢
  rw [getD_of hg]
 exact⟨hget 0 (by omega),hget 1 (by omega),hget 2 (by omega),hget 3 (by omega),hget 4 (by omega),hget 5 (by omega),hget 6 (by omega),hget 7 (by omega)⟩
theorem mails_wt (l:List Ml):(mailsD l).wt=l.length:=flat_wt _ _ _
theorem mails_thin (l:List Ml):(mailsD l).thin:=flat_thin (by omega)
set_option maxHeartbeats 400000 in
theorem szMl_any (a:Option Addr) (n cap:Nat) (left:Int) (w:World) (hn:n≤maxLen) (h0:0≤left) (h1:left≤1048576):
  Calls Tryz.prog 55 #[.slice a n cap,.int .i64 left] w fun e w'=>e= .returned (.int .i64 (szN n left))∧w'=w:=by
 unfold maxLen at hn
 by_cases hp:left-(n:Int)<0
 ·go_enter Tryz.func55,Tryz.ntmps55
  go_wp2
  go_ret
  exact⟨ret_int (by unfold szN;rw [if_pos hp]),rfl⟩
 ·go_enter Tryz.func55,Tryz.ntmps55
  go_wp2
  go_ret
  exact⟨ret_int (by unfold szN;rw [if_neg (by omega)]),rfl⟩
theorem sz_mails (x:Value) (l:List Ml) (left:Int) (w:World) (h0:0≤left) (h1:left≤1048576) (h:IsD w x (mailsD l)):
  Calls Tryz.prog 55 #[x,.int .i64 left] w fun e w'=>(∃r,e= .returned (.int .i64 r)∧SzR (mailsD l).wt left r)∧Below w.heap.size w w':=by
 obtain⟨a,cap,rfl,hn⟩:=IsD.len (c:=8) (n:=l.length) h
 refine(szMl_any a l.length cap left w hn h0 h1).mono ?_
 rintro e w' ⟨rfl,rfl⟩
 exact⟨⟨_,rfl,by rw [mails_wt];exact szN_R _ _⟩,Below.refl _ _⟩
set_option maxHeartbeats 1000000 in
theorem eqMail_same (t s q d k v g:Int) (b:Bool) (w:World):
  Calls Tryz.prog 125 #[.agg #[.int .i64 t,.int .i64 s,.int .i64 q,.int .i64 d,.int .i64 k,.int .i64 v,.int .i64 g,.bool b],.agg #[.int .i64 t,.int .i64 s,.int .i64 q,.int .i64 d,.int .i64 k,.int .i64 v,.int .i64 g,.bool b]] w fun e w'=>e= .returned (.bool true)∧Below w.heap.size w w':=by
 obtain⟨W0,hW0⟩:∃V,(w.alloc (.cells #[.int .i64 t,.int .i64 s,.int .i64 q,.int .i64 d,.int .i64 k,.int .i64 v,.int .i64 g,.bool b] 148)).alloc (.cells #[.int .i64 t,.int .i64 s,.int .i64 q,.int .i64 d,.int .i64 k,.int .i64 v,.int .i64 g,.bool b] 148)=V:=⟨_,rfl⟩
 have hb0:Below w.heap.size w W0:=hW0▸((Below.refl _ w).alloc (Nat.le_refl _) _).alloc (by simp) _
 have HB0:Hid (Below w.heap.size w W0):=hb0
 have B1:Hid (Bk W0 w.heap.size 148 #[.int .i64 t,.int .i64 s,.int .i64 q,.int .i64 d,.int .i64 k,.int .i64 v,.int .i64 g,.bool b]):=hW0▸(Bk.new w _ _).alloc _
 have B2:Hid (Bk W0 (w.heap.size+1) 148 #[.int .i64 t,.int .i64 s,.int .i64 q,.int .i64 d,.int .i64 k,.int .i64 v,.int .i64 g,.bool b]):=hW0▸Bk.newAt (by simp) _ _
 clear hb0
 have x0:=B1.out.cell (i:=0) rfl
 have x1:=B1.out.cell (i:=1) rfl
 have x2:=B1.out.cell (i:=2) rfl
 have x3:=B1.out.cell (i:=3) rfl
 have x4:=B1.out.cell (i:=4) rfl
 have x5:=B1.out.cell (i:=5) rfl
 have x6:=B1.out.cell (i:=6) rfl
 have y0:=B2.out.cell (i:=0) rfl
 have y1:=B2.out.cell (i:=1) rfl
 have y2:=B2.out.cell (i:=2) rfl
 have y3:=B2.out.cell (i:=3) rfl
 have y4:=B2.out.cell (i:=4) rfl
 have y5:=B2.out.cell (i:=5) rfl
 have y6:=B2.out.cell (i:=6) rfl
 go_enter Tryz.func125,Tryz.ntmps125
 go_wp2_with fail
 clear hW0 x0 y0 x1 y1 x2 y2 x3 y3 x4 y4 x5 y5 x6 y6
 refine(eqEvent_same _ _ _ _ _ _ _ _).mono ?_
 rintro r w1 ⟨rfl,hb⟩
 have x7:=(B1.out.below hb).cell (i:=7) rfl
 have y7:=(B2.out.below hb).cell (i:=7) rfl
 have HB1:Hid (Below w.heap.size w w1):=HB0.out.trans (hb.mono HB0.out.size)
 clear hb
 cases b<;>(go_wp2;go_ret;exact⟨rfl,HB1.out⟩)
set_option maxHeartbeats 1000000 in
theorem eqMl_same (x y:Value) (l:List Ml) (w:World) (hl:l.length≤1048576) (hx:IsMl w x l) (hy:IsMl w y l):
  Calls Tryz.prog 67 #[x,y] w fun e w'=>e= .returned (.bool true)∧Below w.heap.size w w':=by
 obtain⟨a,cap,rfl,h1,h2,h⟩:=hx
 obtain⟨a',cap',rfl,h1',h2',h'⟩:=hy
 clear h1 h2 h1' h2'
 by_cases hz:l= []
 ·subst hz
  clear h h'
  go_enter Tryz.func67,Tryz.ntmps67
  go_wp2
  go_loop [5] (fun i=>i= .int .i64 0) (fun _=>0)
  case atStart=>rfl
  case round=>
   subst hrel
   go_wp2
   go_ret
   exact⟨rfl,Below.refl _ _⟩
 ·obtain⟨b,off,rfl,hb,hc⟩:=h.resolve_left hz
  obtain⟨b',off',rfl,hb',hc'⟩:=h'.resolve_left hz
  clear h h' hz
  go_enter Tryz.func67,Tryz.ntmps67
  go_wp2
  go_loopw [5] (fun i wr=>∃k:Nat,k≤l.length∧i= .int .i64 k∧Below w.heap.size w wr) (fun i _=>l.length-(intOf i).toNat)
  case atStart=>exact⟨0,Nat.zero_le _,rfl,Below.refl _ _⟩
  case round=>
   obtain⟨k,hk,rfl,hB⟩:=hrel
   have HB:Hid (Below w.heap.size w wr):=hB
   by_cases hlt:k<l.length
   ·obtain⟨f0,f1,f2,f3,f4,f5,f6,f7⟩:=(hc k hlt).below hB hb
    obtain⟨e0,e1,e2,e3,e4,e5,e6,e7⟩:=(hc' k hlt).below hB hb'
    have hbr:b<wr.heap.size:=Nat.lt_of_lt_of_le hb hB.size
    have hbr':b'<wr.heap.size:=Nat.lt_of_lt_of_le hb' hB.size
    clear hB hc hc'
    go_wp2_with fail
    go_region_held3 (fun W=>W.cell? ⟨b,off+k*8,none⟩=some (.int .i64 (mlAt l k).e.t)∧W.cell? ⟨b,off+k*8+1,none⟩=some (.int .i64 (mlAt l k).e.s)∧W.cell? ⟨b,off+k*8+2,none⟩=some (.int .i64 (mlAt l k).e.q)∧W.cell? ⟨b,off+k*8+3,none⟩=some (.int .i64 (mlAt l k).e.d)∧W.cell? ⟨b,off+k*8+4,none⟩=some (.int .i64 (mlAt l k).e.k)∧W.cell? ⟨b,off+k*8+5,none⟩=some (.int .i64 (mlAt l k).e.v)∧W.cell? ⟨b,off+k*8+6,none⟩=some (.int .i64 (mlAt l k).e.g)∧W.cell? ⟨b,off+k*8+7,none⟩=some (.bool (mlAt l k).a)∧W.cell? ⟨b',off'+k*8,none⟩=some (.int .i64 (mlAt l k).e.t)∧W.cell? ⟨b',off'+k*8+1,none⟩=some (.int .i64 (mlAt l k).e.s)∧W.cell? ⟨b',off'+k*8+2,none⟩=some (.int .i64 (mlAt l k).e.q)∧W.cell? ⟨b',off'+k*8+3,none⟩=some (.int .i64 (mlAt l k).e.d)∧W.cell? ⟨b',off'+k*8+4,none⟩=some (.int .i64 (mlAt l k).e.k)∧W.cell? ⟨b',off'+k*8+5,none⟩=some (.int .i64 (mlAt l k).e.v)∧W.cell? ⟨b',off'+k*8+6,none⟩=some (.int .i64 (mlAt l k).e.g)∧W.cell? ⟨b',off'+k*8+7,none⟩=some (.bool (mlAt l k).a)) ((repeat' apply And.intro)<;>first|(go_keep;done)|(rw [hcA _ _ (by first|omega|(simp;omega)|simp [*])];simp [*];done))
     (first|(go_at_call 125;refine(eqMail_same _ _ _ _ _ _ _ _ _).mono ?_;rintro e w2 ⟨rfl,hb2⟩;obtain⟨hcA,hfA⟩:=bcell hb2))
    clear hcA hfA
    go_wp2
    go_roundw
    case rel=>exact⟨k+1,by omega,by go_num,HB.out.drew.trans (hb2.mono (by have:=HB.out.size;simpa using this))⟩
    case measure=>simp [intOf];omega
   ·clear hB hc hc'
    go_wp2
    go_ret
    exact⟨rfl,HB.out⟩
theorem eq_mails (x y:Value) (l:List Ml) (w:World) (hl:l.length≤1048576) (hx:IsD w x (mailsD l)) (hy:IsD w y (mailsD l)):
  Calls Tryz.prog 67 #[x,y] w fun e w'=>e= .returned (.bool true)∧Below w.heap.size w w':=
 eqMl_same x y l w hl hx.isMl hy.isMl
structure Kn where
 m:Md
 d:List Int
 p:List Pa
 b:List Ml
 t:Int
 q:Int
 f:Bool
 s:List Ev
 x:List Em
def Kn.wt (k:Kn):Nat:=(intsD k.d).wt+(partsD k.p).wt+(mailsD k.b).wt+(evsD k.s).wt+(emsD k.x).wt
def SmallK (k:Kn):Prop:=SmallM k.m∧k.wt≤1048576
def IsKern (w:World) (x:Value) (k:Kn):Prop:=∃vi vh vs u6 u7 u8 u12 u13,x= .agg #[.int .i64 k.m.n,.int .i64 k.m.s,vi,vh,vs,.int .i64 k.m.z,u6,u7,u8,.int .i64 k.t,.int .i64 k.q,.bool k.f,u12,u13]∧IsM w (.agg #[.int .i64 k.m.n,.int .i64 k.m.s,vi,vh,vs,.int .i64 k.m.z]) k.m∧IsD w u6 (intsD k.d)∧IsD w u7 (partsD k.p)∧IsD w u8 (mailsD k.b)∧IsD w u12 (evsD k.s)∧IsD w u13 (emsD k.x)
theorem IsKern.under {w w':World} {x:Value} {k:Kn} (h:IsKern w x k) (hb:Below w.heap.size w w'):IsKern w' x k:=by
 obtain⟨vi,vh,vs,u6,u7,u8,u12,u13,rfl,hm,h6,h7,h8,h12,h13⟩:=h
 exact⟨vi,vh,vs,u6,u7,u8,u12,u13,rfl,hm.below hb,h6.under hb,h7.under hb,h8.under hb,h12.under hb,h13.under hb⟩
end Go.Proofs.YtmobiieoecjmdaaGreat

