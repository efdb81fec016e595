/- CpS, KCm, KCk, HiK, CoS -/
import Derived.Test.YtghndljgadpijaaGreatExactCollectG17
import Derived.Test.YtghndljgadpijaaGreatExactCollectG01
import Derived.Test.YtghndljgadpijaaGreatExactCollectLKOm
import Derived.Test.YtghndljgadpijaaGreatExactCollectG18
import Derived.Test.YtghndljgadpijaaGreatExactCollectG36
import Derived.Test.YtghndljgadpijaaGreatExactCollectG21
import Derived.Test.YtghndljgadpijaaGreatExactCollectG03
import Derived.Test.YtghndljgadpijaaGreatExactCollectG06
import Derived.Test.YtghndljgadpijaaGreatExactCollectLCtS
import Derived.Test.YtghndljgadpijaaGreatExactCollectLKSg
/- The program's copies of rows of parts and of mails. -/
namespace Go.Proofs.YtghndljgadpijaaGreat
set_option maxHeartbeats 2000000
set_option maxRecDepth 100000
open Go.RowKit
theorem hidCpS {p:Prop} (h:p):Hid p:=h
theorem zoh:(Tryz.prog.info? 97).map (fun i=>(i.zero,i.size,i.bytes))=some (some (.agg #[.int .i64 0,.slice none 0 0,.int .i64 0,.int .i64 0,.slice none 0 0,.slice none 0 0,.slice none 0 0]),7,120):=by kernel_rfl
theorem zoi:(Tryz.prog.info? 152).map (fun i=>(i.zero,i.size,i.bytes))=some (some (.agg #[.int .i64 0,.int .i64 0,.int .i64 0,.int .i64 0,.int .i64 0,.int .i64 0,.int .i64 0,.bool false]),8,64):=by kernel_rfl
theorem zmr (x:Value) (n:Nat) (cs:List Value) (w:World) (hl:n≤1048577) (h1:∀u∈cs,u.oneCell'=true) (h:SrcC w x 7 n cs):
    Calls Tryz.prog 121 #[x] w fun e w'=>∃y,e= .returned y∧w'.ownsRow w.heap.size 97 7 y n cs∧Below w.heap.size w w':=by
  obtain⟨i0,hi,hz0,hz1,hz2⟩:=info_parts zoh
  have HS:Hid (SrcC w x 7 n cs):=h
  have H1:=hidCpS h1
  obtain⟨_,a,c,rfl,_⟩:=h
  clear h1
  go_enter Tryz.func121,Tryz.ntmps121
  go_wp2_with (at_builtin;refine ywg _ rfl _ _ 37 rfl w.heap.size 97 i0 _ 7 120 Tryz.underlying37 hi hz0 hz1 hz2 rfl (by decide) (.slice none 0 0) 0 [] rfl (World.ownsRow_nil w w.heap.size 97 7) (.slice a n c) n cs rfl HS.out H1.out (by unfold maxLen;omega) (by omega) (Nat.le_refl _) ?_;intro v' w' hown hgrow hnew)
  go_ret
  rw [Nat.zero_add,List.nil_append]at hown
  exact⟨_,rfl,hown,(Below.refl _ w).grown hgrow (Nat.le_refl _) (fun k e=>by cases e)⟩
theorem zmt (x:Value) (n:Nat) (cs:List Value) (w:World) (hl:n≤1048577) (h1:∀u∈cs,u.oneCell'=true) (h:SrcC w x 8 n cs):
    Calls Tryz.prog 122 #[x] w fun e w'=>∃y,e= .returned y∧w'.ownsRow w.heap.size 152 8 y n cs∧Below w.heap.size w w':=by
  obtain⟨i0,hi,hz0,hz1,hz2⟩:=info_parts zoi
  have HS:Hid (SrcC w x 8 n cs):=h
  have H1:=hidCpS h1
  obtain⟨_,a,c,rfl,_⟩:=h
  clear h1
  go_enter Tryz.func122,Tryz.ntmps122
  go_wp2_with (at_builtin;refine ywg _ rfl _ _ 38 rfl w.heap.size 152 i0 _ 8 64 Tryz.underlying38 hi hz0 hz1 hz2 rfl (by decide) (.slice none 0 0) 0 [] rfl (World.ownsRow_nil w w.heap.size 152 8) (.slice a n c) n cs rfl HS.out H1.out (by unfold maxLen;omega) (by omega) (Nat.le_refl _) ?_;intro v' w' hown hgrow hnew)
  go_ret
  rw [Nat.zero_add,List.nil_append]at hown
  exact⟨_,rfl,hown,(Below.refl _ w).grown hgrow (Nat.le_refl _) (fun k e=>by cases e)⟩
set_option maxHeartbeats 16000000
set_option maxRecDepth 100000
open Go.RowKit
theorem yx6 {p:Prop} (h:p):Hid p:=h
theorem zms (x:Value) (l:List O) (w:World) (hl:l.length≤1048577) (h:SrcC w x 4 l.length (yyv l)):
    Calls Tryz.prog 187 #[x] w fun e w'=>∃y,e= .returned y∧w'.ownsRow w.heap.size 244 4 y l.length (yyv l)∧Below w.heap.size w w':=by
  obtain⟨i0,hi,hz0,hz1,hz2⟩:=info_parts zki
  have HS:=yx6 h
  obtain⟨_,a,c,rfl,_⟩:=h
  go_enter Tryz.func187,Tryz.ntmps187
  go_wp2_with (at_builtin;refine ywg _ rfl _ _ 241 rfl w.heap.size 244 i0 _ 4 32 Tryz.underlying241 hi hz0 hz1 hz2 rfl (by decide) (.slice none 0 0) 0 [] rfl (World.ownsRow_nil w w.heap.size 244 4) (.slice a l.length c) l.length (yyv l) rfl HS.out (zfw l) (by unfold maxLen;omega) (by omega) (Nat.le_refl _) ?_;intro v' w' hown hgrow hnew)
  go_ret
  rw [Nat.zero_add,List.nil_append]at hown
  exact⟨_,rfl,hown,(Below.refl _ w).grown hgrow (Nat.le_refl _) (fun k e=>by cases e)⟩
theorem zmq (x:Value) (l:List Value) (w:World) (hl:l.length≤1048577) (h1:∀u∈l,u.oneCell'=true) (h:SrcC w x 1 l.length l):
    Calls Tryz.prog 186 #[x] w fun e w'=>∃y,e= .returned y∧w'.ownsRow w.heap.size 241 1 y l.length l∧Below w.heap.size w w':=by
  have H1:=yx6 h1
  clear h1
  have HS:=yx6 h
  obtain⟨hz9,a,c,rfl,_⟩:=h
  clear hz9
  go_enter Tryz.func186,Tryz.ntmps186
  go_wp2_with (at_builtin;obtain⟨i0,hi,hz0,hz1,hz2⟩:=info_parts infoSS;refine ywg _ rfl _ _ 33 rfl w.heap.size 241 i0 _ 1 24 Tryz.underlying33 hi hz0 hz1 hz2 rfl (by decide) (.slice none 0 0) 0 [] rfl (World.ownsRow_nil w w.heap.size 241 1) (.slice a l.length c) l.length l rfl HS.out H1.out (by unfold maxLen;omega) (by omega) (Nat.le_refl _) ?_;intro v' w' hown hgrow hnew)
  go_ret
  rw [Nat.zero_add,List.nil_append]at hown
  exact⟨_,rfl,hown,(Below.refl _ w).grown hgrow (Nat.le_refl _) (fun k e=>by cases e)⟩
theorem owns_set {w:World} {B:Nat} {e:TypeId} {size n g o:Nat} {v u:Value} {xs:List Value} (h:w.ownsRow B e size v n xs) (hv:v.ownBlock=some g):(w.setCell ⟨g,o,none⟩ u).ownsRow B e size v n (xs.set o u):=by
  obtain⟨hl,⟨rfl,_⟩|⟨g',cap,cur,rfl,hg,hc,h1,h2,h3,h4⟩⟩:=h
  · simp [Value.ownBlock]at hv
  · simp [Value.ownBlock]at hv
    subst hv
    obtain⟨hlt,hx⟩:=Array.getElem?_eq_some_iff.1 hc
    refine⟨by simp [hl],.inr ⟨g',cap,cur.setIfInBounds o u,rfl,hg,?_,h1,h2,by simp [h3],?_⟩⟩
    · simp [World.setCell,hlt,Array.getElem_modify,hx]
    · rw [←h4,Array.toList_setIfInBounds,List.take_set]
theorem zho {w:World} {B:Nat} {e:TypeId} {size n:Nat} {v:Value} {xs:List Value} (h:w.ownsRow B e size v n xs) (hn:0<n):∃g cap,v= .slice (some ⟨g,0,none⟩) n cap∧B≤g∧(∀j,j<n*size→w.cell? ⟨g,j,none⟩=xs[j]?)∧ ∀j,w.frozen? ⟨g,j,none⟩=false:=by
  obtain⟨hl,⟨rfl,h0⟩|⟨g,cap,cur,rfl,hg,hc,h1,h2,h3,h4⟩⟩:=h
  · omega
  · refine⟨g,cap,rfl,hg,fun j hj=> ?_,fun j=>by simp [World.frozen?,hc]⟩
    rw [←h4,List.getElem?_take_of_lt hj]
    simp [World.cell?,hc]
theorem rows_src {w:World} {x:Value} {l:List (List O)} (h:IsH w x l):∃os:List Value,SrcC w x 1 l.length os∧os.length=l.length∧Hid (∀k,k<l.length→ ∃u,os[k]? =some u∧IsO w u (hAt l k)):=by
  obtain⟨a,cap,rfl,_,_,h⟩:=h
  rcases h with rfl|⟨b,off,rfl,hb,hc⟩
  · exact⟨[],⟨rfl,_,_,rfl,.inl rfl⟩,rfl,fun k hk=>by simp at hk⟩
  · have hall:∀n,n≤l.length→ ∃os:List Value,os.length=n∧ ∀k,k<n→ ∃u,os[k]? =some u∧w.cell? ⟨b,off+k,none⟩=some u∧IsO w u (hAt l k):=by
      intro n
      induction n with
      |zero=>intro _;exact⟨[],rfl,fun k hk=>by omega⟩
      |succ n ih=>
        intro hn
        obtain⟨os,hl,ho⟩:=ih (by omega)
        obtain⟨u,hu,hi⟩:=hc n (by omega)
        refine⟨os++ [u],by simp [hl],fun k hk=> ?_⟩
        by_cases hkn:k<n
        · obtain⟨v,h1,h2⟩:=ho k hkn
          exact⟨v,by rw [List.getElem?_append_left (by omega)];exact h1,h2⟩
        · obtain rfl:k=n:=by omega
          exact⟨u,by rw [List.getElem?_append_right (by omega),hl];simp,hu,hi⟩
    obtain⟨os,hl,ho⟩:=hall l.length (Nat.le_refl _)
    refine⟨os,⟨by omega,_,_,rfl,.inr ⟨b,off,rfl,hb,fun j hj=> ?_⟩⟩,hl,fun k hk=> ?_⟩
    · obtain⟨u,h1,h2,_⟩:=ho j (by omega)
      rw [h1,h2]
    · obtain⟨u,h1,_,h3⟩:=ho k hk
      exact⟨u,h1,h3⟩
theorem rows_one {w:World} {l:List (List O)} {os:List Value} (h:∀k,k<l.length→ ∃u,os[k]? =some u∧IsO w u (hAt l k)) (hl:os.length=l.length):∀u∈os,u.oneCell'=true:=by
  intro u hu
  obtain⟨k,hk,rfl⟩:=List.getElem_of_mem hu
  obtain⟨u,h1,h2⟩:=h k (by omega)
  obtain⟨a,c,rfl,_⟩:=h2
  rw [List.getElem?_eq_getElem hk]at h1
  rw [Option.some.inj h1]
  rfl
structure CmS (B:Nat) (w:World) (m:Md) (vi vh vs:Value) (os us:List Value) (k:Nat):Prop where
  i:w.ownsRow B 3 1 vi m.i.length (intCells m.i)
  e:w.ownsRow B 90 7 vs m.e.length (yvz m.e)
  h:w.ownsRow B 241 1 vh m.h.length (us++os.drop k)
  l:os.length=m.h.length
  u:HsO B w us (m.h.take k)
  k:k≤m.h.length
theorem CmS.len {B:Nat} {w:World} {m:Md} {vi vh vs:Value} {os us:List Value} {k:Nat} (h:CmS B w m vi vh vs os us k):us.length=k:=by
  have h1:=h.u.1
  have h2:=h.k
  rw [List.length_take]at h1
  omega
theorem CmS.turns {S:Nat→Prop} {B:Nat} {w w':World} {m:Md} {vi vh vs:Value} {os us:List Value} {k:Nat} (h:CmS B w m vi vh vs os us k) (ht:Turns S w w') (hS:∀j,B≤j→ ¬S j):CmS B w' m vi vh vs os us k:=
  ⟨ypa h.i ht (fun j hj=>hS j (yx4 h.i hj)),ypa h.e ht (fun j hj=>hS j (yx4 h.e hj)),ypa h.h ht (fun j hj=>hS j (yx4 h.h hj)),h.l,h.u.turns ht (fun i j hi hj=>hS j (yx4 (h.u.2.1 i hi) hj)),h.k⟩
theorem CmS.below {B:Nat} {w w':World} {m:Md} {vi vh vs:Value} {os us:List Value} {k:Nat} (h:CmS B w m vi vh vs os us k) (hb:Below w.heap.size w w'):CmS B w' m vi vh vs os us k:=h.turns (S:=fun _=>False) (Turns.of_below hb) (fun _ _=>id)
theorem CmS.old {B:Nat} {w:World} {m:Md} {vi vh vs:Value} {os us:List Value} {k:Nat} (h:CmS B w m vi vh vs os us k):∀i j,i<k→(uAt us i).ownBlock=some j→j<w.heap.size:=fun i j hi hj=>h.u.old i j (by have:=h.k;simp;omega) hj
theorem CmS.ge {B g c:Nat} {w:World} {m:Md} {vi vs:Value} {os us:List Value} {k n:Nat} (h:CmS B w m vi (.slice (some ⟨g,0,none⟩) n c) vs os us k):B≤g:=yx4 h.h rfl
theorem CmS.at_ {B g c:Nat} {w:World} {m:Md} {vi vs:Value} {os us:List Value} {k n:Nat} (h:CmS B w m vi (.slice (some ⟨g,0,none⟩) n c) vs os us k) (hk:k<m.h.length):w.cell? ⟨g,k,none⟩=os[k]? ∧w.frozen? ⟨g,k,none⟩=false:=by
  obtain⟨g',cap,e1,_,hc,hf⟩:=zho h.h (by omega)
  cases e1
  refine⟨?_,hf k⟩
  rw [hc k (by omega),List.getElem?_append_right (by rw [h.len];omega),h.len]
  simp
theorem CmS.put {B N g c:Nat} {w:World} {m:Md} {vi vs u:Value} {os us:List Value} {k n:Nat} (h:CmS B w m vi (.slice (some ⟨g,0,none⟩) n c) vs os us k) (hk:k<m.h.length) (hu:w.ownsRow N 244 4 u (hAt m.h k).length (yyv (hAt m.h k))) (hN:B≤N) (hold:∀i j,i<k→(uAt us i).ownBlock=some j→j<N):CmS B (w.setCell ⟨g,k,none⟩ u) m vi (.slice (some ⟨g,0,none⟩) n c) vs os (us++ [u]) (k+1):=by
  have ht:=yag w g k u
  have hl:=h.len
  have hrow:=owns_set (o:=k) (u:=u) h.h rfl
  have hlist:(us++os.drop k).set k u=us++ [u]++os.drop (k+1):=by
    have h9:=h.l
    rw [List.set_append_right _ _ (by omega),hl,Nat.sub_self,List.append_assoc]
    congr 1
    rw [List.drop_eq_getElem_cons (show k<os.length by omega)]
    rfl
  rw [hlist]at hrow
  have htk:m.h.take (k+1)=m.h.take k++ [hAt m.h k]:=by rw [List.take_add_one,List.getElem?_eq_getElem hk];simp [hAt,hk]
  have hu9:=h.u.snoc hu hN (fun i j hi hj=>hold i j (by simp at hi;omega) hj)
  rw [←htk]at hu9
  exact⟨ypa h.i ht (fun j hj e=>yxy h.i h.h (by decide) hj (e▸rfl)),ypa h.e ht (fun j hj e=>yxy h.e h.h (by decide) hj (e▸rfl)),hrow,h.l,hu9.turns ht (fun i j hi hj e=>yxy (hu9.2.1 i hi) h.h (by decide) hj (e▸rfl)),by omega⟩
theorem CmS.mo {B:Nat} {w:World} {m:Md} {vi vh vs:Value} {os us:List Value} (h:CmS B w m vi vh vs os us m.h.length):MO w B m vi vh vs us:=by
  have h1:=h.h
  have h2:=h.u
  rw [←h.l,List.drop_length,List.append_nil]at h1
  rw [List.take_of_length_le (Nat.le_refl _)]at h2
  rw [h.l]at h1
  exact⟨h.i,h1,h2,h.e⟩
theorem zpb (x:Value) (m:Md) (w:World) (hil:m.i.length≤1048576) (hhl:m.h.length≤1048576) (hel:m.e.length≤1048576) (hol:∀i,i<m.h.length→(hAt m.h i).length≤1048576) (h:IsM w x m):
    Calls Tryz.prog 119 #[x] w fun e w'=>∃y,e= .returned y∧Below w.heap.size w w'∧MdF (fun k=>w.heap.size≤k∧k<w'.heap.size) w' y m:=by
  obtain⟨vi0,vh0,vs0,rfl,hI,hH,hE⟩:=h
  have hdI:=hI.isD
  have hdE:=hE.isD
  obtain⟨os,hos,hosl,HOS⟩:=rows_src hH
  obtain⟨ai,ci,rfl,_⟩:=hI
  obtain⟨ah,ch,rfl,_⟩:=hH
  obtain⟨ae,ce,rfl,_⟩:=hE
  have HOL:=yx6 hol
  have HSI:Hid (∀W,Below w.heap.size w W→SrcC W (.slice ai m.i.length ci) 1 m.i.length (intCells m.i)):=fun W hW=>(IsD.srcI hdI).below hW
  have HSE:Hid (∀W,Below w.heap.size w W→SrcC W (.slice ae m.e.length ce) 7 m.e.length (yvz m.e)):=fun W hW=>(IsD.srcEv hdE).below hW
  have HSH:Hid (∀W,Below w.heap.size w W→SrcC W (.slice ah m.h.length ch) 1 os.length os):=fun W hW=>hosl▸hos.below hW
  have HOSL:=yx6 hosl
  have HONE:=yx6 (rows_one HOS.out hosl)
  clear hol hdI hdE hos
  obtain⟨Rb,hRb⟩:∃Rb,Rb=w.heap.size+1:=⟨_,rfl⟩
  obtain⟨W0,hW0⟩:∃W0,(w.alloc (.cells #[.int .i64 m.n,.int .i64 m.s,.slice ai m.i.length ci,.slice ah m.h.length ch,.slice ae m.e.length ce,.int .i64 m.z] 36)).alloc (.cells #[.int .i64 0,.int .i64 0,.slice none 0 0,.slice none 0 0,.slice none 0 0,.int .i64 0] 36)=W0:=⟨_,rfl⟩
  have HP0:=hdq (bkA2 hW0)
  have HR0:Hid (Bk W0 Rb 36 #[.int .i64 0,.int .i64 0,.slice none 0 0,.slice none 0 0,.slice none 0 0,.int .i64 0]):=by rw [←hW0];exact Bk.newAt (by simp [hRb]) _ _
  have HB0:=hdq (beA2 hW0)
  have HW0:=yx6 hW0
  have HRB:=yx6 hRb
  have hRw:w.heap.size<Rb:=by omega
  clear hW0 hRb hosl
  have c2:=((Bk.new w 36 #[.int .i64 m.n,.int .i64 m.s,.slice ai m.i.length ci,.slice ah m.h.length ch,.slice ae m.e.length ce,.int .i64 m.z]).alloc (.cells #[.int .i64 0,.int .i64 0,.slice none 0 0,.slice none 0 0,.slice none 0 0,.int .i64 0] 36)).cell (i:=2) rfl
  go_enter Tryz.func119,Tryz.ntmps119
  go_wp2_with fail
  rw [HW0.out,←HRB.out]
  clear HW0 c2
  obtain⟨B,hBe⟩:∃B,B=W0.heap.size:=⟨_,rfl⟩
  have HS0:Hid (B≤W0.heap.size):=(by omega:B≤W0.heap.size)
  have hRB:Rb<B:=hBe▸HR0.out.lt
  clear hBe
  refine(zd8 _ m.i W0 (by omega) (HSI.out W0 HB0.out)).mono ?_
  rintro e w1 ⟨vi,rfl,ho,hb⟩
  obtain⟨avi,cvi,rfl⟩:=yfm ho
  have HPa:=yx6 (HP0.out.below hb)
  have HRa:=yx6 (HR0.out.below hb)
  have HBa:=trh HB0 hb
  have HSa:Hid (B≤w1.heap.size):=Nat.le_trans HS0.out hb.size
  have HNa:=yx6 (yw0 ho HS0.out)
  have k2:=HPa.out.cell (i:=2) rfl
  have kf:=HPa.out.free
  obtain⟨V1,hV⟩:∃V,w1.setCell ⟨w.heap.size,2,none⟩ (.slice avi m.i.length cvi)=V:=⟨_,rfl⟩
  have ht:Turns (fun j=>j=w.heap.size) w1 V1:=hV▸yag _ _ 2 _
  have HPb:Hid (Bk V1 w.heap.size 36 #[.int .i64 m.n,.int .i64 m.s,.slice avi m.i.length cvi,.slice ah m.h.length ch,.slice ae m.e.length ce,.int .i64 m.z]):=hV▸HPa.out.put 2 _
  have HRb:=yx6 (HRa.out.turns ht (fun e=>by omega))
  have HBb:=yx6 (HBa.out.trans (ht.to_below (fun j hj=>by omega) HBa.out.size))
  have HSb:Hid (B≤V1.heap.size):=Nat.le_trans HSa.out ht.size
  have HNb:Hid (V1.ownsRow B 3 1 (.slice avi m.i.length cvi) m.i.length (intCells m.i)):=owN HNa.out ht HPa.out
  clear ho hb ht HPa HRa HBa HSa HNa HP0 HR0 HB0 HS0
  have HIa1:=HNb
  have HP1:=HPb
  have HR1:=HRb
  have HB1:=HBb
  have HS1:=HSb
  clear HNb HPb HRb HBb HSb
  have p4:=HP1.out.cell (i:=4) rfl
  go_wp2_with fail
  clear hV k2 kf p4
  refine(yzb _ m.e V1 (by omega) (HSE.out V1 HB1.out)).mono ?_
  rintro e w2 ⟨vs,rfl,ho,hb⟩
  obtain⟨avs,cvs,rfl⟩:=yfm ho
  have HPa:=yx6 (HP1.out.below hb)
  have HRa:=yx6 (HR1.out.below hb)
  have HBa:=trh HB1 hb
  have HSa:Hid (B≤w2.heap.size):=Nat.le_trans HS1.out hb.size
  have HNa:=yx6 (yw0 ho HS1.out)
  have HIa1a:=yx6 (owB HIa1.out hb)
  have k4:=HPa.out.cell (i:=4) rfl
  have kf:=HPa.out.free
  obtain⟨V2,hV⟩:∃V,w2.setCell ⟨w.heap.size,4,none⟩ (.slice avs m.e.length cvs)=V:=⟨_,rfl⟩
  have ht:Turns (fun j=>j=w.heap.size) w2 V2:=hV▸yag _ _ 4 _
  have HPb:Hid (Bk V2 w.heap.size 36 #[.int .i64 m.n,.int .i64 m.s,.slice avi m.i.length cvi,.slice ah m.h.length ch,.slice avs m.e.length cvs,.int .i64 m.z]):=hV▸HPa.out.put 4 _
  have HRb:=yx6 (HRa.out.turns ht (fun e=>by omega))
  have HBb:=yx6 (HBa.out.trans (ht.to_below (fun j hj=>by omega) HBa.out.size))
  have HSb:Hid (B≤V2.heap.size):=Nat.le_trans HSa.out ht.size
  have HNb:Hid (V2.ownsRow B 90 7 (.slice avs m.e.length cvs) m.e.length (yvz m.e)):=owN HNa.out ht HPa.out
  have HIa2:Hid (V2.ownsRow B 3 1 (.slice avi m.i.length cvi) m.i.length (intCells m.i)):=owN HIa1a.out ht HPa.out
  clear ho hb ht HPa HRa HBa HSa HNa HIa1a HIa1 HP1 HR1 HB1 HS1
  have HE2:=HNb
  have HP2:=HPb
  have HR2:=HRb
  have HB2:=HBb
  have HS2:=HSb
  clear HNb HPb HRb HBb HSb
  have p3:=HP2.out.cell (i:=3) rfl
  go_wp2_with fail
  clear hV k4 kf p3
  refine(zmq _ os V2 (by have h9:=HOSL.out;omega) HONE.out (HSH.out V2 HB2.out)).mono ?_
  rintro e w3 ⟨vh,rfl,ho,hb⟩
  rw [HOSL.out]at ho
  obtain⟨avh,cvh,rfl⟩:=yfm ho
  have HPa:=yx6 (HP2.out.below hb)
  have HRa:=yx6 (HR2.out.below hb)
  have HBa:=trh HB2 hb
  have HSa:Hid (B≤w3.heap.size):=Nat.le_trans HS2.out hb.size
  have HNa:=yx6 (yw0 ho HS2.out)
  have HIa2a:=yx6 (owB HIa2.out hb)
  have HE2a:=yx6 (owB HE2.out hb)
  have k3:=HPa.out.cell (i:=3) rfl
  have kf:=HPa.out.free
  obtain⟨V3,hV⟩:∃V,w3.setCell ⟨w.heap.size,3,none⟩ (.slice avh m.h.length cvh)=V:=⟨_,rfl⟩
  have ht:Turns (fun j=>j=w.heap.size) w3 V3:=hV▸yag _ _ 3 _
  have HPb:Hid (Bk V3 w.heap.size 36 #[.int .i64 m.n,.int .i64 m.s,.slice avi m.i.length cvi,.slice avh m.h.length cvh,.slice avs m.e.length cvs,.int .i64 m.z]):=hV▸HPa.out.put 3 _
  have HRb:=yx6 (HRa.out.turns ht (fun e=>by omega))
  have HBb:=yx6 (HBa.out.trans (ht.to_below (fun j hj=>by omega) HBa.out.size))
  have HSb:Hid (B≤V3.heap.size):=Nat.le_trans HSa.out ht.size
  have HNb:Hid (V3.ownsRow B 241 1 (.slice avh m.h.length cvh) m.h.length os):=owN HNa.out ht HPa.out
  have HI3:Hid (V3.ownsRow B 3 1 (.slice avi m.i.length cvi) m.i.length (intCells m.i)):=owN HIa2a.out ht HPa.out
  have HE3:Hid (V3.ownsRow B 90 7 (.slice avs m.e.length cvs) m.e.length (yvz m.e)):=owN HE2a.out ht HPa.out
  clear ho hb ht HPa HRa HBa HSa HNa HIa2a HIa2 HE2a HE2 HP2 HR2 HB2 HS2
  have HC3:Hid (CmS B V3 m (.slice avi m.i.length cvi) (.slice avh m.h.length cvh) (.slice avs m.e.length cvs) os [] 0):=by
    have h9:=HNb.out
    exact⟨HI3.out,HE3.out,by simpa using h9,HOSL.out,HsO.nil _ _,Nat.zero_le _⟩
  have HP3:=yx6 HPb.out
  have q3:=HP3.out.cell (i:=3) rfl
  clear HNb HPb HI3 HE3
  go_wp2
  clear hV k3 kf q3
  go_loopw [20] (fun i wr=>∃(k:Nat) (us:List Value),k≤m.h.length∧i= .int .i64 k∧Hid (CmS B wr m (.slice avi m.i.length cvi) (.slice avh m.h.length cvh) (.slice avs m.e.length cvs) os us k)∧Hid (Bk wr w.heap.size 36 #[.int .i64 m.n,.int .i64 m.s,.slice avi m.i.length cvi,.slice avh m.h.length cvh,.slice avs m.e.length cvs,.int .i64 m.z])∧Hid (Bk wr Rb 36 #[.int .i64 0,.int .i64 0,.slice none 0 0,.slice none 0 0,.slice none 0 0,.int .i64 0])∧Hid (Below w.heap.size w wr)∧Hid (B≤wr.heap.size)) (fun i _=>m.h.length-(intOf i).toNat)
  case atStart=>exact⟨0,_,Nat.zero_le _,rfl,HC3.out,HP3.out,HRb.out,HBb.out,HSb.out⟩
  case round=>
    clear HC3 HP3 HRb HBb HSb
    obtain⟨k,us,hk,rfl,HCr,HPr,HRr,HBr,HSr⟩:=hrel
    by_cases hlt:k<m.h.length
    case pos=>
      have hkd:decide ((k:Int)<(m.h.length:Int))=true:=by simpa using hlt
      obtain⟨g,cap9,e9,hz9⟩:=zho HCr.out.h (by omega)
      clear hz9
      cases e9
      obtain⟨u,hu1,hu2⟩:=HOS.out k hlt
      have f0:=(HCr.out.at_ hlt).1.trans hu1
      have HSR:Hid (∀W,Below w.heap.size w W→SrcC W u 4 (hAt m.h k).length (yyv (hAt m.h k))):=fun W hW=>(IsO.src hu2).below hW
      obtain⟨a1,c1,rfl,_⟩:=hu2
      have f1:wr.cell? ⟨g,0+k,none⟩=some (.slice a1 (hAt m.h k).length c1):=by rw [Nat.zero_add];exact f0
      go_upto_region 7 with fail
      have HU9:=yx6 hu1
      clear f0 f1 hu1
      have HPX:=yx6 HPr.out.drew
      refine yx1 6 (fun W=>W.cell? ⟨w.heap.size,3,none⟩=some (.slice (some ⟨g,0,none⟩) m.h.length cvh)) (by kernel_rfl) (HPX.out.cell (i:=3) rfl) (fun hHeld=> ?_)
      obtain⟨wd,hwd⟩:∃wd,wr.drew=wd:=⟨_,rfl⟩
      have hbd:Below wr.heap.size wr wd:=hwd▸(Below.refl _ wr).drew
      rw [hwd]at hHeld HPX
      rw [hwd]
      have HCX:=yx6 (HCr.out.below hbd)
      have HBX:=trh HBr hbd
      have HSX:Hid (B≤wd.heap.size):=Nat.le_trans HSr.out hbd.size
      have HRX:=yx6 (HRr.out.below hbd)
      clear hwd hbd HPr HCr HBr HSr HRr
      refine ywe (i:=0) (oi:= {dst:=some 25,op:=Op.fieldAddr 36 (Operand.tmp 1) 3,type:=0,pos:=_,after:=_,guard:=none}) (v:= .pointer (some ⟨w.heap.size,3,none⟩)) 0 [] rfl (by kernel_rfl) (by kernel_rfl) (by kernel_rfl) (by kernel_rfl) (by kernel_rfl) (fun _ _ _ h=>h) (Or.inl ⟨by rfl,?_⟩) (by assumption) ?_
      · intro wX hSw
        try dsimp only at hSw
        go_simp
        try exact IntWalk.i64_in _ (by omega)
      try simp only [Act.put,q1,q2,q3]
      refine ywe (i:=1) (oi:= {dst:=some 26,op:=Op.load 33 (Operand.tmp 25),type:=33,pos:=_,after:=_,guard:=none}) (v:= .slice (some ⟨g,0,none⟩) m.h.length cvh) 1 [] rfl (by kernel_rfl) (by kernel_rfl) (by kernel_rfl) (by kernel_rfl) (by kernel_rfl) (fun _ _ _ h=>h) (Or.inl ⟨by rfl,?_⟩) (by assumption) ?_
      · intro wX hSw
        try dsimp only at hSw
        go_simp
        try exact IntWalk.i64_in _ (by omega)
      try simp only [Act.put,q1,q2,q3]
      refine ywe (i:=2) (oi:= {dst:=some 27,op:=Op.move (Operand.tmp 3),type:=3,pos:=_,after:=_,guard:=none}) (v:= .int .i64 (k:Int)) 2 [] rfl (by kernel_rfl) (by kernel_rfl) (by kernel_rfl) (by kernel_rfl) (by kernel_rfl) (fun _ _ _ h=>h) (Or.inl ⟨by rfl,?_⟩) (by assumption) ?_
      · intro wX hSw
        try dsimp only at hSw
        go_simp
        try exact IntWalk.i64_in _ (by omega)
      try simp only [Act.put,q1,q2,q3]
      refine ywe (i:=3) (oi:= {dst:=some 28,op:=Op.move (Operand.tmp 4),type:=241,pos:=_,after:=_,guard:=none}) (v:= .slice a1 (hAt m.h k).length c1) 3 [] rfl (by kernel_rfl) (by kernel_rfl) (by kernel_rfl) (by kernel_rfl) (by kernel_rfl) (fun _ _ _ h=>h) (Or.inl ⟨by rfl,?_⟩) (by assumption) ?_
      · intro wX hSw
        try dsimp only at hSw
        go_simp
        try exact IntWalk.i64_in _ (by omega)
      try simp only [Act.put,q1,q2,q3]
      refine yfb (rs:= [4]) (by kernel_rfl) (by simp) ?_
      refine AllReadyZ.cons rfl (fun K hK=> ?_) AllReadyZ.nil
      go_simp
      refine(zms _ (hAt m.h k) wd (Nat.le_trans (HOL.out k hlt) (by omega)) (HSR.out wd HBX.out)).mono ?_
      rintro e v1 ⟨u2,rfl,ho,hb9⟩
      obtain⟨a2,c2,rfl⟩:=yfm ho
      have HP1:=yx6 (HPX.out.below hb9)
      have HC1:=yx6 (HCX.out.below hb9)
      have HU1:=yx6 ho
      have HLD:=yx6 HCX.out.old
      have HB1:=trh HBX hb9
      have HS1:Hid (B≤v1.heap.size):=Nat.le_trans HSX.out hb9.size
      have HSD:Hid (B≤wd.heap.size):=HSX.out
      have HR1:=yx6 (HRX.out.below hb9)
      clear ho hb9 HPX HCX HBX HSX HRX
      have HRX:=HR1
      have HPX:=HP1
      have HCX:=HC1
      have HBX:=HB1
      have HSX:=HS1
      clear HP1 HC1 HB1 HS1 HR1
      try go_simp
      refine hK.out _ _ (HPX.out.cell (i:=3) rfl) (fun hHeld=> ?_)
      clear hK K
      try simp only [Act.put,q1,q2,q3]
      refine ywe (i:=5) (oi:= {dst:=some 30,op:=Op.indexAddr 33 (Operand.tmp 26) (Operand.tmp 27),type:=0,pos:=_,after:=_,guard:=none}) (v:= .pointer (some ⟨g,k,none⟩)) 5 [] rfl (by kernel_rfl) (by kernel_rfl) (by kernel_rfl) (by kernel_rfl) (by kernel_rfl) (fun _ _ _ h=>h) (Or.inl ⟨by rfl,?_⟩) (by assumption) ?_
      · intro wX hSw
        try dsimp only at hSw
        go_simp
        try exact IntWalk.i64_in _ (by omega)
        try(intro h9;exfalso;omega)
      try simp only [Act.put,q1,q2,q3]
      refine yfb (rs:= [6]) (by kernel_rfl) (by simp) ?_
      refine AllReadyZ.last rfl (fun K hK=> ?_)
      obtain⟨fk,ff⟩:=HCX.out.at_ hlt
      rw [HU9.out]at fk
      obtain⟨wf,hwf⟩:∃X,v1.setCell ⟨g,k,none⟩ (.slice a2 (hAt m.h k).length c2)=X:=⟨_,rfl⟩
      have HTF:Hid (Turns (fun j=>j=g) v1 wf):=hwf▸yag _ _ k _
      have HCF:Hid (CmS B wf m (.slice avi m.i.length cvi) (.slice (some ⟨g,0,none⟩) m.h.length cvh) (.slice avs m.e.length cvs) os (us++ [.slice a2 (hAt m.h k).length c2]) (k+1)):=hwf▸HCX.out.put hlt HU1.out HSD.out HLD.out
      have HPF:=yx6 (HPX.out.turns HTF.out (fun e=>by have h9:=HCX.out.ge;omega))
      have HBF:=yx6 (HBX.out.trans (HTF.out.to_below (fun j hj=>by have h9:=HCX.out.ge;omega) HBX.out.size))
      have HSF:Hid (B≤wf.heap.size):=Nat.le_trans HSX.out HTF.out.size
      have HRF:=yx6 (HRX.out.turns HTF.out (fun e=>by have h9:=HCX.out.ge;omega))
      have HWF:Hid _:=hwf
      clear hwf
      go_simp
      rw [HWF.out]
      clear HWF fk ff HTF HCX HPX HBX HSX HRX
      refine hK.out _ _ ?_
      clear hK K
      try simp only [Act.put,q1,q2,q3]
      refine yx2 (by kernel_rfl) ?_ _
      clear hHeld
      go_wp2
      go_roundw
      case rel=>exact⟨k+1,_,by omega,by go_num,HCF.out,HPF.out,HRF.out,HBF.out,HSF.out⟩
      case measure=>simp [intOf];omega
    case neg=>
      obtain rfl:k=m.h.length:=by omega
      have hkd:decide ((m.h.length:Int)<(m.h.length:Int))=false:=by simp
      obtain⟨m0,m1,m2,m3,m4,m5⟩:=c6_6 HPr.out
      obtain⟨r0,r1,r2,r3,r4,r5⟩:=c6_6 HRr.out
      have rf:=HRr.out.free
      obtain⟨wf,hwf⟩:∃X,zhh wr Rb m.n m.s (.slice avi m.i.length cvi) (.slice avh m.h.length cvh) (.slice avs m.e.length cvs) m.z=X:=⟨_,rfl⟩
      have HTF:Hid (Turns (fun j=>j=Rb) wr wf):=hwf▸zay _ _ _ _ _ _ _ _
      have HCF:=yx6 (HCr.out.turns HTF.out (fun j hj e=>by omega))
      have HRF:Hid (Bk wf Rb 36 #[.int .i64 m.n,.int .i64 m.s,.slice avi m.i.length cvi,.slice avh m.h.length cvh,.slice avs m.e.length cvs,.int .i64 m.z]):=hwf▸(((((HRr.out.put 0 _).put 1 _).put 2 _).put 3 _).put 4 _).put 5 _
      obtain⟨t0,t1,t2,t3,t4,t5⟩:=c6_6 HRF.out
      unfold zhh at hwf
      go_wp2
      refine bodyPost_ret (v:= .agg #[.int .i64 m.n,.int .i64 m.s,.slice avi m.i.length cvi,.slice avh m.h.length cvh,.slice avs m.e.length cvs,.int .i64 m.z]) (by simp [results,Tryz.results119,go_sem,t0,t1,t2,t3,t4,t5]) rfl ⟨_,rfl,HBr.out.trans (HTF.out.to_below (fun k hk=>by omega) HBr.out.size),?_⟩
      exact HCF.out.mo.mdf.mono (fun k hk=>⟨by omega,hk.2⟩)
end Go.Proofs.YtghndljgadpijaaGreat

/- The program's copy of any kernel. -/
namespace Go.Proofs.YtghndljgadpijaaGreat
open Go.RowKit
theorem yw1 {p:Prop} (h:p):Hid p:=h
def RowP (lo:Nat) (w:World) (a:Option Addr) (n cap:Nat) (f:Nat→Dat) (zs:List Value) (m:Nat):Prop:=n≤cap∧cap≤maxLen∧(n=0∨ ∃g,a=some ⟨g,0,none⟩∧g<lo∧OwnD w (fun j=>(j=g∨lo≤j)∧j<w.heap.size) (.slice a n cap) (.row 7 n (toC f zs (m*7))))
theorem RowP.below {lo:Nat} {w w':World} {a:Option Addr} {n cap:Nat} {f:Nat→Dat} {zs:List Value} {m:Nat} (h:RowP lo w a n cap f zs m) (hb:Below w.heap.size w w'):RowP lo w' a n cap f zs m:=by
  obtain⟨h1,h2,h⟩:=h
  refine⟨h1,h2,h.imp id ?_⟩
  rintro ⟨g,e,hg,h⟩
  exact⟨g,e,hg,(h.under hb).mono (fun j hj=>⟨hj.1,Nat.lt_of_lt_of_le hj.2 hb.size⟩)⟩
theorem RowP.made {B lo:Nat} {w:World} {a:Option Addr} {n cap:Nat} {f:Nat→Dat} {cs:List Value} (h:w.ownsRow B 97 7 (.slice a n cap) n cs) (hlo:w.heap.size≤lo):RowP lo w a n cap f cs 0:=by
  obtain⟨hl,h⟩:=h
  have h0:w.ownsRow B 97 7 (.slice a n cap) n cs:=⟨hl,h⟩
  rcases h with ⟨e,rfl⟩|⟨g,cap',cur,e,_,hc,h1,h2,_⟩
  · cases e
    exact⟨Nat.le_refl _,Nat.zero_le _,.inl rfl⟩
  · obtain⟨rfl,_,rfl⟩:=Value.slice.inj e
    rcases Nat.eq_zero_or_pos n with hn|hn
    · exact⟨h1,h2,.inl hn⟩
    · have hg:=(Array.getElem?_eq_some_iff.1 hc).1
      refine⟨h1,h2,.inr ⟨g,rfl,by omega,((RowF.ownB hl h0).own.mono (fun j hj=> ?_)).congr (fun j _=>by simp [toC])⟩⟩
      have:j=g:=by simpa [Value.ownBlock] using hj.symm
      subst this
      exact⟨.inl rfl,hg⟩
theorem RowP.raw {lo:Nat} {F:Nat→Prop} {w:World} {a:Option Addr} {n cap:Nat} {f f':Nat→Dat} (h:OwnD w F (.slice a n cap) (.row 7 n f')) (hlo:w.heap.size≤lo):∃zs,RowP lo w a n cap f zs 0:=by
  cases h with
  |nil F a cap _ _ h=>exact⟨[],Nat.zero_le _,h,.inl rfl⟩
  |row F g _ cap _ _ U G h1 h2 hg hF hc hs hG hGG=>
    refine⟨(List.range (n*7)).map U,h1,h2,.inr ⟨g,rfl,by omega,?_⟩⟩
    refine .row _ g n cap 7 _ U (fun _ _=>False) h1 h2 hg ⟨.inl rfl,hg⟩ hc (fun j hj=> ?_) (fun _ _ _ h=>h.elim) (fun _ _ _ _ _ _ h=>h.elim)
    have:toC f ((List.range (n*7)).map U) (0*7) j= .val (U j):=by
      simp [toC,hj]
    rw [this]
    exact .val _ _
theorem RowP.fill {lo i:Nat} {w v:World} {g n cap lw:Nat} {l:List Pa} {zs:List Value} {n0 d2 d3 u1 u4 u5 u6:Value} (h:RowP lo w (some ⟨g,0,none⟩) n cap (yfa l) zs i) (hb:Below w.heap.size w v) (hgl:g<w.heap.size) (hi:i<n) (hlw:w.heap.size≤lw∧lo≤lw) (hy:PartF (fun j=>lw≤j∧j<v.heap.size) v (.agg #[n0,u1,d2,d3,u4,u5,u6]) (paAt l i)) (he:(n0= .int .i64 (paAt l i).n∧d2= .int .i64 (paAt l i).st.q∧d3= .int .i64 (paAt l i).st.d)):
    RowP lo ((((((((v.setCell ⟨g,i*7,none⟩ (n0)).setCell ⟨g,i*7+1,none⟩ (u1)).setCell ⟨g,i*7+2,none⟩ (d2)).setCell ⟨g,i*7+3,none⟩ (d3)).setCell ⟨g,i*7+4,none⟩ (u4)).setCell ⟨g,i*7+5,none⟩ (u5)).setCell ⟨g,i*7+6,none⟩ (u6))) (some ⟨g,0,none⟩) n cap (yfa l) zs (i+1):=by
  obtain⟨h1,h2,h⟩:=h
  obtain⟨g',e,hg,h⟩:=h.resolve_left (by omega)
  obtain rfl:g=g':=by simpa using e
  obtain⟨rfl,rfl,rfl⟩:=he
  obtain⟨K1,K4,K5,K6,x1,x4,x5,x6,e9,o1,o4,o5,o6,d1,d4,d5,d6⟩:=hy
  simp only [Value.agg.injEq,Array.mk.injEq,List.cons.injEq,and_true,true_and]at e9
  obtain⟨rfl,rfl,rfl,rfl⟩:=e9
  refine⟨h1,h2,.inr ⟨g,rfl,hg,?_⟩⟩
  have hK:=paK_in d1 d4 d5 d6
  have hh:=h.under hb
  have q:=OwnD.fillN (G:=paK K1 K4 K5 K6) (U:=fun r=> [(.int .i64 (paAt l i).n:Value),u1,.int .i64 (paAt l i).st.q,.int .i64 (paAt l i).st.d,u4,u5,u6].getD r (.int .i64 0)) hh ⟨.inl rfl,hgl⟩ 7 (by omega) (fun r hr=>by
    have hat:yfa l (i*7+r)=(paAt l i).cell r:=yxn l i (r:=r) hr
    rw [hat]
    have h9:=pa_own o1 o4 o5 o6 r hr
    match r,hr,h9 with
    |0,_,h9=>exact h9
    |1,_,h9=>exact h9
    |2,_,h9=>exact h9
    |3,_,h9=>exact h9
    |4,_,h9=>exact h9
    |5,_,h9=>exact h9
    |6,_,h9=>exact h9
    |_+7,hr,_=>omega) (fun r hr j hj e=>by have:=hK r j hj;have:=e.2;omega) (fun r s hr hs hrs j hj hj'=>zo0 d1 d4 d5 hrs j hj hj')
  rw [putN_7]at q
  rw [show i*7+7=(i+1)*7 by omega]at q
  have hsz:∀j,j<v.heap.size→j<((((((((v.setCell ⟨g,i*7,none⟩ ((.int .i64 (paAt l i).n))).setCell ⟨g,i*7+1,none⟩ (u1)).setCell ⟨g,i*7+2,none⟩ ((.int .i64 (paAt l i).st.q))).setCell ⟨g,i*7+3,none⟩ ((.int .i64 (paAt l i).st.d))).setCell ⟨g,i*7+4,none⟩ (u4)).setCell ⟨g,i*7+5,none⟩ (u5)).setCell ⟨g,i*7+6,none⟩ (u6)):World).heap.size:=fun j hj=>Nat.lt_of_lt_of_le hj (zfh v g (i*7) _ _ _ _ _ _ _).size
  exact q.mono (fun j hj=>by
    have hvs:=hb.size
    rcases hj with hj|⟨r,hr,hj⟩
    · exact⟨hj.1,hsz j (by omega)⟩
    · have:=hK r j hj
      exact⟨.inr (by omega),hsz j (by omega)⟩)
theorem RowP.read {lo:Nat} {w:World} {g n cap:Nat} {l:List Pa} {zs:List Value} {m:Nat} (h:RowP lo w (some ⟨g,0,none⟩) n cap (yfa l) zs m) (hn:0<n) (hz:∀j,j<n*7→IsD w (nthV zs j) (yfa l j)):(∀j,j<n*7→ ∃u,w.cell? ⟨g,0+j,none⟩=some u∧IsD w u ((paAt l (j/7)).cell (j%7)))∧(∀j,j<n*7→w.frozen? ⟨g,j,none⟩=false)∧g<w.heap.size:=by
  obtain⟨h1,h2,h⟩:=h
  obtain⟨g',e,hg,h⟩:=h.resolve_left (by omega)
  obtain rfl:g=g':=by simpa using e
  refine⟨fun j hj=> ?_,fun j hj=> ?_,(h.lt hn).2.2⟩
  · obtain⟨u,K,hu,_,hd,_⟩:=h.step hj
    refine⟨u,by rw [Nat.zero_add];exact hu,?_⟩
    by_cases hm:j<m*7
    · have e:toC (yfa l) zs (m*7) j=yfa l j:=by simp [toC,hm]
      rw [e]at hd
      exact hd.isD
    · have e:toC (yfa l) zs (m*7) j= .val (nthV zs j):=by simp [toC,hm,nthV]
      rw [e]at hd
      have h9:=hz j hj
      generalize nthV zs j=z at hd h9
      cases hd
      exact h9
  · obtain⟨u,K,_,hf,_⟩:=h.step hj
    exact hf
theorem RowP.cells {lo:Nat} {w:World} {g n cap:Nat} {f:Nat→Dat} {zs:List Value} {m:Nat} (h:RowP lo w (some ⟨g,0,none⟩) n cap f zs m) (hn:0<n):(∀j,j<n*7→ ∃u,w.cell? ⟨g,j,none⟩=some u∧w.frozen? ⟨g,j,none⟩=false)∧g<w.heap.size:=by
  obtain⟨h1,h2,h⟩:=h
  obtain⟨g',e,hg,h⟩:=h.resolve_left (by omega)
  obtain rfl:g=g':=by simpa using e
  refine⟨fun j hj=> ?_,(h.lt hn).2.2⟩
  obtain⟨u,K,hu,hf,_⟩:=h.step hj
  exact⟨u,hu,hf⟩
theorem RowP.all {lo:Nat} {w:World} {a:Option Addr} {n cap:Nat} {l:List Pa} {zs:List Value} (h:RowP lo w a n cap (yfa l) zs n) (hl:l.length=n):∃A:Nat→Prop,OwnD w A (.slice a n cap) (ywi l)∧ ∀j,A j→((0<n∧a=some ⟨j,0,none⟩)∨lo≤j)∧j<w.heap.size:=by
  subst hl
  obtain⟨h1,h2,h⟩:=h
  rcases h with h|⟨g,rfl,hg,h⟩
  · refine⟨fun _=>False,?_,fun _ h=>h.elim⟩
    have:OwnD w (fun _=>False) (.slice a l.length cap) (.row 7 0 (yfa l)):=by rw [h];exact .nil _ _ _ _ _ h2
    show OwnD w _ _ (.row 7 l.length (yfa l))
    rw [h]
    rw [h]at this
    exact this
  · by_cases hn:0<l.length
    · exact⟨_,h.toAll rfl,fun j hj=>⟨hj.1.imp (fun e=>⟨hn,by rw [e]⟩) id,hj.2⟩⟩
    · refine⟨fun _=>False,?_,fun _ h=>h.elim⟩
      have e0:l.length=0:=by omega
      show OwnD w _ _ (.row 7 l.length (yfa l))
      rw [e0]
      exact .nil _ _ _ _ _ h2
theorem zlx {cs:List Value} {w:World} {n:Nat} {l:List Pa} (hl:cs.length=n*7) (hz:∀j,j<n*7→IsD w (nthV cs j) (yfa l j)):∀u∈cs,u.oneCell'=true:=by
  intro u hu
  obtain⟨j,hj,rfl⟩:=List.getElem_of_mem hu
  have h9:=hz j (by omega)
  have e:nthV cs j=cs[j]:=by simp [nthV,hj]
  rw [e]at h9
  have h8:IsD w cs[j] ((paAt l (j/7)).cell (j%7)):=h9
  generalize cs[j]=v at h8
  have hr:j%7<7:=Nat.mod_lt _ (by omega)
  generalize j%7=r at h8 hr
  match r,hr,h8 with
  |0,_,h8=>cases h8;rfl
  |1,_,h8=>obtain⟨a,c,rfl⟩:=yw8 (c:=1) (n:=(paAt l (j/7)).st.r.length) h8;rfl
  |2,_,h8=>cases h8;rfl
  |3,_,h8=>cases h8;rfl
  |4,_,h8=>obtain⟨a,c,rfl⟩:=yw8 (c:=12) (n:=(paAt l (j/7)).p.length) h8;rfl
  |5,_,h8=>obtain⟨a,c,rfl⟩:=yw8 (c:=7) (n:=(paAt l (j/7)).t.length) h8;rfl
  |6,_,h8=>obtain⟨a,c,rfl⟩:=yw8 (c:=1) (n:=(paAt l (j/7)).a.length) h8;rfl
  |_+7,hr,_=>omega
theorem zif (l:List Ml):∀u∈yxk l,u.oneCell'=true:=by
  induction l with
  |nil=>intro u hu;cases hu
  |cons a l ih=>
    intro u hu
    simp only [yxk,List.mem_append]at hu
    rcases hu with hu|hu
    · simp only [Ml.cs,Ev.cs,List.mem_append,List.mem_cons,List.not_mem_nil,or_false]at hu
      first
        |(rcases hu with rfl|rfl|rfl|rfl|rfl|rfl|rfl|rfl<;>rfl)
        |(rcases hu with (rfl|rfl|rfl|rfl|rfl|rfl|rfl)|rfl<;>rfl)
    · exact ih _ hu
set_option maxRecDepth 100000 in
set_option maxHeartbeats 64000000 in
theorem zic (x:Value) (k:Kn) (w:World) (hs:ywy k) (h:IsKern w x k):
    Calls Tryz.prog 47 #[x] w fun e w'=>∃y,e= .returned y∧KernF (fun j=>w.heap.size≤j∧j<w'.heap.size) w' y k∧Below w.heap.size w w':=by
  obtain⟨vi,vh,vs,u6,u7,u8,u12,u13,rfl,hM,h6,h7,h8,h12,h13⟩:=h
  obtain⟨vi9,vh9,vs9,e9,hI,hH,hE⟩:=id hM
  simp only [Value.agg.injEq,Array.mk.injEq,List.cons.injEq,and_true,true_and]at e9
  obtain⟨rfl,rfl,rfl⟩:=e9
  obtain⟨ai,ci,rfl,_⟩:=hI
  obtain⟨ah,ch,rfl,_⟩:=hH
  obtain⟨ae,ce,rfl,_⟩:=hE
  obtain⟨ad,cd,rfl⟩:=yw8 (c:=1) (n:=k.d.length) h6
  obtain⟨cs,hcs,hcd⟩:=IsD.cells (c:=7) (n:=k.p.length) h7
  obtain⟨ap,cp,rfl⟩:=yw8 (c:=7) (n:=k.p.length) h7
  obtain⟨ab,cb,rfl⟩:=yw8 (c:=8) (n:=k.b.length) h8
  obtain⟨au,cu,rfl⟩:=yw8 (c:=7) (n:=k.s.length) h12
  obtain⟨ax,cx,rfl⟩:=yw8 (c:=3) (n:=k.x.length) h13
  have HSM:Hid (SmallM k.m):=hs.1
  have HM:=yw1 hM
  have HS6:=yw1 h6.srcI
  have HS7:=yw1 hcs
  have HC1:=yw1 (zlx hcs.1 hcd)
  have HCD:=yw1 hcd
  have HS8:=yw1 (h8.src (yz6 k.b))
  have HC8:=yw1 (zif k.b)
  have HS12:=yw1 h12.srcEv
  have HS13:=yw1 h13.srcX
  have HWP:Hid (∀i,i<k.p.length→(paAt k.p i).wt≤1048577):=fun i hi=>Nat.le_trans (yyf hs.2 i hi) (by omega)
  have hpw:k.p.length≤1048576:=(yyp hs.2).2.1
  have HLN:Hid (k.d.length≤1048577∧k.p.length≤1048577∧k.b.length≤1048577∧k.s.length≤1048577∧k.x.length≤1048577):=by
    obtain⟨l1,l2,l3,l4,l5⟩:=yyp hs.2
    exact⟨by omega,by omega,by omega,by omega,by omega⟩
  clear hs hM h6 h7 h8 h12 h13 hcs hcd
  obtain⟨P,hPe⟩:∃P,P=w.heap.size:=⟨_,rfl⟩
  obtain⟨Rb,hRb⟩:∃Rb,Rb=w.heap.size+1:=⟨_,rfl⟩
  obtain⟨W0,hW0⟩:∃W0,(w.alloc (.cells #[.int .i64 k.m.n,.int .i64 k.m.s,.slice ai k.m.i.length ci,.slice ah k.m.h.length ch,.slice ae k.m.e.length ce,.int .i64 k.m.z,.slice ad k.d.length cd,.slice ap k.p.length cp,.slice ab k.b.length cb,.int .i64 k.t,.int .i64 k.q,.bool k.f,.slice au k.s.length cu,.slice ax k.x.length cx] 41)).alloc (.cells #[.int .i64 0,.int .i64 0,.slice none 0 0,.slice none 0 0,.slice none 0 0,.int .i64 0,.slice none 0 0,.slice none 0 0,.slice none 0 0,.int .i64 0,.int .i64 0,.bool false,.slice none 0 0,.slice none 0 0] 41)=W0:=⟨_,rfl⟩
  have HB_W0:=hdq (beA2 hW0)
  have HP_W0:Hid (Bk W0 P 41 #[.int .i64 k.m.n,.int .i64 k.m.s,.slice ai k.m.i.length ci,.slice ah k.m.h.length ch,.slice ae k.m.e.length ce,.int .i64 k.m.z,.slice ad k.d.length cd,.slice ap k.p.length cp,.slice ab k.b.length cb,.int .i64 k.t,.int .i64 k.q,.bool k.f,.slice au k.s.length cu,.slice ax k.x.length cx]):=by rw [←hW0,hPe];exact(Bk.new w _ _).alloc _
  have HR_W0:Hid (Bk W0 Rb 41 #[.int .i64 0,.int .i64 0,.slice none 0 0,.slice none 0 0,.slice none 0 0,.int .i64 0,.slice none 0 0,.slice none 0 0,.slice none 0 0,.int .i64 0,.int .i64 0,.bool false,.slice none 0 0,.slice none 0 0]):=by rw [←hW0,hRb];exact Bk.newAt (by simp) _ _
  have HW0:=yw1 hW0
  have HRB:=yw1 hRb
  have HPE:Hid (P=w.heap.size):=hPe
  have hPR:P<Rb:=by omega
  have hRW:Rb<W0.heap.size:=HR_W0.out.lt
  have hPw:w.heap.size≤P:=by omega
  have hPw2:P≤w.heap.size:=by omega
  have hRw:w.heap.size≤Rb:=by omega
  obtain⟨m0,m1,m2,m3,m4,m5,m6,m7,m8,m9,m10,m11,m12,m13⟩:=ywd (HPE.out▸HP_W0.out:Bk W0 w.heap.size 41 #[.int .i64 k.m.n,.int .i64 k.m.s,.slice ai k.m.i.length ci,.slice ah k.m.h.length ch,.slice ae k.m.e.length ce,.int .i64 k.m.z,.slice ad k.d.length cd,.slice ap k.p.length cp,.slice ab k.b.length cb,.int .i64 k.t,.int .i64 k.q,.bool k.f,.slice au k.s.length cu,.slice ax k.x.length cx])
  go_enter Tryz.func47,Tryz.ntmps47
  go_wp2_with fail
  clear m0 m1 m2 m3 m4 m5 m6 m7 m8 m9 m10 m11 m12 m13 hW0 hPe hRb
  try rw [HW0.out]
  try rw [←HRB.out]
  try rw [←HPE.out]
  clear HW0
  refine(zpb _ k.m _ HSM.out.i HSM.out.h HSM.out.e (fun j _=>HSM.out.r j) (HM.out.below HB_W0.out)).mono ?_
  rintro e w1 ⟨y,rfl,hb,hmd⟩
  obtain⟨bi,di,bh,dh,be,de,hE⟩:=MdF.form hmd
  cases hE
  have HB_w1:=trh HB_W0 hb
  have HP_w1:=yw1 (HP_W0.out.below hb)
  have HR_w1:=yw1 (HR_W0.out.below hb)
  have z_w1:W0.heap.size≤w1.heap.size:=hb.size
  clear HB_W0 HP_W0 HR_W0
  have MD_w1:=yw1 hmd
  clear hb hmd
  obtain⟨x1,hX⟩:∃X,((((((w1.setCell ⟨P,0,none⟩ (.int .i64 k.m.n)).setCell ⟨P,1,none⟩ (.int .i64 k.m.s)).setCell ⟨P,2,none⟩ (.slice bi k.m.i.length di)).setCell ⟨P,3,none⟩ (.slice bh k.m.h.length dh)).setCell ⟨P,4,none⟩ (.slice be k.m.e.length de)).setCell ⟨P,5,none⟩ (.int .i64 k.m.z))=X:=⟨_,rfl⟩
  have ht:Turns (fun j=>j=P) w1 x1:=hX▸((((((yag _ P 0 _).trans (yag _ P 1 _)).trans (yag _ P 2 _)).trans (yag _ P 3 _)).trans (yag _ P 4 _)).trans (yag _ P 5 _))
  obtain⟨k0,k1,k2,k3,k4,k5⟩:=zgw HP_w1.out
  have kf:=HP_w1.out.free
  have HPn:Bk x1 P 41 #[.int .i64 k.m.n,.int .i64 k.m.s,.slice bi k.m.i.length di,.slice bh k.m.h.length dh,.slice be k.m.e.length de,.int .i64 k.m.z,.slice ad k.d.length cd,.slice ap k.p.length cp,.slice ab k.b.length cb,.int .i64 k.t,.int .i64 k.q,.bool k.f,.slice au k.s.length cu,.slice ax k.x.length cx]:=by
    have b0:Bk (w1.setCell ⟨P,0,none⟩ (.int .i64 k.m.n)) P 41 #[.int .i64 k.m.n,.int .i64 k.m.s,.slice ai k.m.i.length ci,.slice ah k.m.h.length ch,.slice ae k.m.e.length ce,.int .i64 k.m.z,.slice ad k.d.length cd,.slice ap k.p.length cp,.slice ab k.b.length cb,.int .i64 k.t,.int .i64 k.q,.bool k.f,.slice au k.s.length cu,.slice ax k.x.length cx]:=HP_w1.out.put 0 _
    have b1:Bk ((w1.setCell ⟨P,0,none⟩ (.int .i64 k.m.n)).setCell ⟨P,1,none⟩ (.int .i64 k.m.s)) P 41 #[.int .i64 k.m.n,.int .i64 k.m.s,.slice ai k.m.i.length ci,.slice ah k.m.h.length ch,.slice ae k.m.e.length ce,.int .i64 k.m.z,.slice ad k.d.length cd,.slice ap k.p.length cp,.slice ab k.b.length cb,.int .i64 k.t,.int .i64 k.q,.bool k.f,.slice au k.s.length cu,.slice ax k.x.length cx]:=b0.put 1 _
    have b2:Bk (((w1.setCell ⟨P,0,none⟩ (.int .i64 k.m.n)).setCell ⟨P,1,none⟩ (.int .i64 k.m.s)).setCell ⟨P,2,none⟩ (.slice bi k.m.i.length di)) P 41 #[.int .i64 k.m.n,.int .i64 k.m.s,.slice bi k.m.i.length di,.slice ah k.m.h.length ch,.slice ae k.m.e.length ce,.int .i64 k.m.z,.slice ad k.d.length cd,.slice ap k.p.length cp,.slice ab k.b.length cb,.int .i64 k.t,.int .i64 k.q,.bool k.f,.slice au k.s.length cu,.slice ax k.x.length cx]:=b1.put 2 _
    have b3:Bk ((((w1.setCell ⟨P,0,none⟩ (.int .i64 k.m.n)).setCell ⟨P,1,none⟩ (.int .i64 k.m.s)).setCell ⟨P,2,none⟩ (.slice bi k.m.i.length di)).setCell ⟨P,3,none⟩ (.slice bh k.m.h.length dh)) P 41 #[.int .i64 k.m.n,.int .i64 k.m.s,.slice bi k.m.i.length di,.slice bh k.m.h.length dh,.slice ae k.m.e.length ce,.int .i64 k.m.z,.slice ad k.d.length cd,.slice ap k.p.length cp,.slice ab k.b.length cb,.int .i64 k.t,.int .i64 k.q,.bool k.f,.slice au k.s.length cu,.slice ax k.x.length cx]:=b2.put 3 _
    have b4:Bk (((((w1.setCell ⟨P,0,none⟩ (.int .i64 k.m.n)).setCell ⟨P,1,none⟩ (.int .i64 k.m.s)).setCell ⟨P,2,none⟩ (.slice bi k.m.i.length di)).setCell ⟨P,3,none⟩ (.slice bh k.m.h.length dh)).setCell ⟨P,4,none⟩ (.slice be k.m.e.length de)) P 41 #[.int .i64 k.m.n,.int .i64 k.m.s,.slice bi k.m.i.length di,.slice bh k.m.h.length dh,.slice be k.m.e.length de,.int .i64 k.m.z,.slice ad k.d.length cd,.slice ap k.p.length cp,.slice ab k.b.length cb,.int .i64 k.t,.int .i64 k.q,.bool k.f,.slice au k.s.length cu,.slice ax k.x.length cx]:=b3.put 4 _
    have b5:Bk ((((((w1.setCell ⟨P,0,none⟩ (.int .i64 k.m.n)).setCell ⟨P,1,none⟩ (.int .i64 k.m.s)).setCell ⟨P,2,none⟩ (.slice bi k.m.i.length di)).setCell ⟨P,3,none⟩ (.slice bh k.m.h.length dh)).setCell ⟨P,4,none⟩ (.slice be k.m.e.length de)).setCell ⟨P,5,none⟩ (.int .i64 k.m.z)) P 41 #[.int .i64 k.m.n,.int .i64 k.m.s,.slice bi k.m.i.length di,.slice bh k.m.h.length dh,.slice be k.m.e.length de,.int .i64 k.m.z,.slice ad k.d.length cd,.slice ap k.p.length cp,.slice ab k.b.length cb,.int .i64 k.t,.int .i64 k.q,.bool k.f,.slice au k.s.length cu,.slice ax k.x.length cx]:=b4.put 5 _
    exact hX▸b5
  have HB_x1:=yw1 (HB_w1.out.trans (ht.to_below (fun j e=>by omega) HB_w1.out.size))
  have HR_x1:=yw1 (HR_w1.out.turns ht (fun e=>by omega))
  have MD_x1:=yw1 (MD_w1.out.turns ht (fun j hj e=>by omega))
  have z_x1:w1.heap.size≤x1.heap.size:=ht.size
  have HP_x1:=yw1 HPn
  clear HB_w1 HP_w1 HR_w1 MD_w1 ht HPn
  obtain⟨m0,m1,m2,m3,m4,m5,m6,m7,m8,m9,m10,m11,m12,m13⟩:=ywd HP_x1.out
  go_wp2_with fail
  clear m0 m1 m2 m3 m4 m5 m6 m7 m8 m9 m10 m11 m12 m13 k0 k1 k2 k3 k4 k5 kf hX
  refine(zd8 _ k.d _ HLN.out.1 (HS6.out.below HB_x1.out)).mono ?_
  rintro e w2 ⟨y,rfl,ho,hb⟩
  obtain⟨bd,dd,rfl⟩:=yfm ho
  have HB_w2:=trh HB_x1 hb
  have HP_w2:=yw1 (HP_x1.out.below hb)
  have HR_w2:=yw1 (HR_x1.out.below hb)
  have MD_w2:=yw1 (MD_x1.out.below hb)
  have z_w2:x1.heap.size≤w2.heap.size:=hb.size
  clear HB_x1 HP_x1 HR_x1 MD_x1
  have D6_w2:=yw1 ((RowF.of_owns (by rw [yws];omega) ho).own)
  clear hb ho
  obtain⟨x2,hX⟩:∃X,(w2.setCell ⟨P,6,none⟩ (.slice bd k.d.length dd))=X:=⟨_,rfl⟩
  have ht:Turns (fun j=>j=P) w2 x2:=hX▸(yag _ P 6 _)
  have k6:=HP_w2.out.cell (i:=6) rfl
  have kf:=HP_w2.out.free
  have HPn:Bk x2 P 41 #[.int .i64 k.m.n,.int .i64 k.m.s,.slice bi k.m.i.length di,.slice bh k.m.h.length dh,.slice be k.m.e.length de,.int .i64 k.m.z,.slice bd k.d.length dd,.slice ap k.p.length cp,.slice ab k.b.length cb,.int .i64 k.t,.int .i64 k.q,.bool k.f,.slice au k.s.length cu,.slice ax k.x.length cx]:=by
    have b0:Bk (w2.setCell ⟨P,6,none⟩ (.slice bd k.d.length dd)) P 41 #[.int .i64 k.m.n,.int .i64 k.m.s,.slice bi k.m.i.length di,.slice bh k.m.h.length dh,.slice be k.m.e.length de,.int .i64 k.m.z,.slice bd k.d.length dd,.slice ap k.p.length cp,.slice ab k.b.length cb,.int .i64 k.t,.int .i64 k.q,.bool k.f,.slice au k.s.length cu,.slice ax k.x.length cx]:=HP_w2.out.put 6 _
    exact hX▸b0
  have HB_x2:=yw1 (HB_w2.out.trans (ht.to_below (fun j e=>by omega) HB_w2.out.size))
  have HR_x2:=yw1 (HR_w2.out.turns ht (fun e=>by omega))
  have MD_x2:=yw1 (MD_w2.out.turns ht (fun j hj e=>by omega))
  have D6_x2:=yw1 (D6_w2.out.turns ht (fun j hj e=>by omega))
  have z_x2:w2.heap.size≤x2.heap.size:=ht.size
  have HP_x2:=yw1 HPn
  clear HB_w2 HP_w2 HR_w2 MD_w2 D6_w2 ht HPn
  obtain⟨m0,m1,m2,m3,m4,m5,m6,m7,m8,m9,m10,m11,m12,m13⟩:=ywd HP_x2.out
  go_wp2_with fail
  clear m0 m1 m2 m3 m4 m5 m6 m7 m8 m9 m10 m11 m12 m13 k6 kf hX
  refine(zmr _ k.p.length cs _ HLN.out.2.1 HC1.out (HS7.out.below HB_x2.out)).mono ?_
  rintro e w3 ⟨y,rfl,ho,hb⟩
  obtain⟨bp,dp,rfl⟩:=yfm ho
  have HB_w3:=trh HB_x2 hb
  have HP_w3:=yw1 (HP_x2.out.below hb)
  have HR_w3:=yw1 (HR_x2.out.below hb)
  have MD_w3:=yw1 (MD_x2.out.below hb)
  have D6_w3:=yw1 (D6_x2.out.under hb)
  have z_w3:x2.heap.size≤w3.heap.size:=hb.size
  clear HB_x2 HP_x2 HR_x2 MD_x2 D6_x2
  clear hb
  obtain⟨x3,hX⟩:∃X,(w3.setCell ⟨P,7,none⟩ (.slice bp k.p.length dp))=X:=⟨_,rfl⟩
  have ht:Turns (fun j=>j=P) w3 x3:=hX▸(yag _ P 7 _)
  have k7:=HP_w3.out.cell (i:=7) rfl
  have kf:=HP_w3.out.free
  have HPn:Bk x3 P 41 #[.int .i64 k.m.n,.int .i64 k.m.s,.slice bi k.m.i.length di,.slice bh k.m.h.length dh,.slice be k.m.e.length de,.int .i64 k.m.z,.slice bd k.d.length dd,.slice bp k.p.length dp,.slice ab k.b.length cb,.int .i64 k.t,.int .i64 k.q,.bool k.f,.slice au k.s.length cu,.slice ax k.x.length cx]:=by
    have b0:Bk (w3.setCell ⟨P,7,none⟩ (.slice bp k.p.length dp)) P 41 #[.int .i64 k.m.n,.int .i64 k.m.s,.slice bi k.m.i.length di,.slice bh k.m.h.length dh,.slice be k.m.e.length de,.int .i64 k.m.z,.slice bd k.d.length dd,.slice bp k.p.length dp,.slice ab k.b.length cb,.int .i64 k.t,.int .i64 k.q,.bool k.f,.slice au k.s.length cu,.slice ax k.x.length cx]:=HP_w3.out.put 7 _
    exact hX▸b0
  have HB_x3:=yw1 (HB_w3.out.trans (ht.to_below (fun j e=>by omega) HB_w3.out.size))
  have HR_x3:=yw1 (HR_w3.out.turns ht (fun e=>by omega))
  have MD_x3:=yw1 (MD_w3.out.turns ht (fun j hj e=>by omega))
  have D6_x3:=yw1 (D6_w3.out.turns ht (fun j hj e=>by omega))
  have z_x3:w3.heap.size≤x3.heap.size:=ht.size
  have HP_x3:=yw1 HPn
  clear HB_w3 HP_w3 HR_w3 MD_w3 D6_w3 ht HPn
  have ho3:x3.ownsRow x2.heap.size 97 7 (.slice bp k.p.length dp) k.p.length cs:=ypa ho (hX▸yag _ P 7 _) (fun j hj e=>by have:=yx4 ho hj;omega)
  have HBG:Hid (∀j,bp=some ⟨j,0,none⟩→x2.heap.size≤j∧j<x3.heap.size):=fun j e=>⟨yx4 ho3 (by rw [e];rfl),owns_lt ho3 (by rw [e];rfl)⟩
  obtain⟨lo,hlo⟩:∃lo,lo=x3.heap.size:=⟨_,rfl⟩
  have HR3:=yw1 (RowP.made ho3 (by omega))
  clear ho ho3
  obtain⟨m0,m1,m2,m3,m4,m5,m6,m7,m8,m9,m10,m11,m12,m13⟩:=ywd HP_x3.out
  go_wp2
  clear m0 m1 m2 m3 m4 m5 m6 m7 m8 m9 m10 m11 m12 m13 k7 kf hX
  go_loopw [20] (fun s wr=>∃i:Nat,i≤k.p.length∧s= .int .i64 i∧RowP lo wr bp k.p.length dp (yfa k.p) cs i∧Turns (fun j=>bp=some ⟨j,0,none⟩) x3 wr) (fun s _=>k.p.length-(intOf s).toNat)
  case atStart=>exact⟨0,Nat.zero_le _,rfl,HR3.out,Turns.refl _ _⟩
  case round=>
    clear HR3
    obtain⟨i,hi,rfl,hrp,htr⟩:=hrel
    have HTr:=yw1 htr
    have HRr:=yw1 hrp
    have HB_wr:=yw1 (HB_x3.out.trans (htr.to_below (fun j e=>by have:=HBG.out j e;omega) HB_x3.out.size))
    have HP_wr:=yw1 (HP_x3.out.turns htr (fun e=>by have:=HBG.out _ e;omega))
    have HR_wr:=yw1 (HR_x3.out.turns htr (fun e=>by have:=HBG.out _ e;omega))
    have MD_wr:=yw1 (MD_x3.out.turns htr (fun j hj e=>by have:=HBG.out j e;omega))
    have D6_wr:=yw1 (D6_x3.out.turns htr (fun j hj e=>by have:=HBG.out j e;omega))
    have z_wr:x3.heap.size≤wr.heap.size:=htr.size
    clear htr hrp HB_x3 HP_x3 HR_x3 MD_x3 D6_x3
    by_cases hlt:i<k.p.length
    case pos=>
      have hgg:∃g,bp=some ⟨g,0,none⟩:=by
        obtain⟨_,_,h9⟩:=HRr.out
        rcases h9 with h9|⟨g,e,_⟩
        · omega
        · exact⟨g,e⟩
      obtain⟨g,hbp⟩:=hgg
      have hgx:=HBG.out g hbp
      have HBP:=yw1 hbp
      have HRg:Hid (RowP lo wr (some ⟨g,0,none⟩) k.p.length dp (yfa k.p) cs i):=hbp▸HRr.out
      obtain⟨hread,hfz,hgw⟩:=HRg.out.read (by omega) (fun j hj=>(HCD.out j hj).under HB_wr.out)
      obtain⟨u1,u4,u5,u6,f0,f1,f2,f3,f4,f5,f6,d1,d4,d5,d6⟩:=yzg hread hlt
      rw [Nat.zero_add]at f0 f1 f2 f3 f4 f5 f6
      have HQW:=yw1 (HWP.out i hlt)
      generalize hq:paAt k.p i=q at f0 f1 f2 f3 f4 f5 f6 d1 d4 d5 d6 HQW
      obtain⟨a1,c1,rfl⟩:=yw8 (c:=1) (n:=q.st.r.length) d1
      obtain⟨a4,c4,rfl⟩:=yw8 (c:=12) (n:=q.p.length) d4
      obtain⟨a5,c5,rfl⟩:=yw8 (c:=7) (n:=q.t.length) d5
      obtain⟨a6,c6,rfl⟩:=yw8 (c:=1) (n:=q.a.length) d6
      have HQ:Hid (paAt k.p i=q):=hq
      obtain⟨X,hXe⟩:∃X,X=wr.heap.size:=⟨_,rfl⟩
      obtain⟨wq,hwq⟩:∃V,wr.alloc (.cells #[.int .i64 q.n,.slice a1 q.st.r.length c1,.int .i64 q.st.q,.int .i64 q.st.d,.slice a4 q.p.length c4,.slice a5 q.t.length c5,.slice a6 q.a.length c6] 97)=V:=⟨_,rfl⟩
      have hbq:=beA hwq
      have hxk:Bk wq X 97 #[.int .i64 q.n,.slice a1 q.st.r.length c1,.int .i64 q.st.q,.int .i64 q.st.d,.slice a4 q.p.length c4,.slice a5 q.t.length c5,.slice a6 q.a.length c6]:=hwq▸hXe▸Bk.new wr _ _
      have HXK:=yw1 hxk
      have HIP:Hid (IsPart wq (.agg #[.int .i64 q.n,.slice a1 q.st.r.length c1,.int .i64 q.st.q,.int .i64 q.st.d,.slice a4 q.p.length c4,.slice a5 q.t.length c5,.slice a6 q.a.length c6]) q):=⟨_,_,_,_,rfl,d1.under hbq,d4.under hbq,d5.under hbq,d6.under hbq⟩
      have HZ:Hid (∀r,r<7→wq.frozen? ⟨g,i*7+r,none⟩=false):=fun r hr=>(yw4 hbq hgw).trans (hfz (i*7+r) (by omega))
      have HRW:=yw1 (HRg.out.below hbq)
      have HTq:=yw1 (HTr.out.trans (Turns.of_below hbq))
      have HPq:=yw1 (HP_wr.out.below hbq)
      have hki:decide ((i:Int)<(k.p.length:Int))=true:=by simpa using hlt
      have fq0:=(hbq.cell (p:=⟨g,_,none⟩) hgw).trans f0
      have fq1:=(hbq.cell (p:=⟨g,_,none⟩) hgw).trans f1
      have fq2:=(hbq.cell (p:=⟨g,_,none⟩) hgw).trans f2
      have fq3:=(hbq.cell (p:=⟨g,_,none⟩) hgw).trans f3
      have fq4:=(hbq.cell (p:=⟨g,_,none⟩) hgw).trans f4
      have fq5:=(hbq.cell (p:=⟨g,_,none⟩) hgw).trans f5
      have fq6:=(hbq.cell (p:=⟨g,_,none⟩) hgw).trans f6
      have hw:=hwq
      have HWQ:Hid _:=hwq
      have HXE:Hid (X=wr.heap.size):=hXe
      have hlq:lo≤wq.heap.size:=by have:=hbq.size;omega
      have hX9:X<wq.heap.size:=hxk.lt
      have hgl:g<wq.heap.size:=by have:=hbq.size;omega
      have hPl:P<wq.heap.size:=by have:=hbq.size;omega
      have m7:=HP_wr.out.cell (i:=7) rfl
      subst hbp
      clear d1 d4 d5 d6 hq hwq hread hfz hbq HRr HRg hxk hXe
      go_upto_region 7 with fail
      clear m7 hw f0 f1 f2 f3 f4 f5 f6
      try rw [HWQ.out]
      try rw [←HXE.out]
      clear HWQ
      have hXl:=hX9
      have p7:=HPq.out.cell (i:=7) rfl
      obtain⟨xc0,xc1,xc2,xc3,xc4,xc5,xc6⟩:=c7_7 HXK.out
      refine yx1 6 (fun W=>W.cell? ⟨P,7,none⟩=some (.slice (some ⟨g,0,none⟩) k.p.length dp)∧W.cell? ⟨X,0,none⟩=some (.int .i64 q.n)∧W.cell? ⟨X,1,none⟩=some (.slice a1 q.st.r.length c1)∧W.cell? ⟨X,2,none⟩=some (.int .i64 q.st.q)∧W.cell? ⟨X,3,none⟩=some (.int .i64 q.st.d)∧W.cell? ⟨X,4,none⟩=some (.slice a4 q.p.length c4)∧W.cell? ⟨X,5,none⟩=some (.slice a5 q.t.length c5)∧W.cell? ⟨X,6,none⟩=some (.slice a6 q.a.length c6)∧W.cell? ⟨g,i*7,none⟩=some (.int .i64 q.n)∧W.cell? ⟨g,i*7+1,none⟩=some (.slice a1 q.st.r.length c1)∧W.cell? ⟨g,i*7+2,none⟩=some (.int .i64 q.st.q)∧W.cell? ⟨g,i*7+3,none⟩=some (.int .i64 q.st.d)∧W.cell? ⟨g,i*7+4,none⟩=some (.slice a4 q.p.length c4)∧W.cell? ⟨g,i*7+5,none⟩=some (.slice a5 q.t.length c5)∧W.cell? ⟨g,i*7+6,none⟩=some (.slice a6 q.a.length c6)) (by kernel_rfl) ⟨((Below.refl _ wq).drew.cell (p:=⟨P,_,none⟩) hPl).trans p7,((Below.refl _ wq).drew.cell (p:=⟨X,_,none⟩) hXl).trans xc0,((Below.refl _ wq).drew.cell (p:=⟨X,_,none⟩) hXl).trans xc1,((Below.refl _ wq).drew.cell (p:=⟨X,_,none⟩) hXl).trans xc2,((Below.refl _ wq).drew.cell (p:=⟨X,_,none⟩) hXl).trans xc3,((Below.refl _ wq).drew.cell (p:=⟨X,_,none⟩) hXl).trans xc4,((Below.refl _ wq).drew.cell (p:=⟨X,_,none⟩) hXl).trans xc5,((Below.refl _ wq).drew.cell (p:=⟨X,_,none⟩) hXl).trans xc6,((Below.refl _ wq).drew.cell (p:=⟨g,_,none⟩) hgl).trans fq0,((Below.refl _ wq).drew.cell (p:=⟨g,_,none⟩) hgl).trans fq1,((Below.refl _ wq).drew.cell (p:=⟨g,_,none⟩) hgl).trans fq2,((Below.refl _ wq).drew.cell (p:=⟨g,_,none⟩) hgl).trans fq3,((Below.refl _ wq).drew.cell (p:=⟨g,_,none⟩) hgl).trans fq4,((Below.refl _ wq).drew.cell (p:=⟨g,_,none⟩) hgl).trans fq5,((Below.refl _ wq).drew.cell (p:=⟨g,_,none⟩) hgl).trans fq6⟩ (fun hHeld=> ?_)
      obtain⟨wd,hwd⟩:∃wd,wq.drew=wd:=⟨_,rfl⟩
      have hbd:Below wq.heap.size wq wd:=hwd▸(Below.refl _ wq).drew
      rw [hwd]at hHeld
      rw [hwd]
      clear hwd
      refine ywe (i:=0) (oi:= {dst:=some 25,op:=Op.fieldAddr 41 (Operand.tmp 1) 2,type:=0,pos:=_,after:=_,guard:=none}) (v:= .pointer (some ⟨P,7,none⟩)) 0 [] rfl (by kernel_rfl) (by kernel_rfl) (by kernel_rfl) (by kernel_rfl) (by kernel_rfl) (fun _ _ _ h=>h) (Or.inl ⟨by rfl,?_⟩) (by assumption) ?_
      · intro wX hSw
        try dsimp only at hSw
        go_simp
        try exact IntWalk.i64_in _ (by omega)
      try simp only [Act.put,q1,q2,q3]
      refine ywe (i:=1) (oi:= {dst:=some 26,op:=Op.load 37 (Operand.tmp 25),type:=37,pos:=_,after:=_,guard:=none}) (v:= .slice (some ⟨g,0,none⟩) k.p.length dp) 1 [] rfl (by kernel_rfl) (by kernel_rfl) (by kernel_rfl) (by kernel_rfl) (by kernel_rfl) (fun _ _ _ h=>h) (Or.inl ⟨by rfl,?_⟩) (by assumption) ?_
      · intro wX hSw
        try dsimp only at hSw
        go_simp
        try exact IntWalk.i64_in _ (by omega)
      try simp only [Act.put,q1,q2,q3]
      refine ywe (i:=2) (oi:= {dst:=some 27,op:=Op.move (Operand.tmp 3),type:=3,pos:=_,after:=_,guard:=none}) (v:= .int .i64 (i:Int)) 2 [] rfl (by kernel_rfl) (by kernel_rfl) (by kernel_rfl) (by kernel_rfl) (by kernel_rfl) (fun _ _ _ h=>h) (Or.inl ⟨by rfl,?_⟩) (by assumption) ?_
      · intro wX hSw
        try dsimp only at hSw
        go_simp
        try exact IntWalk.i64_in _ (by omega)
      try simp only [Act.put,q1,q2,q3]
      refine ywe (i:=3) (oi:= {dst:=some 28,op:=Op.load 97 (Operand.tmp 4),type:=97,pos:=_,after:=_,guard:=none}) (v:= .agg #[.int .i64 q.n,.slice a1 q.st.r.length c1,.int .i64 q.st.q,.int .i64 q.st.d,.slice a4 q.p.length c4,.slice a5 q.t.length c5,.slice a6 q.a.length c6]) 3 [] rfl (by kernel_rfl) (by kernel_rfl) (by kernel_rfl) (by kernel_rfl) (by kernel_rfl) (fun _ _ _ h=>h) (Or.inl ⟨by rfl,?_⟩) (by assumption) ?_
      · intro wX hSw
        try dsimp only at hSw
        go_simp
        try exact IntWalk.i64_in _ (by omega)
      try simp only [Act.put,q1,q2,q3]
      refine yfb (rs:= [4]) (by kernel_rfl) (by simp) ?_
      refine AllReadyZ.cons rfl (fun K hK=> ?_) AllReadyZ.nil
      go_simp
      refine(zdv _ q wd HQW.out (HIP.out.under hbd)).mono ?_
      rintro e v1 ⟨y1,rfl,hbc,hy⟩
      obtain⟨b1,e1,b4,e4,b5,e5,b6,e6,rfl⟩:=hy.form
      have HY:=yw1 hy
      have hb1:Below wq.heap.size wq v1:=trm hbd hbc
      clear hbc hy
      try go_simp
      refine hK.out _ _ ⟨(hb1.cell (p:=⟨P,_,none⟩) hPl).trans p7,(hb1.cell (p:=⟨X,_,none⟩) hXl).trans xc0,(hb1.cell (p:=⟨X,_,none⟩) hXl).trans xc1,(hb1.cell (p:=⟨X,_,none⟩) hXl).trans xc2,(hb1.cell (p:=⟨X,_,none⟩) hXl).trans xc3,(hb1.cell (p:=⟨X,_,none⟩) hXl).trans xc4,(hb1.cell (p:=⟨X,_,none⟩) hXl).trans xc5,(hb1.cell (p:=⟨X,_,none⟩) hXl).trans xc6,(hb1.cell (p:=⟨g,_,none⟩) hgl).trans fq0,(hb1.cell (p:=⟨g,_,none⟩) hgl).trans fq1,(hb1.cell (p:=⟨g,_,none⟩) hgl).trans fq2,(hb1.cell (p:=⟨g,_,none⟩) hgl).trans fq3,(hb1.cell (p:=⟨g,_,none⟩) hgl).trans fq4,(hb1.cell (p:=⟨g,_,none⟩) hgl).trans fq5,(hb1.cell (p:=⟨g,_,none⟩) hgl).trans fq6⟩ (fun hHeld=> ?_)
      clear hK K
      try simp only [Act.put,q1,q2,q3]
      refine ywe (i:=5) (oi:= {dst:=some 30,op:=Op.indexAddr 37 (Operand.tmp 26) (Operand.tmp 27),type:=0,pos:=_,after:=_,guard:=none}) (v:= .pointer (some ⟨g,i*7,none⟩)) 5 [] rfl (by kernel_rfl) (by kernel_rfl) (by kernel_rfl) (by kernel_rfl) (by kernel_rfl) (fun _ _ _ h=>h) (Or.inl ⟨by rfl,?_⟩) (by assumption) ?_
      · intro wX hSw
        try dsimp only at hSw
        go_simp
        try exact IntWalk.i64_in _ (by omega)
        try(intro h9;exfalso;omega)
      try simp only [Act.put,q1,q2,q3]
      refine yfb (rs:= [6]) (by kernel_rfl) (by simp) ?_
      refine AllReadyZ.last rfl (fun K hK=> ?_)
      have k0:=(hb1.cell (p:=⟨g,i*7,none⟩) hgl).trans fq0
      have k1:=(hb1.cell (p:=⟨g,i*7+1,none⟩) hgl).trans fq1
      have k2:=(hb1.cell (p:=⟨g,i*7+2,none⟩) hgl).trans fq2
      have k3:=(hb1.cell (p:=⟨g,i*7+3,none⟩) hgl).trans fq3
      have k4:=(hb1.cell (p:=⟨g,i*7+4,none⟩) hgl).trans fq4
      have k5:=(hb1.cell (p:=⟨g,i*7+5,none⟩) hgl).trans fq5
      have k6:=(hb1.cell (p:=⟨g,i*7+6,none⟩) hgl).trans fq6
      have z0:=(yw4 hb1 (b:=g) (o:=i*7) hgl).trans (HZ.out 0 (by omega))
      have z1:=(yw4 hb1 (b:=g) (o:=i*7+1) hgl).trans (HZ.out 1 (by omega))
      have z2:=(yw4 hb1 (b:=g) (o:=i*7+2) hgl).trans (HZ.out 2 (by omega))
      have z3:=(yw4 hb1 (b:=g) (o:=i*7+3) hgl).trans (HZ.out 3 (by omega))
      have z4:=(yw4 hb1 (b:=g) (o:=i*7+4) hgl).trans (HZ.out 4 (by omega))
      have z5:=(yw4 hb1 (b:=g) (o:=i*7+5) hgl).trans (HZ.out 5 (by omega))
      have z6:=(yw4 hb1 (b:=g) (o:=i*7+6) hgl).trans (HZ.out 6 (by omega))
      obtain⟨wf,hwf⟩:∃X,(((((((v1.setCell ⟨g,i*7,none⟩ (.int .i64 q.n)).setCell ⟨g,i*7+1,none⟩ (.slice b1 q.st.r.length e1)).setCell ⟨g,i*7+2,none⟩ (.int .i64 q.st.q)).setCell ⟨g,i*7+3,none⟩ (.int .i64 q.st.d)).setCell ⟨g,i*7+4,none⟩ (.slice b4 q.p.length e4)).setCell ⟨g,i*7+5,none⟩ (.slice b5 q.t.length e5)).setCell ⟨g,i*7+6,none⟩ (.slice b6 q.a.length e6))=X:=⟨_,rfl⟩
      have HOF:Hid (RowP lo wf (some ⟨g,0,none⟩) k.p.length dp (yfa k.p) cs (i+1)):=hwf▸HRW.out.fill (lw:=wd.heap.size) hb1 hgl hlt ⟨by have:=hbd.size;omega,by have:=hbd.size;omega⟩ (by rw [HQ.out];exact HY.out) (by rw [HQ.out];exact⟨rfl,rfl,rfl⟩)
      have HTF:Hid (Turns (fun j=>(some ⟨g,0,none⟩:Option Addr)=some ⟨j,0,none⟩) x3 wf):=hwf▸(HTq.out.trans (Turns.of_below hb1)).trans ((((((((yag _ g _ _).trans (yag _ g _ _)).trans (yag _ g _ _)).trans (yag _ g _ _)).trans (yag _ g _ _)).trans (yag _ g _ _)).trans (yag _ g _ _)).mono (fun j e=>by rw [e]))
      have HWF:Hid _:=hwf
      clear hwf HY
      go_simp
      rw [HWF.out]
      clear HWF k0 z0 k1 z1 k2 z2 k3 z3 k4 z4 k5 z5 k6 z6
      refine hK.out _ _ ?_
      clear hK K
      try simp only [Act.put,q1,q2,q3]
      refine yx2 (by kernel_rfl) ?_ _
      clear hHeld
      go_wp2
      go_roundw
      case rel=>exact⟨i+1,by omega,by go_num,HOF.out,HTF.out⟩
      case measure=>simp [intOf];omega
    case neg=>
      obtain rfl:k.p.length=i:=by omega
      have hki:decide ((k.p.length:Int)<(k.p.length:Int))=false:=by simp
      obtain⟨A7,hA7,hL7⟩:=HRr.out.all rfl
      have D7_wr:=yw1 hA7
      have HL7:Hid (∀j,A7 j→(x2.heap.size≤j∧j<x3.heap.size)∨(lo≤j∧j<wr.heap.size)):=fun j hj=>by
        obtain⟨h1,h2⟩:=hL7 j hj
        exact h1.elim (fun h=> .inl (HBG.out j h.2)) (fun h=> .inr ⟨h,h2⟩)
      have hA7P:∀j,A7 j→P<j:=fun j hj=>by have:=HL7.out j hj;omega
      have hA7R:∀j,A7 j→Rb<j:=fun j hj=>by have:=HL7.out j hj;omega
      clear hA7 hL7 HRr HTr
      obtain⟨m0,m1,m2,m3,m4,m5,m6,m7,m8,m9,m10,m11,m12,m13⟩:=ywd HP_wr.out
      go_wp2_with fail
      clear m0 m1 m2 m3 m4 m5 m6 m7 m8 m9 m10 m11 m12 m13
      refine(zmt _ k.b.length (yxk k.b) _ HLN.out.2.2.1 HC8.out (HS8.out.below HB_wr.out)).mono ?_
      rintro e w4 ⟨y,rfl,ho,hb⟩
      obtain⟨bb,db,rfl⟩:=yfm ho
      have HB_w4:=trh HB_wr hb
      have HP_w4:=yw1 (HP_wr.out.below hb)
      have HR_w4:=yw1 (HR_wr.out.below hb)
      have MD_w4:=yw1 (MD_wr.out.below hb)
      have D6_w4:=yw1 (D6_wr.out.under hb)
      have D7_w4:=yw1 (D7_wr.out.under hb)
      have z_w4:wr.heap.size≤w4.heap.size:=hb.size
      clear HB_wr HP_wr HR_wr MD_wr D6_wr D7_wr
      have D8_w4:=yw1 ((RowF.of_owns (yz6 _) ho).own)
      clear hb ho
      obtain⟨x4,hX⟩:∃X,(w4.setCell ⟨P,8,none⟩ (.slice bb k.b.length db))=X:=⟨_,rfl⟩
      have ht:Turns (fun j=>j=P) w4 x4:=hX▸(yag _ P 8 _)
      have k8:=HP_w4.out.cell (i:=8) rfl
      have kf:=HP_w4.out.free
      have HPn:Bk x4 P 41 #[.int .i64 k.m.n,.int .i64 k.m.s,.slice bi k.m.i.length di,.slice bh k.m.h.length dh,.slice be k.m.e.length de,.int .i64 k.m.z,.slice bd k.d.length dd,.slice bp k.p.length dp,.slice bb k.b.length db,.int .i64 k.t,.int .i64 k.q,.bool k.f,.slice au k.s.length cu,.slice ax k.x.length cx]:=by
        have b0:Bk (w4.setCell ⟨P,8,none⟩ (.slice bb k.b.length db)) P 41 #[.int .i64 k.m.n,.int .i64 k.m.s,.slice bi k.m.i.length di,.slice bh k.m.h.length dh,.slice be k.m.e.length de,.int .i64 k.m.z,.slice bd k.d.length dd,.slice bp k.p.length dp,.slice bb k.b.length db,.int .i64 k.t,.int .i64 k.q,.bool k.f,.slice au k.s.length cu,.slice ax k.x.length cx]:=HP_w4.out.put 8 _
        exact hX▸b0
      have HB_x4:=yw1 (HB_w4.out.trans (ht.to_below (fun j e=>by omega) HB_w4.out.size))
      have HR_x4:=yw1 (HR_w4.out.turns ht (fun e=>by omega))
      have MD_x4:=yw1 (MD_w4.out.turns ht (fun j hj e=>by omega))
      have D6_x4:=yw1 (D6_w4.out.turns ht (fun j hj e=>by omega))
      have D7_x4:=yw1 (D7_w4.out.turns ht (fun j hj e=>by have:=hA7P j hj;omega))
      have D8_x4:=yw1 (D8_w4.out.turns ht (fun j hj e=>by omega))
      have z_x4:w4.heap.size≤x4.heap.size:=ht.size
      have HP_x4:=yw1 HPn
      clear HB_w4 HP_w4 HR_w4 MD_w4 D6_w4 D7_w4 D8_w4 ht HPn
      obtain⟨m0,m1,m2,m3,m4,m5,m6,m7,m8,m9,m10,m11,m12,m13⟩:=ywd HP_x4.out
      go_wp2_with fail
      clear m0 m1 m2 m3 m4 m5 m6 m7 m8 m9 m10 m11 m12 m13 k8 kf hX
      refine(yzb _ k.s _ HLN.out.2.2.2.1 (HS12.out.below HB_x4.out)).mono ?_
      rintro e w5 ⟨y,rfl,ho,hb⟩
      obtain⟨bu,du,rfl⟩:=yfm ho
      have HB_w5:=trh HB_x4 hb
      have HP_w5:=yw1 (HP_x4.out.below hb)
      have HR_w5:=yw1 (HR_x4.out.below hb)
      have MD_w5:=yw1 (MD_x4.out.below hb)
      have D6_w5:=yw1 (D6_x4.out.under hb)
      have D7_w5:=yw1 (D7_x4.out.under hb)
      have D8_w5:=yw1 (D8_x4.out.under hb)
      have z_w5:x4.heap.size≤w5.heap.size:=hb.size
      clear HB_x4 HP_x4 HR_x4 MD_x4 D6_x4 D7_x4 D8_x4
      have D12_w5:=yw1 ((RowF.of_owns (ywc _) ho).own)
      clear hb ho
      obtain⟨x5,hX⟩:∃X,(w5.setCell ⟨P,12,none⟩ (.slice bu k.s.length du))=X:=⟨_,rfl⟩
      have ht:Turns (fun j=>j=P) w5 x5:=hX▸(yag _ P 12 _)
      have k12:=HP_w5.out.cell (i:=12) rfl
      have kf:=HP_w5.out.free
      have HPn:Bk x5 P 41 #[.int .i64 k.m.n,.int .i64 k.m.s,.slice bi k.m.i.length di,.slice bh k.m.h.length dh,.slice be k.m.e.length de,.int .i64 k.m.z,.slice bd k.d.length dd,.slice bp k.p.length dp,.slice bb k.b.length db,.int .i64 k.t,.int .i64 k.q,.bool k.f,.slice bu k.s.length du,.slice ax k.x.length cx]:=by
        have b0:Bk (w5.setCell ⟨P,12,none⟩ (.slice bu k.s.length du)) P 41 #[.int .i64 k.m.n,.int .i64 k.m.s,.slice bi k.m.i.length di,.slice bh k.m.h.length dh,.slice be k.m.e.length de,.int .i64 k.m.z,.slice bd k.d.length dd,.slice bp k.p.length dp,.slice bb k.b.length db,.int .i64 k.t,.int .i64 k.q,.bool k.f,.slice bu k.s.length du,.slice ax k.x.length cx]:=HP_w5.out.put 12 _
        exact hX▸b0
      have HB_x5:=yw1 (HB_w5.out.trans (ht.to_below (fun j e=>by omega) HB_w5.out.size))
      have HR_x5:=yw1 (HR_w5.out.turns ht (fun e=>by omega))
      have MD_x5:=yw1 (MD_w5.out.turns ht (fun j hj e=>by omega))
      have D6_x5:=yw1 (D6_w5.out.turns ht (fun j hj e=>by omega))
      have D7_x5:=yw1 (D7_w5.out.turns ht (fun j hj e=>by have:=hA7P j hj;omega))
      have D8_x5:=yw1 (D8_w5.out.turns ht (fun j hj e=>by omega))
      have D12_x5:=yw1 (D12_w5.out.turns ht (fun j hj e=>by omega))
      have z_x5:w5.heap.size≤x5.heap.size:=ht.size
      have HP_x5:=yw1 HPn
      clear HB_w5 HP_w5 HR_w5 MD_w5 D6_w5 D7_w5 D8_w5 D12_w5 ht HPn
      obtain⟨m0,m1,m2,m3,m4,m5,m6,m7,m8,m9,m10,m11,m12,m13⟩:=ywd HP_x5.out
      go_wp2_with fail
      clear m0 m1 m2 m3 m4 m5 m6 m7 m8 m9 m10 m11 m12 m13 k12 kf hX
      refine(zc2 _ k.x _ HLN.out.2.2.2.2 (HS13.out.below HB_x5.out)).mono ?_
      rintro e w6 ⟨y,rfl,ho,hb⟩
      obtain⟨bx,dx,rfl⟩:=yfm ho
      have HB_w6:=trh HB_x5 hb
      have HP_w6:=yw1 (HP_x5.out.below hb)
      have HR_w6:=yw1 (HR_x5.out.below hb)
      have MD_w6:=yw1 (MD_x5.out.below hb)
      have D6_w6:=yw1 (D6_x5.out.under hb)
      have D7_w6:=yw1 (D7_x5.out.under hb)
      have D8_w6:=yw1 (D8_x5.out.under hb)
      have D12_w6:=yw1 (D12_x5.out.under hb)
      have z_w6:x5.heap.size≤w6.heap.size:=hb.size
      clear HB_x5 HP_x5 HR_x5 MD_x5 D6_x5 D7_x5 D8_x5 D12_x5
      have D13_w6:=yw1 ((RowF.of_owns (yxd _) ho).own)
      clear hb ho
      obtain⟨x6,hX⟩:∃X,(w6.setCell ⟨P,13,none⟩ (.slice bx k.x.length dx))=X:=⟨_,rfl⟩
      have ht:Turns (fun j=>j=P) w6 x6:=hX▸(yag _ P 13 _)
      have k13:=HP_w6.out.cell (i:=13) rfl
      have kf:=HP_w6.out.free
      have HPn:Bk x6 P 41 #[.int .i64 k.m.n,.int .i64 k.m.s,.slice bi k.m.i.length di,.slice bh k.m.h.length dh,.slice be k.m.e.length de,.int .i64 k.m.z,.slice bd k.d.length dd,.slice bp k.p.length dp,.slice bb k.b.length db,.int .i64 k.t,.int .i64 k.q,.bool k.f,.slice bu k.s.length du,.slice bx k.x.length dx]:=by
        have b0:Bk (w6.setCell ⟨P,13,none⟩ (.slice bx k.x.length dx)) P 41 #[.int .i64 k.m.n,.int .i64 k.m.s,.slice bi k.m.i.length di,.slice bh k.m.h.length dh,.slice be k.m.e.length de,.int .i64 k.m.z,.slice bd k.d.length dd,.slice bp k.p.length dp,.slice bb k.b.length db,.int .i64 k.t,.int .i64 k.q,.bool k.f,.slice bu k.s.length du,.slice bx k.x.length dx]:=HP_w6.out.put 13 _
        exact hX▸b0
      have HB_x6:=yw1 (HB_w6.out.trans (ht.to_below (fun j e=>by omega) HB_w6.out.size))
      have HR_x6:=yw1 (HR_w6.out.turns ht (fun e=>by omega))
      have MD_x6:=yw1 (MD_w6.out.turns ht (fun j hj e=>by omega))
      have D6_x6:=yw1 (D6_w6.out.turns ht (fun j hj e=>by omega))
      have D7_x6:=yw1 (D7_w6.out.turns ht (fun j hj e=>by have:=hA7P j hj;omega))
      have D8_x6:=yw1 (D8_w6.out.turns ht (fun j hj e=>by omega))
      have D12_x6:=yw1 (D12_w6.out.turns ht (fun j hj e=>by omega))
      have D13_x6:=yw1 (D13_w6.out.turns ht (fun j hj e=>by omega))
      have z_x6:w6.heap.size≤x6.heap.size:=ht.size
      have HP_x6:=yw1 HPn
      clear HB_w6 HP_w6 HR_w6 MD_w6 D6_w6 D7_w6 D8_w6 D12_w6 D13_w6 ht HPn
      obtain⟨m0,m1,m2,m3,m4,m5,m6,m7,m8,m9,m10,m11,m12,m13⟩:=ywd HP_x6.out
      obtain⟨r0,r1,r2,r3,r4,r5,r6,r7,r8,r9,r10,r11,r12,r13⟩:=ywd HR_x6.out
      have rf:=HR_x6.out.free
      obtain⟨wf,hwf⟩:∃X,put14 x6 Rb (.int .i64 k.m.n) (.int .i64 k.m.s) (.slice bi k.m.i.length di) (.slice bh k.m.h.length dh) (.slice be k.m.e.length de) (.int .i64 k.m.z) (.slice bd k.d.length dd) (.slice bp k.p.length dp) (.slice bb k.b.length db) (.int .i64 k.t) (.int .i64 k.q) (.bool k.f) (.slice bu k.s.length du) (.slice bx k.x.length dx)=X:=⟨_,rfl⟩
      have ht:Turns (fun j=>j=Rb) x6 wf:=hwf▸yyh _ _ _ _ _ _ _ _ _ _ _ _ _ _ _ _
      have HRF:Hid (Bk wf Rb 41 #[.int .i64 k.m.n,.int .i64 k.m.s,.slice bi k.m.i.length di,.slice bh k.m.h.length dh,.slice be k.m.e.length de,.int .i64 k.m.z,.slice bd k.d.length dd,.slice bp k.p.length dp,.slice bb k.b.length db,.int .i64 k.t,.int .i64 k.q,.bool k.f,.slice bu k.s.length du,.slice bx k.x.length dx]):=hwf▸HR_x6.out.put14 _ _ _ _ _ _ _ _ _ _ _ _ _ _
      have HB_wf:=yw1 (HB_x6.out.trans (ht.to_below (fun j e=>by omega) HB_x6.out.size))
      have MD_wf:=yw1 (MD_x6.out.turns ht (fun j hj e=>by omega))
      have D6_wf:=yw1 (D6_x6.out.turns ht (fun j hj e=>by omega))
      have D7_wf:=yw1 (D7_x6.out.turns ht (fun j hj e=>by have:=hA7R j hj;omega))
      have D8_wf:=yw1 (D8_x6.out.turns ht (fun j hj e=>by omega))
      have D12_wf:=yw1 (D12_x6.out.turns ht (fun j hj e=>by omega))
      have D13_wf:=yw1 (D13_x6.out.turns ht (fun j hj e=>by omega))
      have z_wf:x6.heap.size≤wf.heap.size:=ht.size
      obtain⟨t0,t1,t2,t3,t4,t5,t6,t7,t8,t9,t10,t11,t12,t13⟩:=ywd HRF.out
      unfold put14 at hwf
      clear HB_x6 MD_x6 D6_x6 D7_x6 D8_x6 D12_x6 D13_x6 ht
      go_wp2
      refine bodyPost_ret (v:= .agg #[.int .i64 k.m.n,.int .i64 k.m.s,.slice bi k.m.i.length di,.slice bh k.m.h.length dh,.slice be k.m.e.length de,.int .i64 k.m.z,.slice bd k.d.length dd,.slice bp k.p.length dp,.slice bb k.b.length db,.int .i64 k.t,.int .i64 k.q,.bool k.f,.slice bu k.s.length du,.slice bx k.x.length dx]) (by simp [results,Tryz.results47,go_sem,t0,t1,t2,t3,t4,t5,t6,t7,t8,t9,t10,t11,t12,t13]) rfl ⟨_,rfl,?_,HB_wf.out⟩
      have hq7:=HL7.out
      exact⟨_,_,A7,_,_,_,_,_,_,_,_,_,_,_,rfl,MD_wf.out,D6_wf.out,D7_wf.out,D8_wf.out,D12_wf.out,D13_wf.out,fun j hj=>⟨⟨by omega,by omega⟩,fun e=>by omega,fun e=>by have:=hq7 j e;omega,fun e=>by omega,fun e=>by omega,fun e=>by omega⟩,fun j hj=>⟨⟨by omega,by omega⟩,fun e=>by have:=hq7 j e;omega,fun e=>by omega,fun e=>by omega,fun e=>by omega⟩,fun j hj=>⟨⟨by have:=hq7 j hj;omega,by have:=hq7 j hj;omega⟩,fun e=>by have:=hq7 j hj;omega,fun e=>by have:=hq7 j hj;omega,fun e=>by have:=hq7 j hj;omega⟩,fun j hj=>⟨⟨by omega,by omega⟩,fun e=>by omega,fun e=>by omega⟩,fun j hj=>⟨⟨by omega,by omega⟩,fun e=>by omega⟩,fun j hj=>⟨by omega,by omega⟩⟩
structure Hi where
  ev:List Ev
  em:List Em
  k:Int
  f:Bool
theorem rows_apart {w:World} {B B':Nat} {T T':TypeId} {c c' n n':Nat} {v v':Value} {cs cs':List Value} (h:w.ownsRow B T c v n cs) (h':w.ownsRow B' T' c' v' n' cs') (hT:T≠T') {k:Nat} (e:v.ownBlock=some k) (e':v'.ownBlock=some k):False:=by
  obtain⟨_,⟨rfl,_⟩|⟨g,cap,cur,rfl,_,hc,_⟩⟩:=h
  · cases e
  · obtain⟨_,⟨rfl,_⟩|⟨g',cap',cur',rfl,_,hc',_⟩⟩:=h'
    · cases e'
    · cases e
      cases e'
      have h2:=hc.symm.trans hc'
      cases h2
      exact hT rfl
def HiF (F:Nat→Prop) (w:World) (y:Value) (h:Hi):Prop:=
  ∃(A C:Nat→Prop) (ve vx:Value),y= .agg #[ve,vx,.int .i64 h.k,.bool h.f]∧RowF A w ve h.ev.length 7 (yvz h.ev)∧RowF C w vx h.em.length 3 (ywm h.em)∧(∀k,A k→F k∧ ¬C k)∧ ∀k,C k→F k
theorem HiF.turns {F S:Nat→Prop} {w w':World} {x:Value} {h:Hi} (hh:HiF F w x h) (ht:Turns S w w') (hS:∀k,F k→ ¬S k):HiF F w' x h:=by
  obtain⟨A,C,ve,vx,rfl,h1,h2,h3,h4⟩:=hh
  exact⟨A,C,ve,vx,rfl,h1.turns ht (fun k hk=>hS k (h3 k hk).1),h2.turns ht (fun k hk=>hS k (h4 k hk)),h3,h4⟩
theorem hi_of {w:World} {B:Nat} {ve vx:Value} {ev:List Ev} {em:List Em} {k:Int} {f:Bool} (h1:w.ownsRow B 90 7 ve ev.length (yvz ev)) (h2:w.ownsRow B 166 3 vx em.length (ywm em)):
    HiF (fun j=>B≤j∧j<w.heap.size) w (.agg #[ve,vx,.int .i64 k,.bool f]) ⟨ev,em,k,f⟩:=
  ⟨_,_,ve,vx,rfl,yxq (ywc _) h1,yxq (yxd _) h2,fun j e=>⟨World.ownsRow.lt h1 j e,fun e'=>rows_apart h1 h2 (by decide) e e'⟩,fun j e=>World.ownsRow.lt h2 j e⟩
noncomputable def comH (k : Kn) : Hi := if k.ok then ⟨k.s ++ yz8 (comL k), yze k (comL k), k.q, k.f⟩ else ⟨[], [], 0, false⟩
end Go.Proofs.YtghndljgadpijaaGreat

