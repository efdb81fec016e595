/- KIh, KIa, KIb, KIc -/
import Derived.Test.YtmobiieoecjmdaaGreatExactAnswersG26
namespace Go.Proofs.YtmobiieoecjmdaaGreat
open Go.RowKit
theorem ycq {p:Prop} (h:p):Hid p:=h
def RowE (B:Nat) (w:World) (x:Value) (l:List Ev):Prop:=w.ownsRow B 110 7 x l.length (yag l)
theorem Bk.lowB {B:Nat} {w w':World} {P:Nat} {T:TypeId} {vs:Array Value} (h:Bk w P T vs) (hb:Below B w w') (hP:P<B):Bk w' P T vs:=(hb.block P hP).trans h
theorem RowE.nil (B:Nat) (w:World):RowE B w (.slice none 0 0) []:=World.ownsRow_nil w B 110 7
theorem RowE.alloc {B:Nat} {w:World} {x:Value} {l:List Ev} (h:RowE B w x l) (o:Obj):RowE B (w.alloc o) x l:=World.ownsRow.alloc h o
theorem RowE.ge {B:Nat} {w:World} {x:Value} {l:List Ev} (h:RowE B w x l) {r:Nat} (e:x.ownBlock=some r):B≤r:=by
 obtain⟨_,⟨rfl,_⟩|⟨g,cap,cur,rfl,hg,_⟩⟩:=h
 ·simp [Value.ownBlock]at e
 ·simp [Value.ownBlock]at e
  omega
theorem RowE.grow {B:Nat} {w:World} {v:Value} {l:List Ev} {e:Ev} (h:w.ownsRow B 110 7 v (l.length+1) (yag l++e.cs)):RowE B w v (l++ [e]):=by
 unfold RowE
 rw [List.length_append,yca]
 simpa [yag] using h
theorem RowE.isEvs {B:Nat} {w:World} {x:Value} {l:List Ev} (h:RowE B w x l):IsEvs w x l:=((RowF.of_owns (yb7 l) h).own.isD).isEvs
theorem ypd (w:World) (e:Ev):∀j u,e.cs[j]? =some u→(w.alloc (.cells #[.int .i64 e.t,.int .i64 e.s,.int .i64 e.q,.int .i64 e.d,.int .i64 e.k,.int .i64 e.v,.int .i64 e.g] 110)).cell? ((⟨w.heap.size,0,none⟩:Addr).add j)=some u:=by
 intro j u hu
 have hk:Bk (w.alloc (.cells #[.int .i64 e.t,.int .i64 e.s,.int .i64 e.q,.int .i64 e.d,.int .i64 e.k,.int .i64 e.v,.int .i64 e.g] 110)) w.heap.size 110 #[.int .i64 e.t,.int .i64 e.s,.int .i64 e.q,.int .i64 e.d,.int .i64 e.k,.int .i64 e.v,.int .i64 e.g]:=Bk.new w _ _
 rw [Addr.add_lit,Nat.zero_add]
 exact hk.cell (by simpa [Ev.cs] using hu)
theorem ynn (e:Ev):∀u∈e.cs,u.oneCell'=true:=by
 intro u hu
 simp [Ev.cs]at hu
 rcases hu with rfl|rfl|rfl|rfl|rfl|rfl|rfl<;>rfl
theorem yng (l:List Pa):(yb0 l).length≤l.length:=by
 induction l with
 |nil=>simp [yb0]
 |cons a l ih=>
  have e:yb0 (a::l)=yls a++yb0 l:=rfl
  rw [e,List.length_append,List.length_cons,yls,List.length_take]
  omega
set_option maxRecDepth 100000 in
set_option maxHeartbeats 16000000 in
theorem yul (x:Value) (k:Kn) (w:World) (hs:ybt k) (hok:∀i,i<(gvtL k).length→(evAt (gvtL k) i).ok=true) (h:IsKern w x k):
  Calls Tryz.prog 119 #[x] w fun e w'=>e= .returned (retE (gvtE k))∧Below w.heap.size w w':=by
 have HOK:=ycq hok
 clear hok
 obtain⟨HSM0,hsk⟩:=hs
 have HSM:Hid (SmallM k.m):=HSM0
 obtain⟨hdl,hpl,hbl,hsl,hxl⟩:=yda hsk
 have HWP:=ycq (yd0 hsk)
 clear hsk HSM0
 obtain⟨ai,ci,ah,ch,ae,ce,ad,cd,ap,cp,ab,cb,au,cu,ax,cx,rfl,hm,hd,hp,hbg,hsu,hx⟩:=h.form
 have HM:=ycq hm
 have HD:=ycq hd
 have HPP:=ycq hp
 have HBG:=ycq hbg.rows
 have HSU:=ycq hsu.rows
 have HXX:=ycq hx.rows
 have HSUI:=ycq hsu
 have HXXI:=ycq hx
 have HK:Hid (IsKern w (.agg #[.int .i64 k.m.n,.int .i64 k.m.s,.slice ai k.m.i.length ci,.slice ah k.m.h.length ch,.slice ae k.m.e.length ce,.int .i64 k.m.z,.slice ad k.d.length cd,.slice ap k.p.length cp,.slice ab k.b.length cb,.int .i64 k.t,.int .i64 k.q,.bool k.f,.slice au k.s.length cu,.slice ax k.x.length cx]) k):=h
 clear hm hd hp hbg hsu hx h
 clear HM HD HSU HXX HSUI HXXI HK HSM HWP
 obtain⟨ie,hx0,hx1,hx2,hx3⟩:=info_parts ygv
 obtain⟨RB,hRB⟩:∃RB,RB=w.heap.size+1:=⟨_,rfl⟩
 obtain⟨W0,hW0⟩:∃W0,(w.alloc (.cells #[.int .i64 k.m.n,.int .i64 k.m.s,.slice ai k.m.i.length ci,.slice ah k.m.h.length ch,.slice ae k.m.e.length ce,.int .i64 k.m.z,.slice ad k.d.length cd,.slice ap k.p.length cp,.slice ab k.b.length cb,.int .i64 k.t,.int .i64 k.q,.bool k.f,.slice au k.s.length cu,.slice ax k.x.length cx] 57)).alloc (.cells #[.int .i64 0,.int .i64 0,.int .i64 0,.int .i64 0,.int .i64 0,.int .i64 0,.int .i64 0] 110)=W0:=⟨_,rfl⟩
 have HB0:=hdq (beA2 hW0)
 have HP0:=hdq (bkA2 hW0)
 have HR0:Hid (Bk W0 RB 110 (evA zEv)):=by rw [←hW0,hRB];exact Bk.newAt (by simp) _ _
 obtain⟨B,hB⟩:∃B,B=W0.heap.size:=⟨_,rfl⟩
 have hB1:B≤W0.heap.size:=by omega
 have hB2:w.heap.size<B:=by rw [hB];exact HP0.out.lt
 have hB3:RB<B:=by rw [hB];exact HR0.out.lt
 have hRB1:w.heap.size<RB:=by omega
 have HRB:=ycq hRB
 have HW:=ycq hW0
 have hw:=HW.out
 have q7:=HP0.out.cell (i:=7) rfl
 clear hB hW0 hRB
 go_enter Tryz.func119,Tryz.ntmps119
 go_wp2
 clear hw q7
 rw [←HRB.out]
 clear HRB HW
 go_loopw [4,12] (fun o i wr=>∃(j:Nat) (v:Value),j≤k.p.length∧v=o∧i= .int .i64 j∧RowE B wr o (yb0 (k.p.take j))∧Below B W0 wr) (fun _ i _=>k.p.length-(intOf i).toNat)
 case atStart=>exact⟨0,_,Nat.zero_le _,rfl,rfl,RowE.nil _ _,Below.refl _ _⟩
 case round=>
  obtain⟨j,o,hj,rfl,rfl,hR,hBr⟩:=hrel
  have HR:=ycq hR
  have HBB:Hid (Below B W0 wr):=hBr
  have HBr:=ycq (HB0.out.trans (hBr.mono (by omega)))
  have hs1:B≤wr.heap.size:=Nat.le_trans hB1 hBr.size
  clear hR hBr
  by_cases hlt:j<k.p.length
  ·obtain⟨b,off,rfl,hb,hPA⟩:=HPP.out.resolve_left (by intro e;rw [e]at hlt;simp at hlt)
   obtain⟨a1,c1,a4,c4,a5,c5,a6,c6,hp⟩:=hPA j hlt
   have f0:=cst HBr.out hb hp.f0
   have f1:=cst HBr.out hb hp.f1
   have f2:=cst HBr.out hb hp.f2
   have f3:=cst HBr.out hb hp.f3
   have f4:=cst HBr.out hb hp.f4
   have f5:=cst HBr.out hb hp.f5
   have f6:=cst HBr.out hb hp.f6
   have HT:=ycq hp.d5.isEvs.rows
   have HN:=ycq (yku hlt)
   have hln:(yb0 (k.p.take j)).length≤1048576:=Nat.le_trans (yng _) (by rw [List.length_take];omega)
   generalize yb0 (k.p.take j)=lq at HR HN hln
   obtain⟨V,hV⟩:∃V,wr.alloc (.cells #[.int .i64 (paAt k.p j).n,.slice a1 (paAt k.p j).st.r.length c1,.int .i64 (paAt k.p j).st.q,.int .i64 (paAt k.p j).st.d,.slice a4 (paAt k.p j).p.length c4,.slice a5 (paAt k.p j).t.length c5,.slice a6 (paAt k.p j).a.length c6] 97)=V:=⟨_,rfl⟩
   have HBV:Hid (Below B W0 V):=by rw [←hV];exact HBB.out.alloc hs1 _
   have HRV:Hid (RowE B V o lq):=by rw [←hV];exact HR.out.alloc _
   have HX:=hdq (bkA hV)
   have HBw:=ycq (HB0.out.trans (HBV.out.mono (by omega)))
   have hsV:B≤V.heap.size:=Nat.le_trans hB1 HBV.out.size
   have x5:=HX.out.cell (i:=5) rfl
   clear hp hPA
   by_cases h0:(paAt k.p j).t.length=0
   ·have HNN:Hid (yb0 (k.p.take (j+1))=lq):=by show _=_;rw [HN.out,yni h0,List.append_nil]
    rw [h0]at x5
    clear h0
    go_wp2
    go_roundw
    case rel=>exact⟨j+1,_,by omega,rfl,by go_num,by rw [HNN.out];exact HRV.out,HBV.out⟩
    case measure=>simp [intOf];omega
   ·obtain⟨n,hn⟩:∃n,(paAt k.p j).t.length=n+1:=⟨(paAt k.p j).t.length-1,by omega⟩
    have HH:Hid (yb0 (k.p.take (j+1))=lq++ [evAt (paAt k.p j).t 0]):=by show _=_;rw [HN.out,ynh hn]
    obtain⟨b5,off5,rfl,hb5,hc5⟩:=HT.out.resolve_left (by intro e;rw [e]at hn;simp at hn)
    have hev:Ev.In w b5 off5 (evAt (paAt k.p j).t 0):=by simpa using hc5 0 (by omega)
    obtain⟨e0,e1,e2,e3,e4,e5,e6⟩:=hev.below HBw.out hb5
    rw [hn]at x5
    generalize evAt (paAt k.p j).t 0=ev at HH e0 e1 e2 e3 e4 e5 e6
    clear hc5 hev h0 hn
    go_wp2_with (at_builtin;refine wpList_append_own _ rfl _ _ 34 rfl B 110 ie (.agg #[.int .i64 0,.int .i64 0,.int .i64 0,.int .i64 0,.int .i64 0,.int .i64 0,.int .i64 0]) 7 56 Tryz.underlying34 hx0 hx1 hx2 hx3 rfl (by decide) o _ _ rfl (World.ownsRow.alloc HRV.out _) ⟨V.heap.size,0,none⟩ 1 1 (ev).cs rfl rfl (ypd _ ev) (ynn ev) (by unfold maxLen;omega) (by omega) (by simp;omega) ?_;intro v4 w4 hown hgrow hnil)
    go_roundw
    case rel=>exact⟨j+1,_,by omega,rfl,by go_num,by rw [HH.out];exact RowE.grow hown,(HBV.out.alloc hsV _).grown hgrow (by simp;omega) (fun q e=>RowE.ge HRV.out e)⟩
    case measure=>simp [intOf];omega
  ·obtain rfl:k.p.length=j:=by omega
   rw [List.take_length]at HR
   obtain⟨W1,rfl⟩:∃W1,W1=wr:=⟨wr,rfl⟩
   have HR1:=ycq HR.out
   have HBB1:Hid (Below B W0 W1):=HBB.out
   have HP1:=ycq (HP0.out.lowB HBB.out hB2)
   have m8:=HP1.out.cell (i:=8) rfl
   clear HR HBB HBr hj hlt hs1
   go_wp2
   clear m8
   go_loopw [4,31] (fun o i wr=>∃(j:Nat) (v:Value),j≤k.b.length∧v=o∧i= .int .i64 j∧RowE B wr o (yb0 k.p++(k.b.take j).map (·.e))∧Below B W0 wr) (fun _ i _=>k.b.length-(intOf i).toNat)
   case atStart=>exact⟨0,_,Nat.zero_le _,rfl,rfl,by simpa using HR1.out,HBB1.out⟩
   case round=>
    clear HR1 HBB1 HP1
    obtain⟨j,o,hj,rfl,rfl,hR,hBr⟩:=hrel
    have HR:=ycq hR
    have HBB:Hid (Below B W0 wr):=hBr
    have HBr:=ycq (HB0.out.trans (hBr.mono (by omega)))
    have hs1:B≤wr.heap.size:=Nat.le_trans hB1 hBr.size
    have hhl:=yng k.p
    clear hR hBr
    by_cases hlt:j<k.b.length
    ·obtain⟨b,off,rfl,hb,hMA⟩:=HBG.out.resolve_left (by intro e;rw [e]at hlt;simp at hlt)
     obtain⟨f0,f1,f2,f3,f4,f5,f6,f7⟩:=(hMA j hlt).below HBr.out hb
     have HN:Hid (yb0 k.p++(k.b.take (j+1)).map (·.e)=(yb0 k.p++(k.b.take j).map (·.e))++ [(mlAt k.b j).e]):=(by rw [ygh hlt];simp:yb0 k.p++(k.b.take (j+1)).map (·.e)=_)
     have hln:(yb0 k.p++(k.b.take j).map (·.e)).length≤3000000:=by rw [List.length_append,List.length_map,List.length_take];omega
     generalize yb0 k.p++(k.b.take j).map (·.e)=lq at HR HN hln
     obtain⟨V,hV⟩:∃V,wr.alloc (.cells #[.int .i64 (mlAt k.b j).e.t,.int .i64 (mlAt k.b j).e.s,.int .i64 (mlAt k.b j).e.q,.int .i64 (mlAt k.b j).e.d,.int .i64 (mlAt k.b j).e.k,.int .i64 (mlAt k.b j).e.v,.int .i64 (mlAt k.b j).e.g,.bool (mlAt k.b j).a] 148)=V:=⟨_,rfl⟩
     have HBV:Hid (Below B W0 V):=by rw [←hV];exact HBB.out.alloc hs1 _
     have HRV:Hid (RowE B V o lq):=by rw [←hV];exact HR.out.alloc _
     have HX:=hdq (bkA hV)
     have hsV:B≤V.heap.size:=Nat.le_trans hB1 HBV.out.size
     obtain⟨x0,x1,x2,x3,x4,x5,x6,x7⟩:=c8_8 HX.out
     clear hMA
     go_wp2_with (at_builtin;refine wpList_append_own _ rfl _ _ 34 rfl B 110 ie (.agg #[.int .i64 0,.int .i64 0,.int .i64 0,.int .i64 0,.int .i64 0,.int .i64 0,.int .i64 0]) 7 56 Tryz.underlying34 hx0 hx1 hx2 hx3 rfl (by decide) o _ _ rfl (World.ownsRow.alloc HRV.out _) ⟨V.heap.size,0,none⟩ 1 1 ((mlAt k.b j).e).cs rfl rfl (ypd _ (mlAt k.b j).e) (ynn (mlAt k.b j).e) (by unfold maxLen;omega) (by omega) (by simp;omega) ?_;intro v4 w4 hown hgrow hnil)
     go_roundw
     case rel=>exact⟨j+1,_,by omega,rfl,by go_num,by rw [HN.out];exact RowE.grow hown,(HBV.out.alloc hsV _).grown hgrow (by simp;omega) (fun q e=>RowE.ge HRV.out e)⟩
     case measure=>simp [intOf];omega
    ·obtain rfl:k.b.length=j:=by omega
     rw [List.take_length]at HR
     have HGL:Hid (gvtL k=yb0 k.p++k.b.map (·.e)):=(rfl:gvtL k=_)
     have hgl:(yb0 k.p++k.b.map (·.e)).length≤3000000:=by rw [List.length_append,List.length_map];omega
     rw [←HGL.out]at HR hgl
     have HGE:Hid (gvtE k=minE (gvtL k)):=(rfl:gvtE k=_)
     have HRr:=ycq (HR0.out.lowB HBB.out hB3)
     generalize gvtL k=l at HR hgl HGE HOK
     have HIE:Hid (IsEvs wr o l):=HR.out.isEvs
     obtain⟨ao,co,rfl,_,_,_⟩:=HIE.out
     obtain⟨r0,r1,r2,r3,r4,r5,r6⟩:=c7_7 HRr.out
     have rf:=HRr.out.free
     by_cases hl0:l.length=0
     ·have HE0:Hid (gvtE k=none):=by show _=_;rw [HGE.out,List.length_eq_zero_iff.1 hl0];rfl
      have hlb:((l.length:Int)==0)=true:=by rw [hl0];rfl
      have hl9:(l.length:Int)=0:=by omega
      go_wp2
      clear r0 r1 r2 r3 r4 r5 r6 rf
      obtain⟨V,hV⟩:∃V,putEv wr RB zEv=V:=⟨_,rfl⟩
      have ht:=yc7 wr RB zEv
      have hk:=HRr.out.putEv zEv
      rw [hV]at ht hk
      unfold putEv at hV
      dsimp only [zEv]at hV
      rw [hV]
      have t0:V.cell? ⟨RB,0,none⟩=some (.int .i64 0):=hk.cell (i:=0) rfl
      have t1:V.cell? ⟨RB,1,none⟩=some (.int .i64 0):=hk.cell (i:=1) rfl
      have t2:V.cell? ⟨RB,2,none⟩=some (.int .i64 0):=hk.cell (i:=2) rfl
      have t3:V.cell? ⟨RB,3,none⟩=some (.int .i64 0):=hk.cell (i:=3) rfl
      have t4:V.cell? ⟨RB,4,none⟩=some (.int .i64 0):=hk.cell (i:=4) rfl
      have t5:V.cell? ⟨RB,5,none⟩=some (.int .i64 0):=hk.cell (i:=5) rfl
      have t6:V.cell? ⟨RB,6,none⟩=some (.int .i64 0):=hk.cell (i:=6) rfl
      refine bodyPost_ret (v:= .tuple #[(zEv).val,.bool false]) (by simp [results,Tryz.results119,go_sem,t0,t1,t2,t3,t4,t5,t6,Ev.val,zEv]) rfl ⟨by rw [HE0.out,retE];rfl,HBr.out.trans (ht.to_below (fun b e=>by omega) HBr.out.size)⟩
     ·have h0:0<l.length:=by omega
      have hlb:((l.length:Int)==0)=false:=by rw [beq_eq_false_iff_ne];omega
      have hl9:¬(l.length:Int)=0:=by omega
      go_wp2_with fail
      refine(iMin ao co l _ (by omega) h0 HOK.out HIE.out).mono ?_
      rintro e w5 ⟨g,hg,rfl,hb5⟩
      have HB5:=trh HBr hb5
      have HR5:=ycq (HRr.out.below hb5)
      have HE0:Hid (gvtE k=some g):=by show _=_;rw [HGE.out,hg]
      clear hb5 hg r0 r1 r2 r3 r4 r5 r6 rf
      obtain⟨r0,r1,r2,r3,r4,r5,r6⟩:=c7_7 HR5.out
      have rf:=HR5.out.free
      go_wp2
      clear r0 r1 r2 r3 r4 r5 r6 rf
      obtain⟨V,hV⟩:∃V,putEv w5 RB g=V:=⟨_,rfl⟩
      have ht:=yc7 w5 RB g
      have hk:=HR5.out.putEv g
      rw [hV]at ht hk
      unfold putEv at hV
      rw [hV]
      have t0:V.cell? ⟨RB,0,none⟩=some (.int .i64 g.t):=hk.cell (i:=0) rfl
      have t1:V.cell? ⟨RB,1,none⟩=some (.int .i64 g.s):=hk.cell (i:=1) rfl
      have t2:V.cell? ⟨RB,2,none⟩=some (.int .i64 g.q):=hk.cell (i:=2) rfl
      have t3:V.cell? ⟨RB,3,none⟩=some (.int .i64 g.d):=hk.cell (i:=3) rfl
      have t4:V.cell? ⟨RB,4,none⟩=some (.int .i64 g.k):=hk.cell (i:=4) rfl
      have t5:V.cell? ⟨RB,5,none⟩=some (.int .i64 g.v):=hk.cell (i:=5) rfl
      have t6:V.cell? ⟨RB,6,none⟩=some (.int .i64 g.g):=hk.cell (i:=6) rfl
      refine bodyPost_ret (v:= .tuple #[(g).val,.bool true]) (by simp [results,Tryz.results119,go_sem,t0,t1,t2,t3,t4,t5,t6,Ev.val]) rfl ⟨by rw [HE0.out,retE];rfl,HB5.out.trans (ht.to_below (fun b e=>by omega) HB5.out.size)⟩
end Go.Proofs.YtmobiieoecjmdaaGreat

namespace Go.Proofs.YtmobiieoecjmdaaGreat
open Go.RowKit Go.Shelf
attribute [local go_sem] Oper.semAt_some
def knB (m:Md) (t:Int) (e:Ev):Bool:=evIn m e&&decide (e.g<t)
theorem knB_iff {m:Md} {t:Int} {e:Ev}:knB m t e=true↔e.ok=true∧fitB m e.t e.d e.k=true∧e.g<t:=by
 unfold knB evIn
 simp only [Bool.and_eq_true,decide_eq_true_eq,and_assoc]
theorem ygl (x:Value) (m:Md) (e:Ev) (b:Bool) (hb:fitB m e.t e.d e.k=b) (w:World) (h:IsM w x m):Calls Tryz.prog 165 #[x,e.val] w fun r w'=>r= .returned (.bool b)∧Below w.heap.size w w':=by
 subst hb
 exact yq4 x m e.t e.s e.q e.d e.k e.v e.g w h
set_option maxRecDepth 100000 in
set_option maxHeartbeats 8000000 in
theorem yn5 (y:Value) (k:Kn) (a:Option Addr) (cap b:Nat) (l:List Ev) (w:World) (h:IsKern w y k) (hl:l.length≤1048576) (hI:l= []∨ ∃off,a=some ⟨b,off,none⟩∧EvsAt w b off l) (hb:b<w.heap.size):
  Calls Tryz.prog 158 #[y,.slice a l.length cap] w fun e w'=>Says e (∀i,i<l.length→knB k.m k.t (evAt l i)=true)∧Below w.heap.size w w':=by
 obtain⟨ai,ci,ah,ch,ae,ce,ad,cd,ap,cp,ab,cb,au,cu,ax,cx,rfl,hm,_,_,_,_,_⟩:=h.form
 have HM:Hid (IsM w (.agg #[.int .i64 k.m.n,.int .i64 k.m.s,.slice ai k.m.i.length ci,.slice ah k.m.h.length ch,.slice ae k.m.e.length ce,.int .i64 k.m.z]) k.m):=hm
 clear hm h
 refine(callsIn_wide (n:=5)).1 ?_
 refine callsIn_of_wp_marks Tryz.func158 rfl trivial ?_ rfl
 simp only [Tryz.ntmps158,List.size_toArray,List.length_cons,List.length_nil,Nat.reduceAdd,Nat.reduceSub,Array.replicate_succ,Array.replicate_zero,List.push_toArray,List.append_toArray,List.nil_append,List.cons_append]
 gi_wp2_with (refine⟨trivial,?_⟩;gi_at_call 163;refine(callsIn_wide.2 (ygn _ _ _ _)).mono ?_;rintro e w' ⟨rfl,rfl⟩)
 have cK:Bk (((w.alloc (.cells #[.int .i64 k.m.n,.int .i64 k.m.s,.slice ai k.m.i.length ci,.slice ah k.m.h.length ch,.slice ae k.m.e.length ce,.int .i64 k.m.z,.slice ad k.d.length cd,.slice ap k.p.length cp,.slice ab k.b.length cb,.int .i64 k.t,.int .i64 k.q,.bool k.f,.slice au k.s.length cu,.slice ax k.x.length cx] 57)).alloc (.cells #[.bool false] 4)).alloc (.cells #[.slice a l.length cap] 34)) w.heap.size 57 #[.int .i64 k.m.n,.int .i64 k.m.s,.slice ai k.m.i.length ci,.slice ah k.m.h.length ch,.slice ae k.m.e.length ce,.int .i64 k.m.z,.slice ad k.d.length cd,.slice ap k.p.length cp,.slice ab k.b.length cb,.int .i64 k.t,.int .i64 k.q,.bool k.f,.slice au k.s.length cu,.slice ax k.x.length cx]:=((Bk.new w _ _).alloc _).alloc _
 have cR:=(Boxed.new (w.alloc (.cells #[.int .i64 k.m.n,.int .i64 k.m.s,.slice ai k.m.i.length ci,.slice ah k.m.h.length ch,.slice ae k.m.e.length ce,.int .i64 k.m.z,.slice ad k.d.length cd,.slice ap k.p.length cp,.slice ab k.b.length cb,.int .i64 k.t,.int .i64 k.q,.bool k.f,.slice au k.s.length cu,.slice ax k.x.length cx] 57)) 4 (.bool false)).alloc (.cells #[.slice a l.length cap] 34)
 have cS:=Boxed.new ((w.alloc (.cells #[.int .i64 k.m.n,.int .i64 k.m.s,.slice ai k.m.i.length ci,.slice ah k.m.h.length ch,.slice ae k.m.e.length ce,.int .i64 k.m.z,.slice ad k.d.length cd,.slice ap k.p.length cp,.slice ab k.b.length cb,.int .i64 k.t,.int .i64 k.q,.bool k.f,.slice au k.s.length cu,.slice ax k.x.length cx] 57)).alloc (.cells #[.bool false] 4)) 34 (.slice a l.length cap)
 rw [World.size_alloc]at cR
 rw [World.size_alloc,World.size_alloc]at cS
 have hB0:Below w.heap.size w (((w.alloc (.cells #[.int .i64 k.m.n,.int .i64 k.m.s,.slice ai k.m.i.length ci,.slice ah k.m.h.length ch,.slice ae k.m.e.length ce,.int .i64 k.m.z,.slice ad k.d.length cd,.slice ap k.p.length cp,.slice ab k.b.length cb,.int .i64 k.t,.int .i64 k.q,.bool k.f,.slice au k.s.length cu,.slice ax k.x.length cx] 57)).alloc (.cells #[.bool false] 4)).alloc (.cells #[.slice a l.length cap] 34)):=(((Below.refl _ w).alloc (Nat.le_refl _) _).alloc (by simp) _).alloc (by simp;omega) _
 refine wpIn_rangeFunc_ownH rfl (by omega) (gf:=200) (lb:= #[.pointer (some ⟨w.heap.size+2,0,none⟩)]) rfl trivial (enters_of Tryz.func200 (by kernel_rfl) rfl)
  (yea Fence.wide 4 trivial rfl (by omega) (w.heap.size+2) b a cap l hl _ (by simp) cS.cell (hI.imp id (fun⟨off,e,h⟩=>⟨off,e,h.below hB0 hb⟩))) Same2.trans (Same2.putObj (by simp) (by simp;omega)) (Below.refl _ _) (fun _=>rfl)
  (fun pre W=>((∀x∈pre,knB k.m k.t (evAt l x.val)=true)∧W.cell? ⟨w.heap.size+1,0,none⟩=some (.bool false)∧W.frozen? ⟨w.heap.size+1,0,none⟩=false)∧Below (w.heap.size+3) (((w.alloc (.cells #[.int .i64 k.m.n,.int .i64 k.m.s,.slice ai k.m.i.length ci,.slice ah k.m.h.length ch,.slice ae k.m.e.length ce,.int .i64 k.m.z,.slice ad k.d.length cd,.slice ap k.p.length cp,.slice ab k.b.length cb,.int .i64 k.t,.int .i64 k.q,.bool k.f,.slice au k.s.length cu,.slice ax k.x.length cx] 57)).alloc (.cells #[.bool false] 4)).alloc (.cells #[.slice a l.length cap] 34)) W)
  (fun c pre W=>(c= .ret∧(∃x:Fin l.length,knB k.m k.t (evAt l x.val)=false)∧W.cell? ⟨w.heap.size+1,0,none⟩=some (.bool false))∧Below w.heap.size w W)
  (OwnFrom.and (Own.from (fun s A B row hs hg hr=>⟨hs.1,cell_kept hs.2.1 hg hr,(frozen_kept hs.2.1 hg hr).trans hs.2.2⟩) _) (ownFrom_below (by simp) (by simp)))
  (fun c=>OwnFrom.and (Own.from (fun s A B row hs hg hr=>⟨hs.1,hs.2.1,cell_kept hs.2.2 hg hr⟩) _) (ownFrom_below (Nat.le_refl _) (by simp;omega)))
  ⟨⟨by simp,cR.cell,cR.frozen⟩,Below.refl _ _⟩
  (fun x a' W=>∃Bx,w.heap.size+3≤Bx∧Bx<W.heap.size∧Ev.In W Bx 0 (evAt l x.val)∧a'= {tmps:= #[.agg #[.int .i64 k.m.n,.int .i64 k.m.s,.slice ai k.m.i.length ci,.slice ah k.m.h.length ch,.slice ae k.m.e.length ce,.int .i64 k.m.z,.slice ad k.d.length cd,.slice ap k.p.length cp,.slice ab k.b.length cb,.int .i64 k.t,.int .i64 k.q,.bool k.f,.slice au k.s.length cu,.slice ax k.x.length cx],.slice a l.length cap,.pointer (some ⟨w.heap.size,0,none⟩),undef,.pointer (some ⟨w.heap.size+1,0,none⟩),undef,.pointer (some ⟨Bx,0,none⟩),.slice a l.length cap,.func (.func 200) #[] #[.pointer (some ⟨w.heap.size+2,0,none⟩)],.int .i64 ((x.val:Nat):Int),(evAt l x.val).val,undef,undef,undef,undef,undef,undef,undef,undef,undef,undef,undef,undef,undef,undef,undef,undef,undef],defers:= []})
  (fun x a' s A B row hs hg hr=>by obtain⟨Bx,h1,h2,h3,h4⟩:=hs;exact⟨Bx,h1,Nat.lt_of_lt_of_le h2 hg.size,h3.kept hg (fun r e=>(hr r e).2),h4⟩) ?assign ?body ?done ?stop
 case assign=>
  rintro lp pre x W K ⟨⟨hp,hc,hf⟩,hB⟩ hK
  gi_wp2
  have hz:w.heap.size+2<W.heap.size:=by have:=hB.size;simp at this;omega
  have hBW:Below W.heap.size W (W.alloc (.cells #[.int .i64 (evAt l x.val).t,.int .i64 (evAt l x.val).s,.int .i64 (evAt l x.val).q,.int .i64 (evAt l x.val).d,.int .i64 (evAt l x.val).k,.int .i64 (evAt l x.val).v,.int .i64 (evAt l x.val).g] 110)):=(Below.refl _ W).alloc (Nat.le_refl _) _
  exact hK _ _ ((KeepsOthers.alloc _ _).from _) (Same2.below hBW hz (by omega)) ⟨⟨hp,(hBW.cell (p:=⟨w.heap.size+1,0,none⟩) (by simp;omega)).trans hc,(hBW.frozen (p:=⟨w.heap.size+1,0,none⟩) (by simp;omega)).trans hf⟩,hB.trans (hBW.mono (by omega))⟩ ⟨W.heap.size,by omega,by simp,EvAt.new _ _ _ _ _ _ _ _ _,rfl⟩
 case body=>
  rintro lp pre x a' W hlp _ ⟨⟨hp,hc,hf⟩,hB⟩ ⟨Bx,h1,h2,h3,rfl⟩ hlt
  have hz:w.heap.size+2<W.heap.size:=by have:=hB.size;simp at this;omega
  obtain⟨f0,f1,f2,f3,f4,f5,f6⟩:=h3.lits
  have HP:Hid (∀x∈pre,knB k.m k.t (evAt l x.val)=true):=hp
  have HB:Hid (Below (w.heap.size+3) (((w.alloc (.cells #[.int .i64 k.m.n,.int .i64 k.m.s,.slice ai k.m.i.length ci,.slice ah k.m.h.length ch,.slice ae k.m.e.length ce,.int .i64 k.m.z,.slice ad k.d.length cd,.slice ap k.p.length cp,.slice ab k.b.length cb,.int .i64 k.t,.int .i64 k.q,.bool k.f,.slice au k.s.length cu,.slice ax k.x.length cx] 57)).alloc (.cells #[.bool false] 4)).alloc (.cells #[.slice a l.length cap] 34)) W):=hB
  have HB0:Hid (Below w.heap.size w (((w.alloc (.cells #[.int .i64 k.m.n,.int .i64 k.m.s,.slice ai k.m.i.length ci,.slice ah k.m.h.length ch,.slice ae k.m.e.length ce,.int .i64 k.m.z,.slice ad k.d.length cd,.slice ap k.p.length cp,.slice ab k.b.length cb,.int .i64 k.t,.int .i64 k.q,.bool k.f,.slice au k.s.length cu,.slice ax k.x.length cx] 57)).alloc (.cells #[.bool false] 4)).alloc (.cells #[.slice a l.length cap] 34))):=hB0
  have HBW:Hid (Below w.heap.size w W):=hB0.trans (hB.mono (by omega))
  have HKW:Hid (Bk W w.heap.size 57 #[.int .i64 k.m.n,.int .i64 k.m.s,.slice ai k.m.i.length ci,.slice ah k.m.h.length ch,.slice ae k.m.e.length ce,.int .i64 k.m.z,.slice ad k.d.length cd,.slice ap k.p.length cp,.slice ab k.b.length cb,.int .i64 k.t,.int .i64 k.q,.bool k.f,.slice au k.s.length cu,.slice ax k.x.length cx]):=(hB.block w.heap.size (by omega)).trans cK
  have HEW:Hid (Ev.In W Bx 0 (evAt l x.val)):=h3
  clear hp hB h3 cR cS hI hB0 cK
  generalize (((w.alloc (.cells #[.int .i64 k.m.n,.int .i64 k.m.s,.slice ai k.m.i.length ci,.slice ah k.m.h.length ch,.slice ae k.m.e.length ce,.int .i64 k.m.z,.slice ad k.d.length cd,.slice ap k.p.length cp,.slice ab k.b.length cb,.int .i64 k.t,.int .i64 k.q,.bool k.f,.slice au k.s.length cu,.slice ax k.x.length cx] 57)).alloc (.cells #[.bool false] 4)).alloc (.cells #[.slice a l.length cap] 34))=W9 at HB HB0
  cases hok:(evAt l x.val).ok
  ·have K1:Hid ((evAt l x.val).ok=false):=hok
   clear hok
   gi_wp2_with (refine⟨trivial,?_⟩;gi_at_call 164;refine(CallsIn.inRound lp (callsIn_wide.2 (yg3 (evAt l x.val) false K1.out _))).mono ?_;rintro e w2 ⟨rfl,hb2⟩;have hc2:=(hb2.cell (p:=⟨w.heap.size+1,0,none⟩) (by simp;omega)).trans hc;have hf2:=(hb2.frozen (p:=⟨w.heap.size+1,0,none⟩) (by simp;omega)).trans hf)
   refine⟨trivial,?_⟩
   gi_wp2
   exact⟨((ya6 hb2).trans (KeepsOthers.setCell _ _ _)).from _,⟨rfl,⟨x,by unfold knB evIn;rw [K1.out];rfl⟩,World.cell?_setCell_same' _ _ _ (by rw [hc2];rfl)⟩,(HBW.out.trans (Below.mono hb2 (by omega))).setCell (p:=⟨w.heap.size+1,0,none⟩) (by simp) _⟩
  ·have K1:Hid ((evAt l x.val).ok=true):=hok
   clear hok
   cases hfi:fitB k.m (evAt l x.val).t (evAt l x.val).d (evAt l x.val).k
   ·have K2:Hid (fitB k.m (evAt l x.val).t (evAt l x.val).d (evAt l x.val).k=false):=hfi
    clear hfi
    gi_wp2_with (first|(refine⟨trivial,?_⟩;gi_at_call 164;refine(CallsIn.inRound lp (callsIn_wide.2 (yg3 (evAt l x.val) true K1.out _))).mono ?_;rintro e w2 ⟨rfl,hb2⟩;have hc2:=(hb2.cell (p:=⟨w.heap.size+1,0,none⟩) (by simp;omega)).trans hc;have hf2:=(hb2.frozen (p:=⟨w.heap.size+1,0,none⟩) (by simp;omega)).trans hf;have k0:=(HKW.out.below hb2).cell (i:=0) rfl;have k1:=(HKW.out.below hb2).cell (i:=1) rfl;have k2:=(HKW.out.below hb2).cell (i:=2) rfl;have k3:=(HKW.out.below hb2).cell (i:=3) rfl;have k4:=(HKW.out.below hb2).cell (i:=4) rfl;have k5:=(HKW.out.below hb2).cell (i:=5) rfl;obtain⟨u0,u1,u2,u3,u4,u5,u6⟩:=(HEW.out.below hb2 h2).lits)|(refine⟨trivial,?_⟩;gi_at_call 165;refine(CallsIn.inRound lp (callsIn_wide.2 (ygl _ k.m (evAt l x.val) false K2.out _ (HM.out.below (trm HBW.out hb2))))).mono ?_;rintro e w5 ⟨rfl,hb5⟩;have hc5:=(hb5.cell (p:=⟨w.heap.size+1,0,none⟩) (by have:=hb2.size;simp;omega)).trans hc2;have hf5:=(hb5.frozen (p:=⟨w.heap.size+1,0,none⟩) (by have:=hb2.size;simp;omega)).trans hf2))
    exact⟨((ya6 (trm hb2 hb5)).trans (KeepsOthers.setCell _ _ _)).from _,⟨rfl,⟨x,by unfold knB evIn;rw [K1.out,K2.out];rfl⟩,World.cell?_setCell_same' _ _ _ (by rw [hc5];rfl)⟩,(HBW.out.trans (Below.mono (trm hb2 hb5) (by omega))).setCell (p:=⟨w.heap.size+1,0,none⟩) (by simp) _⟩
   ·have K2:Hid (fitB k.m (evAt l x.val).t (evAt l x.val).d (evAt l x.val).k=true):=hfi
    clear hfi
    by_cases hg:(evAt l x.val).g<k.t
    case neg=>
     have hg':k.t≤(evAt l x.val).g:=by omega
     have K3:Hid (decide ((evAt l x.val).g<k.t)=false):=decide_eq_false hg
     clear hg
     gi_wp2_with (first|(refine⟨trivial,?_⟩;gi_at_call 164;refine(CallsIn.inRound lp (callsIn_wide.2 (yg3 (evAt l x.val) true K1.out _))).mono ?_;rintro e w2 ⟨rfl,hb2⟩;have hc2:=(hb2.cell (p:=⟨w.heap.size+1,0,none⟩) (by simp;omega)).trans hc;have hf2:=(hb2.frozen (p:=⟨w.heap.size+1,0,none⟩) (by simp;omega)).trans hf;have k0:=(HKW.out.below hb2).cell (i:=0) rfl;have k1:=(HKW.out.below hb2).cell (i:=1) rfl;have k2:=(HKW.out.below hb2).cell (i:=2) rfl;have k3:=(HKW.out.below hb2).cell (i:=3) rfl;have k4:=(HKW.out.below hb2).cell (i:=4) rfl;have k5:=(HKW.out.below hb2).cell (i:=5) rfl;obtain⟨u0,u1,u2,u3,u4,u5,u6⟩:=(HEW.out.below hb2 h2).lits)|(refine⟨trivial,?_⟩;gi_at_call 165;refine(CallsIn.inRound lp (callsIn_wide.2 (ygl _ k.m (evAt l x.val) true K2.out _ (HM.out.below (trm HBW.out hb2))))).mono ?_;rintro e w5 ⟨rfl,hb5⟩;have hc5:=(hb5.cell (p:=⟨w.heap.size+1,0,none⟩) (by have:=hb2.size;simp;omega)).trans hc2;have hf5:=(hb5.frozen (p:=⟨w.heap.size+1,0,none⟩) (by have:=hb2.size;simp;omega)).trans hf2;have k9:=(HKW.out.below (trm hb2 hb5)).cell (i:=9) rfl;obtain⟨t0,t1,t2,t3,t4,t5,t6⟩:=(HEW.out.below (trm hb2 hb5) h2).lits))
     exact⟨((ya6 (trm hb2 hb5)).trans (KeepsOthers.setCell _ _ _)).from _,⟨rfl,⟨x,by unfold knB;rw [K3.out,Bool.and_false]⟩,World.cell?_setCell_same' _ _ _ (by rw [hc5];rfl)⟩,(HBW.out.trans (Below.mono (trm hb2 hb5) (by omega))).setCell (p:=⟨w.heap.size+1,0,none⟩) (by simp) _⟩
    have hg':¬k.t≤(evAt l x.val).g:=by omega
    have K3:Hid ((evAt l x.val).g<k.t):=hg
    clear hg
    gi_wp2_with (first|(refine⟨trivial,?_⟩;gi_at_call 164;refine(CallsIn.inRound lp (callsIn_wide.2 (yg3 (evAt l x.val) true K1.out _))).mono ?_;rintro e w2 ⟨rfl,hb2⟩;have hc2:=(hb2.cell (p:=⟨w.heap.size+1,0,none⟩) (by simp;omega)).trans hc;have hf2:=(hb2.frozen (p:=⟨w.heap.size+1,0,none⟩) (by simp;omega)).trans hf;have k0:=(HKW.out.below hb2).cell (i:=0) rfl;have k1:=(HKW.out.below hb2).cell (i:=1) rfl;have k2:=(HKW.out.below hb2).cell (i:=2) rfl;have k3:=(HKW.out.below hb2).cell (i:=3) rfl;have k4:=(HKW.out.below hb2).cell (i:=4) rfl;have k5:=(HKW.out.below hb2).cell (i:=5) rfl;obtain⟨u0,u1,u2,u3,u4,u5,u6⟩:=(HEW.out.below hb2 h2).lits)|(refine⟨trivial,?_⟩;gi_at_call 165;refine(CallsIn.inRound lp (callsIn_wide.2 (ygl _ k.m (evAt l x.val) true K2.out _ (HM.out.below (trm HBW.out hb2))))).mono ?_;rintro e w5 ⟨rfl,hb5⟩;have hc5:=(hb5.cell (p:=⟨w.heap.size+1,0,none⟩) (by have:=hb2.size;simp;omega)).trans hc2;have hf5:=(hb5.frozen (p:=⟨w.heap.size+1,0,none⟩) (by have:=hb2.size;simp;omega)).trans hf2;have k9:=(HKW.out.below (trm hb2 hb5)).cell (i:=9) rfl;obtain⟨t0,t1,t2,t3,t4,t5,t6⟩:=(HEW.out.below (trm hb2 hb5) h2).lits))
    exact⟨(ya6 (trm hb2 hb5)).from _,Same2.below (trm hb2 hb5) hz (by omega),⟨fun y hy=>(List.mem_append.1 hy).elim (HP.out y) (fun e=>by simp at e;subst e;exact knB_iff.2 ⟨K1.out,K2.out,K3.out⟩),hc5,hf5⟩,HB.out.trans (Below.mono (trm hb2 hb5) (by omega))⟩
 case done=>
  rintro D ys W hD rfl ⟨⟨hp,hc,hf⟩,hB⟩ hK
  have HP:Hid (∀x∈List.finRange l.length,knB k.m k.t (evAt l x.val)=true):=hp
  clear hp
  gi_wp2
  have hK':=(KeepsOthers.setCell W ⟨w.heap.size+1,0,none⟩ (.bool true)).same D _ hK rfl
  refine⟨by simp,.inl ⟨_,_,rfl,run_takeDeferred hK',?_⟩⟩
  have hc5:=cell_kept (World.cell?_setCell_same' W ⟨w.heap.size+1,0,none⟩ (.bool true) (by rw [hc];rfl)) (grownBy_putObj' _ D (.deferred none)) (fun r e=>by cases e;exact⟨_,hK',rfl⟩)
  refine⟨.bool true,?_,Says.yes (fun i hi=>HP.out ⟨i,hi⟩ (List.mem_finRange _)),((hB0.trans (hB.mono (by omega))).setCell (p:=⟨w.heap.size+1,0,none⟩) (by simp) _).trans (belowK_b (w:=w) (Nat.le_refl _) _ D _ _ (by simp at hD;omega) hK' rfl rfl)⟩
  simp [results,Tryz.f158,go_sem,hc5]
 case stop=>
  rintro D c pre W hD _ ⟨⟨rfl,⟨x,hx⟩,hc⟩,hB⟩ hK
  have HX:Hid (knB k.m k.t (evAt l x.val)=false):=hx
  clear hx
  gi_wp2
  refine⟨by simp,.inl ⟨_,_,rfl,run_takeDeferred hK,?_⟩⟩
  have hc5:=cell_kept hc (grownBy_putObj' _ D (.deferred none)) (fun r e=>by cases e;exact⟨_,hK,rfl⟩)
  refine⟨.bool false,?_,Says.no (fun h=>by have:=h x.val x.isLt;rw [HX.out]at this;cases this),hB.trans (belowK_b (w:=w) (Nat.le_refl _) W D _ _ (by simp at hD;omega) hK rfl rfl)⟩
  simp [results,Tryz.f158,go_sem,hc5]
end Go.Proofs.YtmobiieoecjmdaaGreat

namespace Go.Proofs.YtmobiieoecjmdaaGreat
open Go.RowKit
theorem yjv {p:Prop} (h:p):Hid p:=h
def yiv (t:Int) (l:List Int):Bool:=decide (l= [])||decide (intAt l (l.length-1)<t)
def knL (k:Kn) (l:List Ev):Bool:=allB l.length (fun i=>knB k.m k.t (evAt l i))
def ymw (k:Kn) (x:Ps):Bool:=decide (x.e.g<k.t)&&knL k x.s
def ygu (k:Kn) (p:Pa):Bool:=allB p.p.length (fun i=>ymw k (psAt p.p i))
theorem yln (y:Value) (k:Kn) (a:Option Addr) (cap:Nat) (l:List Ev) (b:Bool) (hb:knL k l=b) (w:World) (h:IsKern w y k) (hl:l.length≤1048576) (hp:0<w.heap.size) (hI:IsEvs w (.slice a l.length cap) l):
  Calls Tryz.prog 158 #[y,.slice a l.length cap] w fun e w'=>e= .returned (.bool b)∧Below w.heap.size w w':=by
 have conv:∀{e:Ending} {w':World},(Says e (∀i,i<l.length→knB k.m k.t (evAt l i)=true)∧Below w.heap.size w w')→e= .returned (.bool b)∧Below w.heap.size w w':=by
  rintro e w' ⟨⟨c,rfl,hc⟩,hw⟩
  refine⟨?_,hw⟩
  rw [←hb]
  cases c
  ·rw [yac (b:=knL k l) (fun h=>by have:=hc.2 (allB_iff.1 h);cases this)]
  ·rw [show knL k l=true from allB_iff.2 (hc.1 rfl)]
 rcases hI.rows with rfl|⟨b',off,rfl,hbb⟩
 ·exact(yn5 y k a cap 0 [] w h hl (.inl rfl) hp).mono fun e w' hh=>conv hh
 ·exact(yn5 y k _ cap b' l w h hl (.inr ⟨off,rfl,hbb⟩) hbb.1).mono fun e w' hh=>conv hh
set_option maxRecDepth 100000 in
set_option maxHeartbeats 8000000 in
theorem iAntis8 (x y:Value) (k:Kn) (p:Pa) (w:World) (hal:p.a.length≤1048576) (h:IsKern w x k) (h':IsPart w y p):
  Calls Tryz.prog 160 #[x,y] w fun e w'=>e= .returned (.bool (yiv k.t p.a))∧Below w.heap.size w w':=by
 have hpos:0<w.heap.size+1:=by omega
 obtain⟨ai,ci,ah,ch,ae,ce,ad,cd,ap,cp,ab,cb,au,cu,ax,cx,rfl,_,_,_,_,_,_⟩:=h.form
 have HK:=yjv h
 clear h
 obtain⟨u1,u4,u5,u6,rfl,h1,h4,h5,h6⟩:=h'
 obtain⟨a1,c1,rfl⟩:=ybo (c:=1) (n:=p.st.r.length) h1
 obtain⟨a4,c4,rfl⟩:=ybo (c:=12) (n:=p.p.length) h4
 obtain⟨a5,c5,rfl⟩:=ybo (c:=7) (n:=p.t.length) h5
 obtain⟨a6,c6,rfl⟩:=ybo (c:=1) (n:=p.a.length) h6
 have HPS:=yjv (yct h4)
 have HAN:=yjv h6.isI.rows
 clear h1 h4 h5 h6 hpos
 obtain⟨PB,hPB⟩:∃PB,PB=w.heap.size+1:=⟨_,rfl⟩
 obtain⟨W0,hW0⟩:=yi2 HK.out 57 (.cells #[.int .i64 p.n,.slice a1 p.st.r.length c1,.int .i64 p.st.q,.int .i64 p.st.d,.slice a4 p.p.length c4,.slice a5 p.t.length c5,.slice a6 p.a.length c6] 97)
 have HB0:Hid (Below w.heap.size w W0):=by rw [←hW0];exact((Below.refl _ w).alloc (Nat.le_refl _) _).alloc (by simp) _
 have HK0:Hid (Bk W0 w.heap.size 57 #[.int .i64 k.m.n,.int .i64 k.m.s,.slice ai k.m.i.length ci,.slice ah k.m.h.length ch,.slice ae k.m.e.length ce,.int .i64 k.m.z,.slice ad k.d.length cd,.slice ap k.p.length cp,.slice ab k.b.length cb,.int .i64 k.t,.int .i64 k.q,.bool k.f,.slice au k.s.length cu,.slice ax k.x.length cx]):=by rw [←hW0];exact(Bk.new w _ _).alloc _
 have HP0:Hid (Bk W0 PB 97 #[.int .i64 p.n,.slice a1 p.st.r.length c1,.int .i64 p.st.q,.int .i64 p.st.d,.slice a4 p.p.length c4,.slice a5 p.t.length c5,.slice a6 p.a.length c6]):=by rw [←hW0,hPB];exact Bk.newAt (by simp) _ _
 have HW:=yjv hW0
 have HPB:=yjv hPB
 clear hW0 hPB
 go_enter Tryz.func160,Tryz.ntmps160
 have hne:=neB W0
 have y9:=ya5 (i:=9) HK0.out rfl
 have hw:=HW.out
 by_cases h0:p.a= []
 ·have HN:Hid (yiv k.t p.a=true):=(by simp [yiv,h0]:yiv k.t p.a=true)
  have hz:p.a.length=0:=by rw [h0];rfl
  have y6:∀q:Beyond W0,q.w.cell? ⟨PB,6,none⟩=some (.slice a6 0 c6):=fun q=>by have:=ya5 (i:=6) HP0.out rfl q;rw [hz]at this;exact this
  clear h0 hz HAN HPS HK
  go_wp2_with fail
  try rw [HW.out]
  rw [←HPB.out]
  refine wrb ?_
  repeat(go_big_quiet_step (fail))
  refine wpQuiet_nil ?_
  rintro w3 ⟨⟨_,hb3⟩,rfl⟩
  have HB3:=yjv hb3
  clear hb3
  go_wp2
  go_ret
  exact⟨ya0 HN.out.symm,trm HB0.out HB3.out⟩
 ·obtain⟨b,off,rfl,hb,hc⟩:=HAN.out.resolve_left h0
  obtain⟨n,hn⟩:∃n,p.a.length=n+1:=⟨p.a.length-1,by have:=List.length_pos_iff.2 h0;omega⟩
  have HN:Hid (yiv k.t p.a=decide (intAt p.a n<k.t)):=(by simp [yiv,h0,hn]:yiv k.t p.a=_)
  have y6:∀q:Beyond W0,q.w.cell? ⟨PB,6,none⟩=some (.slice (some ⟨b,off,none⟩) (n+1) c6):=fun q=>by have:=ya5 (i:=6) HP0.out rfl q;rw [hn]at this;exact this
  have e0:∀q:Beyond W0,q.w.cell? ⟨b,off+n,none⟩=some (.int .i64 (intAt p.a n)):=fun q=>q.cell (Nat.lt_of_lt_of_le hb HB0.out.size) ((HB0.out.cell (p:=⟨b,_,none⟩) hb).trans (hc n (by omega)))
  have hn9:(n:Int)+1≤1048576:=by omega
  have hnb:(((n:Int)+1)==0)=false:=by rw [beq_eq_false_iff_ne];omega
  have en:((n:Int)+1-1).toNat=n:=by omega
  have en2:(n:Int)+1-1=(n:Int):=by omega
  generalize intAt p.a n=z at e0 HN
  clear h0 hn hc hb HAN HPS HK
  go_wp2_with fail
  try rw [HW.out]
  rw [←HPB.out]
  refine wrb ?_
  repeat(go_big_quiet_step (fail))
  refine wpQuiet_nil ?_
  rintro w3 ⟨⟨_,hb3⟩,rfl⟩
  have HB3:=yjv hb3
  clear hb3
  go_wp2
  go_ret
  exact⟨ya0 HN.out.symm,trm HB0.out HB3.out⟩
theorem yfs {p:Prop} (h:p):Hid p:=h
theorem pastL1_iff {k:Kn} {x:Ps}:ymw k x=true↔x.e.g<k.t∧knL k x.s=true:=by
 unfold ymw
 simp only [Bool.and_eq_true,decide_eq_true_eq]
set_option maxRecDepth 100000 in
set_option maxHeartbeats 8000000 in
theorem iPastK (x y:Value) (k:Kn) (p:Pa) (w:World) (hw9:p.wt≤1048576) (h:IsKern w x k) (h':IsPart w y p):
  Calls Tryz.prog 159 #[x,y] w fun e w'=>e= .returned (.bool (ygu k p))∧Below w.heap.size w w':=by
 have hlens:p.p.length≤1048576∧ ∀i,i<p.p.length→(psAt p.p i).s.length≤1048576:=by
  unfold Pa.wt at hw9
  simp only [yal,yb2]at hw9
  have h2:=yc3 p.p
  refine⟨by omega,fun i hi=> ?_⟩
  have h9:(psAt p.p i).wt≤(yay p.p).wt:=Ps.wt_le hi
  unfold Ps.wt at h9
  simp only [yal,yb2,ycm]at h9
  omega
 have hpl:p.p.length≤1048576:=hlens.1
 have HSL:=yfs hlens.2
 clear hlens hw9
 have hpos:0<w.heap.size+1:=by omega
 obtain⟨ai,ci,ah,ch,ae,ce,ad,cd,ap,cp,ab,cb,au,cu,ax,cx,rfl,_,_,_,_,_,_⟩:=h.form
 have HK:=yfs h
 clear h
 obtain⟨u1,u4,u5,u6,rfl,h1,h4,h5,h6⟩:=h'
 obtain⟨a1,c1,rfl⟩:=ybo (c:=1) (n:=p.st.r.length) h1
 obtain⟨a4,c4,rfl⟩:=ybo (c:=12) (n:=p.p.length) h4
 obtain⟨a5,c5,rfl⟩:=ybo (c:=7) (n:=p.t.length) h5
 obtain⟨a6,c6,rfl⟩:=ybo (c:=1) (n:=p.a.length) h6
 have HPS:=yfs (yct h4)
 have HAN:=yfs h6.isI.rows
 clear h1 h4 h5 h6 hpos
 obtain⟨PB,hPB⟩:∃PB,PB=w.heap.size+1:=⟨_,rfl⟩
 obtain⟨W0,hW0⟩:=yi2 HK.out 57 (.cells #[.int .i64 p.n,.slice a1 p.st.r.length c1,.int .i64 p.st.q,.int .i64 p.st.d,.slice a4 p.p.length c4,.slice a5 p.t.length c5,.slice a6 p.a.length c6] 97)
 have HB0:Hid (Below w.heap.size w W0):=by rw [←hW0];exact((Below.refl _ w).alloc (Nat.le_refl _) _).alloc (by simp) _
 have HK0:Hid (Bk W0 w.heap.size 57 #[.int .i64 k.m.n,.int .i64 k.m.s,.slice ai k.m.i.length ci,.slice ah k.m.h.length ch,.slice ae k.m.e.length ce,.int .i64 k.m.z,.slice ad k.d.length cd,.slice ap k.p.length cp,.slice ab k.b.length cb,.int .i64 k.t,.int .i64 k.q,.bool k.f,.slice au k.s.length cu,.slice ax k.x.length cx]):=by rw [←hW0];exact(Bk.new w _ _).alloc _
 have HP0:Hid (Bk W0 PB 97 #[.int .i64 p.n,.slice a1 p.st.r.length c1,.int .i64 p.st.q,.int .i64 p.st.d,.slice a4 p.p.length c4,.slice a5 p.t.length c5,.slice a6 p.a.length c6]):=by rw [←hW0,hPB];exact Bk.newAt (by simp) _ _
 have HW:=yfs hW0
 have HPB:=yfs hPB
 clear hW0 hPB
 have hw:=HW.out
 have q4:=HP0.out.cell (i:=4) rfl
 go_enter Tryz.func159,Tryz.ntmps159
 go_upto_region 1 with fail
 try rw [HW.out]
 rw [←HPB.out]
 go_wp2
 clear q4 hw HW HPB
 go_loopw [10] (fun i wr=>∃j:Nat,j≤p.p.length∧i= .int .i64 j∧Hid (∀i,i<j→ymw k (psAt p.p i)=true)∧Below W0.heap.size W0 wr) (fun i _=>p.p.length-(intOf i).toNat)
 case atStart=>exact⟨0,Nat.zero_le _,rfl,fun j hj=>by omega,Below.refl _ _⟩
 case round=>
  obtain⟨j,hj,rfl,HA,hB⟩:=hrel
  have HBr:=trh HB0 hB
  have HBr2:=yfs hB
  have HKr:=yfs (HK0.out.below hB)
  clear hB
  by_cases hlt:j<p.p.length
  ·obtain⟨b,off,rfl,hb,hc⟩:=HPS.out.resolve_left (by intro e;rw [e]at hlt;simp at hlt)
   obtain⟨a7,c7,a10,c10,a11,c11,hpp⟩:=hc j hlt
   have f0:=cst HBr.out hb hpp.ev.f0
   have f1:=cst HBr.out hb hpp.ev.f1
   have f2:=cst HBr.out hb hpp.ev.f2
   have f3:=cst HBr.out hb hpp.ev.f3
   have f4:=cst HBr.out hb hpp.ev.f4
   have f5:=cst HBr.out hb hpp.ev.f5
   have f6:=cst HBr.out hb hpp.ev.f6
   have f7:=cst HBr.out hb hpp.f7
   have f8:=cst HBr.out hb hpp.f8
   have f9:=cst HBr.out hb hpp.f9
   have f10:=cst HBr.out hb hpp.f10
   have f11:=cst HBr.out hb hpp.f11
   have HSN:=yfs hpp.d10.isEvs
   have hsn:(psAt p.p j).s.length≤1048576:=HSL.out j hlt
   have HNO:Hid (¬ymw k (psAt p.p j)=true→ygu k p=false):=fun h1=>yac (fun h=>h1 (allB_iff.1 h j hlt))
   obtain⟨V,hV⟩:∃V,wr.alloc (.cells #[.int .i64 (psAt p.p j).e.t,.int .i64 (psAt p.p j).e.s,.int .i64 (psAt p.p j).e.q,.int .i64 (psAt p.p j).e.d,.int .i64 (psAt p.p j).e.k,.int .i64 (psAt p.p j).e.v,.int .i64 (psAt p.p j).e.g,.slice a7 (psAt p.p j).b.r.length c7,.int .i64 (psAt p.p j).b.q,.int .i64 (psAt p.p j).b.d,.slice a10 (psAt p.p j).s.length c10,.slice a11 (psAt p.p j).x.length c11] 115)=V:=⟨_,rfl⟩
   have HB1:=hdq (beA hV)
   have HX:=hdq (bkA hV)
   have HKV:=yfs (HKr.out.below HB1.out)
   have HBV:=trh HBr HB1.out
   have x6:=HX.out.cell (i:=6) rfl
   have x10:=HX.out.cell (i:=10) rfl
   obtain⟨k0,k1,k2,k3,k4,k5,k6,k7,k8,k9,k10,k11,k12,k13⟩:=ydx HKV.out
   clear hc hpp
   by_cases hg:(psAt p.p j).e.g<k.t
   case neg=>
    have hg':k.t≤(psAt p.p j).e.g:=by omega
    have HN:Hid (ygu k p=false):=HNO.out (fun h=>hg (pastL1_iff.1 h).1)
    clear hg
    go_wp2
    go_ret
    exact⟨ya0 HN.out.symm,HBV.out⟩
   have hg':¬k.t≤(psAt p.p j).e.g:=by omega
   have KG:=yfs hg
   clear hg
   go_wp2_with fail
   clear f0 f1 f2 f3 f4 f5 f6 f7 f8 f9 f10 f11 x6 x10 hV k0 k1 k2 k3 k4 k5 k6 k7 k8 k9 k10 k11 k12 k13
   refine(yln _ k a10 c10 (psAt p.p j).s _ rfl _ (HK.out.under HBV.out) hsn (Nat.lt_of_le_of_lt (Nat.zero_le _) HX.out.lt) (HSN.out.below HBV.out)).mono ?_
   rintro e w3 ⟨rfl,hb3⟩
   have HB3:=trh HB1 hb3
   clear hb3
   cases hkn:knL k (psAt p.p j).s with
   |false=>
    have HN:Hid (ygu k p=false):=HNO.out (fun h=>by have:=(pastL1_iff.1 h).2;rw [hkn]at this;cases this)
    clear hkn
    go_wp2
    go_ret
    exact⟨ya0 HN.out.symm,trm HBr.out HB3.out⟩
   |true=>
    have K9:=yfs (pastL1_iff.2 ⟨KG.out,hkn⟩)
    clear hkn
    go_wp2
    go_roundw
    case rel=>exact⟨j+1,by omega,by go_num,fun i hi=>by
     by_cases e:i=j
     ·subst e;exact K9.out
     ·exact HA.out i (by omega),trm HBr2.out HB3.out⟩
    case measure=>simp [intOf];omega
  ·obtain rfl:p.p.length=j:=by omega
   have HY:Hid (ygu k p=true):=allB_iff.2 HA.out
   go_wp2
   go_ret
   exact⟨ya0 HY.out.symm,HBr.out⟩
end Go.Proofs.YtmobiieoecjmdaaGreat

