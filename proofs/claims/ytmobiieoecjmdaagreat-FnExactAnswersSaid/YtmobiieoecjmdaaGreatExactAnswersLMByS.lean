/- The specification's l2bytes. -/
import Derived.Test.YtmobiieoecjmdaaGreatExactAnswersG23
namespace Go.Proofs.YtmobiieoecjmdaaGreat
open Go.RowKit
theorem ybl {p:Prop} (h:p):Hid p:=h
theorem bcellB {B:Nat} {W w1:World} (hb:Below B W w1):(∀b o,b<B→w1.cell? ⟨b,o,none⟩=W.cell? ⟨b,o,none⟩)∧(∀b o,b<B→w1.frozen? ⟨b,o,none⟩=W.frozen? ⟨b,o,none⟩):=
 ⟨fun b o h=>hb.cell (p:=⟨b,o,none⟩) h,fun b o h=>hb.frozen (p:=⟨b,o,none⟩) h⟩
theorem wrap_u8 (z:Int):IntKind.u8.wrap z=z%256:=by rfl
theorem yhd (z:Int):By.intCells [byteOf z]= [.int .u8 (IntKind.u8.wrap z)]:=by rw [wrap_u8,cells_one]
theorem RowBy.alloc {B:Nat} {w:World} {x:Value} {l:List UInt8} (h:RowBy B w x l) (o:Obj):RowBy B (w.alloc o) x l:=World.ownsRow.alloc h o
theorem at_new2d (w:World) (a b:Value):∀j u,[a,b][j]? =some u→(w.alloc (.cells #[a,b] 5)).drew.cell? ((⟨w.heap.size,0,none⟩:Addr).add j)=some u:=yig w a b
theorem RowBy.drewB {B:Nat} {w:World} {x:Value} {l:List UInt8} (h:RowBy B w x l):RowBy B w.drew x l:=h
theorem len2 {l:List UInt8} (z:Int) (h:l.length≤400):(l++twoB z).length≤12002:=by rw [List.length_append,ydm];omega
theorem len2b {l:List UInt8} (x y:UInt8) (h:l.length≤300):(l++ [x,y]).length≤1000000:=by rw [List.length_append];simp;omega
theorem len0 {l:List UInt8} (h:l.length≤400):l.length≤1000000:=by omega
theorem len4 {l:List UInt8} (z:Int) (x y:UInt8) (h:l.length≤400):(l++twoB z++ [x,y]).length≤1000000:=by rw [List.length_append,List.length_append,ydm];simp;omega
theorem bk_one (w:World) (a:Array Value):Bk (w.alloc (.cells a 5)).drew w.heap.size 5 a:=Bk.new w 5 a
theorem Hid.mk' {p:Prop} (h:p):Hid p:=h
theorem len3 {l:List UInt8} (x y:UInt8) (z:Int) (h:l.length≤300):(l++ [x,y]++twoB z).length≤12004:=by rw [List.length_append,List.length_append,ydm];simp;omega
theorem szd (w:World) (o:Obj):w.heap.size≤(w.alloc o).drew.heap.size:=by show w.heap.size≤(w.alloc o).heap.size;simp
theorem sza (w:World) (o:Obj):w.heap.size≤(w.alloc o).heap.size:=by simp
theorem RowBy.lt {B:Nat} {w:World} {x:Value} {l:List UInt8} (h:RowBy B w x l) {k:Nat} (e:x.ownBlock=some k):k<w.heap.size:=by
 obtain⟨_,⟨rfl,_⟩|⟨g,cap,cur,rfl,_,hc,_⟩⟩:=h
 ·simp [Value.ownBlock]at e
 ·simp [Value.ownBlock]at e
  subst e
  exact(Array.getElem?_eq_some_iff.1 hc).1
theorem RowBy.apart {B:Nat} {w:World} {x:Value} {l:List UInt8} (h:RowBy B w x l) {X:Nat} {cs:Array Value} (hb:Bk w X 5 cs) (hs:cs.size<l.length):¬x.ownBlock=some X:=by
 intro e
 obtain⟨_,⟨rfl,_⟩|⟨g,cap,cur,rfl,_,hc,h1,_,h3,_⟩⟩:=h
 ·simp [Value.ownBlock]at e
 ·simp [Value.ownBlock]at e
  subst e
  have hb':w.heap[g]? =some (.cells cs 5):=hb
  rw [hb']at hc
  simp at hc
  subst hc
  omega
theorem bk_src1 {w:World} {X:Nat} {a:Value} (h:Bk w X 5 #[a]):∀j u,[a][j]? =some u→w.cell? ((⟨X,0,none⟩:Addr).add j)=some u:=by
 intro j u hu
 rw [Addr.add_lit,Nat.zero_add]
 exact h.cell (by simpa using hu)
theorem ypb {w:World} {X:Nat} {a b:Value} (h:Bk w X 5 #[a,b]):∀j u,[a,b][j]? =some u→w.cell? ((⟨X,0,none⟩:Addr).add j)=some u:=by
 intro j u hu
 rw [Addr.add_lit,Nat.zero_add]
 exact h.cell (by simpa using hu)
theorem long2 {l:List UInt8} (x y:UInt8):1<(l++ [x,y]).length:=by simp
theorem bk_up {w:World} (a b:Array Value):Bk ((w.alloc (.cells a 5)).alloc (.cells b 5)).drew (w.heap.size+1) 5 b:=Bk.newAt (by simp) _ _
theorem bk_low {w:World} (a b:Array Value):Bk ((w.alloc (.cells a 5)).alloc (.cells b 5)).drew w.heap.size 5 a:=(Bk.new w 5 a).alloc _
theorem szdd (w:World) (o o':Obj):w.heap.size≤((w.alloc o).alloc o').drew.heap.size:=by show w.heap.size≤((w.alloc o).alloc o').heap.size;simp;omega
theorem yfp {P:Program} {ops:Array Oper} {o:Oper} {a:Act} {w:World} {K:Act→World→Prop} {Q:Exit→Act→World→Prop} {E:Prop} (h:if Region.wanted o (yielded ops a.tmps)=true then Oper.wp P o a w K Q else E):if Region.wanted o (yielded ops a.tmps)=true then Oper.wp P o a w K Q else E:=h
theorem ygq {P:Program} {f:FuncId} {args:Array Value} {w:World} {Q:Ending→World→Prop} (h:Calls P f args w Q):Calls P f args w Q:=h
theorem yu2 (a b:Int):∀u∈ [Value.int .u8 a,.int .u8 b],u.oneCell'=true:=by
 intro u hu
 simp at hu
 rcases hu with rfl|rfl<;>rfl
theorem ones1 (a:Int):∀u∈ [Value.int .u8 a],u.oneCell'=true:=by
 intro u hu
 simp at hu
 subst hu
 rfl
theorem yhz (z y:Int):By.intCells [byteOf z,byteOf y]= [.int .u8 (IntKind.u8.wrap z),.int .u8 (IntKind.u8.wrap y)]:=by
 have e:By.intCells [byteOf z,byteOf y]=By.intCells [byteOf z]++By.intCells [byteOf y]:=rfl
 rw [e,yhd,yhd]
 rfl
set_option maxRecDepth 100000 in
set_option maxHeartbeats 16000000 in
theorem yo9 (x:Value) (m:Md) (w:World) (hs:SmallM m) (hok:m.ok=true) (h:IsM w x m):
  Calls Tryz.prog 87 #[x] w fun e w'=>∃u,e= .returned u∧RowBy w.heap.size w' u (ycz m)∧Below w.heap.size w w':=by
 have HX:Hid (IsM w x m):=h
 obtain⟨vi,vh,vs,rfl,⟨ai,ci,rfl,hi1,hi2,hi3⟩,⟨ah,ch,rfl,hh1,hh2,hh3⟩,⟨ae,ce,rfl,he1,he2,he3⟩⟩:=h
 have hi0:m.i.length≤1048576:=hs.i
 have hh0:m.h.length≤1048576:=hs.h
 have he0:m.e.length≤1048576:=hs.e
 have HS:Hid (SmallM m):=hs
 clear hs hi1 hi2 hh1 hh2 he1 he2
 have HI:=ybl hi3
 have HH:=ybl hh3
 have HEV:=ybl he3
 clear hi3 hh3 he3 hi0 he0 hh0
 have HOK:Hid (m.ok=true):=hok
 obtain⟨d0,d1,d2,d3,d4,d5,d6,d7,d8,d9⟩:=(yko hok).1
 clear hok
 have hn0:0≤m.n:=by omega
 have hn1:m.n≤255:=by omega
 have hh0:(0:Int)≤(m.h.length:Int):=by omega
 have hh1:(m.h.length:Int)≤255:=by omega
 have he0:(0:Int)≤(m.e.length:Int):=by omega
 have he1:(m.e.length:Int)≤255:=by omega
 have HD:Hid ((0≤m.z∧m.z≤65535)∧(0≤m.s∧m.s≤65535)∧m.i.length≤4∧m.h.length≤4∧m.e.length≤6):=⟨⟨d8,by omega⟩,⟨d2,d3⟩,by omega,d6,d7⟩
 clear d0 d1 d2 d3 d4 d5 d6 d7 d8 d9
 obtain⟨i0,hi,hz0,hz1,hz2⟩:=info_parts By.info5
 obtain⟨W0,hW0⟩:∃W0,w.alloc (.cells #[.int .i64 m.n,.int .i64 m.s,.slice ai m.i.length ci,.slice ah m.h.length ch,.slice ae m.e.length ce,.int .i64 m.z] 36)=W0:=⟨_,rfl⟩
 have HB0:=hdq (beA hW0)
 have HP0:=hdq (bkA hW0)
 have hwB:w.heap.size<W0.heap.size:=HP0.out.lt
 obtain⟨B,hBe⟩:∃B,B=W0.heap.size:=⟨_,rfl⟩
 have HBe:Hid (B=W0.heap.size):=hBe
 have hB0:B≤W0.heap.size:=by omega
 have hwB:w.heap.size<B:=by omega
 obtain⟨p0,p1,p2,p3,p4,p5⟩:=c6_6 HP0.out
 clear hBe
 have HR0:Hid (RowBy B (W0.alloc (.cells #[.int .u8 (IntKind.u8.wrap m.n),.int .u8 (IntKind.u8.wrap (m.h.length:Int)),.int .u8 (IntKind.u8.wrap (m.e.length:Int))] 5)).drew (.slice (some ⟨W0.heap.size,0,none⟩) 3 3) (yek m)):=by
  have:=yth W0 (.int .u8 (IntKind.u8.wrap m.n)) (.int .u8 (IntKind.u8.wrap (m.h.length:Int))) (.int .u8 (IntKind.u8.wrap (m.e.length:Int)))
  have e1:By.intCells (yek m)=By.intCells [byteOf m.n]++(By.intCells [byteOf (m.h.length:Int)]++By.intCells [byteOf (m.e.length:Int)]):=rfl
  rw [yhd,yhd,yhd]at e1
  show World.ownsRow _ B 5 1 _ 3 (By.intCells (yek m))
  rw [e1,HBe.out]
  exact this
 have HBA:Hid (Below B W0 (W0.alloc (.cells #[.int .u8 (IntKind.u8.wrap m.n),.int .u8 (IntKind.u8.wrap (m.h.length:Int)),.int .u8 (IntKind.u8.wrap (m.e.length:Int))] 5)).drew):=((Below.refl B W0).alloc hB0 _).drew
 have HRT:Hid (∀z,0≤z→True):=fun _ _=>trivial
 go_enter Tryz.func87,Tryz.ntmps87
 go_wp2_with fail
 clear hW0
 go_region_held3 (fun W=>W.cell? ⟨w.heap.size,0,none⟩=some (.int .i64 m.n)∧W.cell? ⟨w.heap.size,1,none⟩=some (.int .i64 m.s)∧W.cell? ⟨w.heap.size,3,none⟩=some (.slice ah m.h.length ch)∧W.cell? ⟨w.heap.size,4,none⟩=some (.slice ae m.e.length ce)∧W.cell? ⟨w.heap.size,5,none⟩=some (.int .i64 m.z)) ((repeat' apply And.intro)<;>first|(go_keep;done)|assumption|(rw [hcA _ _ (by omega)];assumption))
  (first|(have hq:=HR1;go_at_call 137;refine(ye4 B _ _ _ _ hs1 (by simp [yek,twoB]) HR1.out).mono ?_;rintro e w2 ⟨v2,rfl,hr2,ht2⟩;have HB2:Hid (Below B W0 w2):=HB1.out.trans (ht2.to_below (fun k e=>ybf HR1.out e) hs1);have HR2:=hdq hr2;obtain⟨hcA,hfA⟩:=bcellB HB2.out;clear hr2 ht2)|(go_at_call 137;refine(ye4 B _ (yek m) _ _ (Nat.le_trans hB0 HBA.out.size) (by simp [yek]) HR0.out).mono ?_;rintro e w1 ⟨v1,rfl,hr1,ht1⟩;have HB1:Hid (Below B W0 w1):=HBA.out.trans (ht1.to_below (fun k e=>ybf HR0.out e) (Nat.le_trans hB0 HBA.out.size));have HR1:=hdq hr1;have hs1:B≤w1.heap.size:=Nat.le_trans hB0 HB1.out.size;obtain⟨hcA,hfA⟩:=bcellB HB1.out;clear hr1 ht1))
 clear hcA hfA
 have HP2:=ybl (HP0.out.keep HB2.out hwB)
 have HBX:=ybl (HB0.out.trans (HB2.out.mono (by omega)))
 have hs4:B≤w2.heap.size:=Nat.le_trans hB0 HB2.out.size
 have HLL:Hid (ycz m=yek m++twoB m.z++twoB m.s++iniB m m.i.length++yej m m.h.length++evsB m m.e.length):=rfl
 have hl4:(yek m++twoB m.z++twoB m.s).length≤7:=by simp [yek,twoB]
 generalize yek m++twoB m.z++twoB m.s=l4 at HR2 HLL hl4
 obtain⟨w4,hw4⟩:∃w4,w4=w2:=⟨_,rfl⟩
 subst hw4
 have HB4:=ybl HBX
 have HP4:=ybl HP2
 have HR4:Hid (RowBy B w4 v2 l4):=HR2
 clear HR2 HB2 HR1 HB1 HR0 HBA HRT HP0 HB0 HBe hs1 p0 p1 p2 p3 p4 p5 hB0 HBX HP2
 have q2:=HP4.out.cell (i:=2) rfl
 generalize IntKind.u8.wrap m.n=zn
 generalize IntKind.u8.wrap (m.h.length:Int)=zh
 generalize IntKind.u8.wrap (m.e.length:Int)=ze
 go_wp2
 clear q2
 go_loopw [3,4] (fun o i wr=>∃(k:Nat) (v:Value),k≤m.i.length∧v=o∧i= .int .i64 k∧RowBy B wr o (l4++iniB m k)∧Below B w4 wr) (fun _ i _=>m.i.length-(intOf i).toNat)
 case atStart=>exact⟨0,_,Nat.zero_le _,rfl,rfl,by simpa [iniB] using HR4.out,Below.refl _ _⟩
 case round=>
  clear HR4
  obtain⟨k,o,hk,rfl,rfl,hR,hBw⟩:=hrel
  have HR4:=ybl hR
  have HBW:Hid (Below B w4 wr):=hBw
  have hsw:B≤wr.heap.size:=Nat.le_trans hs4 hBw.size
  have HBX:=ybl (HB4.out.trans (hBw.mono (by omega)))
  have HPW:=ybl (HP4.out.keep hBw hwB)
  have q2:=HPW.out.cell (i:=2) rfl
  clear hR hBw
  have hd3:m.i.length≤4:=HD.out.2.2.1
  by_cases hlt:k<m.i.length
  ·obtain⟨b,off,rfl,hI⟩:=HI.out.resolve_left (by intro e;rw [e]at hlt;simp at hlt)
   have f0:=(HBX.out.cell (p:=⟨b,off+k,none⟩) hI.1).trans (hI.2 k hlt)
   clear hI
   go_wp2_with fail
   clear f0 q2
   refine(ye4 B _ _ _ _ hsw (by rw [List.length_append,yeg];omega) HR4.out).mono ?_
   rintro e w5 ⟨v5,rfl,hr5,ht5⟩
   have HR5:=ybl hr5
   have HBW5:Hid (Below B w4 w5):=HBW.out.trans (ht5.to_below (fun k e=>ybf HR4.out e) hsw)
   clear hr5 ht5
   go_wp2
   go_roundw
   case rel=>exact⟨k+1,_,by omega,rfl,by go_num,by have:=HR5.out;rw [List.append_assoc]at this;exact this,HBW5.out⟩
   case measure=>simp [intOf];omega
  ·obtain rfl:k=m.i.length:=by omega
   have hl5:(l4++iniB m m.i.length).length≤15:=by rw [List.length_append,yeg];omega
   generalize l4++iniB m m.i.length=l5 at HR4 HLL hl5
   obtain⟨W5,hW5⟩:∃W5,W5=wr:=⟨_,rfl⟩
   subst hW5
   have hs5:B≤W5.heap.size:=hsw
   have HP5:=ybl HPW
   clear HBW HP4 HB4 hs4 HPW
   go_wp2
   clear q2
   go_loopw [3,5] (fun o i wr=>∃(k:Nat) (v:Value),k≤m.h.length∧v=o∧i= .int .i64 k∧RowBy B wr o (l5++yej m k)∧Below B W5 wr) (fun _ i _=>m.h.length-(intOf i).toNat)
   case atStart=>exact⟨0,_,Nat.zero_le _,rfl,rfl,by simpa [yej] using HR4.out,Below.refl _ _⟩
   case round=>
    clear HR4
    obtain⟨k,o,hk,rfl,rfl,hR,hBw⟩:=hrel
    have HR4:=ybl hR
    have HBW:Hid (Below B W5 wr):=hBw
    have hsw2:B≤wr.heap.size:=Nat.le_trans hsw hBw.size
    have HBY:=ybl (HBX.out.trans (hBw.mono (by omega)))
    have HPW:=ybl (HP5.out.keep hBw hwB)
    have q3:=HPW.out.cell (i:=3) rfl
    have q4:=HPW.out.cell (i:=4) rfl
    have hd4:m.h.length≤4:=HD.out.2.2.2.1
    clear hR hBw
    by_cases hlt:k<m.h.length
    ·obtain⟨b,off,rfl,hb,hc⟩:=HH.out.resolve_left (by intro e;rw [e]at hlt;simp at hlt)
     obtain⟨u,f0,hu⟩:=hc k hlt
     have HF:=ybl f0
     replace f0:=(HBY.out.cell (p:=⟨b,off+k,none⟩) hb).trans f0
     have hr8:(hAt m.h k).length≤8:=yol HOK.out k
     have hr0:(0:Int)≤((hAt m.h k).length:Int):=by omega
     have hr1:((hAt m.h k).length:Int)≤255:=by omega
     have hll:=yds HOK.out k
     have hlk:(l5++yej m k).length≤200:=by rw [List.length_append];omega
     have HRB:Hid (l5++yej m (k+1)=(l5++yej m k)++ [byteOf ((hAt m.h k).length:Int)]++opsB (hAt m.h k) (hAt m.h k).length):=(by simp [yej,ymr]:l5++yej m (k+1)=(l5++yej m k)++ [byteOf ((hAt m.h k).length:Int)]++opsB (hAt m.h k) (hAt m.h k).length)
     generalize l5++yej m k=lk at HR4 hlk HRB
     obtain⟨a1,c1,rfl,_,_,hu⟩:=hu
     have HU:=ybl hu
     clear hc hu hll
     go_wp2_with (at_builtin;refine wpList_append_own _ rfl _ _ 127 rfl B 5 i0 (.int .u8 0) 1 1 Tryz.underlying127 hi hz0 hz1 hz2 rfl (by decide) o _ _ rfl (World.ownsRow.alloc HR4.out _) ⟨wr.heap.size,0,none⟩ 1 1 [.int .u8 ((hAt m.h k).length:Int)] rfl rfl (ym6 _ _) (fun u hu=>by simp at hu;first|(subst hu;rfl)|(rcases hu with rfl|rfl<;>rfl)) (by unfold maxLen;omega) (by omega) (by simp;omega) ?_;intro v1 w1 hown hgrow hnil;have HR1:Hid (RowBy B w1 v1 (lk++ [byteOf ((hAt m.h k).length:Int)])):=RowBy.grow hown (yd8 hr0 hr1) rfl;have HB1:Hid (Below B W5 w1):=(HBW.out.alloc hsw2 _).grown hgrow (by simp;omega) (fun j e=>ybf HR4.out e);clear hown hgrow hnil)
     clear f0 q3 q4
     have hl1:(lk++ [byteOf ((hAt m.h k).length:Int)]).length≤201:=by rw [List.length_append];simp;omega
     generalize lk++ [byteOf ((hAt m.h k).length:Int)]=l1 at HR1 HRB hl1
     clear HR4 HBW HPW HBY hsw2
     go_loopw [3,6] (fun o i wr=>∃(q:Nat) (v:Value),q≤(hAt m.h k).length∧v=o∧i= .int .i64 q∧RowBy B wr o (l1++opsB (hAt m.h k) q)∧Below B W5 wr) (fun _ i _=>(hAt m.h k).length-(intOf i).toNat)
     case atStart=>exact⟨0,_,Nat.zero_le _,rfl,rfl,by simpa [opsB] using HR1.out,HB1.out⟩
     case round=>
      clear HR1 HB1
      obtain⟨q,o,hq,rfl,rfl,hR,hBw⟩:=hrel
      have HR1:=ybl hR
      have HB1:Hid (Below B W5 wr):=hBw
      have hsw3:B≤wr.heap.size:=Nat.le_trans hs5 hBw.size
      have HBY:=ybl (HBX.out.trans (hBw.mono (by omega)))
      have HPW:=ybl (HP5.out.keep hBw hwB)
      have q3:=HPW.out.cell (i:=3) rfl
      have f0:=(HBY.out.cell (p:=⟨b,off+k,none⟩) hb).trans HF.out
      have hln:(l1++opsB (hAt m.h k) q).length≤300:=by rw [List.length_append,yfg];omega
      have HN:Hid (l1++opsB (hAt m.h k) (q+1)=(l1++opsB (hAt m.h k) q)++opB (oAt (hAt m.h k) q)):=(by simp [opsB]:l1++opsB (hAt m.h k) (q+1)=(l1++opsB (hAt m.h k) q)++opB (oAt (hAt m.h k) q))
      generalize hlq:l1++opsB (hAt m.h k) q=lq at HR1 hln HN
      have HLQ:=ybl hlq
      clear hR hBw hlq
      by_cases hlt2:q<(hAt m.h k).length
      ·obtain⟨b1,off1,rfl,hb1,hc1⟩:=HU.out.resolve_left (by intro e;rw [e]at hlt2;simp at hlt2)
       obtain⟨g0,g1,g2,g3⟩:=(hc1 q hlt2).below HBY.out hb1
       generalize oAt (hAt m.h k) q=e at g0 g1 g2 g3 HN
       obtain⟨c,a,b2,k2⟩:=e
       clear hc1
       obtain⟨QB,hQB⟩:∃QB,QB=wr.heap.size:=⟨_,rfl⟩
       obtain⟨V,hV⟩:∃V,wr.alloc (.cells #[.int .i64 c,.int .i64 a,.int .i64 b2,.int .i64 k2] 182)=V:=⟨_,rfl⟩
       have hsV:B≤V.heap.size:=by rw [←hV];simp;omega
       have HBV:Hid (Below B W5 V):=hV▸HB1.out.alloc hsw3 _
       have HRV:Hid (RowBy B V o lq):=hV▸World.ownsRow.alloc HR1.out _
       have HQV:Hid (Bk V QB 182 #[.int .i64 c,.int .i64 a,.int .i64 b2,.int .i64 k2]):=hV▸Bk.newAt hQB _ _
       have hQV:QB<V.heap.size:=HQV.out.lt
       have e0:V.cell? ⟨QB,0,none⟩=some (.int .i64 c):=HQV.out.cell rfl
       have e1:V.cell? ⟨QB,1,none⟩=some (.int .i64 a):=HQV.out.cell rfl
       have e2:V.cell? ⟨QB,2,none⟩=some (.int .i64 b2):=HQV.out.cell rfl
       have e3:V.cell? ⟨QB,3,none⟩=some (.int .i64 k2):=HQV.out.cell rfl
       have hQB':=hQB.symm
       clear HB1 HR1 hQB
       go_wp2_with fail
       clear g0 g1 g2 g3 hV q3 f0
       go_region_held3 (fun W=>W.cell? ⟨QB,0,none⟩=some (.int .i64 c)∧W.cell? ⟨QB,1,none⟩=some (.int .i64 a)∧W.cell? ⟨QB,2,none⟩=some (.int .i64 b2)∧W.cell? ⟨QB,3,none⟩=some (.int .i64 k2)) ((repeat' apply And.intro)<;>first|(go_keep;done)|assumption|(rw [hcA _ _ (by omega)];assumption)) (first|(have hq:=HX3;(with_reducible (refine yfp (w:=w3) ?_));refine ybe (w:=w3) rfl (.tmp 88) (.tmp 92) 127 rfl B 5 i0 (.int .u8 0) 1 1 Tryz.underlying127 hi hz0 hz1 hz2 rfl (by decide) v3 _ _ rfl HR3.out ⟨_,0,none⟩ 1 1 [.int .u8 (IntKind.u8.wrap k2)] rfl rfl (bk_src1 HX3.out) (ones1 _) (by unfold maxLen;omega) (by omega) hs3 ?_;intro v4 w4 hown4 hgrow4;have HR4:Hid (RowBy B w4 v4 (lq++ [byteOf c,byteOf a]++twoB b2++ [byteOf k2])):=RowBy.grow hown4 (yhd k2) rfl;have HB4:Hid (Below B W5 w4):=(HB3.out).grown hgrow4 hs3 (fun j e=>ybf HR3.out e);have HQ4:Hid (Bk w4 QB 182 #[.int .i64 c,.int .i64 a,.int .i64 b2,.int .i64 k2]):=(HQ3.out).turns (yan hgrow4) (HR3.out.ne HQ3.out (by decide));have kc0:w4.cell? ⟨QB,0,none⟩=some (.int .i64 c):=HQ4.out.cell rfl;have kc1:w4.cell? ⟨QB,1,none⟩=some (.int .i64 a):=HQ4.out.cell rfl;have kc2:w4.cell? ⟨QB,2,none⟩=some (.int .i64 b2):=HQ4.out.cell rfl;have kc3:w4.cell? ⟨QB,3,none⟩=some (.int .i64 k2):=HQ4.out.cell rfl;clear hown4 hgrow4)|(have hq:=HR3;(with_reducible (refine yfp (w:=(World.alloc w3 _)) ?_));refine ybe (w:=w3.alloc (.cells #[.int .u8 (IntKind.u8.wrap k2)] 5)) rfl (.tmp 88) (.tmp 92) 127 rfl B 5 i0 (.int .u8 0) 1 1 Tryz.underlying127 hi hz0 hz1 hz2 rfl (by decide) v3 _ _ rfl (RowBy.alloc HR3.out _) ⟨w3.heap.size,0,none⟩ 1 1 [.int .u8 (IntKind.u8.wrap k2)] rfl rfl (ym6 w3 _) (ones1 _) (by unfold maxLen;omega) (by omega) (Nat.le_trans hs3 (sza w3 _)) ?_;intro v4 w4 hown4 hgrow4;have HR4:Hid (RowBy B w4 v4 (lq++ [byteOf c,byteOf a]++twoB b2++ [byteOf k2])):=RowBy.grow hown4 (yhd k2) rfl;have HB4:Hid (Below B W5 w4):=((HB3.out.alloc hs3 _)).grown hgrow4 (Nat.le_trans hs3 (sza w3 _)) (fun j e=>ybf HR3.out e);have HQ4:Hid (Bk w4 QB 182 #[.int .i64 c,.int .i64 a,.int .i64 b2,.int .i64 k2]):=((HQ3.out.alloc _)).turns (yan hgrow4) (HR3.out.ne HQ3.out (by decide));have kc0:w4.cell? ⟨QB,0,none⟩=some (.int .i64 c):=HQ4.out.cell rfl;have kc1:w4.cell? ⟨QB,1,none⟩=some (.int .i64 a):=HQ4.out.cell rfl;have kc2:w4.cell? ⟨QB,2,none⟩=some (.int .i64 b2):=HQ4.out.cell rfl;have kc3:w4.cell? ⟨QB,3,none⟩=some (.int .i64 k2):=HQ4.out.cell rfl;clear hown4 hgrow4)|(have hq:=HX2;go_at_call 137;(with_reducible (refine ygq (w:=w2) ?_));refine(ye4 B _ _ _ w2 hs2 (len2b _ _ hln) HR2.out).mono ?_;rintro e w3 ⟨v3,rfl,hr3,ht3⟩;have HR3:=hdq hr3;have HB3:Hid (Below B W5 w3):=(HB2.out).trans (ht3.to_below (fun k e=>ybf HR2.out e) hs2);have HQ3:Hid (Bk w3 QB 182 #[.int .i64 c,.int .i64 a,.int .i64 b2,.int .i64 k2]):=(HQ2.out).turns ht3 (HR2.out.ne HQ2.out (by decide));have HX3:=Hid.mk' (HX2.out.turns ht3 (HR2.out.apart HX2.out (long2 _ _)));have hs3:B≤w3.heap.size:=Nat.le_trans hs5 HB3.out.size;have hQ3:QB<w3.heap.size:=HQ3.out.lt;have hl3:(lq++ [byteOf c,byteOf a]++twoB b2).length≤12004:=len3 _ _ b2 hln;have kb0:w3.cell? ⟨QB,0,none⟩=some (.int .i64 c):=HQ3.out.cell rfl;have kb1:w3.cell? ⟨QB,1,none⟩=some (.int .i64 a):=HQ3.out.cell rfl;have kb2:w3.cell? ⟨QB,2,none⟩=some (.int .i64 b2):=HQ3.out.cell rfl;have kb3:w3.cell? ⟨QB,3,none⟩=some (.int .i64 k2):=HQ3.out.cell rfl;clear hr3 ht3)|(go_at_call 137;(with_reducible (refine ygq (w:=w2) ?_));refine(ye4 B _ _ _ w2 hs2 (len2b _ _ hln) HR2.out).mono ?_;rintro e w3 ⟨v3,rfl,hr3,ht3⟩;have HR3:=hdq hr3;have HB3:Hid (Below B W5 w3):=(HB2.out).trans (ht3.to_below (fun k e=>ybf HR2.out e) hs2);have HQ3:Hid (Bk w3 QB 182 #[.int .i64 c,.int .i64 a,.int .i64 b2,.int .i64 k2]):=(HQ2.out).turns ht3 (HR2.out.ne HQ2.out (by decide));have hs3:B≤w3.heap.size:=Nat.le_trans hs5 HB3.out.size;have hQ3:QB<w3.heap.size:=HQ3.out.lt;have hl3:(lq++ [byteOf c,byteOf a]++twoB b2).length≤12004:=len3 _ _ b2 hln;have kb0:w3.cell? ⟨QB,0,none⟩=some (.int .i64 c):=HQ3.out.cell rfl;have kb1:w3.cell? ⟨QB,1,none⟩=some (.int .i64 a):=HQ3.out.cell rfl;have kb2:w3.cell? ⟨QB,2,none⟩=some (.int .i64 b2):=HQ3.out.cell rfl;have kb3:w3.cell? ⟨QB,3,none⟩=some (.int .i64 k2):=HQ3.out.cell rfl;clear hr3 ht3)|(go_at_call 137;(with_reducible (refine ygq (w:=(World.alloc w2 _)) ?_));refine(ye4 B _ _ _ (w2.alloc (.cells #[.int .u8 (IntKind.u8.wrap k2)] 5)) (Nat.le_trans hs2 (sza w2 _)) (len2b _ _ hln) (RowBy.alloc HR2.out _)).mono ?_;rintro e w3 ⟨v3,rfl,hr3,ht3⟩;have HR3:=hdq hr3;have HB3:Hid (Below B W5 w3):=((HB2.out.alloc hs2 _)).trans (ht3.to_below (fun k e=>ybf HR2.out e) (Nat.le_trans hs2 (sza w2 _)));have HQ3:Hid (Bk w3 QB 182 #[.int .i64 c,.int .i64 a,.int .i64 b2,.int .i64 k2]):=((HQ2.out.alloc _)).turns ht3 (HR2.out.ne HQ2.out (by decide));have HX3:=Hid.mk' ((Bk.new w2 5 #[.int .u8 (IntKind.u8.wrap k2)]).turns ht3 (fun e=>by have:=HR2.out.lt e;omega));have hs3:B≤w3.heap.size:=Nat.le_trans hs5 HB3.out.size;have hQ3:QB<w3.heap.size:=HQ3.out.lt;have hl3:(lq++ [byteOf c,byteOf a]++twoB b2).length≤12004:=len3 _ _ b2 hln;have kb0:w3.cell? ⟨QB,0,none⟩=some (.int .i64 c):=HQ3.out.cell rfl;have kb1:w3.cell? ⟨QB,1,none⟩=some (.int .i64 a):=HQ3.out.cell rfl;have kb2:w3.cell? ⟨QB,2,none⟩=some (.int .i64 b2):=HQ3.out.cell rfl;have kb3:w3.cell? ⟨QB,3,none⟩=some (.int .i64 k2):=HQ3.out.cell rfl;clear hr3 ht3)|((with_reducible (refine yfp (w:=(World.drew (World.alloc V _))) ?_));refine ybe (w:=(V.alloc (.cells #[.int .u8 (IntKind.u8.wrap c),.int .u8 (IntKind.u8.wrap a)] 5)).drew) rfl (.tmp 77) (.tmp 84) 127 rfl B 5 i0 (.int .u8 0) 1 1 Tryz.underlying127 hi hz0 hz1 hz2 rfl (by decide) o _ _ rfl (RowBy.drewB (RowBy.alloc HRV.out _)) ⟨V.heap.size,0,none⟩ 2 2 [.int .u8 (IntKind.u8.wrap c),.int .u8 (IntKind.u8.wrap a)] rfl rfl (at_new2d V _ _) (yu2 _ _) (by unfold maxLen;omega) (by omega) (Nat.le_trans hsV (szd V _)) ?_;intro v2 w2 hown2 hgrow2;have HR2:Hid (RowBy B w2 v2 (lq++ [byteOf c,byteOf a])):=RowBy.grow hown2 (yhz c a) rfl;have HB2:Hid (Below B W5 w2):=((HBV.out.alloc hsV _).drew).grown hgrow2 (Nat.le_trans hsV (szd V _)) (fun j e=>ybf HRV.out e);have HQ2:Hid (Bk w2 QB 182 #[.int .i64 c,.int .i64 a,.int .i64 b2,.int .i64 k2]):=((HQV.out.alloc _).drew).turns (yan hgrow2) (HRV.out.ne HQV.out (by decide));have hs2:B≤w2.heap.size:=Nat.le_trans hs5 HB2.out.size;have hQ2:QB<w2.heap.size:=HQ2.out.lt;have ka0:w2.cell? ⟨QB,0,none⟩=some (.int .i64 c):=HQ2.out.cell rfl;have ka1:w2.cell? ⟨QB,1,none⟩=some (.int .i64 a):=HQ2.out.cell rfl;have ka2:w2.cell? ⟨QB,2,none⟩=some (.int .i64 b2):=HQ2.out.cell rfl;have ka3:w2.cell? ⟨QB,3,none⟩=some (.int .i64 k2):=HQ2.out.cell rfl;clear hown2 hgrow2)|((with_reducible (refine yfp (w:=(World.drew (World.alloc (World.alloc V (Obj.cells #[_,_] 5)) _))) ?_));refine ybe (w:=((V.alloc (.cells #[.int .u8 (IntKind.u8.wrap c),.int .u8 (IntKind.u8.wrap a)] 5)).alloc (.cells #[.int .u8 (IntKind.u8.wrap k2)] 5)).drew) rfl (.tmp 77) (.tmp 84) 127 rfl B 5 i0 (.int .u8 0) 1 1 Tryz.underlying127 hi hz0 hz1 hz2 rfl (by decide) o _ _ rfl (RowBy.drewB (RowBy.alloc (RowBy.alloc HRV.out _) _)) ⟨V.heap.size,0,none⟩ 2 2 [.int .u8 (IntKind.u8.wrap c),.int .u8 (IntKind.u8.wrap a)] rfl rfl (ypb (bk_low _ _)) (yu2 _ _) (by unfold maxLen;omega) (by omega) (Nat.le_trans hsV (szdd V _ _)) ?_;intro v2 w2 hown2 hgrow2;have HR2:Hid (RowBy B w2 v2 (lq++ [byteOf c,byteOf a])):=RowBy.grow hown2 (yhz c a) rfl;have HB2:Hid (Below B W5 w2):=(((HBV.out.alloc hsV _).alloc (Nat.le_trans hsV (sza V _)) _).drew).grown hgrow2 (Nat.le_trans hsV (szdd V _ _)) (fun j e=>ybf HRV.out e);have HQ2:Hid (Bk w2 QB 182 #[.int .i64 c,.int .i64 a,.int .i64 b2,.int .i64 k2]):=(((HQV.out.alloc _).alloc _).drew).turns (yan hgrow2) (HRV.out.ne HQV.out (by decide));have hs2:B≤w2.heap.size:=Nat.le_trans hs5 HB2.out.size;have hQ2:QB<w2.heap.size:=HQ2.out.lt;have HX2:Hid (Bk w2 (V.heap.size+1) 5 #[.int .u8 (IntKind.u8.wrap k2)]):=(bk_up _ _).turns (yan hgrow2) (fun e=>by have:=HRV.out.lt e;omega);have ka0:w2.cell? ⟨QB,0,none⟩=some (.int .i64 c):=HQ2.out.cell rfl;have ka1:w2.cell? ⟨QB,1,none⟩=some (.int .i64 a):=HQ2.out.cell rfl;have ka2:w2.cell? ⟨QB,2,none⟩=some (.int .i64 b2):=HQ2.out.cell rfl;have ka3:w2.cell? ⟨QB,3,none⟩=some (.int .i64 k2):=HQ2.out.cell rfl;clear hown2 hgrow2)|((with_reducible (refine yfp (w:=(World.drew (World.alloc (World.alloc V (Obj.cells #[_] 5)) _))) ?_));refine ybe (w:=((V.alloc (.cells #[.int .u8 (IntKind.u8.wrap k2)] 5)).alloc (.cells #[.int .u8 (IntKind.u8.wrap c),.int .u8 (IntKind.u8.wrap a)] 5)).drew) rfl (.tmp 77) (.tmp 84) 127 rfl B 5 i0 (.int .u8 0) 1 1 Tryz.underlying127 hi hz0 hz1 hz2 rfl (by decide) o _ _ rfl (RowBy.drewB (RowBy.alloc (RowBy.alloc HRV.out _) _)) ⟨V.heap.size+1,0,none⟩ 2 2 [.int .u8 (IntKind.u8.wrap c),.int .u8 (IntKind.u8.wrap a)] rfl rfl (ypb (bk_up _ _)) (yu2 _ _) (by unfold maxLen;omega) (by omega) (Nat.le_trans hsV (szdd V _ _)) ?_;intro v2 w2 hown2 hgrow2;have HR2:Hid (RowBy B w2 v2 (lq++ [byteOf c,byteOf a])):=RowBy.grow hown2 (yhz c a) rfl;have HB2:Hid (Below B W5 w2):=(((HBV.out.alloc hsV _).alloc (Nat.le_trans hsV (sza V _)) _).drew).grown hgrow2 (Nat.le_trans hsV (szdd V _ _)) (fun j e=>ybf HRV.out e);have HQ2:Hid (Bk w2 QB 182 #[.int .i64 c,.int .i64 a,.int .i64 b2,.int .i64 k2]):=(((HQV.out.alloc _).alloc _).drew).turns (yan hgrow2) (HRV.out.ne HQV.out (by decide));have hs2:B≤w2.heap.size:=Nat.le_trans hs5 HB2.out.size;have hQ2:QB<w2.heap.size:=HQ2.out.lt;have HX2:Hid (Bk w2 (V.heap.size) 5 #[.int .u8 (IntKind.u8.wrap k2)]):=(bk_low _ _).turns (yan hgrow2) (fun e=>by have:=HRV.out.lt e;omega);have ka0:w2.cell? ⟨QB,0,none⟩=some (.int .i64 c):=HQ2.out.cell rfl;have ka1:w2.cell? ⟨QB,1,none⟩=some (.int .i64 a):=HQ2.out.cell rfl;have ka2:w2.cell? ⟨QB,2,none⟩=some (.int .i64 b2):=HQ2.out.cell rfl;have ka3:w2.cell? ⟨QB,3,none⟩=some (.int .i64 k2):=HQ2.out.cell rfl;clear hown2 hgrow2))
       all_goals
        clear e0 ka0 kb0 kc0 e1 ka1 kb1 kc1 e2 ka2 kb2 kc2 e3 ka3 kb3 kc3
        go_wp2
        go_roundw
        case rel=>
         refine⟨q+1,_,by omega,rfl,by go_num,?_,HB4.out⟩
         rw [HN.out]
         have:=HR4.out
         simpa [opB] using this
        case measure=>simp [intOf];omega
      ·obtain rfl:q=(hAt m.h k).length:=by omega
       go_wp2
       go_roundw
       case rel=>exact⟨k+1,_,by omega,rfl,by go_num,by rw [HRB.out,HLQ.out];exact HR1.out,HB1.out⟩
       case measure=>simp [intOf];omega
    ·obtain rfl:k=m.h.length:=by omega
     have hl6:(l5++yej m m.h.length).length≤300:=by have:=yds HOK.out m.h.length;rw [List.length_append];omega
     generalize l5++yej m m.h.length=l6 at HR4 HLL hl6
     obtain⟨W6,hW6⟩:∃W6,W6=wr:=⟨_,rfl⟩
     subst hW6
     have hs6:B≤W6.heap.size:=hsw2
     have HP6:=ybl HPW
     clear HBW HP5 HBX hsw HPW hs5
     go_wp2
     clear q3 q4
     go_loopw [3,8] (fun o i wr=>∃(k:Nat) (v:Value),k≤m.e.length∧v=o∧i= .int .i64 k∧RowBy B wr o (l6++evsB m k)∧Below B W6 wr) (fun _ i _=>m.e.length-(intOf i).toNat)
     case atStart=>exact⟨0,_,Nat.zero_le _,rfl,rfl,by simpa [evsB] using HR4.out,Below.refl _ _⟩
     case round=>
      clear HR4
      obtain⟨k,o,hk,rfl,rfl,hR,hBw⟩:=hrel
      have HR1:=ybl hR
      have HB1:Hid (Below B W6 wr):=hBw
      have hsw3:B≤wr.heap.size:=Nat.le_trans hs6 hBw.size
      have HBZ:=ybl (HBY.out.trans (hBw.mono (by omega)))
      have HPW:=ybl (HP6.out.keep hBw hwB)
      have q4:=HPW.out.cell (i:=4) rfl
      have hd5:m.e.length≤6:=HD.out.2.2.2.2
      clear hR hBw
      by_cases hlt:k<m.e.length
      ·obtain⟨b,off,rfl,hb,hc⟩:=HEV.out.resolve_left (by intro e;rw [e]at hlt;simp at hlt)
       obtain⟨f0,f1,f2,f3,f4,f5,f6⟩:=(hc k hlt).below HBZ.out hb
       have hln:(l6++evsB m k).length≤400:=by rw [List.length_append,yha];omega
       have HEB:Hid (l6++evsB m (k+1)=(l6++evsB m k)++evB (evAt m.e k)):=(by simp [evsB]:l6++evsB m (k+1)=(l6++evsB m k)++evB (evAt m.e k))
       generalize l6++evsB m k=lq at HR1 hln HEB
       generalize evAt m.e k=e at f0 f1 f2 f3 f4 f5 f6 HEB
       obtain⟨t,s1,qq,d,kk,v,g⟩:=e
       clear hc
       obtain⟨QB,hQB⟩:∃QB,QB=wr.heap.size:=⟨_,rfl⟩
       obtain⟨V,hV⟩:∃V,wr.alloc (.cells #[.int .i64 t,.int .i64 s1,.int .i64 qq,.int .i64 d,.int .i64 kk,.int .i64 v,.int .i64 g] 110)=V:=⟨_,rfl⟩
       have hsV:B≤V.heap.size:=by rw [←hV];simp;omega
       have HBV:Hid (Below B W6 V):=hV▸HB1.out.alloc hsw3 _
       have HRV:Hid (RowBy B V o lq):=hV▸World.ownsRow.alloc HR1.out _
       have HQV:Hid (Bk V QB 110 #[.int .i64 t,.int .i64 s1,.int .i64 qq,.int .i64 d,.int .i64 kk,.int .i64 v,.int .i64 g]):=hV▸Bk.newAt hQB _ _
       have hQV:QB<V.heap.size:=HQV.out.lt
       have e0:V.cell? ⟨QB,0,none⟩=some (.int .i64 t):=HQV.out.cell rfl
       have e3:V.cell? ⟨QB,3,none⟩=some (.int .i64 d):=HQV.out.cell rfl
       have e4:V.cell? ⟨QB,4,none⟩=some (.int .i64 kk):=HQV.out.cell rfl
       have e5:V.cell? ⟨QB,5,none⟩=some (.int .i64 v):=HQV.out.cell rfl
       have hQB':=hQB.symm
       clear HB1 HR1 hQB
       go_wp2_with fail
       clear f0 f1 f2 f3 f4 f5 f6 hV q4
       go_region_held3 (fun W=>W.cell? ⟨QB,0,none⟩=some (.int .i64 t)∧W.cell? ⟨QB,3,none⟩=some (.int .i64 d)∧W.cell? ⟨QB,4,none⟩=some (.int .i64 kk)∧W.cell? ⟨QB,5,none⟩=some (.int .i64 v)) ((repeat' apply And.intro)<;>first|(go_keep;done)|assumption|(rw [hcA _ _ (by omega)];assumption)) (first|(have hq:=HR3;go_at_call 137;(with_reducible (refine ygq (w:=w3) ?_));refine(ye4 B _ _ _ w3 hs3 (len4 t _ _ hln) HR3.out).mono ?_;rintro e w4 ⟨v4,rfl,hr4,ht4⟩;have HR4:=hdq hr4;have HB4:Hid (Below B W6 w4):=HB3.out.trans (ht4.to_below (fun k e=>ybf HR3.out e) hs3);have HQ4:Hid (Bk w4 QB 110 #[.int .i64 t,.int .i64 s1,.int .i64 qq,.int .i64 d,.int .i64 kk,.int .i64 v,.int .i64 g]):=HQ3.out.turns ht4 (HR3.out.ne HQ3.out (by decide));have kc0:w4.cell? ⟨QB,0,none⟩=some (.int .i64 t):=HQ4.out.cell rfl;have kc3:w4.cell? ⟨QB,3,none⟩=some (.int .i64 d):=HQ4.out.cell rfl;have kc4:w4.cell? ⟨QB,4,none⟩=some (.int .i64 kk):=HQ4.out.cell rfl;have kc5:w4.cell? ⟨QB,5,none⟩=some (.int .i64 v):=HQ4.out.cell rfl;clear hr4 ht4)|(have hq:=HX2;(with_reducible (refine yfp (w:=w2) ?_));refine ybe (w:=w2) rfl (.tmp 109) (.tmp 116) 127 rfl B 5 i0 (.int .u8 0) 1 1 Tryz.underlying127 hi hz0 hz1 hz2 rfl (by decide) v2 _ _ rfl HR2.out ⟨_,0,none⟩ 2 2 [.int .u8 (IntKind.u8.wrap d),.int .u8 (IntKind.u8.wrap kk)] rfl rfl (ypb HX2.out) (yu2 _ _) (by unfold maxLen;omega) (by omega) hs2 ?_;intro v3 w3 hown3 hgrow3;have HR3:Hid (RowBy B w3 v3 (lq++twoB t++ [byteOf d,byteOf kk])):=RowBy.grow hown3 (yhz d kk) rfl;have HB3:Hid (Below B W6 w3):=(HB2.out).grown hgrow3 hs2 (fun j e=>ybf HR2.out e);have HQ3:Hid (Bk w3 QB 110 #[.int .i64 t,.int .i64 s1,.int .i64 qq,.int .i64 d,.int .i64 kk,.int .i64 v,.int .i64 g]):=(HQ2.out).turns (yan hgrow3) (HR2.out.ne HQ2.out (by decide));have hs3:B≤w3.heap.size:=Nat.le_trans hs6 HB3.out.size;have hQ3:QB<w3.heap.size:=HQ3.out.lt;have kb0:w3.cell? ⟨QB,0,none⟩=some (.int .i64 t):=HQ3.out.cell rfl;have kb3:w3.cell? ⟨QB,3,none⟩=some (.int .i64 d):=HQ3.out.cell rfl;have kb4:w3.cell? ⟨QB,4,none⟩=some (.int .i64 kk):=HQ3.out.cell rfl;have kb5:w3.cell? ⟨QB,5,none⟩=some (.int .i64 v):=HQ3.out.cell rfl;clear hown3 hgrow3)|(have hq:=HR2;(with_reducible (refine yfp (w:=(World.alloc w2 _)) ?_));refine ybe (w:=w2.alloc (.cells #[.int .u8 (IntKind.u8.wrap d),.int .u8 (IntKind.u8.wrap kk)] 5)) rfl (.tmp 109) (.tmp 116) 127 rfl B 5 i0 (.int .u8 0) 1 1 Tryz.underlying127 hi hz0 hz1 hz2 rfl (by decide) v2 _ _ rfl (RowBy.alloc HR2.out _) ⟨w2.heap.size,0,none⟩ 2 2 [.int .u8 (IntKind.u8.wrap d),.int .u8 (IntKind.u8.wrap kk)] rfl rfl (yig w2 _ _) (yu2 _ _) (by unfold maxLen;omega) (by omega) (Nat.le_trans hs2 (sza w2 _)) ?_;intro v3 w3 hown3 hgrow3;have HR3:Hid (RowBy B w3 v3 (lq++twoB t++ [byteOf d,byteOf kk])):=RowBy.grow hown3 (yhz d kk) rfl;have HB3:Hid (Below B W6 w3):=((HB2.out.alloc hs2 _)).grown hgrow3 (Nat.le_trans hs2 (sza w2 _)) (fun j e=>ybf HR2.out e);have HQ3:Hid (Bk w3 QB 110 #[.int .i64 t,.int .i64 s1,.int .i64 qq,.int .i64 d,.int .i64 kk,.int .i64 v,.int .i64 g]):=((HQ2.out.alloc _)).turns (yan hgrow3) (HR2.out.ne HQ2.out (by decide));have hs3:B≤w3.heap.size:=Nat.le_trans hs6 HB3.out.size;have hQ3:QB<w3.heap.size:=HQ3.out.lt;have kb0:w3.cell? ⟨QB,0,none⟩=some (.int .i64 t):=HQ3.out.cell rfl;have kb3:w3.cell? ⟨QB,3,none⟩=some (.int .i64 d):=HQ3.out.cell rfl;have kb4:w3.cell? ⟨QB,4,none⟩=some (.int .i64 kk):=HQ3.out.cell rfl;have kb5:w3.cell? ⟨QB,5,none⟩=some (.int .i64 v):=HQ3.out.cell rfl;clear hown3 hgrow3)|(go_at_call 137;(with_reducible (refine ygq (w:=(World.drew V)) ?_));refine(ye4 B _ _ _ V.drew hsV (len0 hln) (RowBy.drewB HRV.out)).mono ?_;rintro e w2 ⟨v2,rfl,hr2,ht2⟩;have HR2:=hdq hr2;have HB2:Hid (Below B W6 w2):=(HBV.out.drew).trans (ht2.to_below (fun k e=>ybf HRV.out e) hsV);have HQ2:Hid (Bk w2 QB 110 #[.int .i64 t,.int .i64 s1,.int .i64 qq,.int .i64 d,.int .i64 kk,.int .i64 v,.int .i64 g]):=(HQV.out.drew).turns ht2 (HRV.out.ne HQV.out (by decide));have hs2:B≤w2.heap.size:=Nat.le_trans hs6 HB2.out.size;have hQ2:QB<w2.heap.size:=HQ2.out.lt;have hl2:(lq++twoB t).length≤12002:=len2 t hln;have ka0:w2.cell? ⟨QB,0,none⟩=some (.int .i64 t):=HQ2.out.cell rfl;have ka3:w2.cell? ⟨QB,3,none⟩=some (.int .i64 d):=HQ2.out.cell rfl;have ka4:w2.cell? ⟨QB,4,none⟩=some (.int .i64 kk):=HQ2.out.cell rfl;have ka5:w2.cell? ⟨QB,5,none⟩=some (.int .i64 v):=HQ2.out.cell rfl;clear hr2 ht2)|(go_at_call 137;(with_reducible (refine ygq (w:=(World.drew (World.alloc V _))) ?_));refine(ye4 B _ _ _ (V.alloc (.cells #[.int .u8 (IntKind.u8.wrap d),.int .u8 (IntKind.u8.wrap kk)] 5)).drew (Nat.le_trans hsV (szd V _)) (len0 hln) (RowBy.drewB (RowBy.alloc HRV.out _))).mono ?_;rintro e w2 ⟨v2,rfl,hr2,ht2⟩;have HR2:=hdq hr2;have HB2:Hid (Below B W6 w2):=((HBV.out.alloc hsV _).drew).trans (ht2.to_below (fun k e=>ybf HRV.out e) (Nat.le_trans hsV (szd V _)));have HQ2:Hid (Bk w2 QB 110 #[.int .i64 t,.int .i64 s1,.int .i64 qq,.int .i64 d,.int .i64 kk,.int .i64 v,.int .i64 g]):=((HQV.out.alloc _).drew).turns ht2 (HRV.out.ne HQV.out (by decide));have HX2:=Hid.mk' ((bk_one V #[.int .u8 (IntKind.u8.wrap d),.int .u8 (IntKind.u8.wrap kk)]).turns ht2 (fun e=>by have:=HRV.out.lt e;omega));have hs2:B≤w2.heap.size:=Nat.le_trans hs6 HB2.out.size;have hQ2:QB<w2.heap.size:=HQ2.out.lt;have hl2:(lq++twoB t).length≤12002:=len2 t hln;have ka0:w2.cell? ⟨QB,0,none⟩=some (.int .i64 t):=HQ2.out.cell rfl;have ka3:w2.cell? ⟨QB,3,none⟩=some (.int .i64 d):=HQ2.out.cell rfl;have ka4:w2.cell? ⟨QB,4,none⟩=some (.int .i64 kk):=HQ2.out.cell rfl;have ka5:w2.cell? ⟨QB,5,none⟩=some (.int .i64 v):=HQ2.out.cell rfl;clear hr2 ht2))
       all_goals
        clear e0 ka0 kb0 kc0 e3 ka3 kb3 kc3 e4 ka4 kb4 kc4 e5 ka5 kb5 kc5
        go_wp2
        go_roundw
        case rel=>
         refine⟨k+1,_,by omega,rfl,by go_num,?_,HB4.out⟩
         rw [HEB.out]
         have:=HR4.out
         simpa [evB] using this
        case measure=>simp [intOf];omega
      ·obtain rfl:k=m.e.length:=by omega
       go_wp2
       go_ret
       exact⟨_,rfl,by rw [HLL.out];exact HR1.out.mono (Nat.le_of_lt hwB),HBZ.out⟩
theorem yi8 (x:Value) (m:Md) (w:World) (hs:SmallM m) (hok:m.ok=true) (h:IsM w x m):
  Calls Tryz.prog 87 #[x] w fun e w'=>∃u,e= .returned u∧By.OwnI w.heap.size w' u (ycz m)∧Below w.heap.size w w':=by
 refine(yo9 x m w hs hok h).mono ?_
 rintro e w' ⟨u,rfl,hr,hb⟩
 exact⟨u,rfl,hr.own,hb⟩
end Go.Proofs.YtmobiieoecjmdaaGreat
