/- VTwo, WVs, MByJ, KIg -/
import Derived.Test.YtmobiieoecjmdaaGreatExactAnswersG25
namespace Go.Proofs.YtmobiieoecjmdaaGreat
open Go.RowKit
theorem ygf (l:List Int):∃a b c d:Int,ygr l=vec a b c d:=by
 unfold ygr;split
 ·exact⟨_,_,_,_,rfl⟩
 ·exact⟨0,0,0,0,rfl⟩
theorem ykg (a b c d:Int) (h:vok [a,b,c,d]=true):ygr [a,b,c,d]=vec a b c d:=by simp [ygr,h,intAt]
set_option maxHeartbeats 4000000 in
theorem two_any (x y:Value) (l r:List Int) (w:World) (hl:l.length≤4611686018427387904) (hr:r.length≤4611686018427387904) (h:IsI w x l) (k:IsI w y r):
  Calls Tryz.prog 177 #[x,y] w fun e w'=>e= .returned (.tuple #[ygr l,ygr r,.bool (vok l&&vok r)])∧Below w.heap.size w w':=by
 obtain⟨p0,p1,p2,p3,hp⟩:=ygf l
 obtain⟨q0,q1,q2,q3,hq⟩:=ygf r
 have H:Hid (∀w',Below w.heap.size w w'→Calls Tryz.prog 129 #[x] w' fun e w''=>e= .returned (.tuple #[vec p0 p1 p2 p3,.bool (vok l)])∧Below w'.heap.size w' w''):=fun w' hb=>hp▸yn1 x l w' hl (h.below hb)
 have K:Hid (∀w',Below w.heap.size w w'→Calls Tryz.prog 129 #[y] w' fun e w''=>e= .returned (.tuple #[vec q0 q1 q2 q3,.bool (vok r)])∧Below w'.heap.size w' w''):=fun w' hb=>hq▸yn1 y r w' hr (k.below hb)
 rw [hp,hq]
 generalize vok l=b at H⊢
 generalize vok r=d at K⊢
 clear hp hq h k hl hr
 have hB0:Below w.heap.size w ((w.alloc (yam 0 0 0 0)).alloc (yam 0 0 0 0)):=((Below.refl _ w).alloc (Nat.le_refl _) _).alloc (by simp) _
 have hV0:V4 ((w.alloc (yam 0 0 0 0)).alloc (yam 0 0 0 0)) w.heap.size 0 0 0 0:=(V4.new w 0 0 0 0).alloc _
 have hV1:V4 ((w.alloc (yam 0 0 0 0)).alloc (yam 0 0 0 0)) (w.heap.size+1) 0 0 0 0:=by have:=V4.new (w.alloc (yam 0 0 0 0)) 0 0 0 0;rwa [show(w.alloc (yam 0 0 0 0)).heap.size=w.heap.size+1 by simp]at this
 have HB0:Hid (Below w.heap.size w ((w.alloc (yam 0 0 0 0)).alloc (yam 0 0 0 0))):=hB0
 have HV0:Hid (V4 ((w.alloc (yam 0 0 0 0)).alloc (yam 0 0 0 0)) w.heap.size 0 0 0 0):=hV0
 have HV1:Hid (V4 ((w.alloc (yam 0 0 0 0)).alloc (yam 0 0 0 0)) (w.heap.size+1) 0 0 0 0):=hV1
 clear hB0 hV0 hV1
 cases b<;>cases d
 ·go_enter Tryz.func177,Tryz.ntmps177
  go_wp2_with fail
  refine(H.out _ HB0.out).mono ?_
  rintro e w1 ⟨rfl,hb1⟩
  have HB1:Hid (Below w.heap.size w (w1.alloc (yam p0 p1 p2 p3))):=(trm HB0.out hb1).alloc (by have:=HB0.out.size;have:=hb1.size;omega) _
  have HV2:Hid (V4 (w1.alloc (yam p0 p1 p2 p3)) w.heap.size 0 0 0 0):=(HV0.out.keep hb1 HV0.out.lt).alloc _
  have HV3:Hid (V4 (w1.alloc (yam p0 p1 p2 p3)) (w.heap.size+1) 0 0 0 0):=(HV1.out.keep hb1 HV1.out.lt).alloc _
  have HV4:Hid (V4 (w1.alloc (yam p0 p1 p2 p3)) w1.heap.size p0 p1 p2 p3):=V4.new _ _ _ _ _
  have hz1:w.heap.size+1<w1.heap.size:=Nat.lt_of_lt_of_le HV1.out.lt hb1.size
  clear hb1 HB0 HV0 HV1 H
  go_wp2_with fail
  refine(K.out _ HB1.out).mono ?_
  rintro e w2 ⟨rfl,hb2⟩
  have HB2:Hid (Below w.heap.size w (w2.alloc (yam q0 q1 q2 q3))):=(trm HB1.out hb2).alloc (by have:=HB1.out.size;have:=hb2.size;omega) _
  have hV5:=(HV2.out.keep hb2 HV2.out.lt).alloc (yam q0 q1 q2 q3)
  have hV6:=(HV3.out.keep hb2 HV3.out.lt).alloc (yam q0 q1 q2 q3)
  have hV7:=(HV4.out.keep hb2 HV4.out.lt).alloc (yam q0 q1 q2 q3)
  have hV8:=V4.new w2 q0 q1 q2 q3
  have hz2:w1.heap.size<w2.heap.size:=Nat.lt_of_lt_of_le HV4.out.lt hb2.size
  clear hb2 HB1 HV2 HV3 HV4 K
  go_wp2_with fail
  generalize w2.alloc (yam q0 q1 q2 q3)=W at HB2 hV5 hV6 hV7 hV8⊢
  have HV5:Hid (V4 W w.heap.size 0 0 0 0):=hV5
  have HV6:Hid (V4 W (w.heap.size+1) 0 0 0 0):=hV6
  obtain⟨f0,f1,f2,f3,fz⟩:=hV5.cells
  obtain⟨g0,g1,g2,g3,gz⟩:=hV6.cells
  obtain⟨h0,h1,h2,h3,_⟩:=hV7.cells
  obtain⟨k0,k1,k2,k3,_⟩:=hV8.cells
  clear hV5 hV6 hV7 hV8
  go_big_region
  clear f0 f1 f2 f3 fz g0 g1 g2 g3 gz h0 h1 h2 h3 k0 k1 k2 k3
  have hW:∀X:World,X=put4 (put4 W w.heap.size p0 p1 p2 p3) (w.heap.size+1) q0 q1 q2 q3→V4 X w.heap.size p0 p1 p2 p3∧V4 X (w.heap.size+1) q0 q1 q2 q3∧Below w.heap.size w X:=fun X h=>by
   rw [h]
   exact⟨(HV5.out.put p0 p1 p2 p3).other (by omega) _ _ _ _,(HV6.out.other (by omega) _ _ _ _).put _ _ _ _,yd5 (yd5 HB2.out (Nat.le_refl _) _ _ _ _) (by omega) _ _ _ _⟩
  generalize hG:(((((((W.setCell ⟨w.heap.size,0,none⟩ (.int .i64 p0)).setCell ⟨w.heap.size,1,none⟩ (.int .i64 p1)).setCell ⟨w.heap.size,2,none⟩ (.int .i64 p2)).setCell ⟨w.heap.size,3,none⟩ (.int .i64 p3)).setCell ⟨w.heap.size+1,0,none⟩ (.int .i64 q0)).setCell ⟨w.heap.size+1,1,none⟩ (.int .i64 q1)).setCell ⟨w.heap.size+1,2,none⟩ (.int .i64 q2)).setCell ⟨w.heap.size+1,3,none⟩ (.int .i64 q3)=X
  obtain⟨hX,hY,hB⟩:=hW X hG.symm
  obtain⟨f0,f1,f2,f3,fz⟩:=hX.cells
  obtain⟨g0,g1,g2,g3,gz⟩:=hY.cells
  clear hW hG hX hY
  go_wp2
  exact bodyPost_ret (v:= .tuple #[vec p0 p1 p2 p3,vec q0 q1 q2 q3,.bool false]) (by simp [results,Tryz.results177,go_sem,f0,f1,f2,f3,g0,g1,g2,g3]) rfl ⟨rfl,hB.drew⟩
 ·go_enter Tryz.func177,Tryz.ntmps177
  go_wp2_with fail
  refine(H.out _ HB0.out).mono ?_
  rintro e w1 ⟨rfl,hb1⟩
  have HB1:Hid (Below w.heap.size w (w1.alloc (yam p0 p1 p2 p3))):=(trm HB0.out hb1).alloc (by have:=HB0.out.size;have:=hb1.size;omega) _
  have HV2:Hid (V4 (w1.alloc (yam p0 p1 p2 p3)) w.heap.size 0 0 0 0):=(HV0.out.keep hb1 HV0.out.lt).alloc _
  have HV3:Hid (V4 (w1.alloc (yam p0 p1 p2 p3)) (w.heap.size+1) 0 0 0 0):=(HV1.out.keep hb1 HV1.out.lt).alloc _
  have HV4:Hid (V4 (w1.alloc (yam p0 p1 p2 p3)) w1.heap.size p0 p1 p2 p3):=V4.new _ _ _ _ _
  have hz1:w.heap.size+1<w1.heap.size:=Nat.lt_of_lt_of_le HV1.out.lt hb1.size
  clear hb1 HB0 HV0 HV1 H
  go_wp2_with fail
  refine(K.out _ HB1.out).mono ?_
  rintro e w2 ⟨rfl,hb2⟩
  have HB2:Hid (Below w.heap.size w (w2.alloc (yam q0 q1 q2 q3))):=(trm HB1.out hb2).alloc (by have:=HB1.out.size;have:=hb2.size;omega) _
  have hV5:=(HV2.out.keep hb2 HV2.out.lt).alloc (yam q0 q1 q2 q3)
  have hV6:=(HV3.out.keep hb2 HV3.out.lt).alloc (yam q0 q1 q2 q3)
  have hV7:=(HV4.out.keep hb2 HV4.out.lt).alloc (yam q0 q1 q2 q3)
  have hV8:=V4.new w2 q0 q1 q2 q3
  have hz2:w1.heap.size<w2.heap.size:=Nat.lt_of_lt_of_le HV4.out.lt hb2.size
  clear hb2 HB1 HV2 HV3 HV4 K
  go_wp2_with fail
  generalize w2.alloc (yam q0 q1 q2 q3)=W at HB2 hV5 hV6 hV7 hV8⊢
  have HV5:Hid (V4 W w.heap.size 0 0 0 0):=hV5
  have HV6:Hid (V4 W (w.heap.size+1) 0 0 0 0):=hV6
  obtain⟨f0,f1,f2,f3,fz⟩:=hV5.cells
  obtain⟨g0,g1,g2,g3,gz⟩:=hV6.cells
  obtain⟨h0,h1,h2,h3,_⟩:=hV7.cells
  obtain⟨k0,k1,k2,k3,_⟩:=hV8.cells
  clear hV5 hV6 hV7 hV8
  go_big_region
  clear f0 f1 f2 f3 fz g0 g1 g2 g3 gz h0 h1 h2 h3 k0 k1 k2 k3
  have hW:∀X:World,X=put4 (put4 W w.heap.size p0 p1 p2 p3) (w.heap.size+1) q0 q1 q2 q3→V4 X w.heap.size p0 p1 p2 p3∧V4 X (w.heap.size+1) q0 q1 q2 q3∧Below w.heap.size w X:=fun X h=>by
   rw [h]
   exact⟨(HV5.out.put p0 p1 p2 p3).other (by omega) _ _ _ _,(HV6.out.other (by omega) _ _ _ _).put _ _ _ _,yd5 (yd5 HB2.out (Nat.le_refl _) _ _ _ _) (by omega) _ _ _ _⟩
  generalize hG:(((((((W.setCell ⟨w.heap.size,0,none⟩ (.int .i64 p0)).setCell ⟨w.heap.size,1,none⟩ (.int .i64 p1)).setCell ⟨w.heap.size,2,none⟩ (.int .i64 p2)).setCell ⟨w.heap.size,3,none⟩ (.int .i64 p3)).setCell ⟨w.heap.size+1,0,none⟩ (.int .i64 q0)).setCell ⟨w.heap.size+1,1,none⟩ (.int .i64 q1)).setCell ⟨w.heap.size+1,2,none⟩ (.int .i64 q2)).setCell ⟨w.heap.size+1,3,none⟩ (.int .i64 q3)=X
  obtain⟨hX,hY,hB⟩:=hW X hG.symm
  obtain⟨f0,f1,f2,f3,fz⟩:=hX.cells
  obtain⟨g0,g1,g2,g3,gz⟩:=hY.cells
  clear hW hG hX hY
  go_wp2
  exact bodyPost_ret (v:= .tuple #[vec p0 p1 p2 p3,vec q0 q1 q2 q3,.bool false]) (by simp [results,Tryz.results177,go_sem,f0,f1,f2,f3,g0,g1,g2,g3]) rfl ⟨rfl,hB.drew⟩
 ·go_enter Tryz.func177,Tryz.ntmps177
  go_wp2_with fail
  refine(H.out _ HB0.out).mono ?_
  rintro e w1 ⟨rfl,hb1⟩
  have HB1:Hid (Below w.heap.size w (w1.alloc (yam p0 p1 p2 p3))):=(trm HB0.out hb1).alloc (by have:=HB0.out.size;have:=hb1.size;omega) _
  have HV2:Hid (V4 (w1.alloc (yam p0 p1 p2 p3)) w.heap.size 0 0 0 0):=(HV0.out.keep hb1 HV0.out.lt).alloc _
  have HV3:Hid (V4 (w1.alloc (yam p0 p1 p2 p3)) (w.heap.size+1) 0 0 0 0):=(HV1.out.keep hb1 HV1.out.lt).alloc _
  have HV4:Hid (V4 (w1.alloc (yam p0 p1 p2 p3)) w1.heap.size p0 p1 p2 p3):=V4.new _ _ _ _ _
  have hz1:w.heap.size+1<w1.heap.size:=Nat.lt_of_lt_of_le HV1.out.lt hb1.size
  clear hb1 HB0 HV0 HV1 H
  go_wp2_with fail
  refine(K.out _ HB1.out).mono ?_
  rintro e w2 ⟨rfl,hb2⟩
  have HB2:Hid (Below w.heap.size w (w2.alloc (yam q0 q1 q2 q3))):=(trm HB1.out hb2).alloc (by have:=HB1.out.size;have:=hb2.size;omega) _
  have hV5:=(HV2.out.keep hb2 HV2.out.lt).alloc (yam q0 q1 q2 q3)
  have hV6:=(HV3.out.keep hb2 HV3.out.lt).alloc (yam q0 q1 q2 q3)
  have hV7:=(HV4.out.keep hb2 HV4.out.lt).alloc (yam q0 q1 q2 q3)
  have hV8:=V4.new w2 q0 q1 q2 q3
  have hz2:w1.heap.size<w2.heap.size:=Nat.lt_of_lt_of_le HV4.out.lt hb2.size
  clear hb2 HB1 HV2 HV3 HV4 K
  go_wp2_with fail
  generalize w2.alloc (yam q0 q1 q2 q3)=W at HB2 hV5 hV6 hV7 hV8⊢
  have HV5:Hid (V4 W w.heap.size 0 0 0 0):=hV5
  have HV6:Hid (V4 W (w.heap.size+1) 0 0 0 0):=hV6
  obtain⟨f0,f1,f2,f3,fz⟩:=hV5.cells
  obtain⟨g0,g1,g2,g3,gz⟩:=hV6.cells
  obtain⟨h0,h1,h2,h3,_⟩:=hV7.cells
  obtain⟨k0,k1,k2,k3,_⟩:=hV8.cells
  clear hV5 hV6 hV7 hV8
  go_big_region
  clear f0 f1 f2 f3 fz g0 g1 g2 g3 gz h0 h1 h2 h3 k0 k1 k2 k3
  have hW:∀X:World,X=put4 (put4 W w.heap.size p0 p1 p2 p3) (w.heap.size+1) q0 q1 q2 q3→V4 X w.heap.size p0 p1 p2 p3∧V4 X (w.heap.size+1) q0 q1 q2 q3∧Below w.heap.size w X:=fun X h=>by
   rw [h]
   exact⟨(HV5.out.put p0 p1 p2 p3).other (by omega) _ _ _ _,(HV6.out.other (by omega) _ _ _ _).put _ _ _ _,yd5 (yd5 HB2.out (Nat.le_refl _) _ _ _ _) (by omega) _ _ _ _⟩
  generalize hG:(((((((W.setCell ⟨w.heap.size,0,none⟩ (.int .i64 p0)).setCell ⟨w.heap.size,1,none⟩ (.int .i64 p1)).setCell ⟨w.heap.size,2,none⟩ (.int .i64 p2)).setCell ⟨w.heap.size,3,none⟩ (.int .i64 p3)).setCell ⟨w.heap.size+1,0,none⟩ (.int .i64 q0)).setCell ⟨w.heap.size+1,1,none⟩ (.int .i64 q1)).setCell ⟨w.heap.size+1,2,none⟩ (.int .i64 q2)).setCell ⟨w.heap.size+1,3,none⟩ (.int .i64 q3)=X
  obtain⟨hX,hY,hB⟩:=hW X hG.symm
  obtain⟨f0,f1,f2,f3,fz⟩:=hX.cells
  obtain⟨g0,g1,g2,g3,gz⟩:=hY.cells
  clear hW hG hX hY
  go_wp2
  exact bodyPost_ret (v:= .tuple #[vec p0 p1 p2 p3,vec q0 q1 q2 q3,.bool false]) (by simp [results,Tryz.results177,go_sem,f0,f1,f2,f3,g0,g1,g2,g3]) rfl ⟨rfl,hB.drew⟩
 ·go_enter Tryz.func177,Tryz.ntmps177
  go_wp2_with fail
  refine(H.out _ HB0.out).mono ?_
  rintro e w1 ⟨rfl,hb1⟩
  have HB1:Hid (Below w.heap.size w (w1.alloc (yam p0 p1 p2 p3))):=(trm HB0.out hb1).alloc (by have:=HB0.out.size;have:=hb1.size;omega) _
  have HV2:Hid (V4 (w1.alloc (yam p0 p1 p2 p3)) w.heap.size 0 0 0 0):=(HV0.out.keep hb1 HV0.out.lt).alloc _
  have HV3:Hid (V4 (w1.alloc (yam p0 p1 p2 p3)) (w.heap.size+1) 0 0 0 0):=(HV1.out.keep hb1 HV1.out.lt).alloc _
  have HV4:Hid (V4 (w1.alloc (yam p0 p1 p2 p3)) w1.heap.size p0 p1 p2 p3):=V4.new _ _ _ _ _
  have hz1:w.heap.size+1<w1.heap.size:=Nat.lt_of_lt_of_le HV1.out.lt hb1.size
  clear hb1 HB0 HV0 HV1 H
  go_wp2_with fail
  refine(K.out _ HB1.out).mono ?_
  rintro e w2 ⟨rfl,hb2⟩
  have HB2:Hid (Below w.heap.size w (w2.alloc (yam q0 q1 q2 q3))):=(trm HB1.out hb2).alloc (by have:=HB1.out.size;have:=hb2.size;omega) _
  have hV5:=(HV2.out.keep hb2 HV2.out.lt).alloc (yam q0 q1 q2 q3)
  have hV6:=(HV3.out.keep hb2 HV3.out.lt).alloc (yam q0 q1 q2 q3)
  have hV7:=(HV4.out.keep hb2 HV4.out.lt).alloc (yam q0 q1 q2 q3)
  have hV8:=V4.new w2 q0 q1 q2 q3
  have hz2:w1.heap.size<w2.heap.size:=Nat.lt_of_lt_of_le HV4.out.lt hb2.size
  clear hb2 HB1 HV2 HV3 HV4 K
  go_wp2_with fail
  generalize w2.alloc (yam q0 q1 q2 q3)=W at HB2 hV5 hV6 hV7 hV8⊢
  have HV5:Hid (V4 W w.heap.size 0 0 0 0):=hV5
  have HV6:Hid (V4 W (w.heap.size+1) 0 0 0 0):=hV6
  obtain⟨f0,f1,f2,f3,fz⟩:=hV5.cells
  obtain⟨g0,g1,g2,g3,gz⟩:=hV6.cells
  obtain⟨h0,h1,h2,h3,_⟩:=hV7.cells
  obtain⟨k0,k1,k2,k3,_⟩:=hV8.cells
  clear hV5 hV6 hV7 hV8
  go_big_region
  clear f0 f1 f2 f3 fz g0 g1 g2 g3 gz h0 h1 h2 h3 k0 k1 k2 k3
  have hW:∀X:World,X=put4 (put4 W w.heap.size p0 p1 p2 p3) (w.heap.size+1) q0 q1 q2 q3→V4 X w.heap.size p0 p1 p2 p3∧V4 X (w.heap.size+1) q0 q1 q2 q3∧Below w.heap.size w X:=fun X h=>by
   rw [h]
   exact⟨(HV5.out.put p0 p1 p2 p3).other (by omega) _ _ _ _,(HV6.out.other (by omega) _ _ _ _).put _ _ _ _,yd5 (yd5 HB2.out (Nat.le_refl _) _ _ _ _) (by omega) _ _ _ _⟩
  generalize hG:(((((((W.setCell ⟨w.heap.size,0,none⟩ (.int .i64 p0)).setCell ⟨w.heap.size,1,none⟩ (.int .i64 p1)).setCell ⟨w.heap.size,2,none⟩ (.int .i64 p2)).setCell ⟨w.heap.size,3,none⟩ (.int .i64 p3)).setCell ⟨w.heap.size+1,0,none⟩ (.int .i64 q0)).setCell ⟨w.heap.size+1,1,none⟩ (.int .i64 q1)).setCell ⟨w.heap.size+1,2,none⟩ (.int .i64 q2)).setCell ⟨w.heap.size+1,3,none⟩ (.int .i64 q3)=X
  obtain⟨hX,hY,hB⟩:=hW X hG.symm
  obtain⟨f0,f1,f2,f3,fz⟩:=hX.cells
  obtain⟨g0,g1,g2,g3,gz⟩:=hY.cells
  clear hW hG hX hY
  go_wp2
  exact bodyPost_ret (v:= .tuple #[vec p0 p1 p2 p3,vec q0 q1 q2 q3,.bool true]) (by simp [results,Tryz.results177,go_sem,f0,f1,f2,f3,g0,g1,g2,g3]) rfl ⟨rfl,hB.drew⟩
set_option maxHeartbeats 8000000
set_option maxRecDepth 100000
open Go.RowKit
theorem ycj {p:Prop} (h:p):Hid p:=h
theorem RowV.isD {B:Nat} {w0 w:World} {x:Value} {l:List (List Int)} (h:RowV B w0 w x l) (hb:Below w0.heap.size w0 w):IsD w x (ycd l):=by
 obtain⟨us,h1,h2,h3⟩:=h
 obtain⟨hl,⟨rfl,h0⟩|⟨g,cap,cur,rfl,_,hc,k1,k2,k3,k4⟩⟩:=h1
 ·obtain rfl:=List.eq_nil_of_length_eq_zero h0
  exact .nil none 0 1 _ (by unfold maxLen;omega)
 ·refine IsD.of_parts k1 k2 (.inr ⟨g,0,rfl,(Array.getElem?_eq_some_iff.1 hc).1,fun j hj=> ?_⟩)
  obtain⟨u,hu,hd⟩:=h3 j (by omega)
  refine⟨u,?_,hd.under hb⟩
  have h9:(cur.toList.take (l.length*1))[j]? =some u:=by rw [k4];exact hu
  rw [List.getElem?_take_of_lt (by omega)]at h9
  rw [Nat.zero_add]
  simpa [World.cell?,hc] using h9
theorem runs_any (x:Value) (v:Wd) (w:World) (hs:ycc v) (h:IsW w x v):
  Calls Tryz.prog 46 #[x] w fun e w'=>∃y,e= .returned y∧Below w.heap.size w w'∧RowV w.heap.size w w' y (dsOf v.k):=by
 have HSM:Hid (SmallM v.m):=hs.1
 have HSK:Hid (yd3 v.k):=hs.2.1
 have HSV:=ycj hs.2.2
 have hkl:v.k.length≤1048576:=hs.2.1.1
 have hcl:v.c.length≤1048576:=by have h9:=hs.2.2;rw [ydl]at h9;omega
 obtain⟨ai,ci,ah,ch,ae,ce,ak,ck,ac,cc,rfl,hm,hk,hc⟩:=h.form
 have HWW:=ycj h
 have HMW:=ycj hm
 have HKS:=ycj hk
 have HCS:=ycj hc
 clear h hm hk hc
 obtain⟨W0,hW0⟩:=yvv HWW.out 39
 have HB0:Hid (Below w.heap.size w W0):=by rw [←hW0];exact(Below.refl _ w).alloc (Nat.le_refl _) _
 have HP0:Hid (Bk W0 w.heap.size 39 #[.int .i64 v.m.n,.int .i64 v.m.s,.slice ai v.m.i.length ci,.slice ah v.m.h.length ch,.slice ae v.m.e.length ce,.int .i64 v.m.z,.slice ak v.k.length ck,.slice ac v.c.length cc]):=by rw [←hW0];exact Bk.new w _ _
 have q6:=HP0.out.cell (i:=6) rfl
 go_enter Tryz.func46,Tryz.ntmps46
 go_wp2
 clear q6 hW0
 go_loopw [9,3] (fun i x wr=>∃j:Nat,j≤v.k.length∧i= .int .i64 j∧Below w.heap.size w wr∧ ∃(L:List (List Int)) (a3:Option Addr) (c3:Nat),x= .slice a3 L.length c3∧Hid (L=(dsOf v.k).take j)∧Hid (RowV w.heap.size w wr (.slice a3 L.length c3) L)) (fun i _ _=>v.k.length-(intOf i).toNat)
 case atStart=>exact⟨0,Nat.zero_le _,rfl,HB0.out,[],none,0,rfl,rfl,RowV.nil _ _ _⟩
 case round=>
  obtain⟨j,hj,rfl,hB,L,a3,c3,rfl,HL,HRV⟩:=hrel
  have HBw:=ycj hB
  clear hB
  by_cases hlt:j<v.k.length
  case pos=>
   have hjd:decide ((j:Int)<(v.k.length:Int))=true:=by simpa using hlt
   obtain⟨b,off,rfl,hbl,hKA⟩:=HKS.out.resolve_left (by omega)
   obtain⟨ki,di,kh,dh,ke,de,k6,d6,k7,d7,k8,d8,k12,d12,k13,d13,⟨f0,f1,f2,f3,f4,f5,f6,f7,f8,f9,f10,f11,f12,f13⟩,hkn,hkm,hkd⟩:=(hKA j hlt).form
   have HDW:=ycj hkd
   have f0:=cst HBw.out hbl f0
   have f1:=cst HBw.out hbl f1
   have f2:=cst HBw.out hbl f2
   have f3:=cst HBw.out hbl f3
   have f4:=cst HBw.out hbl f4
   have f5:=cst HBw.out hbl f5
   have f6:=cst HBw.out hbl f6
   have f7:=cst HBw.out hbl f7
   have f8:=cst HBw.out hbl f8
   have f9:=cst HBw.out hbl f9
   have f10:=cst HBw.out hbl f10
   have f11:=cst HBw.out hbl f11
   have f12:=cst HBw.out hbl f12
   have f13:=cst HBw.out hbl f13
   have HSKj:=ycj (HSK.out.2 j hlt)
   obtain⟨V1,hV1⟩:∃V1,wr.alloc (.cells #[.int .i64 (knAt v.k j).m.n,.int .i64 (knAt v.k j).m.s,.slice ki (knAt v.k j).m.i.length di,.slice kh (knAt v.k j).m.h.length dh,.slice ke (knAt v.k j).m.e.length de,.int .i64 (knAt v.k j).m.z,.slice k6 (knAt v.k j).d.length d6,.slice k7 (knAt v.k j).p.length d7,.slice k8 (knAt v.k j).b.length d8,.int .i64 (knAt v.k j).t,.int .i64 (knAt v.k j).q,.bool (knAt v.k j).f,.slice k12 (knAt v.k j).s.length d12,.slice k13 (knAt v.k j).x.length d13] 57)=V1:=⟨_,rfl⟩
   have hbV:=beA hV1
   have HBV:=ycj hbV
   have HV1:=ycj hbV.size
   have HK1:=hdq (bkA hV1)
   have HKI:=ycj ((hkn.under HBw.out).under hbV)
   have HMI:=ycj ((hkm.below HBw.out).below hbV)
   clear hkn hkm hkd hbV hKA
   have hLl:L.length≤1048576:=by rw [HL.out,List.length_take];omega
   have HRV3:=ycj (HRV.out.below HBV.out)
   have HB3:=trh HBw HBV.out
   have hk6:=HK1.out.cell (i:=6) rfl
   obtain⟨V4,hV4⟩:∃V4,V1.alloc (.cells #[.slice k6 (knAt v.k j).d.length d6] 22)=V4:=⟨_,rfl⟩
   have hb4:=beA hV4
   have HS4:Hid (SrcC V4 (.slice (some ⟨V1.heap.size,0,none⟩) 1 1) 1 1 [.slice k6 (knAt v.k j).d.length d6]):=yo6 (T:=22) (hV4▸Bk.new V1 _ _)
   have HBV4:=trh HB3 hb4
   have HD4:=ycj HDW.out
   obtain⟨us,ho,h1,h3⟩:=HRV3.out.below hb4
   have HO4:=ycj ho
   have HU1:=ycj h1
   have HU3:=ycj h3
   have hs4:w.heap.size≤V4.heap.size:=HBV4.out.size
   obtain⟨iv,hiv,hiv0,hiv1,hiv2⟩:=info_parts yui
   clear ho h1 h3 hb4
   go_wp2_with (at_builtin;refine yat V4 rfl _ _ 28 rfl w.heap.size 22 iv (.slice none 0 0) 1 24 Tryz.underlying28 hiv hiv0 hiv1 hiv2 rfl (by decide) (.slice a3 L.length c3) L.length us rfl HO4.out (.slice (some ⟨V1.heap.size,0,none⟩) 1 1) 1 [.slice k6 (knAt v.k j).d.length d6] rfl HS4.out (yji HD4.out.one.1) (by unfold maxLen;omega) (by omega) hs4 ?_;intro vn w5 hown hgrow hnew;obtain⟨an,cn,hvn⟩:=yav hown;subst hvn;have HG5:=hdq hgrow;have HO5:=hdq hown;clear hown hgrow hnew)
   go_roundw
   case rel=>
    have hR5:=RowV.grown HO4.out HU1.out HU3.out HO5.out HD4.out
    have hB5:=yfj HO4.out HG5.out HBV4.out (Nat.le_refl _) hs4
    refine⟨j+1,by omega,by go_num,hB5,L++ [(knAt v.k j).d],an,cn,by rw [List.length_append];rfl,?_,by rw [List.length_append];exact hR5⟩
    show L++ [(knAt v.k j).d]=_
    rw [ygg (by rw [yc0];exact hlt),←HL.out,yex hlt]
   case measure=>simp [intOf];omega
  case neg=>
   have hje:j=v.k.length:=by omega
   have hLK:L=dsOf v.k:=by(have h9:=HL.out;rw [hje,List.take_of_length_le (by rw [yc0];exact Nat.le_refl _)]at h9;exact h9)
   have HLK:Hid (L=dsOf v.k):=hLK
   subst hje
   clear hLK HL
   go_wp2
   go_ret
   exact⟨_,rfl,HBw.out,by rw [←HLK.out];exact HRV.out⟩
def yc2:List (List Int)→List Value
 | []=> []
 |d::l=> [i64 (intAt d 0),i64 (intAt d 1),i64 (intAt d 2),i64 (intAt d 3)]++yc2 l
theorem yi3:∀l,(yc2 l).length=l.length*4
 | []=>rfl
 |d::l=>by rw [yc2,List.length_append,yi3 l,List.length_cons];simp;omega
theorem yi4:∀l r,yc2 (l++r)=yc2 l++yc2 r
 | [],r=>rfl
 |d::l,r=>by rw [List.cons_append,yc2,yi4 l r,yc2,List.append_assoc]
theorem ykh:∀l,∀u∈yc2 l,u.oneCell'=true
 | [],u,h=>by cases h
 |d::l,u,h=>by
  rcases List.mem_append.1 h with h|h
  ·simp at h
   rcases h with rfl|rfl|rfl|rfl<;>rfl
  ·exact ykh l u h
theorem yj3:∀(l:List (List Int)) (i r:Nat),i<l.length→r<4→(yc2 l)[i*4+r]? =some (i64 (intAt (vAt l i) r))
 | [],i,r,h,_=>by simp at h
 |d::l,0,r,h,hr=>by
  rw [yc2,List.getElem?_append_left (by simp;omega)]
  have h4:r=0∨r=1∨r=2∨r=3:=by omega
  rcases h4 with rfl|rfl|rfl|rfl<;>rfl
 |d::l,i+1,r,h,hr=>by
  have e:vAt (d::l) (i+1)=vAt l i:=rfl
  rw [yc2,List.getElem?_append_right (by simp;omega),e]
  simp only [List.length_cons,List.length_nil]
  rw [show(i+1)*4+r-(0+1+1+1+1)=i*4+r by omega]
  exact yj3 l i r (by simpa using h) hr
abbrev RowA (B:Nat) (w:World) (x:Value) (l:List (List Int)):Prop:=w.ownsRow B 137 4 x l.length (yc2 l)
def VcAt (w:World) (b off:Nat) (l:List (List Int)):Prop:=b<w.heap.size∧ ∀i r,i<l.length→r<4→w.cell? ⟨b,off+i*4+r,none⟩=some (i64 (intAt (vAt l i) r))
theorem VcAt.below {w w':World} {b off:Nat} {l:List (List Int)} (h:VcAt w b off l) (hb:Below w.heap.size w w'):VcAt w' b off l:=
 ⟨Nat.lt_of_lt_of_le h.1 hb.size,fun i r hi hr=>(hb.cell (p:=⟨b,_,none⟩) h.1).trans (h.2 i r hi hr)⟩
theorem RowA.at {B:Nat} {w:World} {x:Value} {l:List (List Int)} (h:RowA B w x l):(x= .slice none 0 0∧l= [])∨ ∃g cap,x= .slice (some ⟨g,0,none⟩) l.length cap∧l.length≤cap∧cap≤maxLen∧VcAt w g 0 l:=by
 obtain⟨hl,⟨rfl,h0⟩|⟨g,cap,cur,rfl,_,hc,k1,k2,k3,k4⟩⟩:=h
 ·exact .inl ⟨rfl,List.eq_nil_of_length_eq_zero h0⟩
 ·refine .inr ⟨g,cap,rfl,k1,k2,(Array.getElem?_eq_some_iff.1 hc).1,fun i r hi hr=> ?_⟩
  have h9:=yj3 l i r hi hr
  rw [←k4,List.getElem?_take_of_lt (by omega)]at h9
  rw [Nat.zero_add]
  simpa [World.cell?,hc] using h9
theorem VcAt.cells {w:World} {b off:Nat} {l:List (List Int)} (h:VcAt w b off l):∀j u,(yc2 l)[j]? =some u→w.cell? ((⟨b,off,none⟩:Addr).add j)=some u:=fun j u hj=>by
 have hlt:j<(yc2 l).length:=(List.getElem?_eq_some_iff.1 hj).1
 rw [yi3]at hlt
 have h1:=yj3 l (j/4) (j%4) (by omega) (by omega)
 rw [show j/4*4+j%4=j by omega,hj]at h1
 cases h1
 rw [addS,←h.2 (j/4) (j%4) (by omega) (by omega),show off+j/4*4+j%4=off+j by omega]
theorem ypx:(Tryz.prog.info? 137).map (fun i=>(i.zero,i.size,i.bytes))=some (some (.agg #[.int .i64 0,.int .i64 0,.int .i64 0,.int .i64 0]),4,32):=by kernel_rfl
def yih (l:List (List Int)):Bool:=allB l.length fun i=>vok (vAt l i)
theorem allVk_iff {l:List (List Int)}:yih l=true↔ ∀i,i<l.length→vok (vAt l i)=true:=allB_iff
theorem src_four {w:World} {g:Nat} {T:TypeId} {a b c d:Value} (h:Bk w g T #[a,b,c,d]):SrcC w (.slice (some ⟨g,0,none⟩) 1 1) 4 1 [a,b,c,d]:=
 ⟨rfl,_,_,rfl,.inr ⟨g,0,rfl,h.lt,fun j hj=>by
  have h4:j=0∨j=1∨j=2∨j=3:=by omega
  rcases h4 with rfl|rfl|rfl|rfl
  ·exact h.cell (i:=0) rfl
  ·exact h.cell (i:=1) rfl
  ·exact h.cell (i:=2) rfl
  ·exact h.cell (i:=3) rfl⟩⟩
def InR (l:List (List Int)) (w w':World) (e:Ending):Prop:=Below w.heap.size w w'∧((yih l=true∧ ∃y,e= .returned (.tuple #[y,.bool true])∧RowA w.heap.size w' y l)∨(yih l=false∧e= .returned (.tuple #[.slice none 0 0,.bool false])))
theorem vsnoc {l:List (List Int)} {j:Nat} (h:j<l.length):yc2 (l.take (j+1))=yc2 (l.take j)++ [i64 (intAt (vAt l j) 0),i64 (intAt (vAt l j) 1),i64 (intAt (vAt l j) 2),i64 (intAt (vAt l j) 3)]:=by
 rw [ygg h,yi4]
 rfl
theorem in_any (x:Value) (l:List (List Int)) (w:World) (hl2:l.length≤1048576) (hv9:∀j,j<l.length→(vAt l j).length≤1048576) (h:IsD w x (ycd l)):
  Calls Tryz.prog 91 #[x] w fun e w'=>InR l w w' e:=by
 obtain⟨a,cap,rfl,h1,h2,h⟩:=IsD.parts (c:=1) (n:=l.length) h
 have HH:=ycj h
 have HS:=ycj hv9
 clear h h1 h2 hv9
 obtain⟨ia,hia,hia0,hia1,hia2⟩:=info_parts ypx
 go_enter Tryz.func91,Tryz.ntmps91
 go_wp2
 go_loopw [11,4] (fun i y wr=>∃j:Nat,j≤l.length∧i= .int .i64 j∧Hid (∀i,i<j→vok (vAt l i)=true)∧Hid (Below w.heap.size w wr)∧ ∃a3 c3,y= .slice a3 j c3∧Hid (wr.ownsRow w.heap.size 137 4 (.slice a3 j c3) j (yc2 (l.take j)))) (fun i _ _=>l.length-(intOf i).toNat)
 case atStart=>exact⟨0,Nat.zero_le _,rfl,fun j hj=>by omega,Below.refl _ _,none,0,rfl,World.ownsRow_nil _ _ _ _⟩
 case round=>
  obtain⟨j,hj,rfl,HA,HB,a3,c3,rfl,HR⟩:=hrel
  have hsr:w.heap.size≤wr.heap.size:=HB.out.size
  by_cases hlt:j<l.length
  case pos=>
   have hjd:decide ((j:Int)<(l.length:Int))=true:=by simpa using hlt
   obtain⟨b,off,rfl,hbl,hc⟩:=HH.out.resolve_left (by omega)
   obtain⟨u,hu,hd⟩:=hc j (by omega)
   have f0:=(HB.out.cell (p:=⟨b,off+j,none⟩) hbl).trans hu
   have HD:Hid (IsI wr u (vAt l j)):=(IsD.under (d:=yaq (vAt l j)) hd HB.out).isI
   have hvl:(vAt l j).length≤1048576:=HS.out j hlt
   clear hc hu hd
   go_wp2_with fail
   clear f0
   refine(yn1 _ (vAt l j) _ (by omega) HD.out).mono ?_
   rintro e w2 ⟨rfl,hb2⟩
   have HB2:=ycj (HB.out.trans (hb2.mono hsr))
   have HR2:=ycj (owB HR.out hb2)
   clear hb2
   cases hv:vok (vAt l j)
   case false=>
    have HN:Hid (yih l=false):=yac (fun h9=>by have h8:=allVk_iff.1 h9 j hlt;rw [hv]at h8;cases h8)
    rw [ypf hv]
    clear hv
    go_wp2
    go_ret2
    exact⟨trm HB2.out ((Below.refl _ w2).alloc (Nat.le_refl _) _),.inr ⟨HN.out,rfl⟩⟩
   case true=>
    have HV:=ycj hv
    obtain⟨x0,hx0⟩:∃z,intAt (vAt l j) 0=z:=⟨_,rfl⟩
    obtain⟨x1,hx1⟩:∃z,intAt (vAt l j) 1=z:=⟨_,rfl⟩
    obtain⟨x2,hx2⟩:∃z,intAt (vAt l j) 2=z:=⟨_,rfl⟩
    obtain⟨x3,hx3⟩:∃z,intAt (vAt l j) 3=z:=⟨_,rfl⟩
    have HVS:Hid (yc2 (l.take (j+1))=yc2 (l.take j)++ [i64 x0,i64 x1,i64 x2,i64 x3]):=by
     have h9:=vsnoc hlt
     rw [hx0,hx1,hx2,hx3]at h9
     exact h9
    rw [show ygr (vAt l j)=vec x0 x1 x2 x3 by unfold ygr;rw [if_pos hv,hx0,hx1,hx2,hx3]]
    clear hv hx0 hx1 hx2 hx3
    obtain⟨V1,hV1⟩:∃V1,w2.alloc (yam x0 x1 x2 x3)=V1:=⟨_,rfl⟩
    have hbV:=beA hV1
    have HK1:=hdq (bkA hV1)
    obtain⟨V4,hV4⟩:∃V4,V1.alloc (.cells #[i64 x0,i64 x1,i64 x2,i64 x3] 137)=V4:=⟨_,rfl⟩
    have hb4:=beA hV4
    have HS4:Hid (SrcC V4 (.slice (some ⟨V1.heap.size,0,none⟩) 1 1) 4 1 [i64 x0,i64 x1,i64 x2,i64 x3]):=src_four (T:=137) (hV4▸Bk.new V1 _ _)
    have HBV4:=ycj ((trm HB2.out hbV).trans (hb4.mono (Nat.le_trans HB2.out.size hbV.size)))
    have HO4:=ycj (yc4 (S:=fun _=>False) (owB HR2.out hbV) (Turns.of_below hb4) (fun _ _=>id))
    have hs4:w.heap.size≤V4.heap.size:=HBV4.out.size
    obtain⟨k0,k1,k2,k3⟩:=c4_4 HK1.out
    clear hbV hb4
    go_wp2_with (at_builtin;refine yat V4 rfl _ _ 131 rfl w.heap.size 137 ia (.agg #[.int .i64 0,.int .i64 0,.int .i64 0,.int .i64 0]) 4 32 Tryz.underlying131 hia hia0 hia1 hia2 rfl (by decide) (.slice a3 j c3) j (yc2 (l.take j)) rfl HO4.out (.slice (some ⟨V1.heap.size,0,none⟩) 1 1) 1 [i64 x0,i64 x1,i64 x2,i64 x3] rfl HS4.out (by intro u hu;simp at hu;rcases hu with rfl|rfl|rfl|rfl<;>rfl) (by unfold maxLen;omega) (by omega) hs4 ?_;intro vn w5 hown hgrow hnew;obtain⟨an,cn,hvn⟩:=yav hown;subst hvn;have HG5:=hdq hgrow;have HO5:=hdq hown;clear hown hgrow hnew)
    go_roundw
    case rel=>
     refine⟨j+1,by omega,by go_num,fun i hi=> ?_,yfj HO4.out HG5.out HBV4.out (Nat.le_refl _) hs4,an,cn,rfl,by rw [HVS.out];exact HO5.out⟩
     by_cases hij:i<j
     ·exact HA.out i hij
     ·obtain rfl:i=j:=by omega
      exact HV.out
    case measure=>simp [intOf];omega
  case neg=>
   have hje:j=l.length:=by omega
   have HY:Hid (yih l=true):=allVk_iff.2 (fun i hi=>HA.out i (by omega))
   have HRL:Hid (RowA w.heap.size wr (.slice a3 l.length c3) l):=by
    have h9:=HR.out
    rw [hje,List.take_of_length_le (Nat.le_refl _)]at h9
    exact h9
   subst hje
   clear HR HA
   go_wp2
   go_ret2
   exact⟨HB.out,.inl ⟨HY.out,_,rfl,HRL.out⟩⟩
theorem ybi {p:Prop} (h:p):Hid p:=h
set_option maxRecDepth 100000 in
set_option maxHeartbeats 8000000 in
theorem yuo (x:Value) (m:Md) (w:World) (hs:SmallM m) (h:IsM w x m):
  Calls Tryz.prog 142 #[x] w fun e w'=>∃u,e= .returned (.tuple #[u,.bool m.ok])∧By.OwnI w.heap.size w' u (yi1 m)∧Below w.heap.size w w':=by
 have HX:Hid (IsM w x m):=h
 obtain⟨vi,vh,vs,rfl,⟨ai,ci,rfl,hi1,hi2,hi3⟩,⟨ah,ch,rfl,hh1,hh2,hh3⟩,⟨ae,ce,rfl,he1,he2,he3⟩⟩:=h
 have hi0:m.i.length≤1048576:=hs.i
 have hh0:m.h.length≤1048576:=hs.h
 have he0:m.e.length≤1048576:=hs.e
 have HS:Hid (SmallM m):=hs
 clear hs hi1 hi2 hh1 hh2 he1 he2
 have HI:=ybi hi3
 have HH:=ybi hh3
 have HEV:=ybi he3
 clear hi3 hh3 he3 hi0 he0 hh0
 obtain⟨W0,hW0⟩:∃W0,w.alloc (.cells #[.int .i64 m.n,.int .i64 m.s,.slice ai m.i.length ci,.slice ah m.h.length ch,.slice ae m.e.length ce,.int .i64 m.z] 36)=W0:=⟨_,rfl⟩
 have HB0:=hdq (beA hW0)
 have HP0:=hdq (bkA hW0)
 obtain⟨p0,p1,p2,p3,p4,p5⟩:=c6_6 HP0.out
 go_enter Tryz.func142,Tryz.ntmps142
 go_wp2_with fail
 clear hW0 p0 p1 p2 p3 p4 p5
 refine(iModM _ m _ HS.out (HX.out.below HB0.out)).mono ?_
 rintro e W1 ⟨rfl,hb⟩
 have HB1:=trh HB0 hb
 have HP1:=ybi (HP0.out.below hb)
 clear hb HB0 HP0
 cases hok:m.ok
 case false=>
  have HE:Hid (yi1 m= []):=(by simp [yi1,hok]:yi1 m= [])
  have HOF:Hid (m.ok=false):=hok
  clear hok
  go_wp2
  go_ret2
  exact⟨.slice none 0 0,by rw [HOF.out];rfl,by rw [HE.out];exact By.OwnI.nil _ _,HB1.out⟩
 have HE:Hid (yi1 m=ycz m):=(by simp [yi1,hok]:yi1 m=ycz m)
 have HOK:Hid (m.ok=true):=hok
 obtain⟨d0,d1,d2,d3,d4,d5,d6,d7,d8,d9⟩:=(yko hok).1
 clear hok
 have hn0:0≤m.n:=by omega
 have hn1:m.n≤255:=by omega
 have hh0:(0:Int)≤(m.h.length:Int):=by omega
 have hh1:(m.h.length:Int)≤255:=by omega
 have he0:(0:Int)≤(m.e.length:Int):=by omega
 have he1:(m.e.length:Int)≤255:=by omega
 have HD:Hid ((0≤m.z∧m.z≤65535)∧(0≤m.s∧m.s≤65535)∧m.i.length≤4∧m.h.length≤4∧m.e.length≤6):=⟨⟨d8,by omega⟩,⟨d2,d3⟩,by omega,d6,d7⟩
 clear d0 d1 d2 d3 d4 d5 d6 d7 d8 d9
 obtain⟨i0,hi,hz0,hz1,hz2⟩:=info_parts By.info5
 obtain⟨B,hBe⟩:∃B,B=W1.heap.size:=⟨_,rfl⟩
 obtain⟨W2,hW2⟩:∃W2,W1.alloc (.cells #[.int .u8 m.n,.int .u8 (m.h.length:Int),.int .u8 (m.e.length:Int)] 5)=W2:=⟨_,rfl⟩
 have HR2:Hid (RowBy B W2 (.slice (some ⟨W1.heap.size,0,none⟩) 3 3) (yek m)):=by
  have:=yth W1 (.int .u8 m.n) (.int .u8 (m.h.length:Int)) (.int .u8 (m.e.length:Int))
  rw [hW2,←hBe]at this
  have e:By.intCells (yek m)= [.int .u8 m.n,.int .u8 (m.h.length:Int),.int .u8 (m.e.length:Int)]:=by
   have e1:By.intCells (yek m)=By.intCells [byteOf m.n]++(By.intCells [byteOf (m.h.length:Int)]++By.intCells [byteOf (m.e.length:Int)]):=rfl
   rw [e1,yd8 hn0 hn1,yd8 hh0 hh1,yd8 he0 he1];rfl
  show W2.ownsRow B 5 1 _ 3 (By.intCells (yek m))
  rw [e]
  rw [←hBe]
  exact this
 have hwB:w.heap.size<B:=hBe▸HP1.out.lt
 have HBB:Hid (Below B W1 W2):=hW2▸(Below.refl B W1).alloc (by omega) _
 have HP2:=ybi (HP1.out.keep HBB.out hwB)
 have HB2:=ybi (HB1.out.trans (HBB.out.mono (by omega)))
 have HZ:Hid (B≤W1.heap.size):=(by omega:B≤W1.heap.size)
 have p0:=HP1.out.cell (i:=0) rfl
 have p3:=HP1.out.cell (i:=3) rfl
 have p4:=HP1.out.cell (i:=4) rfl
 have q5:=HP2.out.cell (i:=5) rfl
 clear hBe
 go_wp2_with fail
 clear hW2 p0 p3 p4 q5
 have hs2:B≤W2.heap.size:=Nat.le_trans HZ.out HBB.out.size
 refine(ygk B _ _ _ _ hs2 (by simp [yek]) HD.out.1.1 HD.out.1.2 HR2.out).mono ?_
 rintro e w3 ⟨v3,rfl,hr3,ht3⟩
 have hb3:=ht3.to_below (fun k e=>ybf HR2.out e) hs2
 have HR3:=ybi hr3
 have HP3:=ybi (HP2.out.keep hb3 hwB)
 have HB3:=ybi (HB2.out.trans (hb3.mono (by omega)))
 have HBB3:Hid (Below B W1 w3):=HBB.out.trans hb3
 have hs3:B≤w3.heap.size:=Nat.le_trans hs2 hb3.size
 have q1:=HP3.out.cell (i:=1) rfl
 clear hr3 ht3 hb3 HR2 HP2 HB2 HBB hs2
 go_wp2_with fail
 clear q1
 refine(ygk B _ _ _ _ hs3 (by simp [yek,twoB]) HD.out.2.1.1 HD.out.2.1.2 HR3.out).mono ?_
 rintro e w4 ⟨v4,rfl,hr4,ht4⟩
 have hb4:=ht4.to_below (fun k e=>ybf HR3.out e) hs3
 have HR4:=ybi hr4
 have HP4:=ybi (HP3.out.keep hb4 hwB)
 have HB4:=ybi (HB3.out.trans (hb4.mono (by omega)))
 have hs4:B≤w4.heap.size:=Nat.le_trans hs3 hb4.size
 have HLL:Hid (ycz m=yek m++twoB m.z++twoB m.s++iniB m m.i.length++yej m m.h.length++evsB m m.e.length):=rfl
 have hl4:(yek m++twoB m.z++twoB m.s).length≤7:=by simp [yek,twoB]
 generalize yek m++twoB m.z++twoB m.s=l4 at HR4 HLL hl4
 have q2:=HP4.out.cell (i:=2) rfl
 clear hr4 ht4 hb4 HR3 HP3 HB3 HBB3 hs3
 go_wp2
 clear q2
 go_loopw [4,37] (fun o i wr=>∃(k:Nat) (v:Value),k≤m.i.length∧v=o∧i= .int .i64 k∧RowBy B wr o (l4++iniB m k)∧Below B w4 wr) (fun _ i _=>m.i.length-(intOf i).toNat)
 case atStart=>exact⟨0,_,Nat.zero_le _,rfl,rfl,by simpa [iniB] using HR4.out,Below.refl _ _⟩
 case round=>
  clear HR4
  obtain⟨k,o,hk,rfl,rfl,hR,hBw⟩:=hrel
  have HR4:=ybi hR
  have HBW:Hid (Below B w4 wr):=hBw
  have hsw:B≤wr.heap.size:=Nat.le_trans hs4 hBw.size
  have HBX:=ybi (HB4.out.trans (hBw.mono (by omega)))
  clear hR hBw
  have hd3:m.i.length≤4:=HD.out.2.2.1
  by_cases hlt:k<m.i.length
  ·obtain⟨b,off,rfl,hI⟩:=HI.out.resolve_left (by intro e;rw [e]at hlt;simp at hlt)
   have f0:=(HBX.out.cell (p:=⟨b,off+k,none⟩) hI.1).trans (hI.2 k hlt)
   have HJ:=ybi (ok_int HOK.out hlt)
   clear hI
   go_wp2_with fail
   clear f0
   refine(ygk B _ _ _ _ hsw (by rw [List.length_append,yeg];omega) HJ.out.1 (by have:=HJ.out.2;omega) HR4.out).mono ?_
   rintro e w5 ⟨v5,rfl,hr5,ht5⟩
   have HR5:=ybi hr5
   have HBW5:Hid (Below B w4 w5):=HBW.out.trans (ht5.to_below (fun k e=>ybf HR4.out e) hsw)
   clear hr5 ht5
   go_wp2
   go_roundw
   case rel=>exact⟨k+1,_,by omega,rfl,by go_num,by have:=HR5.out;rw [List.append_assoc]at this;exact this,HBW5.out⟩
   case measure=>simp [intOf];omega
  ·obtain rfl:k=m.i.length:=by omega
   have hl5:(l4++iniB m m.i.length).length≤15:=by rw [List.length_append,yeg];omega
   generalize l4++iniB m m.i.length=l5 at HR4 HLL hl5
   obtain⟨W5,hW5⟩:∃W5,W5=wr:=⟨_,rfl⟩
   subst hW5
   have HP5:=ybi (HP4.out.keep HBW.out hwB)
   have q3:=HP5.out.cell (i:=3) rfl
   clear HBW HP4 HB4 hs4
   go_wp2
   clear q3
   go_loopw [4,48] (fun o i wr=>∃(k:Nat) (v:Value),k≤m.h.length∧v=o∧i= .int .i64 k∧RowBy B wr o (l5++yej m k)∧Below B W5 wr) (fun _ i _=>m.h.length-(intOf i).toNat)
   case atStart=>exact⟨0,_,Nat.zero_le _,rfl,rfl,by simpa [yej] using HR4.out,Below.refl _ _⟩
   case round=>
    clear HR4
    obtain⟨k,o,hk,rfl,rfl,hR,hBw⟩:=hrel
    have HR4:=ybi hR
    have HBW:Hid (Below B W5 wr):=hBw
    have hsw2:B≤wr.heap.size:=Nat.le_trans hsw hBw.size
    have HBY:=ybi (HBX.out.trans (hBw.mono (by omega)))
    have hd4:m.h.length≤4:=HD.out.2.2.2.1
    clear hR hBw
    by_cases hlt:k<m.h.length
    ·obtain⟨b,off,rfl,hb,hc⟩:=HH.out.resolve_left (by intro e;rw [e]at hlt;simp at hlt)
     obtain⟨u,f0,hu⟩:=hc k hlt
     replace f0:=(HBY.out.cell (p:=⟨b,off+k,none⟩) hb).trans f0
     have HU:Hid (∃a cap,u= .slice a (hAt m.h k).length cap∧(hAt m.h k= []∨ ∃b off,a=some ⟨b,off,none⟩∧b<B∧OsAt wr b off (hAt m.h k))):=by
      obtain⟨a,cap,e,_,_,h⟩:=hu
      exact⟨a,cap,e,h.imp id (fun⟨b,off,e,h⟩=>⟨b,off,e,by have:=h.1;omega,h.below HBY.out h.1⟩)⟩
     have HSM:Hid (∀q,q<(hAt m.h k).length→yt8 (oAt (hAt m.h k) q)):=fun q hq=>ok_small HOK.out hlt hq
     have HR8:=ybi (yol HOK.out k)
     obtain⟨a1,c1,rfl,_⟩:=hu
     clear hc
     go_wp2_with fail
     clear f0
     refine(yoy B _ _ _ (hAt m.h k) _ hsw2 (by have:=yds HOK.out k;rw [List.length_append];omega) (by have:=HR8.out;omega) HSM.out HR4.out HU.out).mono ?_
     rintro e w5 ⟨v5,rfl,hr5,hb5⟩
     have HR5:=ybi hr5
     have HBW5:Hid (Below B W5 w5):=HBW.out.trans hb5
     clear hr5 hb5
     go_wp2
     go_roundw
     case rel=>exact⟨k+1,_,by omega,rfl,by go_num,by have:=HR5.out;rw [List.append_assoc]at this;exact this,HBW5.out⟩
     case measure=>simp [intOf];omega
    ·obtain rfl:k=m.h.length:=by omega
     have hl6:(l5++yej m m.h.length).length≤300:=by have:=yds HOK.out m.h.length;rw [List.length_append];omega
     generalize l5++yej m m.h.length=l6 at HR4 HLL hl6
     obtain⟨W6,hW6⟩:∃W6,W6=wr:=⟨_,rfl⟩
     subst hW6
     have HP6:=ybi (HP5.out.keep HBW.out hwB)
     have q4:=HP6.out.cell (i:=4) rfl
     clear HBW HP5 HBX hsw
     go_wp2
     clear q4
     go_loopw [4,59] (fun o i wr=>∃(k:Nat) (v:Value),k≤m.e.length∧v=o∧i= .int .i64 k∧RowBy B wr o (l6++evsB m k)∧Below B W6 wr) (fun _ i _=>m.e.length-(intOf i).toNat)
     case atStart=>exact⟨0,_,Nat.zero_le _,rfl,rfl,by simpa [evsB] using HR4.out,Below.refl _ _⟩
     case round=>
      clear HR4
      obtain⟨k,o,hk,rfl,rfl,hR,hBw⟩:=hrel
      have HR4:=ybi hR
      have HBW:Hid (Below B W6 wr):=hBw
      have hsw3:B≤wr.heap.size:=Nat.le_trans hsw2 hBw.size
      have HBZ:=ybi (HBY.out.trans (hBw.mono (by omega)))
      have hd5:m.e.length≤6:=HD.out.2.2.2.2
      clear hR hBw
      by_cases hlt:k<m.e.length
      ·obtain⟨b,off,rfl,hb,hc⟩:=HEV.out.resolve_left (by intro e;rw [e]at hlt;simp at hlt)
       obtain⟨f0,f1,f2,f3,f4,f5,f6⟩:=(hc k hlt).below HBZ.out hb
       have HEB:Hid (evsB m (k+1)=evsB m k++evB (evAt m.e k)):=rfl
       generalize hev:evAt m.e k=e at f0 f1 f2 f3 f4 f5 f6 HEB
       obtain⟨t,s1,qq,d,kk,v,g⟩:=e
       have HEO:=ybi (ok_ev HOK.out hlt hev)
       clear hc hev
       obtain⟨V,hV⟩:∃V,wr.alloc (.cells #[.int .i64 t,.int .i64 s1,.int .i64 qq,.int .i64 d,.int .i64 kk,.int .i64 v,.int .i64 g] 110)=V:=⟨_,rfl⟩
       have hbV:=beA hV
       have HRV:=ybi (HR4.out.below hbV)
       have HBV:Hid (Below B W6 V):=HBW.out.trans (hbV.mono hsw3)
       have hQV:=bkA hV
       have hsV:B≤V.heap.size:=Nat.le_trans hsw3 hbV.size
       obtain⟨e0,e1,e2,e3,e4,e5,e6⟩:=c7_7 hQV
       clear hbV hQV
       go_wp2_with fail
       clear f0 f1 f2 f3 f4 f5 f6 e0 e1 e2 e3 e4 e5 e6 hV
       refine(yt2 B _ _ _ _ _ _ _ _ _ _ hsV (by rw [List.length_append,yha];omega) HEO.out.1.1 (by have:=HEO.out.1.2;omega) HEO.out.2.1.1 (by have:=HEO.out.2.1.2;omega) HEO.out.2.2.1.1 (by have:=HEO.out.2.2.1.2;omega) HEO.out.2.2.2.1 (by have:=HEO.out.2.2.2.2;omega) HRV.out).mono ?_
       rintro e w5 ⟨v5,rfl,hr5,hb5⟩
       have HR5:Hid (RowBy B w5 v5 (l6++evsB m (k+1))):=by rw [HEB.out,←List.append_assoc];exact hr5
       have HBW5:Hid (Below B W6 w5):=HBV.out.trans hb5
       clear hr5 hb5
       go_wp2
       go_roundw
       case rel=>exact⟨k+1,_,by omega,rfl,by go_num,HR5.out,HBW5.out⟩
       case measure=>simp [intOf];omega
      ·obtain rfl:k=m.e.length:=by omega
       go_wp2
       go_ret2
       exact⟨o,by rw [HOK.out];rfl,by rw [HE.out,HLL.out];exact HR4.out.own.mono (Nat.le_of_lt hwB),HBZ.out⟩
theorem ygw {p:Prop} (h:p):Hid p:=h
theorem ecmp_of {a b:Ev} (ha:a.ok=true) (hb:b.ok=true):a.ecmp b=a.cmp b:=by
 unfold Ev.ecmp Ev.cmp ecmp
 rw [if_pos ⟨ha,hb⟩]
theorem ylg (a b:Int):num a b= -num b a:=by
 unfold num
 split<;>split<;>(try split)<;>omega
theorem cmp_opp (a b:Ev):a.cmp b= -b.cmp a:=by
 unfold Ev.cmp cmpI
 rw [ylg a.t b.t,ylg a.s b.s,ylg a.q b.q,ylg a.g b.g]
 by_cases h1:a.t=b.t
 ·by_cases h2:a.s=b.s
  ·by_cases h3:a.q=b.q
   ·simp [h1,h2,h3]
   ·have h3':¬b.q=a.q:=fun e=>h3 e.symm
    simp [h1,h2,h3,h3']
  ·have h2':¬b.s=a.s:=fun e=>h2 e.symm
   simp [h1,h2,h2']
 ·have h1':¬b.t=a.t:=fun e=>h1 e.symm
  simp [h1,h1']
structure MnS (w wr:World) (G:Nat) (cur:Ev):Prop where
 rb:Bk wr w.heap.size 110 (evA zEv)
 gb:Bk wr G 110 (evA cur)
 be:Below w.heap.size w wr
theorem MnS.below {w wr w':World} {G:Nat} {cur:Ev} (h:MnS w wr G cur) (hb:Below wr.heap.size wr w'):MnS w w' G cur:=
 ⟨h.rb.below hb,h.gb.below hb,h.be.trans (hb.mono h.be.size)⟩
theorem MnS.put {w wr:World} {G:Nat} {cur:Ev} (h:MnS w wr G cur) (h1:w.heap.size<G) (e:Ev):MnS w (putEv wr G e) G e:=
 ⟨h.rb.turns (yc7 wr G e) (by omega),h.gb.putEv e,h.be.trans ((yc7 wr G e).to_below (fun k hk=>by omega) h.be.size)⟩
theorem MnS.ev {w wr:World} {G:Nat} {cur:Ev} (h:MnS w wr G cur):Ev.In wr G 0 cur:=
 ⟨h.gb.cell (i:=0) rfl,h.gb.cell (i:=1) rfl,h.gb.cell (i:=2) rfl,h.gb.cell (i:=3) rfl,h.gb.cell (i:=4) rfl,h.gb.cell (i:=5) rfl,h.gb.cell (i:=6) rfl⟩
set_option maxRecDepth 100000 in
set_option maxHeartbeats 8000000 in
theorem iMin (a:Option Addr) (cap:Nat) (l:List Ev) (w:World) (hl:l.length≤100000000) (h0:0<l.length) (hok:∀i,i<l.length→(evAt l i).ok=true) (h:IsEvs w (.slice a l.length cap) l):
  Calls Tryz.prog 168 #[.slice a l.length cap,.func (.func 123) #[] #[]] w fun e w'=>∃g,minE l=some g∧e= .returned g.val∧Below w.heap.size w w':=by
 obtain⟨b,off,rfl,hb,hc⟩:=h.rows.resolve_left (fun e=>by rw [e]at h0;simp at h0)
 have HC:=ygw hc
 have HOK:=ygw hok
 have he0:Ev.In w b off (evAt l 0):=by simpa using hc 0 h0
 obtain⟨V0,hV0⟩:∃V,w.alloc (.cells #[.int .i64 0,.int .i64 0,.int .i64 0,.int .i64 0,.int .i64 0,.int .i64 0,.int .i64 0] 110)=V:=⟨_,rfl⟩
 have hbV:=beA hV0
 obtain⟨e0,e1,e2,e3,e4,e5,e6⟩:=he0.below hbV hb
 obtain⟨G,hG⟩:∃G,G=V0.heap.size:=⟨_,rfl⟩
 have hG1:w.heap.size<G:=by rw [hG,←hV0];simp
 obtain⟨W0,hW0⟩:∃W0,V0.alloc (.cells #[.int .i64 (evAt l 0).t,.int .i64 (evAt l 0).s,.int .i64 (evAt l 0).q,.int .i64 (evAt l 0).d,.int .i64 (evAt l 0).k,.int .i64 (evAt l 0).v,.int .i64 (evAt l 0).g] 110)=W0:=⟨_,rfl⟩
 have HS0:Hid (MnS w W0 G (evAt l 0)):=by
  rw [←hW0]
  refine⟨?_,?_,hbV.alloc hbV.size _⟩
  ·rw [←hV0];exact(Bk.new w _ _).alloc _
  ·rw [hG];exact Bk.new _ _ _
 have HW0:=ygw hW0
 have HV0:=ygw hV0
 have HG:Hid (G=V0.heap.size):=hG
 have hl1:¬(l.length:Int)<1:=by omega
 have hl0:(0:Int)<(l.length:Int):=by omega
 clear hW0 hG hc hok he0 hbV h
 go_enter Tryz.func168,Tryz.ntmps168
 go_wp2
 rw [HW0.out,←HG.out]
 clear HW0 HG HV0 hV0 e0 e1 e2 e3 e4 e5 e6 hl1
 have HM0:Hid (minE (l.take 1)=some (evAt l 0)):=by
  show _=_
  rw [yi6 h0]
  rfl
 go_loopw [6] (fun i wr=>∃(j:Nat) (g:Ev),1≤j∧j≤l.length∧i= .int .i64 j∧Hid (minE (l.take j)=some g∧g.ok=true)∧MnS w wr G g) (fun i _=>l.length-(intOf i).toNat)
 case atStart=>exact⟨1,evAt l 0,Nat.le_refl _,h0,rfl,⟨HM0.out,HOK.out 0 h0⟩,HS0.out⟩
 case round=>
  clear HS0 HM0
  obtain⟨j,g,hj1,hj,rfl,HMj,hS⟩:=hrel
  have HS:Hid (MnS w wr G g):=hS
  by_cases hlt:j<l.length
  ·have hbr:b<wr.heap.size:=Nat.lt_of_lt_of_le hb hS.be.size
   have hev:Ev.In wr b (off+j*7) (evAt l j):=(HC.out j hlt).below hS.be hb
   obtain⟨e0,e1,e2,e3,e4,e5,e6⟩:=hev.beyond hbr
   obtain⟨d0,d1,d2,d3,d4,d5,d6⟩:=hS.ev.beyond hS.gb.lt
   have HEV:=ygw hev
   have hne:=neB wr
   have HNX:Hid (minE (l.take (j+1))=if (evAt l j).cmp g<0 then some (evAt l j)else some g):=by
    show _=_
    rw [yi6 hlt,yg1,HMj.out.1]
    rfl
   have HEC:=ygw (ecmp_of (HOK.out j hlt) HMj.out.2)
   have HOJ:=ygw (HOK.out j hlt)
   have hki:(j:Int)<(l.length:Int):=by omega
   have HSP:Hid (∀q:World,Below wr.heap.size wr q→MnS w (putEv q G (evAt l j)) G (evAt l j)):=fun q hq=>(HS.out.below hq).put hG1 _
   clear hev hS
   generalize hz:(evAt l j).cmp g=z at HNX HEC
   have KZ:=ygw HEC.out
   clear hz
   by_cases hz0:z<0
   ·have hdz:decide (z<0)=true:=decide_eq_true hz0
    have HNN:Hid (minE (l.take (j+1))=some (evAt l j)):=by show _=_;rw [HNX.out,if_pos hz0]
    go_wp2_with fail
    refine wrb ?_
    repeat(go_big_quiet_step (first|(go_at_call 123;exact Beyond.of (yg4 (evAt l j) g z KZ.out _))))
    refine wpQuiet_nil ?_
    rintro w3 ⟨⟨_,hb3⟩,rfl⟩
    have HB3:=ygw hb3
    clear hb3
    obtain⟨g0,g1,g2,g3,g4,g5,g6⟩:=c7_7 ((HS.out.below HB3.out).gb)
    have gf:=(HS.out.below HB3.out).gb.free
    obtain⟨v0,v1,v2,v3,v4,v5,v6⟩:=HEV.out.below HB3.out hbr
    go_wp2
    clear g0 g1 g2 g3 g4 g5 g6 gf v0 v1 v2 v3 v4 v5 v6
    go_roundw
    case rel=>exact⟨j+1,evAt l j,by omega,by omega,by go_num,⟨HNN.out,HOJ.out⟩,HSP.out _ HB3.out⟩
    case measure=>simp [intOf];omega
   ·have hdz:decide (z<0)=false:=decide_eq_false hz0
    have HNN:Hid (minE (l.take (j+1))=some g):=by show _=_;rw [HNX.out,if_neg hz0]
    go_wp2_with fail
    refine wrb ?_
    repeat(go_big_quiet_step (first|(go_at_call 123;exact Beyond.of (yg4 (evAt l j) g z KZ.out _))))
    refine wpQuiet_nil ?_
    rintro w3 ⟨⟨_,hb3⟩,rfl⟩
    have HB3:=ygw hb3
    clear hb3
    go_wp2
    go_roundw
    case rel=>exact⟨j+1,g,by omega,by omega,by go_num,⟨HNN.out,HMj.out.2⟩,HS.out.below HB3.out⟩
    case measure=>simp [intOf];omega
  ·obtain rfl:l.length=j:=by omega
   have HMN:Hid (minE l=some g):=by have:=HMj.out.1;rw [List.take_length]at this;exact this
   obtain⟨g0,g1,g2,g3,g4,g5,g6⟩:=hS.ev
   obtain⟨r0,r1,r2,r3,r4,r5,r6⟩:=c7_7 hS.rb
   have rf:=hS.rb.free
   clear hS
   go_wp2
   clear g0 g1 g2 g3 g4 g5 g6 r0 r1 r2 r3 r4 r5 r6 rf
   obtain⟨V,hV⟩:∃V,putEv wr w.heap.size g=V:=⟨_,rfl⟩
   have ht:=yc7 wr w.heap.size g
   have hk:=HS.out.rb.putEv g
   rw [hV]at ht hk
   unfold putEv at hV
   rw [hV]
   have t0:V.cell? ⟨w.heap.size,0,none⟩=some (.int .i64 g.t):=hk.cell (i:=0) rfl
   have t1:V.cell? ⟨w.heap.size,1,none⟩=some (.int .i64 g.s):=hk.cell (i:=1) rfl
   have t2:V.cell? ⟨w.heap.size,2,none⟩=some (.int .i64 g.q):=hk.cell (i:=2) rfl
   have t3:V.cell? ⟨w.heap.size,3,none⟩=some (.int .i64 g.d):=hk.cell (i:=3) rfl
   have t4:V.cell? ⟨w.heap.size,4,none⟩=some (.int .i64 g.k):=hk.cell (i:=4) rfl
   have t5:V.cell? ⟨w.heap.size,5,none⟩=some (.int .i64 g.v):=hk.cell (i:=5) rfl
   have t6:V.cell? ⟨w.heap.size,6,none⟩=some (.int .i64 g.g):=hk.cell (i:=6) rfl
   refine bodyPost_ret (v:=g.val) (by simp [results,Tryz.results168,go_sem,t0,t1,t2,t3,t4,t5,t6,Ev.val]) rfl ⟨g,HMN.out,rfl,HS.out.be.trans (ht.to_below (fun b e=>by omega) HS.out.be.size)⟩
end Go.Proofs.YtmobiieoecjmdaaGreat

