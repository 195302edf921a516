/-
  Joined texts, part 14:
  What package pred's turn, Area2, Orient and Dist2 answer.
  The landed mesh's functions that ask of each corner: AddFace's two, places' one; places, t
  The landed mesh's put, of vertices and of faces: behind the last, or in another's place.
  What the landed mesh's memory tells of the document's mesh, behind each act: a vertex more
  The landed mesh's put, as it turns an element; cells that stay.
  The landed mesh's New, Side, AddVert.
  The landed mesh's Vert, Face, DropVert.
-/
import Derived.Test.YtaadknpjbogkbaaGreatP10
import Derived.Test.YtaadknpjbogkbaaGreatP13
import Derived.Test.YtaadknpjbogkbaaGreatP7
import Derived.Test.YtaadknpjbogkbaaGreatP9
namespace Go.Proofs.YtaadknpjbogkbaaGreat
open Go.RowKit
set_option linter.unusedVariables false
set_option maxRecDepth 100000 in
set_option maxHeartbeats 4000000 in
theorem pArea(a1 a2 b1 b2 c1 c2:Int)(w:World){u v:Int}(hu:u=lw.hi (arP a1 a2 b1 b2 c1 c2))(hv:v=lw.lo (arP a1 a2 b1 b2 c1 c2)):
  Calls Tryz.prog 126 #[.agg #[.int .i64 a1, .int .i64 a2], .agg #[.int .i64 b1, .int .i64 b2], .agg #[.int .i64 c1, .int .i64 c2]] w fun e w'=>e= .returned (.agg #[.int .i64 u, .int .u64 v])∧Below w.heap.size w w':=by
 cases hq:canAll [(a1,a2),(b1,b2),(c1,c2)]
 ·skip
  obtain rfl:u=0:=by rw [hu];unfold arP;rw [hq];rfl
  obtain rfl:v=0:=by rw [hv];unfold arP;rw [hq];rfl
  clear hu hv
  have HQ:Hid _:=hq
  clear hq
  obtain⟨W,hW,bW,x_a,x_b,x_c,x_r,sW⟩:=bs_2222 w (.int .i64 a1) (.int .i64 a2) (.int .i64 b1) (.int .i64 b2) (.int .i64 c1) (.int .i64 c2) (.int .i64 0) (.int .u64 0) 24 24 24 201
  have zbW:=bW.size
  have BB:=bW
  go_enter Tryz.func126,Tryz.ntmps126
  go_wp2_with (go_at_call 137;fail)
  have eV:W.heap.size=w.heap.size+1+1+1+1:=by rw [hW];simp
  rw [←hW]
  clear hW
  obtain⟨V,hV⟩: ∃ V,V=(W.alloc (.cells #[.int .i64 a1, .int .i64 a2, .int .i64 b1, .int .i64 b2, .int .i64 c1, .int .i64 c2] 24)):=⟨_,rfl⟩
  rw [←hV]
  have bV:Below W.heap.size W V:=by rw [hV];exact(Below.refl _ _).alloc (Nat.le_refl _) _
  have rV:Row V W.heap.size [.int .i64 a1, .int .i64 a2, .int .i64 b1, .int .i64 b2, .int .i64 c1, .int .i64 c2]:=by rw [hV];exact Row.new _ _ _
  have lV:W.heap.size<V.heap.size:=by rw [hV];simp
  clear hV
  rw [eV]at rV lV
  have zbV:=bV.size
  replace BB:=also BB bV
  replace x_a:=x_a.on bV
  replace x_b:=x_b.on bV
  replace x_c:=x_c.on bV
  replace x_r:=x_r.on bV
  refine(pcan [(a1,a2),(b1,b2),(c1,c2)] 3 _ V rfl (by decide) rV lV HQ.out.symm).mono ?_
  rintro e w1 ⟨rfl,bw1⟩
  have zbw1:=bw1.size
  replace BB:=also BB bw1
  replace x_a:=x_a.on bw1
  replace x_b:=x_b.on bw1
  replace x_c:=x_c.on bw1
  replace x_r:=x_r.on bw1
  have⟨x_a_0,x_a_1,x_a_2,x_a_3⟩:=x_a
  have⟨x_b_0,x_b_1,x_b_2,x_b_3⟩:=x_b
  have⟨x_c_0,x_c_1,x_c_2,x_c_3⟩:=x_c
  have⟨x_r_0,x_r_1,x_r_2,x_r_3⟩:=x_r
  go_wp2
  exact bodyPost_ret (v:= .agg #[.int .i64 0, .int .u64 0]) (by simp [results,Tryz.results126,go_sem, *]) rfl (⟨rfl,below_put2 BB (by omega) _ _⟩)
 ·skip
  obtain⟨ha,hb,hc⟩:=can3.1 hq
  have HU:Hid (u=lw.hi (areaP a1 a2 b1 b2 c1 c2)):=by unfold Hid;rw [hu];unfold arP;rw [hq];rfl
  have HV:Hid (v=lw.lo (areaP a1 a2 b1 b2 c1 c2)):=by unfold Hid;rw [hv];unfold arP;rw [hq];rfl
  clear hu hv
  have HQ:Hid _:=hq
  clear hq
  obtain⟨W,hW,bW,x_a,x_b,x_c,x_r,sW⟩:=bs_2222 w (.int .i64 a1) (.int .i64 a2) (.int .i64 b1) (.int .i64 b2) (.int .i64 c1) (.int .i64 c2) (.int .i64 0) (.int .u64 0) 24 24 24 201
  have zbW:=bW.size
  have BB:=bW
  go_enter Tryz.func126,Tryz.ntmps126
  go_wp2_with (go_at_call 137;fail)
  have eV:W.heap.size=w.heap.size+1+1+1+1:=by rw [hW];simp
  rw [←hW]
  clear hW
  obtain⟨V,hV⟩: ∃ V,V=(W.alloc (.cells #[.int .i64 a1, .int .i64 a2, .int .i64 b1, .int .i64 b2, .int .i64 c1, .int .i64 c2] 24)):=⟨_,rfl⟩
  rw [←hV]
  have bV:Below W.heap.size W V:=by rw [hV];exact(Below.refl _ _).alloc (Nat.le_refl _) _
  have rV:Row V W.heap.size [.int .i64 a1, .int .i64 a2, .int .i64 b1, .int .i64 b2, .int .i64 c1, .int .i64 c2]:=by rw [hV];exact Row.new _ _ _
  have lV:W.heap.size<V.heap.size:=by rw [hV];simp
  clear hV
  rw [eV]at rV lV
  have zbV:=bV.size
  replace BB:=also BB bV
  replace x_a:=x_a.on bV
  replace x_b:=x_b.on bV
  replace x_c:=x_c.on bV
  replace x_r:=x_r.on bV
  refine(pcan [(a1,a2),(b1,b2),(c1,c2)] 3 _ V rfl (by decide) rV lV HQ.out.symm).mono ?_
  rintro e w1 ⟨rfl,bw1⟩
  have zbw1:=bw1.size
  replace BB:=also BB bw1
  replace x_a:=x_a.on bw1
  replace x_b:=x_b.on bw1
  replace x_c:=x_c.on bw1
  replace x_r:=x_r.on bw1
  have⟨x_a_0,x_a_1,x_a_2,x_a_3⟩:=x_a
  have⟨x_b_0,x_b_1,x_b_2,x_b_3⟩:=x_b
  have⟨x_c_0,x_c_1,x_c_2,x_c_3⟩:=x_c
  have⟨x_r_0,x_r_1,x_r_2,x_r_3⟩:=x_r
  go_wp2_with (go_at_call 138;fail)
  refine(parea a1 a2 b1 b2 c1 c2 w1 ha hb hc HU.out HV.out).mono ?_
  rintro e w2 ⟨rfl,bw2⟩
  clear x_a_0 x_a_1 x_a_2 x_a_3 x_b_0 x_b_1 x_b_2 x_b_3 x_c_0 x_c_1 x_c_2 x_c_3 x_r_0 x_r_1 x_r_2 x_r_3
  have zbw2:=bw2.size
  replace BB:=also BB bw2
  replace x_a:=x_a.on bw2
  replace x_b:=x_b.on bw2
  replace x_c:=x_c.on bw2
  replace x_r:=x_r.on bw2
  have⟨x_r_0,x_r_1,x_r_2,x_r_3⟩:=x_r
  go_wp2
  exact bodyPost_ret (v:= .agg #[.int .i64 u, .int .u64 v]) (by simp [results,Tryz.results126,go_sem, *]) rfl (⟨rfl,below_put2 BB (by omega) _ _⟩)
set_option maxRecDepth 100000 in
set_option maxHeartbeats 4000000 in
theorem pturn(a1 a2 b1 b2 c1 c2:Int)(w:World)(ha:canC a1 a2=true)(hb:canC b1 b2=true)(hc:canC c1 c2=true){g:Int}(hg:g=(areaP a1 a2 b1 b2 c1 c2).sign):
  Calls Tryz.prog 139 #[.agg #[.int .i64 a1, .int .i64 a2], .agg #[.int .i64 b1, .int .i64 b2], .agg #[.int .i64 c1, .int .i64 c2]] w fun e w'=>e= .returned (.int .i64 g)∧Below w.heap.size w w':=by
 have hw:=area_wide ha hb hc
 have HW:Hid (-170141183460469231731687303715884105728≤areaP a1 a2 b1 b2 c1 c2∧areaP a1 a2 b1 b2 c1 c2<170141183460469231731687303715884105728):=⟨by omega,by omega⟩
 clear hw
 rw [←lw_sign]at hg
 have HG:Hid _:=hg
 clear hg
 obtain⟨u,hu⟩: ∃ u,u=lw.hi (areaP a1 a2 b1 b2 c1 c2):=⟨_,rfl⟩
 obtain⟨v,hv⟩: ∃ v,v=lw.lo (areaP a1 a2 b1 b2 c1 c2):=⟨_,rfl⟩
 have HU:Hid _:=hu
 have HV:Hid _:=hv
 clear hu hv
 obtain⟨W,hW,bW,x_a,x_b,x_c,sW⟩:=bs_222 w (.int .i64 a1) (.int .i64 a2) (.int .i64 b1) (.int .i64 b2) (.int .i64 c1) (.int .i64 c2) 24 24 24
 have zbW:=bW.size
 have BB:=bW
 go_enter Tryz.func139,Tryz.ntmps139
 go_wp2_with (go_at_call 138;fail)
 rw [←hW]
 clear hW
 refine(parea a1 a2 b1 b2 c1 c2 W ha hb hc HU.out HV.out).mono ?_
 rintro e w1 ⟨rfl,bw1⟩
 have zbw1:=bw1.size
 replace BB:=also BB bw1
 replace x_a:=x_a.on bw1
 replace x_b:=x_b.on bw1
 replace x_c:=x_c.on bw1
 go_wp2_with (go_at_call 125;fail)
 refine(lw.sign_any (areaP a1 a2 b1 b2 c1 c2) HU.out HV.out HW.out.1 HW.out.2 w1).mono ?_
 rintro e w2 ⟨rfl,bw2⟩
 have zbw2:=bw2.size
 replace BB:=also BB bw2
 replace x_a:=x_a.on bw2
 replace x_b:=x_b.on bw2
 replace x_c:=x_c.on bw2
 go_wp2
 go_ret
 exact⟨by rw [HG.out];rfl,BB⟩
set_option maxRecDepth 100000 in
set_option maxHeartbeats 4000000 in
theorem pOrient(a1 a2 b1 b2 c1 c2:Int)(w:World){g:Int}(hg:g=(arP a1 a2 b1 b2 c1 c2).sign):
  Calls Tryz.prog 105 #[.agg #[.int .i64 a1, .int .i64 a2], .agg #[.int .i64 b1, .int .i64 b2], .agg #[.int .i64 c1, .int .i64 c2]] w fun e w'=>e= .returned (.int .i64 g)∧Below w.heap.size w w':=by
 have hw:=ar_wide a1 a2 b1 b2 c1 c2
 have HW:Hid (-170141183460469231731687303715884105728≤arP a1 a2 b1 b2 c1 c2∧arP a1 a2 b1 b2 c1 c2<170141183460469231731687303715884105728):=⟨by omega,by omega⟩
 clear hw
 rw [←lw_sign]at hg
 have HG:Hid _:=hg
 clear hg
 obtain⟨u,hu⟩: ∃ u,u=lw.hi (arP a1 a2 b1 b2 c1 c2):=⟨_,rfl⟩
 obtain⟨v,hv⟩: ∃ v,v=lw.lo (arP a1 a2 b1 b2 c1 c2):=⟨_,rfl⟩
 have HU:Hid _:=hu
 have HV:Hid _:=hv
 clear hu hv
 obtain⟨W,hW,bW,x_a,x_b,x_c,sW⟩:=bs_222 w (.int .i64 a1) (.int .i64 a2) (.int .i64 b1) (.int .i64 b2) (.int .i64 c1) (.int .i64 c2) 24 24 24
 have zbW:=bW.size
 have BB:=bW
 go_enter Tryz.func105,Tryz.ntmps105
 go_wp2_with (go_at_call 126;fail)
 rw [←hW]
 clear hW
 refine(pArea a1 a2 b1 b2 c1 c2 W HU.out HV.out).mono ?_
 rintro e w1 ⟨rfl,bw1⟩
 have zbw1:=bw1.size
 replace BB:=also BB bw1
 replace x_a:=x_a.on bw1
 replace x_b:=x_b.on bw1
 replace x_c:=x_c.on bw1
 go_wp2_with (go_at_call 125;fail)
 refine(lw.sign_any (arP a1 a2 b1 b2 c1 c2) HU.out HV.out HW.out.1 HW.out.2 w1).mono ?_
 rintro e w2 ⟨rfl,bw2⟩
 have zbw2:=bw2.size
 replace BB:=also BB bw2
 replace x_a:=x_a.on bw2
 replace x_b:=x_b.on bw2
 replace x_c:=x_c.on bw2
 go_wp2
 go_ret
 exact⟨by rw [HG.out];rfl,BB⟩
end Go.Proofs.YtaadknpjbogkbaaGreat
namespace Go.Proofs.YtaadknpjbogkbaaGreat
open Go.RowKit Go.Maps
set_option linter.unusedVariables false
set_option maxRecDepth 100000 in
theorem mAsk1(pp:Value)(t:Tr)(i B1 B2:Nat)(w:World)(hi:i<3)(R1:Row w B1 [pp])(R2:Row w B2 (trC t)){r:Bool}(hv: ∀ w',Below w.heap.size w w'→Calls Tryz.prog 69 #[pp, .int .i64 (t.v i)] w' fun e w''=>e= .returned (.bool r)∧Below w'.heap.size w' w''):
  Calls Tryz.prog 68 #[.int .i64 (i:Int),ptR B1,ptR B2] w fun e w'=>e= .returned (.bool r)∧Below w.heap.size w w':=by
 have HV:Hid _:=hv
 have l1:=R1.lt
 have l2:=Row.lt (xs:=(trC t).tail) R2
 have c1:=R1.cell 0 _ rfl
 have c2:=R2.cell i _ (trC_v t hi)
 obtain⟨vi,hvi⟩: ∃ v,v=t.v i:=⟨_,rfl⟩
 rw [←hvi]at c2 HV
 have hi':(i:Int)<3:=by omega
 clear hv hvi R1 R2
 go_enter Tryz.func68,Tryz.ntmps68
 go_wp2
 have HSk1:Hid (∀ w',Below (w.heap.size) w w'→(fun w'=>w'.cell? ⟨B1,0,none⟩=some (pp)∧w'.cell? ⟨B2,i,none⟩=some (.int .i64 vi)∧Below (w.heap.size) w w') w'):=by
  unfold Hid
  intro w' hb
  exact⟨(hb.cell (p:=⟨B1,0,none⟩) l1).trans c1,(hb.cell (p:=⟨B2,i,none⟩) l2).trans c2,hb⟩
 refine wp_region_held_drew (S:=fun w'=>w'.cell? ⟨B1,0,none⟩=some (pp)∧w'.cell? ⟨B2,i,none⟩=some (.int .i64 vi)∧Below (w.heap.size) w w') (by kernel_rfl) ?_ (fun hHeld=>?_)
 ·exact HSk1.out _ ((Below.refl _ _).drew)
 refine tn 0 ?_;refine tn 1 ?_;refine tn 2 ?_;refine tn 3 ?_;refine tn 4 ?_
 simp only [Go.Act.put,ps1,ps2,ps3]
 refine tcl 5 fun Kc hK=>?_
 go_simp
 (go_at_call 69;refine(HV.out _ (Below.refl _ _).drew).mono ?_;rintro e w1 ⟨rfl,b1⟩)
 refine hK.out _ _ ?_ (fun hHeld=>?_)
 ·exact HSk1.out _ (hHeld.2.2.trans (b1.mono hHeld.2.2.size))
 clear hK Kc
 refine tz (i:=6) rfl ?_
 simp only [Go.Act.put,ps1,ps2,ps3]
 refine wpAnyH_done (by kernel_rfl) ?_ _
 have BF:=hHeld.2.2
 go_wp2
 go_ret
 exact⟨rfl,BF⟩
set_option maxRecDepth 100000 in
theorem mAsk2(base p:Nat)(X:Mx)(F:Nat→Prop)(w:World)(h:MeI base p X F w)(hst:Starts X.ge)(t:Tr)(i B1 B2:Nat)(hi:i<3)(he:(egW t i).ok)(R1:Row w B1 [ptR p])(R2:Row w B2 (trC t)){r:Bool}(hr:r= !(X.ge (egW t i)).isSome):
  Calls Tryz.prog 71 #[.int .i64 (i:Int),ptR B1,ptR B2] w fun e w'=>e= .returned (.bool r)∧Below w.heap.size w w':=by
 have l1:=R1.lt
 have l2:=Row.lt (xs:=(trC t).tail) R2
 have c1:=R1.cell 0 _ rfl
 have d0:=R2.cell 0 _ rfl
 have d1:=R2.cell 1 _ rfl
 have d2:=R2.cell 2 _ rfl
 have d3:=R2.cell 3 _ rfl
 have d4:=R2.cell 4 _ rfl
 have d5:=R2.cell 5 _ rfl
 have d6:=R2.cell 6 _ rfl
 have d7:=R2.cell 7 _ rfl
 have d8:=R2.cell 8 _ rfl
 have HE:Hid _:=he
 have HM:Hid _:=h
 have HST:Hid _:=hst
 obtain⟨s,HS,rfl⟩: ∃ s,Hid (s=(X.ge (egW t i)).isSome)∧r= !s:=⟨_,rfl,hr⟩
 clear h hst he hr R1 R2
 go_enter Tryz.func71,Tryz.ntmps71
 go_wp2
 have HSk2:Hid (∀ w',Below (w.heap.size) w w'→(fun w'=>w'.cell? ⟨B1,0,none⟩=some (ptR p)∧w'.cell? ⟨B2,0,none⟩=some (.int .i64 t.v0)∧w'.cell? ⟨B2,1,none⟩=some (.int .i64 t.v1)∧w'.cell? ⟨B2,2,none⟩=some (.int .i64 t.v2)∧w'.cell? ⟨B2,3,none⟩=some (.int .i64 t.x0)∧w'.cell? ⟨B2,4,none⟩=some (.int .i64 t.y0)∧w'.cell? ⟨B2,5,none⟩=some (.int .i64 t.x1)∧w'.cell? ⟨B2,6,none⟩=some (.int .i64 t.y1)∧w'.cell? ⟨B2,7,none⟩=some (.int .i64 t.x2)∧w'.cell? ⟨B2,8,none⟩=some (.int .i64 t.y2)∧Below (w.heap.size) w w') w'):=by
  unfold Hid
  intro w' hb
  exact⟨(hb.cell (p:=⟨B1,0,none⟩) l1).trans c1,(hb.cell (p:=⟨B2,0,none⟩) l2).trans d0,(hb.cell (p:=⟨B2,1,none⟩) l2).trans d1,(hb.cell (p:=⟨B2,2,none⟩) l2).trans d2,(hb.cell (p:=⟨B2,3,none⟩) l2).trans d3,(hb.cell (p:=⟨B2,4,none⟩) l2).trans d4,(hb.cell (p:=⟨B2,5,none⟩) l2).trans d5,(hb.cell (p:=⟨B2,6,none⟩) l2).trans d6,(hb.cell (p:=⟨B2,7,none⟩) l2).trans d7,(hb.cell (p:=⟨B2,8,none⟩) l2).trans d8,hb⟩
 refine wp_region_held_drew (S:=fun w'=>w'.cell? ⟨B1,0,none⟩=some (ptR p)∧w'.cell? ⟨B2,0,none⟩=some (.int .i64 t.v0)∧w'.cell? ⟨B2,1,none⟩=some (.int .i64 t.v1)∧w'.cell? ⟨B2,2,none⟩=some (.int .i64 t.v2)∧w'.cell? ⟨B2,3,none⟩=some (.int .i64 t.x0)∧w'.cell? ⟨B2,4,none⟩=some (.int .i64 t.y0)∧w'.cell? ⟨B2,5,none⟩=some (.int .i64 t.x1)∧w'.cell? ⟨B2,6,none⟩=some (.int .i64 t.y1)∧w'.cell? ⟨B2,7,none⟩=some (.int .i64 t.x2)∧w'.cell? ⟨B2,8,none⟩=some (.int .i64 t.y2)∧Below (w.heap.size) w w') (by kernel_rfl) ?_ (fun hHeld=>?_)
 ·exact HSk2.out _ ((Below.refl _ _).drew)
 refine tn 0 ?_;refine tn 1 ?_;refine tn 2 ?_
 simp only [Go.Act.put,ps1,ps2,ps3]
 refine tcl 3 fun Kc hK=>?_
 go_simp
 (go_at_call 73;refine(mEdge t i _ hi).mono ?_;rintro e w1 ⟨rfl,b1⟩)
 refine hK.out _ _ ?_ (fun hHeld=>?_)
 ·exact HSk2.out _ (hHeld.2.2.2.2.2.2.2.2.2.2.trans (b1.mono hHeld.2.2.2.2.2.2.2.2.2.2.size))
 clear hK Kc
 refine tcl 4 fun Kc hK=>?_
 go_simp
 (go_at_call 72;refine(mHasE base p X F w1 (HM.out.below hHeld.2.2.2.2.2.2.2.2.2.2) HST.out _ _ _ _ HE.out HS.out).mono ?_;rintro e w2 ⟨rfl,b2⟩)
 refine hK.out _ _ ?_ (fun hHeld=>?_)
 ·exact HSk2.out _ (hHeld.2.2.2.2.2.2.2.2.2.2.trans (b2.mono hHeld.2.2.2.2.2.2.2.2.2.2.size))
 clear hK Kc
 refine tn 5 ?_;refine tn 6 ?_
 simp only [Go.Act.put,ps1,ps2,ps3]
 refine wpAnyH_done (by kernel_rfl) ?_ _
 have BF:=hHeld.2.2.2.2.2.2.2.2.2.2
 go_wp2
 go_ret
 exact⟨rfl,BF⟩
def plL(S:Ms)(t:Tr):Nat→List Value
 |0=> [.int .i64 0, .int .i64 0, .int .i64 0, .int .i64 0, .int .i64 0, .int .i64 0]
 |i+1=>((plL S t i).set (i*2) (.int .i64 (plX S t i))).set (i*2+1) (.int .i64 (plY S t i))
theorem plL_len(S:Ms)(t:Tr)(i:Nat):(plL S t i).length=6:=by
 induction i with
 |zero=>rfl
 |succ i ih=>simp [plL,ih]
theorem mPlaceL(base p:Nat)(X:Mx)(S:Ms)(m:Nat)(F:Nat→Prop)(w:World)(h:MeI base p X F w)(hS:MeOk X S)(hk:MsOk S m)(t:Tr)(i:Nat)(hi:i<3)(hv:isV S (t.v i)=true){b:Bool}{u v:Int}(hb:b=plOk S t i)(hu:u=plX S t i)(hv':v=plY S t i):
  Calls Tryz.prog 123 #[ptR p,trV t, .int .i64 (i:Int)] w fun e w'=>e= .returned (.tuple #[.agg #[.int .i64 u, .int .i64 v], .bool b])∧Below w.heap.size w w':=by
 subst hb hu hv'
 exact mPlace base p X S m F w h hS hk t i hi hv
set_option maxRecDepth 100000 in
theorem mAsk3(base p:Nat)(X:Mx)(S:Ms)(m:Nat)(F:Nat→Prop)(w:World)(h:MeI base p X F w)(hS:MeOk X S)(hk:MsOk S m)(t:Tr)(i B1 B2 B3:Nat)(hi:i<3)(hv:isV S (t.v i)=true)(R1:Row w B1 [ptR p])(R2:Row w B2 (trC t))(L:List Value)(hL:L.length=6)(R3:Row w B3 L):
  Calls Tryz.prog 130 #[.int .i64 (i:Int),ptR B1,ptR B2,ptR B3] w fun e w'=>e= .returned (.bool (plOk S t i))∧Row w' B3 ((L.set (i*2) (.int .i64 (plX S t i))).set (i*2+1) (.int .i64 (plY S t i)))∧Keep (fun k=>k=B3) w w':=by
 have l3:B3<w.heap.size:=by
  match L,hL with
  |x::xs,_=>exact R3.lt
 have c1:=R1.cell 0 _ rfl
 have d0:=R2.cell 0 _ rfl
 have d1:=R2.cell 1 _ rfl
 have d2:=R2.cell 2 _ rfl
 have d3:=R2.cell 3 _ rfl
 have d4:=R2.cell 4 _ rfl
 have d5:=R2.cell 5 _ rfl
 have d6:=R2.cell 6 _ rfl
 have d7:=R2.cell 7 _ rfl
 have d8:=R2.cell 8 _ rfl
 have hi':(i:Int)<3:=by omega
 obtain⟨b,hb⟩: ∃ b,b=plOk S t i:=⟨_,rfl⟩
 obtain⟨u,hu⟩: ∃ u,u=plX S t i:=⟨_,rfl⟩
 obtain⟨v,hv'⟩: ∃ v,v=plY S t i:=⟨_,rfl⟩
 rw [←hb,←hu,←hv']
 have HC:Hid _:=mPlaceL base p X S m F w h hS hk t i hi hv hb hu hv'
 clear h hS hk hv R1 R2 hb hu hv'
 go_enter Tryz.func130,Tryz.ntmps130
 go_wp2_with (go_at_call 123;fail)
 refine(Calls.mono HC.out) ?_
 rintro e w1 ⟨rfl,b1⟩
 obtain⟨W,hW⟩: ∃ W,W=w1.alloc (.cells #[.int .i64 u, .int .i64 v] 24):=⟨_,rfl⟩
 have bW:Below w.heap.size w W:=by rw [hW];exact b1.alloc b1.size _
 have RP:Row W w1.heap.size [.int .i64 u, .int .i64 v]:=by rw [hW];exact Row.new w1 _ _
 have hW':=hW.symm
 have R3':=R3.below bW l3
 have g0:=R3'.cell (i*2) _ (List.getElem?_eq_getElem (by omega))
 have g1:=R3'.cell (i*2+1) _ (List.getElem?_eq_getElem (by omega))
 have f0:=R3'.free (i*2) (by omega)
 have f1:=R3'.free (i*2+1) (by omega)
 have p0:=RP.cell 0 _ rfl
 have p1:=RP.cell 1 _ rfl
 clear hW c1 d0 d1 d2 d3 d4 d5 d6 d7 d8 R3
 go_wp2
 go_ret
 exact⟨rfl,(R3'.set (i*2) _ (by omega)).set (i*2+1) _ (by simp;omega),((Keep.of (F:=fun k=>k=B3) bW).set (Or.inl rfl) _).set (Or.inl rfl) _⟩
def PlacesPost(S:Ms)(t:Tr)(w:World)(e:Ending)(w':World):Prop:= ∃ c0 c1 c2 c3 c4 c5:Int, ∃ r:Bool,e= .returned (.tuple #[.agg #[.int .i64 c0, .int .i64 c1, .int .i64 c2, .int .i64 c3, .int .i64 c4, .int .i64 c5], .bool r])∧r=(plOk S t 0 && (plOk S t 1 && plOk S t 2))∧(r=true→c0=plX S t 0∧c1=plY S t 0∧c2=plX S t 1∧c3=plY S t 1∧c4=plX S t 2∧c5=plY S t 2)∧Below w.heap.size w w'
abbrev six(c0 c1 c2 c3 c4 c5:Int):List Value:= [.int .i64 c0, .int .i64 c1, .int .i64 c2, .int .i64 c3, .int .i64 c4, .int .i64 c5]
def PlJ(S:Ms)(t:Tr)(B:Nat)(W:World)(i:Nat)(w':World):Prop:=Keep (fun k=>k=B) W w'∧Row w' B (plL S t i)∧ ∀ j,j<i→plOk S t j=true
def PlN(S:Ms)(t:Tr)(B:Nat)(W:World)(i:Nat)(w':World):Prop:=Keep (fun k=>k=B) W w'∧Row w' B (plL S t (i+1))∧(∀ j,j<i→plOk S t j=true)∧plOk S t i=false
theorem pl_end{S:Ms}{t:Tr}{B:Nat}{W:World}{e:Ending}{w':World}(h:EveryPost (PlJ S t B W) (PlN S t B W) e w'): ∃ c0 c1 c2 c3 c4 c5:Int, ∃ r:Bool,e= .returned (.bool r)∧r=(plOk S t 0 && (plOk S t 1 && plOk S t 2))∧(r=true→c0=plX S t 0∧c1=plY S t 0∧c2=plX S t 1∧c3=plY S t 1∧c4=plX S t 2∧c5=plY S t 2)∧Keep (fun k=>k=B) W w'∧Row w' B (six c0 c1 c2 c3 c4 c5):=by
 rcases h with⟨rfl,hk,hr,ho⟩|⟨rfl,i,hi,hk,hr,ho,hn⟩
 ·exact⟨_,_,_,_,_,_,true,rfl,by rw [ho 0 (by omega),ho 1 (by omega),ho 2 (by omega)];rfl,fun _=>⟨rfl,rfl,rfl,rfl,rfl,rfl⟩,hk,hr⟩
 ·rcases(by omega:i=0∨i=1∨i=2)with rfl|rfl|rfl
  ·exact⟨_,_,_,_,_,_,false,rfl,by rw [hn];rfl,(fun h=>by cases h),hk,hr⟩
  ·exact⟨_,_,_,_,_,_,false,rfl,by rw [hn];cases plOk S t 0<;>rfl,(fun h=>by cases h),hk,hr⟩
  ·exact⟨_,_,_,_,_,_,false,rfl,by rw [hn];cases plOk S t 0<;>cases plOk S t 1<;>rfl,(fun h=>by cases h),hk,hr⟩
set_option maxRecDepth 100000 in
theorem mPlaces(base p:Nat)(X:Mx)(S:Ms)(m:Nat)(F:Nat→Prop)(w:World)(h:MeI base p X F w)(hS:MeOk X S)(hk:MsOk S m)(t:Tr)(hv: ∀ i,i<3→isV S (t.v i)=true):
  Calls Tryz.prog 112 #[ptR p,trV t] w (PlacesPost S t w):=by
 obtain⟨W,hW⟩: ∃ W,W=(((w.alloc (.cells #[ptR p] 27)).alloc (.cells (trC t).toArray 49)).alloc (.cells #[.int .i64 0, .int .i64 0, .int .i64 0, .int .i64 0, .int .i64 0, .int .i64 0] 52)).alloc (.cells #[.int .i64 0, .int .i64 0, .int .i64 0, .int .i64 0, .int .i64 0, .int .i64 0] 52):=⟨_,rfl⟩
 have e1:(w.alloc (.cells #[ptR p] 27)).heap.size=w.heap.size+1:=by simp
 have e2:((w.alloc (.cells #[ptR p] 27)).alloc (.cells (trC t).toArray 49)).heap.size=w.heap.size+2:=by simp
 have e3:(((w.alloc (.cells #[ptR p] 27)).alloc (.cells (trC t).toArray 49)).alloc (.cells #[.int .i64 0, .int .i64 0, .int .i64 0, .int .i64 0, .int .i64 0, .int .i64 0] 52)).heap.size=w.heap.size+3:=by simp
 have BW:Below w.heap.size w W:=by rw [hW];exact((((Below.refl _ _).alloc (Nat.le_refl _) _).alloc (by simp) _).alloc (by simp;omega) _).alloc (by simp;omega) _
 have zW:W.heap.size=w.heap.size+4:=by rw [hW];simp
 have R1:Row W w.heap.size [ptR p]:=by rw [hW];exact(((Row.new w [ptR p] _).alloc _ (by simp)).alloc _ (by simp;omega)).alloc _ (by simp;omega)
 have R2:Row W (w.heap.size+1) (trC t):=by rw [hW];have:=((Row.new (w.alloc (.cells #[ptR p] 27)) (trC t) 49).alloc (.cells #[.int .i64 0, .int .i64 0, .int .i64 0, .int .i64 0, .int .i64 0, .int .i64 0] 52) (by simp)).alloc (.cells #[.int .i64 0, .int .i64 0, .int .i64 0, .int .i64 0, .int .i64 0, .int .i64 0] 52) (by simp);rw [e1]at this;exact this
 have R4:Row W (w.heap.size+2) (six 0 0 0 0 0 0):=by rw [hW];have:=(Row.new ((w.alloc (.cells #[ptR p] 27)).alloc (.cells (trC t).toArray 49)) (six 0 0 0 0 0 0) 52).alloc (.cells #[.int .i64 0, .int .i64 0, .int .i64 0, .int .i64 0, .int .i64 0, .int .i64 0] 52) (by simp);rw [e2]at this;exact this
 have R3:Row W (w.heap.size+3) (plL S t 0):=by rw [hW];have:=Row.new (((w.alloc (.cells #[ptR p] 27)).alloc (.cells (trC t).toArray 49)).alloc (.cells #[.int .i64 0, .int .i64 0, .int .i64 0, .int .i64 0, .int .i64 0, .int .i64 0] 52)) (plL S t 0) 52;rw [e3]at this;exact this
 have hW':(((w.alloc (.cells #[ptR p] 27)).alloc (.cells #[.int .i64 t.v0, .int .i64 t.v1, .int .i64 t.v2, .int .i64 t.x0, .int .i64 t.y0, .int .i64 t.x1, .int .i64 t.y1, .int .i64 t.x2, .int .i64 t.y2] 49)).alloc (.cells #[.int .i64 0, .int .i64 0, .int .i64 0, .int .i64 0, .int .i64 0, .int .i64 0] 52)).alloc (.cells #[.int .i64 0, .int .i64 0, .int .i64 0, .int .i64 0, .int .i64 0, .int .i64 0] 52)=W:=hW.symm
 clear hW e1 e2 e3
 have hne: ∀ k,F k→ ¬k=w.heap.size+3:=fun k f e=>by have:=(h.ft k f).2;omega
 have HE:Hid (Calls Tryz.prog 67 #[.func (.func 130) #[] #[ptR w.heap.size,ptR (w.heap.size+1),ptR (w.heap.size+3)]] W (EveryPost (PlJ S t (w.heap.size+3) W) (PlN S t (w.heap.size+3) W))):=by
  refine mEvery _ _ (enters_of Tryz.func130 (by kernel_rfl) rfl) _ _ W ⟨Keep.refl _ _,R3,fun j hj=>by omega⟩ ?_
  rintro i w1 hi ⟨k1,r1,o1⟩
  refine(mAsk3 base p X S m F w1 ((h.below BW).keep k1 hne) hS hk t i w.heap.size (w.heap.size+1) (w.heap.size+3) hi (hv i hi) (R1.keep k1 (by omega) (by omega)) (R2.keep k1 (by omega) (by omega)) _ (plL_len S t i) r1).mono ?_
  rintro e w2 ⟨rfl,r2,k2⟩
  have k3:Keep (fun k=>k=w.heap.size+3) W w2:=k1.trans k2 (fun k e=>Or.inl e)
  cases hb:plOk S t i with
  |true=>exact Or.inl ⟨rfl,k3,r2,fun j hj=>if e:j=i then by rw [e];exact hb else o1 j (by omega)⟩
  |false=>exact Or.inr ⟨rfl,k3,r2,o1,hb⟩
 clear h hS hk hv hne R1 R2 R3
 go_enter Tryz.func112,Tryz.ntmps112
 go_wp2_with (go_at_call 67;fail)
 refine(Calls.mono HE.out) ?_
 intro e w1 hp
 obtain⟨c0,c1,c2,c3,c4,c5,r,rfl,hr,hc,k1,r1⟩:=pl_end hp
 have HR:Hid _:=hr
 have HC:Hid _:=hc
 have z1:=k1.size
 have b1:Below w.heap.size w w1:=BW.trans (k1.below (by omega) (fun k e=>by omega))
 have R5:=R4.keep k1 (by omega) (by omega)
 clear hW' hp hr hc HE
 have q0:=r1.cell 0 _ rfl
 have q1:=r1.cell 1 _ rfl
 have q2:=r1.cell 2 _ rfl
 have q3:=r1.cell 3 _ rfl
 have q4:=r1.cell 4 _ rfl
 have q5:=r1.cell 5 _ rfl
 have f0:=R5.free 0 (by simp)
 have f1:=R5.free 1 (by simp)
 have f2:=R5.free 2 (by simp)
 have f3:=R5.free 3 (by simp)
 have f4:=R5.free 4 (by simp)
 have f5:=R5.free 5 (by simp)
 have g0:=R5.cell 0 _ rfl
 have g1:=R5.cell 1 _ rfl
 have g2:=R5.cell 2 _ rfl
 have g3:=R5.cell 3 _ rfl
 have g4:=R5.cell 4 _ rfl
 have g5:=R5.cell 5 _ rfl
 go_wp2
 have R6:=(((((R5.set 0 (.int .i64 c0) (by simp)).set 1 (.int .i64 c1) (by simp)).set 2 (.int .i64 c2) (by simp)).set 3 (.int .i64 c3) (by simp)).set 4 (.int .i64 c4) (by simp)).set 5 (.int .i64 c5) (by simp)
 have h0:=R6.cell 0 _ rfl
 have h1:=R6.cell 1 _ rfl
 have h2:=R6.cell 2 _ rfl
 have h3:=R6.cell 3 _ rfl
 have h4:=R6.cell 4 _ rfl
 have h5:=R6.cell 5 _ rfl
 refine bodyPost_ret (v:= .tuple #[.agg #[.int .i64 c0, .int .i64 c1, .int .i64 c2, .int .i64 c3, .int .i64 c4, .int .i64 c5], .bool r]) (by simp [results,Tryz.results112,go_sem, *]) rfl ?_
 have hs2:w.heap.size≤w.heap.size+1+1:=by omega
 exact⟨c0,c1,c2,c3,c4,c5,r,rfl,HR.out,HC.out,(((((b1.setCell hs2 _).setCell hs2 _).setCell hs2 _).setCell hs2 _).setCell hs2 _).setCell hs2 _⟩
theorem pl_can{S:Ms}{t:Tr}{i:Nat}(h:plOk S t i=true):canC (plX S t i) (plY S t i)=true:=by
 unfold plX plY
 rw [h]
 unfold plOk atC at h
 simp only [Bool.and_eq_true]at h
 simp only [if_true]
 unfold canC
 rw [h.2.2.1,h.2.2.2]
 rfl
theorem pl_area{S:Ms}{t:Tr}(h0:plOk S t 0=true)(h1:plOk S t 1=true)(h2:plOk S t 2=true):arP (plX S t 0) (plY S t 0) (plX S t 1) (plY S t 1) (plX S t 2) (plY S t 2)=areaT S t:=by
 unfold arP areaT
 have:canAll [(plX S t 0,plY S t 0),(plX S t 1,plY S t 1),(plX S t 2,plY S t 2)]=true:=by
  simp [canAll,pl_can h0,pl_can h1,pl_can h2]
 rw [this]
 rfl
def tlB(S:Ms)(t:Tr):Bool:=(plOk S t 0 && (plOk S t 1 && plOk S t 2)) && decide ((areaT S t).sign=1)
set_option maxRecDepth 100000 in
theorem mTurns(base p:Nat)(X:Mx)(S:Ms)(m:Nat)(F:Nat→Prop)(w:World)(h:MeI base p X F w)(hS:MeOk X S)(hk:MsOk S m)(t:Tr)(hv: ∀ i,i<3→isV S (t.v i)=true){r:Bool}(hr:r=tlB S t):
  Calls Tryz.prog 70 #[ptR p,trV t] w fun e w'=>e= .returned (.bool r)∧Below w.heap.size w w':=by
 obtain⟨W,hW⟩: ∃ W,W=w.alloc (.cells (trC t).toArray 49):=⟨_,rfl⟩
 have BW:Below w.heap.size w W:=by rw [hW];exact(Below.refl _ _).alloc (Nat.le_refl _) _
 have zW:W.heap.size=w.heap.size+1:=by rw [hW];simp
 have hW':w.alloc (.cells #[.int .i64 t.v0, .int .i64 t.v1, .int .i64 t.v2, .int .i64 t.x0, .int .i64 t.y0, .int .i64 t.x1, .int .i64 t.y1, .int .i64 t.x2, .int .i64 t.y2] 49)=W:=hW.symm
 have HP:Hid _:=mPlaces base p X S m F W (h.below BW) hS hk t hv
 have R0:Row W w.heap.size (trC t):=by rw [hW];exact Row.new w (trC t) _
 have c0:=R0.cell 0 _ rfl
 have c1:=R0.cell 1 _ rfl
 have c2:=R0.cell 2 _ rfl
 have c3:=R0.cell 3 _ rfl
 have c4:=R0.cell 4 _ rfl
 have c5:=R0.cell 5 _ rfl
 have c6:=R0.cell 6 _ rfl
 have c7:=R0.cell 7 _ rfl
 have c8:=R0.cell 8 _ rfl
 have HR:Hid _:=hr
 clear hW h hS hk hv hr
 go_enter Tryz.func70,Tryz.ntmps70
 go_wp2_with (go_at_call 112;fail)
 refine(Calls.mono HP.out) ?_
 clear c0 c1 c2 c3 c4 c5 c6 c7 c8
 rintro e w1 ⟨c0,c1,c2,c3,c4,c5,s,rfl,hs,hc,b1⟩
 have B1:Below w.heap.size w w1:=BW.trans (b1.mono (by omega))
 clear hW' HP
 cases s with
 |false=>
  obtain rfl:r=false:=by rw [HR.out];unfold tlB;rw [←hs];rfl
  clear hs hc
  obtain⟨W2,hW2⟩: ∃ W2,w1.alloc (.cells #[.int .i64 c0, .int .i64 c1, .int .i64 c2, .int .i64 c3, .int .i64 c4, .int .i64 c5] 52)=W2:=⟨_,rfl⟩
  have B2:Below w.heap.size w W2:=by rw [←hW2];exact B1.alloc B1.size _
  go_wp2
  go_ret
  exact⟨rfl,B2⟩
 |true=>
  obtain⟨rfl,rfl,rfl,rfl,rfl,rfl⟩:=hc rfl
  have ho:plOk S t 0=true∧plOk S t 1=true∧plOk S t 2=true:=by simpa using hs.symm
  obtain⟨g,HG⟩: ∃ g,Hid (g=(arP (plX S t 0) (plY S t 0) (plX S t 1) (plY S t 1) (plX S t 2) (plY S t 2)).sign):=⟨_,rfl⟩
  have HR2:Hid (r=decide (g=1)):=by unfold Hid;rw [HR.out,HG.out,pl_area ho.1 ho.2.1 ho.2.2];unfold tlB;rw [←hs];rfl
  clear hs hc ho HR
  generalize plX S t 0=X0 at HG ⊢
  generalize plX S t 1=X1 at HG ⊢
  generalize plX S t 2=X2 at HG ⊢
  generalize plY S t 0=Y0 at HG ⊢
  generalize plY S t 1=Y1 at HG ⊢
  generalize plY S t 2=Y2 at HG ⊢
  obtain⟨W2,hW2⟩: ∃ W2,w1.alloc (.cells #[.int .i64 X0, .int .i64 Y0, .int .i64 X1, .int .i64 Y1, .int .i64 X2, .int .i64 Y2] 52)=W2:=⟨_,rfl⟩
  have B2:Below w.heap.size w W2:=by rw [←hW2];exact B1.alloc B1.size _
  have R2:Row W2 w1.heap.size (six X0 Y0 X1 Y1 X2 Y2):=by rw [←hW2];exact Row.new w1 (six X0 Y0 X1 Y1 X2 Y2) _
  have q0:=R2.cell 0 _ rfl
  have q1:=R2.cell 1 _ rfl
  have q2:=R2.cell 2 _ rfl
  have q3:=R2.cell 3 _ rfl
  have q4:=R2.cell 4 _ rfl
  have q5:=R2.cell 5 _ rfl
  go_wp2_with (go_at_call 105;fail)
  refine(pOrient X0 Y0 X1 Y1 X2 Y2 _ HG.out).mono ?_
  rintro e w2 ⟨rfl,b2⟩
  have B3:Below w.heap.size w w2:=B2.trans (b2.mono B2.size)
  clear q0 q1 q2 q3 q4 q5 hW2
  by_cases hg:g=1
  ·subst hg
   obtain rfl:r=true:=HR2.out.trans (decide_eq_true rfl)
   go_wp2
   go_ret
   exact⟨rfl,B3⟩
  ·obtain rfl:r=false:=HR2.out.trans (decide_eq_false hg)
   have hg':(g==1)=false:=by simpa using hg
   go_wp2
   go_ret
   exact⟨rfl,B3⟩
theorem infoX:(Tryz.prog.info? 138).map (fun i=>(i.zero,i.size,i.bytes))=some (some (.agg #[.int .i64 0, .int .i64 0, .int .i64 0, .int .i64 0, .map none]),5,40):=by kernel_rfl
theorem infoT:(Tryz.prog.info? 49).map (fun i=>(i.zero,i.size,i.bytes))=some (some (.agg #[.int .i64 0, .int .i64 0, .int .i64 0, .int .i64 0, .int .i64 0, .int .i64 0, .int .i64 0, .int .i64 0, .int .i64 0]),9,72):=by kernel_rfl
theorem OwnS.setc{w:World}{base n cap s g:Nat}{T:TypeId}{xs:List Value}(h:OwnS w base T s (some ⟨g,0,none⟩) n cap xs){i:Nat}(hi:i<n*s)(v:Value):OwnS (w.setCell ⟨g,i,none⟩ v) base T s (some ⟨g,0,none⟩) n cap (xs.set i v):=by
 have hn:0<n:=by rcases Nat.eq_zero_or_pos n with e|e;(subst e;simp at hi);exact e
 obtain⟨b,hb,_,_,hseg⟩:=h.at hn
 cases hb
 have hs:=hseg.set i v (by have:=h.len;omega)
 rw [Nat.zero_add]at hs
 have hw:=(Wr.refl w g 0 (n*s)).set v (Nat.zero_le _) hi
 obtain⟨hl,⟨h1,_⟩|⟨g',cap',cur,hv,hb',hg,h1,h2,h3,h4⟩⟩:=h
 ·cases h1
 ·cases hv
  obtain⟨c',e,sz,ho⟩:=hw.cells _ _ _ hg
  refine⟨by rw [List.length_set];exact hl,Or.inr ⟨g,cap,c',rfl,hb',e,h1,h2,by omega,?_⟩⟩
  refine List.ext_getElem? fun j=>?_
  rw [List.getElem?_take]
  by_cases hj:j<n*s
  ·rw [if_pos hj]
   obtain⟨u,hu⟩: ∃ u,(xs.set i v)[j]? =some u:=⟨_,List.getElem?_eq_getElem (by rw [List.length_set];omega)⟩
   have:=(hs j u hu).1
   simp only [Nat.zero_add]at this
   simp [World.cell?,e]at this
   rw [Array.getElem?_toList,this,hu]
  ·rw [if_neg hj,List.getElem?_eq_none (by rw [List.length_set];omega)]
set_option maxRecDepth 100000 in
theorem mPutV_new(base:Nat)(a:Option Addr)(n c:Nat)(xs:List Value)(w:World)(hO:OwnS w base 138 5 a n c xs)(hn:n≤1000)(hb:base≤w.heap.size)(x0 x1 x2 x3:Int)(mv:Option Nat){k:Int}(hk:k=(n:Int)):
  Calls Tryz.prog 66 #[.slice a n c, .int .i64 k, .agg #[.int .i64 x0, .int .i64 x1, .int .i64 x2, .int .i64 x3, .map mv]] w fun e w'=> ∃ (a':Option Addr) (c':Nat),e= .returned (.slice a' (n+1) c')∧OwnS w' base 138 5 a' (n+1) c' (xs++ [.int .i64 x0, .int .i64 x1, .int .i64 x2, .int .i64 x3, .map mv])∧(∀ q,Slot a' q→Slot a q∨w.heap.size≤q)∧Keep (Slot a) w w':=by
 subst hk
 obtain⟨i0,hi0,hz0,hz1,hz2⟩:=info_of infoX
 obtain⟨W,hW⟩: ∃ W,W=w.alloc (.cells #[.int .i64 x0, .int .i64 x1, .int .i64 x2, .int .i64 x3, .map mv] 138):=⟨_,rfl⟩
 have BW:Below w.heap.size w W:=by rw [hW];exact(Below.refl _ _).alloc (Nat.le_refl _) _
 have HZ:Hid (W.heap.size=w.heap.size+1):=by unfold Hid;rw [hW];simp
 have R0:Row W w.heap.size [.int .i64 x0, .int .i64 x1, .int .i64 x2, .int .i64 x3, .map mv]:=by rw [hW];exact Row.new w [.int .i64 x0, .int .i64 x1, .int .i64 x2, .int .i64 x3, .map mv] _
 have B2:Below w.heap.size w (W.alloc (.cells #[.int .i64 x0, .int .i64 x1, .int .i64 x2, .int .i64 x3, .map mv] 138)):=BW.alloc BW.size _
 have hO2:=hO.below B2
 have NW:=news_new W [.int .i64 x0, .int .i64 x1, .int .i64 x2, .int .i64 x3, .map mv] 138
 have hW':=hW.symm
 have c0:=R0.cell 0 _ rfl
 have c1:=R0.cell 1 _ rfl
 have c2:=R0.cell 2 _ rfl
 have c3:=R0.cell 3 _ rfl
 have c4:=R0.cell 4 _ rfl
 have hcap:n+1≤maxLen:=by unfold maxLen;omega
 have HO:Hid _:=hO
 clear hW hO
 go_enter Tryz.func66,Tryz.ntmps66
 go_wp2_with (at_builtin;refine app_atS _ rfl (.tmp 11) (.tmp 13) 105 rfl base 138 i0 _ 5 40 Tryz.underlying105 hi0 hz0 hz1 hz2 rfl (by decide) a n c xs rfl hO2 ⟨W.heap.size,0,none⟩ 1 1 [.int .i64 x0, .int .i64 x1, .int .i64 x2, .int .i64 x3, .map mv] rfl rfl NW (by simp [Value.oneCell']) hcap (by omega) (by have:=HZ.out;simp;omega) ?_;intro a3 c3 w3 h3 g3 s3)
 go_ret
 refine⟨a3,c3,rfl,h3,(fun q s=>(s3 q s).imp id (fun e=>by have:=HZ.out;simp at e;omega)),?_⟩
 exact(Keep.of B2).grown g3 (fun q e=>Or.inl (OwnS.slot HO.out e))
set_option maxRecDepth 100000 in
theorem mPutV_old(base g n c:Nat)(xs:List Value)(w:World)(hO:OwnS w base 138 5 (some ⟨g,0,none⟩) n c xs)(k:Nat)(hk:k<n)(x0 x1 x2 x3:Int)(mv:Option Nat){k':Int}(hk':k'=(k:Int)):
  Calls Tryz.prog 66 #[.slice (some ⟨g,0,none⟩) n c, .int .i64 k', .agg #[.int .i64 x0, .int .i64 x1, .int .i64 x2, .int .i64 x3, .map mv]] w fun e w'=>e= .returned (.slice (some ⟨g,0,none⟩) n c)∧OwnS w' base 138 5 (some ⟨g,0,none⟩) n c ((((((xs.set (k*5) (.int .i64 x0)).set (k*5+1) (.int .i64 x1)).set (k*5+2) (.int .i64 x2)).set (k*5+3) (.int .i64 x3)).set (k*5+4) (.map mv)))∧Keep (Slot (some ⟨g,0,none⟩)) w w':=by
 subst hk'
 obtain⟨b,hb,hg,_,hseg⟩:=hO.at (by omega)
 cases hb
 obtain⟨W,hW⟩: ∃ W,W=w.alloc (.cells #[.int .i64 x0, .int .i64 x1, .int .i64 x2, .int .i64 x3, .map mv] 138):=⟨_,rfl⟩
 have BW:Below w.heap.size w W:=by rw [hW];exact(Below.refl _ _).alloc (Nat.le_refl _) _
 have HZ:Hid (W.heap.size=w.heap.size+1):=by unfold Hid;rw [hW];simp
 have R0:Row W w.heap.size [.int .i64 x0, .int .i64 x1, .int .i64 x2, .int .i64 x3, .map mv]:=by rw [hW];exact Row.new w [.int .i64 x0, .int .i64 x1, .int .i64 x2, .int .i64 x3, .map mv] _
 have hO2:=hO.below BW
 have hs2:=hseg.below BW hg
 have hl:=hO.len
 have hW':=hW.symm
 have c0:=R0.cell 0 _ rfl
 have c1:=R0.cell 1 _ rfl
 have c2:=R0.cell 2 _ rfl
 have c3:=R0.cell 3 _ rfl
 have c4:=R0.cell 4 _ rfl
 have g0:=hs2.cell (k*5+0) _ (List.getElem?_eq_getElem (by omega))
 have f0:=hs2.free (k*5+0) (by omega)
 have g1:=hs2.cell (k*5+1) _ (List.getElem?_eq_getElem (by omega))
 have f1:=hs2.free (k*5+1) (by omega)
 have g2:=hs2.cell (k*5+2) _ (List.getElem?_eq_getElem (by omega))
 have f2:=hs2.free (k*5+2) (by omega)
 have g3:=hs2.cell (k*5+3) _ (List.getElem?_eq_getElem (by omega))
 have f3:=hs2.free (k*5+3) (by omega)
 have g4:=hs2.cell (k*5+4) _ (List.getElem?_eq_getElem (by omega))
 have f4:=hs2.free (k*5+4) (by omega)
 simp only [Nat.zero_add,Nat.add_zero]at g0 f0 g1 f1 g2 f2 g3 f3 g4 f4
 have hne: ¬(k:Int)=(n:Int):=by omega
 have hne':((k:Int)==(n:Int))=false:=by simpa using hne
 have hlt:(k:Int)<(n:Int):=by omega
 clear hW hO hseg hs2
 go_enter Tryz.func66,Tryz.ntmps66
 go_wp2
 go_ret
 have r:=(((((hO2.setc (i:=k*5) (by omega) (.int .i64 x0)).setc (i:=k*5+1) (by omega) (.int .i64 x1)).setc (i:=k*5+2) (by omega) (.int .i64 x2)).setc (i:=k*5+3) (by omega) (.int .i64 x3)).setc (i:=k*5+4) (by omega) (.map mv))
 refine⟨rfl,r,?_⟩
 exact((((((Keep.of (F:=Slot (some ⟨g,0,none⟩)) BW).set (Or.inl ⟨0,rfl⟩) _).set (Or.inl ⟨0,rfl⟩) _).set (Or.inl ⟨0,rfl⟩) _).set (Or.inl ⟨0,rfl⟩) _).set (Or.inl ⟨0,rfl⟩) _)
set_option maxRecDepth 100000 in
theorem mPutT_new(base:Nat)(a:Option Addr)(n c:Nat)(xs:List Value)(w:World)(hO:OwnS w base 49 9 a n c xs)(hn:n≤1000)(hb:base≤w.heap.size)(x0 x1 x2 x3 x4 x5 x6 x7 x8:Int){k:Int}(hk:k=(n:Int)):
  Calls Tryz.prog 74 #[.slice a n c, .int .i64 k, .agg #[.int .i64 x0, .int .i64 x1, .int .i64 x2, .int .i64 x3, .int .i64 x4, .int .i64 x5, .int .i64 x6, .int .i64 x7, .int .i64 x8]] w fun e w'=> ∃ (a':Option Addr) (c':Nat),e= .returned (.slice a' (n+1) c')∧OwnS w' base 49 9 a' (n+1) c' (xs++ [.int .i64 x0, .int .i64 x1, .int .i64 x2, .int .i64 x3, .int .i64 x4, .int .i64 x5, .int .i64 x6, .int .i64 x7, .int .i64 x8])∧(∀ q,Slot a' q→Slot a q∨w.heap.size≤q)∧Keep (Slot a) w w':=by
 subst hk
 obtain⟨i0,hi0,hz0,hz1,hz2⟩:=info_of infoT
 obtain⟨W,hW⟩: ∃ W,W=w.alloc (.cells #[.int .i64 x0, .int .i64 x1, .int .i64 x2, .int .i64 x3, .int .i64 x4, .int .i64 x5, .int .i64 x6, .int .i64 x7, .int .i64 x8] 49):=⟨_,rfl⟩
 have BW:Below w.heap.size w W:=by rw [hW];exact(Below.refl _ _).alloc (Nat.le_refl _) _
 have HZ:Hid (W.heap.size=w.heap.size+1):=by unfold Hid;rw [hW];simp
 have R0:Row W w.heap.size [.int .i64 x0, .int .i64 x1, .int .i64 x2, .int .i64 x3, .int .i64 x4, .int .i64 x5, .int .i64 x6, .int .i64 x7, .int .i64 x8]:=by rw [hW];exact Row.new w [.int .i64 x0, .int .i64 x1, .int .i64 x2, .int .i64 x3, .int .i64 x4, .int .i64 x5, .int .i64 x6, .int .i64 x7, .int .i64 x8] _
 have B2:Below w.heap.size w (W.alloc (.cells #[.int .i64 x0, .int .i64 x1, .int .i64 x2, .int .i64 x3, .int .i64 x4, .int .i64 x5, .int .i64 x6, .int .i64 x7, .int .i64 x8] 49)):=BW.alloc BW.size _
 have hO2:=hO.below B2
 have NW:=news_new W [.int .i64 x0, .int .i64 x1, .int .i64 x2, .int .i64 x3, .int .i64 x4, .int .i64 x5, .int .i64 x6, .int .i64 x7, .int .i64 x8] 49
 have hW':=hW.symm
 have c0:=R0.cell 0 _ rfl
 have c1:=R0.cell 1 _ rfl
 have c2:=R0.cell 2 _ rfl
 have c3:=R0.cell 3 _ rfl
 have c4:=R0.cell 4 _ rfl
 have c5:=R0.cell 5 _ rfl
 have c6:=R0.cell 6 _ rfl
 have c7:=R0.cell 7 _ rfl
 have c8:=R0.cell 8 _ rfl
 have hcap:n+1≤maxLen:=by unfold maxLen;omega
 have HO:Hid _:=hO
 clear hW hO
 go_enter Tryz.func74,Tryz.ntmps74
 go_wp2_with (at_builtin;refine app_atS _ rfl (.tmp 11) (.tmp 13) 43 rfl base 49 i0 _ 9 72 Tryz.underlying43 hi0 hz0 hz1 hz2 rfl (by decide) a n c xs rfl hO2 ⟨W.heap.size,0,none⟩ 1 1 [.int .i64 x0, .int .i64 x1, .int .i64 x2, .int .i64 x3, .int .i64 x4, .int .i64 x5, .int .i64 x6, .int .i64 x7, .int .i64 x8] rfl rfl NW (by simp [Value.oneCell']) hcap (by omega) (by have:=HZ.out;simp;omega) ?_;intro a3 c3 w3 h3 g3 s3)
 go_ret
 refine⟨a3,c3,rfl,h3,(fun q s=>(s3 q s).imp id (fun e=>by have:=HZ.out;simp at e;omega)),?_⟩
 exact(Keep.of B2).grown g3 (fun q e=>Or.inl (OwnS.slot HO.out e))
set_option maxRecDepth 100000 in
theorem mPutT_old(base g n c:Nat)(xs:List Value)(w:World)(hO:OwnS w base 49 9 (some ⟨g,0,none⟩) n c xs)(k:Nat)(hk:k<n)(x0 x1 x2 x3 x4 x5 x6 x7 x8:Int){k':Int}(hk':k'=(k:Int)):
  Calls Tryz.prog 74 #[.slice (some ⟨g,0,none⟩) n c, .int .i64 k', .agg #[.int .i64 x0, .int .i64 x1, .int .i64 x2, .int .i64 x3, .int .i64 x4, .int .i64 x5, .int .i64 x6, .int .i64 x7, .int .i64 x8]] w fun e w'=>e= .returned (.slice (some ⟨g,0,none⟩) n c)∧OwnS w' base 49 9 (some ⟨g,0,none⟩) n c ((((((((((xs.set (k*9) (.int .i64 x0)).set (k*9+1) (.int .i64 x1)).set (k*9+2) (.int .i64 x2)).set (k*9+3) (.int .i64 x3)).set (k*9+4) (.int .i64 x4)).set (k*9+5) (.int .i64 x5)).set (k*9+6) (.int .i64 x6)).set (k*9+7) (.int .i64 x7)).set (k*9+8) (.int .i64 x8)))∧Keep (Slot (some ⟨g,0,none⟩)) w w':=by
 subst hk'
 obtain⟨b,hb,hg,_,hseg⟩:=hO.at (by omega)
 cases hb
 obtain⟨W,hW⟩: ∃ W,W=w.alloc (.cells #[.int .i64 x0, .int .i64 x1, .int .i64 x2, .int .i64 x3, .int .i64 x4, .int .i64 x5, .int .i64 x6, .int .i64 x7, .int .i64 x8] 49):=⟨_,rfl⟩
 have BW:Below w.heap.size w W:=by rw [hW];exact(Below.refl _ _).alloc (Nat.le_refl _) _
 have HZ:Hid (W.heap.size=w.heap.size+1):=by unfold Hid;rw [hW];simp
 have R0:Row W w.heap.size [.int .i64 x0, .int .i64 x1, .int .i64 x2, .int .i64 x3, .int .i64 x4, .int .i64 x5, .int .i64 x6, .int .i64 x7, .int .i64 x8]:=by rw [hW];exact Row.new w [.int .i64 x0, .int .i64 x1, .int .i64 x2, .int .i64 x3, .int .i64 x4, .int .i64 x5, .int .i64 x6, .int .i64 x7, .int .i64 x8] _
 have hO2:=hO.below BW
 have hs2:=hseg.below BW hg
 have hl:=hO.len
 have hW':=hW.symm
 have c0:=R0.cell 0 _ rfl
 have c1:=R0.cell 1 _ rfl
 have c2:=R0.cell 2 _ rfl
 have c3:=R0.cell 3 _ rfl
 have c4:=R0.cell 4 _ rfl
 have c5:=R0.cell 5 _ rfl
 have c6:=R0.cell 6 _ rfl
 have c7:=R0.cell 7 _ rfl
 have c8:=R0.cell 8 _ rfl
 have g0:=hs2.cell (k*9+0) _ (List.getElem?_eq_getElem (by omega))
 have f0:=hs2.free (k*9+0) (by omega)
 have g1:=hs2.cell (k*9+1) _ (List.getElem?_eq_getElem (by omega))
 have f1:=hs2.free (k*9+1) (by omega)
 have g2:=hs2.cell (k*9+2) _ (List.getElem?_eq_getElem (by omega))
 have f2:=hs2.free (k*9+2) (by omega)
 have g3:=hs2.cell (k*9+3) _ (List.getElem?_eq_getElem (by omega))
 have f3:=hs2.free (k*9+3) (by omega)
 have g4:=hs2.cell (k*9+4) _ (List.getElem?_eq_getElem (by omega))
 have f4:=hs2.free (k*9+4) (by omega)
 have g5:=hs2.cell (k*9+5) _ (List.getElem?_eq_getElem (by omega))
 have f5:=hs2.free (k*9+5) (by omega)
 have g6:=hs2.cell (k*9+6) _ (List.getElem?_eq_getElem (by omega))
 have f6:=hs2.free (k*9+6) (by omega)
 have g7:=hs2.cell (k*9+7) _ (List.getElem?_eq_getElem (by omega))
 have f7:=hs2.free (k*9+7) (by omega)
 have g8:=hs2.cell (k*9+8) _ (List.getElem?_eq_getElem (by omega))
 have f8:=hs2.free (k*9+8) (by omega)
 simp only [Nat.zero_add,Nat.add_zero]at g0 f0 g1 f1 g2 f2 g3 f3 g4 f4 g5 f5 g6 f6 g7 f7 g8 f8
 have hne: ¬(k:Int)=(n:Int):=by omega
 have hne':((k:Int)==(n:Int))=false:=by simpa using hne
 have hlt:(k:Int)<(n:Int):=by omega
 clear hW hO hseg hs2
 go_enter Tryz.func74,Tryz.ntmps74
 go_wp2
 go_ret
 have r:=(((((((((hO2.setc (i:=k*9) (by omega) (.int .i64 x0)).setc (i:=k*9+1) (by omega) (.int .i64 x1)).setc (i:=k*9+2) (by omega) (.int .i64 x2)).setc (i:=k*9+3) (by omega) (.int .i64 x3)).setc (i:=k*9+4) (by omega) (.int .i64 x4)).setc (i:=k*9+5) (by omega) (.int .i64 x5)).setc (i:=k*9+6) (by omega) (.int .i64 x6)).setc (i:=k*9+7) (by omega) (.int .i64 x7)).setc (i:=k*9+8) (by omega) (.int .i64 x8))
 refine⟨rfl,r,?_⟩
 exact((((((((((Keep.of (F:=Slot (some ⟨g,0,none⟩)) BW).set (Or.inl ⟨0,rfl⟩) _).set (Or.inl ⟨0,rfl⟩) _).set (Or.inl ⟨0,rfl⟩) _).set (Or.inl ⟨0,rfl⟩) _).set (Or.inl ⟨0,rfl⟩) _).set (Or.inl ⟨0,rfl⟩) _).set (Or.inl ⟨0,rfl⟩) _).set (Or.inl ⟨0,rfl⟩) _).set (Or.inl ⟨0,rfl⟩) _)
theorem vxC_lt{a:Vt}{b j:Nat}{u:Value}(h:(vxC a b)[j]? =some u):j<5:=(List.getElem?_eq_some_iff.1 h).1
theorem trC_lt{t:Tr}{j:Nat}{u:Value}(h:(trC t)[j]? =some u):j<9:=(List.getElem?_eq_some_iff.1 h).1
def over(xs:List Value)(o:Nat)(news:List Value):List Value:=xs.take o++(news++xs.drop (o+news.length))
theorem over_in{xs news:List Value}{o j:Nat}(h:o+news.length≤xs.length)(hj:j<news.length):(over xs o news)[o+j]? =news[j]? :=by
 unfold over
 rw [List.getElem?_append_right (by rw [List.length_take];omega),List.length_take,show o+j- min o xs.length=j by omega,List.getElem?_append_left hj]
theorem over_out{xs news:List Value}{o j:Nat}(h:o+news.length≤xs.length)(hj:j<o∨o+news.length≤j):(over xs o news)[j]? =xs[j]? :=by
 unfold over
 rcases hj with hj|hj
 ·rw [List.getElem?_append_left (by rw [List.length_take];omega),List.getElem?_take_of_lt hj]
 ·rw [List.getElem?_append_right (by rw [List.length_take];omega),List.length_take,List.getElem?_append_right (by omega),List.getElem?_drop]
  congr 1
  omega
theorem over_length{xs news:List Value}{o:Nat}(h:o+news.length≤xs.length):(over xs o news).length=xs.length:=by
 unfold over
 simp
 omega
theorem set_over1(xs:List Value)(o:Nat)(x:Value)(h:o<xs.length):xs.set o x=over xs o [x]:=by
 apply List.ext_getElem?
 intro j
 by_cases e:j=o
 ·subst e
  rw [List.getElem?_set_self h]
  have:=over_in (xs:=xs) (news:= [x]) (o:=j) (j:=0) (by simp;omega) (by simp)
  rw [Nat.add_zero]at this
  rw [this]
  rfl
 ·rw [List.getElem?_set_ne (fun h=>e h.symm),over_out (by simp;omega) (by simp;omega)]
theorem over_set(xs news:List Value)(o:Nat)(x:Value)(h:o+news.length<xs.length):(over xs o news).set (o+news.length) x=over xs o (news++ [x]):=by
 apply List.ext_getElem?
 intro j
 by_cases e:j=o+news.length
 ·subst e
  rw [List.getElem?_set_self (by rw [over_length (by omega)];omega),over_in (by simp;omega) (by simp)]
  simp
 ·rw [List.getElem?_set_ne (fun h=>e h.symm)]
  by_cases h1:j<o
  ·rw [over_out (by omega) (Or.inl h1),over_out (by simp;omega) (Or.inl h1)]
  ·by_cases h2:j<o+news.length
   ·obtain⟨i,rfl⟩: ∃ i,j=o+i:=⟨j- o,by omega⟩
    rw [over_in (by omega) (by omega),over_in (by simp;omega) (by simp;omega),List.getElem?_append_left (by omega)]
   ·rw [over_out (by omega) (by omega),over_out (by simp;omega) (by simp;omega)]
structure PutE(s:Nat)(xs xs':List Value)(n k:Nat)(news:List Value):Prop where
 here: ∀ j u,news[j]? =some u→xs'[k*s+j]? =some u
 else_: ∀ i j u,i≠k→j<s→xs[i*s+j]? =some u→xs'[i*s+j]? =some u
theorem put_new{s n:Nat}{xs news:List Value}(hx:xs.length=n*s):PutE s xs (xs++news) n n news:=by
 refine⟨fun j u hu=>?_,fun i j u hi hj hu=>?_⟩
 ·rw [List.getElem?_append_right (by omega),hx,show n*s+j- n*s=j by omega]
  exact hu
 ·rw [List.getElem?_append_left (List.getElem?_eq_some_iff.1 hu).1]
  exact hu
theorem put_old{s n k:Nat}{xs news:List Value}(hx:xs.length=n*s)(hn:news.length=s)(hk:k<n):PutE s xs (over xs (k*s) news) n k news:=by
 have h1:k*s+s≤n*s:=by have:=Nat.mul_le_mul_right s (show k+1≤n from hk);rw [Nat.add_mul]at this;omega
 refine⟨fun j u hu=>?_,fun i j u hi hj hu=>?_⟩
 ·rw [over_in (by omega) (List.getElem?_eq_some_iff.1 hu).1]
  exact hu
 ·rw [over_out (by omega) ?_]
  ·exact hu
  ·rcases Nat.lt_or_gt_of_ne hi with e|e
   ·left
    have:=Nat.mul_le_mul_right s (show i+1≤k from e)
    rw [Nat.add_mul]at this
    omega
   ·right
    have:=Nat.mul_le_mul_right s (show k+1≤i from e)
    rw [Nat.add_mul]at this
    omega
theorem around_none{S:Ms}{m:Nat}(hk:MsOk S m){v:Int}(hv:isV S v=false):around S.C v= []:=by
 unfold around
 rw [List.map_eq_nil_iff,List.filter_eq_nil_iff]
 intro c hc hh
 have h0:=hk.fi c hc 0 (by omega)
 have h1:=hk.fi c hc 1 (by omega)
 have h2:=hk.fi c hc 2 (by omega)
 rcases of_decide_eq_true hh with e|e|e
 ·rw [show c.t.v 0=c.t.v0 from rfl,e,hv]at h0;cases h0
 ·rw [show c.t.v 1=c.t.v1 from rfl,e,hv]at h1;cases h1
 ·rw [show c.t.v 2=c.t.v2 from rfl,e,hv]at h2;cases h2
theorem num_new{S:Ms}{m:Nat}(hk:MsOk S m):isV S S.av.num=false:=by
 cases h:isV S S.av.num with
 |false=>rfl
 |true=>
  have:=hk.live.2 h
  exact absurd this hk.va.take.2
theorem num_range{A:Ar}(h:ArOk A.L A.B A.T):0≤A.num∧((A.num=(A.T:Int)∧A.took.T=A.T+1)∨(A.num<(A.T:Int)∧A.took.T=A.T)):=by
 obtain⟨L,B,T⟩:=A
 rcases nil_or_last B with rfl|⟨B',x,rfl⟩
 ·exact⟨by show(0:Int)≤(T:Int);omega,Or.inl ⟨rfl,rfl⟩⟩
 ·have hr:=h.rg x (List.mem_append_right _ (by simp))
  have e:Ar.num ⟨L,B'++ [x],T⟩=x:=tkN_last B' x T
  have e2:(Ar.took ⟨L,B'++ [x],T⟩).T=T:=tkT_last B' x T
  rw [e,e2]
  exact⟨hr.1,Or.inr ⟨hr.2,rfl⟩⟩
theorem MeOk.addV{X X':Mx}{S:Ms}{m:Nat}(h:MeOk X S)(hk:MsOk S m){x y id:Int}{mb nv':Nat}(v:Nat)(hv:S.av.num=(v:Int))(hp:PutE 5 X.xs X'.xs X.nv v (vxC ⟨S.av.num,x,y,id⟩ mb))
  (e1:X'.n=X.n) (e2:X'.av=S.av.took) (e3:X'.af=X.af) (e4:X'.nv=S.av.took.T) (e5:X'.nf=X.nf) (e6:X'.Lv=fun u=>u=S.av.num∨(u≠S.av.num∧X.Lv u)) (e7:X'.M=fun u=>if u=S.av.num then mb else X.M u) (e8:X'.ys=X.ys) (e9:X'.ge=X.ge) (e10:X'.gf=fun u=>if u=S.av.num then fun _=>none else X.gf u):MeOk X' (S.addV x y id):=by
 have hn:=num_new hk
 have hne: ∀ a∈S.V,a.no≠S.av.num:=fun a ha e=>by
  have:isV S a.no=true:=isV_iff.2 ⟨a,ha,rfl⟩
  rw [e,hn]at this
  cases this
 refine⟨e1.trans h.n,e2,e3.trans h.af,e4,e5.trans h.nf,?_,?_,?_,?_,?_,?_⟩
 ·intro u
  rw [e6,isV_iff]
  constructor
  ·rintro(rfl|⟨_,hu⟩)
   ·exact⟨_,insBy_mem.2 (Or.inl rfl),rfl⟩
   ·obtain⟨a,ha,rfl⟩:=isV_iff.1 ((h.Lv u).1 hu)
    exact⟨a,insBy_mem.2 (Or.inr ha),rfl⟩
  ·rintro⟨a,ha,rfl⟩
   rcases insBy_mem.1 ha with rfl|ha
   ·exact Or.inl rfl
   ·exact Or.inr ⟨hne a ha,(h.Lv _).2 (isV_iff.2 ⟨a,ha,rfl⟩)⟩
 ·intro a ha j u hu
  rcases insBy_mem.1 ha with rfl|ha
  ·rw [e7]at hu
   simp only [if_true]at hu
   have:=hp.here j u hu
   show X'.xs[S.av.num.toNat*5+j]? =some u
   rw [hv]
   exact this
  ·rw [e7]at hu
   simp only [if_neg (hne a ha)]at hu
   refine hp.else_ _ j u ?_ (vxC_lt hu) (h.vs a ha j u hu)
   have h1:=hne a ha
   have h2:=(hk.vmem ha).2.1
   rw [hv]at h1
   omega
 ·intro c hc j u hu
  rw [e8]
  exact h.fs c hc j u hu
 ·intro c hc i hi
  rw [e9]
  exact h.ge1 c hc i hi
 ·intro e he
  rw [e9]at he
  exact h.ge2 e he
 ·intro a ha f
  rw [e10]
  rcases insBy_mem.1 ha with rfl|ha
  ·show(if S.av.num=S.av.num then fun _=>none else X.gf S.av.num) f≠none↔f∈around S.C S.av.num
   rw [if_pos rfl,around_none hk hn]
   simp
  ·show(if a.no=S.av.num then fun _=>none else X.gf a.no) f≠none↔f∈around S.C a.no
   rw [if_neg (hne a ha)]
   exact h.gf a ha f
theorem cut_mem{S:Ms}(hs:S.V.Pairwise (fun a b=>a.no<b.no)){i:Nat}{a:Vt}(ha:S.V[i]? =some a){b:Vt}(hb:b∈cut S.V i):b∈S.V∧b.no≠a.no:=by
 refine⟨(cut_sub S.V i).subset hb,fun e=>?_⟩
 have h1:=(cut_perm ha).pairwise_iff (R:=fun a b:Vt=>a.no≠b.no) (fun{x y} h=>h.symm)
 have h2:=h1.2 (hs.imp (fun{x y} h=>by omega))
 exact(List.pairwise_cons.1 h2).1 b hb e.symm
theorem cutC_mem{S:Ms}(hs:S.C.Pairwise (fun a b=>a.no<b.no)){i:Nat}{a:Ce}(ha:S.C[i]? =some a){b:Ce}(hb:b∈cut S.C i):b∈S.C∧b.no≠a.no:=by
 refine⟨(cut_sub S.C i).subset hb,fun e=>?_⟩
 have h1:=(cut_perm ha).pairwise_iff (R:=fun a b:Ce=>a.no≠b.no) (fun{x y} h=>h.symm)
 have h2:=h1.2 (hs.imp (fun{x y} h=>by omega))
 exact(List.pairwise_cons.1 h2).1 b hb e.symm
theorem MeOk.dropV{X X':Mx}{S:Ms}{m:Nat}(h:MeOk X S)(hk:MsOk S m){i:Nat}{a:Vt}(ha:S.V[i]? =some a)(v:Nat)(hv:a.no=(v:Int)){news:List Value}(hp:PutE 5 X.xs X'.xs X.nv v news)
  (e1:X'.n=X.n) (e2:X'.av=S.av.freed a.no) (e3:X'.af=X.af) (e4:X'.nv=X.nv) (e5:X'.nf=X.nf) (e6:X'.Lv=fun u=>u≠a.no∧X.Lv u) (e7:X'.M=X.M) (e8:X'.ys=X.ys) (e9:X'.ge=X.ge) (e10:X'.gf=X.gf):MeOk X' (S.dropV a.no i):=by
 have hm:=fun{b:Vt} (hb:b∈cut S.V i)=>cut_mem hk.vs ha hb
 refine⟨e1.trans h.n,e2,e3.trans h.af,e4.trans h.nv,e5.trans h.nf,?_,?_,?_,?_,?_,?_⟩
 ·intro u
  rw [e6,isV_iff]
  constructor
  ·rintro⟨hne,hu⟩
   obtain⟨b,hb,rfl⟩:=isV_iff.1 ((h.Lv u).1 hu)
   rcases List.mem_cons.1 ((cut_perm ha).mem_iff.2 hb)with rfl|hb'
   ·exact absurd rfl hne
   ·exact⟨b,hb',rfl⟩
  ·rintro⟨b,hb,rfl⟩
   exact⟨(hm hb).2,(h.Lv _).2 (isV_iff.2 ⟨b,(hm hb).1,rfl⟩)⟩
 ·intro b hb j u hu
  rw [e7]at hu
  refine hp.else_ _ j u ?_ (vxC_lt hu) (h.vs b (hm hb).1 j u hu)
  have h1:=(hm hb).2
  have h2:=(hk.vmem (hm hb).1).2.1
  rw [hv]at h1
  omega
 ·intro c hc j u hu
  rw [e8]
  exact h.fs c hc j u hu
 ·intro c hc k hk'
  rw [e9]
  exact h.ge1 c hc k hk'
 ·intro e he
  rw [e9]at he
  exact h.ge2 e he
 ·intro b hb f
  rw [e10]
  exact h.gf b (hm hb).1 f
theorem Keep.cell{F:Nat→Prop}{w w':World}(h:Keep F w w'){p:Addr}(hl:p.block<w.heap.size)(hn: ¬F p.block):w'.cell? p=w.cell? p:=World.cell?_of_block (h.block p.block hl hn)
theorem over5(xs:List Value)(o:Nat)(x0 x1 x2 x3 x4:Value)(h:o+5≤xs.length):((((xs.set o x0).set (o+1) x1).set (o+2) x2).set (o+3) x3).set (o+4) x4=over xs o [x0,x1,x2,x3,x4]:=by
 rw [set_over1 xs o x0 (by omega),show(over xs o [x0]).set (o+1) x1=over xs o [x0,x1]from over_set xs [x0] o x1 (by simp;omega),show(over xs o [x0,x1]).set (o+2) x2=over xs o [x0,x1,x2]from over_set xs [x0,x1] o x2 (by simp;omega),show(over xs o [x0,x1,x2]).set (o+3) x3=over xs o [x0,x1,x2,x3]from over_set xs [x0,x1,x2] o x3 (by simp;omega)]
 exact over_set xs [x0,x1,x2,x3] o x4 (by simp;omega)
theorem over9(xs:List Value)(o:Nat)(x0 x1 x2 x3 x4 x5 x6 x7 x8:Value)(h:o+9≤xs.length):((((((((xs.set o x0).set (o+1) x1).set (o+2) x2).set (o+3) x3).set (o+4) x4).set (o+5) x5).set (o+6) x6).set (o+7) x7).set (o+8) x8=over xs o [x0,x1,x2,x3,x4,x5,x6,x7,x8]:=by
 rw [over5 xs o x0 x1 x2 x3 x4 (by omega),show(over xs o [x0,x1,x2,x3,x4]).set (o+5) x5=over xs o [x0,x1,x2,x3,x4,x5]from over_set xs [x0,x1,x2,x3,x4] o x5 (by simp;omega),show(over xs o [x0,x1,x2,x3,x4,x5]).set (o+6) x6=over xs o [x0,x1,x2,x3,x4,x5,x6]from over_set xs [x0,x1,x2,x3,x4,x5] o x6 (by simp;omega),show(over xs o [x0,x1,x2,x3,x4,x5,x6]).set (o+7) x7=over xs o [x0,x1,x2,x3,x4,x5,x6,x7]from over_set xs [x0,x1,x2,x3,x4,x5,x6] o x7 (by simp;omega)]
 exact over_set xs [x0,x1,x2,x3,x4,x5,x6,x7] o x8 (by simp;omega)
def PutPost(T:TypeId)(s base:Nat)(a:Option Addr)(n:Nat)(xs:List Value)(k:Nat)(news:List Value)(w:World)(e:Ending)(w':World):Prop:=
 ∃ (a':Option Addr) (n' c':Nat) (xs':List Value),e= .returned (.slice a' n' c')∧(k=n→n'=n+1)∧(k<n→n'=n)∧OwnS w' base T s a' n' c' xs'∧PutE s xs xs' n k news∧(∀ q,Slot a' q→Slot a q∨w.heap.size≤q)∧Keep (Slot a) w w'
theorem mPutV(base:Nat)(a:Option Addr)(n c:Nat)(xs:List Value)(w:World)(hO:OwnS w base 138 5 a n c xs)(hn:n≤1000)(hb:base≤w.heap.size)(k:Nat)(hk:k≤n)(x0 x1 x2 x3:Int)(mv:Option Nat){k':Int}(hk':k'=(k:Int)):
  Calls Tryz.prog 66 #[.slice a n c, .int .i64 k', .agg #[.int .i64 x0, .int .i64 x1, .int .i64 x2, .int .i64 x3, .map mv]] w (PutPost 138 5 base a n xs k [.int .i64 x0, .int .i64 x1, .int .i64 x2, .int .i64 x3, .map mv] w):=by
 subst hk'
 rcases Nat.lt_or_ge k n with h|h
 ·obtain⟨g,rfl,_⟩:=hO.at (by omega)
  refine(mPutV_old base g n c xs w hO k h x0 x1 x2 x3 mv rfl).mono ?_
  rintro e w' ⟨rfl,h1,h2⟩
  have hl:=hO.len
  rw [over5 xs (k*5) _ _ _ _ _ (by omega)]at h1
  exact⟨_,_,_,_,rfl,(fun e=>by omega),(fun _=>rfl),h1,put_old hl rfl h,(fun q s=>Or.inl s),h2⟩
 ·obtain rfl:k=n:=by omega
  refine(mPutV_new base a k c xs w hO hn hb x0 x1 x2 x3 mv rfl).mono ?_
  rintro e w' ⟨a',c',rfl,h1,h2,h3⟩
  exact⟨_,_,_,_,rfl,(fun _=>rfl),(fun e=>by omega),h1,put_new hO.len,h2,h3⟩
theorem mPutT(base:Nat)(a:Option Addr)(n c:Nat)(xs:List Value)(w:World)(hO:OwnS w base 49 9 a n c xs)(hn:n≤1000)(hb:base≤w.heap.size)(k:Nat)(hk:k≤n)(t:Tr){k':Int}(hk':k'=(k:Int)):
  Calls Tryz.prog 74 #[.slice a n c, .int .i64 k',trV t] w (PutPost 49 9 base a n xs k (trC t) w):=by
 subst hk'
 rcases Nat.lt_or_ge k n with h|h
 ·obtain⟨g,rfl,_⟩:=hO.at (by omega)
  refine(mPutT_old base g n c xs w hO k h t.v0 t.v1 t.v2 t.x0 t.y0 t.x1 t.y1 t.x2 t.y2 rfl).mono ?_
  rintro e w' ⟨rfl,h1,h2⟩
  have hl:=hO.len
  rw [over9 xs (k*9) _ _ _ _ _ _ _ _ _ (by omega)]at h1
  exact⟨_,_,_,_,rfl,(fun e=>by omega),(fun _=>rfl),h1,put_old hl rfl h,(fun q s=>Or.inl s),h2⟩
 ·obtain rfl:k=n:=by omega
  refine(mPutT_new base a k c xs w hO hn hb t.v0 t.v1 t.v2 t.x0 t.y0 t.x1 t.y1 t.x2 t.y2 rfl).mono ?_
  rintro e w' ⟨a',c',rfl,h1,h2,h3⟩
  exact⟨_,_,_,_,rfl,(fun _=>rfl),(fun e=>by omega),h1,put_new hO.len,h2,h3⟩
theorem MeP.left{base p:Nat}{S:Ms}{F:Nat→Prop}{w w':World}(h:MeP base p S F w)(hb:Below w.heap.size w w'):Left (MeP base p S) F w w':=⟨Keep.of hb,F,h.below hb,fun k hk=>Or.inl hk⟩
theorem mTake{base p:Nat}{A:Ar}{F:Nat→Prop}{w:World}(h:ArP base p A.L A.B A.T F w)(hT:A.T≤1000){n:Int}(hn:n=A.num):
  Calls Tryz.prog 65 #[ptR p] w fun e w'=>e= .returned (.int .i64 n)∧Keep F w w'∧ ∃ F',ArP base p A.took.L A.took.B A.took.T F' w'∧ ∀ k,F' k→F k∨w.heap.size≤k:=by
 obtain⟨L,B,T⟩:=A
 rcases nil_or_last B with rfl|⟨B',x,rfl⟩
 ·obtain rfl:n=(T:Int):=hn
  exact arTake0 h hT
 ·obtain rfl:n=x:=hn.trans (tkN_last B' x T)
  obtain⟨k,rfl⟩:=Int.eq_ofNat_of_zero_le (h.ok.rg n (by simp)).1
  refine(arTake1 h hT).mono ?_
  rintro e w' ⟨rfl,hk,F',h',hs⟩
  refine⟨rfl,hk,F',?_,hs⟩
  have e1:(Ar.took ⟨L,B'++ [(k:Int)],T⟩)=⟨L++ [(k:Int)],B',T⟩:=by unfold Ar.took Ar.num;rw [tkN_last,tkT_last,List.dropLast_concat]
  rw [e1]
  exact h'
theorem mFree{base p:Nat}{A:Ar}{F:Nat→Prop}{w:World}(h:ArP base p A.L A.B A.T F w)(hT:A.T≤1000){n:Int}(hn:n∈A.L):
  Calls Tryz.prog 95 #[ptR p, .int .i64 n] w fun e w'=>e= .returned (.bool true)∧Keep F w w'∧ ∃ F',ArP base p (A.freed n).L (A.freed n).B (A.freed n).T F' w'∧ ∀ k,F' k→F k∨w.heap.size≤k:=by
 obtain⟨L,B,T⟩:=A
 obtain⟨k,rfl⟩:=Int.eq_ofNat_of_zero_le (h.ok.rg n (List.mem_append_left _ hn)).1
 exact arFree1 h hT hn rfl
theorem meiNew{base:Nat}{w w1 w2:World}{p1 p2:Nat}{F1 F2:Nat→Prop}(n:Int)(hb:base≤w.heap.size)(h1:ArP base p1 [] [] 0 F1 w1)(hF1: ∀ k,F1 k→w.heap.size≤k)(b1:Below w.heap.size w w1)(h2:ArP base p2 [] [] 0 F2 w2)(hF2: ∀ k,F2 k→w1.heap.size≤k)(b2:Below w1.heap.size w1 w2)(t:TypeId):
  MeP base (w2.heap.size+1) (Ms.new n) (fun k=>w.heap.size≤k∧k<w2.heap.size+2) ((w2.alloc (.map #[] 0)).alloc (.cells #[.int .i64 n,ptR p1,ptR p2, .slice none 0 0, .slice none 0 0, .map (some w2.heap.size)] t))∧Below w.heap.size w ((w2.alloc (.map #[] 0)).alloc (.cells #[.int .i64 n,ptR p1,ptR p2, .slice none 0 0, .slice none 0 0, .map (some w2.heap.size)] t)):=by
 have b3:Below w2.heap.size w2 ((w2.alloc (.map #[] 0)).alloc (.cells #[.int .i64 n,ptR p1,ptR p2, .slice none 0 0, .slice none 0 0, .map (some w2.heap.size)] t)):=((Below.refl _ _).alloc (Nat.le_refl _) _).alloc (by simp) _
 have R:=Row.new (w2.alloc (.map #[] 0)) [.int .i64 n,ptR p1,ptR p2, .slice none 0 0, .slice none 0 0, .map (some w2.heap.size)] t
 have e1:(w2.alloc (.map #[] 0)).heap.size=w2.heap.size+1:=by simp
 rw [e1]at R
 have M0:EMap (w2.alloc (.map #[] 0)) w2.heap.size (fun _=>none):=MapL.new w2
 have M1:=M0.below ((Below.refl _ (w2.alloc (.map #[] 0))).alloc (Nat.le_refl _) (.cells #[.int .i64 n,ptR p1,ptR p2, .slice none 0 0, .slice none 0 0, .map (some w2.heap.size)] t))
 have z1:=b1.size
 have z2:=b2.size
 have z3:=b3.size
 have ft1:=h1.ft
 have ft2:=h2.ft
 have A1:=(h1.keep (Keep.of (F:=fun _=>False) b2) (fun _ _ x=>x)).keep (Keep.of (F:=fun _=>False) b3) (fun _ _ x=>x)
 have A2:=h2.keep (Keep.of (F:=fun _=>False) b3) (fun _ _ x=>x)
 refine⟨⟨⟨fun k=>if k<w1.heap.size then 1 else if k<w2.heap.size then 2 else if k=w2.heap.size then 5 else 0,p1,p2,F1,F2,none,0,0,none,0,0,w2.heap.size, [], [],fun _=>0,fun _=>none,fun _ _=>none,fun _=>False,n,⟨[], [],0⟩,⟨[], [],0⟩⟩,⟨R,A1,A2,ownS_none _ _ _ _,ownS_none _ _ _ _,M1,(fun v h=>h.elim),?_,?_,?_,(fun k s=>by obtain⟨o,s⟩:=s;cases s),(fun k s=>by obtain⟨o,s⟩:=s;cases s),?_,(fun v h=>h.elim),?_⟩,?_⟩,(b1.trans (b2.mono z1)).trans (b3.mono (by omega))⟩
 ·exact⟨⟨by omega,by omega⟩,by simp only [];rw [if_neg (by omega),if_neg (by omega),if_neg (by omega)]⟩
 ·intro k s
  have:=ft1 k s
  exact⟨⟨hF1 k s,by omega⟩,if_pos this.2⟩
 ·intro k s
  have h3:=ft2 k s
  have h4:=hF2 k s
  exact⟨⟨by omega,by omega⟩,by simp only [];rw [if_neg (by omega),if_pos h3.2]⟩
 ·show(w.heap.size≤w2.heap.size∧w2.heap.size<w2.heap.size+2)∧(if w2.heap.size<w1.heap.size then 1 else if w2.heap.size<w2.heap.size then 2 else if w2.heap.size=w2.heap.size then 5 else 0)=5
  exact⟨⟨by omega,by omega⟩,by rw [if_neg (by omega),if_neg (by omega),if_pos rfl]⟩
 ·intro k hk
  refine⟨by omega,?_⟩
  simp
  omega
 ·refine⟨rfl,rfl,rfl,rfl,rfl,?_,(fun a h=>by cases h),(fun a h=>by cases h),(fun a h=>by cases h),(fun e h=>absurd rfl h),(fun a h=>by cases h)⟩
  intro v
  exact⟨fun h=>h.elim,fun h=>by cases h⟩
set_option maxRecDepth 100000 in
theorem mNew(base:Nat)(n:Int)(w:World)(hb:base≤w.heap.size)(hn:1≤n∧n≤17179869184):Calls Tryz.prog 17 #[.int .i64 n] w fun e w'=> ∃ (p:Nat) (F:Nat→Prop),e= .returned (ptR p)∧MeP base p (Ms.new n) F w'∧(∀ k,F k→w.heap.size≤k)∧Below w.heap.size w w':=by
 obtain⟨hn1,hn2⟩:=hn
 have hmm:=@run_makeMap Tryz.prog
 go_enter Tryz.func17,Tryz.ntmps17
 go_wp2_with (go_at_call 46;fail)
 refine(arNew base w hb).mono ?_
 rintro e w1 ⟨p1,F1,rfl,h1,hF1,b1⟩
 have H1:Hid _:=h1
 have H2:Hid _:=hF1
 clear h1 hF1
 go_wp2_with (go_at_call 46;fail)
 refine(arNew base w1 (Nat.le_trans hb b1.size)).mono ?_
 rintro e w2 ⟨p2,F2,rfl,h2,hF2,b2⟩
 have HM:Hid _:=meiNew n hb H1.out H2.out b1 h2 hF2 b2 108
 clear h2 hF2
 go_wp2
 go_ret
 exact⟨_,_,rfl,HM.out.1,(fun k e=>e.1),HM.out.2⟩
theorem mSide(base p:Nat)(X:Mx)(F:Nat→Prop)(w:World)(h:MeI base p X F w):Calls Tryz.prog 21 #[ptR p] w fun e w'=>e= .returned (.int .i64 X.n)∧Below w.heap.size w w':=by
 have q0:=h.row.cell 0 _ rfl
 clear h
 go_enter Tryz.func21,Tryz.ntmps21
 go_wp2
 go_ret
 exact⟨rfl,Below.refl _ _⟩
set_option maxRecDepth 100000 in
theorem mAddV0(base p:Nat)(X:Mx)(F:Nat→Prop)(w:World)(h:MeI base p X F w)(x y id:Int)(hq: ¬((0≤x∧x<X.n)∧(0≤y∧y<X.n))):
  Calls Tryz.prog 33 #[ptR p, .agg #[.int .i64 x, .int .i64 y], .int .i64 id] w fun e w'=>e= .returned (.int .i64 (-1))∧Below w.heap.size w w':=by
 obtain⟨W,hW⟩: ∃ W,W=w.alloc (.cells #[.int .i64 x, .int .i64 y] 24):=⟨_,rfl⟩
 have BW:Below w.heap.size w W:=by rw [hW];exact(Below.refl _ _).alloc (Nat.le_refl _) _
 have zW:w.heap.size<W.heap.size:=by rw [hW];simp
 have R0:Row W w.heap.size [.int .i64 x, .int .i64 y]:=by rw [hW];exact Row.new w [.int .i64 x, .int .i64 y] _
 have hW':=hW.symm
 have c0:=R0.cell 0 _ rfl
 have c1:=R0.cell 1 _ rfl
 have HI:Hid _:=h.below BW
 clear hW h
 by_cases hx:0≤x∧x<X.n
 ·have hy: ¬(0≤y∧y<X.n):=fun e=>hq ⟨hx,e⟩
  clear hq
  have HX:Hid (true=decide (0≤x∧x<X.n)):=(decide_eq_true hx).symm
  have HY:Hid (false=decide (0≤y∧y<X.n)):=(decide_eq_false hy).symm
  clear hx hy
  go_enter Tryz.func33,Tryz.ntmps33
  go_wp2_with (go_at_call 64;fail)
  refine(mCan base p X F W HI.out x HX.out).mono ?_
  rintro e w1 ⟨rfl,b1⟩
  have c1:=(R0.below b1 zW).cell 1 _ rfl
  go_wp2_with (go_at_call 64;fail)
  refine(mCan base p X F w1 (HI.out.below b1) y HY.out).mono ?_
  rintro e w2 ⟨rfl,b2⟩
  go_wp2
  go_ret
  exact⟨rfl,(BW.trans (b1.mono BW.size)).trans (b2.mono (Nat.le_trans BW.size b1.size))⟩
 ·clear hq
  have HX:Hid (false=decide (0≤x∧x<X.n)):=(decide_eq_false hx).symm
  clear hx
  go_enter Tryz.func33,Tryz.ntmps33
  go_wp2_with (go_at_call 64;fail)
  refine(mCan base p X F W HI.out x HX.out).mono ?_
  rintro e w1 ⟨rfl,b1⟩
  go_wp2
  go_ret
  exact⟨rfl,BW.trans (b1.mono BW.size)⟩
set_option maxRecDepth 100000 in
set_option maxHeartbeats 1000000 in
theorem mAddV(base p:Nat)(X:Mx)(S:Ms)(m:Nat)(F:Nat→Prop)(w:World)(h:MeI base p X F w)(hS:MeOk X S)(hk:MsOk S m)(hm:m≤1000)(x y id:Int)(hq:inSq S x y=true):
  Calls Tryz.prog 33 #[ptR p, .agg #[.int .i64 x, .int .i64 y], .int .i64 id] w fun e w'=>e= .returned (.int .i64 S.av.num)∧Left (MeP base p (S.addV x y id)) F w w':=by
 obtain⟨q1,q2,q3,q4⟩:=of_decide_eq_true hq
 obtain⟨h0,hrg⟩:=num_range hk.va
 obtain⟨v,hv⟩:=Int.eq_ofNat_of_zero_le h0
 rw [hv]
 have hT:X.av.T≤1000:=by rw [hS.av];have:=hk.vt;omega
 have hnv:X.nv≤1000:=by rw [hS.nv];have:=hk.vt;omega
 have HV:Hid ((v:Int)=X.av.num):=by unfold Hid;rw [hS.av,hv]
 have HN:Hid (v≤X.nv∧(v=X.nv→S.av.took.T=X.nv+1)∧(v<X.nv→S.av.took.T=X.nv)):=by
  unfold Hid
  rw [hS.nv]
  rcases hrg with⟨e1,e2⟩|⟨e1,e2⟩
  ·rw [hv]at e1
   exact⟨by omega,fun _=>e2,fun e=>by omega⟩
  ·rw [hv]at e1
   exact⟨by omega,fun e=>by omega,fun _=>e2⟩
 have HX:Hid (true=decide (0≤x∧x<X.n)):=by unfold Hid;rw [hS.n];exact(decide_eq_true ⟨q1,q2⟩).symm
 have HY:Hid (true=decide (0≤y∧y<X.n)):=by unfold Hid;rw [hS.n];exact(decide_eq_true ⟨q3,q4⟩).symm
 obtain⟨W,hW⟩: ∃ W,W=w.alloc (.cells #[.int .i64 x, .int .i64 y] 24):=⟨_,rfl⟩
 have BW:Below w.heap.size w W:=by rw [hW];exact(Below.refl _ _).alloc (Nat.le_refl _) _
 have zW:w.heap.size<W.heap.size:=by rw [hW];simp
 have R0:Row W w.heap.size [.int .i64 x, .int .i64 y]:=by rw [hW];exact Row.new w [.int .i64 x, .int .i64 y] _
 have hW':=hW.symm
 have c0:=R0.cell 0 _ rfl
 have c1:=R0.cell 1 _ rfl
 have HI:Hid _:=h.below BW
 have H0:Hid _:=h
 have HS:Hid _:=hS
 have HK:Hid _:=hk
 have HVV:Hid _:=hv
 clear hW h hS hk hq q1 q2 q3 q4 h0 hrg hv
 go_enter Tryz.func33,Tryz.ntmps33
 go_wp2_with (go_at_call 64;fail)
 refine(mCan base p X F W HI.out x HX.out).mono ?_
 rintro e w1 ⟨rfl,b1⟩
 replace R0:=R0.below b1 zW
 replace c0:=R0.cell 0 _ rfl
 replace c1:=R0.cell 1 _ rfl
 go_wp2_with (go_at_call 64;fail)
 refine(mCan base p X F w1 (HI.out.below b1) y HY.out).mono ?_
 rintro e w2 ⟨rfl,b2⟩
 have z1:=b1.size
 have z2:=b2.size
 have B2:Below w.heap.size w w2:=(BW.trans (b1.mono BW.size)).trans (b2.mono (Nat.le_trans BW.size b1.size))
 have HI2:Hid (MeI base p X F w2):=H0.out.below B2
 replace R0:=R0.below b2 (by omega)
 have m1:=HI2.out.row.cell 1 _ rfl
 clear c0 c1 hW' HI
 go_wp2_with (go_at_call 65;fail)
 refine(mTake HI2.out.arv hT HV.out).mono ?_
 rintro e w3 ⟨rfl,k3,Fv',a3,s3⟩
 have HI3:Hid (MeI base p { X with av:=X.av.took,Fv:=Fv',κ:=paint X.κ w2.heap.size 1 } (more F w2.heap.size w3.heap.size) w3):=HI2.out.turnV k3 a3 s3
 have K3:Hid (Keep F w w3):=(Keep.of B2).trans k3 (fun k f=>Or.inl (H0.out.c1 k f).1)
 have z3:=k3.size
 replace R0:=R0.keep k3 (by omega) (fun f=>by have:=(H0.out.ft _ (H0.out.c1 _ f).1).2;omega)
 have c0:=R0.cell 0 _ rfl
 have c1:=R0.cell 1 _ rfl
 clear m1
 obtain⟨W3,hW3⟩: ∃ W3,W3=w3.alloc (.cells #[.int .i64 (v:Int), .int .i64 x, .int .i64 y, .int .i64 id] 134):=⟨_,rfl⟩
 have B3:Below w3.heap.size w3 W3:=by rw [hW3];exact(Below.refl _ _).alloc (Nat.le_refl _) _
 have zW3:w3.heap.size<W3.heap.size:=by rw [hW3];simp
 have RT:Row W3 w3.heap.size [.int .i64 (v:Int), .int .i64 x, .int .i64 y, .int .i64 id]:=by rw [hW3];exact Row.new w3 _ _
 have hW3':=hW3.symm
 have HIW:Hid (MeI base p { X with av:=X.av.took,Fv:=Fv',κ:=paint X.κ w2.heap.size 1 } (more F w2.heap.size w3.heap.size) W3):=HI3.out.below B3
 have m3:=HIW.out.row.cell 3 _ rfl
 have t0:=RT.cell 0 _ rfl
 have t1:=RT.cell 1 _ rfl
 have t2:=RT.cell 2 _ rfl
 have t3:=RT.cell 3 _ rfl
 have lp:p<W3.heap.size:=HIW.out.row.lt
 have ng: ¬Slot X.a p:=fun s=>absurd ((H0.out.c3 p s).2.symm.trans H0.out.c0.2) (by decide)
 have nt: ¬Slot X.a w3.heap.size:=fun s=>by have:=(H0.out.ft _ (H0.out.c3 _ s).1).2;omega
 have f3:=HIW.out.row.free 3 (by simp)
 obtain⟨a,ha⟩: ∃ a,a=X.a:=⟨_,rfl⟩
 obtain⟨nv,hnv'⟩: ∃ n,n=X.nv:=⟨_,rfl⟩
 obtain⟨ca,hca⟩: ∃ n,n=X.ca:=⟨_,rfl⟩
 rw [←ha,←hnv',←hca]at m3
 rw [←ha]at ng nt
 have HA:Hid _:=ha
 have HNV:Hid _:=hnv'
 have HCA:Hid _:=hca
 have HPUT:Hid (∀ w',Below W3.heap.size W3 w'→Calls Tryz.prog 66 #[.slice a nv ca, .int .i64 (v:Int), .agg #[.int .i64 (v:Int), .int .i64 x, .int .i64 y, .int .i64 id, .map (some W3.heap.size)]] w' (PutPost 138 5 base a nv X.xs v [.int .i64 (v:Int), .int .i64 x, .int .i64 y, .int .i64 id, .map (some W3.heap.size)] w')):=by
  unfold Hid
  intro w' hb
  have hO:=(HIW.out.below hb).own
  refine mPutV base a nv ca X.xs w' (by rw [ha,hnv',hca];exact hO) (by rw [hnv'];exact hnv) ?_ v (by rw [hnv'];exact HN.out.1) _ _ _ _ _ rfl
  have h1:=H0.out.ft p H0.out.c0.1
  have h2:=hb.size
  omega
 clear hW3 ha hnv' hca
 have hmm:=@run_makeMap Tryz.prog
 go_wp2
 clear hW3'
 have HSav:Hid (∀ w',Keep (Slot a) W3 w'→(fun w'=>w'.cell? ⟨p,3,none⟩=some (.slice a nv ca)∧w'.cell? ⟨w3.heap.size,0,none⟩=some (.int .i64 (v:Int))∧w'.cell? ⟨w3.heap.size,1,none⟩=some (.int .i64 x)∧w'.cell? ⟨w3.heap.size,2,none⟩=some (.int .i64 y)∧w'.cell? ⟨w3.heap.size,3,none⟩=some (.int .i64 id)∧Keep (Slot a) W3 w') w'):=by
  unfold Hid
  intro w' hb
  exact⟨(hb.cell (p:=⟨p,3,none⟩) lp ng).trans m3,(hb.cell (p:=⟨w3.heap.size,0,none⟩) zW3 nt).trans t0,(hb.cell (p:=⟨w3.heap.size,1,none⟩) zW3 nt).trans t1,(hb.cell (p:=⟨w3.heap.size,2,none⟩) zW3 nt).trans t2,(hb.cell (p:=⟨w3.heap.size,3,none⟩) zW3 nt).trans t3,hb⟩
 refine regionL 12 (S:=fun w'=>w'.cell? ⟨p,3,none⟩=some (.slice a nv ca)∧w'.cell? ⟨w3.heap.size,0,none⟩=some (.int .i64 (v:Int))∧w'.cell? ⟨w3.heap.size,1,none⟩=some (.int .i64 x)∧w'.cell? ⟨w3.heap.size,2,none⟩=some (.int .i64 y)∧w'.cell? ⟨w3.heap.size,3,none⟩=some (.int .i64 id)∧Keep (Slot a) W3 w') (by kernel_rfl) ?_ (fun hHeld=>?_)
 ·exact HSav.out _ ((Keep.refl _ _).drew)
 refine tyL (i:=0) (v:=?vav0) rfl ?hyav0 ?_
 case hyav0=>(intro w hSw;(try dsimp only at hSw);go_simp<;>with_reducible rfl)
 simp only [Go.Act.put,ps1,ps2,ps3]
 refine tyL (i:=1) (v:=?vav1) rfl ?hyav1 ?_
 case hyav1=>(intro w hSw;(try dsimp only at hSw);go_simp<;>with_reducible rfl)
 simp only [Go.Act.put,ps1,ps2,ps3]
 refine tyL (i:=2) (v:=?vav2) rfl ?hyav2 ?_
 case hyav2=>(intro w hSw;(try dsimp only at hSw);go_simp<;>with_reducible rfl)
 simp only [Go.Act.put,ps1,ps2,ps3]
 refine tyL (i:=3) (v:=?vav3) rfl ?hyav3 ?_
 case hyav3=>(intro w hSw;(try dsimp only at hSw);go_simp<;>with_reducible rfl)
 simp only [Go.Act.put,ps1,ps2,ps3]
 refine tyL (i:=4) (v:=?vav4) rfl ?hyav4 ?_
 case hyav4=>(intro w hSw;(try dsimp only at hSw);go_simp<;>with_reducible rfl)
 simp only [Go.Act.put,ps1,ps2,ps3]
 refine tyL (i:=5) (v:=?vav5) rfl ?hyav5 ?_
 case hyav5=>(intro w hSw;(try dsimp only at hSw);go_simp<;>with_reducible rfl)
 simp only [Go.Act.put,ps1,ps2,ps3]
 refine tyL (i:=6) (v:=?vav6) rfl ?hyav6 ?_
 case hyav6=>(intro w hSw;(try dsimp only at hSw);go_simp<;>with_reducible rfl)
 simp only [Go.Act.put,ps1,ps2,ps3]
 refine takeL_call (i:=7) rfl (by kernel_rfl) (fun Kc hK=>?_)
 go_simp
 refine hK.out _ _ ?_ (fun hHeld=>?_)
 ·exact HSav.out _ (hHeld.2.2.2.2.2.alloc _)
 clear hK Kc
 refine tyL (i:=8) (v:=?vav8) rfl ?hyav8 ?_
 case hyav8=>(intro w hSw;(try dsimp only at hSw);go_simp<;>with_reducible rfl)
 simp only [Go.Act.put,ps1,ps2,ps3]
 refine takeL_call (i:=9) rfl (by kernel_rfl) (fun Kc hK=>?_)
 go_simp
 (go_at_call 66;refine(HPUT.out _ ((Below.refl _ _).alloc (Nat.le_refl _) _).drew).mono ?_;rintro e w5 ⟨a5,n5,c5,xs5,rfl,hP⟩)
 refine hK.out _ _ ?_ (fun hHeld=>?_)
 ·exact HSav.out _ (hHeld.2.2.2.2.2.trans hP.2.2.2.2.2 (fun i g=>Or.inl g))
 clear hK Kc
 have HP:Hid _:=hP
 clear hP
 refine takeL_call (i:=10) rfl (by kernel_rfl) (fun Kc hK=>?_)
 go_simp
 refine hK.out _ _ ?_ (fun hHeld=>?_)
 ·exact HSav.out _ (hHeld.2.2.2.2.2)
 clear hK Kc
 refine tyL (i:=11) (v:=?vav11) rfl ?hyav11 ?_
 case hyav11=>(intro w hSw;(try dsimp only at hSw);go_simp<;>with_reducible rfl)
 simp only [Go.Act.put,ps1,ps2,ps3]
 have s3:=hHeld.1
 have fz:=(HIW.out.row.keep hHeld.2.2.2.2.2 lp ng).free 3 (by simp)
 refine takeL_last rfl (by kernel_rfl) (fun Kc hK=>?_)
 go_simp
 refine hK.out _ _ ?_
 clear hK Kc
 refine anyL_done (by kernel_rfl) ?_ _
 have r0:=HP.out.2.2.2.2.2
 go_wp2
 go_ret
 refine⟨rfl,?_⟩
 obtain⟨g1,g2,g3,g4,g5,g6⟩:=HP.out
 rw [HNV.out]at g1 g2 g4
 rw [HA.out]at g5 g6
 have b4:Below W3.heap.size W3 ((W3.alloc (.map #[] 0)).drew):=((Below.refl _ _).alloc (Nat.le_refl _) _).drew
 have M0:IMap ((W3.alloc (.map #[] 0)).drew) W3.heap.size (fun _=>none):=(MapL.new W3:IMap (W3.alloc (.map #[] 0)) W3.heap.size (fun _=>none)).below (Below.refl _ _).drew
 have z4:((W3.alloc (.map #[] 0)).drew).heap.size=W3.heap.size+1:=by simp
 generalize (W3.alloc (.map #[] 0)).drew=W4 at b4 M0 z4 g5 g6
 have z5:=g6.size
 have hI4:=HIW.out.below b4
 have hft:=H0.out.ft
 have hcp:=H0.out.c0.1
 have hpl:=(hft p hcp).2
 obtain⟨hI5,k5⟩:=hI4.turnA (a':=a5) (n':=n5) (c':=c5) (xs':=xs5) g6 g3 g5
 have nm: ¬Slot X.a W3.heap.size:=fun s=>by have:=(hft _ (H0.out.c3 _ s).1).2;omega
 have M5:=(M0.keep g6 nm).keep ((Keep.refl (fun k=>k=p) w5).set (p:=⟨p,3,none⟩) (Or.inl rfl) (.slice a5 n5 c5)) (by omega)
 have hI6:=hI5.addM (v:=(v:Int)) (by omega) (mb:=W3.heap.size) (fun f=>by rcases f with(f|f)|f;(have:=(hft _ f).2;omega);omega;omega) M5 (by have:=(hft p hcp).1;omega)
 refine⟨?_,_,⟨_,hI6,?_⟩,?_⟩
 ·exact((K3.out.to B3).to b4).trans k5 (fun k f=>f.imp (fun x=>x) (fun e=>by have:=K3.out.size;omega))
 ·have hS:=HS.out
  have hv:=HVV.out
  refine MeOk.addV hS HK.out v hv (mb:=W3.heap.size) (nv':=0) ?_ rfl (by show X.av.took=S.av.took;rw [hS.av]) rfl ?_ rfl ?_ ?_ rfl rfl ?_
  ·show PutE 5 X.xs xs5 X.nv v (vxC ⟨S.av.num,x,y,id⟩ W3.heap.size)
   rw [hv]
   exact g4
  ·show n5=S.av.took.T
   rcases Nat.lt_or_ge v X.nv with e|e
   ·rw [g2 e,HN.out.2.2 e]
   ·have e':v=X.nv:=Nat.le_antisymm HN.out.1 e
    rw [g1 e',HN.out.2.1 e']
  ·rw [hv]
  ·rw [hv]
  ·rw [hv]
 ·intro k hk
  have h1:=K3.out.size
  rcases hk with((f|f)|f)|f
  ·exact Or.inl f
  ·right;omega
  ·right;omega
  ·right;omega
theorem isV_dec{X:Mx}{S:Ms}{m:Nat}(hS:MeOk X S)(hk:MsOk S m)(v:Int):isV S v=decide (v∈X.av.L):=by
 rw [hS.av]
 cases h:isV S v with
 |true=>exact(decide_eq_true (hk.live.2 h)).symm
 |false=>exact(decide_eq_false (fun e=>by rw [hk.live.1 e]at h;cases h)).symm
theorem isF_dec{X:Mx}{S:Ms}{m:Nat}(hS:MeOk X S)(hk:MsOk S m)(v:Int):isF S v=decide (v∈X.af.L):=by
 rw [hS.af]
 cases h:isF S v with
 |true=>exact(decide_eq_true (hk.liveF.2 h)).symm
 |false=>exact(decide_eq_false (fun e=>by rw [hk.liveF.1 e]at h;cases h)).symm
theorem m_faceOf_at{S:Ms}{m:Nat}(hk:MsOk S m){c:Ce}(hc:c∈S.C):S.C.find? (fun b=>decide (b.no=c.no))=some c:=by
 have hs:=hk.fs
 generalize S.C=C at hc hs
 induction C with
 |nil=>cases hc
 |cons b V ih=>
  rw [List.pairwise_cons]at hs
  rcases List.mem_cons.1 hc with rfl|h
  ·simp
  ·have hne: ¬b.no=c.no:=by have:=hs.1 c h;omega
   rw [List.find?_cons_of_neg (by simpa using hne)]
   exact ih h hs.2
theorem m_faceOf_no{S:Ms}{v:Int}(h:isF S v=false):S.C.find? (fun b=>decide (b.no=v))=none:=by
 rw [List.find?_eq_none]
 intro b hb e
 have:isF S v=true:=isF_iff.2 ⟨b,hb,of_decide_eq_true e⟩
 rw [h]at this
 cases this
theorem MeI.lens{base p:Nat}{X:Mx}{F:Nat→Prop}{w:World}{S:Ms}{m:Nat}(h:MeI base p X F w)(hS:MeOk X S)(hk:MsOk S m)(hm:m≤1000){a:Vt}(ha:a∈S.V): ∃ n:Nat,(∀ w',Below w.heap.size w w'→(Builtin.len_ #[136] 3 #[.map (some (X.M a.no))]).run Tryz.prog w'= .ok (.int .i64 (n:Int)) w')∧(n=0↔around S.C a.no= []):=by
 have hv:X.Lv a.no:=(hS.Lv _).2 (isV_iff.2 ⟨a,ha,rfl⟩)
 obtain⟨n,h1,h2⟩:=(h.fcs _ hv).len intL Tryz.underlying136 3
 refine⟨n,h1,h2.trans ⟨fun e=>?_,fun e x _=>?_⟩⟩
 ·rw [List.eq_nil_iff_forall_not_mem]
  intro f hf
  have h3:=(hS.gf a ha f).2 hf
  have hr:I64 f:=by
   unfold around at hf
   obtain⟨c,hc,rfl⟩:=List.mem_map.1 hf
   have h5:=(hk.fmem (List.mem_filter.1 hc).1).2
   have h6:=hk.ft
   exact⟨by omega,by omega⟩
  exact h3 (e f ⟨_,intKey hr⟩)
 ·cases hg:X.gf a.no x with
  |none=>rfl
  |some u=>
   have:=(hS.gf a ha x).1 (by rw [hg];exact fun e=>by cases e)
   rw [e]at this
   cases this
set_option maxRecDepth 100000 in
theorem mDropV0(base p:Nat)(X:Mx)(S:Ms)(m:Nat)(F:Nat→Prop)(w:World)(h:MeI base p X F w)(hS:MeOk X S)(hk:MsOk S m)(hm:m≤1000)(v:Int)(hv:In64 v)(hno:isV S v=false∨around S.C v≠ []):
  Calls Tryz.prog 50 #[ptR p, .int .i64 v] w fun e w'=>e= .returned (.bool false)∧Below w.heap.size w w':=by
 have hT:X.av.T≤1000:=by rw [hS.av];have:=hk.vt;omega
 have HD:Hid (isV S v=decide (v∈X.av.L)):=isV_dec hS hk v
 have HI:Hid _:=h
 cases hb:isV S v with
 |false=>
  rw [hb]at HD
  clear h hS hk hno
  go_enter Tryz.func50,Tryz.ntmps50
  go_wp2_with (go_at_call 69;fail)
  refine(mHasV base p X F w HI.out hT v hv HD.out).mono ?_
  rintro e w1 ⟨rfl,b1⟩
  go_wp2
  go_ret
  exact⟨rfl,b1⟩
 |true=>
  have har:around S.C v≠ []:=hno.resolve_left (by rw [hb];exact fun e=>by cases e)
  obtain⟨a,ha,rfl⟩:=isV_iff.1 hb
  rw [hb]at HD
  obtain⟨n,hlen,hn0⟩:=h.lens hS hk hm ha
  have hn:0<n:=Nat.pos_of_ne_zero (fun e=>har (hn0.1 e))
  obtain⟨g,k,hXa,hg,hak,hkn,hcap,hc⟩:=h.vcell hS hk ha
  have q3:=h.row.cell 3 _ rfl
  rw [hXa]at q3
  have u4:=(hc 4 _ rfl).1
  have lp:=h.row.lt
  obtain⟨nv,hnv⟩: ∃ v,v=X.nv:=⟨_,rfl⟩
  obtain⟨ca,hca⟩: ∃ v,v=X.ca:=⟨_,rfl⟩
  obtain⟨mb,hmb⟩: ∃ v,v=X.M a.no:=⟨_,rfl⟩
  rw [←hnv,←hca]at q3
  rw [←hnv]at hkn
  rw [←hmb]at u4 hlen
  rw [hak]
  rw [hak]at HD hv
  have hlt:(k:Int)<(nv:Int):=by omega
  have hgt:(0:Int)<(n:Int):=by omega
  have HL:Hid _:=hlen
  clear h hS hk hc hXa hnv hca ha hb hcap hno har hn0 hlen hmb hak hn
  go_enter Tryz.func50,Tryz.ntmps50
  go_wp2_with (go_at_call 69;fail)
  refine(mHasV base p X F w HI.out hT (k:Int) hv HD.out).mono ?_
  rintro e w1 ⟨rfl,b1⟩
  replace q3:=(b1.cell (p:=⟨p,3,none⟩) lp).trans q3
  replace u4:=(b1.cell (p:=⟨g,k*5+4,none⟩) hg).trans u4
  have hl:=HL.out w1 b1
  go_wp2
  go_ret
  exact⟨rfl,b1⟩
set_option maxRecDepth 100000 in
theorem mDropV(base p:Nat)(X:Mx)(S:Ms)(m:Nat)(F:Nat→Prop)(w:World)(h:MeI base p X F w)(hS:MeOk X S)(hk:MsOk S m)(hm:m≤1000)(i:Nat)(a:Vt)(ha:S.V[i]? =some a)(har:around S.C a.no= []):
  Calls Tryz.prog 50 #[ptR p, .int .i64 a.no] w fun e w'=>e= .returned (.bool true)∧Left (MeP base p (S.dropV a.no i)) F w w':=by
 have hT:X.av.T≤1000:=by rw [hS.av];have:=hk.vt;omega
 have hmem:=List.mem_of_getElem? ha
 have hb:isV S a.no=true:=isV_iff.2 ⟨a,hmem,rfl⟩
 have HD:Hid (true=decide (a.no∈X.av.L)):=hb.symm.trans (isV_dec hS hk a.no)
 have HI:Hid _:=h
 have HS:Hid _:=hS
 have HK:Hid _:=hk
 obtain⟨n,hlen,hn0⟩:=h.lens hS hk hm hmem
 obtain rfl:n=0:=hn0.2 har
 obtain⟨g,k,hXa,hg,hak,hkn,hcap,hc⟩:=h.vcell hS hk hmem
 have HO:Hid _:=h.own
 rw [hXa]at HO
 have q1:=h.row.cell 1 _ rfl
 have q3:=h.row.cell 3 _ rfl
 rw [hXa]at q3
 have u4:=(hc 4 _ rfl).1
 have lp:=h.row.lt
 have hnv1:X.nv≤1000:=by rw [hS.nv];have:=hk.vt;omega
 have hbase:base≤w.heap.size:=by have:=h.ft p h.c0.1;omega
 have hvr:In64 (k:Int):=by have:=(hk.vmem hmem).2;rw [hak]at this;have:=hk.vt;exact⟨by omega,by omega⟩
 have ngp: ¬Slot (some ⟨g,0,none⟩) p:=fun s=>absurd ((h.c3 p (by rw [hXa];exact s)).2.symm.trans h.c0.2) (by decide)
 obtain⟨nv,hnv⟩: ∃ v,v=X.nv:=⟨_,rfl⟩
 obtain⟨ca,hca⟩: ∃ v,v=X.ca:=⟨_,rfl⟩
 obtain⟨pv,hpv⟩: ∃ v,v=X.pv:=⟨_,rfl⟩
 obtain⟨mb,hmb⟩: ∃ v,v=X.M a.no:=⟨_,rfl⟩
 rw [←hpv]at q1
 rw [←hnv,←hca]at q3 HO
 rw [←hnv]at hkn hnv1
 rw [←hmb]at u4 hlen
 have HPV:Hid _:=hpv
 have HNV:Hid _:=hnv
 have HCA:Hid _:=hca
 have HXA:Hid _:=hXa
 have HAK:Hid _:=hak
 have HA:Hid _:=ha
 rw [hak]
 rw [hak]at HD
 have hlt:(k:Int)<(nv:Int):=by omega
 have HL:Hid _:=hlen
 clear h hS hk hc hXa hnv hca ha hb hcap har hn0 hlen hmb hak hpv hmem
 go_enter Tryz.func50,Tryz.ntmps50
 go_wp2_with (go_at_call 69;fail)
 refine(mHasV base p X F w HI.out hT (k:Int) hvr HD.out).mono ?_
 rintro e w1 ⟨rfl,b1⟩
 replace q3:=(b1.cell (p:=⟨p,3,none⟩) lp).trans q3
 replace u4:=(b1.cell (p:=⟨g,k*5+4,none⟩) hg).trans u4
 have hl:=HL.out w1 b1
 have z1:=b1.size
 go_wp2_with (go_at_call 66;fail)
 refine(mPutV base (some ⟨g,0,none⟩) nv ca X.xs w1 (OwnS.below HO.out b1) hnv1 (by omega) k (by omega) 0 0 0 0 none rfl).mono ?_
 rintro e w2 ⟨a2,n2,c2,xs2,rfl,hP⟩
 have HP:Hid _:=hP
 have k2:=hP.2.2.2.2.2
 have row2:=(HI.out.below b1).row.keep k2 (by omega) ngp
 have s3:=row2.cell 3 _ rfl
 have fz:=row2.free 3 (by simp)
 rw [HXA.out,←HNV.out,←HCA.out]at s3
 obtain⟨g1,g2,g3,g4,g5,g6⟩:=hP
 rw [HNV.out]at g2 g4
 obtain rfl:n2=X.nv:=g2 (by rw [←HNV.out];omega)
 have hI1:=HI.out.below b1
 rw [←HXA.out]at g5 g6
 have HT:Hid _:=hI1.turnA (a':=a2) (n':=X.nv) (c':=c2) (xs':=xs2) g6 g3 g5
 have HG4:Hid _:=g4
 have z2:=g6.size
 obtain⟨W,hW⟩: ∃ W,W=w2.setCell ⟨p,3,none⟩ (.slice a2 X.nv c2):=⟨_,rfl⟩
 have zW:W.heap.size=w2.heap.size:=by rw [hW];simp
 have HT2:Hid (MeI base p { X with a:=a2,nv:=X.nv,ca:=c2,xs:=xs2,κ:=paint X.κ w1.heap.size 3 } (more F w1.heap.size w2.heap.size) W∧Keep F w1 W):=by unfold Hid;rw [hW];exact HT.out
 have m1:=HT2.out.1.row.cell 1 _ rfl
 have HZW:Hid _:=zW
 rw [←HPV.out]at m1
 have hW':=hW.symm
 clear HT hW g1 g2 g3 g4 g5 g6 HP row2 k2 zW
 go_wp2_with (go_at_call 95;fail)
 rw [HPV.out]
 refine(mFree HT2.out.1.arv hT (n:=(k:Int)) (of_decide_eq_true HD.out.symm)).mono ?_
 rintro e w4 ⟨rfl,k4,Fv',a4,s4⟩
 go_wp2
 go_ret
 have hI4:=(HT2.out.1.turnV k4 a4 s4).lessM (L:=fun u=>u≠a.no∧X.Lv u) (fun v h=>h.2)
 have hzw:=HZW.out
 have z4:=k4.size
 refine⟨rfl,?_,_,⟨_,hI4,?_⟩,?_⟩
 ·exact((Keep.of b1).trans HT2.out.2 (fun k f=>Or.inl f)).trans k4 (fun k f=>Or.inl (HI.out.c1 k f).1)
 ·rw [←HAK.out]
  apply MeOk.dropV HS.out HK.out HA.out k HAK.out
  ·exact HG4.out
  ·rfl
  ·show X.av.freed a.no=S.av.freed a.no
   rw [HS.out.av]
  ·rfl
  ·rfl
  ·rfl
  ·rfl
  ·rfl
  ·rfl
  ·rfl
  ·rfl
 ·intro q hq
  rcases hq with(f|f)|f
  ·exact Or.inl f
  ·right;omega
  ·right;omega
end Go.Proofs.YtaadknpjbogkbaaGreat
