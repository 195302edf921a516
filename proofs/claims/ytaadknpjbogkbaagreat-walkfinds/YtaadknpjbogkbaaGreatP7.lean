/-
  Joined texts, part 7:
  What zelligeref11's Place answers.
  The document's mesh: its arenas and its lists, one at a time.
  What zelligeref11's AddVert does.
  A region whose order is open and whose last operation writes what the others read: the con
  Vertices, faces and faces with their numbers that are the same are equal.
  What zelligeref11's New, Dump and Same do.
  Offs whose differences don't wrap.
  What zelligeref11's Twin answers, corner 0, the same way.
  What zelligeref11's Twin answers, corner 1, the same way.
-/
import Derived.Test.YtaadknpjbogkbaaGreatP6
import Derived.Test.YtaadknpjbogkbaaGreatP2
import Derived.Test.YtaadknpjbogkbaaGreatP1
import Derived.ChangeKeysEq
namespace Go.Proofs.YtaadknpjbogkbaaGreat
open Go.RowKit
set_option linter.unusedVariables false
abbrev In64(x:Int):Prop:= -9223372036854775808≤x∧x≤9223372036854775807
structure Vt64(v:Vt):Prop where
 no:In64 v.no
 x:In64 v.x
 y:In64 v.y
 id:In64 v.id
structure Tr64(t:Tr):Prop where
 v: ∀ i,In64 (t.v i)
 x: ∀ i,In64 (t.x i)
 y: ∀ i,In64 (t.y i)
set_option maxRecDepth 100000 in
set_option maxHeartbeats 1000000 in
theorem place_0(p:Nat)(S:Ms)(t:Tr)(w:World)(h:MeLook p S w)(hV:S.V.length≤1000)(hn:In64 S.n)(hvs: ∀ v∈S.V,Vt64 v)(ht:Tr64 t)(k:Nat)(v:Vt)(hk:fAt Vt.no t.v0 S.V 0=(k:Int))(hv:S.V[k]? =some v)
  {X Y:Int} {ok:Bool} (hok:ok=plOk S t 0) (hX:X=plX S t 0) (hY:Y=plY S t 0):
  Calls Tryz.prog 93 #[ptR p,trV t, .int .i64 0] w fun e w'=>e= .returned (.tuple #[.agg #[.int .i64 X, .int .i64 Y], .bool ok])∧Below w.heap.size w w':=by
 have hps:=pos_at hk hv
 have HT:Hid (ok=atC v.x v.y t.x0 t.y0 S.n):=by unfold Hid;rw [hok];unfold plOk;rw [show t.v 0=t.v0 from rfl,hps];rfl
 have HX:Hid (X=if ok then v.x+t.x0*S.n else 0):=by unfold Hid;rw [hX,hok];unfold plX;rw [show t.v 0=t.v0 from rfl,hps];rfl
 have HY:Hid (Y=if ok then v.y+t.y0*S.n else 0):=by unfold Hid;rw [hY,hok];unfold plY;rw [show t.v 0=t.v0 from rfl,hps];rfl
 have hvv:=hvs v (List.mem_of_getElem? hv)
 have BX:Hid _:=hvv.x
 have BY:Hid _:=hvv.y
 have BI:Hid (In64 t.x0):=ht.x 0
 have BK:Hid (In64 t.y0):=ht.y 0
 have BS:Hid _:=hn
 obtain⟨b,c,y1,y2,y3,hrow,hc,hbl,g0,g1,g2,g3⟩:=h.vert hv
 have hlt:=(List.getElem?_eq_some_iff.1 hv).1
 have hpl:=hrow.lt
 have HL:Hid _:=h
 have HKK:Hid _:=hk.symm
 have q0:=hrow.cell 0 _ rfl
 have q3:=hrow.cell 3 _ rfl
 obtain⟨n,hnn⟩: ∃ n,n=S.V.length:=⟨_,rfl⟩
 rw [←hnn]at q3 hlt hc hV
 have HV:Hid (S.V.length≤1000):=by unfold Hid;omega
 obtain⟨sd,hsd⟩: ∃ sd,sd=S.n:=⟨_,rfl⟩
 rw [←hsd]at q0 HT HX HY BS
 clear h hk hv hvs ht hvv hps hok hX hY hrow hnn hsd hn
 go_enter Tryz.func93,Tryz.ntmps93
 go_wp2
 obtain⟨W,hW⟩: ∃ W,W=(w.alloc (.cells (trC t).toArray 49)).alloc (.cells ([.int .i64 0, .int .i64 0]:List Value).toArray 24):=⟨_,rfl⟩
 have BW:Below w.heap.size w W:=by rw [hW];exact((Below.refl _ _).alloc (Nat.le_refl _) _).alloc (by simp) _
 have zW:W.heap.size=w.heap.size+2:=by rw [hW];simp
 have rA:Row W w.heap.size (trC t):=by rw [hW];exact(Row.new w (trC t) _).alloc _ (by simp)
 have rB:Row W (w.heap.size+1) [.int .i64 0, .int .i64 0]:=by rw [hW];have:=Row.new (w.alloc (.cells (trC t).toArray 49)) [.int .i64 0, .int .i64 0] 24;simpa using this
 have hW':(w.alloc (.cells #[.int .i64 t.v0, .int .i64 t.v1, .int .i64 t.v2, .int .i64 t.x0, .int .i64 t.y0, .int .i64 t.x1, .int .i64 t.y1, .int .i64 t.x2, .int .i64 t.y2] 49)).alloc (.cells #[.int .i64 0, .int .i64 0] 24)=W:=hW.symm
 rw [hW']
 have a0:=rA.cell 0 _ rfl
 have a1:=rA.cell 3 _ rfl
 have a2:=rA.cell 4 _ rfl
 have q0:=(BW.cell (p:=⟨p,0,none⟩) hpl).trans q0
 have q3:=(BW.cell (p:=⟨p,3,none⟩) hpl).trans q3
 have g1:=(BW.cell (p:=⟨b,k*4+1,none⟩) hbl).trans g1
 have g2:=(BW.cell (p:=⟨b,k*4+2,none⟩) hbl).trans g2
 have f0:=rB.free 0 (by simp)
 have f1:=rB.free 1 (by simp)
 have e0:=rB.cell 0 _ rfl
 have e1:=rB.cell 1 _ rfl
 have hpW:p<W.heap.size:=by omega
 have hbW:b<W.heap.size:=by omega
 have hAW:w.heap.size<W.heap.size:=by omega
 have hBW:w.heap.size+1<W.heap.size:=by omega
 have HLW:Hid (MeLook p S W.drew):=HL.out.below BW.drew
 have HB:Hid _:=BW
 clear hW hW' rA HL BW zW
 refine wp_region_held_drew (S:=fun w'=>w'.cell? ⟨p,0,none⟩=some (.int .i64 sd)∧w'.cell? ⟨p,3,none⟩=some (.slice (some ⟨b,0,none⟩) n c)∧w'.cell? ⟨b,k*4+1,none⟩=some (.int .i64 v.x)∧w'.cell? ⟨b,k*4+2,none⟩=some (.int .i64 v.y)∧w'.cell? ⟨w.heap.size,0,none⟩=some (.int .i64 t.v0)∧w'.cell? ⟨w.heap.size,3,none⟩=some (.int .i64 t.x0)∧w'.cell? ⟨w.heap.size,4,none⟩=some (.int .i64 t.y0)) (by kernel_rfl) ?_ (fun hHeld=>?_)
 ·exact⟨q0,q3,g1,g2,a0,a1,a2⟩
 refine tn 0 ?_;refine tn 1 ?_;refine tn 2 ?_;refine tn 3 ?_;refine tn 4 ?_;refine tn 5 ?_;refine tn 6 ?_;refine tn 7 ?_;refine tn 8 ?_;refine tn 13 ?_;refine tn 14 ?_;refine tn 15 ?_;refine tn 16 ?_;refine tn 17 ?_;refine tn 18 ?_;refine tn 19 ?_;refine tn 20 ?_
 simp only [Act.put,ps1,ps2,ps3]
 refine tcl 9 fun Kc hK=>?_
 go_simp
 (go_at_call 92;refine(mrVertAt p S t.v0 W.drew HLW.out HV.out HKK.out).mono ?_;rintro e w1 ⟨rfl,b1⟩)
 refine hK.out _ _ ?_ (fun hHeld=>?_)
 ·exact⟨(b1.cell (p:=⟨p,0,none⟩) hpW).trans q0,(b1.cell (p:=⟨p,3,none⟩) hpW).trans q3,(b1.cell (p:=⟨b,k*4+1,none⟩) hbW).trans g1,(b1.cell (p:=⟨b,k*4+2,none⟩) hbW).trans g2,(b1.cell (p:=⟨w.heap.size,0,none⟩) hAW).trans a0,(b1.cell (p:=⟨w.heap.size,3,none⟩) hAW).trans a1,(b1.cell (p:=⟨w.heap.size,4,none⟩) hAW).trans a2⟩
 clear hK Kc
 refine tn 10 ?_;refine tn 11 ?_;refine tn 12 ?_
 simp only [Act.put,ps1,ps2,ps3]
 refine tcl 21 fun Kc hK=>?_
 go_simp
 (go_at_call 15;refine(rlAt v.x v.y t.x0 t.y0 sd w1 BX BY BI BK BS HT.out HX.out HY.out).mono ?_;rintro e w2 ⟨rfl,b2⟩)
 refine hK.out _ _ ?_ (fun hHeld=>?_)
 ·exact⟨(b2.cell (p:=⟨p,0,none⟩) (Nat.lt_of_lt_of_le hpW b1.size)).trans ((b1.cell (p:=⟨p,0,none⟩) hpW).trans q0),(b2.cell (p:=⟨p,3,none⟩) (Nat.lt_of_lt_of_le hpW b1.size)).trans ((b1.cell (p:=⟨p,3,none⟩) hpW).trans q3),(b2.cell (p:=⟨b,k*4+1,none⟩) (Nat.lt_of_lt_of_le hbW b1.size)).trans ((b1.cell (p:=⟨b,k*4+1,none⟩) hbW).trans g1),(b2.cell (p:=⟨b,k*4+2,none⟩) (Nat.lt_of_lt_of_le hbW b1.size)).trans ((b1.cell (p:=⟨b,k*4+2,none⟩) hbW).trans g2),(b2.cell (p:=⟨w.heap.size,0,none⟩) (Nat.lt_of_lt_of_le hAW b1.size)).trans ((b1.cell (p:=⟨w.heap.size,0,none⟩) hAW).trans a0),(b2.cell (p:=⟨w.heap.size,3,none⟩) (Nat.lt_of_lt_of_le hAW b1.size)).trans ((b1.cell (p:=⟨w.heap.size,3,none⟩) hAW).trans a1),(b2.cell (p:=⟨w.heap.size,4,none⟩) (Nat.lt_of_lt_of_le hAW b1.size)).trans ((b1.cell (p:=⟨w.heap.size,4,none⟩) hAW).trans a2)⟩
 clear hK Kc
 refine tn 22 ?_;refine tn 23 ?_
 simp only [Act.put,ps1,ps2,ps3]
 have e0:=(b2.cell (p:=⟨w.heap.size+1,0,none⟩) (Nat.lt_of_lt_of_le hBW b1.size)).trans ((b1.cell (p:=⟨w.heap.size+1,0,none⟩) hBW).trans e0)
 have e1:=(b2.cell (p:=⟨w.heap.size+1,1,none⟩) (Nat.lt_of_lt_of_le hBW b1.size)).trans ((b1.cell (p:=⟨w.heap.size+1,1,none⟩) hBW).trans e1)
 have rB2:=(rB.drew.below b1 hBW).below b2 (Nat.lt_of_lt_of_le hBW b1.size)
 have f0:=rB2.free 0 (by simp)
 have f1:=rB2.free 1 (by simp)
 refine tcl 24 fun Kc hK=>?_
 go_simp
 refine hK.out _ _ ?_ (fun hHeld=>?_)
 ·exact⟨(World.cell?_setCell_other _ _ _ _ (by intro q;simp only [Addr.mk.injEq]at q;omega)).trans ((World.cell?_setCell_other _ _ _ _ (by intro q;simp only [Addr.mk.injEq]at q;omega)).trans ((b2.cell (p:=⟨p,0,none⟩) (Nat.lt_of_lt_of_le hpW b1.size)).trans ((b1.cell (p:=⟨p,0,none⟩) hpW).trans q0))),(World.cell?_setCell_other _ _ _ _ (by intro q;simp only [Addr.mk.injEq]at q;omega)).trans ((World.cell?_setCell_other _ _ _ _ (by intro q;simp only [Addr.mk.injEq]at q;omega)).trans ((b2.cell (p:=⟨p,3,none⟩) (Nat.lt_of_lt_of_le hpW b1.size)).trans ((b1.cell (p:=⟨p,3,none⟩) hpW).trans q3))),(World.cell?_setCell_other _ _ _ _ (by intro q;simp only [Addr.mk.injEq]at q;omega)).trans ((World.cell?_setCell_other _ _ _ _ (by intro q;simp only [Addr.mk.injEq]at q;omega)).trans ((b2.cell (p:=⟨b,k*4+1,none⟩) (Nat.lt_of_lt_of_le hbW b1.size)).trans ((b1.cell (p:=⟨b,k*4+1,none⟩) hbW).trans g1))),(World.cell?_setCell_other _ _ _ _ (by intro q;simp only [Addr.mk.injEq]at q;omega)).trans ((World.cell?_setCell_other _ _ _ _ (by intro q;simp only [Addr.mk.injEq]at q;omega)).trans ((b2.cell (p:=⟨b,k*4+2,none⟩) (Nat.lt_of_lt_of_le hbW b1.size)).trans ((b1.cell (p:=⟨b,k*4+2,none⟩) hbW).trans g2))),(World.cell?_setCell_other _ _ _ _ (by intro q;simp only [Addr.mk.injEq]at q;omega)).trans ((World.cell?_setCell_other _ _ _ _ (by intro q;simp only [Addr.mk.injEq]at q;omega)).trans ((b2.cell (p:=⟨w.heap.size,0,none⟩) (Nat.lt_of_lt_of_le hAW b1.size)).trans ((b1.cell (p:=⟨w.heap.size,0,none⟩) hAW).trans a0))),(World.cell?_setCell_other _ _ _ _ (by intro q;simp only [Addr.mk.injEq]at q;omega)).trans ((World.cell?_setCell_other _ _ _ _ (by intro q;simp only [Addr.mk.injEq]at q;omega)).trans ((b2.cell (p:=⟨w.heap.size,3,none⟩) (Nat.lt_of_lt_of_le hAW b1.size)).trans ((b1.cell (p:=⟨w.heap.size,3,none⟩) hAW).trans a1))),(World.cell?_setCell_other _ _ _ _ (by intro q;simp only [Addr.mk.injEq]at q;omega)).trans ((World.cell?_setCell_other _ _ _ _ (by intro q;simp only [Addr.mk.injEq]at q;omega)).trans ((b2.cell (p:=⟨w.heap.size,4,none⟩) (Nat.lt_of_lt_of_le hAW b1.size)).trans ((b1.cell (p:=⟨w.heap.size,4,none⟩) hAW).trans a2)))⟩
 clear hK Kc
 refine tz (i:=25) rfl ?_
 simp only [Act.put,ps1,ps2,ps3]
 refine wpAnyH_done (by kernel_rfl) ?_ _
 go_wp2
 have rC:=(rB2.set 0 (.int .i64 X) (by simp)).set 1 (.int .i64 Y) (by simp)
 have c0:=rC.cell 0 _ rfl
 have c1:=rC.cell 1 _ rfl
 have BB:Below w.heap.size w w2:=(HB.out.drew.trans (b1.mono HB.out.size)).trans (b2.mono (Nat.le_trans HB.out.size b1.size))
 exact bodyPost_ret (v:= .tuple #[.agg #[.int .i64 X, .int .i64 Y], .bool ok]) (by simp [results,Tryz.results93,go_sem, *]) rfl (⟨rfl,below_put2 BB (by omega) _ _⟩)
set_option maxRecDepth 100000 in
set_option maxHeartbeats 1000000 in
theorem place_1(p:Nat)(S:Ms)(t:Tr)(w:World)(h:MeLook p S w)(hV:S.V.length≤1000)(hn:In64 S.n)(hvs: ∀ v∈S.V,Vt64 v)(ht:Tr64 t)(k:Nat)(v:Vt)(hk:fAt Vt.no t.v1 S.V 0=(k:Int))(hv:S.V[k]? =some v)
  {X Y:Int} {ok:Bool} (hok:ok=plOk S t 1) (hX:X=plX S t 1) (hY:Y=plY S t 1):
  Calls Tryz.prog 93 #[ptR p,trV t, .int .i64 1] w fun e w'=>e= .returned (.tuple #[.agg #[.int .i64 X, .int .i64 Y], .bool ok])∧Below w.heap.size w w':=by
 have hps:=pos_at hk hv
 have HT:Hid (ok=atC v.x v.y t.x1 t.y1 S.n):=by unfold Hid;rw [hok];unfold plOk;rw [show t.v 1=t.v1 from rfl,hps];rfl
 have HX:Hid (X=if ok then v.x+t.x1*S.n else 0):=by unfold Hid;rw [hX,hok];unfold plX;rw [show t.v 1=t.v1 from rfl,hps];rfl
 have HY:Hid (Y=if ok then v.y+t.y1*S.n else 0):=by unfold Hid;rw [hY,hok];unfold plY;rw [show t.v 1=t.v1 from rfl,hps];rfl
 have hvv:=hvs v (List.mem_of_getElem? hv)
 have BX:Hid _:=hvv.x
 have BY:Hid _:=hvv.y
 have BI:Hid (In64 t.x1):=ht.x 1
 have BK:Hid (In64 t.y1):=ht.y 1
 have BS:Hid _:=hn
 obtain⟨b,c,y1,y2,y3,hrow,hc,hbl,g0,g1,g2,g3⟩:=h.vert hv
 have hlt:=(List.getElem?_eq_some_iff.1 hv).1
 have hpl:=hrow.lt
 have HL:Hid _:=h
 have HKK:Hid _:=hk.symm
 have q0:=hrow.cell 0 _ rfl
 have q3:=hrow.cell 3 _ rfl
 obtain⟨n,hnn⟩: ∃ n,n=S.V.length:=⟨_,rfl⟩
 rw [←hnn]at q3 hlt hc hV
 have HV:Hid (S.V.length≤1000):=by unfold Hid;omega
 obtain⟨sd,hsd⟩: ∃ sd,sd=S.n:=⟨_,rfl⟩
 rw [←hsd]at q0 HT HX HY BS
 clear h hk hv hvs ht hvv hps hok hX hY hrow hnn hsd hn
 go_enter Tryz.func93,Tryz.ntmps93
 go_wp2
 obtain⟨W,hW⟩: ∃ W,W=(w.alloc (.cells (trC t).toArray 49)).alloc (.cells ([.int .i64 0, .int .i64 0]:List Value).toArray 24):=⟨_,rfl⟩
 have BW:Below w.heap.size w W:=by rw [hW];exact((Below.refl _ _).alloc (Nat.le_refl _) _).alloc (by simp) _
 have zW:W.heap.size=w.heap.size+2:=by rw [hW];simp
 have rA:Row W w.heap.size (trC t):=by rw [hW];exact(Row.new w (trC t) _).alloc _ (by simp)
 have rB:Row W (w.heap.size+1) [.int .i64 0, .int .i64 0]:=by rw [hW];have:=Row.new (w.alloc (.cells (trC t).toArray 49)) [.int .i64 0, .int .i64 0] 24;simpa using this
 have hW':(w.alloc (.cells #[.int .i64 t.v0, .int .i64 t.v1, .int .i64 t.v2, .int .i64 t.x0, .int .i64 t.y0, .int .i64 t.x1, .int .i64 t.y1, .int .i64 t.x2, .int .i64 t.y2] 49)).alloc (.cells #[.int .i64 0, .int .i64 0] 24)=W:=hW.symm
 rw [hW']
 have a0:=rA.cell 1 _ rfl
 have a1:=rA.cell 5 _ rfl
 have a2:=rA.cell 6 _ rfl
 have q0:=(BW.cell (p:=⟨p,0,none⟩) hpl).trans q0
 have q3:=(BW.cell (p:=⟨p,3,none⟩) hpl).trans q3
 have g1:=(BW.cell (p:=⟨b,k*4+1,none⟩) hbl).trans g1
 have g2:=(BW.cell (p:=⟨b,k*4+2,none⟩) hbl).trans g2
 have f0:=rB.free 0 (by simp)
 have f1:=rB.free 1 (by simp)
 have e0:=rB.cell 0 _ rfl
 have e1:=rB.cell 1 _ rfl
 have hpW:p<W.heap.size:=by omega
 have hbW:b<W.heap.size:=by omega
 have hAW:w.heap.size<W.heap.size:=by omega
 have hBW:w.heap.size+1<W.heap.size:=by omega
 have HLW:Hid (MeLook p S W.drew):=HL.out.below BW.drew
 have HB:Hid _:=BW
 clear hW hW' rA HL BW zW
 refine wp_region_held_drew (S:=fun w'=>w'.cell? ⟨p,0,none⟩=some (.int .i64 sd)∧w'.cell? ⟨p,3,none⟩=some (.slice (some ⟨b,0,none⟩) n c)∧w'.cell? ⟨b,k*4+1,none⟩=some (.int .i64 v.x)∧w'.cell? ⟨b,k*4+2,none⟩=some (.int .i64 v.y)∧w'.cell? ⟨w.heap.size,1,none⟩=some (.int .i64 t.v1)∧w'.cell? ⟨w.heap.size,5,none⟩=some (.int .i64 t.x1)∧w'.cell? ⟨w.heap.size,6,none⟩=some (.int .i64 t.y1)) (by kernel_rfl) ?_ (fun hHeld=>?_)
 ·exact⟨q0,q3,g1,g2,a0,a1,a2⟩
 refine tn 0 ?_;refine tn 1 ?_;refine tn 2 ?_;refine tn 3 ?_;refine tn 4 ?_;refine tn 5 ?_;refine tn 6 ?_;refine tn 7 ?_;refine tn 8 ?_;refine tn 13 ?_;refine tn 14 ?_;refine tn 15 ?_;refine tn 16 ?_;refine tn 17 ?_;refine tn 18 ?_;refine tn 19 ?_;refine tn 20 ?_
 simp only [Act.put,ps1,ps2,ps3]
 refine tcl 9 fun Kc hK=>?_
 go_simp
 (go_at_call 92;refine(mrVertAt p S t.v1 W.drew HLW.out HV.out HKK.out).mono ?_;rintro e w1 ⟨rfl,b1⟩)
 refine hK.out _ _ ?_ (fun hHeld=>?_)
 ·exact⟨(b1.cell (p:=⟨p,0,none⟩) hpW).trans q0,(b1.cell (p:=⟨p,3,none⟩) hpW).trans q3,(b1.cell (p:=⟨b,k*4+1,none⟩) hbW).trans g1,(b1.cell (p:=⟨b,k*4+2,none⟩) hbW).trans g2,(b1.cell (p:=⟨w.heap.size,1,none⟩) hAW).trans a0,(b1.cell (p:=⟨w.heap.size,5,none⟩) hAW).trans a1,(b1.cell (p:=⟨w.heap.size,6,none⟩) hAW).trans a2⟩
 clear hK Kc
 refine tn 10 ?_;refine tn 11 ?_;refine tn 12 ?_
 simp only [Act.put,ps1,ps2,ps3]
 refine tcl 21 fun Kc hK=>?_
 go_simp
 (go_at_call 15;refine(rlAt v.x v.y t.x1 t.y1 sd w1 BX BY BI BK BS HT.out HX.out HY.out).mono ?_;rintro e w2 ⟨rfl,b2⟩)
 refine hK.out _ _ ?_ (fun hHeld=>?_)
 ·exact⟨(b2.cell (p:=⟨p,0,none⟩) (Nat.lt_of_lt_of_le hpW b1.size)).trans ((b1.cell (p:=⟨p,0,none⟩) hpW).trans q0),(b2.cell (p:=⟨p,3,none⟩) (Nat.lt_of_lt_of_le hpW b1.size)).trans ((b1.cell (p:=⟨p,3,none⟩) hpW).trans q3),(b2.cell (p:=⟨b,k*4+1,none⟩) (Nat.lt_of_lt_of_le hbW b1.size)).trans ((b1.cell (p:=⟨b,k*4+1,none⟩) hbW).trans g1),(b2.cell (p:=⟨b,k*4+2,none⟩) (Nat.lt_of_lt_of_le hbW b1.size)).trans ((b1.cell (p:=⟨b,k*4+2,none⟩) hbW).trans g2),(b2.cell (p:=⟨w.heap.size,1,none⟩) (Nat.lt_of_lt_of_le hAW b1.size)).trans ((b1.cell (p:=⟨w.heap.size,1,none⟩) hAW).trans a0),(b2.cell (p:=⟨w.heap.size,5,none⟩) (Nat.lt_of_lt_of_le hAW b1.size)).trans ((b1.cell (p:=⟨w.heap.size,5,none⟩) hAW).trans a1),(b2.cell (p:=⟨w.heap.size,6,none⟩) (Nat.lt_of_lt_of_le hAW b1.size)).trans ((b1.cell (p:=⟨w.heap.size,6,none⟩) hAW).trans a2)⟩
 clear hK Kc
 refine tn 22 ?_;refine tn 23 ?_
 simp only [Act.put,ps1,ps2,ps3]
 have e0:=(b2.cell (p:=⟨w.heap.size+1,0,none⟩) (Nat.lt_of_lt_of_le hBW b1.size)).trans ((b1.cell (p:=⟨w.heap.size+1,0,none⟩) hBW).trans e0)
 have e1:=(b2.cell (p:=⟨w.heap.size+1,1,none⟩) (Nat.lt_of_lt_of_le hBW b1.size)).trans ((b1.cell (p:=⟨w.heap.size+1,1,none⟩) hBW).trans e1)
 have rB2:=(rB.drew.below b1 hBW).below b2 (Nat.lt_of_lt_of_le hBW b1.size)
 have f0:=rB2.free 0 (by simp)
 have f1:=rB2.free 1 (by simp)
 refine tcl 24 fun Kc hK=>?_
 go_simp
 refine hK.out _ _ ?_ (fun hHeld=>?_)
 ·exact⟨(World.cell?_setCell_other _ _ _ _ (by intro q;simp only [Addr.mk.injEq]at q;omega)).trans ((World.cell?_setCell_other _ _ _ _ (by intro q;simp only [Addr.mk.injEq]at q;omega)).trans ((b2.cell (p:=⟨p,0,none⟩) (Nat.lt_of_lt_of_le hpW b1.size)).trans ((b1.cell (p:=⟨p,0,none⟩) hpW).trans q0))),(World.cell?_setCell_other _ _ _ _ (by intro q;simp only [Addr.mk.injEq]at q;omega)).trans ((World.cell?_setCell_other _ _ _ _ (by intro q;simp only [Addr.mk.injEq]at q;omega)).trans ((b2.cell (p:=⟨p,3,none⟩) (Nat.lt_of_lt_of_le hpW b1.size)).trans ((b1.cell (p:=⟨p,3,none⟩) hpW).trans q3))),(World.cell?_setCell_other _ _ _ _ (by intro q;simp only [Addr.mk.injEq]at q;omega)).trans ((World.cell?_setCell_other _ _ _ _ (by intro q;simp only [Addr.mk.injEq]at q;omega)).trans ((b2.cell (p:=⟨b,k*4+1,none⟩) (Nat.lt_of_lt_of_le hbW b1.size)).trans ((b1.cell (p:=⟨b,k*4+1,none⟩) hbW).trans g1))),(World.cell?_setCell_other _ _ _ _ (by intro q;simp only [Addr.mk.injEq]at q;omega)).trans ((World.cell?_setCell_other _ _ _ _ (by intro q;simp only [Addr.mk.injEq]at q;omega)).trans ((b2.cell (p:=⟨b,k*4+2,none⟩) (Nat.lt_of_lt_of_le hbW b1.size)).trans ((b1.cell (p:=⟨b,k*4+2,none⟩) hbW).trans g2))),(World.cell?_setCell_other _ _ _ _ (by intro q;simp only [Addr.mk.injEq]at q;omega)).trans ((World.cell?_setCell_other _ _ _ _ (by intro q;simp only [Addr.mk.injEq]at q;omega)).trans ((b2.cell (p:=⟨w.heap.size,1,none⟩) (Nat.lt_of_lt_of_le hAW b1.size)).trans ((b1.cell (p:=⟨w.heap.size,1,none⟩) hAW).trans a0))),(World.cell?_setCell_other _ _ _ _ (by intro q;simp only [Addr.mk.injEq]at q;omega)).trans ((World.cell?_setCell_other _ _ _ _ (by intro q;simp only [Addr.mk.injEq]at q;omega)).trans ((b2.cell (p:=⟨w.heap.size,5,none⟩) (Nat.lt_of_lt_of_le hAW b1.size)).trans ((b1.cell (p:=⟨w.heap.size,5,none⟩) hAW).trans a1))),(World.cell?_setCell_other _ _ _ _ (by intro q;simp only [Addr.mk.injEq]at q;omega)).trans ((World.cell?_setCell_other _ _ _ _ (by intro q;simp only [Addr.mk.injEq]at q;omega)).trans ((b2.cell (p:=⟨w.heap.size,6,none⟩) (Nat.lt_of_lt_of_le hAW b1.size)).trans ((b1.cell (p:=⟨w.heap.size,6,none⟩) hAW).trans a2)))⟩
 clear hK Kc
 refine tz (i:=25) rfl ?_
 simp only [Act.put,ps1,ps2,ps3]
 refine wpAnyH_done (by kernel_rfl) ?_ _
 go_wp2
 have rC:=(rB2.set 0 (.int .i64 X) (by simp)).set 1 (.int .i64 Y) (by simp)
 have c0:=rC.cell 0 _ rfl
 have c1:=rC.cell 1 _ rfl
 have BB:Below w.heap.size w w2:=(HB.out.drew.trans (b1.mono HB.out.size)).trans (b2.mono (Nat.le_trans HB.out.size b1.size))
 exact bodyPost_ret (v:= .tuple #[.agg #[.int .i64 X, .int .i64 Y], .bool ok]) (by simp [results,Tryz.results93,go_sem, *]) rfl (⟨rfl,below_put2 BB (by omega) _ _⟩)
set_option maxRecDepth 100000 in
set_option maxHeartbeats 1000000 in
theorem place_2(p:Nat)(S:Ms)(t:Tr)(w:World)(h:MeLook p S w)(hV:S.V.length≤1000)(hn:In64 S.n)(hvs: ∀ v∈S.V,Vt64 v)(ht:Tr64 t)(k:Nat)(v:Vt)(hk:fAt Vt.no t.v2 S.V 0=(k:Int))(hv:S.V[k]? =some v)
  {X Y:Int} {ok:Bool} (hok:ok=plOk S t 2) (hX:X=plX S t 2) (hY:Y=plY S t 2):
  Calls Tryz.prog 93 #[ptR p,trV t, .int .i64 2] w fun e w'=>e= .returned (.tuple #[.agg #[.int .i64 X, .int .i64 Y], .bool ok])∧Below w.heap.size w w':=by
 have hps:=pos_at hk hv
 have HT:Hid (ok=atC v.x v.y t.x2 t.y2 S.n):=by unfold Hid;rw [hok];unfold plOk;rw [show t.v 2=t.v2 from rfl,hps];rfl
 have HX:Hid (X=if ok then v.x+t.x2*S.n else 0):=by unfold Hid;rw [hX,hok];unfold plX;rw [show t.v 2=t.v2 from rfl,hps];rfl
 have HY:Hid (Y=if ok then v.y+t.y2*S.n else 0):=by unfold Hid;rw [hY,hok];unfold plY;rw [show t.v 2=t.v2 from rfl,hps];rfl
 have hvv:=hvs v (List.mem_of_getElem? hv)
 have BX:Hid _:=hvv.x
 have BY:Hid _:=hvv.y
 have BI:Hid (In64 t.x2):=ht.x 2
 have BK:Hid (In64 t.y2):=ht.y 2
 have BS:Hid _:=hn
 obtain⟨b,c,y1,y2,y3,hrow,hc,hbl,g0,g1,g2,g3⟩:=h.vert hv
 have hlt:=(List.getElem?_eq_some_iff.1 hv).1
 have hpl:=hrow.lt
 have HL:Hid _:=h
 have HKK:Hid _:=hk.symm
 have q0:=hrow.cell 0 _ rfl
 have q3:=hrow.cell 3 _ rfl
 obtain⟨n,hnn⟩: ∃ n,n=S.V.length:=⟨_,rfl⟩
 rw [←hnn]at q3 hlt hc hV
 have HV:Hid (S.V.length≤1000):=by unfold Hid;omega
 obtain⟨sd,hsd⟩: ∃ sd,sd=S.n:=⟨_,rfl⟩
 rw [←hsd]at q0 HT HX HY BS
 clear h hk hv hvs ht hvv hps hok hX hY hrow hnn hsd hn
 go_enter Tryz.func93,Tryz.ntmps93
 go_wp2
 obtain⟨W,hW⟩: ∃ W,W=(w.alloc (.cells (trC t).toArray 49)).alloc (.cells ([.int .i64 0, .int .i64 0]:List Value).toArray 24):=⟨_,rfl⟩
 have BW:Below w.heap.size w W:=by rw [hW];exact((Below.refl _ _).alloc (Nat.le_refl _) _).alloc (by simp) _
 have zW:W.heap.size=w.heap.size+2:=by rw [hW];simp
 have rA:Row W w.heap.size (trC t):=by rw [hW];exact(Row.new w (trC t) _).alloc _ (by simp)
 have rB:Row W (w.heap.size+1) [.int .i64 0, .int .i64 0]:=by rw [hW];have:=Row.new (w.alloc (.cells (trC t).toArray 49)) [.int .i64 0, .int .i64 0] 24;simpa using this
 have hW':(w.alloc (.cells #[.int .i64 t.v0, .int .i64 t.v1, .int .i64 t.v2, .int .i64 t.x0, .int .i64 t.y0, .int .i64 t.x1, .int .i64 t.y1, .int .i64 t.x2, .int .i64 t.y2] 49)).alloc (.cells #[.int .i64 0, .int .i64 0] 24)=W:=hW.symm
 rw [hW']
 have a0:=rA.cell 2 _ rfl
 have a1:=rA.cell 7 _ rfl
 have a2:=rA.cell 8 _ rfl
 have q0:=(BW.cell (p:=⟨p,0,none⟩) hpl).trans q0
 have q3:=(BW.cell (p:=⟨p,3,none⟩) hpl).trans q3
 have g1:=(BW.cell (p:=⟨b,k*4+1,none⟩) hbl).trans g1
 have g2:=(BW.cell (p:=⟨b,k*4+2,none⟩) hbl).trans g2
 have f0:=rB.free 0 (by simp)
 have f1:=rB.free 1 (by simp)
 have e0:=rB.cell 0 _ rfl
 have e1:=rB.cell 1 _ rfl
 have hpW:p<W.heap.size:=by omega
 have hbW:b<W.heap.size:=by omega
 have hAW:w.heap.size<W.heap.size:=by omega
 have hBW:w.heap.size+1<W.heap.size:=by omega
 have HLW:Hid (MeLook p S W.drew):=HL.out.below BW.drew
 have HB:Hid _:=BW
 clear hW hW' rA HL BW zW
 refine wp_region_held_drew (S:=fun w'=>w'.cell? ⟨p,0,none⟩=some (.int .i64 sd)∧w'.cell? ⟨p,3,none⟩=some (.slice (some ⟨b,0,none⟩) n c)∧w'.cell? ⟨b,k*4+1,none⟩=some (.int .i64 v.x)∧w'.cell? ⟨b,k*4+2,none⟩=some (.int .i64 v.y)∧w'.cell? ⟨w.heap.size,2,none⟩=some (.int .i64 t.v2)∧w'.cell? ⟨w.heap.size,7,none⟩=some (.int .i64 t.x2)∧w'.cell? ⟨w.heap.size,8,none⟩=some (.int .i64 t.y2)) (by kernel_rfl) ?_ (fun hHeld=>?_)
 ·exact⟨q0,q3,g1,g2,a0,a1,a2⟩
 refine tn 0 ?_;refine tn 1 ?_;refine tn 2 ?_;refine tn 3 ?_;refine tn 4 ?_;refine tn 5 ?_;refine tn 6 ?_;refine tn 7 ?_;refine tn 8 ?_;refine tn 13 ?_;refine tn 14 ?_;refine tn 15 ?_;refine tn 16 ?_;refine tn 17 ?_;refine tn 18 ?_;refine tn 19 ?_;refine tn 20 ?_
 simp only [Act.put,ps1,ps2,ps3]
 refine tcl 9 fun Kc hK=>?_
 go_simp
 (go_at_call 92;refine(mrVertAt p S t.v2 W.drew HLW.out HV.out HKK.out).mono ?_;rintro e w1 ⟨rfl,b1⟩)
 refine hK.out _ _ ?_ (fun hHeld=>?_)
 ·exact⟨(b1.cell (p:=⟨p,0,none⟩) hpW).trans q0,(b1.cell (p:=⟨p,3,none⟩) hpW).trans q3,(b1.cell (p:=⟨b,k*4+1,none⟩) hbW).trans g1,(b1.cell (p:=⟨b,k*4+2,none⟩) hbW).trans g2,(b1.cell (p:=⟨w.heap.size,2,none⟩) hAW).trans a0,(b1.cell (p:=⟨w.heap.size,7,none⟩) hAW).trans a1,(b1.cell (p:=⟨w.heap.size,8,none⟩) hAW).trans a2⟩
 clear hK Kc
 refine tn 10 ?_;refine tn 11 ?_;refine tn 12 ?_
 simp only [Act.put,ps1,ps2,ps3]
 refine tcl 21 fun Kc hK=>?_
 go_simp
 (go_at_call 15;refine(rlAt v.x v.y t.x2 t.y2 sd w1 BX BY BI BK BS HT.out HX.out HY.out).mono ?_;rintro e w2 ⟨rfl,b2⟩)
 refine hK.out _ _ ?_ (fun hHeld=>?_)
 ·exact⟨(b2.cell (p:=⟨p,0,none⟩) (Nat.lt_of_lt_of_le hpW b1.size)).trans ((b1.cell (p:=⟨p,0,none⟩) hpW).trans q0),(b2.cell (p:=⟨p,3,none⟩) (Nat.lt_of_lt_of_le hpW b1.size)).trans ((b1.cell (p:=⟨p,3,none⟩) hpW).trans q3),(b2.cell (p:=⟨b,k*4+1,none⟩) (Nat.lt_of_lt_of_le hbW b1.size)).trans ((b1.cell (p:=⟨b,k*4+1,none⟩) hbW).trans g1),(b2.cell (p:=⟨b,k*4+2,none⟩) (Nat.lt_of_lt_of_le hbW b1.size)).trans ((b1.cell (p:=⟨b,k*4+2,none⟩) hbW).trans g2),(b2.cell (p:=⟨w.heap.size,2,none⟩) (Nat.lt_of_lt_of_le hAW b1.size)).trans ((b1.cell (p:=⟨w.heap.size,2,none⟩) hAW).trans a0),(b2.cell (p:=⟨w.heap.size,7,none⟩) (Nat.lt_of_lt_of_le hAW b1.size)).trans ((b1.cell (p:=⟨w.heap.size,7,none⟩) hAW).trans a1),(b2.cell (p:=⟨w.heap.size,8,none⟩) (Nat.lt_of_lt_of_le hAW b1.size)).trans ((b1.cell (p:=⟨w.heap.size,8,none⟩) hAW).trans a2)⟩
 clear hK Kc
 refine tn 22 ?_;refine tn 23 ?_
 simp only [Act.put,ps1,ps2,ps3]
 have e0:=(b2.cell (p:=⟨w.heap.size+1,0,none⟩) (Nat.lt_of_lt_of_le hBW b1.size)).trans ((b1.cell (p:=⟨w.heap.size+1,0,none⟩) hBW).trans e0)
 have e1:=(b2.cell (p:=⟨w.heap.size+1,1,none⟩) (Nat.lt_of_lt_of_le hBW b1.size)).trans ((b1.cell (p:=⟨w.heap.size+1,1,none⟩) hBW).trans e1)
 have rB2:=(rB.drew.below b1 hBW).below b2 (Nat.lt_of_lt_of_le hBW b1.size)
 have f0:=rB2.free 0 (by simp)
 have f1:=rB2.free 1 (by simp)
 refine tcl 24 fun Kc hK=>?_
 go_simp
 refine hK.out _ _ ?_ (fun hHeld=>?_)
 ·exact⟨(World.cell?_setCell_other _ _ _ _ (by intro q;simp only [Addr.mk.injEq]at q;omega)).trans ((World.cell?_setCell_other _ _ _ _ (by intro q;simp only [Addr.mk.injEq]at q;omega)).trans ((b2.cell (p:=⟨p,0,none⟩) (Nat.lt_of_lt_of_le hpW b1.size)).trans ((b1.cell (p:=⟨p,0,none⟩) hpW).trans q0))),(World.cell?_setCell_other _ _ _ _ (by intro q;simp only [Addr.mk.injEq]at q;omega)).trans ((World.cell?_setCell_other _ _ _ _ (by intro q;simp only [Addr.mk.injEq]at q;omega)).trans ((b2.cell (p:=⟨p,3,none⟩) (Nat.lt_of_lt_of_le hpW b1.size)).trans ((b1.cell (p:=⟨p,3,none⟩) hpW).trans q3))),(World.cell?_setCell_other _ _ _ _ (by intro q;simp only [Addr.mk.injEq]at q;omega)).trans ((World.cell?_setCell_other _ _ _ _ (by intro q;simp only [Addr.mk.injEq]at q;omega)).trans ((b2.cell (p:=⟨b,k*4+1,none⟩) (Nat.lt_of_lt_of_le hbW b1.size)).trans ((b1.cell (p:=⟨b,k*4+1,none⟩) hbW).trans g1))),(World.cell?_setCell_other _ _ _ _ (by intro q;simp only [Addr.mk.injEq]at q;omega)).trans ((World.cell?_setCell_other _ _ _ _ (by intro q;simp only [Addr.mk.injEq]at q;omega)).trans ((b2.cell (p:=⟨b,k*4+2,none⟩) (Nat.lt_of_lt_of_le hbW b1.size)).trans ((b1.cell (p:=⟨b,k*4+2,none⟩) hbW).trans g2))),(World.cell?_setCell_other _ _ _ _ (by intro q;simp only [Addr.mk.injEq]at q;omega)).trans ((World.cell?_setCell_other _ _ _ _ (by intro q;simp only [Addr.mk.injEq]at q;omega)).trans ((b2.cell (p:=⟨w.heap.size,2,none⟩) (Nat.lt_of_lt_of_le hAW b1.size)).trans ((b1.cell (p:=⟨w.heap.size,2,none⟩) hAW).trans a0))),(World.cell?_setCell_other _ _ _ _ (by intro q;simp only [Addr.mk.injEq]at q;omega)).trans ((World.cell?_setCell_other _ _ _ _ (by intro q;simp only [Addr.mk.injEq]at q;omega)).trans ((b2.cell (p:=⟨w.heap.size,7,none⟩) (Nat.lt_of_lt_of_le hAW b1.size)).trans ((b1.cell (p:=⟨w.heap.size,7,none⟩) hAW).trans a1))),(World.cell?_setCell_other _ _ _ _ (by intro q;simp only [Addr.mk.injEq]at q;omega)).trans ((World.cell?_setCell_other _ _ _ _ (by intro q;simp only [Addr.mk.injEq]at q;omega)).trans ((b2.cell (p:=⟨w.heap.size,8,none⟩) (Nat.lt_of_lt_of_le hAW b1.size)).trans ((b1.cell (p:=⟨w.heap.size,8,none⟩) hAW).trans a2)))⟩
 clear hK Kc
 refine tz (i:=25) rfl ?_
 simp only [Act.put,ps1,ps2,ps3]
 refine wpAnyH_done (by kernel_rfl) ?_ _
 go_wp2
 have rC:=(rB2.set 0 (.int .i64 X) (by simp)).set 1 (.int .i64 Y) (by simp)
 have c0:=rC.cell 0 _ rfl
 have c1:=rC.cell 1 _ rfl
 have BB:Below w.heap.size w w2:=(HB.out.drew.trans (b1.mono HB.out.size)).trans (b2.mono (Nat.le_trans HB.out.size b1.size))
 exact bodyPost_ret (v:= .tuple #[.agg #[.int .i64 X, .int .i64 Y], .bool ok]) (by simp [results,Tryz.results93,go_sem, *]) rfl (⟨rfl,below_put2 BB (by omega) _ _⟩)
theorem mrPlace(p:Nat)(S:Ms)(t:Tr)(i:Nat)(w:World)(hi:i<3)(h:MeLook p S w)(hV:S.V.length≤1000)(hn:In64 S.n)(hvs: ∀ v∈S.V,Vt64 v)(ht:Tr64 t)(hk:isV S (t.v i)=true){X Y:Int}{ok:Bool}(hok:ok=plOk S t i)(hX:X=plX S t i)(hY:Y=plY S t i):
  Calls Tryz.prog 93 #[ptR p,trV t, .int .i64 (i:Int)] w fun e w'=>e= .returned (.tuple #[.agg #[.int .i64 X, .int .i64 Y], .bool ok])∧Below w.heap.size w w':=by
 unfold isV at hk
 have hk:=of_decide_eq_true hk
 rcases fAt_cases Vt.no (t.v i) S.V with⟨h1,_⟩|⟨k,v,h1,h2,_⟩
 ·omega
 ·rcases(by omega:i=0∨i=1∨i=2)with rfl|rfl|rfl
  ·exact place_0 p S t w h hV hn hvs ht k v h1 h2 hok hX hY
  ·exact place_1 p S t w h hV hn hvs ht k v h1 h2 hok hX hY
  ·exact place_2 p S t w h hV hn hvs ht k v h1 h2 hok hX hY
theorem MeR.focusV{base p:Nat}{S:Ms}{F:Nat→Prop}{w:World}(h:MeR base p S F w): ∃ (q:Nat) (G:Nat→Prop),w.cell? ⟨p,1,none⟩=some (ptR q)∧(∀ k,G k→F k∧k≠p)∧ArR base q S.av.L S.av.B S.av.T G w∧(∀ w1,Keep G w w1→MeLook p S w1)∧ ∀ (A:Ar) (w1:World),Left (ArR base q A.L A.B A.T) G w w1→Left (MeR base p { S with av:=A }) F w w1:=by
 obtain⟨pv,pf,Fv,Ff,a,ca,b,cb,hrow,hv,hf,ha,hb,hp,hFv,hFf,hFa,hFb⟩:=h.ex
 have hft:=h.ft
 have hbase:base≤w.heap.size:=by have:=hft p hp;omega
 refine⟨pv,Fv,hrow.cell 1 _ rfl,fun k s=>⟨(hFv k s).1,(hFv k s).2⟩,hv,fun w1 k1=>⟨_,_,base,a,ca,b,cb,hrow.keep k1 hrow.lt (fun s=>(hFv p s).2 rfl),ha.keep k1 (fun k s=>(hFa k s).2.2.1),hb.keep k1 (fun k s=>(hFb k s).2.2.1)⟩,?_⟩
 rintro A w1 ⟨k1,G',h1,hs⟩
 have kF:Keep F w w1:=k1.mono (fun k s=>(hFv k s).1)
 have hG': ∀ k,G' k→F k∨w.heap.size≤k:=fun k s=>(hs k s).imp (fun s=>(hFv k s).1) id
 have hpl:p<w.heap.size:=hrow.lt
 have no: ∀ k,k<w.heap.size→ ¬Fv k→ ¬G' k:=fun k hk n s=>(hs k s).elim n (fun e=>by omega)
 refine⟨kF,fun k=>F k∨(w.heap.size≤k∧k<w1.heap.size),⟨⟨pv,pf,G',Ff,a,ca,b,cb,hrow.keep k1 hpl (fun s=>(hFv p s).2 rfl),h1,hf.keep k1 (fun k s=>(hFf k s).2.2),ha.keep k1 (fun k s=>(hFa k s).2.2.1),hb.keep k1 (fun k s=>(hFb k s).2.2.1),Or.inl hp,(fun k s=>⟨(hG' k s).imp id (fun e=>⟨e,(h1.ft k s).2⟩),fun e=>no p hpl (fun s=>(hFv p s).2 rfl) (e▸s)⟩),(fun k s=>⟨Or.inl (hFf k s).1,(hFf k s).2.1,no k (hf.ft k s).2 (hFf k s).2.2⟩),(fun k s=>⟨Or.inl (hFa k s).1,(hFa k s).2.1,no k (ha.lt s).1 (hFa k s).2.2.1,(hFa k s).2.2.2⟩),(fun k s=>⟨Or.inl (hFb k s).1,(hFb k s).2.1,no k (hb.lt s).1 (hFb k s).2.2.1,(hFb k s).2.2.2⟩)⟩,?_⟩,fun k s=>s.imp id (fun e=>e.1)⟩
 intro k s
 have:=kF.size
 rcases s with e|e
 ·exact⟨(hft k e).1,by have:=(hft k e).2;omega⟩
 ·exact⟨by omega,e.2⟩
theorem MeR.focusF{base p:Nat}{S:Ms}{F:Nat→Prop}{w:World}(h:MeR base p S F w): ∃ (q:Nat) (G:Nat→Prop),w.cell? ⟨p,2,none⟩=some (ptR q)∧(∀ k,G k→F k∧k≠p)∧ArR base q S.af.L S.af.B S.af.T G w∧(∀ w1,Keep G w w1→MeLook p S w1)∧ ∀ (A:Ar) (w1:World),Left (ArR base q A.L A.B A.T) G w w1→Left (MeR base p { S with af:=A }) F w w1:=by
 obtain⟨pv,pf,Fv,Ff,a,ca,b,cb,hrow,hv,hf,ha,hb,hp,hFv,hFf,hFa,hFb⟩:=h.ex
 have hft:=h.ft
 have hbase:base≤w.heap.size:=by have:=hft p hp;omega
 refine⟨pf,Ff,hrow.cell 2 _ rfl,fun k s=>⟨(hFf k s).1,(hFf k s).2.1⟩,hf,fun w1 k1=>⟨_,_,base,a,ca,b,cb,hrow.keep k1 hrow.lt (fun s=>(hFf p s).2.1 rfl),ha.keep k1 (fun k s=>(hFa k s).2.2.2),hb.keep k1 (fun k s=>(hFb k s).2.2.2)⟩,?_⟩
 rintro A w1 ⟨k1,G',h1,hs⟩
 have kF:Keep F w w1:=k1.mono (fun k s=>(hFf k s).1)
 have hG': ∀ k,G' k→F k∨w.heap.size≤k:=fun k s=>(hs k s).imp (fun s=>(hFf k s).1) id
 have hpl:p<w.heap.size:=hrow.lt
 have no: ∀ k,k<w.heap.size→ ¬Ff k→ ¬G' k:=fun k hk n s=>(hs k s).elim n (fun e=>by omega)
 refine⟨kF,fun k=>F k∨(w.heap.size≤k∧k<w1.heap.size),⟨⟨pv,pf,Fv,G',a,ca,b,cb,hrow.keep k1 hpl (fun s=>(hFf p s).2.1 rfl),hv.keep k1 (fun k s q=>(hFf k q).2.2 s),h1,ha.keep k1 (fun k s=>(hFa k s).2.2.2),hb.keep k1 (fun k s=>(hFb k s).2.2.2),Or.inl hp,(fun k s=>⟨Or.inl (hFv k s).1,(hFv k s).2⟩),(fun k s=>⟨(hG' k s).imp id (fun e=>⟨e,(h1.ft k s).2⟩),fun e=>no p hpl (fun s=>(hFf p s).2.1 rfl) (e▸s),fun q=>no k (hv.ft k q).2 (fun f=>(hFf k f).2.2 q) s⟩),(fun k s=>⟨Or.inl (hFa k s).1,(hFa k s).2.1,(hFa k s).2.2.1,no k (ha.lt s).1 (hFa k s).2.2.2⟩),(fun k s=>⟨Or.inl (hFb k s).1,(hFb k s).2.1,(hFb k s).2.2.1,no k (hb.lt s).1 (hFb k s).2.2.2⟩)⟩,?_⟩,fun k s=>s.imp id (fun e=>e.1)⟩
 intro k s
 have:=kF.size
 rcases s with e|e
 ·exact⟨(hft k e).1,by have:=(hft k e).2;omega⟩
 ·exact⟨by omega,e.2⟩
theorem MeR.putV{base p:Nat}{S:Ms}{F:Nat→Prop}{w:World}(h:MeR base p S F w){M:List Vt}{a':Option Addr}{c':Nat}(ho:OwnS w base 134 4 a' M.length c' (flat vtC M))(hn: ∀ k,F k→ ¬Slot a' k):MeR base p { S with V:=M } (fun k=>F k∨Slot a' k) (w.setCell ⟨p,3,none⟩ (.slice a' M.length c')):=by
 obtain⟨pv,pf,Fv,Ff,a,ca,b,cb,hrow,hv,hf,ha,hb,hp,hFv,hFf,hFa,hFb⟩:=h.ex
 have K:Keep (fun k=>k=p) w (w.setCell ⟨p,3,none⟩ (.slice a' M.length c')):=(Keep.refl (fun k=>k=p) w).set (Or.inl rfl) _
 refine⟨⟨pv,pf,Fv,Ff,a',c',b,cb,hrow.set 3 (.slice a' M.length c') (by simp),hv.keep K (fun k s e=>(hFv k s).2 e),hf.keep K (fun k s e=>(hFf k s).2.1 e),ho.put (fun s=>hn p hp s) _,hb.put (fun s=>(hFb p s).2.1 rfl) _,Or.inl hp,fun k s=>⟨Or.inl (hFv k s).1,(hFv k s).2⟩,fun k s=>⟨Or.inl (hFf k s).1,(hFf k s).2⟩,fun k s=>⟨Or.inr s,fun e=>hn p hp (e▸s),fun q=>hn k (hFv k q).1 s,fun q=>hn k (hFf k q).1 s⟩,fun k s=>⟨Or.inl (hFb k s).1,(hFb k s).2⟩⟩,?_⟩
 intro k s
 have:=K.size
 rcases s with e|e
 ·exact⟨(h.ft k e).1,by have:=(h.ft k e).2;omega⟩
 ·have:=ho.lt e
  exact⟨this.2,by omega⟩
theorem MeR.putF{base p:Nat}{S:Ms}{F:Nat→Prop}{w:World}(h:MeR base p S F w){M:List Ce}{a':Option Addr}{c':Nat}(ho:OwnS w base 83 10 a' M.length c' (flat ceC M))(hn: ∀ k,F k→ ¬Slot a' k):MeR base p { S with C:=M } (fun k=>F k∨Slot a' k) (w.setCell ⟨p,4,none⟩ (.slice a' M.length c')):=by
 obtain⟨pv,pf,Fv,Ff,a,ca,b,cb,hrow,hv,hf,ha,hb,hp,hFv,hFf,hFa,hFb⟩:=h.ex
 have K:Keep (fun k=>k=p) w (w.setCell ⟨p,4,none⟩ (.slice a' M.length c')):=(Keep.refl (fun k=>k=p) w).set (Or.inl rfl) _
 refine⟨⟨pv,pf,Fv,Ff,a,ca,a',c',hrow.set 4 (.slice a' M.length c') (by simp),hv.keep K (fun k s e=>(hFv k s).2 e),hf.keep K (fun k s e=>(hFf k s).2.1 e),ha.put (fun s=>(hFa p s).2.1 rfl) _,ho.put (fun s=>hn p hp s) _,Or.inl hp,fun k s=>⟨Or.inl (hFv k s).1,(hFv k s).2⟩,fun k s=>⟨Or.inl (hFf k s).1,(hFf k s).2⟩,fun k s=>⟨Or.inl (hFa k s).1,(hFa k s).2⟩,fun k s=>⟨Or.inr s,fun e=>hn p hp (e▸s),fun q=>hn k (hFv k q).1 s,fun q=>hn k (hFf k q).1 s⟩⟩,?_⟩
 intro k s
 have:=K.size
 rcases s with e|e
 ·exact⟨(h.ft k e).1,by have:=(h.ft k e).2;omega⟩
 ·have:=ho.lt e
  exact⟨this.2,by omega⟩
theorem Left.step{Ob Ob':(Nat→Prop)→World→Prop}{F:Nat→Prop}{w w1 w2:World}{F1 F2:Nat→Prop}(k1:Keep F w w1)(hs: ∀ k,F1 k→F k∨w.heap.size≤k)(k2:Keep F1 w1 w2)(h2:Ob' F2 w2)(hs2: ∀ k,F2 k→F1 k∨w1.heap.size≤k):Left Ob' F w w2:=
 ⟨k1.trans k2 hs,F2,h2,fun k e=>(hs2 k e).elim (hs k) (fun e=>Or.inr (by have:=k1.size;omega))⟩
theorem infoV:(Tryz.prog.info? 134).map (fun i=>(i.zero,i.size,i.bytes))=some (some (.agg #[.int .i64 0, .int .i64 0, .int .i64 0, .int .i64 0]),4,32):=by kernel_rfl
theorem infoC:(Tryz.prog.info? 83).map (fun i=>(i.zero,i.size,i.bytes))=some (some (.agg #[.int .i64 0, .int .i64 0, .int .i64 0, .int .i64 0, .int .i64 0, .int .i64 0, .int .i64 0, .int .i64 0, .int .i64 0, .int .i64 0]),10,80):=by kernel_rfl
set_option maxRecDepth 100000 in
set_option maxHeartbeats 1000000 in
theorem mrAddV0(p:Nat)(S:Ms)(x y id:Int)(w:World)(h:MeLook p S w)(hq:inSq S x y=false):
  Calls Tryz.prog 52 #[ptR p, .agg #[.int .i64 x, .int .i64 y], .int .i64 id] w fun e w'=>e= .returned (.int .i64 (-1))∧Below w.heap.size w w':=by
 obtain⟨y1,y2,a,ca,b,cb,hrow⟩:=h.row
 have q0:=hrow.cell 0 _ rfl
 have hpl:=hrow.lt
 have hB: ∀ o n,Below w.heap.size w ((w.alloc o).drewN n):=fun o n=>((Below.refl _ _).alloc (Nat.le_refl _) _).trans ⟨rfl,rfl,rfl,Nat.le_refl _,fun _ _=>rfl⟩
 have q0': ∀ o,(w.alloc o).cell? ⟨p,0,none⟩=some (.int .i64 S.n):=fun o=>(((Below.refl w.heap.size w).alloc (Nat.le_refl _) o).cell (p:=⟨p,0,none⟩) hpl).trans q0
 have hq:=of_decide_eq_false hq
 obtain⟨n,hn⟩: ∃ n,n=S.n:=⟨_,rfl⟩
 rw [←hn]at q0 q0' hq
 have q1:=q0' (.cells #[.int .i64 x, .int .i64 y] 24)
 clear q0' hn hrow h
 by_cases h0:x<0
 ·clear hq
  go_enter Tryz.func52,Tryz.ntmps52
  go_wp2
  go_quiet (fail)
  go_wp2
  go_ret
  exact⟨rfl,hB _ _⟩
 ·have e0:decide (x<0)=false:=decide_eq_false h0
  by_cases h1:n≤x
  ·clear hq
   go_enter Tryz.func52,Tryz.ntmps52
   go_wp2
   go_quiet (fail)
   go_wp2
   go_ret
   exact⟨rfl,hB _ _⟩
  ·have e1:decide (n≤x)=false:=decide_eq_false h1
   by_cases h2:y<0
   ·clear hq
    go_enter Tryz.func52,Tryz.ntmps52
    go_wp2
    go_quiet (fail)
    go_wp2
    go_ret
    exact⟨rfl,hB _ _⟩
   ·have e2:decide (y<0)=false:=decide_eq_false h2
    have h3:n≤y:=by omega
    clear hq
    go_enter Tryz.func52,Tryz.ntmps52
    go_wp2
    go_quiet (fail)
    go_wp2
    go_ret
    exact⟨rfl,hB _ _⟩
theorem grow_below{B:Nat}{w1 wr w3:World}{T:TypeId}{s n c:Nat}{a:Option Addr}{xs:List Value}{o:Obj}(bel:Below B w1 wr)(hB:B≤wr.heap.size)(hown:OwnS wr B T s a n c xs)(g:(wr.alloc o).grownBy w3 (Value.slice a n c).ownBlock):Below B w1 w3:=
 (bel.alloc hB o).trans ((Keep.grown (F:=fun k=>Slot a k) (Keep.refl _ _) g (fun k e=>Or.inl (hown.slot e))).below (by simp;omega) (fun k s=>(hown.lt s).2))
def InsRel{α:Type}(f:α→Int)(fC:α→List Value)(T:TypeId)(sz:Nat)(w1:World)(V:List α)(x:α)(s q i:Value)(wr:World):Prop:=
 ∃ (k:Nat) (M:List α) (a:Option Addr) (c:Nat),k≤V.length∧i= .int .i64 (k:Int)∧s= .slice a M.length c∧OwnS wr w1.heap.size T sz a M.length c (flat fC M)∧M.length≤k+1∧((q= .bool false∧M=V.take k∧insBy f x V=V.take k++insBy f x (V.drop k))∨(q= .bool true∧insBy f x V=M++V.drop k))∧Below w1.heap.size w1 wr
theorem drop_at{α:Type}{V:List α}{k:Nat}{v:α}(h:V[k]? =some v):V.drop k=v::V.drop (k+1):=by
 obtain⟨hk,he⟩:=List.getElem?_eq_some_iff.1 h
 rw [List.drop_eq_getElem_cons hk,he]
theorem take_at{α:Type}{V:List α}{k:Nat}{v:α}(h:V[k]? =some v):V.take (k+1)=V.take k++ [v]:=by rw [List.take_add_one,h];rfl
set_option maxRecDepth 100000 in
set_option maxHeartbeats 2000000 in
theorem mrAddV(base p:Nat)(S:Ms)(F:Nat→Prop)(x y id:Int)(w:World)(h:MeR base p S F w)(hV:S.V.length≤1000)(h1:S.av.L.length≤1000)(h2:S.av.B.length≤1000)(h3:S.av.T≤1000)(hq:inSq S x y=true){n:Int}(hn:n=S.av.num):
  Calls Tryz.prog 52 #[ptR p, .agg #[.int .i64 x, .int .i64 y], .int .i64 id] w fun e w'=>e= .returned (.int .i64 n)∧Left (MeR base p (S.addV x y id)) F w w':=by
 obtain⟨y1,y2,a,ca,b,cb,hrow⟩:=h.look.row
 obtain⟨i0,hi0,hz0,hz1,hz2⟩:=info_of infoV
 have q0:=hrow.cell 0 _ rfl
 have hpl:=hrow.lt
 have HF:Hid (∀ k,F k→base≤k∧k<w.heap.size):=h.ft
 have HP:Hid (base≤w.heap.size):=by
  obtain⟨pv,pf,Fv,Ff,a,ca,b,cb,hrow,hv,hf,ha,hb,hp,_⟩:=h.ex
  have:=h.ft p hp
  unfold Hid;omega
 obtain⟨hq1,hq2,hq3,hq4⟩:=of_decide_eq_true hq
 have q0': ∀ o,(w.alloc o).cell? ⟨p,0,none⟩=some (.int .i64 S.n):=fun o=>(((Below.refl w.heap.size w).alloc (Nat.le_refl _) o).cell (p:=⟨p,0,none⟩) hpl).trans q0
 have q1:=q0' (.cells #[.int .i64 x, .int .i64 y] 24)
 obtain⟨sd,hsd⟩: ∃ sd,sd=S.n:=⟨_,rfl⟩
 rw [←hsd]at q1 hq2 hq4
 have e0:decide (x<0)=false:=decide_eq_false (by omega)
 have e1:decide (sd≤x)=false:=decide_eq_false (by omega)
 have e2:decide (y<0)=false:=decide_eq_false (by omega)
 have e3:decide (sd≤y)=false:=decide_eq_false (by omega)
 have H:Hid _:=h
 have HN:Hid _:=hn
 clear q0' hsd hrow h hq q0 hn
 go_enter Tryz.func52,Tryz.ntmps52
 go_wp2
 go_quiet (fail)
 obtain⟨W,hW⟩: ∃ W,W=(w.alloc (.cells #[.int .i64 x, .int .i64 y] 24)).drewN nq:=⟨_,rfl⟩
 have BW:Below w.heap.size w W:=by rw [hW];exact((Below.refl _ _).alloc (Nat.le_refl _) _).trans ⟨rfl,rfl,rfl,Nat.le_refl _,fun _ _=>rfl⟩
 have zW:W.heap.size=w.heap.size+1:=by rw [hW];simp
 have rA:Row W w.heap.size [.int .i64 x, .int .i64 y]:=by rw [hW];exact(Row.new w [.int .i64 x, .int .i64 y] _).drewN nq
 rw [←hW]
 have HW:=H.out.below BW
 obtain⟨q,G,gc,hG,hA,hlook,hleft⟩:=HW.focusV
 have HLF:Hid _:=hleft
 have HLK:Hid _:=hlook
 have hAG: ¬G w.heap.size:=fun g=>by have:=(HF.out _ (hG _ g).1).2;omega
 clear hW hleft hlook HW q1
 go_wp2_with (go_at_call 94;go_loud (refine(anTake base q S.av.L S.av.B S.av.T G W hA h1 h2 h3 HN.out).mono ?_;rintro e w1 ⟨rfl,HT⟩))
 have HT':Hid _:=HT
 obtain⟨k1,G',h1',hs1⟩:=HT
 have look1:Hid _:=HLK.out w1 k1
 have rA1:=rA.keep k1 (by omega) hAG
 have zw1:=k1.size
 have fin: ∀ (w3:World) (a3:Option Addr) (c3:Nat),Below w1.heap.size w1 w3→OwnS w3 w1.heap.size 134 4 a3 (insBy Vt.no ⟨n,x,y,id⟩ S.V).length c3 (flat vtC (insBy Vt.no ⟨n,x,y,id⟩ S.V))→Left (MeR base p (S.addV x y id)) F w (w3.setCell ⟨p,3,none⟩ (.slice a3 (insBy Vt.no ⟨n,x,y,id⟩ S.V).length c3)):=by
  intro w3 a3 c3 b3 o3
  have hn:=HN.out
  subst hn
  obtain⟨kF,F1,hM1,hs1⟩:=HLF.out S.av.took w1 HT'.out
  have hM3:=hM1.below b3
  have hno: ∀ k,F1 k→ ¬Slot a3 k:=fun k f s=>by have:=(hM1.ft k f).2;have:=(o3.lt s).2;omega
  have hF1:F1 p:=by obtain⟨pv,pf,Fv,Ff,a,ca,b,cb,hrow,hv,hf,ha,hb,hp,_⟩:=hM1.ex;exact hp
  have zz:=b3.size
  have hfin:=hM3.putV (o3.mono (base':=base) (by have:=HP.out;omega)) hno
  refine Left.step (Ob:=MeR base p S) (F1:=fun k=>F1 k) ((Keep.of BW).trans kF (fun k f=>Or.inl f)) (fun k f=>(hs1 k f).imp (fun x=>x) (fun e=>by omega)) ((Keep.of b3).set (Or.inl hF1) _) hfin (fun k s=>s.imp (fun x=>x) (fun s=>(o3.lt s).2))
 have own0:=ownS_new w1 w1.heap.size 134 4 (Nat.le_refl _)
 have B0:Below w1.heap.size w1 (w1.alloc (.cells #[] 134)):=(Below.refl _ _).alloc (Nat.le_refl _) _
 clear h1' hs1 k1 hA hG
 go_loopw [8,9,10] (fun s q i wr=>InsRel Vt.no vtC 134 4 w1 S.V ⟨n,x,y,id⟩ s q i wr) (fun _ _ i _=>S.V.length- (intOf i).toNat)
 case atStart=>exact⟨0, [],_,_,by omega,rfl,rfl,own0,by simp,Or.inl ⟨rfl,rfl,rfl⟩,B0⟩
 case round=>
  clear own0 B0
  obtain⟨k,M,a2,c2,hk,rfl,rfl,hown,hml,hcase,bel⟩:=hrel
  have hl:=look1.out.below bel
  have rA2:=rA1.below bel (by omega)
  have c0:=rA2.cell 0 _ rfl
  have c1:=rA2.cell 1 _ rfl
  have zr:=bel.size
  obtain⟨nn,hnn⟩: ∃ nn,nn=S.V.length:=⟨_,rfl⟩
  have HNN:Hid _:=hnn
  have hVn:nn≤1000:=by omega
  by_cases hlt:k<S.V.length
  ·obtain⟨v,hx⟩: ∃ v,S.V[k]? =some v:=⟨S.V[k],List.getElem?_eq_getElem hlt⟩
   have HX:Hid _:=hx
   obtain⟨b,cp,z1,z2,z3,hrow,hc,hbl,g0,g1,g2,g3⟩:=hl.vert hx
   have m:=hrow.cell 3 _ rfl
   rw [←hnn]at m hc hlt hk
   have ownV:OwnS (wr.alloc (.cells #[.int .i64 v.no, .int .i64 v.x, .int .i64 v.y, .int .i64 v.id] 134)) w1.heap.size 134 4 a2 M.length c2 (flat vtC M):=hown.below ((Below.refl _ _).alloc (Nat.le_refl _) _)
   have newV:=news_new wr (vtC v) 134
   have HI:Hid _:=hcase
   rcases hcase with⟨rfl,hM,hins⟩|⟨rfl,hins⟩
   ·have hmk:M.length≤k:=by rw [hM,List.length_take];omega
    by_cases hgt:n<v.no
    ·have HR:Hid (insBy Vt.no ⟨n,x,y,id⟩ S.V=(M++ [⟨n,x,y,id⟩])++ [v]++S.V.drop (k+1)):=by unfold Hid;rw [hins,insBy_drop hx,if_pos hgt,drop_at hx,hM];simp
     have ownN:OwnS (wr.alloc (.cells #[.int .i64 n, .int .i64 x, .int .i64 y, .int .i64 id] 134)) w1.heap.size 134 4 a2 M.length c2 (flat vtC M):=hown.below ((Below.refl _ _).alloc (Nat.le_refl _) _)
     have newN:=news_new wr (vtC ⟨n,x,y,id⟩) 134
     clear hM hins HI hx hnn hrow hl
     go_wp2_with (first
      |(at_builtin;go_loud (refine app_atS _ rfl (.tmp 66) (.tmp 71) 77 rfl w1.heap.size 134 i0 _ 4 32 Tryz.underlying77 hi0 hz0 hz1 hz2 rfl (by decide) a2 M.length c2 (flat vtC M) rfl ownN ⟨wr.heap.size,0,none⟩ 1 1 (vtC ⟨n,x,y,id⟩) rfl rfl newN (vtC_one ⟨n,x,y,id⟩) (by unfold maxLen;omega) (by omega) (by simp;omega) ?_;intro a3 c3 w3 h3 g3 s3;have bw3:=grow_below bel (by omega) hown g3;have z3:=bw3.size;have hl3:=look1.out.below bw3;obtain⟨bx,cpx,z1x,z2x,z3x,hrowx,hcx,hblx,g0x,g1x,g2x,g3x⟩:=hl3.vert HX.out;have mx:=hrowx.cell 3 _ rfl;rw [←HNN.out]at mx hcx;clear hrowx;rw [←flat_one (f:=vtC) (⟨n,x,y,id⟩:Vt),←flat_append]at h3;have h3:OwnS w3 w1.heap.size 134 4 a3 (M.length+1) c3 (flat vtC (M++ [⟨n,x,y,id⟩])):=h3;have ownW:OwnS (w3.alloc (.cells #[.int .i64 v.no, .int .i64 v.x, .int .i64 v.y, .int .i64 v.id] 134)) w1.heap.size 134 4 a3 (M.length+1) c3 (flat vtC (M++ [⟨n,x,y,id⟩])):=OwnS.below h3 ((Below.refl _ _).alloc (Nat.le_refl _) _);have newW:=news_new w3 (vtC v) 134))
      |(at_builtin;go_loud (refine app_atS _ rfl (.tmp 73) (.tmp 81) 77 rfl w1.heap.size 134 i0 _ 4 32 Tryz.underlying77 hi0 hz0 hz1 hz2 rfl (by decide) a3 (M.length+1) c3 (flat vtC (M++ [⟨n,x,y,id⟩])) rfl ownW ⟨w3.heap.size,0,none⟩ 1 1 (vtC v) rfl rfl newW (vtC_one v) (by unfold maxLen;omega) (by omega) (by simp;omega) ?_;intro a4 c4 w4 h4 g4 s4)))
     go_roundw
     case rel=>
      rw [←flat_one (f:=vtC) v,←flat_append]at h4
      exact⟨k+1,(M++ [⟨n,x,y,id⟩])++ [v],a4,c4,by have:=HNN.out;omega,by simp,by simp,by simpa using h4,by simp;omega,Or.inr ⟨rfl,HR.out⟩,grow_below bw3 (by omega) h3 g4⟩
     case measure=>have:=HNN.out;simp [intOf];omega
    ·have hgf:decide (n<v.no)=false:=decide_eq_false hgt
     have HR:Hid (M++ [v]=S.V.take (k+1)∧insBy Vt.no ⟨n,x,y,id⟩ S.V=S.V.take (k+1)++insBy Vt.no ⟨n,x,y,id⟩ (S.V.drop (k+1))):=by unfold Hid;rw [take_at hx,hM];refine⟨rfl,?_⟩;rw [hins,insBy_drop hx,if_neg hgt];simp
     clear hM hins HI hx hnn hrow hl
     go_wp2_with (at_builtin;go_loud (refine app_atS _ rfl (.tmp 73) (.tmp 81) 77 rfl w1.heap.size 134 i0 _ 4 32 Tryz.underlying77 hi0 hz0 hz1 hz2 rfl (by decide) a2 M.length c2 (flat vtC M) rfl ownV ⟨wr.heap.size,0,none⟩ 1 1 (vtC v) rfl rfl newV (vtC_one v) (by unfold maxLen;omega) (by omega) (by simp;omega) ?_;intro a3 c3 w3 h3 g3 s3))
     go_roundw
     case rel=>
      rw [←flat_one (f:=vtC) v,←flat_append]at h3
      exact⟨k+1,M++ [v],a3,c3,by have:=HNN.out;omega,by simp,by simp,by simpa using h3,by simp;omega,Or.inl ⟨rfl,HR.out⟩,grow_below bel (by omega) hown g3⟩
     case measure=>have:=HNN.out;simp [intOf];omega
   ·have HR:Hid (insBy Vt.no ⟨n,x,y,id⟩ S.V=(M++ [v])++S.V.drop (k+1)):=by unfold Hid;rw [hins,drop_at hx];simp
    clear hins HI hx hnn hrow hl
    go_wp2_with (at_builtin;go_loud (refine app_atS _ rfl (.tmp 73) (.tmp 81) 77 rfl w1.heap.size 134 i0 _ 4 32 Tryz.underlying77 hi0 hz0 hz1 hz2 rfl (by decide) a2 M.length c2 (flat vtC M) rfl ownV ⟨wr.heap.size,0,none⟩ 1 1 (vtC v) rfl rfl newV (vtC_one v) (by unfold maxLen;omega) (by omega) (by simp;omega) ?_;intro a3 c3 w3 h3 g3 s3))
    go_roundw
    case rel=>
     rw [←flat_one (f:=vtC) v,←flat_append]at h3
     exact⟨k+1,M++ [v],a3,c3,by have:=HNN.out;omega,by simp,by simp,by simpa using h3,by simp;omega,Or.inr ⟨rfl,HR.out⟩,grow_below bel (by omega) hown g3⟩
    case measure=>have:=HNN.out;simp [intOf];omega
  ·obtain⟨z1,z2,za,zca,zb,zcb,hrow⟩:=hl.row
   have m:=hrow.cell 3 _ rfl
   have mf:=hrow.free 3 (by simp)
   obtain rfl:k=S.V.length:=by omega
   rw [←hnn]at m
   have HX:Hid _:=hl
   rcases hcase with⟨rfl,hM,hins⟩|⟨rfl,hins⟩
   ·have HR:Hid (M++ [⟨n,x,y,id⟩]=insBy Vt.no ⟨n,x,y,id⟩ S.V):=by unfold Hid;rw [hins,insBy_end _ _ _ _ (Nat.le_refl _),hM]
    have ownN:OwnS (wr.alloc (.cells #[.int .i64 n, .int .i64 x, .int .i64 y, .int .i64 id] 134)) w1.heap.size 134 4 a2 M.length c2 (flat vtC M):=hown.below ((Below.refl _ _).alloc (Nat.le_refl _) _)
    have newN:=news_new wr (vtC ⟨n,x,y,id⟩) 134
    rw [←hnn]
    rw [←hnn]at hml
    clear hM hins hnn hl
    go_wp2_with (at_builtin;go_loud (refine app_atS _ rfl (.tmp 85) (.tmp 90) 77 rfl w1.heap.size 134 i0 _ 4 32 Tryz.underlying77 hi0 hz0 hz1 hz2 rfl (by decide) a2 M.length c2 (flat vtC M) rfl ownN ⟨wr.heap.size,0,none⟩ 1 1 (vtC ⟨n,x,y,id⟩) rfl rfl newN (vtC_one ⟨n,x,y,id⟩) (by unfold maxLen;omega) (by omega) (by simp;omega) ?_;intro a3 c3 w3 h3 g3 s3;have bw3:=grow_below bel (by omega) hown g3;obtain⟨z5,z6,z7,z8,z9,z0,hrow3⟩:=(look1.out.below bw3).row;have mx:=hrow3.cell 3 _ rfl;have mxf:=hrow3.free 3 (by simp);clear hrow3))
    go_ret
    rw [←flat_one (f:=vtC) (⟨n,x,y,id⟩:Vt),←flat_append]at h3
    have h3:OwnS w3 w1.heap.size 134 4 a3 (M++ [(⟨n,x,y,id⟩:Vt)]).length c3 (flat vtC (M++ [(⟨n,x,y,id⟩:Vt)])):=by simpa using h3
    have e3:(M++ [(⟨n,x,y,id⟩:Vt)]).length=M.length+1:=by simp
    rw [←e3]
    rw [HR.out]at h3 ⊢
    exact⟨rfl,fin w3 a3 c3 bw3 h3⟩
   ·have HR:Hid (M=insBy Vt.no ⟨n,x,y,id⟩ S.V):=by unfold Hid;rw [hins,List.drop_length];simp
    rw [←hnn]
    clear hins hnn hl
    go_wp2
    go_ret
    rw [HR.out]at hown ⊢
    exact⟨rfl,fin wr a2 c2 bel hown⟩
end Go.Proofs.YtaadknpjbogkbaaGreat
namespace Go.Proofs.YtaadknpjbogkbaaGreat
variable {P : Program} {md : Region.Mode} {Q : Exit → Act → World → Prop} {S : World → Prop} {z : Nat}
def anyL(P:Program)(md:Region.Mode)(ops:Array Oper)(Q:Exit→Act→World→Prop)(S:World→Prop)(z:Nat):Nat→Array Bool→Act→World→Prop
 |0,L,a,w=>Region.ready md ops L= []∧Q .normal a w
 |f+1,L,a,w=>(Region.ready md ops L= []→Q .normal a w)∧ ∀ i∈Region.ready md ops L,wpOp P ops Q i (fun a' w'=>(i≠z→S w')∧anyL P md ops Q S z f (L.setIfInBounds i true) a' w') a w
theorem anyL_any{ops:Array Oper}: ∀ (f:Nat) (L:Array Bool) (a:Act) (w:World),anyL P md ops Q S z f L a w→wpAny P md ops Q f L a w
 |0,_,_,_,h=>h
 |f+1,_,_,_,h=>⟨h.1,fun i hi=>wpOp_mono (fun a' w' h'=>anyL_any f _ a' w' h'.2) (h.2 i hi)⟩
theorem anyL_first{ops:Array Oper}{i:Nat}{oi:Oper}{v:Value}(hi:ops[i]? =some oi)(hs:Region.noSelect ops=true)
  (hz: ∀ oz,ops[z]? =some oz→ ∃ e∈oz.after,Region.binds md e=true∧e.on=i) (hzi:i≠z) (hQ: ∀ c a w,Q (.panic c) (a.put oi.dst v) w→Q (.panic c) a w):
  ∀ (f:Nat) (L:Array Bool) (a:Act) (w:World),Region.free md ops L i=true→i∈Region.ready md ops L→YieldsIf P ops S oi v a→S w→
   anyL P md ops Q S z f (L.setIfInBounds i true) (a.put oi.dst v) w→anyL P md ops Q S z (f+1) L a w:=by
 suffices H: ∀ (f:Nat) (L:Array Bool) (a:Act) (w:World),
   (∀ j oj,ops[j]? =some oj→j≠i→L.getD j true=false→(∀ e∈oj.after,Region.binds md e=true→e.on≠i)→oi.apart ops oj=true)→
   i∈Region.ready md ops L→YieldsIf P ops S oi v a→S w→anyL P md ops Q S z f (L.setIfInBounds i true) (a.put oi.dst v) w→anyL P md ops Q S z (f+1) L a w from
  fun f L a w hf hr hy hS h=>H f L a w (Region.free_spec hi hf) hr hy hS h
 have sel:=Region.noSelect_spec hs
 intro f
 induction f with
 |zero=>
  intro L a w _ hr hy hS h
  refine⟨fun e=>absurd hr (by rw [e];exact List.not_mem_nil),fun j hj=>?_⟩
  rcases Decidable.em (j=i)with rfl|hne
  ·exact hy.wpOp hi hS ⟨fun _=>hS,h⟩
  ·exact absurd (ready_mono hj hne) (by rw [h.1];exact List.not_mem_nil)
 |succ f ih=>
  intro L a w hfree hr hy hS h
  refine⟨fun e=>absurd hr (by rw [e];exact List.not_mem_nil),fun j hj=>?_⟩
  rcases Decidable.em (j=i)with rfl|hne
  ·exact hy.wpOp hi hS ⟨fun _=>hS,h⟩
  obtain⟨hun,oj,hoj,hall⟩:=mem_ready.1 hj
  have hi0:=(mem_ready.1 hr).1
  have hno: ∀ e∈oj.after,Region.binds md e=true→e.on≠i:=by
   intro e he hb q
   have h1:=hall e he hb
   rw [q]at h1
   rcases Nat.lt_or_ge i L.size with g|g
   ·simp [g]at hi0 h1
    rw [hi0]at h1
    cases h1
   ·simp [Array.getElem?_eq_none g]at h1
  have hjz:j≠z:=by
   rintro rfl
   obtain⟨e,he,hb,q⟩:=hz oj hoj
   exact hno e he hb q
  have h2:=wpOp_putIf hoj (hfree j oj hoj hne hun hno) (fun cs b=>sel i oi cs b hi) (fun cs b=>sel j oj cs b hoj) hQ hy (h.2 j (ready_mono hj hne))
  refine wpOp_mono (fun a' w' h3=>⟨h3.2.1,ih _ a' w' (fun k ok hk hki hku hkn=>hfree k ok hk hki ?_ hkn) (ready_mono hr (Ne.symm hne)) h3.1 (h3.2.1 hjz) ?_⟩) h2
  ·rcases Decidable.em (j=k)with rfl|q
   ·exact hun
   ·rwa [getD_set_ne true q]at hku
  ·rw [Array.setIfInBounds_comm _ _ hne]
   exact h3.2.2
def waitsFor(md:Region.Mode)(ops:Array Oper)(z i:Nat):Bool:=((ops[z]?).map fun o=>o.after.any fun e=>Region.binds md e && e.on==i).getD true
theorem waits_spec{ops:Array Oper}{i:Nat}(h:waitsFor md ops z i=true): ∀ oz,ops[z]? =some oz→ ∃ e∈oz.after,Region.binds md e=true∧e.on=i:=by
 intro oz ho
 unfold waitsFor at h
 rw [ho]at h
 simp only [Option.map_some,Option.getD_some]at h
 obtain⟨k,hk,hp⟩:=Array.any_eq_true.1 h
 rw [Bool.and_eq_true_iff]at hp
 exact⟨_,Array.getElem_mem hk,hp.1,by simpa using hp.2⟩
theorem takeL_yes{l:List Oper}{i:Nat}{oi:Oper}{v:Value}{f:Nat}{L:Array Bool}{a:Act}{w:World}(hi:l[i]? =some oi)
  (hs:Region.noSelect l.toArray=true) (hf:Region.free md l.toArray L i=true) (hr:(Region.ready md l.toArray L).contains i=true) (hz:waitsFor md l.toArray z i=true) (hzi:i≠z)
  (hQ: ∀ c a w,Q (.panic c) (a.put oi.dst v) w→Q (.panic c) a w) (hw:Region.wanted oi (yielded l.toArray a.tmps)=true) (hS:S w)
  (hy: ∀ w,S w→(execOp a.eval oi).run P w= .ok (.value v) w)
  (h:anyL P md l.toArray Q S z f (L.setIfInBounds i true) (a.put oi.dst v) w):anyL P md l.toArray Q S z (f+1) L a w:=
 anyL_first (by simpa using hi) hs (waits_spec hz) hzi hQ f L a w hf (by simpa using hr) (Or.inl ⟨hw,hy⟩) hS h
theorem tyL{l:List Oper}{i:Nat}{oi:Oper}{v:Value}{f:Nat}{L:Array Bool}{a:Act}{w:World}(hi:l[i]? =some oi)
  (hy: ∀ w,S w→(execOp a.eval oi).run P w= .ok (.value v) w) (h:anyL P md l.toArray Q S z f (L.setIfInBounds i true) (a.put oi.dst v) w)
  (hs:Region.noSelect l.toArray=true:=by kernel_rfl) (hf:Region.free md l.toArray L i=true:=by kernel_rfl) (hr:(Region.ready md l.toArray L).contains i=true:=by kernel_rfl) (hz:waitsFor md l.toArray z i=true:=by kernel_rfl) (hzi:i≠z:=by decide)
  (hQ: ∀ c a w,Q (.panic c) (a.put oi.dst v) w→Q (.panic c) a w:=by exact fun _ _ _ h=>h) (hw:Region.wanted oi (yielded l.toArray a.tmps)=true:=by rfl) (hS:S w:=by assumption):anyL P md l.toArray Q S z (f+1) L a w:=
 takeL_yes hi hs hf hr hz hzi hQ hw hS hy h
theorem takeL_call{l:List Oper}{i:Nat}{o:Oper}{f:Nat}{L:Array Bool}{a:Act}{w:World}(ho:l[i]? =some o)(hr:Region.ready md l.toArray L= [i])
  (h: ∀ K':Act→World→Prop,Shut (∀ a w,S w→(S w→anyL P md l.toArray Q S z f (L.setIfInBounds i true) a w)→K' a w)→if Region.wanted o (yielded l.toArray a.tmps)=true then Oper.wp P o a w K' Q else K' (a.put o.dst undef) w):
  anyL P md l.toArray Q S z (f+1) L a w:=by
 refine⟨fun e=>(by rw [hr]at e;cases e),fun j hj=>?_⟩
 rw [hr,List.mem_singleton]at hj
 subst hj
 exact wpOp_step (by simpa using ho) (fun K' hK=>h K' (fun a w hS hW=>hK a w ⟨fun _=>hS,hW hS⟩))
theorem takeL_last{l:List Oper}{o:Oper}{f:Nat}{L:Array Bool}{a:Act}{w:World}(ho:l[z]? =some o)(hr:Region.ready md l.toArray L= [z])
  (h: ∀ K':Act→World→Prop,Shut (∀ a w,anyL P md l.toArray Q S z f (L.setIfInBounds z true) a w→K' a w)→if Region.wanted o (yielded l.toArray a.tmps)=true then Oper.wp P o a w K' Q else K' (a.put o.dst undef) w):
  anyL P md l.toArray Q S z (f+1) L a w:=by
 refine⟨fun e=>(by rw [hr]at e;cases e),fun j hj=>?_⟩
 rw [hr,List.mem_singleton]at hj
 subst hj
 exact wpOp_step (by simpa using ho) (fun K' hK=>h K' (fun a w hW=>hK a w ⟨fun q=>absurd rfl q,hW⟩))
theorem anyL_done{l:List Oper}{L:Array Bool}{a:Act}{w:World}(hr:Region.ready md l.toArray L= [])(h:Q .normal a w): ∀ f,anyL P md l.toArray Q S z f L a w
 |0=>⟨hr,h⟩
 |_+1=>⟨fun _=>h,by rw [hr];exact fun _ h=>absurd h List.not_mem_nil⟩
theorem regionL{l:List Oper}(z:Nat){id:Nat}{a:Act}{w:World}(hm:P.follows .mixedOrders=true)(hS:S w.drew)
  (h:S w.drew→anyL P .any l.toArray Q S z l.toArray.size (Array.replicate l.toArray.size false) a w.drew):(Code.region id l.toArray true).wp P Q a w:=
 wp_region_any hm (anyL_any _ _ _ _ (h hS))
end Go.Proofs.YtaadknpjbogkbaaGreat
namespace Go.Proofs.YtaadknpjbogkbaaGreat
open Go.RowKit
set_option linter.unusedVariables false
abbrev ceV(c:Ce):Value:= .agg #[.int .i64 c.no, .int .i64 c.t.v0, .int .i64 c.t.v1, .int .i64 c.t.v2, .int .i64 c.t.x0, .int .i64 c.t.y0, .int .i64 c.t.x1, .int .i64 c.t.y1, .int .i64 c.t.x2, .int .i64 c.t.y2]
def Ms.new(n:Int):Ms:=⟨n,⟨[], [],0⟩,⟨[], [],0⟩, [], []⟩
structure DumpIs(w:World)(n:Int)(V:List Vt)(C:List Ce)(a:Option Addr)(ca:Nat)(b:Option Addr)(cb:Nat):Prop where
 ex: ∃ base,OwnS w base 134 4 a V.length ca (flat vtC V)∧OwnS w base 83 10 b C.length cb (flat ceC C)
def GotDump(w:World)(S:Ms)(e:Ending)(w':World):Prop:= ∃ (a:Option Addr) (ca:Nat) (b:Option Addr) (cb:Nat),e= .returned (.agg #[.int .i64 S.n, .slice a S.V.length ca, .slice b S.C.length cb])∧DumpIs w' S.n S.V S.C a ca b cb∧Below w.heap.size w w'
theorem meNew(w:World)(base:Nat)(n:Int)(hb:base≤w.heap.size)(t1 t2 t3:TypeId):MeR base (w.heap.size+1+1) (Ms.new n) (fun k=>w.heap.size≤k∧k<w.heap.size+3) (((w.alloc (.cells #[.slice none 0 0, .slice none 0 0, .int .i64 0] t1)).alloc (.cells #[.slice none 0 0, .slice none 0 0, .int .i64 0] t2)).alloc (.cells #[.int .i64 n,ptR w.heap.size,ptR (w.heap.size+1), .slice none 0 0, .slice none 0 0] t3)):=by
 have A1:=ArR.new w base t1 hb
 have B1: ∀ o o',Below (w.alloc (.cells #[.slice none 0 0, .slice none 0 0, .int .i64 0] t1)).heap.size (w.alloc (.cells #[.slice none 0 0, .slice none 0 0, .int .i64 0] t1)) (((w.alloc (.cells #[.slice none 0 0, .slice none 0 0, .int .i64 0] t1)).alloc o).alloc o'):=fun o o'=>((Below.refl _ _).alloc (Nat.le_refl _) _).alloc (by simp) _
 have A2:=ArR.new (w.alloc (.cells #[.slice none 0 0, .slice none 0 0, .int .i64 0] t1)) base t2 (by simp;omega)
 have K1:=A1.keep (Keep.of (F:=fun _=>False) (B1 (.cells #[.slice none 0 0, .slice none 0 0, .int .i64 0] t2) (.cells #[.int .i64 n,ptR w.heap.size,ptR (w.heap.size+1), .slice none 0 0, .slice none 0 0] t3))) (fun _ _ x=>x)
 have K2:=A2.keep (Keep.of (F:=fun _=>False) ((Below.refl _ ((w.alloc (.cells #[.slice none 0 0, .slice none 0 0, .int .i64 0] t1)).alloc (.cells #[.slice none 0 0, .slice none 0 0, .int .i64 0] t2))).alloc (Nat.le_refl _) (.cells #[.int .i64 n,ptR w.heap.size,ptR (w.heap.size+1), .slice none 0 0, .slice none 0 0] t3))) (fun _ _ x=>x)
 have R3:=Row.new ((w.alloc (.cells #[.slice none 0 0, .slice none 0 0, .int .i64 0] t1)).alloc (.cells #[.slice none 0 0, .slice none 0 0, .int .i64 0] t2)) [.int .i64 n,ptR w.heap.size,ptR (w.heap.size+1), .slice none 0 0, .slice none 0 0] t3
 have e1:(w.alloc (.cells #[.slice none 0 0, .slice none 0 0, .int .i64 0] t1)).heap.size=w.heap.size+1:=by simp
 have e2:((w.alloc (.cells #[.slice none 0 0, .slice none 0 0, .int .i64 0] t1)).alloc (.cells #[.slice none 0 0, .slice none 0 0, .int .i64 0] t2)).heap.size=w.heap.size+1+1:=by simp
 rw [e2]at R3
 rw [e1]at K2
 refine⟨⟨w.heap.size,w.heap.size+1,(fun k=>k=w.heap.size),(fun k=>k=w.heap.size+1),none,0,none,0,R3,K1,K2,ownS_none _ _ _ _,ownS_none _ _ _ _,⟨by omega,by omega⟩,(fun k e=>⟨⟨by omega,by omega⟩,by omega⟩),(fun k e=>⟨⟨by omega,by omega⟩,by omega,by omega⟩),(fun k s=>by obtain⟨o,s⟩:=s;cases s),(fun k s=>by obtain⟨o,s⟩:=s;cases s)⟩,?_⟩
 intro k hk
 refine⟨by omega,?_⟩
 simp
 omega
set_option maxRecDepth 100000 in
theorem mrNew(base:Nat)(n:Int)(w:World)(hb:base≤w.heap.size):Calls Tryz.prog 18 #[.int .i64 n] w fun e w'=> ∃ (p:Nat) (F:Nat→Prop),e= .returned (ptR p)∧MeR base p (Ms.new n) F w'∧(∀ k,F k→w.heap.size≤k)∧Below w.heap.size w w':=by
 have h0:=meNew w base n hb 117 117 80
 have hB: ∀ o1 o2 o3,Below w.heap.size w (((w.alloc o1).alloc o2).alloc o3):=fun o1 o2 o3=>(((Below.refl _ _).alloc (Nat.le_refl _) _).alloc (by simp) _).alloc (by simp;omega) _
 have H0:Hid _:=h0
 have HB:Hid _:=hB
 clear h0 hB
 go_enter Tryz.func18,Tryz.ntmps18
 go_wp2
 go_ret
 exact⟨_,_,rfl,H0.out,(fun k e=>e.1),HB.out _ _ _⟩
theorem OwnS.elem{w:World}{base cap s:Nat}{T:TypeId}{a:Option Addr}{α:Type}{f:α→List Value}{L:List α}(hf: ∀ x,(f x).length=s)(h:OwnS w base T s a L.length cap (flat f L)){k:Nat}{x:α}(hk:L[k]? =some x): ∃ b,a=some ⟨b,0,none⟩∧b<w.heap.size∧ ∀ j u,(f x)[j]? =some u→w.cell? ⟨b,k*s+j,none⟩=some u:=by
 obtain⟨g,rfl,hg,_,hseg⟩:=h.at (by have:=(List.getElem?_eq_some_iff.1 hk).1;omega)
 refine⟨g,rfl,hg,fun j u hj=>?_⟩
 have:=hseg.cell _ u (flat_at hf hk hj)
 rw [Nat.zero_add]at this
 exact this
def offB(t:Tr):Prop:= ∀ i,(-4611686018427387904<t.x i∧t.x i<4611686018427387904)∧(-4611686018427387904<t.y i∧t.y i<4611686018427387904)
theorem offB.all{t:Tr}(h:offB t):((-4611686018427387904<t.x0∧t.x0<4611686018427387904)∧(-4611686018427387904<t.x1∧t.x1<4611686018427387904)∧(-4611686018427387904<t.x2∧t.x2<4611686018427387904))∧((-4611686018427387904<t.y0∧t.y0<4611686018427387904)∧(-4611686018427387904<t.y1∧t.y1<4611686018427387904)∧(-4611686018427387904<t.y2∧t.y2<4611686018427387904)):=
 ⟨⟨(h 0).1,(h 1).1,(h 2).1⟩,⟨(h 0).2,(h 1).2,(h 2).2⟩⟩
set_option maxRecDepth 100000 in
set_option maxHeartbeats 1000000 in
theorem twin_00s(a b:Tr)(w:World)(ha:offB a)(hb:offB b){r:Bool}(hr:r=same a 0 b 0):
  Calls Tryz.prog 63 #[trV a, .int .i64 0,trV b, .int .i64 0, .bool false] w fun e w'=>e= .returned (.bool r)∧Below w.heap.size w w':=by
 have hB: ∀ o o' n,Below w.heap.size w (((w.alloc o).alloc o').drewN n):=fun o o' n=>(((Below.refl _ _).alloc (Nat.le_refl _) _).alloc (by simp) _).trans ⟨rfl,rfl,rfl,Nat.le_refl _,fun _ _=>rfl⟩
 have ha:=ha.all
 have hb:=hb.all
 obtain⟨a0,a1,a2,x0,y0,x1,y1,x2,y2⟩:=a
 obtain⟨b0,b1,b2,s0,t0,s1,t1,s2,t2⟩:=b
 simp only []at ha hb
 have hr':r=(decide (a0=b0) && (decide (a1=b1) && (decide (x1- x0=s1- s0) && decide (y1- y0=t1- t0)))):=by
  rw [hr];simp [same,nx,Tr.v,Tr.x,Tr.y]
 clear hr
 obtain⟨dx,gdx⟩: ∃ dx,dx=x1- x0:=⟨_,rfl⟩
 have vdx:IntKind.i64.wrap (x1- x0)=dx:=by rw [wrap_i64,gdx];unfold wrap64;omega
 have udx:wrap64 (x1- x0)=dx:=by rw [gdx];unfold wrap64;omega
 obtain⟨ex,gex⟩: ∃ ex,ex=s1- s0:=⟨_,rfl⟩
 have vex:IntKind.i64.wrap (s1- s0)=ex:=by rw [wrap_i64,gex];unfold wrap64;omega
 have uex:wrap64 (s1- s0)=ex:=by rw [gex];unfold wrap64;omega
 obtain⟨dy,gdy⟩: ∃ dy,dy=y1- y0:=⟨_,rfl⟩
 have vdy:IntKind.i64.wrap (y1- y0)=dy:=by rw [wrap_i64,gdy];unfold wrap64;omega
 have udy:wrap64 (y1- y0)=dy:=by rw [gdy];unfold wrap64;omega
 obtain⟨ey,gey⟩: ∃ ey,ey=t1- t0:=⟨_,rfl⟩
 have vey:IntKind.i64.wrap (t1- t0)=ey:=by rw [wrap_i64,gey];unfold wrap64;omega
 have uey:wrap64 (t1- t0)=ey:=by rw [gey];unfold wrap64;omega
 rw [←gdx,←gex,←gdy,←gey]at hr'
 have HR:Hid _:=hr'
 clear hr'
 clear gdx gex gdy gey ha hb
 by_cases h0:a0=b0
 ·have e0:(a0==b0)=true:=by simpa using h0
  by_cases h1:a1=b1
  ·have e1:(a1==b1)=true:=by simpa using h1
   by_cases h2:dx=ex
   ·have e2:(dx==ex)=true:=by simpa using h2
    have e3:(dy==ey)=r:=by rw [HR.out,decide_eq_true h0,decide_eq_true h1,decide_eq_true h2];rfl
    clear h0 h1 h2 HR
    go_enter Tryz.func63,Tryz.ntmps63
    go_wp2
    dsimp only [List.append]
    go_quiet (fail)
    go_wp2
    go_ret
    exact⟨by rw [←e3];rfl,hB _ _ _⟩
   ·have e2:(dx==ex)=false:=by simpa using h2
    obtain rfl:r=false:=by rw [HR.out,decide_eq_false h2];simp
    clear h0 h1 h2 HR
    go_enter Tryz.func63,Tryz.ntmps63
    go_wp2
    dsimp only [List.append]
    go_quiet (fail)
    go_wp2
    go_ret
    exact⟨rfl,hB _ _ _⟩
  ·have e1:(a1==b1)=false:=by simpa using h1
   obtain rfl:r=false:=by rw [HR.out,decide_eq_false h1];simp
   clear h0 h1 HR
   go_enter Tryz.func63,Tryz.ntmps63
   go_wp2
   dsimp only [List.append]
   go_quiet (fail)
   go_wp2
   go_ret
   exact⟨rfl,hB _ _ _⟩
 ·have e0:(a0==b0)=false:=by simpa using h0
  obtain rfl:r=false:=by rw [HR.out,decide_eq_false h0];simp
  clear h0 HR
  go_enter Tryz.func63,Tryz.ntmps63
  go_wp2
  dsimp only [List.append]
  go_quiet (fail)
  go_wp2
  go_ret
  exact⟨rfl,hB _ _ _⟩
set_option maxRecDepth 100000 in
set_option maxHeartbeats 1000000 in
theorem twin_01s(a b:Tr)(w:World)(ha:offB a)(hb:offB b){r:Bool}(hr:r=same a 0 b 1):
  Calls Tryz.prog 63 #[trV a, .int .i64 0,trV b, .int .i64 1, .bool false] w fun e w'=>e= .returned (.bool r)∧Below w.heap.size w w':=by
 have hB: ∀ o o' n,Below w.heap.size w (((w.alloc o).alloc o').drewN n):=fun o o' n=>(((Below.refl _ _).alloc (Nat.le_refl _) _).alloc (by simp) _).trans ⟨rfl,rfl,rfl,Nat.le_refl _,fun _ _=>rfl⟩
 have ha:=ha.all
 have hb:=hb.all
 obtain⟨a0,a1,a2,x0,y0,x1,y1,x2,y2⟩:=a
 obtain⟨b0,b1,b2,s0,t0,s1,t1,s2,t2⟩:=b
 simp only []at ha hb
 have hr':r=(decide (a0=b1) && (decide (a1=b2) && (decide (x1- x0=s2- s1) && decide (y1- y0=t2- t1)))):=by
  rw [hr];simp [same,nx,Tr.v,Tr.x,Tr.y]
 clear hr
 obtain⟨dx,gdx⟩: ∃ dx,dx=x1- x0:=⟨_,rfl⟩
 have vdx:IntKind.i64.wrap (x1- x0)=dx:=by rw [wrap_i64,gdx];unfold wrap64;omega
 have udx:wrap64 (x1- x0)=dx:=by rw [gdx];unfold wrap64;omega
 obtain⟨ex,gex⟩: ∃ ex,ex=s2- s1:=⟨_,rfl⟩
 have vex:IntKind.i64.wrap (s2- s1)=ex:=by rw [wrap_i64,gex];unfold wrap64;omega
 have uex:wrap64 (s2- s1)=ex:=by rw [gex];unfold wrap64;omega
 obtain⟨dy,gdy⟩: ∃ dy,dy=y1- y0:=⟨_,rfl⟩
 have vdy:IntKind.i64.wrap (y1- y0)=dy:=by rw [wrap_i64,gdy];unfold wrap64;omega
 have udy:wrap64 (y1- y0)=dy:=by rw [gdy];unfold wrap64;omega
 obtain⟨ey,gey⟩: ∃ ey,ey=t2- t1:=⟨_,rfl⟩
 have vey:IntKind.i64.wrap (t2- t1)=ey:=by rw [wrap_i64,gey];unfold wrap64;omega
 have uey:wrap64 (t2- t1)=ey:=by rw [gey];unfold wrap64;omega
 rw [←gdx,←gex,←gdy,←gey]at hr'
 have HR:Hid _:=hr'
 clear hr'
 clear gdx gex gdy gey ha hb
 by_cases h0:a0=b1
 ·have e0:(a0==b1)=true:=by simpa using h0
  by_cases h1:a1=b2
  ·have e1:(a1==b2)=true:=by simpa using h1
   by_cases h2:dx=ex
   ·have e2:(dx==ex)=true:=by simpa using h2
    have e3:(dy==ey)=r:=by rw [HR.out,decide_eq_true h0,decide_eq_true h1,decide_eq_true h2];rfl
    clear h0 h1 h2 HR
    go_enter Tryz.func63,Tryz.ntmps63
    go_wp2
    dsimp only [List.append]
    go_quiet (fail)
    go_wp2
    go_ret
    exact⟨by rw [←e3];rfl,hB _ _ _⟩
   ·have e2:(dx==ex)=false:=by simpa using h2
    obtain rfl:r=false:=by rw [HR.out,decide_eq_false h2];simp
    clear h0 h1 h2 HR
    go_enter Tryz.func63,Tryz.ntmps63
    go_wp2
    dsimp only [List.append]
    go_quiet (fail)
    go_wp2
    go_ret
    exact⟨rfl,hB _ _ _⟩
  ·have e1:(a1==b2)=false:=by simpa using h1
   obtain rfl:r=false:=by rw [HR.out,decide_eq_false h1];simp
   clear h0 h1 HR
   go_enter Tryz.func63,Tryz.ntmps63
   go_wp2
   dsimp only [List.append]
   go_quiet (fail)
   go_wp2
   go_ret
   exact⟨rfl,hB _ _ _⟩
 ·have e0:(a0==b1)=false:=by simpa using h0
  obtain rfl:r=false:=by rw [HR.out,decide_eq_false h0];simp
  clear h0 HR
  go_enter Tryz.func63,Tryz.ntmps63
  go_wp2
  dsimp only [List.append]
  go_quiet (fail)
  go_wp2
  go_ret
  exact⟨rfl,hB _ _ _⟩
set_option maxRecDepth 100000 in
set_option maxHeartbeats 1000000 in
theorem twin_02s(a b:Tr)(w:World)(ha:offB a)(hb:offB b){r:Bool}(hr:r=same a 0 b 2):
  Calls Tryz.prog 63 #[trV a, .int .i64 0,trV b, .int .i64 2, .bool false] w fun e w'=>e= .returned (.bool r)∧Below w.heap.size w w':=by
 have hB: ∀ o o' n,Below w.heap.size w (((w.alloc o).alloc o').drewN n):=fun o o' n=>(((Below.refl _ _).alloc (Nat.le_refl _) _).alloc (by simp) _).trans ⟨rfl,rfl,rfl,Nat.le_refl _,fun _ _=>rfl⟩
 have ha:=ha.all
 have hb:=hb.all
 obtain⟨a0,a1,a2,x0,y0,x1,y1,x2,y2⟩:=a
 obtain⟨b0,b1,b2,s0,t0,s1,t1,s2,t2⟩:=b
 simp only []at ha hb
 have hr':r=(decide (a0=b2) && (decide (a1=b0) && (decide (x1- x0=s0- s2) && decide (y1- y0=t0- t2)))):=by
  rw [hr];simp [same,nx,Tr.v,Tr.x,Tr.y]
 clear hr
 obtain⟨dx,gdx⟩: ∃ dx,dx=x1- x0:=⟨_,rfl⟩
 have vdx:IntKind.i64.wrap (x1- x0)=dx:=by rw [wrap_i64,gdx];unfold wrap64;omega
 have udx:wrap64 (x1- x0)=dx:=by rw [gdx];unfold wrap64;omega
 obtain⟨ex,gex⟩: ∃ ex,ex=s0- s2:=⟨_,rfl⟩
 have vex:IntKind.i64.wrap (s0- s2)=ex:=by rw [wrap_i64,gex];unfold wrap64;omega
 have uex:wrap64 (s0- s2)=ex:=by rw [gex];unfold wrap64;omega
 obtain⟨dy,gdy⟩: ∃ dy,dy=y1- y0:=⟨_,rfl⟩
 have vdy:IntKind.i64.wrap (y1- y0)=dy:=by rw [wrap_i64,gdy];unfold wrap64;omega
 have udy:wrap64 (y1- y0)=dy:=by rw [gdy];unfold wrap64;omega
 obtain⟨ey,gey⟩: ∃ ey,ey=t0- t2:=⟨_,rfl⟩
 have vey:IntKind.i64.wrap (t0- t2)=ey:=by rw [wrap_i64,gey];unfold wrap64;omega
 have uey:wrap64 (t0- t2)=ey:=by rw [gey];unfold wrap64;omega
 rw [←gdx,←gex,←gdy,←gey]at hr'
 have HR:Hid _:=hr'
 clear hr'
 clear gdx gex gdy gey ha hb
 by_cases h0:a0=b2
 ·have e0:(a0==b2)=true:=by simpa using h0
  by_cases h1:a1=b0
  ·have e1:(a1==b0)=true:=by simpa using h1
   by_cases h2:dx=ex
   ·have e2:(dx==ex)=true:=by simpa using h2
    have e3:(dy==ey)=r:=by rw [HR.out,decide_eq_true h0,decide_eq_true h1,decide_eq_true h2];rfl
    clear h0 h1 h2 HR
    go_enter Tryz.func63,Tryz.ntmps63
    go_wp2
    dsimp only [List.append]
    go_quiet (fail)
    go_wp2
    go_ret
    exact⟨by rw [←e3];rfl,hB _ _ _⟩
   ·have e2:(dx==ex)=false:=by simpa using h2
    obtain rfl:r=false:=by rw [HR.out,decide_eq_false h2];simp
    clear h0 h1 h2 HR
    go_enter Tryz.func63,Tryz.ntmps63
    go_wp2
    dsimp only [List.append]
    go_quiet (fail)
    go_wp2
    go_ret
    exact⟨rfl,hB _ _ _⟩
  ·have e1:(a1==b0)=false:=by simpa using h1
   obtain rfl:r=false:=by rw [HR.out,decide_eq_false h1];simp
   clear h0 h1 HR
   go_enter Tryz.func63,Tryz.ntmps63
   go_wp2
   dsimp only [List.append]
   go_quiet (fail)
   go_wp2
   go_ret
   exact⟨rfl,hB _ _ _⟩
 ·have e0:(a0==b2)=false:=by simpa using h0
  obtain rfl:r=false:=by rw [HR.out,decide_eq_false h0];simp
  clear h0 HR
  go_enter Tryz.func63,Tryz.ntmps63
  go_wp2
  dsimp only [List.append]
  go_quiet (fail)
  go_wp2
  go_ret
  exact⟨rfl,hB _ _ _⟩
set_option maxRecDepth 100000 in
set_option maxHeartbeats 1000000 in
theorem twin_10s(a b:Tr)(w:World)(ha:offB a)(hb:offB b){r:Bool}(hr:r=same a 1 b 0):
  Calls Tryz.prog 63 #[trV a, .int .i64 1,trV b, .int .i64 0, .bool false] w fun e w'=>e= .returned (.bool r)∧Below w.heap.size w w':=by
 have hB: ∀ o o' n,Below w.heap.size w (((w.alloc o).alloc o').drewN n):=fun o o' n=>(((Below.refl _ _).alloc (Nat.le_refl _) _).alloc (by simp) _).trans ⟨rfl,rfl,rfl,Nat.le_refl _,fun _ _=>rfl⟩
 have ha:=ha.all
 have hb:=hb.all
 obtain⟨a0,a1,a2,x0,y0,x1,y1,x2,y2⟩:=a
 obtain⟨b0,b1,b2,s0,t0,s1,t1,s2,t2⟩:=b
 simp only []at ha hb
 have hr':r=(decide (a1=b0) && (decide (a2=b1) && (decide (x2- x1=s1- s0) && decide (y2- y1=t1- t0)))):=by
  rw [hr];simp [same,nx,Tr.v,Tr.x,Tr.y]
 clear hr
 obtain⟨dx,gdx⟩: ∃ dx,dx=x2- x1:=⟨_,rfl⟩
 have vdx:IntKind.i64.wrap (x2- x1)=dx:=by rw [wrap_i64,gdx];unfold wrap64;omega
 have udx:wrap64 (x2- x1)=dx:=by rw [gdx];unfold wrap64;omega
 obtain⟨ex,gex⟩: ∃ ex,ex=s1- s0:=⟨_,rfl⟩
 have vex:IntKind.i64.wrap (s1- s0)=ex:=by rw [wrap_i64,gex];unfold wrap64;omega
 have uex:wrap64 (s1- s0)=ex:=by rw [gex];unfold wrap64;omega
 obtain⟨dy,gdy⟩: ∃ dy,dy=y2- y1:=⟨_,rfl⟩
 have vdy:IntKind.i64.wrap (y2- y1)=dy:=by rw [wrap_i64,gdy];unfold wrap64;omega
 have udy:wrap64 (y2- y1)=dy:=by rw [gdy];unfold wrap64;omega
 obtain⟨ey,gey⟩: ∃ ey,ey=t1- t0:=⟨_,rfl⟩
 have vey:IntKind.i64.wrap (t1- t0)=ey:=by rw [wrap_i64,gey];unfold wrap64;omega
 have uey:wrap64 (t1- t0)=ey:=by rw [gey];unfold wrap64;omega
 rw [←gdx,←gex,←gdy,←gey]at hr'
 have HR:Hid _:=hr'
 clear hr'
 clear gdx gex gdy gey ha hb
 by_cases h0:a1=b0
 ·have e0:(a1==b0)=true:=by simpa using h0
  by_cases h1:a2=b1
  ·have e1:(a2==b1)=true:=by simpa using h1
   by_cases h2:dx=ex
   ·have e2:(dx==ex)=true:=by simpa using h2
    have e3:(dy==ey)=r:=by rw [HR.out,decide_eq_true h0,decide_eq_true h1,decide_eq_true h2];rfl
    clear h0 h1 h2 HR
    go_enter Tryz.func63,Tryz.ntmps63
    go_wp2
    dsimp only [List.append]
    go_quiet (fail)
    go_wp2
    go_ret
    exact⟨by rw [←e3];rfl,hB _ _ _⟩
   ·have e2:(dx==ex)=false:=by simpa using h2
    obtain rfl:r=false:=by rw [HR.out,decide_eq_false h2];simp
    clear h0 h1 h2 HR
    go_enter Tryz.func63,Tryz.ntmps63
    go_wp2
    dsimp only [List.append]
    go_quiet (fail)
    go_wp2
    go_ret
    exact⟨rfl,hB _ _ _⟩
  ·have e1:(a2==b1)=false:=by simpa using h1
   obtain rfl:r=false:=by rw [HR.out,decide_eq_false h1];simp
   clear h0 h1 HR
   go_enter Tryz.func63,Tryz.ntmps63
   go_wp2
   dsimp only [List.append]
   go_quiet (fail)
   go_wp2
   go_ret
   exact⟨rfl,hB _ _ _⟩
 ·have e0:(a1==b0)=false:=by simpa using h0
  obtain rfl:r=false:=by rw [HR.out,decide_eq_false h0];simp
  clear h0 HR
  go_enter Tryz.func63,Tryz.ntmps63
  go_wp2
  dsimp only [List.append]
  go_quiet (fail)
  go_wp2
  go_ret
  exact⟨rfl,hB _ _ _⟩
set_option maxRecDepth 100000 in
set_option maxHeartbeats 1000000 in
theorem twin_11s(a b:Tr)(w:World)(ha:offB a)(hb:offB b){r:Bool}(hr:r=same a 1 b 1):
  Calls Tryz.prog 63 #[trV a, .int .i64 1,trV b, .int .i64 1, .bool false] w fun e w'=>e= .returned (.bool r)∧Below w.heap.size w w':=by
 have hB: ∀ o o' n,Below w.heap.size w (((w.alloc o).alloc o').drewN n):=fun o o' n=>(((Below.refl _ _).alloc (Nat.le_refl _) _).alloc (by simp) _).trans ⟨rfl,rfl,rfl,Nat.le_refl _,fun _ _=>rfl⟩
 have ha:=ha.all
 have hb:=hb.all
 obtain⟨a0,a1,a2,x0,y0,x1,y1,x2,y2⟩:=a
 obtain⟨b0,b1,b2,s0,t0,s1,t1,s2,t2⟩:=b
 simp only []at ha hb
 have hr':r=(decide (a1=b1) && (decide (a2=b2) && (decide (x2- x1=s2- s1) && decide (y2- y1=t2- t1)))):=by
  rw [hr];simp [same,nx,Tr.v,Tr.x,Tr.y]
 clear hr
 obtain⟨dx,gdx⟩: ∃ dx,dx=x2- x1:=⟨_,rfl⟩
 have vdx:IntKind.i64.wrap (x2- x1)=dx:=by rw [wrap_i64,gdx];unfold wrap64;omega
 have udx:wrap64 (x2- x1)=dx:=by rw [gdx];unfold wrap64;omega
 obtain⟨ex,gex⟩: ∃ ex,ex=s2- s1:=⟨_,rfl⟩
 have vex:IntKind.i64.wrap (s2- s1)=ex:=by rw [wrap_i64,gex];unfold wrap64;omega
 have uex:wrap64 (s2- s1)=ex:=by rw [gex];unfold wrap64;omega
 obtain⟨dy,gdy⟩: ∃ dy,dy=y2- y1:=⟨_,rfl⟩
 have vdy:IntKind.i64.wrap (y2- y1)=dy:=by rw [wrap_i64,gdy];unfold wrap64;omega
 have udy:wrap64 (y2- y1)=dy:=by rw [gdy];unfold wrap64;omega
 obtain⟨ey,gey⟩: ∃ ey,ey=t2- t1:=⟨_,rfl⟩
 have vey:IntKind.i64.wrap (t2- t1)=ey:=by rw [wrap_i64,gey];unfold wrap64;omega
 have uey:wrap64 (t2- t1)=ey:=by rw [gey];unfold wrap64;omega
 rw [←gdx,←gex,←gdy,←gey]at hr'
 have HR:Hid _:=hr'
 clear hr'
 clear gdx gex gdy gey ha hb
 by_cases h0:a1=b1
 ·have e0:(a1==b1)=true:=by simpa using h0
  by_cases h1:a2=b2
  ·have e1:(a2==b2)=true:=by simpa using h1
   by_cases h2:dx=ex
   ·have e2:(dx==ex)=true:=by simpa using h2
    have e3:(dy==ey)=r:=by rw [HR.out,decide_eq_true h0,decide_eq_true h1,decide_eq_true h2];rfl
    clear h0 h1 h2 HR
    go_enter Tryz.func63,Tryz.ntmps63
    go_wp2
    dsimp only [List.append]
    go_quiet (fail)
    go_wp2
    go_ret
    exact⟨by rw [←e3];rfl,hB _ _ _⟩
   ·have e2:(dx==ex)=false:=by simpa using h2
    obtain rfl:r=false:=by rw [HR.out,decide_eq_false h2];simp
    clear h0 h1 h2 HR
    go_enter Tryz.func63,Tryz.ntmps63
    go_wp2
    dsimp only [List.append]
    go_quiet (fail)
    go_wp2
    go_ret
    exact⟨rfl,hB _ _ _⟩
  ·have e1:(a2==b2)=false:=by simpa using h1
   obtain rfl:r=false:=by rw [HR.out,decide_eq_false h1];simp
   clear h0 h1 HR
   go_enter Tryz.func63,Tryz.ntmps63
   go_wp2
   dsimp only [List.append]
   go_quiet (fail)
   go_wp2
   go_ret
   exact⟨rfl,hB _ _ _⟩
 ·have e0:(a1==b1)=false:=by simpa using h0
  obtain rfl:r=false:=by rw [HR.out,decide_eq_false h0];simp
  clear h0 HR
  go_enter Tryz.func63,Tryz.ntmps63
  go_wp2
  dsimp only [List.append]
  go_quiet (fail)
  go_wp2
  go_ret
  exact⟨rfl,hB _ _ _⟩
set_option maxRecDepth 100000 in
set_option maxHeartbeats 1000000 in
theorem twin_12s(a b:Tr)(w:World)(ha:offB a)(hb:offB b){r:Bool}(hr:r=same a 1 b 2):
  Calls Tryz.prog 63 #[trV a, .int .i64 1,trV b, .int .i64 2, .bool false] w fun e w'=>e= .returned (.bool r)∧Below w.heap.size w w':=by
 have hB: ∀ o o' n,Below w.heap.size w (((w.alloc o).alloc o').drewN n):=fun o o' n=>(((Below.refl _ _).alloc (Nat.le_refl _) _).alloc (by simp) _).trans ⟨rfl,rfl,rfl,Nat.le_refl _,fun _ _=>rfl⟩
 have ha:=ha.all
 have hb:=hb.all
 obtain⟨a0,a1,a2,x0,y0,x1,y1,x2,y2⟩:=a
 obtain⟨b0,b1,b2,s0,t0,s1,t1,s2,t2⟩:=b
 simp only []at ha hb
 have hr':r=(decide (a1=b2) && (decide (a2=b0) && (decide (x2- x1=s0- s2) && decide (y2- y1=t0- t2)))):=by
  rw [hr];simp [same,nx,Tr.v,Tr.x,Tr.y]
 clear hr
 obtain⟨dx,gdx⟩: ∃ dx,dx=x2- x1:=⟨_,rfl⟩
 have vdx:IntKind.i64.wrap (x2- x1)=dx:=by rw [wrap_i64,gdx];unfold wrap64;omega
 have udx:wrap64 (x2- x1)=dx:=by rw [gdx];unfold wrap64;omega
 obtain⟨ex,gex⟩: ∃ ex,ex=s0- s2:=⟨_,rfl⟩
 have vex:IntKind.i64.wrap (s0- s2)=ex:=by rw [wrap_i64,gex];unfold wrap64;omega
 have uex:wrap64 (s0- s2)=ex:=by rw [gex];unfold wrap64;omega
 obtain⟨dy,gdy⟩: ∃ dy,dy=y2- y1:=⟨_,rfl⟩
 have vdy:IntKind.i64.wrap (y2- y1)=dy:=by rw [wrap_i64,gdy];unfold wrap64;omega
 have udy:wrap64 (y2- y1)=dy:=by rw [gdy];unfold wrap64;omega
 obtain⟨ey,gey⟩: ∃ ey,ey=t0- t2:=⟨_,rfl⟩
 have vey:IntKind.i64.wrap (t0- t2)=ey:=by rw [wrap_i64,gey];unfold wrap64;omega
 have uey:wrap64 (t0- t2)=ey:=by rw [gey];unfold wrap64;omega
 rw [←gdx,←gex,←gdy,←gey]at hr'
 have HR:Hid _:=hr'
 clear hr'
 clear gdx gex gdy gey ha hb
 by_cases h0:a1=b2
 ·have e0:(a1==b2)=true:=by simpa using h0
  by_cases h1:a2=b0
  ·have e1:(a2==b0)=true:=by simpa using h1
   by_cases h2:dx=ex
   ·have e2:(dx==ex)=true:=by simpa using h2
    have e3:(dy==ey)=r:=by rw [HR.out,decide_eq_true h0,decide_eq_true h1,decide_eq_true h2];rfl
    clear h0 h1 h2 HR
    go_enter Tryz.func63,Tryz.ntmps63
    go_wp2
    dsimp only [List.append]
    go_quiet (fail)
    go_wp2
    go_ret
    exact⟨by rw [←e3];rfl,hB _ _ _⟩
   ·have e2:(dx==ex)=false:=by simpa using h2
    obtain rfl:r=false:=by rw [HR.out,decide_eq_false h2];simp
    clear h0 h1 h2 HR
    go_enter Tryz.func63,Tryz.ntmps63
    go_wp2
    dsimp only [List.append]
    go_quiet (fail)
    go_wp2
    go_ret
    exact⟨rfl,hB _ _ _⟩
  ·have e1:(a2==b0)=false:=by simpa using h1
   obtain rfl:r=false:=by rw [HR.out,decide_eq_false h1];simp
   clear h0 h1 HR
   go_enter Tryz.func63,Tryz.ntmps63
   go_wp2
   dsimp only [List.append]
   go_quiet (fail)
   go_wp2
   go_ret
   exact⟨rfl,hB _ _ _⟩
 ·have e0:(a1==b2)=false:=by simpa using h0
  obtain rfl:r=false:=by rw [HR.out,decide_eq_false h0];simp
  clear h0 HR
  go_enter Tryz.func63,Tryz.ntmps63
  go_wp2
  dsimp only [List.append]
  go_quiet (fail)
  go_wp2
  go_ret
  exact⟨rfl,hB _ _ _⟩
end Go.Proofs.YtaadknpjbogkbaaGreat
