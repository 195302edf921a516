/-
  Joined texts, part 15:
  The landed mesh's Face, Corner.
  The landed mesh's Across.
  What the landed mesh's memory tells of the document's mesh, behind a face more and a face 
-/
import Derived.Test.YtaadknpjbogkbaaGreatP14
namespace Go.Proofs.YtaadknpjbogkbaaGreat
open Go.RowKit Go.Maps
set_option linter.unusedVariables false
set_option maxRecDepth 100000 in
theorem mFace(base p:Nat)(X:Mx)(S:Ms)(m:Nat)(F:Nat→Prop)(w:World)(h:MeI base p X F w)(hS:MeOk X S)(hk:MsOk S m)(hm:m≤1000)(f:Int)(hf:In64 f):
  Calls Tryz.prog 14 #[ptR p, .int .i64 f] w fun e w'=>e= .returned (.tuple #[trV (faceOf S f), .bool (isF S f)])∧Below w.heap.size w w':=by
 have hT:X.af.T≤1000:=by rw [hS.af];have:=hk.ft;omega
 obtain⟨W,hW⟩: ∃ W,W=w.alloc (.cells #[.int .i64 0, .int .i64 0, .int .i64 0, .int .i64 0, .int .i64 0, .int .i64 0, .int .i64 0, .int .i64 0, .int .i64 0] 49):=⟨_,rfl⟩
 have BW:Below w.heap.size w W:=by rw [hW];exact(Below.refl _ _).alloc (Nat.le_refl _) _
 have zW:w.heap.size<W.heap.size:=by rw [hW];simp
 have R0:Row W w.heap.size [.int .i64 0, .int .i64 0, .int .i64 0, .int .i64 0, .int .i64 0, .int .i64 0, .int .i64 0, .int .i64 0, .int .i64 0]:=by rw [hW];exact Row.new w [.int .i64 0, .int .i64 0, .int .i64 0, .int .i64 0, .int .i64 0, .int .i64 0, .int .i64 0, .int .i64 0, .int .i64 0] _
 have hW':=hW.symm
 have HA:Hid _:=(h.below BW).arf
 have q2:=(h.below BW).row.cell 2 _ rfl
 obtain⟨pf,hpf⟩: ∃ v,v=X.pf:=⟨_,rfl⟩
 rw [←hpf]at q2 HA
 have HD:Hid (isF S f=decide (f∈X.af.L)):=isF_dec hS hk f
 cases hb:isF S f with
 |false=>
  have e0:faceOf S f=trZero:=by unfold faceOf;rw [m_faceOf_no hb]
  rw [e0]
  rw [hb]at HD
  clear hW h hS hk e0 hpf
  go_enter Tryz.func14,Tryz.ntmps14
  go_wp2_with (go_at_call 40;fail)
  refine(arLive HA.out hT f hf HD.out).mono ?_
  rintro e w1 ⟨rfl,b1⟩
  have R1:=R0.below b1 zW
  have c0:=R1.cell 0 _ rfl
  have f0:=R1.free 0 (by simp)
  have c1:=R1.cell 1 _ rfl
  have f1:=R1.free 1 (by simp)
  have c2:=R1.cell 2 _ rfl
  have f2:=R1.free 2 (by simp)
  have c3:=R1.cell 3 _ rfl
  have f3:=R1.free 3 (by simp)
  have c4:=R1.cell 4 _ rfl
  have f4:=R1.free 4 (by simp)
  have c5:=R1.cell 5 _ rfl
  have f5:=R1.free 5 (by simp)
  have c6:=R1.cell 6 _ rfl
  have f6:=R1.free 6 (by simp)
  have c7:=R1.cell 7 _ rfl
  have f7:=R1.free 7 (by simp)
  have c8:=R1.cell 8 _ rfl
  have f8:=R1.free 8 (by simp)
  clear hW'
  go_wp2
  have R2:=(((((((((R1.set 0 (.int .i64 0) (by simp)).set 1 (.int .i64 0) (by simp)).set 2 (.int .i64 0) (by simp)).set 3 (.int .i64 0) (by simp)).set 4 (.int .i64 0) (by simp)).set 5 (.int .i64 0) (by simp)).set 6 (.int .i64 0) (by simp)).set 7 (.int .i64 0) (by simp)).set 8 (.int .i64 0) (by simp))
  have d0:=R2.cell 0 _ rfl
  have d1:=R2.cell 1 _ rfl
  have d2:=R2.cell 2 _ rfl
  have d3:=R2.cell 3 _ rfl
  have d4:=R2.cell 4 _ rfl
  have d5:=R2.cell 5 _ rfl
  have d6:=R2.cell 6 _ rfl
  have d7:=R2.cell 7 _ rfl
  have d8:=R2.cell 8 _ rfl
  refine bodyPost_ret (v:= .tuple #[.agg #[.int .i64 0, .int .i64 0, .int .i64 0, .int .i64 0, .int .i64 0, .int .i64 0, .int .i64 0, .int .i64 0, .int .i64 0], .bool false]) (by simp [results,Tryz.results14,go_sem, *]) rfl ?_
  exact⟨rfl,((((((((((BW.trans (b1.mono BW.size)).setCell (Nat.le_refl _) _).setCell (Nat.le_refl _) _).setCell (Nat.le_refl _) _).setCell (Nat.le_refl _) _).setCell (Nat.le_refl _) _).setCell (Nat.le_refl _) _).setCell (Nat.le_refl _) _).setCell (Nat.le_refl _) _).setCell (Nat.le_refl _) _)⟩
 |true=>
  obtain⟨c,hc,rfl⟩:=isF_iff.1 hb
  have e0:faceOf S c.no=c.t:=by unfold faceOf;rw [m_faceOf_at hk hc]
  rw [e0]
  rw [hb]at HD
  obtain⟨g,k,hXb,hg,hak,hkn,hcap,hcc⟩:=h.fcell hS hk hc
  have q4:=(h.below BW).row.cell 4 _ rfl
  rw [hXb]at q4
  obtain⟨no,t⟩:=c
  have u0:=(BW.cell (p:=⟨g,k*9,none⟩) hg).trans (hcc 0 _ rfl).1
  have u1:=(BW.cell (p:=⟨g,k*9+1,none⟩) hg).trans (hcc 1 _ rfl).1
  have u2:=(BW.cell (p:=⟨g,k*9+2,none⟩) hg).trans (hcc 2 _ rfl).1
  have u3:=(BW.cell (p:=⟨g,k*9+3,none⟩) hg).trans (hcc 3 _ rfl).1
  have u4:=(BW.cell (p:=⟨g,k*9+4,none⟩) hg).trans (hcc 4 _ rfl).1
  have u5:=(BW.cell (p:=⟨g,k*9+5,none⟩) hg).trans (hcc 5 _ rfl).1
  have u6:=(BW.cell (p:=⟨g,k*9+6,none⟩) hg).trans (hcc 6 _ rfl).1
  have u7:=(BW.cell (p:=⟨g,k*9+7,none⟩) hg).trans (hcc 7 _ rfl).1
  have u8:=(BW.cell (p:=⟨g,k*9+8,none⟩) hg).trans (hcc 8 _ rfl).1
  have lp:p<W.heap.size:=(h.below BW).row.lt
  have lg:g<W.heap.size:=by omega
  obtain⟨nf,hnf⟩: ∃ v,v=X.nf:=⟨_,rfl⟩
  obtain⟨cb,hcb⟩: ∃ v,v=X.cb:=⟨_,rfl⟩
  rw [←hnf,←hcb]at q4
  rw [←hnf]at hkn
  have hlt:(k:Int)<(nf:Int):=by omega
  replace hak:no=(k:Int):=hak
  subst hak
  clear hW h hS hk hcc hXb hnf hcb hc hb hcap e0 hpf
  go_enter Tryz.func14,Tryz.ntmps14
  go_wp2_with (go_at_call 40;fail)
  refine(arLive HA.out hT (k:Int) hf HD.out).mono ?_
  rintro e w1 ⟨rfl,b1⟩
  have R1:=R0.below b1 zW
  have c0:=R1.cell 0 _ rfl
  have f0:=R1.free 0 (by simp)
  have c1:=R1.cell 1 _ rfl
  have f1:=R1.free 1 (by simp)
  have c2:=R1.cell 2 _ rfl
  have f2:=R1.free 2 (by simp)
  have c3:=R1.cell 3 _ rfl
  have f3:=R1.free 3 (by simp)
  have c4:=R1.cell 4 _ rfl
  have f4:=R1.free 4 (by simp)
  have c5:=R1.cell 5 _ rfl
  have f5:=R1.free 5 (by simp)
  have c6:=R1.cell 6 _ rfl
  have f6:=R1.free 6 (by simp)
  have c7:=R1.cell 7 _ rfl
  have f7:=R1.free 7 (by simp)
  have c8:=R1.cell 8 _ rfl
  have f8:=R1.free 8 (by simp)
  replace q4:=(b1.cell (p:=⟨p,4,none⟩) lp).trans q4
  replace u0:=(b1.cell (p:=⟨g,k*9,none⟩) lg).trans u0
  replace u1:=(b1.cell (p:=⟨g,k*9+1,none⟩) lg).trans u1
  replace u2:=(b1.cell (p:=⟨g,k*9+2,none⟩) lg).trans u2
  replace u3:=(b1.cell (p:=⟨g,k*9+3,none⟩) lg).trans u3
  replace u4:=(b1.cell (p:=⟨g,k*9+4,none⟩) lg).trans u4
  replace u5:=(b1.cell (p:=⟨g,k*9+5,none⟩) lg).trans u5
  replace u6:=(b1.cell (p:=⟨g,k*9+6,none⟩) lg).trans u6
  replace u7:=(b1.cell (p:=⟨g,k*9+7,none⟩) lg).trans u7
  replace u8:=(b1.cell (p:=⟨g,k*9+8,none⟩) lg).trans u8
  clear hW'
  go_wp2
  have R2:=(((((((((R1.set 0 (.int .i64 t.v0) (by simp)).set 1 (.int .i64 t.v1) (by simp)).set 2 (.int .i64 t.v2) (by simp)).set 3 (.int .i64 t.x0) (by simp)).set 4 (.int .i64 t.y0) (by simp)).set 5 (.int .i64 t.x1) (by simp)).set 6 (.int .i64 t.y1) (by simp)).set 7 (.int .i64 t.x2) (by simp)).set 8 (.int .i64 t.y2) (by simp))
  have d0:=R2.cell 0 _ rfl
  have d1:=R2.cell 1 _ rfl
  have d2:=R2.cell 2 _ rfl
  have d3:=R2.cell 3 _ rfl
  have d4:=R2.cell 4 _ rfl
  have d5:=R2.cell 5 _ rfl
  have d6:=R2.cell 6 _ rfl
  have d7:=R2.cell 7 _ rfl
  have d8:=R2.cell 8 _ rfl
  refine bodyPost_ret (v:= .tuple #[.agg #[.int .i64 t.v0, .int .i64 t.v1, .int .i64 t.v2, .int .i64 t.x0, .int .i64 t.y0, .int .i64 t.x1, .int .i64 t.y1, .int .i64 t.x2, .int .i64 t.y2], .bool true]) (by simp [results,Tryz.results14,go_sem, *]) rfl ?_
  exact⟨rfl,((((((((((BW.trans (b1.mono BW.size)).setCell (Nat.le_refl _) _).setCell (Nat.le_refl _) _).setCell (Nat.le_refl _) _).setCell (Nat.le_refl _) _).setCell (Nat.le_refl _) _).setCell (Nat.le_refl _) _).setCell (Nat.le_refl _) _).setCell (Nat.le_refl _) _).setCell (Nat.le_refl _) _)⟩
theorem faceOf_mem{S:Ms}{f:Int}(h:isF S f=true){m:Nat}(hk:MsOk S m): ∃ c∈S.C,c.no=f∧faceOf S f=c.t:=by
 obtain⟨c,hc,rfl⟩:=isF_iff.1 h
 exact⟨c,hc,rfl,by unfold faceOf;rw [m_faceOf_at hk hc]⟩
theorem mFaceL(base p:Nat)(X:Mx)(S:Ms)(m:Nat)(F:Nat→Prop)(w:World)(h:MeI base p X F w)(hS:MeOk X S)(hk:MsOk S m)(hm:m≤1000)(f:Int)(hf:In64 f){t:Tr}{r:Bool}(ht:t=faceOf S f)(hr:r=isF S f):
  Calls Tryz.prog 14 #[ptR p, .int .i64 f] w fun e w'=>e= .returned (.tuple #[trV t, .bool r])∧Below w.heap.size w w':=by
 subst ht hr
 exact mFace base p X S m F w h hS hk hm f hf
theorem corner_lt(i:Int):corner i<3:=by unfold corner;omega
theorem corner_eq(i:Int):((corner i:Nat):Int)=i % 3:=by unfold corner;omega
set_option maxRecDepth 100000 in
theorem mCorner0(pp:Value)(f i:Int)(w:World)(hF: ∀ w',Below w.heap.size w w'→Calls Tryz.prog 14 #[pp, .int .i64 f] w' fun e w''=>e= .returned (.tuple #[trV trZero, .bool false])∧Below w'.heap.size w' w''):
  Calls Tryz.prog 103 #[pp, .int .i64 f, .int .i64 i] w fun e w'=>e= .returned (.tuple #[.agg #[.int .i64 0, .int .i64 0], .bool false])∧Below w.heap.size w w':=by
 obtain⟨W,hW⟩: ∃ W,W=w.alloc (.cells #[.int .i64 0, .int .i64 0] 24):=⟨_,rfl⟩
 have BW:Below w.heap.size w W:=by rw [hW];exact(Below.refl _ _).alloc (Nat.le_refl _) _
 have zW:w.heap.size<W.heap.size:=by rw [hW];simp
 have R0:Row W w.heap.size [.int .i64 0, .int .i64 0]:=by rw [hW];exact Row.new w [.int .i64 0, .int .i64 0] _
 have hW':=hW.symm
 have HF:Hid _:=hF W BW
 clear hW hF
 go_enter Tryz.func103,Tryz.ntmps103
 go_wp2_with (go_at_call 14;fail)
 refine(Calls.mono HF.out) ?_
 rintro e w1 ⟨rfl,b1⟩
 clear hW'
 obtain⟨V,hV⟩: ∃ V,V=w1.alloc (.cells (trC trZero).toArray 49):=⟨_,rfl⟩
 have z1:=b1.size
 have BV:Below w.heap.size w V:=by rw [hV];exact(BW.trans (b1.mono BW.size)).alloc (Nat.le_trans BW.size b1.size) _
 have R1:Row V w.heap.size [.int .i64 0, .int .i64 0]:=by rw [hV];exact(R0.below b1 zW).alloc _ (by omega)
 have hV':w1.alloc (.cells #[.int .i64 trZero.v0, .int .i64 trZero.v1, .int .i64 trZero.v2, .int .i64 trZero.x0, .int .i64 trZero.y0, .int .i64 trZero.x1, .int .i64 trZero.y1, .int .i64 trZero.x2, .int .i64 trZero.y2] 49)=V:=hV.symm
 have c0:=R1.cell 0 _ rfl
 have c1:=R1.cell 1 _ rfl
 have f0:=R1.free 0 (by simp)
 have f1:=R1.free 1 (by simp)
 clear hV
 go_wp2
 have R2:=(R1.set 0 (.int .i64 0) (by simp)).set 1 (.int .i64 0) (by simp)
 have d0:=R2.cell 0 _ rfl
 have d1:=R2.cell 1 _ rfl
 refine bodyPost_ret (v:= .tuple #[.agg #[.int .i64 0, .int .i64 0], .bool false]) (by simp [results,Tryz.results103,go_sem, *]) rfl ?_
 exact⟨rfl,(BV.setCell (Nat.le_refl _) _).setCell (Nat.le_refl _) _⟩
set_option maxRecDepth 100000 in
theorem mCorner(base p:Nat)(X:Mx)(S:Ms)(m:Nat)(F:Nat→Prop)(w:World)(h:MeI base p X F w)(hS:MeOk X S)(hk:MsOk S m)(hm:m≤1000)(f i:Int)(hf:In64 f)(hi:In64 i)(hb:isF S f=true):
  Calls Tryz.prog 103 #[ptR p, .int .i64 f, .int .i64 i] w fun e w'=>e= .returned (.tuple #[.agg #[.int .i64 (plX S (faceOf S f) (corner i)), .int .i64 (plY S (faceOf S f) (corner i))], .bool true])∧Below w.heap.size w w':=by
 obtain⟨c,hc,hcn,hct⟩:=faceOf_mem hb hk
 obtain⟨t,ht⟩: ∃ t,t=faceOf S f:=⟨_,rfl⟩
 obtain⟨k,hkc⟩: ∃ k,k=corner i:=⟨_,rfl⟩
 have hk3:k<3:=by rw [hkc];exact corner_lt i
 have HK3:Hid ((k:Int)=i % 3):=by unfold Hid;rw [hkc];exact corner_eq i
 rw [←ht,←hkc]
 have HV:Hid (isV S (t.v k)=true):=by unfold Hid;rw [ht,hct];exact hk.fi c hc k hk3
 obtain⟨u,HU⟩: ∃ u,Hid (u=plX S t k):=⟨_,rfl⟩
 obtain⟨v,HW⟩: ∃ v,Hid (v=plY S t k):=⟨_,rfl⟩
 have HB:Hid (true=plOk S t k):=by unfold Hid;rw [ht,hct];exact(hk.fo c hc k hk3).symm
 rw [←HU.out,←HW.out]
 have HT:Hid _:=ht
 have HR:Hid (true=isF S f):=hb.symm
 obtain⟨W,hW⟩: ∃ W,W=w.alloc (.cells #[.int .i64 0, .int .i64 0] 24):=⟨_,rfl⟩
 have BW:Below w.heap.size w W:=by rw [hW];exact(Below.refl _ _).alloc (Nat.le_refl _) _
 have zW:w.heap.size<W.heap.size:=by rw [hW];simp
 have R0:Row W w.heap.size [.int .i64 0, .int .i64 0]:=by rw [hW];exact Row.new w [.int .i64 0, .int .i64 0] _
 have hW':=hW.symm
 have HI:Hid _:=h
 have HS:Hid _:=hS
 have HK:Hid _:=hk
 have hpl:=h.row.lt
 clear hW h hS hk hb hc hcn hct ht hkc
 go_enter Tryz.func103,Tryz.ntmps103
 go_wp2_with (go_at_call 14;fail)
 refine(mFaceL base p X S m F W (HI.out.below BW) HS.out HK.out hm f hf HT.out HR.out).mono ?_
 rintro e w1 ⟨rfl,b1⟩
 clear hW'
 obtain⟨V,hV⟩: ∃ V,V=w1.alloc (.cells (trC t).toArray 49):=⟨_,rfl⟩
 have z1:=b1.size
 have BV:Below w.heap.size w V:=by rw [hV];exact(BW.trans (b1.mono BW.size)).alloc (Nat.le_trans BW.size b1.size) _
 have R1:Row V w.heap.size [.int .i64 0, .int .i64 0]:=by rw [hV];exact(R0.below b1 zW).alloc _ (by omega)
 have RT:Row V w1.heap.size (trC t):=by rw [hV];exact Row.new w1 (trC t) _
 have zV:w1.heap.size<V.heap.size:=by rw [hV];simp
 have hV':w1.alloc (.cells #[.int .i64 t.v0, .int .i64 t.v1, .int .i64 t.v2, .int .i64 t.x0, .int .i64 t.y0, .int .i64 t.x1, .int .i64 t.y1, .int .i64 t.x2, .int .i64 t.y2] 49)=V:=hV.symm
 have nt: ¬w1.heap.size=w.heap.size:=by omega
 have t0:=RT.cell 0 _ rfl
 have t1:=RT.cell 1 _ rfl
 have t2:=RT.cell 2 _ rfl
 have t3:=RT.cell 3 _ rfl
 have t4:=RT.cell 4 _ rfl
 have t5:=RT.cell 5 _ rfl
 have t6:=RT.cell 6 _ rfl
 have t7:=RT.cell 7 _ rfl
 have t8:=RT.cell 8 _ rfl
 have HIV:Hid _:=HI.out.below BV
 have hne: ∀ k,F k→ ¬k=w.heap.size:=fun k f e=>by have:=(HI.out.ft k f).2;omega
 clear hV
 go_wp2
 clear hV'
 have HSco:Hid (∀ w',Keep (fun k=>k=w.heap.size) V w'→(fun w'=>w'.cell? ⟨w1.heap.size,0,none⟩=some (.int .i64 t.v0)∧w'.cell? ⟨w1.heap.size,1,none⟩=some (.int .i64 t.v1)∧w'.cell? ⟨w1.heap.size,2,none⟩=some (.int .i64 t.v2)∧w'.cell? ⟨w1.heap.size,3,none⟩=some (.int .i64 t.x0)∧w'.cell? ⟨w1.heap.size,4,none⟩=some (.int .i64 t.y0)∧w'.cell? ⟨w1.heap.size,5,none⟩=some (.int .i64 t.x1)∧w'.cell? ⟨w1.heap.size,6,none⟩=some (.int .i64 t.y1)∧w'.cell? ⟨w1.heap.size,7,none⟩=some (.int .i64 t.x2)∧w'.cell? ⟨w1.heap.size,8,none⟩=some (.int .i64 t.y2)∧Keep (fun k=>k=w.heap.size) V w') w'):=by
  unfold Hid
  intro w' hb
  exact⟨(hb.cell (p:=⟨w1.heap.size,0,none⟩) zV nt).trans t0,(hb.cell (p:=⟨w1.heap.size,1,none⟩) zV nt).trans t1,(hb.cell (p:=⟨w1.heap.size,2,none⟩) zV nt).trans t2,(hb.cell (p:=⟨w1.heap.size,3,none⟩) zV nt).trans t3,(hb.cell (p:=⟨w1.heap.size,4,none⟩) zV nt).trans t4,(hb.cell (p:=⟨w1.heap.size,5,none⟩) zV nt).trans t5,(hb.cell (p:=⟨w1.heap.size,6,none⟩) zV nt).trans t6,(hb.cell (p:=⟨w1.heap.size,7,none⟩) zV nt).trans t7,(hb.cell (p:=⟨w1.heap.size,8,none⟩) zV nt).trans t8,hb⟩
 refine wp_region_held_drew (S:=fun w'=>w'.cell? ⟨w1.heap.size,0,none⟩=some (.int .i64 t.v0)∧w'.cell? ⟨w1.heap.size,1,none⟩=some (.int .i64 t.v1)∧w'.cell? ⟨w1.heap.size,2,none⟩=some (.int .i64 t.v2)∧w'.cell? ⟨w1.heap.size,3,none⟩=some (.int .i64 t.x0)∧w'.cell? ⟨w1.heap.size,4,none⟩=some (.int .i64 t.y0)∧w'.cell? ⟨w1.heap.size,5,none⟩=some (.int .i64 t.x1)∧w'.cell? ⟨w1.heap.size,6,none⟩=some (.int .i64 t.y1)∧w'.cell? ⟨w1.heap.size,7,none⟩=some (.int .i64 t.x2)∧w'.cell? ⟨w1.heap.size,8,none⟩=some (.int .i64 t.y2)∧Keep (fun k=>k=w.heap.size) V w') (by kernel_rfl) ?_ (fun hHeld=>?_)
 ·exact HSco.out _ ((Keep.refl _ _).drew)
 refine tn 0 ?_;refine tn 1 ?_;refine tn 2 ?_
 simp only [Go.Act.put,ps1,ps2,ps3]
 refine tcl 3 fun Kc hK=>?_
 go_simp
 (go_at_call 113;refine(mThird i _ HK3.out).mono ?_;rintro e w2 ⟨rfl,b2⟩)
 refine hK.out _ _ ?_ (fun hHeld=>?_)
 ·exact HSco.out _ (hHeld.2.2.2.2.2.2.2.2.2.to b2)
 clear hK Kc
 refine tcl 4 fun Kc hK=>?_
 go_simp
 (go_at_call 123;refine(mPlaceL base p X S m F w2 (HIV.out.keep hHeld.2.2.2.2.2.2.2.2.2 hne) HS.out HK.out t k hk3 HV.out HB.out HU.out HW.out).mono ?_;rintro e w3 ⟨rfl,b3⟩)
 refine hK.out _ _ ?_ (fun hHeld=>?_)
 ·exact HSco.out _ (hHeld.2.2.2.2.2.2.2.2.2.to b3)
 clear hK Kc
 refine tn 5 ?_;refine tn 6 ?_
 simp only [Go.Act.put,ps1,ps2,ps3]
 have R3:Row w3 w.heap.size [.int .i64 0, .int .i64 0]:=(show Row V.drew w.heap.size [.int .i64 0, .int .i64 0]from R1).below b2 (by simp;omega)|>.below b3 (by have:=b2.size;simp at this;omega)
 have g0:=R3.cell 0 _ rfl
 have g1:=R3.cell 1 _ rfl
 have f0:=R3.free 0 (by simp)
 have f1:=R3.free 1 (by simp)
 refine tcl 7 fun Kc hK=>?_
 go_simp
 refine hK.out _ _ ?_ (fun hHeld=>?_)
 ·exact HSco.out _ ((hHeld.2.2.2.2.2.2.2.2.2.set (Or.inl rfl) _).set (Or.inl rfl) _)
 clear hK Kc
 refine tz (i:=8) rfl ?_
 simp only [Go.Act.put,ps1,ps2,ps3]
 refine wpAnyH_done (by kernel_rfl) ?_ _
 have KF:=hHeld.2.2.2.2.2.2.2.2.2
 have R4:=(R3.set 0 (.int .i64 u) (by simp)).set 1 (.int .i64 v) (by simp)
 have d0:=R4.cell 0 _ rfl
 have d1:=R4.cell 1 _ rfl
 go_wp2
 refine bodyPost_ret (v:= .tuple #[.agg #[.int .i64 u, .int .i64 v], .bool true]) (by simp [results,Tryz.results103,go_sem, *]) rfl ?_
 exact⟨rfl,BV.trans (KF.below BV.size (fun k e=>by omega))⟩
theorem offS_small{S:Ms}{t:Tr}{i:Nat}(h:plOk S t i=true)(hn:1≤S.n)(hp:(0≤(pos S.V (t.v i)).1∧(pos S.V (t.v i)).1≤17179869184)∧(0≤(pos S.V (t.v i)).2∧(pos S.V (t.v i)).2≤17179869184)):(-4000000000000≤t.x i∧t.x i≤4000000000000)∧(-4000000000000≤t.y i∧t.y i≤4000000000000):=by
 unfold plOk atC at h
 simp only [Bool.and_eq_true]at h
 have hx:=inC_true.1 h.2.2.1
 have hy:=inC_true.1 h.2.2.2
 have key: ∀ q z:Int,0≤q→q≤17179869184→ -1099511627776≤q+z*S.n→q+z*S.n≤1099511627776→ -4000000000000≤z∧z≤4000000000000:=by
  intro q z h0 h1 h2 h3
  constructor
  ·refine Int.not_lt.1 fun e=>?_
   have:=Int.mul_le_mul_of_nonneg_right (show z≤ -4000000000000 by omega) (show 0≤S.n by omega)
   omega
  ·refine Int.not_lt.1 fun e=>?_
   have:=Int.mul_le_mul_of_nonneg_right (show 4000000000000≤z by omega) (show 0≤S.n by omega)
   omega
 exact⟨key _ _ hp.1.1 hp.1.2 hx.1 hx.2,key _ _ hp.2.1 hp.2.2 hy.1 hy.2⟩
theorem pos_small{S:Ms}{m:Nat}(hk:MsOk S m){v:Int}(hv:isV S v=true):(0≤(pos S.V v).1∧(pos S.V v).1≤17179869184)∧(0≤(pos S.V v).2∧(pos S.V v).2≤17179869184):=by
 obtain⟨a,ha,rfl⟩:=isV_iff.1 hv
 rw [pos_of hk.vs ha]
 have h1:=hk.vq a ha
 have h2:=hk.n1
 exact⟨⟨h1.1.1,by have:=h1.1.2;simp only [];omega⟩,⟨h1.2.1.1,by have:=h1.2.1.2;simp only [];omega⟩⟩
def Small(t:Tr):Prop:= ∀ i,i<3→(-4000000000000≤t.x i∧t.x i≤4000000000000)∧(-4000000000000≤t.y i∧t.y i≤4000000000000)
theorem small_of{S:Ms}{m:Nat}(hk:MsOk S m){t:Tr}(hv: ∀ i,i<3→isV S (t.v i)=true)(ho: ∀ i,i<3→plOk S t i=true):Small t:=fun i hi=>offS_small (ho i hi) hk.n1.1 (pos_small hk (hv i hi))
theorem small_mem{S:Ms}{m:Nat}(hk:MsOk S m){c:Ce}(hc:c∈S.C):Small c.t:=small_of hk (hk.fi c hc) (hk.fo c hc)
theorem nx_lt(i:Nat):nx i<3:=by unfold nx;omega
theorem wrap_small{x:Int}(h: -9000000000000≤x∧x≤9000000000000):wrap64 x=x:=by unfold wrap64;omega
theorem egW_eq{t:Tr}(h:Small t){i:Nat}(hi:i<3):egW t i=eg t i:=by
 have h1:=h i hi
 have h2:=h (nx i) (nx_lt i)
 unfold egW eg
 rw [wrap_small ⟨by omega,by omega⟩,wrap_small ⟨by omega,by omega⟩]
theorem eg_ok{S:Ms}{m:Nat}(hk:MsOk S m)(hm:m≤1000){t:Tr}(hs:Small t)(hv: ∀ i,i<3→isV S (t.v i)=true){i:Nat}(hi:i<3):(eg t i).ok:=by
 have h1:=hs i hi
 have h2:=hs (nx i) (nx_lt i)
 have vr: ∀ j,j<3→I64 (t.v j):=fun j hj=>by
  obtain⟨a,ha,e⟩:=isV_iff.1 (hv j hj)
  have h3:=(hk.vmem ha).2
  have h4:=hk.vt
  rw [e]at h3
  exact⟨by omega,by omega⟩
 exact⟨vr i hi,vr _ (nx_lt i),⟨by show _≤t.x (nx i)- t.x i;omega,by show t.x (nx i)- t.x i≤_;omega⟩,⟨by show _≤t.y (nx i)- t.y i;omega,by show t.y (nx i)- t.y i≤_;omega⟩⟩
theorem egT_ok{S:Ms}{m:Nat}(hk:MsOk S m)(hm:m≤1000){t:Tr}(hs:Small t)(hv: ∀ i,i<3→isV S (t.v i)=true){i:Nat}(hi:i<3):egT (eg t i)=⟨t.v (nx i),t.v i,t.x i- t.x (nx i),t.y i- t.y (nx i)⟩∧(egT (eg t i)).ok:=by
 have h1:=hs i hi
 have h2:=hs (nx i) (nx_lt i)
 have h0:=eg_ok hk hm hs hv hi
 have e:egT (eg t i)=⟨t.v (nx i),t.v i,t.x i- t.x (nx i),t.y i- t.y (nx i)⟩:=by
  unfold egT eg
  simp only [Eg.mk.injEq,true_and]
  exact⟨by rw [wrap_small ⟨by omega,by omega⟩];omega,by rw [wrap_small ⟨by omega,by omega⟩];omega⟩
 rw [e]
 exact⟨rfl,h0.2.1,h0.1,⟨by show _≤t.x i- t.x (nx i);omega,by show t.x i- t.x (nx i)≤_;omega⟩,⟨by show _≤t.y i- t.y (nx i);omega,by show t.y i- t.y (nx i)≤_;omega⟩⟩
theorem opp_eg{S:Ms}{m:Nat}(hk:MsOk S m)(hm:m≤1000){t:Tr}(hs:Small t)(hv: ∀ i,i<3→isV S (t.v i)=true){i:Nat}(hi:i<3)(b:Tr)(k:Nat):opp t i b k=true↔egT (eg t i)=eg b k:=by
 rw [(egT_ok hk hm hs hv hi).1]
 unfold opp eg
 rw [decide_eq_true_iff]
 simp only [Eg.mk.injEq]
 constructor
 ·rintro⟨h1,h2,h3,h4⟩
  exact⟨h2,h1,by omega,by omega⟩
 ·rintro⟨h1,h2,h3,h4⟩
  exact⟨h2,h1,by omega,by omega⟩
theorem m_acr_some{t:Tr}{a:Nat}: ∀ {C:List Ce} {c:Ce} {k:Nat},acr t a C=some (c,k)→c∈C∧k<3∧opp t a c.t k=true
 | [],c,k,h=>by cases h
 |d::C,c,k,h=>by
  unfold acr at h
  split at h
  ·rename_i e;cases h;exact⟨List.mem_cons_self,by omega,e⟩
  ·split at h
   ·rename_i e;cases h;exact⟨List.mem_cons_self,by omega,e⟩
   ·split at h
    ·rename_i e;cases h;exact⟨List.mem_cons_self,by omega,e⟩
    ·obtain⟨h1,h2⟩:=m_acr_some h
     exact⟨List.mem_cons_of_mem _ h1,h2⟩
theorem m_acr_none{t:Tr}{a:Nat}: ∀ {C:List Ce},acr t a C=none→ ∀ c∈C, ∀ k,k<3→opp t a c.t k=false
 | [],h,c,hc,k,hk=>by cases hc
 |d::C,h,c,hc,k,hk=>by
  unfold acr at h
  split at h
  ·cases h
  ·rename_i e0
   split at h
   ·cases h
   ·rename_i e1
    split at h
    ·cases h
    ·rename_i e2
     rcases List.mem_cons.1 hc with rfl|hc
     ·rcases(by omega:k=0∨k=1∨k=2)with rfl|rfl|rfl
      ·simpa using e0
      ·simpa using e1
      ·simpa using e2
     ·exact m_acr_none h c hc k hk
theorem MeOk.across{X:Mx}{S:Ms}{m:Nat}(h:MeOk X S)(hk:MsOk S m)(hm:m≤1000){t:Tr}(hs:Small t)(hv: ∀ i,i<3→isV S (t.v i)=true){i:Nat}(hi:i<3):X.ge (egT (eg t i))=(acr t i S.C).map (fun r=>stV r.1.no (r.2:Int)):=by
 cases ha:acr t i S.C with
 |none=>
  cases hg:X.ge (egT (eg t i))with
  |none=>rfl
  |some v=>
   obtain⟨c,hc,k,hk3,e⟩:=h.ge2 _ (by rw [hg];exact fun e=>by cases e)
   have h1:=m_acr_none ha c hc k hk3
   rw [(opp_eg hk hm hs hv hi c.t k).2 e]at h1
   cases h1
 |some r=>
  obtain⟨c,k⟩:=r
  obtain⟨hc,hk3,ho⟩:=m_acr_some ha
  rw [(opp_eg hk hm hs hv hi c.t k).1 ho,h.ge1 c hc k hk3]
  rfl
theorem MeOk.starts{X:Mx}{S:Ms}(h:MeOk X S):Starts X.ge:=fun e v hv=>by
 obtain⟨c,hc,k,hk3,rfl⟩:=h.ge2 e (by rw [hv];exact fun e=>by cases e)
 rw [h.ge1 c hc k hk3]at hv
 cases hv
 exact⟨_,_,rfl⟩
set_option maxRecDepth 100000 in
theorem mAcross0(pp:Value)(f i:Int)(w:World)(hF: ∀ w',Below w.heap.size w w'→Calls Tryz.prog 14 #[pp, .int .i64 f] w' fun e w''=>e= .returned (.tuple #[trV trZero, .bool false])∧Below w'.heap.size w' w''):
  Calls Tryz.prog 106 #[pp, .int .i64 f, .int .i64 i] w fun e w'=>e= .returned (.tuple #[.int .i64 (-1), .int .i64 0, .agg #[.int .i64 0, .int .i64 0], .bool false])∧Below w.heap.size w w':=by
 obtain⟨W,hW⟩: ∃ W,W=w.alloc (.cells #[.int .i64 0, .int .i64 0] 32):=⟨_,rfl⟩
 have BW:Below w.heap.size w W:=by rw [hW];exact(Below.refl _ _).alloc (Nat.le_refl _) _
 have zW:w.heap.size<W.heap.size:=by rw [hW];simp
 have R0:Row W w.heap.size [.int .i64 0, .int .i64 0]:=by rw [hW];exact Row.new w [.int .i64 0, .int .i64 0] _
 have hW':=hW.symm
 have HF:Hid _:=hF W BW
 clear hW hF
 go_enter Tryz.func106,Tryz.ntmps106
 go_wp2_with (go_at_call 14;fail)
 refine(Calls.mono HF.out) ?_
 rintro e w1 ⟨rfl,b1⟩
 clear hW'
 obtain⟨V,hV⟩: ∃ V,V=w1.alloc (.cells (trC trZero).toArray 49):=⟨_,rfl⟩
 have z1:=b1.size
 have BV:Below w.heap.size w V:=by rw [hV];exact(BW.trans (b1.mono BW.size)).alloc (Nat.le_trans BW.size b1.size) _
 have R1:Row V w.heap.size [.int .i64 0, .int .i64 0]:=by rw [hV];exact(R0.below b1 zW).alloc _ (by omega)
 have hV':w1.alloc (.cells #[.int .i64 trZero.v0, .int .i64 trZero.v1, .int .i64 trZero.v2, .int .i64 trZero.x0, .int .i64 trZero.y0, .int .i64 trZero.x1, .int .i64 trZero.y1, .int .i64 trZero.x2, .int .i64 trZero.y2] 49)=V:=hV.symm
 have c0:=R1.cell 0 _ rfl
 have c1:=R1.cell 1 _ rfl
 have f0:=R1.free 0 (by simp)
 have f1:=R1.free 1 (by simp)
 clear hV
 go_wp2
 have R2:=(R1.set 0 (.int .i64 0) (by simp)).set 1 (.int .i64 0) (by simp)
 have d0:=R2.cell 0 _ rfl
 have d1:=R2.cell 1 _ rfl
 refine bodyPost_ret (v:= .tuple #[.int .i64 (-1), .int .i64 0, .agg #[.int .i64 0, .int .i64 0], .bool false]) (by simp [results,Tryz.results106,go_sem, *]) rfl ?_
 exact⟨rfl,(BV.setCell (Nat.le_refl _) _).setCell (Nat.le_refl _) _⟩
set_option maxRecDepth 100000 in
set_option maxHeartbeats 1000000 in
theorem mAcross(base p:Nat)(X:Mx)(S:Ms)(m:Nat)(F:Nat→Prop)(w:World)(h:MeI base p X F w)(hS:MeOk X S)(hk:MsOk S m)(hm:m≤1000)(f i:Int)(hf:In64 f)(hi:In64 i)(hb:isF S f=true):
  Calls Tryz.prog 106 #[ptR p, .int .i64 f, .int .i64 i] w fun e w'=>CrossIs (crossed S f i) i e∧Below w.heap.size w w':=by
 obtain⟨c0,hc0,hcn,hct⟩:=faceOf_mem hb hk
 obtain⟨t,ht⟩: ∃ t,t=faceOf S f:=⟨_,rfl⟩
 have htc:t=c0.t:=ht.trans hct
 have hs:Small t:=by rw [htc];exact small_mem hk hc0
 have hv: ∀ j,j<3→isV S (t.v j)=true:=by rw [htc];exact hk.fi c0 hc0
 obtain⟨k0,hk0⟩: ∃ k,k=corner i:=⟨_,rfl⟩
 obtain⟨n1,hn1⟩: ∃ n,n=nx k0:=⟨_,rfl⟩
 obtain⟨n2,hn2⟩: ∃ n,n=nx n1:=⟨_,rfl⟩
 have l0:k0<3:=by rw [hk0];exact corner_lt i
 have l1:n1<3:=by rw [hn1];exact nx_lt k0
 have l2:n2<3:=by rw [hn2];exact nx_lt n1
 have HK0:Hid ((k0:Int)=i % 3):=by unfold Hid;rw [hk0];exact corner_eq i
 have HN1:Hid ((n1:Int)=((k0:Int)+1) % 3):=by unfold Hid;rw [hn1];unfold nx;omega
 have HN2:Hid ((n2:Int)=((n1:Int)+1) % 3):=by unfold Hid;rw [hn2];unfold nx;omega
 have hcr:crossed S f i=match acr t n1 S.C with|none=>none|some r=>some (t,r):=by
  unfold crossed
  rw [←hcn,m_faceOf_at hk hc0,htc,hn1,hk0]
  show(match acr c0.t (nx (corner i)) S.C with|none=>none|some r=>some (c0.t,r))=_
  cases acr c0.t (nx (corner i)) S.C<;>rfl
 have hac:=hS.across hk hm hs hv l1
 obtain⟨kl,hkl⟩:=egKey (egT_ok hk hm hs hv l1).2
 obtain⟨sf,si,hsg,hsome⟩:=hS.starts.get (egT (eg t n1))
 obtain⟨r,hr⟩: ∃ r,r=(X.ge (egT (eg t n1))).isSome:=⟨_,rfl⟩
 have HE1:Hid (egW t n1=eg t n1):=egW_eq hs l1
 obtain⟨ef,et,ex,ey,HE⟩: ∃ a b c d:Int,Hid (eg t n1=⟨a,b,c,d⟩):=⟨_,_,_,_,rfl⟩
 obtain⟨rf,rt,rx,ry,HRV⟩: ∃ a b c d:Int,Hid (egT (eg t n1)=⟨a,b,c,d⟩):=⟨_,_,_,_,rfl⟩
 have HL:Hid (∀ w',Below w.heap.size w w'→(Instr.lookup 106 (.map (some X.be)) (.agg #[.int .i64 rf, .int .i64 rt, .int .i64 rx, .int .i64 ry]) true).run Tryz.prog w'= .ok (.tuple #[.agg #[.int .i64 sf, .int .i64 si], .bool r]) w'):=by
  unfold Hid
  intro w' hbl
  have:=(h.below hbl).edg.look egL Tryz.underlying106 hkl (zeroStart w')
  rw [hsg,←hr,HRV.out]at this
  exact this
 have HT:Hid _:=ht
 have HR:Hid (true=isF S f):=hb.symm
 have HI:Hid _:=h
 have HS:Hid _:=hS
 have HK:Hid _:=hk
 have HCR:Hid _:=hcr
 have HAC:Hid _:=hac
 have HSM:Hid _:=hs
 have HRR:Hid _:=hr
 have HSO:Hid _:=hsome
 have hpl:=h.row.lt
 have HNX:Hid (n2=nx (nx (corner i))):=by unfold Hid;rw [hn2,hn1,hk0]
 obtain⟨W,hW⟩: ∃ W,W=w.alloc (.cells #[.int .i64 0, .int .i64 0] 32):=⟨_,rfl⟩
 have BW:Below w.heap.size w W:=by rw [hW];exact(Below.refl _ _).alloc (Nat.le_refl _) _
 have zW:w.heap.size<W.heap.size:=by rw [hW];simp
 have R0:Row W w.heap.size [.int .i64 0, .int .i64 0]:=by rw [hW];exact Row.new w [.int .i64 0, .int .i64 0] _
 have hW':=hW.symm
 clear hW h hS hk hb hc0 hcn hct ht htc hs hv hk0 hn1 hn2 hcr hac hkl hsg hsome hr
 go_enter Tryz.func106,Tryz.ntmps106
 go_wp2_with (go_at_call 14;fail)
 refine(mFaceL base p X S m F W (HI.out.below BW) HS.out HK.out hm f hf HT.out HR.out).mono ?_
 rintro e w1 ⟨rfl,b1⟩
 clear hW'
 obtain⟨V,hV⟩: ∃ V,V=w1.alloc (.cells (trC t).toArray 49):=⟨_,rfl⟩
 have z1:=b1.size
 have BV:Below w.heap.size w V:=by rw [hV];exact(BW.trans (b1.mono BW.size)).alloc (Nat.le_trans BW.size b1.size) _
 have R1:Row V w.heap.size [.int .i64 0, .int .i64 0]:=by rw [hV];exact(R0.below b1 zW).alloc _ (by omega)
 have RT:Row V w1.heap.size (trC t):=by rw [hV];exact Row.new w1 (trC t) _
 have zV:w1.heap.size<V.heap.size:=by rw [hV];simp
 have hV':w1.alloc (.cells #[.int .i64 t.v0, .int .i64 t.v1, .int .i64 t.v2, .int .i64 t.x0, .int .i64 t.y0, .int .i64 t.x1, .int .i64 t.y1, .int .i64 t.x2, .int .i64 t.y2] 49)=V:=hV.symm
 clear hV
 go_wp2_with (go_at_call 113;fail)
 refine(mThird i V HK0.out).mono ?_
 rintro e w2 ⟨rfl,b2⟩
 clear hV'
 have hk1:(k0:Int)<3:=by omega
 go_wp2_with (go_at_call 113;fail)
 refine(mThird ((k0:Int)+1) w2 HN1.out).mono ?_
 rintro e w3 ⟨rfl,b3⟩
 have z2:=b2.size
 have z3:=b3.size
 have B3:Below w.heap.size w w3:=(BV.trans (b2.mono BV.size)).trans (b3.mono (by omega))
 replace R1:=(R1.below b2 (by omega)).below b3 (by omega)
 replace RT:=(RT.below b2 (by omega)).below b3 (by omega)
 have HI3:Hid _:=HI.out.below B3
 have q5:=HI3.out.row.cell 5 _ rfl
 obtain⟨be,hbe⟩: ∃ v,v=X.be:=⟨_,rfl⟩
 rw [←hbe]at q5 HL
 have lp:p<w3.heap.size:=by omega
 have lt3:w1.heap.size<w3.heap.size:=by omega
 have t0:=RT.cell 0 _ rfl
 have t1:=RT.cell 1 _ rfl
 have t2:=RT.cell 2 _ rfl
 have t3:=RT.cell 3 _ rfl
 have t4:=RT.cell 4 _ rfl
 have t5:=RT.cell 5 _ rfl
 have t6:=RT.cell 6 _ rfl
 have t7:=RT.cell 7 _ rfl
 have t8:=RT.cell 8 _ rfl
 clear hbe
 go_wp2
 have HSa5:Hid (∀ w',Below w3.heap.size w3 w'→(fun w'=>w'.cell? ⟨p,5,none⟩=some (.map (some be))∧w'.cell? ⟨w1.heap.size,0,none⟩=some (.int .i64 t.v0)∧w'.cell? ⟨w1.heap.size,1,none⟩=some (.int .i64 t.v1)∧w'.cell? ⟨w1.heap.size,2,none⟩=some (.int .i64 t.v2)∧w'.cell? ⟨w1.heap.size,3,none⟩=some (.int .i64 t.x0)∧w'.cell? ⟨w1.heap.size,4,none⟩=some (.int .i64 t.y0)∧w'.cell? ⟨w1.heap.size,5,none⟩=some (.int .i64 t.x1)∧w'.cell? ⟨w1.heap.size,6,none⟩=some (.int .i64 t.y1)∧w'.cell? ⟨w1.heap.size,7,none⟩=some (.int .i64 t.x2)∧w'.cell? ⟨w1.heap.size,8,none⟩=some (.int .i64 t.y2)∧(Instr.lookup 106 (.map (some be)) (.agg #[.int .i64 rf, .int .i64 rt, .int .i64 rx, .int .i64 ry]) true).run Tryz.prog w'= .ok (.tuple #[.agg #[.int .i64 sf, .int .i64 si], .bool r]) w'∧Below w3.heap.size w3 w') w'):=by
  unfold Hid
  intro w' hb
  exact⟨(hb.cell (p:=⟨p,5,none⟩) lp).trans q5,(hb.cell (p:=⟨w1.heap.size,0,none⟩) lt3).trans t0,(hb.cell (p:=⟨w1.heap.size,1,none⟩) lt3).trans t1,(hb.cell (p:=⟨w1.heap.size,2,none⟩) lt3).trans t2,(hb.cell (p:=⟨w1.heap.size,3,none⟩) lt3).trans t3,(hb.cell (p:=⟨w1.heap.size,4,none⟩) lt3).trans t4,(hb.cell (p:=⟨w1.heap.size,5,none⟩) lt3).trans t5,(hb.cell (p:=⟨w1.heap.size,6,none⟩) lt3).trans t6,(hb.cell (p:=⟨w1.heap.size,7,none⟩) lt3).trans t7,(hb.cell (p:=⟨w1.heap.size,8,none⟩) lt3).trans t8,HL.out _ (B3.trans (hb.mono (by omega))),hb⟩
 obtain⟨QQ,hQQ⟩: ∃ QQ:Exit→Go.Act→World→Prop,QQ=fun e act wr=>e= .normal∧ ∃ pb:Nat,act=⟨#[ptR p, .int .i64 f, .int .i64 i,undef,undef,undef, .int .i64 0, .int .i64 0,ptR w.heap.size, .bool false,ptR w1.heap.size, .bool r, .int .i64 (n1:Int),ptR pb,undef, .tuple #[trV t, .bool true],ptR p, .int .i64 f, .tuple #[trV t, .bool true],trV t, .bool true, .bool true, .bool false,undef, .int .i64 i, .int .i64 (k0:Int), .int .i64 ((k0:Int)+1), .int .i64 (n1:Int), .tuple #[.agg #[.int .i64 sf, .int .i64 si], .bool r],ptR p,ptR p, .pointer (some ⟨p,5,none⟩), .map (some be),trV t, .int .i64 (n1:Int),egV (eg t n1),egV ⟨rf,rt,rx,ry⟩, .tuple #[.agg #[.int .i64 sf, .int .i64 si], .bool r], .agg #[.int .i64 sf, .int .i64 si], .bool r,undef,undef,undef,undef,undef,undef,undef,undef,undef,undef,undef,undef,undef,undef,undef,undef,undef,undef,undef,undef,undef,undef,undef,undef,undef,undef,undef,undef,undef], []⟩∧Row wr pb [.int .i64 sf, .int .i64 si]∧Below w3.heap.size w3 wr∧w3.heap.size≤pb∧pb<wr.heap.size:=⟨_,rfl⟩
 have HQQ:Hid _:=hQQ
 clear hQQ
 refine wp_mono (Q:=QQ) ?_ ?_
 ·refine wp_region_held_drew (S:=fun w'=>w'.cell? ⟨p,5,none⟩=some (.map (some be))∧w'.cell? ⟨w1.heap.size,0,none⟩=some (.int .i64 t.v0)∧w'.cell? ⟨w1.heap.size,1,none⟩=some (.int .i64 t.v1)∧w'.cell? ⟨w1.heap.size,2,none⟩=some (.int .i64 t.v2)∧w'.cell? ⟨w1.heap.size,3,none⟩=some (.int .i64 t.x0)∧w'.cell? ⟨w1.heap.size,4,none⟩=some (.int .i64 t.y0)∧w'.cell? ⟨w1.heap.size,5,none⟩=some (.int .i64 t.x1)∧w'.cell? ⟨w1.heap.size,6,none⟩=some (.int .i64 t.y1)∧w'.cell? ⟨w1.heap.size,7,none⟩=some (.int .i64 t.x2)∧w'.cell? ⟨w1.heap.size,8,none⟩=some (.int .i64 t.y2)∧(Instr.lookup 106 (.map (some be)) (.agg #[.int .i64 rf, .int .i64 rt, .int .i64 rx, .int .i64 ry]) true).run Tryz.prog w'= .ok (.tuple #[.agg #[.int .i64 sf, .int .i64 si], .bool r]) w'∧Below w3.heap.size w3 w') (by kernel_rfl) ?_ (fun hHeld=>?_)
  ·exact HSa5.out _ (Below.refl _ _).drew
  refine tQ 0 ?_
  simp only [Go.Act.put,ps1,ps2,ps3]
  refine tQ 1 ?_
  simp only [Go.Act.put,ps1,ps2,ps3]
  refine tQ 2 ?_
  simp only [Go.Act.put,ps1,ps2,ps3]
  refine tQ 3 ?_
  simp only [Go.Act.put,ps1,ps2,ps3]
  refine tQ 4 ?_
  simp only [Go.Act.put,ps1,ps2,ps3]
  refine tQ 5 ?_
  simp only [Go.Act.put,ps1,ps2,ps3]
  generalize w3.drew=X0a5 at hHeld ⊢
  have gyX0a5:w3.heap.size≤X0a5.heap.size:=hHeld.2.2.2.2.2.2.2.2.2.2.2.size
  refine wpAnyH_ready (rs:= [6,12]) (by kernel_rfl) (by simp) (AllReadyH.cons (i:=6) rfl (fun Kc hK=>?_) (AllReadyH.cons (i:=12) rfl (fun Kc hK=>?_) AllReadyH.nil))
  ·skip
   go_simp
   (go_at_call 73;refine(mEdge t n1 _ l1).mono ?_;rintro e X1a5 ⟨rfl,e1a5⟩;rw [HE1.out,HE.out])
   refine hK.out _ _ (HSa5.out _ (hHeld.2.2.2.2.2.2.2.2.2.2.2.trans (e1a5.mono hHeld.2.2.2.2.2.2.2.2.2.2.2.size))) (fun hHeld=>?_)
   clear hK Kc
   have gyX1a5:w3.heap.size≤X1a5.heap.size:=hHeld.2.2.2.2.2.2.2.2.2.2.2.size
   refine wpAnyH_ready (rs:= [7,12]) (by kernel_rfl) (by simp) (AllReadyH.cons (i:=7) rfl (fun Kc hK=>?_) (AllReadyH.cons (i:=12) rfl (fun Kc hK=>?_) AllReadyH.nil))
   ·skip
    go_simp
    (go_at_call 127;refine(mTurned ef et ex ey _).mono ?_;rintro e X2a5 ⟨rfl,e2a5⟩;rw [←HE.out,HRV.out])
    refine hK.out _ _ (HSa5.out _ (hHeld.2.2.2.2.2.2.2.2.2.2.2.trans (e2a5.mono hHeld.2.2.2.2.2.2.2.2.2.2.2.size))) (fun hHeld=>?_)
    clear hK Kc
    have gyX2a5:w3.heap.size≤X2a5.heap.size:=hHeld.2.2.2.2.2.2.2.2.2.2.2.size
    refine tQ 8 ?_
    simp only [Go.Act.put,ps1,ps2,ps3]
    refine tQ 9 ?_
    simp only [Go.Act.put,ps1,ps2,ps3]
    refine tQ 10 ?_
    simp only [Go.Act.put,ps1,ps2,ps3]
    refine tQ 11 ?_
    simp only [Go.Act.put,ps1,ps2,ps3]
    refine tcl 12 fun Kc hK=>?_
    go_simp
    refine hK.out _ _ (HSa5.out _ (hHeld.2.2.2.2.2.2.2.2.2.2.2.alloc hHeld.2.2.2.2.2.2.2.2.2.2.2.size _)) (fun hHeld=>?_)
    clear hK Kc
    have y:=Row.new X2a5 [.int .i64 0, .int .i64 0] 147
    have ly:X2a5.heap.size<(X2a5.alloc (.cells #[.int .i64 0, .int .i64 0] 147)).heap.size:=by simp
    have gy:w3.heap.size≤X2a5.heap.size:=gyX2a5
    replace y:Row (X2a5.alloc (.cells #[.int .i64 0, .int .i64 0] 147)) X2a5.heap.size [.int .i64 0, .int .i64 0]:=y
    generalize X2a5.alloc (.cells #[.int .i64 0, .int .i64 0] 147)=X3a5 at y ly hHeld ⊢
    generalize X2a5.heap.size=pb at y ly gy ⊢
    have sc0:=y.cell 0 _ rfl
    have sf0:=y.free 0 (by simp)
    have sc1:=y.cell 1 _ rfl
    have sf1:=y.free 1 (by simp)
    refine tcl 13 fun Kc hK=>?_
    go_simp
    refine hK.out _ _ (HSa5.out _ (((hHeld.2.2.2.2.2.2.2.2.2.2.2.setCell gy _).setCell gy _))) (fun hHeld=>?_)
    clear hK Kc
    have y2:=((y.set 0 (.int .i64 sf) (by simp)).set 1 (.int .i64 si) (by simp))
    refine tQ 14 ?_
    simp only [Go.Act.put,ps1,ps2,ps3]
    refine wpAnyH_done (by kernel_rfl) ?_ _
    rw [HQQ.out]
    exact⟨rfl,pb,rfl,y2,hHeld.2.2.2.2.2.2.2.2.2.2.2,gy,by simp only [World.size_setCell];exact ly⟩
   ·skip
    go_simp
    refine hK.out _ _ (HSa5.out _ (hHeld.2.2.2.2.2.2.2.2.2.2.2.alloc hHeld.2.2.2.2.2.2.2.2.2.2.2.size _)) (fun hHeld=>?_)
    clear hK Kc
    have y:=Row.new X1a5 [.int .i64 0, .int .i64 0] 147
    have ly:X1a5.heap.size<(X1a5.alloc (.cells #[.int .i64 0, .int .i64 0] 147)).heap.size:=by simp
    have gy:w3.heap.size≤X1a5.heap.size:=gyX1a5
    replace y:Row (X1a5.alloc (.cells #[.int .i64 0, .int .i64 0] 147)) X1a5.heap.size [.int .i64 0, .int .i64 0]:=y
    generalize X1a5.alloc (.cells #[.int .i64 0, .int .i64 0] 147)=X4a5 at y ly hHeld ⊢
    generalize X1a5.heap.size=pb at y ly gy ⊢
    refine tcl 7 fun Kc hK=>?_
    go_simp
    (go_at_call 127;refine(mTurned ef et ex ey _).mono ?_;rintro e X5a5 ⟨rfl,e5a5⟩;rw [←HE.out,HRV.out])
    refine hK.out _ _ (HSa5.out _ (hHeld.2.2.2.2.2.2.2.2.2.2.2.trans (e5a5.mono hHeld.2.2.2.2.2.2.2.2.2.2.2.size))) (fun hHeld=>?_)
    clear hK Kc
    have gyX5a5:w3.heap.size≤X5a5.heap.size:=hHeld.2.2.2.2.2.2.2.2.2.2.2.size
    replace y:=y.below e5a5 ly
    replace ly:=Nat.lt_of_lt_of_le ly e5a5.size
    refine tQ 8 ?_
    simp only [Go.Act.put,ps1,ps2,ps3]
    refine tQ 9 ?_
    simp only [Go.Act.put,ps1,ps2,ps3]
    refine tQ 10 ?_
    simp only [Go.Act.put,ps1,ps2,ps3]
    refine tQ 11 ?_
    simp only [Go.Act.put,ps1,ps2,ps3]
    have sc0:=y.cell 0 _ rfl
    have sf0:=y.free 0 (by simp)
    have sc1:=y.cell 1 _ rfl
    have sf1:=y.free 1 (by simp)
    refine tcl 13 fun Kc hK=>?_
    go_simp
    refine hK.out _ _ (HSa5.out _ (((hHeld.2.2.2.2.2.2.2.2.2.2.2.setCell gy _).setCell gy _))) (fun hHeld=>?_)
    clear hK Kc
    have y2:=((y.set 0 (.int .i64 sf) (by simp)).set 1 (.int .i64 si) (by simp))
    refine tQ 14 ?_
    simp only [Go.Act.put,ps1,ps2,ps3]
    refine wpAnyH_done (by kernel_rfl) ?_ _
    rw [HQQ.out]
    exact⟨rfl,pb,rfl,y2,hHeld.2.2.2.2.2.2.2.2.2.2.2,gy,by simp only [World.size_setCell];exact ly⟩
  ·skip
   go_simp
   refine hK.out _ _ (HSa5.out _ (hHeld.2.2.2.2.2.2.2.2.2.2.2.alloc hHeld.2.2.2.2.2.2.2.2.2.2.2.size _)) (fun hHeld=>?_)
   clear hK Kc
   have y:=Row.new X0a5 [.int .i64 0, .int .i64 0] 147
   have ly:X0a5.heap.size<(X0a5.alloc (.cells #[.int .i64 0, .int .i64 0] 147)).heap.size:=by simp
   have gy:w3.heap.size≤X0a5.heap.size:=gyX0a5
   replace y:Row (X0a5.alloc (.cells #[.int .i64 0, .int .i64 0] 147)) X0a5.heap.size [.int .i64 0, .int .i64 0]:=y
   generalize X0a5.alloc (.cells #[.int .i64 0, .int .i64 0] 147)=X6a5 at y ly hHeld ⊢
   generalize X0a5.heap.size=pb at y ly gy ⊢
   refine tcl 6 fun Kc hK=>?_
   go_simp
   (go_at_call 73;refine(mEdge t n1 _ l1).mono ?_;rintro e X7a5 ⟨rfl,e7a5⟩;rw [HE1.out,HE.out])
   refine hK.out _ _ (HSa5.out _ (hHeld.2.2.2.2.2.2.2.2.2.2.2.trans (e7a5.mono hHeld.2.2.2.2.2.2.2.2.2.2.2.size))) (fun hHeld=>?_)
   clear hK Kc
   have gyX7a5:w3.heap.size≤X7a5.heap.size:=hHeld.2.2.2.2.2.2.2.2.2.2.2.size
   replace y:=y.below e7a5 ly
   replace ly:=Nat.lt_of_lt_of_le ly e7a5.size
   refine tcl 7 fun Kc hK=>?_
   go_simp
   (go_at_call 127;refine(mTurned ef et ex ey _).mono ?_;rintro e X8a5 ⟨rfl,e8a5⟩;rw [←HE.out,HRV.out])
   refine hK.out _ _ (HSa5.out _ (hHeld.2.2.2.2.2.2.2.2.2.2.2.trans (e8a5.mono hHeld.2.2.2.2.2.2.2.2.2.2.2.size))) (fun hHeld=>?_)
   clear hK Kc
   have gyX8a5:w3.heap.size≤X8a5.heap.size:=hHeld.2.2.2.2.2.2.2.2.2.2.2.size
   replace y:=y.below e8a5 ly
   replace ly:=Nat.lt_of_lt_of_le ly e8a5.size
   refine tQ 8 ?_
   simp only [Go.Act.put,ps1,ps2,ps3]
   refine tQ 9 ?_
   simp only [Go.Act.put,ps1,ps2,ps3]
   refine tQ 10 ?_
   simp only [Go.Act.put,ps1,ps2,ps3]
   refine tQ 11 ?_
   simp only [Go.Act.put,ps1,ps2,ps3]
   have sc0:=y.cell 0 _ rfl
   have sf0:=y.free 0 (by simp)
   have sc1:=y.cell 1 _ rfl
   have sf1:=y.free 1 (by simp)
   refine tcl 13 fun Kc hK=>?_
   go_simp
   refine hK.out _ _ (HSa5.out _ (((hHeld.2.2.2.2.2.2.2.2.2.2.2.setCell gy _).setCell gy _))) (fun hHeld=>?_)
   clear hK Kc
   have y2:=((y.set 0 (.int .i64 sf) (by simp)).set 1 (.int .i64 si) (by simp))
   refine tQ 14 ?_
   simp only [Go.Act.put,ps1,ps2,ps3]
   refine wpAnyH_done (by kernel_rfl) ?_ _
   rw [HQQ.out]
   exact⟨rfl,pb,rfl,y2,hHeld.2.2.2.2.2.2.2.2.2.2.2,gy,by simp only [World.size_setCell];exact ly⟩
 rw [HQQ.out]
 rintro e act w4 ⟨rfl,pb,rfl,ya5,bw4,gya5,lya5⟩
 clear HQQ QQ HSa5
 try dsimp only
 have z4:=bw4.size
 have B4:Below w.heap.size w w4:=B3.trans (bw4.mono (by omega))
 replace R1:=R1.below bw4 (by omega)
 replace RT:=RT.below bw4 (by omega)
 clear t0 t1 t2 t3 t4 t5 t6 t7 t8 q5
 cases r with
 |false=>
  have HN:Hid (crossed S f i=none):=by
   unfold Hid
   have h1:=HRR.out
   rw [HAC.out]at h1
   rw [HCR.out]
   cases ha:acr t n1 S.C with
   |none=>rfl
   |some q=>rw [ha]at h1;cases h1
  have c0:=R1.cell 0 _ rfl
  have c1:=R1.cell 1 _ rfl
  have f0:=R1.free 0 (by simp)
  have f1:=R1.free 1 (by simp)
  go_wp2
  have R2:=(R1.set 0 (.int .i64 0) (by simp)).set 1 (.int .i64 0) (by simp)
  have d0:=R2.cell 0 _ rfl
  have d1:=R2.cell 1 _ rfl
  refine bodyPost_ret (v:= .tuple #[.int .i64 (-1), .int .i64 0, .agg #[.int .i64 0, .int .i64 0], .bool false]) (by simp [results,Tryz.results106,go_sem, *]) rfl ?_
  rw [HN.out]
  exact⟨rfl,(B4.setCell (Nat.le_refl _) _).setCell (Nat.le_refl _) _⟩
 |true=>
  obtain⟨c,kc,HA⟩: ∃ (c:Ce) (kc:Nat),Hid (acr t n1 S.C=some (c,kc)):=by
   have h1:=HRR.out
   rw [HAC.out]at h1
   cases ha:acr t n1 S.C with
   |none=>rw [ha]at h1;cases h1
   |some q=>exact⟨q.1,q.2,rfl⟩
  obtain⟨hcm,lc,_⟩:=m_acr_some HA.out
  have HCX:Hid (crossed S f i=some (t,c,kc)):=by unfold Hid;rw [HCR.out,HA.out]
  have hsf:sf=c.no∧si=(kc:Int):=by
   have h1:=HSO.out HRR.out.symm
   rw [HAC.out,HA.out]at h1
   simp at h1
   exact⟨h1.1.symm,h1.2.symm⟩
  obtain⟨e1,e2⟩:=hsf
  have hI4:=HI.out.below B4
  obtain⟨g,kf,hXb,hg,hak,hkn,hcap,hcc⟩:=hI4.fcell HS.out HK.out hcm
  have hkf:sf=(kf:Int):=e1.trans hak
  have HCN:Hid (c.no=(kf:Int)):=hak
  subst hkf
  subst e2
  have q4:=hI4.row.cell 4 _ rfl
  rw [hXb]at q4
  have gx:=(hcc (3+kc*2) _ (trC_x c.t lc)).1
  have gy:=(hcc (3+kc*2+1) _ (trC_y c.t lc)).1
  rw [←Nat.add_assoc]at gx
  rw [←Nat.add_assoc,←Nat.add_assoc]at gy
  have tx:=RT.cell (3+n2*2) _ (trC_x t l2)
  have ty0:=RT.cell (3+n2*2+1) _ (trC_y t l2)
  have pb0:=ya5.cell 0 _ rfl
  have pb1:=ya5.cell 1 _ rfl
  have lp4:p<w4.heap.size:=by omega
  have lt4:w1.heap.size<w4.heap.size:=by omega
  obtain⟨nf,hnf⟩: ∃ v,v=X.nf:=⟨_,rfl⟩
  obtain⟨cb,hcb⟩: ∃ v,v=X.cb:=⟨_,rfl⟩
  rw [←hnf,←hcb]at q4
  rw [←hnf]at hkn
  obtain⟨u,HU⟩: ∃ u,Hid (u=wrap64 (t.x n2- c.t.x kc)):=⟨_,rfl⟩
  obtain⟨v,HV⟩: ∃ v,Hid (v=wrap64 (t.y n2- c.t.y kc)):=⟨_,rfl⟩
  have HSC:Hid _:=small_mem HK.out hcm
  obtain⟨tX,HTX⟩: ∃ u,Hid (u=t.x n2):=⟨_,rfl⟩
  obtain⟨tY,HTY⟩: ∃ u,Hid (u=t.y n2):=⟨_,rfl⟩
  obtain⟨gX,HGX⟩: ∃ u,Hid (u=c.t.x kc):=⟨_,rfl⟩
  obtain⟨gY,HGY⟩: ∃ u,Hid (u=c.t.y kc):=⟨_,rfl⟩
  rw [←HTX.out]at tx
  rw [←HTY.out]at ty0
  rw [←HGX.out]at gx
  rw [←HGY.out]at gy
  have HU2:Hid (u=wrap64 (tX- gX)):=by unfold Hid;rw [HU.out,HTX.out,HGX.out]
  have HV2:Hid (v=wrap64 (tY- gY)):=by unfold Hid;rw [HV.out,HTY.out,HGY.out]
  have hlt:(kf:Int)<(nf:Int):=by omega
  have hl2:(n2:Int)<3:=by omega
  have hlc:(kc:Int)<3:=by omega
  have hl1:(n1:Int)<3:=by omega
  have hwr:IntKind.i64.wrap ((n1:Int)+1)=(n1:Int)+1:=by rw [wrap_i64];unfold wrap64;omega
  have hwr2:IntKind.i64.wrap ((kc:Int)+2)=(kc:Int)+2:=by rw [wrap_i64];unfold wrap64;omega
  clear hnf hcb hXb hak hcap hcc hI4 hcm e1
  go_wp2
  have HSa8:Hid (∀ w',Below w4.heap.size w4 w'→(fun w'=>w'.cell? ⟨w1.heap.size,3+n2*2,none⟩=some (.int .i64 tX)∧w'.cell? ⟨w1.heap.size,3+n2*2+1,none⟩=some (.int .i64 tY)∧w'.cell? ⟨p,4,none⟩=some (.slice (some ⟨g,0,none⟩) nf cb)∧w'.cell? ⟨pb,0,none⟩=some (.int .i64 (kf:Int))∧w'.cell? ⟨pb,1,none⟩=some (.int .i64 (kc:Int))∧w'.cell? ⟨g,kf*9+3+kc*2,none⟩=some (.int .i64 gX)∧w'.cell? ⟨g,kf*9+3+kc*2+1,none⟩=some (.int .i64 gY)∧Below w4.heap.size w4 w') w'):=by
   unfold Hid
   intro w' hb
   exact⟨(hb.cell (p:=⟨w1.heap.size,3+n2*2,none⟩) lt4).trans tx,(hb.cell (p:=⟨w1.heap.size,3+n2*2+1,none⟩) lt4).trans ty0,(hb.cell (p:=⟨p,4,none⟩) lp4).trans q4,(hb.cell (p:=⟨pb,0,none⟩) lya5).trans pb0,(hb.cell (p:=⟨pb,1,none⟩) lya5).trans pb1,(hb.cell (p:=⟨g,kf*9+3+kc*2,none⟩) hg).trans gx,(hb.cell (p:=⟨g,kf*9+3+kc*2+1,none⟩) hg).trans gy,hb⟩
  obtain⟨QQ,hQQ⟩: ∃ QQ:Exit→Go.Act→World→Prop,QQ=fun e act wr=>e= .normal∧ ∃ qb:Nat,act=⟨#[ptR p, .int .i64 f, .int .i64 i,undef,undef,undef, .int .i64 0, .int .i64 0,ptR w.heap.size, .bool false,ptR w1.heap.size, .bool true, .int .i64 (n1:Int),ptR pb,ptR qb, .tuple #[trV t, .bool true],ptR p, .int .i64 f, .tuple #[trV t, .bool true],trV t, .bool true, .bool true, .bool false,undef, .int .i64 i, .int .i64 (k0:Int), .int .i64 ((k0:Int)+1), .int .i64 (n1:Int), .tuple #[.agg #[.int .i64 (kf:Int), .int .i64 (kc:Int)], .bool true],ptR p,ptR p, .pointer (some ⟨p,5,none⟩), .map (some be),trV t, .int .i64 (n1:Int),egV (eg t n1),egV ⟨rf,rt,rx,ry⟩, .tuple #[.agg #[.int .i64 (kf:Int), .int .i64 (kc:Int)], .bool true], .agg #[.int .i64 (kf:Int), .int .i64 (kc:Int)], .bool true, .bool true, .bool false,undef, .int .i64 (n1:Int), .int .i64 ((n1:Int)+1), .int .i64 (n2:Int), .pointer (some ⟨w1.heap.size,3,none⟩), .pointer (some ⟨w1.heap.size,3+n2*2,none⟩), .agg #[.int .i64 tX, .int .i64 tY],ptR p,ptR p, .pointer (some ⟨p,4,none⟩), .slice (some ⟨g,0,none⟩) nf cb,ptR pb, .int .i64 (kf:Int), .pointer (some ⟨pb,1,none⟩), .int .i64 (kc:Int), .pointer (some ⟨g,kf*9,none⟩), .pointer (some ⟨g,kf*9+3,none⟩), .pointer (some ⟨g,kf*9+3+kc*2,none⟩), .agg #[.int .i64 gX, .int .i64 gY], .agg #[.int .i64 u, .int .i64 v],undef,undef,undef,undef,undef,undef,undef], []⟩∧Row wr qb [.int .i64 u, .int .i64 v]∧Below w4.heap.size w4 wr∧w4.heap.size≤qb∧qb<wr.heap.size:=⟨_,rfl⟩
  have HQQ:Hid _:=hQQ
  clear hQQ
  refine wp_mono (Q:=QQ) ?_ ?_
  ·refine wp_region_held_drew (S:=fun w'=>w'.cell? ⟨w1.heap.size,3+n2*2,none⟩=some (.int .i64 tX)∧w'.cell? ⟨w1.heap.size,3+n2*2+1,none⟩=some (.int .i64 tY)∧w'.cell? ⟨p,4,none⟩=some (.slice (some ⟨g,0,none⟩) nf cb)∧w'.cell? ⟨pb,0,none⟩=some (.int .i64 (kf:Int))∧w'.cell? ⟨pb,1,none⟩=some (.int .i64 (kc:Int))∧w'.cell? ⟨g,kf*9+3+kc*2,none⟩=some (.int .i64 gX)∧w'.cell? ⟨g,kf*9+3+kc*2+1,none⟩=some (.int .i64 gY)∧Below w4.heap.size w4 w') (by kernel_rfl) ?_ (fun hHeld=>?_)
   ·exact HSa8.out _ (Below.refl _ _).drew
   refine tQ 0 ?_
   simp only [Go.Act.put,ps1,ps2,ps3]
   refine tQ 1 ?_
   simp only [Go.Act.put,ps1,ps2,ps3]
   refine tQ 3 ?_
   simp only [Go.Act.put,ps1,ps2,ps3]
   refine tQ 6 ?_
   simp only [Go.Act.put,ps1,ps2,ps3]
   refine tQ 7 ?_
   simp only [Go.Act.put,ps1,ps2,ps3]
   refine tQ 8 ?_
   simp only [Go.Act.put,ps1,ps2,ps3]
   refine tQ 9 ?_
   simp only [Go.Act.put,ps1,ps2,ps3]
   refine tQ 10 ?_
   simp only [Go.Act.put,ps1,ps2,ps3]
   refine tQ 11 ?_
   simp only [Go.Act.put,ps1,ps2,ps3]
   refine tQ 12 ?_
   simp only [Go.Act.put,ps1,ps2,ps3]
   refine tQ 13 ?_
   simp only [Go.Act.put,ps1,ps2,ps3]
   refine tQ 14 ?_
   simp only [Go.Act.put,ps1,ps2,ps3]
   refine tQ 15 ?_
   simp only [Go.Act.put,ps1,ps2,ps3]
   refine tQ 16 ?_
   simp only [Go.Act.put,ps1,ps2,ps3]
   refine tQ 17 ?_
   simp only [Go.Act.put,ps1,ps2,ps3]
   generalize w4.drew=X0a8 at hHeld ⊢
   have gyX0a8:w4.heap.size≤X0a8.heap.size:=hHeld.2.2.2.2.2.2.2.size
   refine wpAnyH_ready (rs:= [2,19]) (by kernel_rfl) (by simp) (AllReadyH.cons (i:=2) rfl (fun Kc hK=>?_) (AllReadyH.cons (i:=19) rfl (fun Kc hK=>?_) AllReadyH.nil))
   ·skip
    go_simp
    (go_at_call 113;refine(mThird ((n1:Int)+1) _ HN2.out).mono ?_;rintro e X1a8 ⟨rfl,e1a8⟩)
    refine hK.out _ _ (HSa8.out _ (hHeld.2.2.2.2.2.2.2.trans (e1a8.mono hHeld.2.2.2.2.2.2.2.size))) (fun hHeld=>?_)
    clear hK Kc
    have gyX1a8:w4.heap.size≤X1a8.heap.size:=hHeld.2.2.2.2.2.2.2.size
    refine tQ 4 ?_
    simp only [Go.Act.put,ps1,ps2,ps3]
    refine tQ 5 ?_
    simp only [Go.Act.put,ps1,ps2,ps3]
    refine wpAnyH_ready (rs:= [18,19]) (by kernel_rfl) (by simp) (AllReadyH.cons (i:=18) rfl (fun Kc hK=>?_) (AllReadyH.cons (i:=19) rfl (fun Kc hK=>?_) AllReadyH.nil))
    ·skip
     go_simp
     (go_at_call 107;refine(lLess tX tY gX gY _ HU2.out HV2.out).mono ?_;rintro e X2a8 ⟨rfl,e2a8⟩)
     refine hK.out _ _ (HSa8.out _ (hHeld.2.2.2.2.2.2.2.trans (e2a8.mono hHeld.2.2.2.2.2.2.2.size))) (fun hHeld=>?_)
     clear hK Kc
     have gyX2a8:w4.heap.size≤X2a8.heap.size:=hHeld.2.2.2.2.2.2.2.size
     refine tcl 19 fun Kc hK=>?_
     go_simp
     refine hK.out _ _ (HSa8.out _ (hHeld.2.2.2.2.2.2.2.alloc hHeld.2.2.2.2.2.2.2.size _)) (fun hHeld=>?_)
     clear hK Kc
     have y:=Row.new X2a8 [.int .i64 0, .int .i64 0] 32
     have ly:X2a8.heap.size<(X2a8.alloc (.cells #[.int .i64 0, .int .i64 0] 32)).heap.size:=by simp
     have gy:w4.heap.size≤X2a8.heap.size:=gyX2a8
     replace y:Row (X2a8.alloc (.cells #[.int .i64 0, .int .i64 0] 32)) X2a8.heap.size [.int .i64 0, .int .i64 0]:=y
     generalize X2a8.alloc (.cells #[.int .i64 0, .int .i64 0] 32)=X3a8 at y ly hHeld ⊢
     generalize X2a8.heap.size=qb at y ly gy ⊢
     have sc0:=y.cell 0 _ rfl
     have sf0:=y.free 0 (by simp)
     have sc1:=y.cell 1 _ rfl
     have sf1:=y.free 1 (by simp)
     refine tcl 20 fun Kc hK=>?_
     go_simp
     refine hK.out _ _ (HSa8.out _ (((hHeld.2.2.2.2.2.2.2.setCell gy _).setCell gy _))) (fun hHeld=>?_)
     clear hK Kc
     have y2:=((y.set 0 (.int .i64 u) (by simp)).set 1 (.int .i64 v) (by simp))
     refine wpAnyH_done (by kernel_rfl) ?_ _
     rw [HQQ.out]
     exact⟨rfl,qb,rfl,y2,hHeld.2.2.2.2.2.2.2,gy,by simp only [World.size_setCell];exact ly⟩
    ·skip
     go_simp
     refine hK.out _ _ (HSa8.out _ (hHeld.2.2.2.2.2.2.2.alloc hHeld.2.2.2.2.2.2.2.size _)) (fun hHeld=>?_)
     clear hK Kc
     have y:=Row.new X1a8 [.int .i64 0, .int .i64 0] 32
     have ly:X1a8.heap.size<(X1a8.alloc (.cells #[.int .i64 0, .int .i64 0] 32)).heap.size:=by simp
     have gy:w4.heap.size≤X1a8.heap.size:=gyX1a8
     replace y:Row (X1a8.alloc (.cells #[.int .i64 0, .int .i64 0] 32)) X1a8.heap.size [.int .i64 0, .int .i64 0]:=y
     generalize X1a8.alloc (.cells #[.int .i64 0, .int .i64 0] 32)=X4a8 at y ly hHeld ⊢
     generalize X1a8.heap.size=qb at y ly gy ⊢
     refine tcl 18 fun Kc hK=>?_
     go_simp
     (go_at_call 107;refine(lLess tX tY gX gY _ HU2.out HV2.out).mono ?_;rintro e X5a8 ⟨rfl,e5a8⟩)
     refine hK.out _ _ (HSa8.out _ (hHeld.2.2.2.2.2.2.2.trans (e5a8.mono hHeld.2.2.2.2.2.2.2.size))) (fun hHeld=>?_)
     clear hK Kc
     have gyX5a8:w4.heap.size≤X5a8.heap.size:=hHeld.2.2.2.2.2.2.2.size
     replace y:=y.below e5a8 ly
     replace ly:=Nat.lt_of_lt_of_le ly e5a8.size
     have sc0:=y.cell 0 _ rfl
     have sf0:=y.free 0 (by simp)
     have sc1:=y.cell 1 _ rfl
     have sf1:=y.free 1 (by simp)
     refine tcl 20 fun Kc hK=>?_
     go_simp
     refine hK.out _ _ (HSa8.out _ (((hHeld.2.2.2.2.2.2.2.setCell gy _).setCell gy _))) (fun hHeld=>?_)
     clear hK Kc
     have y2:=((y.set 0 (.int .i64 u) (by simp)).set 1 (.int .i64 v) (by simp))
     refine wpAnyH_done (by kernel_rfl) ?_ _
     rw [HQQ.out]
     exact⟨rfl,qb,rfl,y2,hHeld.2.2.2.2.2.2.2,gy,by simp only [World.size_setCell];exact ly⟩
   ·skip
    go_simp
    refine hK.out _ _ (HSa8.out _ (hHeld.2.2.2.2.2.2.2.alloc hHeld.2.2.2.2.2.2.2.size _)) (fun hHeld=>?_)
    clear hK Kc
    have y:=Row.new X0a8 [.int .i64 0, .int .i64 0] 32
    have ly:X0a8.heap.size<(X0a8.alloc (.cells #[.int .i64 0, .int .i64 0] 32)).heap.size:=by simp
    have gy:w4.heap.size≤X0a8.heap.size:=gyX0a8
    replace y:Row (X0a8.alloc (.cells #[.int .i64 0, .int .i64 0] 32)) X0a8.heap.size [.int .i64 0, .int .i64 0]:=y
    generalize X0a8.alloc (.cells #[.int .i64 0, .int .i64 0] 32)=X6a8 at y ly hHeld ⊢
    generalize X0a8.heap.size=qb at y ly gy ⊢
    refine tcl 2 fun Kc hK=>?_
    go_simp
    (go_at_call 113;refine(mThird ((n1:Int)+1) _ HN2.out).mono ?_;rintro e X7a8 ⟨rfl,e7a8⟩)
    refine hK.out _ _ (HSa8.out _ (hHeld.2.2.2.2.2.2.2.trans (e7a8.mono hHeld.2.2.2.2.2.2.2.size))) (fun hHeld=>?_)
    clear hK Kc
    have gyX7a8:w4.heap.size≤X7a8.heap.size:=hHeld.2.2.2.2.2.2.2.size
    replace y:=y.below e7a8 ly
    replace ly:=Nat.lt_of_lt_of_le ly e7a8.size
    refine tQ 4 ?_
    simp only [Go.Act.put,ps1,ps2,ps3]
    refine tQ 5 ?_
    simp only [Go.Act.put,ps1,ps2,ps3]
    refine tcl 18 fun Kc hK=>?_
    go_simp
    (go_at_call 107;refine(lLess tX tY gX gY _ HU2.out HV2.out).mono ?_;rintro e X8a8 ⟨rfl,e8a8⟩)
    refine hK.out _ _ (HSa8.out _ (hHeld.2.2.2.2.2.2.2.trans (e8a8.mono hHeld.2.2.2.2.2.2.2.size))) (fun hHeld=>?_)
    clear hK Kc
    have gyX8a8:w4.heap.size≤X8a8.heap.size:=hHeld.2.2.2.2.2.2.2.size
    replace y:=y.below e8a8 ly
    replace ly:=Nat.lt_of_lt_of_le ly e8a8.size
    have sc0:=y.cell 0 _ rfl
    have sf0:=y.free 0 (by simp)
    have sc1:=y.cell 1 _ rfl
    have sf1:=y.free 1 (by simp)
    refine tcl 20 fun Kc hK=>?_
    go_simp
    refine hK.out _ _ (HSa8.out _ (((hHeld.2.2.2.2.2.2.2.setCell gy _).setCell gy _))) (fun hHeld=>?_)
    clear hK Kc
    have y2:=((y.set 0 (.int .i64 u) (by simp)).set 1 (.int .i64 v) (by simp))
    refine wpAnyH_done (by kernel_rfl) ?_ _
    rw [HQQ.out]
    exact⟨rfl,qb,rfl,y2,hHeld.2.2.2.2.2.2.2,gy,by simp only [World.size_setCell];exact ly⟩
  rw [HQQ.out]
  rintro e act w5 ⟨rfl,qb,rfl,ya8,bw5,gya8,lya8⟩
  clear HQQ QQ HSa8
  try dsimp only
  have z5:=bw5.size
  have B5:Below w.heap.size w w5:=B4.trans (bw5.mono (by omega))
  replace R1:=R1.below bw5 (by omega)
  have P5:=ya5.below bw5 lya5
  have pb0:=P5.cell 0 _ rfl
  have pb1:=P5.cell 1 _ rfl
  have qb0:=ya8.cell 0 _ rfl
  have qb1:=ya8.cell 1 _ rfl
  have lpb:pb<w5.heap.size:=by omega
  have nqb: ¬qb=w.heap.size:=by omega
  have npb: ¬pb=w.heap.size:=by omega
  obtain⟨rc,hrc⟩: ∃ r,r=(kc+2) % 3:=⟨_,rfl⟩
  have HRC:Hid ((rc:Int)=((kc:Int)+2) % 3):=by unfold Hid;rw [hrc];omega
  have HRC2:Hid _:=hrc
  clear hrc tx ty0 gx gy q4
  go_wp2
  have HSa9:Hid (∀ w',Keep (fun k=>k=w.heap.size) w5 w'→(fun w'=>w'.cell? ⟨pb,0,none⟩=some (.int .i64 (kf:Int))∧w'.cell? ⟨pb,1,none⟩=some (.int .i64 (kc:Int))∧w'.cell? ⟨qb,0,none⟩=some (.int .i64 u)∧w'.cell? ⟨qb,1,none⟩=some (.int .i64 v)∧Keep (fun k=>k=w.heap.size) w5 w') w'):=by
   unfold Hid
   intro w' hb
   exact⟨(hb.cell (p:=⟨pb,0,none⟩) lpb npb).trans pb0,(hb.cell (p:=⟨pb,1,none⟩) lpb npb).trans pb1,(hb.cell (p:=⟨qb,0,none⟩) lya8 nqb).trans qb0,(hb.cell (p:=⟨qb,1,none⟩) lya8 nqb).trans qb1,hb⟩
  refine wp_region_held_drew (S:=fun w'=>w'.cell? ⟨pb,0,none⟩=some (.int .i64 (kf:Int))∧w'.cell? ⟨pb,1,none⟩=some (.int .i64 (kc:Int))∧w'.cell? ⟨qb,0,none⟩=some (.int .i64 u)∧w'.cell? ⟨qb,1,none⟩=some (.int .i64 v)∧Keep (fun k=>k=w.heap.size) w5 w') (by kernel_rfl) ?_ (fun hHeld=>?_)
  ·exact HSa9.out _ ((Keep.refl _ _).drew)
  refine tn 0 ?_;refine tn 1 ?_;refine tn 2 ?_;refine tn 3 ?_;refine tn 4 ?_;refine tn 6 ?_
  simp only [Go.Act.put,ps1,ps2,ps3]
  refine tcl 5 fun Kc hK=>?_
  go_simp
  (go_at_call 113;refine(mThird ((kc:Int)+2) _ HRC.out).mono ?_;rintro e w6 ⟨rfl,b6⟩)
  refine hK.out _ _ ?_ (fun hHeld=>?_)
  ·exact HSa9.out _ (hHeld.2.2.2.2.to b6)
  clear hK Kc
  refine tn 7 ?_;refine tn 8 ?_
  simp only [Go.Act.put,ps1,ps2,ps3]
  have R3:Row w6 w.heap.size [.int .i64 0, .int .i64 0]:=(show Row w5.drew w.heap.size [.int .i64 0, .int .i64 0]from R1).below b6 (by simp;omega)
  have g0:=R3.cell 0 _ rfl
  have g1:=R3.cell 1 _ rfl
  have f0:=R3.free 0 (by simp)
  have f1:=R3.free 1 (by simp)
  refine tcl 9 fun Kc hK=>?_
  go_simp
  refine hK.out _ _ ?_ (fun hHeld=>?_)
  ·exact HSa9.out _ ((hHeld.2.2.2.2.set (Or.inl rfl) _).set (Or.inl rfl) _)
  clear hK Kc
  refine tz (i:=10) rfl ?_
  simp only [Go.Act.put,ps1,ps2,ps3]
  refine wpAnyH_done (by kernel_rfl) ?_ _
  have KF:=hHeld.2.2.2.2
  have R4:=(R3.set 0 (.int .i64 u) (by simp)).set 1 (.int .i64 v) (by simp)
  have d0:=R4.cell 0 _ rfl
  have d1:=R4.cell 1 _ rfl
  go_wp2
  refine bodyPost_ret (v:= .tuple #[.int .i64 (kf:Int), .int .i64 (rc:Int), .agg #[.int .i64 u, .int .i64 v], .bool true]) (by simp [results,Tryz.results106,go_sem, *]) rfl ?_
  have h1:=HSM.out n2 l2
  have h2:=HSC.out kc lc
  have eu:u=t.x (nx (nx (corner i)))- c.t.x kc:=by rw [HU.out,wrap_small ⟨by omega,by omega⟩,HNX.out]
  have ev:v=t.y (nx (nx (corner i)))- c.t.y kc:=by rw [HV.out,wrap_small ⟨by omega,by omega⟩,HNX.out]
  rw [HCX.out]
  refine⟨?_,B5.trans (KF.below B5.size (fun k e=>by omega))⟩
  show _=Ending.returned (.tuple #[.int .i64 c.no, .int .i64 (((kc+2) % 3:Nat):Int), .agg #[.int .i64 (t.x (nx (nx (corner i)))- c.t.x kc), .int .i64 (t.y (nx (nx (corner i)))- c.t.y kc)], .bool true])
  rw [HCN.out,←eu,←ev,←HRC2.out]
def geK(g:Eg→Option Value)(t:Tr)(f:Int):Nat→Eg→Option Value
 |0=>g
 |k+1=>fun e=>if e=eg t k then some (stV f (k:Int))else geK g t f k e
def gfK(g:Int→Int→Option Value)(t:Tr)(f:Int):Nat→Int→Int→Option Value
 |0=>g
 |k+1=>fun u=>if u=t.v k then(fun x=>if x=f then some (.agg #[])else gfK g t f k (t.v k) x)else gfK g t f k u
def geD(g:Eg→Option Value)(t:Tr):Nat→Eg→Option Value
 |0=>g
 |k+1=>fun e=>if e=eg t k then none else geD g t k e
def gfD(g:Int→Int→Option Value)(t:Tr)(f:Int):Nat→Int→Int→Option Value
 |0=>g
 |k+1=>fun u=>if u=t.v k then(fun x=>if x=f then none else gfD g t f k (t.v k) x)else gfD g t f k u
section
variable {g : Eg → Option Value} {q : Int → Int → Option Value} {t : Tr} {f : Int}
theorem geK_some{k:Nat}{e:Eg}(h:geK g t f k e≠none):(∃ j,j<k∧e=eg t j)∨g e≠none:=by
 induction k with
 |zero=>exact Or.inr h
 |succ k ih=>
  unfold geK at h
  by_cases e1:e=eg t k
  ·exact Or.inl ⟨k,by omega,e1⟩
  ·rw [if_neg e1]at h
   rcases ih h with⟨j,hj,h1⟩|h1
   ·exact Or.inl ⟨j,by omega,h1⟩
   ·exact Or.inr h1
theorem geK_other{k:Nat}{e:Eg}(h: ∀ j,j<k→e≠eg t j):geK g t f k e=g e:=by
 induction k with
 |zero=>rfl
 |succ k ih=>
  unfold geK
  rw [if_neg (h k (by omega)),ih (fun j hj=>h j (by omega))]
theorem geK_at{k j:Nat}(hj:j<k)(h: ∀ i,i<k→i≠j→eg t j≠eg t i):geK g t f k (eg t j)=some (stV f (j:Int)):=by
 induction k with
 |zero=>omega
 |succ k ih=>
  unfold geK
  by_cases e:j=k
  ·subst e
   rw [if_pos rfl]
  ·rw [if_neg (h k (by omega) (fun x=>e x.symm)),ih (by omega) (fun i hi=>h i (by omega))]
theorem gfK_iff{k:Nat}{u x:Int}:gfK q t f k u x≠none↔q u x≠none∨(x=f∧ ∃ j,j<k∧t.v j=u):=by
 induction k generalizing u with
 |zero=>exact⟨Or.inl,fun h=>h.elim (fun h=>h) (fun⟨_,j,hj,_⟩=>by omega)⟩
 |succ k ih=>
  unfold gfK
  by_cases e:u=t.v k
  ·subst e
   rw [if_pos rfl]
   show(if x=f then some (Value.agg #[])else gfK q t f k (t.v k) x)≠none↔_
   by_cases e2:x=f
   ·rw [if_pos e2]
    exact⟨fun _=>Or.inr ⟨e2,k,by omega,rfl⟩,fun _ h=>by cases h⟩
   ·rw [if_neg e2,ih]
    exact⟨fun h=>h.elim Or.inl (fun⟨h1,_⟩=>absurd h1 e2),fun h=>h.elim Or.inl (fun⟨h1,_⟩=>absurd h1 e2)⟩
  ·rw [if_neg e,ih]
   constructor
   ·rintro(h|⟨h1,j,hj,h2⟩)
    ·exact Or.inl h
    ·exact Or.inr ⟨h1,j,by omega,h2⟩
   ·rintro(h|⟨h1,j,hj,h2⟩)
    ·exact Or.inl h
    ·rcases Nat.lt_or_ge j k with h3|h3
     ·exact Or.inr ⟨h1,j,h3,h2⟩
     ·obtain rfl:j=k:=by omega
      exact absurd h2.symm e
theorem geD_some{k:Nat}{e:Eg}(h:geD g t k e≠none):g e≠none∧ ∀ j,j<k→e≠eg t j:=by
 induction k with
 |zero=>exact⟨h,fun j hj=>by omega⟩
 |succ k ih=>
  unfold geD at h
  by_cases e1:e=eg t k
  ·rw [if_pos e1]at h;exact absurd rfl h
  ·rw [if_neg e1]at h
   refine⟨(ih h).1,fun j hj=>?_⟩
   rcases Nat.lt_or_ge j k with h3|h3
   ·exact(ih h).2 j h3
   ·obtain rfl:j=k:=by omega
    exact e1
theorem geD_other{k:Nat}{e:Eg}(h: ∀ j,j<k→e≠eg t j):geD g t k e=g e:=by
 induction k with
 |zero=>rfl
 |succ k ih=>
  unfold geD
  rw [if_neg (h k (by omega)),ih (fun j hj=>h j (by omega))]
theorem gfD_iff{k:Nat}{u x:Int}:gfD q t f k u x≠none↔q u x≠none∧ ¬(x=f∧ ∃ j,j<k∧t.v j=u):=by
 induction k generalizing u with
 |zero=>exact⟨fun h=>⟨h,fun⟨_,j,hj,_⟩=>by omega⟩,fun h=>h.1⟩
 |succ k ih=>
  unfold gfD
  by_cases e:u=t.v k
  ·subst e
   rw [if_pos rfl]
   show(if x=f then none else gfD q t f k (t.v k) x)≠none↔_
   by_cases e2:x=f
   ·rw [if_pos e2]
    exact⟨fun h=>absurd rfl h,fun⟨_,h⟩=>absurd ⟨e2,k,by omega,rfl⟩ h⟩
   ·rw [if_neg e2,ih]
    exact⟨fun⟨h,_⟩=>⟨h,fun h1=>e2 h1.1⟩,fun⟨h,_⟩=>⟨h,fun h1=>e2 h1.1⟩⟩
  ·rw [if_neg e,ih]
   constructor
   ·rintro⟨h,h1⟩
    refine⟨h,fun⟨h2,j,hj,h3⟩=>?_⟩
    rcases Nat.lt_or_ge j k with h4|h4
    ·exact h1 ⟨h2,j,h4,h3⟩
    ·obtain rfl:j=k:=by omega
     exact e h3.symm
   ·rintro⟨h,h1⟩
    exact⟨h,fun⟨h2,j,hj,h3⟩=>h1 ⟨h2,j,by omega,h3⟩⟩
end
theorem same_eg(a:Tr)(i:Nat)(b:Tr)(k:Nat):same a i b k=true↔eg a i=eg b k:=by
 unfold same eg
 rw [decide_eq_true_iff]
 simp only [Eg.mk.injEq]
theorem there_ge{X:Mx}{S:Ms}(h:MeOk X S){t:Tr}:there t S.C=false↔ ∀ i,i<3→X.ge (eg t i)=none:=by
 constructor
 ·intro ht i hi
  cases hg:X.ge (eg t i)with
  |none=>rfl
  |some v=>
   obtain⟨c,hc,k,hk,e⟩:=h.ge2 _ (by rw [hg];exact fun e=>by cases e)
   have h1:=there_not ht hc hi hk
   rw [(same_eg _ _ _ _).2 e]at h1
   cases h1
 ·intro hg
  unfold there
  rw [List.any_eq_false]
  intro c hc
  rw [Bool.not_eq_true,List.any_eq_false]
  intro x hx
  have hx9:=List.mem_range.1 hx
  intro ht
  unfold twin at ht
  have e:=(same_eg _ _ _ _).1 ht
  have h1:=hg (x/3) (by omega)
  rw [e,h.ge1 c hc (x % 3) (by omega)]at h1
  cases h1
theorem around_iff{C:List Ce}{v x:Int}:x∈around C v↔ ∃ c∈C,c.no=x∧ ∃ j,j<3∧c.t.v j=v:=by
 unfold around
 rw [List.mem_map]
 constructor
 ·rintro⟨c,hc,rfl⟩
  obtain⟨hc,hh⟩:=List.mem_filter.1 hc
  refine⟨c,hc,rfl,?_⟩
  rcases of_decide_eq_true hh with e|e|e
  ·exact⟨0,by omega,e⟩
  ·exact⟨1,by omega,e⟩
  ·exact⟨2,by omega,e⟩
 ·rintro⟨c,hc,rfl,j,hj,e⟩
  refine⟨c,List.mem_filter.2 ⟨hc,?_⟩,rfl⟩
  unfold has
  rcases(by omega:j=0∨j=1∨j=2)with rfl|rfl|rfl
  ·exact decide_eq_true (Or.inl e)
  ·exact decide_eq_true (Or.inr (Or.inl e))
  ·exact decide_eq_true (Or.inr (Or.inr e))
theorem MeOk.addF{X X':Mx}{S:Ms}{m:Nat}(h:MeOk X S)(hk:MsOk S m){t:Tr}(he:fErr S t=0)(fn:Nat)(hf:S.af.num=(fn:Int))(hp:PutE 9 X.ys X'.ys X.nf fn (trC t))
  (e1:X'.n=X.n) (e2:X'.av=X.av) (e3:X'.af=S.af.took) (e4:X'.nv=X.nv) (e5:X'.nf=S.af.took.T) (e6:X'.Lv=X.Lv) (e7:X'.M=X.M) (e8:X'.xs=X.xs) (e9:X'.ge=geK X.ge t S.af.num 3) (e10:X'.gf=gfK X.gf t S.af.num 3):MeOk X' (S.addF t):=by
 obtain⟨f1,f2,f3,f4⟩:=fErr_ok he
 have htk:=hk.fa.take
 have hne: ∀ a∈S.C,a.no≠S.af.num:=fun a ha e=>htk.2 (by have:=(hk.fmem ha).1;rw [e]at this;exact this)
 have hself: ∀ i j,i<3→j<3→j≠i→eg t i≠eg t j:=fun i j hi hj hij e=>hij (self_edge f2 f3 hj hi ((same_eg _ _ _ _).2 e.symm))
 refine⟨e1.trans h.n,e2.trans h.av,e3,e4.trans h.nv,e5,?_,?_,?_,?_,?_,?_⟩
 ·intro v
  rw [e6]
  exact h.Lv v
 ·intro a ha j u hu
  rw [e7]at hu
  rw [e8]
  exact h.vs a ha j u hu
 ·intro c hc j u hu
  rcases insBy_mem.1 hc with rfl|hc
  ·show X'.ys[S.af.num.toNat*9+j]? =some u
   rw [hf]
   exact hp.here j u hu
  ·refine hp.else_ _ j u ?_ (trC_lt hu) (h.fs c hc j u hu)
   have h1:=hne c hc
   have h2:=(hk.fmem hc).2.1
   rw [hf]at h1
   omega
 ·intro c hc i hi
  rw [e9]
  rcases insBy_mem.1 hc with rfl|hc
  ·exact geK_at hi (fun j hj hji=>hself i j hi hj hji)
  ·rw [geK_other (fun j hj e=>?_)]
   ·exact h.ge1 c hc i hi
   ·have h1:=there_not f4 hc hj hi
    rw [(same_eg _ _ _ _).2 e.symm]at h1
    cases h1
 ·intro e hee
  rw [e9]at hee
  rcases geK_some hee with⟨j,hj,rfl⟩|h1
  ·exact⟨_,insBy_mem.2 (Or.inl rfl),j,hj,rfl⟩
  ·obtain⟨c,hc,k,hk3,rfl⟩:=h.ge2 e h1
   exact⟨c,insBy_mem.2 (Or.inr hc),k,hk3,rfl⟩
 ·intro a ha x
  rw [e10,gfK_iff,h.gf a ha x,around_iff,around_iff]
  constructor
  ·rintro(⟨c,hc,h1⟩|⟨rfl,h1⟩)
   ·exact⟨c,insBy_mem.2 (Or.inr hc),h1⟩
   ·exact⟨_,insBy_mem.2 (Or.inl rfl),rfl,h1⟩
  ·rintro⟨c,hc,h1⟩
   rcases insBy_mem.1 hc with rfl|hc
   ·exact Or.inr ⟨h1.1.symm,h1.2⟩
   ·exact Or.inl ⟨c,hc,h1⟩
theorem MeOk.dropF{X X':Mx}{S:Ms}{m:Nat}(h:MeOk X S)(hk:MsOk S m){i:Nat}{c:Ce}(hc:S.C[i]? =some c)
  (e1:X'.n=X.n) (e2:X'.av=X.av) (e3:X'.af=S.af.freed c.no) (e4:X'.nv=X.nv) (e5:X'.nf=X.nf) (e6:X'.Lv=X.Lv) (e7:X'.M=X.M) (e8:X'.xs=X.xs) (e8':X'.ys=X.ys) (e9:X'.ge=geD X.ge c.t 3) (e10:X'.gf=gfD X.gf c.t c.no 3):MeOk X' (S.dropF c.no i):=by
 have hcm:=List.mem_of_getElem? hc
 have hm:=fun{b:Ce} (hb:b∈cut S.C i)=>cutC_mem hk.fs hc hb
 refine⟨e1.trans h.n,e2.trans h.av,e3,e4.trans h.nv,e5.trans h.nf,?_,?_,?_,?_,?_,?_⟩
 ·intro v
  rw [e6]
  exact h.Lv v
 ·intro a ha j u hu
  rw [e7]at hu
  rw [e8]
  exact h.vs a ha j u hu
 ·intro b hb j u hu
  rw [e8']
  exact h.fs b (hm hb).1 j u hu
 ·intro b hb k hk3
  rw [e9,geD_other (fun j hj e=>?_)]
  ·exact h.ge1 b (hm hb).1 k hk3
  ·have h1:=hk.fe b (hm hb).1 c hcm k j hk3 hj ((same_eg _ _ _ _).2 e)
   exact(hm hb).2 (by rw [h1.1])
 ·intro e hee
  rw [e9]at hee
  obtain⟨h1,h2⟩:=geD_some hee
  obtain⟨b,hb,k,hk3,rfl⟩:=h.ge2 e h1
  rcases List.mem_cons.1 ((cut_perm hc).mem_iff.2 hb)with rfl|hb'
  ·exact absurd rfl (h2 k hk3)
  ·exact⟨b,hb',k,hk3,rfl⟩
 ·intro a ha x
  rw [e10,gfD_iff,h.gf a ha x,around_iff,around_iff]
  constructor
  ·rintro⟨⟨b,hb,rfl,h1⟩,h2⟩
   rcases List.mem_cons.1 ((cut_perm hc).mem_iff.2 hb)with rfl|hb'
   ·exact absurd ⟨rfl,h1⟩ h2
   ·exact⟨b,hb',rfl,h1⟩
  ·rintro⟨b,hb,rfl,h1⟩
   exact⟨⟨b,(hm hb).1,rfl,h1⟩,fun h2=>(hm hb).2 h2.1⟩
def egs(C:List Ce)(t:Tr):List Eg:=C.flatMap (fun c=> [eg c.t 0,eg c.t 1,eg c.t 2])++ [eg t 0,eg t 1,eg t 2]
theorem egs_len(C:List Ce)(t:Tr):(egs C t).length=3*C.length+3:=by
 unfold egs
 rw [List.length_append]
 congr 1
 induction C with
 |nil=>rfl
 |cons c C ih=>rw [List.flatMap_cons,List.length_append,ih];simp;omega
theorem mem_egs{C:List Ce}{t:Tr}{e:Eg}(h:(∃ j,j<3∧e=eg t j)∨ ∃ c∈C, ∃ k,k<3∧e=eg c.t k):e∈egs C t:=by
 have three: ∀ (t:Tr) (j:Nat),j<3→eg t j∈ [eg t 0,eg t 1,eg t 2]:=fun t j hj=>by rcases(by omega:j=0∨j=1∨j=2)with rfl|rfl|rfl<;>simp
 unfold egs
 rw [List.mem_append]
 rcases h with⟨j,hj,rfl⟩|⟨c,hc,k,hk,rfl⟩
 ·exact Or.inr (three t j hj)
 ·exact Or.inl (List.mem_flatMap.2 ⟨c,hc,three c.t k hk⟩)
end Go.Proofs.YtaadknpjbogkbaaGreat
