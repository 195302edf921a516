/-
  Joined texts, part 6:
  The landed mesh's AddFace.
  The landed mesh's gather, of vertices and of faces; Dump.
  The landed mesh's Dump.
  A region whose order is open, with calls and blocks that are made at any time: what holds 
  Both meshes, an act at a time: the law's own 'does'.
  The law's own looks, and MeshActs, over what the program's mesh must do.
  What the program's mesh must do, of what the seat has of it, and that the landed one does 
  The landed mesh does what a mesh must do.
  Which of two triangles is taken, where four points lie on a circle: the order of points, w
  The cells of a point and of a face; an element of a slice.
  The mesh of sites and faces, as it is built: each vertex and face has its place as its num
  Build, of any vertices and faces that a mesh takes.
-/
import Derived.Test.YtaadknpjbogkbaaP5
import Derived.Test.YtaadknpjbogkbaaP1
import Derived.Test.YtaadknpjbogkbaaP2
import Derived.Test.YtaadknpjbogkbaaP4
import Derived.Test.YtaadknpjbogkbaaP3
import Derived.Deep.AppendLies
import Derived.Laws.BitsAllLaws
import Derived.Deep.RegionWith
import Derived.OwnWalk
import Derived.Laws.AppendOwnNone
import Derived.Test.YtaadknpjbogkbaaRows
import Derived.WalkKit
import Derived.WalkSpells
import Derived.Deep.QuietTactic
import Derived.BigQuiet
import Derived.RegionTactic
import Derived.ChangeAlike
import Derived.Shelf.SlIterI.Nil
import Derived.Shelf.SortM.Plain
import Derived.Shelf.SortM.SortNone
import Derived.Ground.GgzProg
import Derived.Ground.SlgmProg
import Derived.Shelf.AbstractIn
namespace Go.Proofs.Ytaadknpjbogkbaa
open Go.RowKit Go.Maps
set_option linter.unusedVariables false
theorem MeI.vcell'{base p:Nat}{X Y:Mx}{F:Nat→Prop}{w:World}{S:Ms}{m:Nat}(h:MeI base p Y F w)(hS:MeOk X S)(hk:MsOk S m)(e1:Y.xs=X.xs)(e2:Y.nv=X.nv)(e3:Y.M=X.M){a:Vt}(ha:a∈S.V): ∃ (g k:Nat),Y.a=some ⟨g,0,none⟩∧g<w.heap.size∧a.no=(k:Int)∧k<Y.nv∧w.cell? ⟨g,k*5+4,none⟩=some (.map (some (Y.M a.no))):=by
 obtain⟨_,h0,h1⟩:=hk.vmem ha
 have hnv:a.no.toNat<Y.nv:=by rw [e2,hS.nv];omega
 obtain⟨g,hg,hlt,_,hseg⟩:=h.own.at (by omega)
 refine⟨g,a.no.toNat,hg,hlt,by omega,hnv,?_⟩
 have:=hseg.cell _ (.map (some (Y.M a.no))) (by rw [e1];exact hS.vs a ha 4 _ (by rw [e3];rfl))
 rw [Nat.zero_add]at this
 exact this
def AddFPost(base p:Nat)(S:Ms)(F:Nat→Prop)(t:Tr)(w:World)(e:Ending)(w':World):Prop:=
 (fErr S t≠0∧e= .returned (.tuple #[.int .i64 (-1), .int .i64 (fErr S t)])∧Below w.heap.size w w')∨(fErr S t=0∧e= .returned (.tuple #[.int .i64 S.af.num, .int .i64 0])∧Left (MeP base p (S.addF t)) F w w')
def AfJ(S:Ms)(t:Tr)(W:World)(i:Nat)(w':World):Prop:=Below W.heap.size W w'∧ ∀ j,j<i→isV S (t.v j)=true
def AfN(S:Ms)(t:Tr)(W:World)(i:Nat)(w':World):Prop:=Below W.heap.size W w'∧isV S (t.v i)=false
def AgJ(g:Eg→Option Value)(t:Tr)(W:World)(i:Nat)(w':World):Prop:=Below W.heap.size W w'∧ ∀ j,j<i→g (eg t j)=none
def AgN(g:Eg→Option Value)(t:Tr)(W:World)(i:Nat)(w':World):Prop:=Below W.heap.size W w'∧g (eg t i)≠none
theorem fErr_1{S:Ms}{t:Tr}{i:Nat}(hi:i<3)(h:isV S (t.v i)=false):fErr S t=1:=by
 unfold fErr
 rw [if_pos]
 rcases(by omega:i=0∨i=1∨i=2)with rfl|rfl|rfl
 ·exact Or.inl h
 ·exact Or.inr (Or.inl h)
 ·exact Or.inr (Or.inr h)
theorem fErr_not1{S:Ms}{t:Tr}(h: ∀ i,i<3→isV S (t.v i)=true): ¬(isV S t.v0=false∨isV S t.v1=false∨isV S t.v2=false):=by
 have h0:=h 0 (by omega)
 have h1:=h 1 (by omega)
 have h2:=h 2 (by omega)
 rintro(e|e|e)
 ·rw [show t.v 0=t.v0 from rfl,e]at h0;cases h0
 ·rw [show t.v 1=t.v1 from rfl,e]at h1;cases h1
 ·rw [show t.v 2=t.v2 from rfl,e]at h2;cases h2
theorem fErr_6{S:Ms}{t:Tr}(h: ∀ i,i<3→isV S (t.v i)=true)(h2:tlB S t=false∨there t S.C=true):fErr S t=6:=by
 unfold fErr
 rw [if_neg (fErr_not1 h),if_pos]
 rcases h2 with h2|h2
 ·unfold tlB at h2
  by_cases e0:plOk S t 0=true
  ·by_cases e1:plOk S t 1=true
   ·by_cases e2:plOk S t 2=true
    ·rw [e0,e1,e2]at h2
     exact Or.inr (Or.inr (Or.inr (Or.inl (by simpa using h2))))
    ·exact Or.inr (Or.inr (Or.inl (by simpa using e2)))
   ·exact Or.inr (Or.inl (by simpa using e1))
  ·exact Or.inl (by simpa using e0)
 ·exact Or.inr (Or.inr (Or.inr (Or.inr h2)))
theorem tlB_ok{S:Ms}{t:Tr}(h:tlB S t=true):(∀ i,i<3→plOk S t i=true)∧(areaT S t).sign=1:=by
 unfold tlB at h
 simp only [Bool.and_eq_true,decide_eq_true_eq]at h
 refine⟨fun i hi=>?_,h.2⟩
 rcases(by omega:i=0∨i=1∨i=2)with rfl|rfl|rfl
 ·exact h.1.1
 ·exact h.1.2.1
 ·exact h.1.2.2
theorem fErr_0{S:Ms}{t:Tr}(h: ∀ i,i<3→isV S (t.v i)=true)(h2:tlB S t=true)(h3:there t S.C=false):fErr S t=0:=by
 obtain⟨o,s⟩:=tlB_ok h2
 unfold fErr
 rw [if_neg (fErr_not1 h),if_neg]
 rintro(e|e|e|e|e)
 ·rw [o 0 (by omega)]at e;cases e
 ·rw [o 1 (by omega)]at e;cases e
 ·rw [o 2 (by omega)]at e;cases e
 ·exact e s
 ·rw [h3]at e;cases e
set_option maxRecDepth 100000 in
set_option maxHeartbeats 4000000 in
theorem mAddF(base p:Nat)(X:Mx)(S:Ms)(m:Nat)(F:Nat→Prop)(w:World)(h:MeI base p X F w)(hS:MeOk X S)(hk:MsOk S m)(hm:m≤1000)(t:Tr)(ht: ∀ i,i<3→In64 (t.v i)):
  Calls Try.prog 39 #[ptR p,trV t] w (AddFPost base p S F t w):=by
 have hT:X.av.T≤1000:=by rw [hS.av];have:=hk.vt;omega
 have hTf:X.af.T≤1000:=by rw [hS.af];have:=hk.ft;omega
 have hnf1:X.nf≤1000:=by rw [hS.nf];have:=hk.ft;omega
 have hbase:base≤w.heap.size:=by have:=h.ft p h.c0.1;omega
 obtain⟨W,hW⟩: ∃ W,W=(w.alloc (.cells #[ptR p] 30)).alloc (.cells (trC t).toArray 65):=⟨_,rfl⟩
 have BW:Below w.heap.size w W:=by rw [hW];exact((Below.refl _ _).alloc (Nat.le_refl _) _).alloc (by simp) _
 have zW:W.heap.size=w.heap.size+2:=by rw [hW];simp
 have R1:Row W w.heap.size [ptR p]:=by rw [hW];exact(Row.new w [ptR p] _).alloc _ (by simp)
 have R2:Row W (w.heap.size+1) (trC t):=by rw [hW];have:=Row.new (w.alloc (.cells #[ptR p] 30)) (trC t) 65;simpa using this
 have hW':(w.alloc (.cells #[ptR p] 30)).alloc (.cells #[.int .i64 t.v0, .int .i64 t.v1, .int .i64 t.v2, .int .i64 t.x0, .int .i64 t.y0, .int .i64 t.x1, .int .i64 t.y1, .int .i64 t.x2, .int .i64 t.y2] 65)=W:=hW.symm
 have HZ:Hid _:=zW
 have HI:Hid _:=h
 have HS:Hid _:=hS
 have HK:Hid _:=hk
 have HE1:Hid (Calls Try.prog 54 #[.func (.func 55) #[] #[ptR w.heap.size,ptR (w.heap.size+1)]] W (EveryPost (AfJ S t W) (AfN S t W))):=by
  refine mEvery _ _ (enters_of Try.func55 (by kernel_rfl) rfl) _ _ W ⟨Below.refl _ _,fun j hj=>by omega⟩ ?_
  rintro i w1 hi ⟨b1,o1⟩
  have hz1:=b1.size
  refine(mAsk1 (ptR p) t i w.heap.size (w.heap.size+1) w1 hi (R1.below b1 (by omega)) (R2.below b1 (by omega)) (r:=isV S (t.v i)) ?_).mono ?_
  ·intro w' hb'
   exact mHasV base p X F w' ((h.below (BW.trans (b1.mono (by omega)))).below hb') hT _ (ht i hi) (isV_dec hS hk _)
  ·rintro e w2 ⟨rfl,b2⟩
   have b3:Below W.heap.size W w2:=b1.trans (b2.mono b1.size)
   cases hb:isV S (t.v i)with
   |true=>exact Or.inl ⟨rfl,b3,fun j hj=>if e:j=i then by rw [e];exact hb else o1 j (by omega)⟩
   |false=>exact Or.inr ⟨rfl,b3,hb⟩
 clear hW h hS hk zW
 go_enter Try.func39,Try.ntmps39
 go_wp2_with (go_at_call 54;fail)
 refine(Calls.mono HE1.out) ?_
 clear HE1
 rintro e w1 (⟨rfl,b1,hv⟩|⟨rfl,i,hi,b1,hn⟩)
 case inr=>
  have B1:Below w.heap.size w w1:=BW.trans (b1.mono BW.size)
  have HF:Hid (fErr S t=1):=fErr_1 hi hn
  clear hW' hn
  go_wp2
  exact bodyPost_ret (v:= .tuple #[.int .i64 (-1), .int .i64 1]) (by simp [results,Try.results39,go_sem]) rfl (Or.inl ⟨by rw [HF.out];decide,by rw [HF.out],B1⟩)
 case inl=>
  have z1:=b1.size
  have hzw:=HZ.out
  have B1:Below w.heap.size w w1:=BW.trans (b1.mono BW.size)
  have HVV:Hid (∀ j,j<3→isV S (t.v j)=true):=hv
  replace R1:=R1.below b1 (by omega)
  replace R2:=R2.below b1 (by omega)
  have c0:=R1.cell 0 _ rfl
  clear hW' hv hzw
  have t0:=R2.cell 0 _ rfl
  have t1:=R2.cell 1 _ rfl
  have t2:=R2.cell 2 _ rfl
  have t3:=R2.cell 3 _ rfl
  have t4:=R2.cell 4 _ rfl
  have t5:=R2.cell 5 _ rfl
  have t6:=R2.cell 6 _ rfl
  have t7:=R2.cell 7 _ rfl
  have t8:=R2.cell 8 _ rfl
  obtain⟨r,HR⟩: ∃ r,Hid (r=tlB S t):=⟨_,rfl⟩
  go_wp2_with (go_at_call 57;fail)
  refine(mTurns base p X S m F w1 (HI.out.below B1) HS.out HK.out t HVV.out HR.out).mono ?_
  rintro e w2 ⟨rfl,b2⟩
  have B2:Below w.heap.size w w2:=B1.trans (b2.mono B1.size)
  cases r with
  |false=>
   have HF:Hid (fErr S t=6):=fErr_6 HVV.out (Or.inl HR.out.symm)
   clear c0 t0 t1 t2 t3 t4 t5 t6 t7 t8
   go_wp2
   exact bodyPost_ret (v:= .tuple #[.int .i64 (-1), .int .i64 6]) (by simp [results,Try.results39,go_sem]) rfl (Or.inl ⟨by rw [HF.out];decide,by rw [HF.out],B2⟩)
  |true=>
   have z2:=b2.size
   replace R1:=R1.below b2 (by have:=HZ.out;omega)
   replace R2:=R2.below b2 (by have:=HZ.out;omega)
   have hsm:Small t:=small_of HK.out HVV.out (tlB_ok HR.out.symm).1
   have HSM:Hid _:=hsm
   have HE2:Hid (Calls Try.prog 54 #[.func (.func 58) #[] #[ptR w.heap.size,ptR (w.heap.size+1)]] w2 (EveryPost (AgJ X.ge t w2) (AgN X.ge t w2))):=by
    refine mEvery _ _ (enters_of Try.func58 (by kernel_rfl) rfl) _ _ w2 ⟨Below.refl _ _,fun j hj=>by omega⟩ ?_
    rintro i w3 hi ⟨b3,o3⟩
    have hz3:=b3.size
    have hzz:=HZ.out
    have ee:=egW_eq hsm hi
    refine(mAsk2 base p X F w3 ((HI.out.below B2).below b3) HS.out.starts t i w.heap.size (w.heap.size+1) hi (by rw [ee];exact eg_ok HK.out hm hsm HVV.out hi) (R1.below b3 (by omega)) (R2.below b3 (by omega)) (r:= !(X.ge (eg t i)).isSome) (by rw [ee])).mono ?_
    rintro e w4 ⟨rfl,b4⟩
    have b5:Below w2.heap.size w2 w4:=b3.trans (b4.mono b3.size)
    cases hg:X.ge (eg t i)with
    |none=>exact Or.inl ⟨rfl,b5,fun j hj=>if e:j=i then by rw [e];exact hg else o3 j (by omega)⟩
    |some q=>exact Or.inr ⟨rfl,b5,by rw [hg];exact fun e=>by cases e⟩
   clear c0 t0 t1 t2 t3 t4 t5 t6 t7 t8 hsm
   go_wp2_with (go_at_call 54;fail)
   refine(Calls.mono HE2.out) ?_
   clear HE2
   rintro e w3 (⟨rfl,b3,hg⟩|⟨rfl,i,hi,b3,hn⟩)
   case inr=>
    have B3:Below w.heap.size w w3:=B2.trans (b3.mono B2.size)
    have HF:Hid (fErr S t=6):=fErr_6 HVV.out (Or.inr (by cases hth:there t S.C with|true=>rfl|false=>exact absurd ((there_ge HS.out).1 hth i hi) hn))
    clear hn
    go_wp2
    exact bodyPost_ret (v:= .tuple #[.int .i64 (-1), .int .i64 6]) (by simp [results,Try.results39,go_sem]) rfl (Or.inl ⟨by rw [HF.out];decide,by rw [HF.out],B3⟩)
   case inl=>
    have B3:Below w.heap.size w w3:=B2.trans (b3.mono B2.size)
    have z3:=b3.size
    have HF0:Hid (fErr S t=0):=fErr_0 HVV.out HR.out.symm ((there_ge HS.out).2 hg)
    have HI3:Hid (MeI base p X F w3):=HI.out.below B3
    replace R1:=R1.below b3 (by have:=HZ.out;omega)
    replace R2:=R2.below b3 (by have:=HZ.out;omega)
    obtain⟨h0,hrg⟩:=num_range HK.out.fa
    obtain⟨fn,hfn⟩:=Int.eq_ofNat_of_zero_le h0
    have HFN:Hid _:=hfn
    have HV:Hid ((fn:Int)=X.af.num):=by unfold Hid;rw [HS.out.af,hfn]
    have HNN:Hid (fn≤X.nf∧(fn=X.nf→S.af.took.T=X.nf+1)∧(fn<X.nf→S.af.took.T=X.nf)):=by
     unfold Hid
     rw [HS.out.nf]
     rcases hrg with⟨e1,e2⟩|⟨e1,e2⟩
     ·rw [hfn]at e1
      exact⟨by omega,fun _=>e2,fun e=>by omega⟩
     ·rw [hfn]at e1
      exact⟨by omega,fun e=>by omega,fun _=>e2⟩
    have hI64:In64 (fn:Int):=by have:=HNN.out.1;exact⟨by omega,by omega⟩
    have c0:=R1.cell 0 _ rfl
    have m2:=HI3.out.row.cell 2 _ rfl
    clear h0 hrg hfn hg
    go_wp2_with (go_at_call 52;fail)
    refine(mTake HI3.out.arf hTf HV.out).mono ?_
    rintro e w4 ⟨rfl,k4,Ff',a4,s4⟩
    have HI4:Hid (MeI base p { X with af:=X.af.took,Ff:=Ff',κ:=paint X.κ w3.heap.size 2 } (more F w3.heap.size w4.heap.size) w4):=HI3.out.turnF k4 a4 s4
    have K4:Hid (Keep F w w4):=(Keep.of B3).trans k4 (fun k f=>Or.inl (HI.out.c2 k f).1)
    have z4:=k4.size
    have nF: ∀ k,F k→k<w.heap.size:=fun k f=>(HI.out.ft k f).2
    have hzz:=HZ.out
    replace R1:=R1.keep k4 (by omega) (fun f=>by have:=nF _ (HI.out.c2 _ f).1;omega)
    replace R2:=R2.keep k4 (by omega) (fun f=>by have:=nF _ (HI.out.c2 _ f).1;omega)
    replace c0:=R1.cell 0 _ rfl
    have m4:=HI4.out.row.cell 4 _ rfl
    have lp:p<w4.heap.size:=HI4.out.row.lt
    have ngp: ¬Slot X.b p:=fun s=>absurd ((HI.out.c4 p s).2.symm.trans HI.out.c0.2) (by decide)
    have ng1: ¬Slot X.b w.heap.size:=fun s=>by have:=nF _ (HI.out.c4 _ s).1;omega
    have ng2: ¬Slot X.b (w.heap.size+1):=fun s=>by have:=nF _ (HI.out.c4 _ s).1;omega
    have l1:w.heap.size<w4.heap.size:=by omega
    have l2:w.heap.size+1<w4.heap.size:=by omega
    have t0:=R2.cell 0 _ rfl
    have t1:=R2.cell 1 _ rfl
    have t2:=R2.cell 2 _ rfl
    have t3:=R2.cell 3 _ rfl
    have t4:=R2.cell 4 _ rfl
    have t5:=R2.cell 5 _ rfl
    have t6:=R2.cell 6 _ rfl
    have t7:=R2.cell 7 _ rfl
    have t8:=R2.cell 8 _ rfl
    obtain⟨b,hb⟩: ∃ a,a=X.b:=⟨_,rfl⟩
    obtain⟨nf,hnf⟩: ∃ n,n=X.nf:=⟨_,rfl⟩
    obtain⟨cb,hcb⟩: ∃ n,n=X.cb:=⟨_,rfl⟩
    rw [←hb,←hnf,←hcb]at m4
    rw [←hb]at ngp ng1 ng2
    have HB:Hid _:=hb
    have HNF:Hid _:=hnf
    have HPUT:Hid (∀ w',Below w4.heap.size w4 w'→Calls Try.prog 60 #[.slice b nf cb, .int .i64 (fn:Int),trV t] w' (PutPost 65 9 base b nf X.ys fn (trC t) w')):=by
     unfold Hid
     intro w' hbw
     have hO:=(HI4.out.below hbw).onf
     refine mPutT base b nf cb X.ys w' (by rw [hb,hnf,hcb];exact hO) (by rw [hnf];exact hnf1) ?_ fn (by rw [hnf];exact HNN.out.1) t rfl
     have h2:=hbw.size
     omega
    clear hb hnf hcb m2 hzz
    go_wp2
    have HSaf:Hid (∀ w',Keep (Slot b) w4 w'→(fun w'=>w'.cell? ⟨w.heap.size,0,none⟩=some (ptR p)∧w'.cell? ⟨p,4,none⟩=some (.slice b nf cb)∧w'.cell? ⟨w.heap.size+1,0,none⟩=some (.int .i64 t.v0)∧w'.cell? ⟨w.heap.size+1,1,none⟩=some (.int .i64 t.v1)∧w'.cell? ⟨w.heap.size+1,2,none⟩=some (.int .i64 t.v2)∧w'.cell? ⟨w.heap.size+1,3,none⟩=some (.int .i64 t.x0)∧w'.cell? ⟨w.heap.size+1,4,none⟩=some (.int .i64 t.y0)∧w'.cell? ⟨w.heap.size+1,5,none⟩=some (.int .i64 t.x1)∧w'.cell? ⟨w.heap.size+1,6,none⟩=some (.int .i64 t.y1)∧w'.cell? ⟨w.heap.size+1,7,none⟩=some (.int .i64 t.x2)∧w'.cell? ⟨w.heap.size+1,8,none⟩=some (.int .i64 t.y2)∧Keep (Slot b) w4 w') w'):=by
     unfold Hid
     intro w' hb
     exact⟨(hb.cell (p:=⟨w.heap.size,0,none⟩) l1 ng1).trans c0,(hb.cell (p:=⟨p,4,none⟩) lp ngp).trans m4,(hb.cell (p:=⟨w.heap.size+1,0,none⟩) l2 ng2).trans t0,(hb.cell (p:=⟨w.heap.size+1,1,none⟩) l2 ng2).trans t1,(hb.cell (p:=⟨w.heap.size+1,2,none⟩) l2 ng2).trans t2,(hb.cell (p:=⟨w.heap.size+1,3,none⟩) l2 ng2).trans t3,(hb.cell (p:=⟨w.heap.size+1,4,none⟩) l2 ng2).trans t4,(hb.cell (p:=⟨w.heap.size+1,5,none⟩) l2 ng2).trans t5,(hb.cell (p:=⟨w.heap.size+1,6,none⟩) l2 ng2).trans t6,(hb.cell (p:=⟨w.heap.size+1,7,none⟩) l2 ng2).trans t7,(hb.cell (p:=⟨w.heap.size+1,8,none⟩) l2 ng2).trans t8,hb⟩
    refine regionL 10 (S:=fun w'=>w'.cell? ⟨w.heap.size,0,none⟩=some (ptR p)∧w'.cell? ⟨p,4,none⟩=some (.slice b nf cb)∧w'.cell? ⟨w.heap.size+1,0,none⟩=some (.int .i64 t.v0)∧w'.cell? ⟨w.heap.size+1,1,none⟩=some (.int .i64 t.v1)∧w'.cell? ⟨w.heap.size+1,2,none⟩=some (.int .i64 t.v2)∧w'.cell? ⟨w.heap.size+1,3,none⟩=some (.int .i64 t.x0)∧w'.cell? ⟨w.heap.size+1,4,none⟩=some (.int .i64 t.y0)∧w'.cell? ⟨w.heap.size+1,5,none⟩=some (.int .i64 t.x1)∧w'.cell? ⟨w.heap.size+1,6,none⟩=some (.int .i64 t.y1)∧w'.cell? ⟨w.heap.size+1,7,none⟩=some (.int .i64 t.x2)∧w'.cell? ⟨w.heap.size+1,8,none⟩=some (.int .i64 t.y2)∧Keep (Slot b) w4 w') (by kernel_rfl) ?_ (fun hHeld=>?_)
    ·exact HSaf.out _ ((Keep.refl _ _).drew)
    refine tyL (i:=0) (v:=?vaf0) rfl ?hyaf0 ?_
    case hyaf0=>(intro w hSw;(try dsimp only at hSw);go_simp<;>with_reducible rfl)
    simp only [Go.Act.put,ps1,ps2,ps3]
    refine tyL (i:=1) (v:=?vaf1) rfl ?hyaf1 ?_
    case hyaf1=>(intro w hSw;(try dsimp only at hSw);go_simp<;>with_reducible rfl)
    simp only [Go.Act.put,ps1,ps2,ps3]
    refine tyL (i:=2) (v:=?vaf2) rfl ?hyaf2 ?_
    case hyaf2=>(intro w hSw;(try dsimp only at hSw);go_simp<;>with_reducible rfl)
    simp only [Go.Act.put,ps1,ps2,ps3]
    refine tyL (i:=3) (v:=?vaf3) rfl ?hyaf3 ?_
    case hyaf3=>(intro w hSw;(try dsimp only at hSw);go_simp<;>with_reducible rfl)
    simp only [Go.Act.put,ps1,ps2,ps3]
    refine tyL (i:=4) (v:=?vaf4) rfl ?hyaf4 ?_
    case hyaf4=>(intro w hSw;(try dsimp only at hSw);go_simp<;>with_reducible rfl)
    simp only [Go.Act.put,ps1,ps2,ps3]
    refine tyL (i:=5) (v:=?vaf5) rfl ?hyaf5 ?_
    case hyaf5=>(intro w hSw;(try dsimp only at hSw);go_simp<;>with_reducible rfl)
    simp only [Go.Act.put,ps1,ps2,ps3]
    refine tyL (i:=6) (v:=?vaf6) rfl ?hyaf6 ?_
    case hyaf6=>(intro w hSw;(try dsimp only at hSw);go_simp<;>with_reducible rfl)
    simp only [Go.Act.put,ps1,ps2,ps3]
    refine takeL_call (i:=7) rfl (by kernel_rfl) (fun Kc hK=>?_)
    go_simp
    (go_at_call 60;refine(HPUT.out _ (Below.refl _ _).drew).mono ?_;rintro e w5 ⟨b5,n5,c5,ys5,rfl,hP⟩)
    refine hK.out _ _ ?_ (fun hHeld=>?_)
    ·exact HSaf.out _ (hHeld.2.2.2.2.2.2.2.2.2.2.2.trans hP.2.2.2.2.2 (fun i g=>Or.inl g))
    clear hK Kc
    have HP:Hid _:=hP
    clear hP
    refine takeL_call (i:=8) rfl (by kernel_rfl) (fun Kc hK=>?_)
    go_simp
    refine hK.out _ _ ?_ (fun hHeld=>?_)
    ·exact HSaf.out _ (hHeld.2.2.2.2.2.2.2.2.2.2.2)
    clear hK Kc
    refine tyL (i:=9) (v:=?vaf9) rfl ?hyaf9 ?_
    case hyaf9=>(intro w hSw;(try dsimp only at hSw);go_simp<;>with_reducible rfl)
    simp only [Go.Act.put,ps1,ps2,ps3]
    have s3:=hHeld.2.1
    have fz:=(HI4.out.row.keep hHeld.2.2.2.2.2.2.2.2.2.2.2 lp ngp).free 4 (by simp)
    refine takeL_last rfl (by kernel_rfl) (fun Kc hK=>?_)
    go_simp
    refine hK.out _ _ ?_
    clear hK Kc
    refine anyL_done (by kernel_rfl) ?_ _
    obtain⟨g1,g2,g3,g4,g5,g6⟩:=HP.out
    rw [HNF.out]at g1 g2 g4
    rw [HB.out]at g5 g6
    obtain⟨V,hV⟩: ∃ V,V=w5.setCell ⟨p,4,none⟩ (.slice b5 n5 c5):=⟨_,rfl⟩
    have HT:Hid _:=(HI4.out.below (Below.refl _ _).drew).turnB (b':=b5) (n':=n5) (c':=c5) (ys':=ys5) g6 g3 g5
    have zV:V.heap.size=w5.heap.size:=by rw [hV];simp
    have z5:w4.heap.size≤w5.heap.size:=g6.size
    obtain⟨X5,hX5⟩: ∃ X5:Mx,X5={ X with af:=X.af.took,Ff:=Ff',b:=b5,nf:=n5,cb:=c5,ys:=ys5,κ:=paint (paint X.κ w3.heap.size 2) w4.heap.size 4 }:=⟨_,rfl⟩
    obtain⟨F5,hF5⟩: ∃ F5:Nat→Prop,F5=more (more F w3.heap.size w4.heap.size) w4.heap.size w5.heap.size:=⟨_,rfl⟩
    have HI5:Hid (MeI base p X5 F5 V):=by unfold Hid;rw [hX5,hF5,hV];exact HT.out.1
    have K5:Hid (Keep F w V):=by unfold Hid;rw [hV];exact(K4.out.to (Below.refl _ _).drew).trans HT.out.2 (fun k f=>f.imp (fun x=>x) (fun e=>by have:=B3.size;omega))
    have HF5:Hid (∀ k,F5 k→F k∨w3.heap.size≤k):=by
     unfold Hid
     intro k hk
     rw [hF5]at hk
     rcases hk with(f|f)|f
     ·exact Or.inl f
     ·exact Or.inr f.1
     ·exact Or.inr (by omega)
    have ks:Keep (fun k=>k=p) w5 V:=by rw [hV];exact(Keep.refl (fun k=>k=p) w5).set (Or.inl rfl) _
    have k54:Keep (Slot X.b) w4 w5:=⟨g6.os,g6.tape,g6.output,g6.size,g6.block⟩
    have hnp:p<w.heap.size:=nF p HI.out.c0.1
    rw [HB.out]at ng1 ng2
    replace R1:=(R1.keep k54 l1 ng1).keep ks (by omega) (by omega)
    replace R2:=(R2.keep k54 l2 ng2).keep ks (by omega) (by omega)
    have lB1:w.heap.size<V.heap.size:=by omega
    have lB2:w.heap.size+1<V.heap.size:=by omega
    have nB1: ¬F5 w.heap.size:=fun f=>(HF5.out _ f).elim (fun f=>by have:=nF _ f;omega) (fun e=>by have:=HZ.out;omega)
    have nB2: ¬F5 (w.heap.size+1):=fun f=>(HF5.out _ f).elim (fun f=>by have:=nF _ f;omega) (fun e=>by have:=HZ.out;omega)
    have HFIN:Hid (∀ w',MeI base p { X5 with ge:=geK X.ge t (fn:Int) 3,gf:=gfK X.gf t (fn:Int) 3 } F5 w'→Keep F5 V w'→Left (MeP base p (S.addF t)) F w w'):=by
     unfold Hid
     intro w' hI' hK'
     refine⟨K5.out.trans hK' (fun k f=>(HF5.out k f).imp (fun x=>x) (fun e=>by have:=B3.size;omega)),F5,⟨_,hI',?_⟩,fun k f=>(HF5.out k f).imp (fun x=>x) (fun e=>by have:=B3.size;omega)⟩
     apply MeOk.addF HS.out HK.out HF0.out fn HFN.out
     ·rw [hX5];exact g4
     ·rw [hX5]
     ·rw [hX5]
     ·rw [hX5];show X.af.took=S.af.took;rw [HS.out.af]
     ·rw [hX5]
     ·rw [hX5]
      show n5=S.af.took.T
      rcases Nat.lt_or_ge fn X.nf with e|e
      ·rw [g2 e,HNN.out.2.2 e]
      ·have e':fn=X.nf:=Nat.le_antisymm HNN.out.1 e
       rw [g1 e',HNN.out.2.1 e']
     ·rw [hX5]
     ·rw [hX5]
     ·rw [hX5]
     ·rw [HFN.out]
     ·rw [HFN.out]
    have HX5a:Hid (X5.ge=X.ge∧X5.gf=X.gf∧X5.Lv=X.Lv∧X5.M=X.M∧X5.xs=X.xs∧X5.nv=X.nv∧X5.be=X.be):=by unfold Hid;rw [hX5];exact⟨rfl,rfl,rfl,rfl,rfl,rfl,rfl⟩
    have hV':=hV.symm
    clear hV hX5 hF5 HT ks k54 g1 g2 g3 g4 g5 g6 HP c0 m4 t0 t1 t2 t3 t4 t5 t6 t7 t8 zV z5 s3 fz hHeld HPUT
    go_wp2
    go_loopw [35] (fun i wr=> ∃ k:Nat,k≤3∧i= .int .i64 (k:Int)∧MeI base p { X5 with ge:=geK X.ge t (fn:Int) k,gf:=gfK X.gf t (fn:Int) k } F5 wr∧Keep F5 V wr) (fun i _=>3- (iv i).toNat)
    case atStart=>
     refine⟨0,by omega,rfl,?_,Keep.refl _ _⟩
     have e1:({ X5 with ge:=geK X.ge t (fn:Int) 0,gf:=gfK X.gf t (fn:Int) 0 }:Mx)=X5:=by
      show({ X5 with ge:=X.ge,gf:=X.gf }:Mx)=X5
      rw [←HX5a.out.1,←HX5a.out.2.1]
     rw [e1]
     exact HI5.out
    case round=>
     obtain⟨k,hk,rfl,hIr,hKr⟩:=hrel
     have HIr:Hid _:=hIr
     have HKr:Hid _:=hKr
     have zr:=hKr.size
     have R1r:=R1.keep hKr lB1 nB1
     have R2r:=R2.keep hKr lB2 nB2
     clear hIr hKr hV'
     by_cases hlt:k<3
     ·have hlt':(k:Int)<3:=by omega
      have c0:=R1r.cell 0 _ rfl
      have q5:=HIr.out.row.cell 5 _ rfl
      obtain⟨be,hbe⟩: ∃ b,b=X5.be:=⟨_,rfl⟩
      have lr1:w.heap.size<wr.heap.size:=by omega
      have lr2:w.heap.size+1<wr.heap.size:=by omega
      have lrp:p<wr.heap.size:=HIr.out.row.lt
      have HBE:Hid _:=hbe
      replace q5:wr.cell? ⟨p,5,none⟩=some (.map (some be)):=by rw [hbe];exact q5
      have nb1: ¬w.heap.size=be:=fun e=>nB1 (by rw [e,hbe];exact HI5.out.c5.1)
      have nb2: ¬w.heap.size+1=be:=fun e=>nB2 (by rw [e,hbe];exact HI5.out.c5.1)
      have nbp: ¬p=be:=fun e=>by have h1:=HI5.out.c0.2;have h2:=HI5.out.c5.2;rw [←hbe,←e,h1]at h2;cases h2
      have HEW:Hid (egW t k=eg t k):=egW_eq HSM.out hlt
      obtain⟨kl,hkl⟩:=egKey (eg_ok HK.out hm HSM.out HVV.out hlt)
      have HKL:Hid _:=hkl
      have HLE:Hid (∀ a,(∃ kl,keyOf Try.prog 122 (egV a)=some kl)→geK X.ge t (fn:Int) k a≠none→a∈egs S.C t):=by
       unfold Hid
       intro a _ ha
       rcases geK_some ha with⟨j,hj,e⟩|h1
       ·exact mem_egs (Or.inl ⟨j,by omega,e⟩)
       ·exact mem_egs (Or.inr (HS.out.ge2 a h1))
      have hel:(egs S.C t).length<maxLen:=by rw [egs_len];have:=HK.out.lens.2.1;unfold maxLen;omega
      clear hkl hbe
      have t0:=R2r.cell 0 _ rfl
      have t1:=R2r.cell 1 _ rfl
      have t2:=R2r.cell 2 _ rfl
      have t3:=R2r.cell 3 _ rfl
      have t4:=R2r.cell 4 _ rfl
      have t5:=R2r.cell 5 _ rfl
      have t6:=R2r.cell 6 _ rfl
      have t7:=R2r.cell 7 _ rfl
      have t8:=R2r.cell 8 _ rfl
      go_wp2
      have HSf10:Hid (∀ w',Keep (fun x=>x=be) wr w'→(fun w'=>w'.cell? ⟨w.heap.size,0,none⟩=some (ptR p)∧w'.cell? ⟨p,5,none⟩=some (.map (some be))∧w'.cell? ⟨w.heap.size+1,0,none⟩=some (.int .i64 t.v0)∧w'.cell? ⟨w.heap.size+1,1,none⟩=some (.int .i64 t.v1)∧w'.cell? ⟨w.heap.size+1,2,none⟩=some (.int .i64 t.v2)∧w'.cell? ⟨w.heap.size+1,3,none⟩=some (.int .i64 t.x0)∧w'.cell? ⟨w.heap.size+1,4,none⟩=some (.int .i64 t.y0)∧w'.cell? ⟨w.heap.size+1,5,none⟩=some (.int .i64 t.x1)∧w'.cell? ⟨w.heap.size+1,6,none⟩=some (.int .i64 t.y1)∧w'.cell? ⟨w.heap.size+1,7,none⟩=some (.int .i64 t.x2)∧w'.cell? ⟨w.heap.size+1,8,none⟩=some (.int .i64 t.y2)∧Keep (fun x=>x=be) wr w') w'):=by
       unfold Hid
       intro w' hb
       exact⟨(hb.cell (p:=⟨w.heap.size,0,none⟩) lr1 nb1).trans c0,(hb.cell (p:=⟨p,5,none⟩) lrp nbp).trans q5,(hb.cell (p:=⟨w.heap.size+1,0,none⟩) lr2 nb2).trans t0,(hb.cell (p:=⟨w.heap.size+1,1,none⟩) lr2 nb2).trans t1,(hb.cell (p:=⟨w.heap.size+1,2,none⟩) lr2 nb2).trans t2,(hb.cell (p:=⟨w.heap.size+1,3,none⟩) lr2 nb2).trans t3,(hb.cell (p:=⟨w.heap.size+1,4,none⟩) lr2 nb2).trans t4,(hb.cell (p:=⟨w.heap.size+1,5,none⟩) lr2 nb2).trans t5,(hb.cell (p:=⟨w.heap.size+1,6,none⟩) lr2 nb2).trans t6,(hb.cell (p:=⟨w.heap.size+1,7,none⟩) lr2 nb2).trans t7,(hb.cell (p:=⟨w.heap.size+1,8,none⟩) lr2 nb2).trans t8,hb⟩
      refine wp_region_held_drew (S:=fun w'=>w'.cell? ⟨w.heap.size,0,none⟩=some (ptR p)∧w'.cell? ⟨p,5,none⟩=some (.map (some be))∧w'.cell? ⟨w.heap.size+1,0,none⟩=some (.int .i64 t.v0)∧w'.cell? ⟨w.heap.size+1,1,none⟩=some (.int .i64 t.v1)∧w'.cell? ⟨w.heap.size+1,2,none⟩=some (.int .i64 t.v2)∧w'.cell? ⟨w.heap.size+1,3,none⟩=some (.int .i64 t.x0)∧w'.cell? ⟨w.heap.size+1,4,none⟩=some (.int .i64 t.y0)∧w'.cell? ⟨w.heap.size+1,5,none⟩=some (.int .i64 t.x1)∧w'.cell? ⟨w.heap.size+1,6,none⟩=some (.int .i64 t.y1)∧w'.cell? ⟨w.heap.size+1,7,none⟩=some (.int .i64 t.x2)∧w'.cell? ⟨w.heap.size+1,8,none⟩=some (.int .i64 t.y2)∧Keep (fun x=>x=be) wr w') (by kernel_rfl) ?_ (fun hHeld=>?_)
      ·exact HSf10.out _ ((Keep.refl _ _).drew)
      refine tn 0 ?_;refine tn 1 ?_;refine tn 2 ?_;refine tn 3 ?_;refine tn 4 ?_;refine tn 5 ?_;refine tn 7 ?_;refine tn 8 ?_;refine tn 9 ?_
      simp only [Go.Act.put,ps1,ps2,ps3]
      refine tcl 6 fun Kc hK=>?_
      go_simp
      (go_at_call 49;refine(mEdge t k _ hlt).mono ?_;rintro e w6 ⟨rfl,b6⟩;rw [HEW.out])
      refine hK.out _ _ ?_ (fun hHeld=>?_)
      ·exact HSf10.out _ (hHeld.2.2.2.2.2.2.2.2.2.2.2.to b6)
      clear hK Kc
      refine tcl 10 fun Kc hK=>?_
      refine step_update_l rfl (.tmp 41) (.tmp 44) (.tmp 47) 51 rfl 119 egL Try.underlying51 be (geK X.ge t (fn:Int) k) rfl (by rw [HBE.out];exact((HIr.out.below (Below.refl _ _).drew).below b6).edg) (eg t k) kl (stV (fn:Int) (k:Int)) rfl rfl HKL.out (egs S.C t) HLE.out hel ?_;intro w7 k7 m7
      refine hK.out _ _ ?_ (fun hHeld=>?_)
      ·exact HSf10.out _ (hHeld.2.2.2.2.2.2.2.2.2.2.2.trans k7 (fun i g=>Or.inl g))
      clear hK Kc
      refine wpAnyH_done (by kernel_rfl) ?_ _
      have HI7:Hid (MeI base p { X5 with ge:=geK X.ge t (fn:Int) (k+1),gf:=gfK X.gf t (fn:Int) k } F5 w7):=by
       unfold Hid
       rw [HBE.out]at k7 m7
       exact((HIr.out.below (Below.refl _ _).drew).below b6).turnE k7 m7
      have K7:Hid (Keep F5 V w7):=by
       unfold Hid
       rw [HBE.out]at k7
       exact((HKr.out.to (Below.refl _ _).drew).to b6).trans k7 (fun i e=>Or.inl (by rw [e];exact HI5.out.c5.1))
      have R17:=R1.keep K7.out lB1 nB1
      have R27:=R2.keep K7.out lB2 nB2
      have z7:=K7.out.size
      obtain⟨a,ha,hav⟩:=isV_iff.1 (HVV.out k hlt)
      obtain⟨g,kv,hXa,hg,hak,hkn,hc4⟩:=HI7.out.vcell' HS.out HK.out HX5a.out.2.2.2.2.1 HX5a.out.2.2.2.2.2.1 HX5a.out.2.2.2.1 ha
      have q3:=HI7.out.row.cell 3 _ rfl
      replace q3:w7.cell? ⟨p,3,none⟩=some (.slice X5.a X5.nv X5.ca):=q3
      replace hXa:X5.a=some ⟨g,0,none⟩:=hXa
      rw [hXa]at q3
      have hLv:X5.Lv a.no:=by rw [HX5a.out.2.2.1];exact(HS.out.Lv _).2 (isV_iff.2 ⟨a,ha,rfl⟩)
      have hc6:=HI5.out.c6 a.no hLv
      have HM7:Hid _:=HI7.out.fcs a.no hLv
      have HLV:Hid _:=hLv
      have HAN:Hid (t.v k=a.no):=hav.symm
      obtain⟨mb,hmb⟩: ∃ b,b=X5.M a.no:=⟨_,rfl⟩
      replace hc4:w7.cell? ⟨g,kv*5+4,none⟩=some (.map (some mb)):=by rw [hmb];exact hc4
      have HMB:Hid _:=hmb
      have ci:=R27.cell k _ (trC_v t hlt)
      rw [←hav,hak]at ci
      have d0:=R17.cell 0 _ rfl
      obtain⟨nv,hnv⟩: ∃ v,v=X5.nv:=⟨_,rfl⟩
      obtain⟨ca,hca⟩: ∃ v,v=X5.ca:=⟨_,rfl⟩
      rw [←hnv,←hca]at q3
      replace hkn:kv<nv:=by rw [hnv];exact hkn
      have hkv:(kv:Int)<(nv:Int):=by omega
      have l71:w.heap.size<w7.heap.size:=by omega
      have l72:w.heap.size+1<w7.heap.size:=by omega
      have l7p:p<w7.heap.size:=HI7.out.row.lt
      have nm1: ¬w.heap.size=mb:=fun e=>nB1 (by rw [e,hmb];exact hc6.2.1)
      have nm2: ¬w.heap.size+1=mb:=fun e=>nB2 (by rw [e,hmb];exact hc6.2.1)
      have nmp: ¬p=mb:=fun e=>by have h1:=HI5.out.c0.2;rw [e,hmb,hc6.2.2]at h1;omega
      have nmg: ¬g=mb:=fun e=>by have h1:=(HI5.out.c3 g (by rw [hXa];exact⟨0,rfl⟩)).2;rw [e,hmb,hc6.2.2]at h1;omega
      have HLI:Hid (∀ x,(∃ kl,keyOf Try.prog 3 (.int .i64 x)=some kl)→gfK X.gf t (fn:Int) k a.no x≠none→x∈S.C.map Ce.no++ [(fn:Int)]):=by
       unfold Hid
       intro x _ hx
       rcases gfK_iff.1 hx with h1|⟨h1,_⟩
       ·have h2:=(HS.out.gf a ha x).1 h1
        obtain⟨c,hc,e,_⟩:=around_iff.1 h2
        exact List.mem_append_left _ (List.mem_map.2 ⟨c,hc,e⟩)
       ·exact List.mem_append_right _ (by rw [h1];simp)
      have hll:(S.C.map Ce.no++ [(fn:Int)]).length<maxLen:=by have:=HK.out.lens.2.1;simp;unfold maxLen;omega
      have hik:=intKey hI64
      have HIK:Hid _:=hik
      have HAK:Hid _:=hak
      clear ha hav hXa hak hmb hnv hca hLv hc6 hik t0 t1 t2 t3 t4 t5 t6 t7 t8 c0 q5 hHeld k7 m7
      go_wp2
      have HSf11:Hid (∀ w',Keep (fun x=>x=mb) w7 w'→(fun w'=>w'.cell? ⟨w.heap.size,0,none⟩=some (ptR p)∧w'.cell? ⟨p,3,none⟩=some (.slice (some ⟨g,0,none⟩) nv ca)∧w'.cell? ⟨w.heap.size+1,k,none⟩=some (.int .i64 (kv:Int))∧w'.cell? ⟨g,kv*5+4,none⟩=some (.map (some mb))∧Keep (fun x=>x=mb) w7 w') w'):=by
       unfold Hid
       intro w' hb
       exact⟨(hb.cell (p:=⟨w.heap.size,0,none⟩) l71 nm1).trans d0,(hb.cell (p:=⟨p,3,none⟩) l7p nmp).trans q3,(hb.cell (p:=⟨w.heap.size+1,k,none⟩) l72 nm2).trans ci,(hb.cell (p:=⟨g,kv*5+4,none⟩) hg nmg).trans hc4,hb⟩
      refine wp_region_held_drew (S:=fun w'=>w'.cell? ⟨w.heap.size,0,none⟩=some (ptR p)∧w'.cell? ⟨p,3,none⟩=some (.slice (some ⟨g,0,none⟩) nv ca)∧w'.cell? ⟨w.heap.size+1,k,none⟩=some (.int .i64 (kv:Int))∧w'.cell? ⟨g,kv*5+4,none⟩=some (.map (some mb))∧Keep (fun x=>x=mb) w7 w') (by kernel_rfl) ?_ (fun hHeld=>?_)
      ·exact HSf11.out _ ((Keep.refl _ _).drew)
      refine tn 0 ?_;refine tn 1 ?_;refine tn 2 ?_;refine tn 3 ?_;refine tn 4 ?_;refine tn 5 ?_;refine tn 6 ?_;refine tn 7 ?_;refine tn 8 ?_;refine tn 9 ?_;refine tn 10 ?_;refine tn 11 ?_;refine tn 12 ?_
      simp only [Go.Act.put,ps1,ps2,ps3]
      refine tcl 13 fun Kc hK=>?_
      refine step_update_l rfl (.tmp 58) (.tmp 59) (.tmp 60) 90 rfl 131 intL Try.underlying90 mb (gfK X.gf t (fn:Int) k a.no) rfl (by rw [HMB.out];exact MapL.below HM7.out (Below.refl _ _).drew) (fn:Int) (.int .i64 (fn:Int)) (.agg #[]) rfl rfl HIK.out (S.C.map Ce.no++ [(fn:Int)]) HLI.out hll ?_;intro w8 k8 m8
      refine hK.out _ _ ?_ (fun hHeld=>?_)
      ·exact HSf11.out _ (hHeld.2.2.2.2.trans k8 (fun i g=>Or.inl g))
      clear hK Kc
      refine wpAnyH_done (by kernel_rfl) ?_ _
      have HI8:Hid (MeI base p { X5 with ge:=geK X.ge t (fn:Int) (k+1),gf:=gfK X.gf t (fn:Int) (k+1) } F5 w8):=by
       unfold Hid
       rw [HMB.out]at k8 m8
       have h8:=(HI7.out.below (Below.refl _ _).drew).turnM HLV.out k8 m8
       have e8:(fun u=>if u=a.no then(fun y=>if y=(fn:Int)then some (Value.agg #[])else gfK X.gf t (fn:Int) k a.no y)else gfK X.gf t (fn:Int) k u)=gfK X.gf t (fn:Int) (k+1):=by
        rw [←HAN.out]
        rfl
       rw [←e8]
       exact h8
      have K8:Hid (Keep F5 V w8):=by
       unfold Hid
       rw [HMB.out]at k8
       exact(K7.out.to (Below.refl _ _).drew).trans k8 (fun i e=>Or.inl (by rw [e];exact(HI5.out.c6 a.no HLV.out).2.1))
      clear d0 q3 ci hc4 hHeld k8 m8
      go_wp2
      go_roundw
      case rel=>exact⟨k+1,by omega,by simp,HI8.out,K8.out⟩
      case measure=>simp [iv];omega
     ·obtain rfl:k=3:=by omega
      go_wp2
      exact bodyPost_ret (v:= .tuple #[.int .i64 (fn:Int), .int .i64 0]) (by simp [results,Try.results39,go_sem]) rfl (Or.inr ⟨HF0.out,by rw [HFN.out],HFIN.out _ HIr.out HKr.out⟩)
theorem sorted_eq{L M:List Int}(hL:L.Pairwise (· < ·))(hM:M.Pairwise (· < ·))(h: ∀ x,x∈L↔x∈M):L=M:=by
 have h1:L.Perm M:=(List.perm_ext_iff_of_nodup (hL.imp (fun{a b} h=>by omega)) (hM.imp (fun{a b} h=>by omega))).2 h
 exact h1.eq_of_pairwise (le:=fun a b:Int=>a≤b) (fun a b _ _ h1 h2=>by omega) (hL.imp (fun{a b} h=>by omega)) (hM.imp (fun{a b} h=>by omega))
theorem allN_sorted(L:List Int)(k:Nat):(allN L k).Pairwise (· < ·):=by
 unfold allN
 refine List.Pairwise.filter _ ?_
 rw [List.pairwise_map]
 exact List.pairwise_lt_range.imp (fun{a b} h=>by omega)
theorem vs_all{S:Ms}{m:Nat}(hk:MsOk S m):S.V.map Vt.no=allN S.av.L S.av.T:=by
 refine sorted_eq (List.pairwise_map.2 hk.vs) (allN_sorted _ _) (fun x=>?_)
 rw [hk.vp.mem_iff]
 constructor
 ·intro h
  have:=hk.va.rg x (List.mem_append_left _ h)
  exact mem_allN h this.1 this.2
 ·intro h
  exact(allN_mem h).1
theorem fs_all{S:Ms}{m:Nat}(hk:MsOk S m):S.C.map Ce.no=allN S.af.L S.af.T:=by
 refine sorted_eq (List.pairwise_map.2 hk.fs) (allN_sorted _ _) (fun x=>?_)
 rw [hk.fp.mem_iff]
 constructor
 ·intro h
  have:=hk.fa.rg x (List.mem_append_left _ h)
  exact mem_allN h this.1 this.2
 ·intro h
  exact(allN_mem h).1
set_option maxRecDepth 100000 in
set_option maxHeartbeats 2000000 in
theorem mGatherV(base pv:Nat)(A:Ar)(Fv:Nat→Prop)(w:World)(hA:ArP base pv A.L A.B A.T Fv w)(hL:A.L.length≤1000)(hT:A.T≤1000)(g B:Nat)(eg: ∀ args w,(callFunc g args).run Try.prog w= .ok (.enter g args) w)(L:List Vt)(hno:L.map Vt.no=allN A.L A.T)
  (tell: ∀ x∈L, ∀ w',Below w.heap.size w w'→Calls Try.prog g #[.int .i64 (Vt.no x),ptR B] w' fun e w''=>e= .returned (.agg (vtC x).toArray)∧Below w'.heap.size w' w''):
  Calls Try.prog 28 #[ptR pv, .func (.func g) #[] #[ptR B]] w fun e w'=> ∃ (a:Option Addr) (c:Nat),e= .returned (.slice a L.length c)∧OwnS w' w.heap.size 89 4 a L.length c (flat vtC L)∧Below w.heap.size w w':=by
 have HA:Hid _:=hA
 have HT:Hid _:=tell
 have HNO:Hid _:=hno
 obtain⟨i0,hi0,hz0,hz1,hz2⟩:=info_of infoV
 obtain⟨m,hm⟩: ∃ m,m=A.L.length:=⟨_,rfl⟩
 have hm1:m≤1000:=by omega
 have HM:Hid ((m:Int)=A.L.length):=by unfold Hid;rw [hm]
 obtain⟨n,hn⟩: ∃ n,n=L.length:=⟨_,rfl⟩
 have hnl:n≤1000:=by have h1:=allN_len A.L A.T;have h2:=congrArg List.length hno;rw [List.length_map]at h2;omega
 have HN:Hid _:=hn
 clear hA tell hno hm hn
 go_enter Try.func28,Try.ntmps28
 go_wp2_with (go_at_call 41;fail)
 refine(arLen HA.out (m:Int) HM.out).mono ?_
 rintro e w1 ⟨rfl,b1⟩
 have z1:=b1.size
 go_wp2_with (first
  |(at_make;refine wpList_make_own _ rfl (.const (.int .i64 0)) (.tmp 9) 68 rfl w.heap.size 89 i0 _ 4 Try.underlying68 hi0 hz0 hz1 .i64 .i64 _ m rfl rfl rfl (by rw [hz2];omega) (by unfold maxLen;omega) b1.size ?_;intro w2 own2 g2)
  |(go_at_call 42;fail))
 have b2:Below w1.heap.size w1 w2:=(Keep.grown (F:=fun _=>False) (Keep.refl _ w1) g2 (fun k e=>by cases e)).below (Nat.le_refl _) (fun _ x=>x.elim)
 have B2:Below w.heap.size w w2:=b1.trans (b2.mono b1.size)
 refine(arAll (HA.out.keep (Keep.of (F:=fun _=>False) B2) (fun _ _ x=>x)) hL hT HNO.out).mono ?_
 rintro e w3 ⟨a3,c3,rfl,own3,b3⟩
 have z2:=b2.size
 have z3:=b3.size
 have B3:Below w.heap.size w w3:=B2.trans (b3.mono B2.size)
 rw [List.length_map]at own3 ⊢
 rw [←HN.out]at own3 ⊢
 have HO2:Hid (OwnS w3 w.heap.size 89 4 (some ⟨w1.heap.size,0,none⟩) 0 m []):=OwnS.below own2 b3
 have hap: ∀ q,Slot (some ⟨w1.heap.size,0,none⟩) q→ ¬Slot a3 q:=fun q s1 s3=>by
  obtain⟨_,e⟩:=s1
  have h1:=(Own.lt own3 s3).2
  have h2:w1.heap.size<w2.heap.size:=(OwnS.lt own2 ⟨0,rfl⟩).1
  have h3:w1.heap.size=q:=by cases e;rfl
  omega
 have HO3:Hid _:=own3
 have HAP:Hid _:=hap
 clear own2 own3 hap g2
 go_wp2
 go_loopw [5,14] (fun s i wr=> ∃ k:Nat,k≤n∧i= .int .i64 (k:Int)∧ ∃ (a:Option Addr) (c:Nat),s= .slice a k c∧OwnS wr w.heap.size 89 4 a k c (flat vtC (L.take k))∧Own wr w2.heap.size 3 a3 n c3 (ints (L.map Vt.no))∧(∀ q,Slot a q→ ¬Slot a3 q)∧Below w.heap.size w wr) (fun _ i _=>n- (iv i).toNat)
 case atStart=>exact⟨0,by omega,rfl,_,_,rfl,HO2.out,HO3.out,HAP.out,B3⟩
 case round=>
  clear HO2 HO3 HAP
  obtain⟨k,hk,rfl,a4,c4,rfl,hown,hints,hap,bel⟩:=hrel
  have hbs:=bel.size
  by_cases hlt:k<n
  ·obtain⟨x,hx⟩: ∃ x,L[k]? =some x:=⟨L[k]'(by rw [←HN.out];exact hlt),List.getElem?_eq_getElem _⟩
   have HX:Hid _:=hx
   have hxm:=List.mem_of_getElem? hx
   obtain⟨bb,hbb,hbl,_,hseg⟩:=Own.at hints (by omega)
   have ci:=hseg.cell k (.int .i64 (Vt.no x)) (by rw [ints,List.getElem?_map,List.getElem?_map,hx];rfl)
   rw [Nat.zero_add]at ci
   have HI:Hid _:=hints
   have HAP:Hid _:=hap
   subst hbb
   have hlt':(k:Int)<(n:Int):=by omega
   have hcap:k+1≤maxLen:=by unfold maxLen;omega
   obtain⟨x0,x1,x2,x3⟩:=x
   have HTX:Hid (Calls Try.prog g #[.int .i64 x0,ptR B] wr fun e w''=>e= .returned (.agg #[.int .i64 x0, .int .i64 x1, .int .i64 x2, .int .i64 x3])∧Below wr.heap.size wr w''):=HT.out _ hxm _ bel
   clear hints hap hseg hx hxm
   go_wp2_with (go_at_fn g;fail)
   refine(Calls.mono HTX.out) ?_
   rintro e w5 ⟨rfl,b5⟩
   have z5:=b5.size
   have o5:=OwnS.below (OwnS.below hown b5) ((Below.refl w5.heap.size w5).alloc (Nat.le_refl _) (.cells #[.int .i64 x0, .int .i64 x1, .int .i64 x2, .int .i64 x3] 89))
   have NW:=news_new w5 [.int .i64 x0, .int .i64 x1, .int .i64 x2, .int .i64 x3] 89
   clear ci
   go_wp2_with (at_builtin;refine app_atS _ rfl (.tmp 18) (.tmp 22) 68 rfl w.heap.size 89 i0 _ 4 32 Try.underlying68 hi0 hz0 hz1 hz2 rfl (by decide) a4 k c4 _ rfl o5 ⟨w5.heap.size,0,none⟩ 1 1 [.int .i64 x0, .int .i64 x1, .int .i64 x2, .int .i64 x3] rfl rfl NW (by simp [Value.oneCell']) hcap (by omega) (by simp;omega) ?_;intro a6 c6 w6 h6 g6 s6)
   have KG:Keep (Slot a4) (w5.alloc (.cells #[.int .i64 x0, .int .i64 x1, .int .i64 x2, .int .i64 x3] 89)) w6:=(Keep.refl _ _).grown g6 (fun q e=>Or.inl (OwnS.slot hown e))
   have BA:Below w5.heap.size w5 (w5.alloc (.cells #[.int .i64 x0, .int .i64 x1, .int .i64 x2, .int .i64 x3] 89)):=(Below.refl w5.heap.size w5).alloc (Nat.le_refl _) _
   have i6:=Own.keep (Own.below (Own.below HI.out b5) BA) KG (fun q s3 s4=>HAP.out q s4 s3)
   have hla:=fun q (s:Slot (some ⟨bb,0,none⟩) q)=>(Own.lt HI.out s).1
   have b6:Below w.heap.size w w6:=(bel.trans ((b5.mono bel.size).trans (BA.mono (by omega)))).trans (KG.below (by simp;omega) (fun q s=>(OwnS.lt hown s).2))
   go_roundw
   case rel=>
    refine⟨k+1,by omega,by simp,a6,c6,rfl,?_,i6,(fun q s s3=>(s6 q s).elim (fun s4=>HAP.out q s4 s3) (fun e=>by have:=hla q s3;simp at e;omega)),b6⟩
    have e7:flat vtC (L.take (k+1))=flat vtC (L.take k)++ [.int .i64 x0, .int .i64 x1, .int .i64 x2, .int .i64 x3]:=by
     rw [List.take_add_one,HX.out]
     simp [flat,vtC]
    rw [e7]
    exact h6
   case measure=>simp [iv];omega
  ·obtain rfl:k=n:=by omega
   go_wp2
   go_ret
   have e9:=HN.out
   rw [List.take_of_length_le (by omega)]at hown
   rw [←e9]
   exact⟨a4,c4,rfl,hown,bel⟩
set_option maxRecDepth 100000 in
set_option maxHeartbeats 2000000 in
theorem mGatherC(base pv:Nat)(A:Ar)(Fv:Nat→Prop)(w:World)(hA:ArP base pv A.L A.B A.T Fv w)(hL:A.L.length≤1000)(hT:A.T≤1000)(g B:Nat)(eg: ∀ args w,(callFunc g args).run Try.prog w= .ok (.enter g args) w)(L:List Ce)(hno:L.map Ce.no=allN A.L A.T)
  (tell: ∀ x∈L, ∀ w',Below w.heap.size w w'→Calls Try.prog g #[.int .i64 (Ce.no x),ptR B] w' fun e w''=>e= .returned (.agg (ceC x).toArray)∧Below w'.heap.size w' w''):
  Calls Try.prog 30 #[ptR pv, .func (.func g) #[] #[ptR B]] w fun e w'=> ∃ (a:Option Addr) (c:Nat),e= .returned (.slice a L.length c)∧OwnS w' w.heap.size 74 10 a L.length c (flat ceC L)∧Below w.heap.size w w':=by
 have HA:Hid _:=hA
 have HT:Hid _:=tell
 have HNO:Hid _:=hno
 obtain⟨i0,hi0,hz0,hz1,hz2⟩:=info_of infoC
 obtain⟨m,hm⟩: ∃ m,m=A.L.length:=⟨_,rfl⟩
 have hm1:m≤1000:=by omega
 have HM:Hid ((m:Int)=A.L.length):=by unfold Hid;rw [hm]
 obtain⟨n,hn⟩: ∃ n,n=L.length:=⟨_,rfl⟩
 have hnl:n≤1000:=by have h1:=allN_len A.L A.T;have h2:=congrArg List.length hno;rw [List.length_map]at h2;omega
 have HN:Hid _:=hn
 clear hA tell hno hm hn
 go_enter Try.func30,Try.ntmps30
 go_wp2_with (go_at_call 41;fail)
 refine(arLen HA.out (m:Int) HM.out).mono ?_
 rintro e w1 ⟨rfl,b1⟩
 have z1:=b1.size
 go_wp2_with (first
  |(at_make;refine wpList_make_own _ rfl (.const (.int .i64 0)) (.tmp 9) 69 rfl w.heap.size 74 i0 _ 10 Try.underlying69 hi0 hz0 hz1 .i64 .i64 _ m rfl rfl rfl (by rw [hz2];omega) (by unfold maxLen;omega) b1.size ?_;intro w2 own2 g2)
  |(go_at_call 42;fail))
 have b2:Below w1.heap.size w1 w2:=(Keep.grown (F:=fun _=>False) (Keep.refl _ w1) g2 (fun k e=>by cases e)).below (Nat.le_refl _) (fun _ x=>x.elim)
 have B2:Below w.heap.size w w2:=b1.trans (b2.mono b1.size)
 refine(arAll (HA.out.keep (Keep.of (F:=fun _=>False) B2) (fun _ _ x=>x)) hL hT HNO.out).mono ?_
 rintro e w3 ⟨a3,c3,rfl,own3,b3⟩
 have z2:=b2.size
 have z3:=b3.size
 have B3:Below w.heap.size w w3:=B2.trans (b3.mono B2.size)
 rw [List.length_map]at own3 ⊢
 rw [←HN.out]at own3 ⊢
 have HO2:Hid (OwnS w3 w.heap.size 74 10 (some ⟨w1.heap.size,0,none⟩) 0 m []):=OwnS.below own2 b3
 have hap: ∀ q,Slot (some ⟨w1.heap.size,0,none⟩) q→ ¬Slot a3 q:=fun q s1 s3=>by
  obtain⟨_,e⟩:=s1
  have h1:=(Own.lt own3 s3).2
  have h2:w1.heap.size<w2.heap.size:=(OwnS.lt own2 ⟨0,rfl⟩).1
  have h3:w1.heap.size=q:=by cases e;rfl
  omega
 have HO3:Hid _:=own3
 have HAP:Hid _:=hap
 clear own2 own3 hap g2
 go_wp2
 go_loopw [5,14] (fun s i wr=> ∃ k:Nat,k≤n∧i= .int .i64 (k:Int)∧ ∃ (a:Option Addr) (c:Nat),s= .slice a k c∧OwnS wr w.heap.size 74 10 a k c (flat ceC (L.take k))∧Own wr w2.heap.size 3 a3 n c3 (ints (L.map Ce.no))∧(∀ q,Slot a q→ ¬Slot a3 q)∧Below w.heap.size w wr) (fun _ i _=>n- (iv i).toNat)
 case atStart=>exact⟨0,by omega,rfl,_,_,rfl,HO2.out,HO3.out,HAP.out,B3⟩
 case round=>
  clear HO2 HO3 HAP
  obtain⟨k,hk,rfl,a4,c4,rfl,hown,hints,hap,bel⟩:=hrel
  have hbs:=bel.size
  by_cases hlt:k<n
  ·obtain⟨x,hx⟩: ∃ x,L[k]? =some x:=⟨L[k]'(by rw [←HN.out];exact hlt),List.getElem?_eq_getElem _⟩
   have HX:Hid _:=hx
   have hxm:=List.mem_of_getElem? hx
   obtain⟨bb,hbb,hbl,_,hseg⟩:=Own.at hints (by omega)
   have ci:=hseg.cell k (.int .i64 (Ce.no x)) (by rw [ints,List.getElem?_map,List.getElem?_map,hx];rfl)
   rw [Nat.zero_add]at ci
   have HI:Hid _:=hints
   have HAP:Hid _:=hap
   subst hbb
   have hlt':(k:Int)<(n:Int):=by omega
   have hcap:k+1≤maxLen:=by unfold maxLen;omega
   obtain⟨x0,t⟩:=x
   have HTX:Hid (Calls Try.prog g #[.int .i64 x0,ptR B] wr fun e w''=>e= .returned (.agg #[.int .i64 x0, .int .i64 t.v0, .int .i64 t.v1, .int .i64 t.v2, .int .i64 t.x0, .int .i64 t.y0, .int .i64 t.x1, .int .i64 t.y1, .int .i64 t.x2, .int .i64 t.y2])∧Below wr.heap.size wr w''):=HT.out _ hxm _ bel
   clear hints hap hseg hx hxm
   go_wp2_with (go_at_fn g;fail)
   refine(Calls.mono HTX.out) ?_
   rintro e w5 ⟨rfl,b5⟩
   have z5:=b5.size
   have o5:=OwnS.below (OwnS.below hown b5) ((Below.refl w5.heap.size w5).alloc (Nat.le_refl _) (.cells #[.int .i64 x0, .int .i64 t.v0, .int .i64 t.v1, .int .i64 t.v2, .int .i64 t.x0, .int .i64 t.y0, .int .i64 t.x1, .int .i64 t.y1, .int .i64 t.x2, .int .i64 t.y2] 74))
   have NW:=news_new w5 [.int .i64 x0, .int .i64 t.v0, .int .i64 t.v1, .int .i64 t.v2, .int .i64 t.x0, .int .i64 t.y0, .int .i64 t.x1, .int .i64 t.y1, .int .i64 t.x2, .int .i64 t.y2] 74
   clear ci
   go_wp2_with (at_builtin;refine app_atS _ rfl (.tmp 18) (.tmp 22) 69 rfl w.heap.size 74 i0 _ 10 80 Try.underlying69 hi0 hz0 hz1 hz2 rfl (by decide) a4 k c4 _ rfl o5 ⟨w5.heap.size,0,none⟩ 1 1 [.int .i64 x0, .int .i64 t.v0, .int .i64 t.v1, .int .i64 t.v2, .int .i64 t.x0, .int .i64 t.y0, .int .i64 t.x1, .int .i64 t.y1, .int .i64 t.x2, .int .i64 t.y2] rfl rfl NW (by simp [Value.oneCell']) hcap (by omega) (by simp;omega) ?_;intro a6 c6 w6 h6 g6 s6)
   have KG:Keep (Slot a4) (w5.alloc (.cells #[.int .i64 x0, .int .i64 t.v0, .int .i64 t.v1, .int .i64 t.v2, .int .i64 t.x0, .int .i64 t.y0, .int .i64 t.x1, .int .i64 t.y1, .int .i64 t.x2, .int .i64 t.y2] 74)) w6:=(Keep.refl _ _).grown g6 (fun q e=>Or.inl (OwnS.slot hown e))
   have BA:Below w5.heap.size w5 (w5.alloc (.cells #[.int .i64 x0, .int .i64 t.v0, .int .i64 t.v1, .int .i64 t.v2, .int .i64 t.x0, .int .i64 t.y0, .int .i64 t.x1, .int .i64 t.y1, .int .i64 t.x2, .int .i64 t.y2] 74)):=(Below.refl w5.heap.size w5).alloc (Nat.le_refl _) _
   have i6:=Own.keep (Own.below (Own.below HI.out b5) BA) KG (fun q s3 s4=>HAP.out q s4 s3)
   have hla:=fun q (s:Slot (some ⟨bb,0,none⟩) q)=>(Own.lt HI.out s).1
   have b6:Below w.heap.size w w6:=(bel.trans ((b5.mono bel.size).trans (BA.mono (by omega)))).trans (KG.below (by simp;omega) (fun q s=>(OwnS.lt hown s).2))
   go_roundw
   case rel=>
    refine⟨k+1,by omega,by simp,a6,c6,rfl,?_,i6,(fun q s s3=>(s6 q s).elim (fun s4=>HAP.out q s4 s3) (fun e=>by have:=hla q s3;simp at e;omega)),b6⟩
    have e7:flat ceC (L.take (k+1))=flat ceC (L.take k)++ [.int .i64 x0, .int .i64 t.v0, .int .i64 t.v1, .int .i64 t.v2, .int .i64 t.x0, .int .i64 t.y0, .int .i64 t.x1, .int .i64 t.y1, .int .i64 t.x2, .int .i64 t.y2]:=by
     rw [List.take_add_one,HX.out]
     simp [flat,ceC,trC]
    rw [e7]
    exact h6
   case measure=>simp [iv];omega
  ·obtain rfl:k=n:=by omega
   go_wp2
   go_ret
   have e9:=HN.out
   rw [List.take_of_length_le (by omega)]at hown
   rw [←e9]
   exact⟨a4,c4,rfl,hown,bel⟩
set_option maxRecDepth 100000 in
theorem mTellV(base p:Nat)(X:Mx)(S:Ms)(m:Nat)(F:Nat→Prop)(w:World)(h:MeI base p X F w)(hS:MeOk X S)(hk:MsOk S m)(B:Nat)(R:Row w B [ptR p])(a:Vt)(ha:a∈S.V):
  Calls Try.prog 29 #[.int .i64 a.no,ptR B] w fun e w'=>e= .returned (.agg (vtC a).toArray)∧Below w.heap.size w w':=by
 obtain⟨g,k,hXa,hg,hak,hkn,hcap,hc⟩:=h.vcell hS hk ha
 obtain⟨W,hW⟩: ∃ W,W=w.alloc (.cells #[.int .i64 0, .int .i64 0, .int .i64 0, .int .i64 0] 89):=⟨_,rfl⟩
 have BW:Below w.heap.size w W:=by rw [hW];exact(Below.refl _ _).alloc (Nat.le_refl _) _
 have R0:Row W w.heap.size [.int .i64 0, .int .i64 0, .int .i64 0, .int .i64 0]:=by rw [hW];exact Row.new w [.int .i64 0, .int .i64 0, .int .i64 0, .int .i64 0] _
 have hW':=hW.symm
 have q3:=(h.below BW).row.cell 3 _ rfl
 rw [hXa]at q3
 have rb:=(R.below BW R.lt).cell 0 _ rfl
 have u0:=(BW.cell (p:=⟨g,k*5,none⟩) hg).trans (hc 0 _ rfl).1
 have u1:=(BW.cell (p:=⟨g,k*5+1,none⟩) hg).trans (hc 1 _ rfl).1
 have u2:=(BW.cell (p:=⟨g,k*5+2,none⟩) hg).trans (hc 2 _ rfl).1
 have u3:=(BW.cell (p:=⟨g,k*5+3,none⟩) hg).trans (hc 3 _ rfl).1
 obtain⟨nv,hnv⟩: ∃ v,v=X.nv:=⟨_,rfl⟩
 obtain⟨ca,hca⟩: ∃ v,v=X.ca:=⟨_,rfl⟩
 rw [←hnv,←hca]at q3
 rw [←hnv]at hkn
 have hlt:(k:Int)<(nv:Int):=by omega
 obtain⟨a0,a1,a2,a3⟩:=a
 replace hak:a0=(k:Int):=hak
 subst hak
 have c0:=R0.cell 0 _ rfl
 have c1:=R0.cell 1 _ rfl
 have c2:=R0.cell 2 _ rfl
 have c3:=R0.cell 3 _ rfl
 have f0:=R0.free 0 (by simp)
 have f1:=R0.free 1 (by simp)
 have f2:=R0.free 2 (by simp)
 have f3:=R0.free 3 (by simp)
 clear hW h hS hk hc hXa hnv hca ha hcap R
 go_enter Try.func29,Try.ntmps29
 go_wp2
 have R2:=(((R0.set 0 (.int .i64 (k:Int)) (by simp)).set 1 (.int .i64 a1) (by simp)).set 2 (.int .i64 a2) (by simp)).set 3 (.int .i64 a3) (by simp)
 have d0:=R2.cell 0 _ rfl
 have d1:=R2.cell 1 _ rfl
 have d2:=R2.cell 2 _ rfl
 have d3:=R2.cell 3 _ rfl
 refine bodyPost_ret (v:= .agg #[.int .i64 (k:Int), .int .i64 a1, .int .i64 a2, .int .i64 a3]) (by simp [results,Try.results29,go_sem, *]) rfl ?_
 exact⟨rfl,(((BW.setCell (Nat.le_refl _) _).setCell (Nat.le_refl _) _).setCell (Nat.le_refl _) _).setCell (Nat.le_refl _) _⟩
set_option maxRecDepth 100000 in
theorem mTellC(base p:Nat)(X:Mx)(S:Ms)(m:Nat)(F:Nat→Prop)(w:World)(h:MeI base p X F w)(hS:MeOk X S)(hk:MsOk S m)(B:Nat)(R:Row w B [ptR p])(c:Ce)(hcm:c∈S.C):
  Calls Try.prog 31 #[.int .i64 c.no,ptR B] w fun e w'=>e= .returned (.agg (ceC c).toArray)∧Below w.heap.size w w':=by
 obtain⟨g,k,hXb,hg,hak,hkn,hcap,hc⟩:=h.fcell hS hk hcm
 obtain⟨W,hW⟩: ∃ W,W=w.alloc (.cells #[.int .i64 0, .int .i64 0, .int .i64 0, .int .i64 0, .int .i64 0, .int .i64 0, .int .i64 0, .int .i64 0, .int .i64 0, .int .i64 0] 74):=⟨_,rfl⟩
 have BW:Below w.heap.size w W:=by rw [hW];exact(Below.refl _ _).alloc (Nat.le_refl _) _
 have R0:Row W w.heap.size [.int .i64 0, .int .i64 0, .int .i64 0, .int .i64 0, .int .i64 0, .int .i64 0, .int .i64 0, .int .i64 0, .int .i64 0, .int .i64 0]:=by rw [hW];exact Row.new w [.int .i64 0, .int .i64 0, .int .i64 0, .int .i64 0, .int .i64 0, .int .i64 0, .int .i64 0, .int .i64 0, .int .i64 0, .int .i64 0] _
 have hW':=hW.symm
 have q4:=(h.below BW).row.cell 4 _ rfl
 rw [hXb]at q4
 have rb:=(R.below BW R.lt).cell 0 _ rfl
 obtain⟨no,t⟩:=c
 have u0:=(BW.cell (p:=⟨g,k*9,none⟩) hg).trans (hc 0 _ rfl).1
 have u1:=(BW.cell (p:=⟨g,k*9+1,none⟩) hg).trans (hc 1 _ rfl).1
 have u2:=(BW.cell (p:=⟨g,k*9+2,none⟩) hg).trans (hc 2 _ rfl).1
 have u3:=(BW.cell (p:=⟨g,k*9+3,none⟩) hg).trans (hc 3 _ rfl).1
 have u4:=(BW.cell (p:=⟨g,k*9+4,none⟩) hg).trans (hc 4 _ rfl).1
 have u5:=(BW.cell (p:=⟨g,k*9+5,none⟩) hg).trans (hc 5 _ rfl).1
 have u6:=(BW.cell (p:=⟨g,k*9+6,none⟩) hg).trans (hc 6 _ rfl).1
 have u7:=(BW.cell (p:=⟨g,k*9+7,none⟩) hg).trans (hc 7 _ rfl).1
 have u8:=(BW.cell (p:=⟨g,k*9+8,none⟩) hg).trans (hc 8 _ rfl).1
 obtain⟨nf,hnf⟩: ∃ v,v=X.nf:=⟨_,rfl⟩
 obtain⟨cb,hcb⟩: ∃ v,v=X.cb:=⟨_,rfl⟩
 rw [←hnf,←hcb]at q4
 rw [←hnf]at hkn
 have hlt:(k:Int)<(nf:Int):=by omega
 replace hak:no=(k:Int):=hak
 subst hak
 have c0:=R0.cell 0 _ rfl
 have f0:=R0.free 0 (by simp)
 have c1:=R0.cell 1 _ rfl
 have f1:=R0.free 1 (by simp)
 have c2:=R0.cell 2 _ rfl
 have f2:=R0.free 2 (by simp)
 have c3:=R0.cell 3 _ rfl
 have f3:=R0.free 3 (by simp)
 have c4:=R0.cell 4 _ rfl
 have f4:=R0.free 4 (by simp)
 have c5:=R0.cell 5 _ rfl
 have f5:=R0.free 5 (by simp)
 have c6:=R0.cell 6 _ rfl
 have f6:=R0.free 6 (by simp)
 have c7:=R0.cell 7 _ rfl
 have f7:=R0.free 7 (by simp)
 have c8:=R0.cell 8 _ rfl
 have f8:=R0.free 8 (by simp)
 have c9:=R0.cell 9 _ rfl
 have f9:=R0.free 9 (by simp)
 clear hW h hS hk hc hXb hnf hcb hcm hcap R
 go_enter Try.func31,Try.ntmps31
 go_wp2
 have R2:=((((((((((R0.set 0 (.int .i64 (k:Int)) (by simp)).set 1 (.int .i64 t.v0) (by simp)).set 2 (.int .i64 t.v1) (by simp)).set 3 (.int .i64 t.v2) (by simp)).set 4 (.int .i64 t.x0) (by simp)).set 5 (.int .i64 t.y0) (by simp)).set 6 (.int .i64 t.x1) (by simp)).set 7 (.int .i64 t.y1) (by simp)).set 8 (.int .i64 t.x2) (by simp)).set 9 (.int .i64 t.y2) (by simp))
 have d0:=R2.cell 0 _ rfl
 have d1:=R2.cell 1 _ rfl
 have d2:=R2.cell 2 _ rfl
 have d3:=R2.cell 3 _ rfl
 have d4:=R2.cell 4 _ rfl
 have d5:=R2.cell 5 _ rfl
 have d6:=R2.cell 6 _ rfl
 have d7:=R2.cell 7 _ rfl
 have d8:=R2.cell 8 _ rfl
 have d9:=R2.cell 9 _ rfl
 refine bodyPost_ret (v:= .agg #[.int .i64 (k:Int), .int .i64 t.v0, .int .i64 t.v1, .int .i64 t.v2, .int .i64 t.x0, .int .i64 t.y0, .int .i64 t.x1, .int .i64 t.y1, .int .i64 t.x2, .int .i64 t.y2]) (by simp [results,Try.results31,go_sem, *]) rfl ?_
 exact⟨rfl,((((((((((BW.setCell (Nat.le_refl _) _).setCell (Nat.le_refl _) _).setCell (Nat.le_refl _) _).setCell (Nat.le_refl _) _).setCell (Nat.le_refl _) _).setCell (Nat.le_refl _) _).setCell (Nat.le_refl _) _).setCell (Nat.le_refl _) _).setCell (Nat.le_refl _) _).setCell (Nat.le_refl _) _)⟩
set_option maxRecDepth 100000 in
theorem mDump0(w:World):Calls Try.prog 20 #[.pointer none] w fun e w'=>e= .returned (.agg #[.int .i64 0, .slice none 0 0, .slice none 0 0])∧Below w.heap.size w w':=by
 obtain⟨W,hW⟩: ∃ W,W=(w.alloc (.cells #[.pointer none] 30)).alloc (.cells #[.int .i64 0, .slice none 0 0, .slice none 0 0] 71):=⟨_,rfl⟩
 have BW:Below w.heap.size w W:=by rw [hW];exact((Below.refl _ _).alloc (Nat.le_refl _) _).alloc (by simp) _
 have R1:Row W w.heap.size [.pointer none]:=by rw [hW];exact(Row.new w [.pointer none] _).alloc _ (by simp)
 have R0:Row W (w.heap.size+1) [.int .i64 0, .slice none 0 0, .slice none 0 0]:=by rw [hW];have:=Row.new (w.alloc (.cells #[.pointer none] 30)) [.int .i64 0, .slice none 0 0, .slice none 0 0] 71;simpa using this
 have hW':=hW.symm
 have r0:=R1.cell 0 _ rfl
 have c0:=R0.cell 0 _ rfl
 have c1:=R0.cell 1 _ rfl
 have c2:=R0.cell 2 _ rfl
 have f0:=R0.free 0 (by simp)
 have f1:=R0.free 1 (by simp)
 have f2:=R0.free 2 (by simp)
 have hs2:w.heap.size≤w.heap.size+1:=by omega
 clear hW
 go_enter Try.func20,Try.ntmps20
 go_wp2
 have R2:=((R0.set 0 (.int .i64 0) (by simp)).set 1 (.slice none 0 0) (by simp)).set 2 (.slice none 0 0) (by simp)
 have d0:=R2.cell 0 _ rfl
 have d1:=R2.cell 1 _ rfl
 have d2:=R2.cell 2 _ rfl
 refine bodyPost_ret (v:= .agg #[.int .i64 0, .slice none 0 0, .slice none 0 0]) (by simp [results,Try.results20,go_sem, *]) rfl ?_
 exact⟨rfl,((BW.setCell hs2 _).setCell hs2 _).setCell hs2 _⟩
set_option maxRecDepth 100000 in
set_option maxHeartbeats 1000000 in
theorem mDump(base p:Nat)(X:Mx)(S:Ms)(m:Nat)(F:Nat→Prop)(w:World)(h:MeI base p X F w)(hS:MeOk X S)(hk:MsOk S m)(hm:m≤1000):
  Calls Try.prog 20 #[ptR p] w (GotDump w S):=by
 have hTv:X.av.T≤1000:=by rw [hS.av];have:=hk.vt;omega
 have hTf:X.af.T≤1000:=by rw [hS.af];have:=hk.ft;omega
 have hLv:X.av.L.length≤1000:=by rw [hS.av];have:=hk.lens;omega
 have hLf:X.af.L.length≤1000:=by rw [hS.af];have:=hk.lens;omega
 have hnv:S.V.map Vt.no=allN X.av.L X.av.T:=by rw [hS.av];exact vs_all hk
 have hnf:S.C.map Ce.no=allN X.af.L X.af.T:=by rw [hS.af];exact fs_all hk
 obtain⟨W,hW⟩: ∃ W,W=(w.alloc (.cells #[ptR p] 30)).alloc (.cells #[.int .i64 0, .slice none 0 0, .slice none 0 0] 71):=⟨_,rfl⟩
 have BW:Below w.heap.size w W:=by rw [hW];exact((Below.refl _ _).alloc (Nat.le_refl _) _).alloc (by simp) _
 have zW:W.heap.size=w.heap.size+2:=by rw [hW];simp
 have R1:Row W w.heap.size [ptR p]:=by rw [hW];exact(Row.new w [ptR p] _).alloc _ (by simp)
 have R0:Row W (w.heap.size+1) [.int .i64 0, .slice none 0 0, .slice none 0 0]:=by rw [hW];have:=Row.new (w.alloc (.cells #[ptR p] 30)) [.int .i64 0, .slice none 0 0, .slice none 0 0] 71;simpa using this
 have hW':=hW.symm
 have hIW:=h.below BW
 have HGV:Hid (∀ w',Below W.heap.size W w'→Calls Try.prog 28 #[ptR X.pv, .func (.func 29) #[] #[ptR w.heap.size]] w' fun e w''=> ∃ (a:Option Addr) (c:Nat),e= .returned (.slice a S.V.length c)∧OwnS w'' w'.heap.size 89 4 a S.V.length c (flat vtC S.V)∧Below w'.heap.size w' w''):=by
  unfold Hid
  intro w' hb
  have hz:=hb.size
  refine mGatherV base X.pv X.av X.Fv w' (hIW.below hb).arv hLv hTv _ w.heap.size (enters_of Try.func29 (by kernel_rfl) rfl) S.V hnv ?_
  intro x hx w'' hb''
  exact mTellV base p X S m F w'' ((hIW.below hb).below hb'') hS hk w.heap.size ((R1.below hb (by omega)).below hb'' (by omega)) x hx
 have HGC:Hid (∀ w',Below W.heap.size W w'→Calls Try.prog 30 #[ptR X.pf, .func (.func 31) #[] #[ptR w.heap.size]] w' fun e w''=> ∃ (a:Option Addr) (c:Nat),e= .returned (.slice a S.C.length c)∧OwnS w'' w'.heap.size 74 10 a S.C.length c (flat ceC S.C)∧Below w'.heap.size w' w''):=by
  unfold Hid
  intro w' hb
  have hz:=hb.size
  refine mGatherC base X.pf X.af X.Ff w' (hIW.below hb).arf hLf hTf _ w.heap.size (enters_of Try.func31 (by kernel_rfl) rfl) S.C hnf ?_
  intro x hx w'' hb''
  exact mTellC base p X S m F w'' ((hIW.below hb).below hb'') hS hk w.heap.size ((R1.below hb (by omega)).below hb'' (by omega)) x hx
 have q0:=hIW.row.cell 0 _ rfl
 have q1:=hIW.row.cell 1 _ rfl
 have q2:=hIW.row.cell 2 _ rfl
 have r0:=R1.cell 0 _ rfl
 have lp:p<w.heap.size+1:=by have:=h.row.lt;omega
 have lb:w.heap.size<w.heap.size+1:=by omega
 have HSN:Hid (X.n=S.n):=hS.n
 obtain⟨n,hn⟩: ∃ n,n=X.n:=⟨_,rfl⟩
 obtain⟨pv,hpv⟩: ∃ n,n=X.pv:=⟨_,rfl⟩
 obtain⟨pf,hpf⟩: ∃ n,n=X.pf:=⟨_,rfl⟩
 obtain⟨lv,hlv⟩: ∃ n,n=S.V.length:=⟨_,rfl⟩
 obtain⟨lf,hlf⟩: ∃ n,n=S.C.length:=⟨_,rfl⟩
 rw [←hn]at q0 HSN
 rw [←hpv]at q1 HGV
 rw [←hpf]at q2 HGC
 rw [←hlv]at HGV
 rw [←hlf]at HGC
 have HLV:Hid _:=hlv
 have HLF:Hid _:=hlf
 clear hW h hS hk hIW hn hpv hpf hnv hnf hlv hlf
 go_enter Try.func20,Try.ntmps20
 go_wp2
 clear hW'
 have HSdu:Hid (∀ w',Below (w.heap.size+1) W w'→(fun w'=>w'.cell? ⟨w.heap.size,0,none⟩=some (ptR p)∧w'.cell? ⟨p,0,none⟩=some (.int .i64 n)∧w'.cell? ⟨p,1,none⟩=some (ptR pv)∧w'.cell? ⟨p,2,none⟩=some (ptR pf)∧Below (w.heap.size+1) W w') w'):=by
  unfold Hid
  intro w' hb
  exact⟨(hb.cell (p:=⟨w.heap.size,0,none⟩) lb).trans r0,(hb.cell (p:=⟨p,0,none⟩) lp).trans q0,(hb.cell (p:=⟨p,1,none⟩) lp).trans q1,(hb.cell (p:=⟨p,2,none⟩) lp).trans q2,hb⟩
 refine wp_region_held_drew (S:=fun w'=>w'.cell? ⟨w.heap.size,0,none⟩=some (ptR p)∧w'.cell? ⟨p,0,none⟩=some (.int .i64 n)∧w'.cell? ⟨p,1,none⟩=some (ptR pv)∧w'.cell? ⟨p,2,none⟩=some (ptR pf)∧Below (w.heap.size+1) W w') (by kernel_rfl) ?_ (fun hHeld=>?_)
 ·exact HSdu.out _ ((Below.refl _ _).drew)
 refine tn 0 ?_;refine tn 1 ?_;refine tn 2 ?_;refine tn 3 ?_;refine tn 4 ?_;refine tn 5 ?_;refine tn 6 ?_;refine tn 7 ?_;refine tn 8 ?_;refine tn 10 ?_;refine tn 11 ?_;refine tn 12 ?_;refine tn 13 ?_;refine tn 14 ?_
 simp only [Go.Act.put,ps1,ps2,ps3]
 refine tcl 9 fun Kc hK=>?_
 go_simp
 (go_at_call 28;refine(HGV.out _ (Below.refl _ _).drew).mono ?_;rintro e w2 ⟨a2,c2,rfl,o2,b2⟩)
 refine hK.out _ _ ?_ (fun hHeld=>?_)
 ·exact HSdu.out _ (hHeld.2.2.2.2.trans (b2.mono (Nat.le_trans (by omega) hHeld.2.2.2.2.size)))
 clear hK Kc
 refine tcl 15 fun Kc hK=>?_
 go_simp
 (go_at_call 30;refine(HGC.out _ ((Below.refl _ _).drew.trans (b2.mono (Nat.le_refl _)))).mono ?_;rintro e w3 ⟨a3,c3,rfl,o3,b3⟩)
 refine hK.out _ _ ?_ (fun hHeld=>?_)
 ·exact HSdu.out _ (hHeld.2.2.2.2.trans (b3.mono (Nat.le_trans (by omega) hHeld.2.2.2.2.size)))
 clear hK Kc
 refine tz (i:=16) rfl ?_
 simp only [Go.Act.put,ps1,ps2,ps3]
 have z2:=b2.size
 have z3:=b3.size
 replace R0:=((show Row W.drew (w.heap.size+1) [.int .i64 0, .slice none 0 0, .slice none 0 0]from R0).below b2 (by simp;omega)).below b3 (by simp at z2;omega)
 have f0:=R0.free 0 (by simp)
 have f1:=R0.free 1 (by simp)
 have f2:=R0.free 2 (by simp)
 have g0:=R0.cell 0 _ rfl
 have g1:=R0.cell 1 _ rfl
 have g2:=R0.cell 2 _ rfl
 refine tcl 17 fun Kc hK=>?_
 go_simp
 refine hK.out _ _ ?_ (fun hHeld=>?_)
 ·exact HSdu.out _ ((((hHeld.2.2.2.2.setCell (by simp;try omega) _).setCell (by simp;try omega) _).setCell (by simp;try omega) _))
 clear hK Kc
 refine wpAnyH_done (by kernel_rfl) ?_ _
 have BF:=hHeld.2.2.2.2
 have R2:=((R0.set 0 (.int .i64 n) (by simp)).set 1 (.slice a2 lv c2) (by simp)).set 2 (.slice a3 lf c3) (by simp)
 have d0:=R2.cell 0 _ rfl
 have d1:=R2.cell 1 _ rfl
 have d2:=R2.cell 2 _ rfl
 go_wp2
 refine bodyPost_ret (v:= .agg #[.int .i64 n, .slice a2 lv c2, .slice a3 lf c3]) (by simp [results,Try.results20,go_sem, *]) rfl ?_
 have zz2:W.heap.size≤w2.heap.size:=b2.size
 have o2':=OwnS.below o2 b3
 have p2:=((o2'.put (k:=w.heap.size+1) (i:=0) (fun s=>by have:=(OwnS.lt o2 s).2;simp at this;omega) (.int .i64 n)).put (k:=w.heap.size+1) (i:=1) (fun s=>by have:=(OwnS.lt o2 s).2;simp at this;omega) (.slice a2 lv c2)).put (k:=w.heap.size+1) (i:=2) (fun s=>by have:=(OwnS.lt o2 s).2;simp at this;omega) (.slice a3 lf c3)
 have p3:=((OwnS.put o3 (k:=w.heap.size+1) (i:=0) (fun s=>by have:=(OwnS.lt o3 s).2;omega) (.int .i64 n)).put (k:=w.heap.size+1) (i:=1) (fun s=>by have:=(OwnS.lt o3 s).2;omega) (.slice a2 lv c2)).put (k:=w.heap.size+1) (i:=2) (fun s=>by have:=(OwnS.lt o3 s).2;omega) (.slice a3 lf c3)
 have BB:=BW.trans (BF.mono (Nat.le_succ _))
 rw [HLV.out]at p2 p3 BB ⊢
 rw [HLF.out]at p2 p3 BB ⊢
 rw [HSN.out]at p2 p3 BB ⊢
 exact⟨a2,c2,a3,c3,rfl,⟨0,p2.mono (Nat.zero_le _),p3.mono (Nat.zero_le _)⟩,BB⟩
end Go.Proofs.Ytaadknpjbogkbaa
namespace Go.Proofs.Ytaadknpjbogkbaa
open Go.RowKit
set_option linter.unusedVariables false
def nb(x:Bool):Nat:=match x with|true=>0|false=>1
variable {U : World} {Z : Nat → List Value} {Sp : Nat → Value → (World → Prop) → (Nat → Prop) → Prop} {b e : Nat → Bool} {p : Nat → Nat} {R : Nat → World → Prop} {A : Nat → Nat → Prop} {u v : Nat → Value} {w w' : World}
variable {P : Program} {md : Region.Mode} {Q : Exit → Go.Act → World → Prop} {S : World → Prop}
end Go.Proofs.Ytaadknpjbogkbaa
namespace Go.Proofs.Ytaadknpjbogkbaa
open Go.RowKit
set_option linter.unusedVariables false
theorem tr64_all{t:Tr}(h:Tr64 t): ∀ i,(-9223372036854775808≤t.v i∧t.v i≤9223372036854775807)∧(-9223372036854775808≤t.x i∧t.x i≤9223372036854775807)∧(-9223372036854775808≤t.y i∧t.y i≤9223372036854775807):=fun i=>⟨h.v i,h.x i,h.y i⟩
structure Act where
 kind:Int
 n:Int
 x:Int
 y:Int
 t:Tr
def oneT:Tr:=⟨0,0,0,0,0,1,0,0,1⟩
def twoT:Tr:=⟨0,0,0,1,0,1,1,0,1⟩
theorem tr64_small{t:Tr}(h: ∀ x∈trL t,In64 x):Tr64 t:=by
 have H: ∀ x,x∈trL t→In64 x:=h
 unfold trL at H
 refine⟨fun i=>?_,fun i=>?_,fun i=>?_⟩
 ·unfold Tr.v;split
  ·exact H _ (by simp)
  ·split<;>exact H _ (by simp)
 ·unfold Tr.x;split
  ·exact H _ (by simp)
  ·split<;>exact H _ (by simp)
 ·unfold Tr.y;split
  ·exact H _ (by simp)
  ·split<;>exact H _ (by simp)
theorem oneT64:Tr64 oneT:=tr64_small (by decide)
theorem twoT64:Tr64 twoT:=tr64_small (by decide)
end Go.Proofs.Ytaadknpjbogkbaa
namespace Go.Proofs.Ytaadknpjbogkbaa
open Go.RowKit Go.Maps
set_option linter.unusedVariables false
structure MeSp(MP:MeShape):Prop where
 keep: ∀ {base p:Nat} {S:Ms} {F G:Nat→Prop} {w w':World},MP base p S F w→Keep G w w'→(∀ k,F k→ ¬G k)→MP base p S F w'
 ft: ∀ {base p:Nat} {S:Ms} {F:Nat→Prop} {w:World},MP base p S F w→ ∀ k,F k→base≤k∧k<w.heap.size
 new: ∀ (base:Nat) (n:Int) (w:World),base≤w.heap.size→1≤n∧n≤17179869184→Calls Try.prog 5 #[.int .i64 n] w fun e w'=> ∃ (p:Nat) (F:Nat→Prop),e= .returned (ptR p)∧MP base p (Ms.new n) F w'∧(∀ k,F k→w.heap.size≤k)∧Below w.heap.size w w'
 side: ∀ (base p:Nat) (S:Ms) (m:Nat) (F:Nat→Prop) (w:World),MP base p S F w→MsOk S m→m≤1000→Calls Try.prog 9 #[ptR p] w fun e w'=>e= .returned (.int .i64 S.n)∧Below w.heap.size w w'
 addV0: ∀ (base p:Nat) (S:Ms) (m:Nat) (F:Nat→Prop) (w:World),MP base p S F w→MsOk S m→m≤1000→ ∀ x y id:Int,In64 x→In64 y→In64 id→inSq S x y=false→Calls Try.prog 38 #[ptR p, .agg #[.int .i64 x, .int .i64 y], .int .i64 id] w fun e w'=>e= .returned (.int .i64 (-1))∧Left (MP base p S) F w w'
 addV: ∀ (base p:Nat) (S:Ms) (m:Nat) (F:Nat→Prop) (w:World),MP base p S F w→MsOk S m→m≤1000→ ∀ x y id:Int,In64 x→In64 y→In64 id→inSq S x y=true→Calls Try.prog 38 #[ptR p, .agg #[.int .i64 x, .int .i64 y], .int .i64 id] w fun e w'=>e= .returned (.int .i64 S.av.num)∧Left (MP base p (S.addV x y id)) F w w'
 addF0: ∀ (base p:Nat) (S:Ms) (m:Nat) (F:Nat→Prop) (w:World),MP base p S F w→MsOk S m→m≤1000→ ∀ (t:Tr) (e0:Int),Tr64 t→e0=fErr S t→e0≠0→Calls Try.prog 39 #[ptR p,trV t] w fun e w'=>e= .returned (.tuple #[.int .i64 (-1), .int .i64 e0])∧Left (MP base p S) F w w'
 addF: ∀ (base p:Nat) (S:Ms) (m:Nat) (F:Nat→Prop) (w:World),MP base p S F w→MsOk S m→m≤1000→ ∀ t:Tr,Tr64 t→fErr S t=0→Calls Try.prog 39 #[ptR p,trV t] w fun e w'=>e= .returned (.tuple #[.int .i64 S.af.num, .int .i64 0])∧Left (MP base p (S.addF t)) F w w'
 face: ∀ (base p:Nat) (S:Ms) (m:Nat) (F:Nat→Prop) (w:World),MP base p S F w→MsOk S m→m≤1000→ ∀ f:Int,In64 f→Calls Try.prog 19 #[ptR p, .int .i64 f] w fun e w'=>e= .returned (.tuple #[trV (faceOf S f), .bool (isF S f)])∧Below w.heap.size w w'
 corner0: ∀ (base p:Nat) (S:Ms) (m:Nat) (F:Nat→Prop) (w:World),MP base p S F w→MsOk S m→m≤1000→ ∀ f i:Int,In64 f→In64 i→isF S f=false→Calls Try.prog 32 #[ptR p, .int .i64 f, .int .i64 i] w fun e w'=>e= .returned (.tuple #[.agg #[.int .i64 0, .int .i64 0], .bool false])∧Below w.heap.size w w'
 corner: ∀ (base p:Nat) (S:Ms) (m:Nat) (F:Nat→Prop) (w:World),MP base p S F w→MsOk S m→m≤1000→ ∀ f i:Int,In64 f→In64 i→isF S f=true→Calls Try.prog 32 #[ptR p, .int .i64 f, .int .i64 i] w fun e w'=>e= .returned (.tuple #[.agg #[.int .i64 (plX S (faceOf S f) (corner i)), .int .i64 (plY S (faceOf S f) (corner i))], .bool true])∧Below w.heap.size w w'
 across: ∀ (base p:Nat) (S:Ms) (m:Nat) (F:Nat→Prop) (w:World),MP base p S F w→MsOk S m→m≤1000→ ∀ f i:Int,In64 f→In64 i→Calls Try.prog 35 #[ptR p, .int .i64 f, .int .i64 i] w fun e w'=>CrossIs (crossed S f i) i e∧Below w.heap.size w w'
 dump: ∀ (base p:Nat) (S:Ms) (m:Nat) (F:Nat→Prop) (w:World),MP base p S F w→MsOk S m→m≤1000→Calls Try.prog 20 #[ptR p] w (GotDump w S)
theorem MeSp.below{MP:MeShape}(H:MeSp MP){base p:Nat}{S:Ms}{F:Nat→Prop}{w w':World}(h:MP base p S F w)(hb:Below w.heap.size w w'):MP base p S F w':=H.keep h (Keep.of (F:=fun _=>False) hb) (fun _ _ x=>x)
theorem faceOf_none{S:Ms}{f:Int}(h:isF S f=false):faceOf S f=trZero:=by
 unfold faceOf
 rw [m_faceOf_no h]
theorem crossed_nil{S:Ms}{f i:Int}(h:isF S f=false):crossed S f i=none:=by
 unfold crossed
 rw [m_faceOf_no h]
theorem noFaceS{base p:Nat}{X:Mx}{S:Ms}{m:Nat}{F:Nat→Prop}{w:World}(h:MeI base p X F w)(hS:MeOk X S)(hk:MsOk S m)(hm:m≤1000){f:Int}(hf:In64 f)(hn:isF S f=false): ∀ w',Below w.heap.size w w'→Calls Try.prog 19 #[ptR p, .int .i64 f] w' fun e w''=>e= .returned (.tuple #[trV trZero, .bool false])∧Below w'.heap.size w' w'':=
 fun w' hb=>mFaceL base p X S m F w' (h.below hb) hS hk hm f hf (faceOf_none hn).symm hn.symm
theorem tr64s{t:Tr}(h:Tr64 t){i:Nat}(hi:i<3):In64 (t.v i):=h.v i
theorem meSp:MeSp MeP where
 keep:=MeP.keep
 ft:=MeP.ft
 new base n w hb hn:=mNew base n w hb hn
 side base p S m F w h hk hm:=by
  obtain⟨X,hX,hS⟩:=h.ex
  rw [←hS.n]
  exact mSide base p X F w hX
 addV0 base p S m F w h hk hm x y id _ _ _ hq:=by
  obtain⟨X,hX,hS⟩:=h.ex
  refine(mAddV0 base p X F w hX x y id ?_).mono ?_
  ·rw [hS.n]
   intro hh
   have:inSq S x y=true:=decide_eq_true ⟨hh.1.1,hh.1.2,hh.2.1,hh.2.2⟩
   rw [hq]at this
   cases this
  ·rintro e w' ⟨rfl,b⟩
   exact⟨rfl,h.left b⟩
 addV base p S m F w h hk hm x y id _ _ _ hq:=by
  obtain⟨X,hX,hS⟩:=h.ex
  exact mAddV base p X S m F w hX hS hk hm x y id hq
 addF0 base p S m F w h hk hm t e0 ht he hne:=by
  obtain⟨X,hX,hS⟩:=h.ex
  subst he
  refine(mAddF base p X S m F w hX hS hk hm t ?_).mono ?_
  ·exact fun i hi=>tr64s ht hi
  ·rintro e w' (⟨_,rfl,b⟩|⟨h0,_⟩)
   ·exact⟨rfl,h.left b⟩
   ·exact absurd h0 hne
 addF base p S m F w h hk hm t ht h0:=by
  obtain⟨X,hX,hS⟩:=h.ex
  refine(mAddF base p X S m F w hX hS hk hm t ?_).mono ?_
  ·exact fun i hi=>tr64s ht hi
  ·rintro e w' (⟨hne,_⟩|⟨_,rfl,b⟩)
   ·exact absurd h0 hne
   ·exact⟨rfl,b⟩
 face base p S m F w h hk hm f hf:=by
  obtain⟨X,hX,hS⟩:=h.ex
  exact mFace base p X S m F w hX hS hk hm f hf
 corner0 base p S m F w h hk hm f i hf hi hn:=by
  obtain⟨X,hX,hS⟩:=h.ex
  exact mCorner0 (ptR p) f i w (noFaceS hX hS hk hm hf hn)
 corner base p S m F w h hk hm f i hf hi hb:=by
  obtain⟨X,hX,hS⟩:=h.ex
  exact mCorner base p X S m F w hX hS hk hm f i hf hi hb
 across base p S m F w h hk hm f i hf hi:=by
  obtain⟨X,hX,hS⟩:=h.ex
  cases hb:isF S f with
  |true=>exact mAcross base p X S m F w hX hS hk hm f i hf hi hb
  |false=>
   rw [crossed_nil hb]
   exact mAcross0 (ptR p) f i w (noFaceS hX hS hk hm hf hb)
 dump base p S m F w h hk hm:=by
  obtain⟨X,hX,hS⟩:=h.ex
  exact mDump base p X S m F w hX hS hk hm
def NoN(W:World)(i:Nat)(w':World):Prop:=Below W.heap.size W w'
def NoJ(W:World)(i:Nat)(w':World):Prop:=i=0∧Below W.heap.size W w'
set_option maxRecDepth 100000 in
set_option maxHeartbeats 1000000 in
theorem mAddF_nil(t:Tr)(w:World):Calls Try.prog 39 #[.pointer none,trV t] w fun e w'=>e= .returned (.tuple #[.int .i64 (-1), .int .i64 1])∧Below w.heap.size w w':=by
 obtain⟨W,hW⟩: ∃ W,W=(w.alloc (.cells #[.pointer none] 30)).alloc (.cells (trC t).toArray 65):=⟨_,rfl⟩
 have BW:Below w.heap.size w W:=by rw [hW];exact((Below.refl _ _).alloc (Nat.le_refl _) _).alloc (by simp) _
 have zW:W.heap.size=w.heap.size+2:=by rw [hW];simp
 have R1:Row W w.heap.size [.pointer none]:=by rw [hW];exact(Row.new w [.pointer none] _).alloc _ (by simp)
 have R2:Row W (w.heap.size+1) (trC t):=by rw [hW];have:=Row.new (w.alloc (.cells #[.pointer none] 30)) (trC t) 65;simpa using this
 have hW':(w.alloc (.cells #[.pointer none] 30)).alloc (.cells #[.int .i64 t.v0, .int .i64 t.v1, .int .i64 t.v2, .int .i64 t.x0, .int .i64 t.y0, .int .i64 t.x1, .int .i64 t.y1, .int .i64 t.x2, .int .i64 t.y2] 65)=W:=hW.symm
 have HE1:Hid (Calls Try.prog 54 #[.func (.func 55) #[] #[ptR w.heap.size,ptR (w.heap.size+1)]] W (EveryPost (NoJ W) (NoN W))):=by
  refine mEvery _ _ (enters_of Try.func55 (by kernel_rfl) rfl) _ _ W ⟨rfl,Below.refl _ _⟩ ?_
  rintro i w1 hi ⟨o1,b1⟩
  have hz1:=b1.size
  refine(mAsk1 (.pointer none) t i w.heap.size (w.heap.size+1) w1 hi (R1.below b1 (by omega)) (R2.below b1 (by omega)) (r:=false) ?_).mono ?_
  ·intro w' hb'
   exact mHasV0 _ w'
  ·rintro e w2 ⟨rfl,b2⟩
   exact Or.inr ⟨rfl,b1.trans (b2.mono b1.size)⟩
 clear hW zW
 go_enter Try.func39,Try.ntmps39
 go_wp2_with (go_at_call 54;fail)
 refine(Calls.mono HE1.out) ?_
 clear HE1
 rintro e w1 (⟨rfl,h3,_⟩|⟨rfl,i,hi,b1⟩)
 ·omega
 ·have b1:Below W.heap.size W w1:=b1
  have B1:Below w.heap.size w w1:=BW.trans (b1.mono BW.size)
  clear hW'
  go_wp2
  exact bodyPost_ret (v:= .tuple #[.int .i64 (-1), .int .i64 1]) (by simp [results,Try.results39,go_sem]) rfl ⟨rfl,B1⟩
theorem meNone:MeNone where
 new n w _ h:=mNew0 n w h
 side:=mSide0
 addV:=mAddV_nil
 addF:=mAddF_nil
 face v w:=(mFace0 v w).mono (by rintro e w' ⟨rfl,b⟩;exact⟨⟨trZero,rfl⟩,b⟩)
 corner f i w:=(mCorner0 _ f i w (fun w' _=>mFace0 f w')).mono (by rintro e w' ⟨rfl,b⟩;exact⟨⟨0,0,rfl⟩,b⟩)
 across f i w:=(mAcross0 _ f i w (fun w' _=>mFace0 f w')).mono (by rintro e w' ⟨rfl,b⟩;exact⟨⟨0,0,0,rfl⟩,b⟩)
 dump w:=(mDump0 w).mono (by rintro e w' ⟨rfl,b⟩;exact⟨⟨none,0,0,none,0,0,rfl⟩,b⟩)
end Go.Proofs.Ytaadknpjbogkbaa
namespace Go.Proofs.Ytaadknpjbogkbaa
open Go.RowKit
set_option linter.unusedVariables false
abbrev Pt:=Int×Int
def ptC(p:Pt):List Value:= [.int .i64 p.1, .int .i64 p.2]
theorem ptC_len(a:Pt):(ptC a).length=2:=rfl
theorem trC_len(a:Tr):(trC a).length=9:=rfl
theorem OwnS.elemS{α:Type}{f:α→List Value}{s:Nat}(hf: ∀ x,(f x).length=s){w:World}{base:Nat}{T:TypeId}{a:Option Addr}{cap:Nat}{L:List α}(h:OwnS w base T s a L.length cap (flat f L)){k:Nat}{x:α}(hk:L[k]? =some x):
  ∃ b,a=some ⟨b,0,none⟩∧b<w.heap.size∧base≤b∧L.length≤cap∧ ∀ (j:Nat) (y:α),L[j]? =some y→ ∀ (i:Nat) (u:Value),(f y)[i]? =some u→w.cell? ⟨b,j*s+i,none⟩=some u:=by
 obtain⟨b,e,hb,hB,hseg⟩:=h.at (by have:=(List.getElem?_eq_some_iff.1 hk).1;omega)
 refine⟨b,e,hb,hB,h.room.1,fun j y hj i u hu=>?_⟩
 have:=hseg.cell _ u (flat_at hf hj hu)
 rw [Nat.zero_add]at this
 exact this
end Go.Proofs.Ytaadknpjbogkbaa
namespace Go.Proofs.Ytaadknpjbogkbaa
set_option linter.unusedVariables false
def intsN(n:Nat):List Int:=(List.range n).map fun i:Nat=>(i:Int)
def vtsL(l:List Pt):List Vt:=l.zipIdx.map fun s=>⟨(s.2:Int),s.1.1,s.1.2,(s.2:Int)⟩
def cesL(D:List Tr):List Ce:=D.zipIdx.map fun s=>⟨(s.2:Int),s.1⟩
def meshOf(N:Int)(l:List Pt)(D:List Tr):Ms:=⟨N,⟨intsN l.length, [],l.length⟩,⟨intsN D.length, [],D.length⟩,vtsL l,cesL D⟩
theorem ints_next(n:Nat):intsN (n+1)=intsN n++ [(n:Int)]:=by unfold intsN;rw [List.range_succ,List.map_append];rfl
theorem vts_next(l:List Pt)(s:Pt):vtsL (l++ [s])=vtsL l++ [⟨(l.length:Int),s.1,s.2,(l.length:Int)⟩]:=by
 unfold vtsL;rw [List.zipIdx_append,List.map_append];simp
theorem ces_next(D:List Tr)(t:Tr):cesL (D++ [t])=cesL D++ [⟨(D.length:Int),t⟩]:=by
 unfold cesL;rw [List.zipIdx_append,List.map_append];simp
theorem vts_mem{l:List Pt}{a:Vt}:a∈vtsL l↔ ∃ (i:Nat) (s:Pt),l[i]? =some s∧a=⟨(i:Int),s.1,s.2,(i:Int)⟩:=by
 unfold vtsL
 rw [List.mem_map]
 constructor
 ·rintro⟨⟨s,i⟩,h,rfl⟩
  exact⟨i,s,List.mem_zipIdx_iff_getElem?.1 h,rfl⟩
 ·rintro⟨i,s,h,rfl⟩
  exact⟨(s,i),List.mem_zipIdx_iff_getElem?.2 h,rfl⟩
theorem ces_mem{D:List Tr}{a:Ce}:a∈cesL D↔ ∃ (i:Nat) (t:Tr),D[i]? =some t∧a=⟨(i:Int),t⟩:=by
 unfold cesL
 rw [List.mem_map]
 constructor
 ·rintro⟨⟨s,i⟩,h,rfl⟩
  exact⟨i,s,List.mem_zipIdx_iff_getElem?.1 h,rfl⟩
 ·rintro⟨i,s,h,rfl⟩
  exact⟨(s,i),List.mem_zipIdx_iff_getElem?.2 h,rfl⟩
theorem lt_of_get{α:Type}{l:List α}{i:Nat}{s:α}(h:l[i]? =some s):i<l.length:=(List.getElem?_eq_some_iff.1 h).1
theorem insBy_last{α:Type}{f:α→Int}{x:α}: ∀ {L:List α},(∀ a∈L,f a<f x)→insBy f x L=L++ [x]
 | [],_=>rfl
 |a::L,h=>by
  have:=h a List.mem_cons_self
  unfold insBy
  rw [if_neg (by omega),insBy_last (fun b hb=>h b (List.mem_cons_of_mem _ hb))]
  rfl
theorem mesh_num(N:Int)(l:List Pt)(D:List Tr):(meshOf N l D).av.num=l.length∧(meshOf N l D).af.num=D.length:=⟨rfl,rfl⟩
theorem mesh_addV(N:Int)(l:List Pt)(s:Pt):(meshOf N l []).addV s.1 s.2 (l.length:Int)=meshOf N (l++ [s]) []:=by
 unfold Ms.addV
 rw [(mesh_num N l []).1]
 unfold meshOf Ar.took Ar.num
 simp only [List.length_append,List.length_singleton]
 rw [vts_next,ints_next,insBy_last]
 ·rfl
 ·intro a ha
  obtain⟨i,s,h,rfl⟩:=vts_mem.1 ha
  have:=lt_of_get h
  show(i:Int)<l.length
  omega
theorem mesh_addF(N:Int)(l:List Pt)(D:List Tr)(t:Tr):(meshOf N l D).addF t=meshOf N l (D++ [t]):=by
 unfold Ms.addF
 rw [(mesh_num N l D).2]
 unfold meshOf Ar.took Ar.num
 simp only [List.length_append,List.length_singleton]
 rw [ces_next,ints_next,insBy_last]
 ·rfl
 ·intro a ha
  obtain⟨i,s,h,rfl⟩:=ces_mem.1 ha
  have:=lt_of_get h
  show(i:Int)<D.length
  omega
end Go.Proofs.Ytaadknpjbogkbaa
namespace Go.Proofs.Ytaadknpjbogkbaa
open Go.RowKit Go.Maps
set_option linter.unusedVariables false
structure Built(MP:MeShape)(pp:Nat)(T:Ms)(w w':World):Prop where
 ex: ∃ F:Nat→Prop,MP w.heap.size pp T F w'∧ ∀ k,F k→w.heap.size≤k
 be:Below w.heap.size w w'
set_option maxRecDepth 100000 in
set_option maxHeartbeats 4000000 in
theorem aBuildG{MP:MeShape}(HSp:MeSp MP)(la da:Option Addr)(bl bd lc dc:Nat)(l:List Pt)(D:List Tr)(N:Int)(w:World)(hl:OwnS w bl 23 2 la l.length lc (flat ptC l))(hd:OwnS w bd 65 9 da D.length dc (flat trC D))(hN:1≤N)(big:N≤17179869184)(box: ∀ s∈l,0≤s.1∧s.1<N∧0≤s.2∧s.2<N)(okV: ∀ k,k≤l.length→MsOk (meshOf N (l.take k) []) k)(okF: ∀ (k:Nat) (t:Tr),D[k]? =some t→MsOk (meshOf N l (D.take k)) (l.length+k)∧fErr (meshOf N l (D.take k)) t=0∧Tr64 t)(few:l.length+D.length≤1000):
  Calls Try.prog 25 #[.slice la l.length lc, .int .i64 N, .slice da D.length dc] w fun e w'=> ∃ pp:Nat,e= .returned (.tuple #[ptR pp, .bool true])∧Built MP pp (meshOf N l D) w w':=by
 have HL:Hid (OwnS w bl 23 2 la l.length lc (flat ptC l)):=hl
 have HDD:Hid (OwnS w bd 65 9 da D.length dc (flat trC D)):=hd
 have HBX:Hid _:=box
 have HV:Hid _:=okV
 have HFF:Hid _:=okF
 obtain⟨n,hn⟩: ∃ n,n=l.length:=⟨_,rfl⟩
 have HN:Hid _:=hn
 obtain⟨m,hm⟩: ∃ n,n=D.length:=⟨_,rfl⟩
 have HM:Hid _:=hm
 rw [←hn,←hm]at few ⊢
 have C1:Hid _:=HSp.new w.heap.size N w (Nat.le_refl _) ⟨hN,big⟩
 rw [←hn]at HV HFF
 clear hl hd box okV okF hn hm
 go_enter Try.func25,Try.ntmps25
 go_wp2_with (go_at_call 5;fail)
 refine Calls.mono C1.out ?_
 rintro e w1 ⟨pp,F,rfl,mp,hF,b1⟩
 have HMP:Hid (MP w.heap.size pp (meshOf N (l.take 0) []) F w1):=mp
 have HF:Hid _:=hF
 clear C1 mp hF
 go_wp2
 go_loopw [9] (fun i wr=> ∃ (k:Nat) (F:Nat→Prop),k≤n∧i= .int .i64 (k:Int)∧Hid (MP w.heap.size pp (meshOf N (l.take k) []) F wr)∧Hid (∀ k,F k→w.heap.size≤k)∧Below w.heap.size w wr) (fun i _=>n- (Go.RowKit.intOf i).toNat)
 case atStart=>exact⟨0,F,by omega,rfl,HMP.out,HF.out,b1⟩
 case round=>
  clear HMP HF b1
  obtain⟨k,F,hk,rfl,HMP,HF,be⟩:=hrel
  have zr:=be.size
  by_cases hlt:k<n
  ·have hlt':(k:Int)<(n:Int):=by omega
   obtain⟨s,hs⟩: ∃ s,l[k]? =some s:=⟨l[k]'(by rw [←HN.out];exact hlt),List.getElem?_eq_getElem _⟩
   obtain⟨bb,rfl,hbl,_,hc,HE⟩:=OwnS.elemS ptC_len (OwnS.below HL.out be) hs
   rw [←HN.out]at hc
   have g0:wr.cell? ⟨bb,k*2,none⟩=some (.int .i64 s.1):=HE k s hs 0 _ rfl
   have g1:wr.cell? ⟨bb,k*2+1,none⟩=some (.int .i64 s.2):=HE k s hs 1 _ rfl
   have bs:=HBX.out s (List.mem_of_getElem? hs)
   have lk:(l.take k).length=k:=by rw [List.length_take];have:=HN.out;omega
   have ok:=HV.out k hk
   have CV:Hid (Calls Try.prog 38 #[ptR pp, .agg #[.int .i64 s.1, .int .i64 s.2], .int .i64 (k:Int)] wr fun e w'=>e= .returned (.int .i64 (k:Int))∧Left (MP w.heap.size pp (meshOf N (l.take (k+1)) [])) F wr w'):=by
    have h0:=HSp.addV w.heap.size pp _ k F wr HMP.out ok (by omega) s.1 s.2 (k:Int) ⟨by omega,by omega⟩ ⟨by omega,by omega⟩ ⟨by omega,by omega⟩ (by unfold inSq;exact decide_eq_true ⟨bs.1,bs.2.1,bs.2.2.1,bs.2.2.2⟩)
    have e1:=(mesh_num N (l.take k) []).1
    have e2:=mesh_addV N (l.take k) s
    rw [lk]at e1 e2
    have e3:l.take k++ [s]=l.take (k+1):=by rw [List.take_add_one,hs];rfl
    rw [e3]at e2
    rw [e1,e2]at h0
    exact h0
   clear HE hs bs lk ok
   go_wp2_with (go_at_call 38;fail)
   refine Calls.mono CV.out ?_
   rintro e w2 ⟨rfl,k2,F2,mp2,f2⟩
   have be2:Below w.heap.size w w2:=be.trans (k2.below zr HF.out)
   have HMP2:Hid _:=mp2
   have HF2:Hid (∀ k,F2 k→w.heap.size≤k):=fun k hk=>by
    rcases f2 k hk with q|q
    ·exact HF.out k q
    ·omega
   clear CV g0 g1 mp2 f2 k2
   go_wp2
   go_roundw
   case rel=>exact⟨k+1,F2,by omega,by simp,HMP2.out,HF2.out,be2⟩
   case measure=>simp [Go.RowKit.intOf];omega
  ·obtain rfl:n=k:=by omega
   have HMP0:Hid (MP w.heap.size pp (meshOf N l (D.take 0)) F wr):=by
    have:=HMP.out
    rw [List.take_of_length_le (by rw [←HN.out];exact Nat.le_refl _)]at this
    exact this
   clear HMP
   go_wp2
   go_loopw [10] (fun i wr=> ∃ (k:Nat) (F:Nat→Prop),k≤m∧i= .int .i64 (k:Int)∧Hid (MP w.heap.size pp (meshOf N l (D.take k)) F wr)∧Hid (∀ k,F k→w.heap.size≤k)∧Below w.heap.size w wr) (fun i _=>m- (Go.RowKit.intOf i).toNat)
   case atStart=>exact⟨0,F,by omega,rfl,HMP0.out,HF.out,be⟩
   case round=>
    clear HMP0 HF be zr
    obtain⟨k,F,hk,rfl,HMP,HF,be⟩:=hrel
    have zr:=be.size
    by_cases hlt:k<m
    ·have hlt':(k:Int)<(m:Int):=by omega
     obtain⟨t,ht⟩: ∃ t,D[k]? =some t:=⟨D[k]'(by rw [←HM.out];exact hlt),List.getElem?_eq_getElem _⟩
     obtain⟨bb,rfl,hbl,_,hc,HE⟩:=OwnS.elemS trC_len (OwnS.below HDD.out be) ht
     rw [←HM.out]at hc
     have c0:wr.cell? ⟨bb,k*9,none⟩=some (.int .i64 t.v0):=HE k t ht 0 _ rfl
     have c1:wr.cell? ⟨bb,k*9+1,none⟩=some (.int .i64 t.v1):=HE k t ht 1 _ rfl
     have c2:wr.cell? ⟨bb,k*9+2,none⟩=some (.int .i64 t.v2):=HE k t ht 2 _ rfl
     have c3:wr.cell? ⟨bb,k*9+3,none⟩=some (.int .i64 t.x0):=HE k t ht 3 _ rfl
     have c4:wr.cell? ⟨bb,k*9+4,none⟩=some (.int .i64 t.y0):=HE k t ht 4 _ rfl
     have c5:wr.cell? ⟨bb,k*9+5,none⟩=some (.int .i64 t.x1):=HE k t ht 5 _ rfl
     have c6:wr.cell? ⟨bb,k*9+6,none⟩=some (.int .i64 t.y1):=HE k t ht 6 _ rfl
     have c7:wr.cell? ⟨bb,k*9+7,none⟩=some (.int .i64 t.x2):=HE k t ht 7 _ rfl
     have c8:wr.cell? ⟨bb,k*9+8,none⟩=some (.int .i64 t.y2):=HE k t ht 8 _ rfl
     obtain⟨ok,fe,t64⟩:=HFF.out k t ht
     have CF:Hid (Calls Try.prog 39 #[ptR pp,trV t] wr fun e w'=>e= .returned (.tuple #[.int .i64 (k:Int), .int .i64 0])∧Left (MP w.heap.size pp (meshOf N l (D.take (k+1)))) F wr w'):=by
      have h0:=HSp.addF w.heap.size pp _ (n+k) F wr HMP.out ok (by omega) t t64 fe
      have lk:(D.take k).length=k:=by rw [List.length_take];have:=HM.out;omega
      have e1:=(mesh_num N l (D.take k)).2
      have e2:=mesh_addF N l (D.take k) t
      rw [lk]at e1
      have e3:D.take k++ [t]=D.take (k+1):=by rw [List.take_add_one,ht];rfl
      rw [e3]at e2
      rw [e1,e2]at h0
      exact h0
     clear HE ht ok fe t64
     go_wp2_with (go_at_call 39;fail)
     refine Calls.mono CF.out ?_
     rintro e w2 ⟨rfl,k2,F2,mp2,f2⟩
     have be2:Below w.heap.size w w2:=be.trans (k2.below zr HF.out)
     have HMP2:Hid _:=mp2
     have HF2:Hid (∀ k,F2 k→w.heap.size≤k):=fun k hk=>by
      rcases f2 k hk with q|q
      ·exact HF.out k q
      ·omega
     clear CF c0 c1 c2 c3 c4 c5 c6 c7 c8 mp2 f2 k2
     go_wp2
     go_roundw
     case rel=>exact⟨k+1,F2,by omega,by simp,HMP2.out,HF2.out,be2⟩
     case measure=>simp [Go.RowKit.intOf];omega
    ·obtain rfl:m=k:=by omega
     go_wp2
     refine bodyPost_ret (v:= .tuple #[ptR pp, .bool true]) (by simp [results,Try.results25,go_sem]) rfl ⟨pp,rfl,⟨F,?_,HF.out⟩,be⟩
     have:=HMP.out
     rw [List.take_of_length_le (by rw [←HM.out];exact Nat.le_refl _)]at this
     exact this
end Go.Proofs.Ytaadknpjbogkbaa
