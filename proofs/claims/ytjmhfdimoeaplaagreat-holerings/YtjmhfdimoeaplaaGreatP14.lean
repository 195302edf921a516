/-
  Joined texts, part 14:
  The landed mesh's DropFace.
  The landed mesh's gather, of vertices and of faces; Dump.
  The landed mesh's isClosed, usesAll.
  The landed mesh's Dump.
  The landed mesh's area2, Check.
  The landed mesh's Check.
-/
import Derived.Test.YtjmhfdimoeaplaaGreatP13
namespace Go.Proofs.YtjmhfdimoeaplaaGreat
open Go.RowKit Go.Maps
set_option linter.unusedVariables false
set_option maxRecDepth 100000 in
theorem mDropF0(pp:Value)(f:Int)(w:World)(hF:Calls Tryz.prog 56 #[pp, .int .i64 f] w fun e w''=>e= .returned (.tuple #[trV trZero, .bool false])∧Below w.heap.size w w''):
  Calls Tryz.prog 66 #[pp, .int .i64 f] w fun e w'=>e= .returned (.bool false)∧Below w.heap.size w w':=by
 have HF:Hid _:=hF
 clear hF
 go_enter Tryz.func66,Tryz.ntmps66
 go_wp2_with (go_at_call 56;fail)
 refine(Calls.mono HF.out) ?_
 rintro e w1 ⟨rfl,b1⟩
 have B:Below w.heap.size w (w1.alloc (.cells #[.int .i64 trZero.v0, .int .i64 trZero.v1, .int .i64 trZero.v2, .int .i64 trZero.x0, .int .i64 trZero.y0, .int .i64 trZero.x1, .int .i64 trZero.y1, .int .i64 trZero.x2, .int .i64 trZero.y2] 54)):=b1.alloc b1.size _
 have HB:Hid _:=B
 clear B
 go_wp2
 go_ret
 exact⟨rfl,HB.out⟩
set_option maxRecDepth 100000 in
set_option maxHeartbeats 4000000 in
theorem mDropF(base p:Nat)(X:Mx)(S:Ms)(m:Nat)(F:Nat→Prop)(w:World)(h:MeI base p X F w)(hS:MeOk X S)(hk:MsOk S m)(hm:m≤1000)(i:Nat)(c:Ce)(hc:S.C[i]? =some c):
  Calls Tryz.prog 66 #[ptR p, .int .i64 c.no] w fun e w'=>e= .returned (.bool true)∧Left (MeP base p (S.dropF c.no i)) F w w':=by
 have hTf:X.af.T≤1000:=by rw [hS.af];have:=hk.ft;omega
 have hcm:=List.mem_of_getElem? hc
 have hfr:=hk.fmem hcm
 have hbF:isF S c.no=true:=isF_iff.2 ⟨c,hcm,rfl⟩
 have hft2:=hk.ft
 have hI64:In64 c.no:=⟨by omega,by omega⟩
 have HTT:Hid (c.t=faceOf S c.no):=by unfold Hid;unfold faceOf;rw [m_faceOf_at hk hcm]
 have HRR:Hid (true=isF S c.no):=hbF.symm
 have HCL:Hid (c.no∈X.af.L):=by unfold Hid;rw [hS.af];exact hfr.1
 have HSM:Hid _:=small_mem hk hcm
 have HVV:Hid (∀ j,j<3→isV S (c.t.v j)=true):=hk.fi c hcm
 have HC:Hid _:=hc
 have HI:Hid _:=h
 have HS:Hid _:=hS
 have HK:Hid _:=hk
 have nF: ∀ k,F k→k<w.heap.size:=fun k f=>(h.ft k f).2
 have hnp:p<w.heap.size:=nF p h.c0.1
 have HCT:Hid (MeOk X S→MsOk S m→ ∀ X':Mx,X'.n=X.n→X'.av=X.av→X'.af=S.af.freed c.no→X'.nv=X.nv→X'.nf=X.nf→X'.Lv=X.Lv→X'.M=X.M→X'.xs=X.xs→X'.ys=X.ys→X'.ge=geD X.ge c.t 3→X'.gf=gfD X.gf c.t c.no 3→MeOk X' (S.dropF c.no i)):=by
  unfold Hid
  intro a1 a2 X' x1 x2 x3 x4 x5 x6 x7 x8 x9 x10 x11
  exact MeOk.dropF a1 a2 hc x1 x2 x3 x4 x5 x6 x7 x8 x9 x10 x11
 obtain⟨fn,t⟩:=c
 replace hI64:In64 fn:=hI64
 clear h hS hk hc hcm hfr hbF hft2
 go_enter Tryz.func66,Tryz.ntmps66
 go_wp2_with (go_at_call 56;fail)
 refine(mFaceL base p X S m F w HI.out HS.out HK.out hm fn hI64 HTT.out HRR.out).mono ?_
 rintro e w1 ⟨rfl,b1⟩
 obtain⟨V,hV⟩: ∃ V,V=w1.alloc (.cells (trC t).toArray 54):=⟨_,rfl⟩
 have z1:=b1.size
 have BV:Below w.heap.size w V:=by rw [hV];exact b1.alloc b1.size _
 have RT:Row V w1.heap.size (trC t):=by rw [hV];exact Row.new w1 (trC t) _
 have lV:w1.heap.size<V.heap.size:=by rw [hV];simp
 have hV':w1.alloc (.cells #[.int .i64 t.v0, .int .i64 t.v1, .int .i64 t.v2, .int .i64 t.x0, .int .i64 t.y0, .int .i64 t.x1, .int .i64 t.y1, .int .i64 t.x2, .int .i64 t.y2] 54)=V:=hV.symm
 have HIV:Hid (MeI base p X F V):=HI.out.below BV
 have nB: ¬F w1.heap.size:=fun f=>by have:=nF _ f;omega
 clear hV
 go_wp2
 go_loopw [16] (fun i wr=> ∃ k:Nat,k≤3∧i= .int .i64 (k:Int)∧MeI base p { X with ge:=geD X.ge t k,gf:=gfD X.gf t fn k } F wr∧Keep F V wr) (fun i _=>3- (iv i).toNat)
 case atStart=>exact⟨0,by omega,rfl,HIV.out,Keep.refl _ _⟩
 case round=>
  obtain⟨k,hk,rfl,hIr,hKr⟩:=hrel
  have HIr:Hid _:=hIr
  have HKr:Hid _:=hKr
  have zr:=hKr.size
  have RTr:=RT.keep hKr lV nB
  clear hIr hKr hV'
  by_cases hlt:k<3
  ·have hlt':(k:Int)<3:=by omega
   have q5:=HIr.out.row.cell 5 _ rfl
   obtain⟨be,hbe⟩: ∃ b,b=X.be:=⟨_,rfl⟩
   have lr1:w1.heap.size<wr.heap.size:=by omega
   have lrp:p<wr.heap.size:=HIr.out.row.lt
   have HBE:Hid _:=hbe
   replace q5:wr.cell? ⟨p,5,none⟩=some (.map (some be)):=by rw [hbe];exact q5
   have nb1: ¬w1.heap.size=be:=fun e=>nB (by rw [e,hbe];exact HI.out.c5.1)
   have nbp: ¬p=be:=fun e=>by have h1:=HI.out.c0.2;have h2:=HI.out.c5.2;rw [←hbe,←e,h1]at h2;cases h2
   have HEW:Hid (egW t k=eg t k):=egW_eq HSM.out hlt
   obtain⟨kl,hkl⟩:=egKey (eg_ok HK.out hm HSM.out HVV.out hlt)
   have HKL:Hid _:=hkl
   clear hkl hbe
   have t0:=RTr.cell 0 _ rfl
   have t1:=RTr.cell 1 _ rfl
   have t2:=RTr.cell 2 _ rfl
   have t3:=RTr.cell 3 _ rfl
   have t4:=RTr.cell 4 _ rfl
   have t5:=RTr.cell 5 _ rfl
   have t6:=RTr.cell 6 _ rfl
   have t7:=RTr.cell 7 _ rfl
   have t8:=RTr.cell 8 _ rfl
   go_wp2
   have HSd7:Hid (∀ w',Keep (fun x=>x=be) wr w'→(fun w'=>w'.cell? ⟨p,5,none⟩=some (.map (some be))∧w'.cell? ⟨w1.heap.size,0,none⟩=some (.int .i64 t.v0)∧w'.cell? ⟨w1.heap.size,1,none⟩=some (.int .i64 t.v1)∧w'.cell? ⟨w1.heap.size,2,none⟩=some (.int .i64 t.v2)∧w'.cell? ⟨w1.heap.size,3,none⟩=some (.int .i64 t.x0)∧w'.cell? ⟨w1.heap.size,4,none⟩=some (.int .i64 t.y0)∧w'.cell? ⟨w1.heap.size,5,none⟩=some (.int .i64 t.x1)∧w'.cell? ⟨w1.heap.size,6,none⟩=some (.int .i64 t.y1)∧w'.cell? ⟨w1.heap.size,7,none⟩=some (.int .i64 t.x2)∧w'.cell? ⟨w1.heap.size,8,none⟩=some (.int .i64 t.y2)∧Keep (fun x=>x=be) wr w') w'):=by
    unfold Hid
    intro w' hb
    exact⟨(hb.cell (p:=⟨p,5,none⟩) lrp nbp).trans q5,(hb.cell (p:=⟨w1.heap.size,0,none⟩) lr1 nb1).trans t0,(hb.cell (p:=⟨w1.heap.size,1,none⟩) lr1 nb1).trans t1,(hb.cell (p:=⟨w1.heap.size,2,none⟩) lr1 nb1).trans t2,(hb.cell (p:=⟨w1.heap.size,3,none⟩) lr1 nb1).trans t3,(hb.cell (p:=⟨w1.heap.size,4,none⟩) lr1 nb1).trans t4,(hb.cell (p:=⟨w1.heap.size,5,none⟩) lr1 nb1).trans t5,(hb.cell (p:=⟨w1.heap.size,6,none⟩) lr1 nb1).trans t6,(hb.cell (p:=⟨w1.heap.size,7,none⟩) lr1 nb1).trans t7,(hb.cell (p:=⟨w1.heap.size,8,none⟩) lr1 nb1).trans t8,hb⟩
   refine wp_region_held_drew (S:=fun w'=>w'.cell? ⟨p,5,none⟩=some (.map (some be))∧w'.cell? ⟨w1.heap.size,0,none⟩=some (.int .i64 t.v0)∧w'.cell? ⟨w1.heap.size,1,none⟩=some (.int .i64 t.v1)∧w'.cell? ⟨w1.heap.size,2,none⟩=some (.int .i64 t.v2)∧w'.cell? ⟨w1.heap.size,3,none⟩=some (.int .i64 t.x0)∧w'.cell? ⟨w1.heap.size,4,none⟩=some (.int .i64 t.y0)∧w'.cell? ⟨w1.heap.size,5,none⟩=some (.int .i64 t.x1)∧w'.cell? ⟨w1.heap.size,6,none⟩=some (.int .i64 t.y1)∧w'.cell? ⟨w1.heap.size,7,none⟩=some (.int .i64 t.x2)∧w'.cell? ⟨w1.heap.size,8,none⟩=some (.int .i64 t.y2)∧Keep (fun x=>x=be) wr w') (by kernel_rfl) ?_ (fun hHeld=>?_)
   ·exact HSd7.out _ ((Keep.refl _ _).drew)
   refine tn 0 ?_;refine tn 1 ?_;refine tn 2 ?_;refine tn 3 ?_;refine tn 4 ?_;refine tn 5 ?_
   simp only [Act.put,ps1,ps2,ps3]
   refine tcl 6 fun Kc hK=>?_
   go_simp
   (go_at_call 108;refine(mEdge t k _ hlt).mono ?_;rintro e w6 ⟨rfl,b6⟩;rw [HEW.out])
   refine hK.out _ _ ?_ (fun hHeld=>?_)
   ·exact HSd7.out _ (hHeld.2.2.2.2.2.2.2.2.2.2.to b6)
   clear hK Kc
   refine tcl 7 fun Kc hK=>?_
   refine step_delete_l rfl (.tmp 22) (.tmp 25) 129 rfl 199 egL Tryz.underlying129 be (geD X.ge t k) rfl (by rw [HBE.out];exact((HIr.out.below (Below.refl _ _).drew).below b6).edg) (eg t k) kl rfl HKL.out ?_;intro w7 k7 m7
   refine hK.out _ _ ?_ (fun hHeld=>?_)
   ·exact HSd7.out _ (hHeld.2.2.2.2.2.2.2.2.2.2.trans k7 (fun i g=>Or.inl g))
   clear hK Kc
   refine wpAnyH_done (by kernel_rfl) ?_ _
   have HI7:Hid (MeI base p { X with ge:=geD X.ge t (k+1),gf:=gfD X.gf t fn k } F w7):=by
    unfold Hid
    rw [HBE.out]at k7 m7
    exact((HIr.out.below (Below.refl _ _).drew).below b6).turnE k7 m7
   have K7:Hid (Keep F V w7):=by
    unfold Hid
    rw [HBE.out]at k7
    exact((HKr.out.to (Below.refl _ _).drew).to b6).trans k7 (fun i e=>Or.inl (by rw [e];exact HI.out.c5.1))
   have RT7:=RT.keep K7.out lV nB
   have z7:=K7.out.size
   obtain⟨a,ha,hav⟩:=isV_iff.1 (HVV.out k hlt)
   obtain⟨g,kv,hXa,hg,hak,hkn,hc4⟩:=HI7.out.vcell' HS.out HK.out rfl rfl rfl ha
   have q3:=HI7.out.row.cell 3 _ rfl
   replace q3:w7.cell? ⟨p,3,none⟩=some (.slice X.a X.nv X.ca):=q3
   replace hXa:X.a=some ⟨g,0,none⟩:=hXa
   rw [hXa]at q3
   have hLv:X.Lv a.no:=(HS.out.Lv _).2 (isV_iff.2 ⟨a,ha,rfl⟩)
   have hc6:=HI.out.c6 a.no hLv
   have HM7:Hid _:=HI7.out.fcs a.no hLv
   have HLV:Hid _:=hLv
   have HAN:Hid (t.v k=a.no):=hav.symm
   obtain⟨mb,hmb⟩: ∃ b,b=X.M a.no:=⟨_,rfl⟩
   replace hc4:w7.cell? ⟨g,kv*5+4,none⟩=some (.map (some mb)):=by rw [hmb];exact hc4
   have HMB:Hid _:=hmb
   have ci:=RT7.cell k _ (trC_v t hlt)
   rw [←show a.no=t.v k from hav,hak]at ci
   obtain⟨nv,hnv⟩: ∃ v,v=X.nv:=⟨_,rfl⟩
   obtain⟨ca,hca⟩: ∃ v,v=X.ca:=⟨_,rfl⟩
   rw [←hnv,←hca]at q3
   replace hkn:kv<nv:=by rw [hnv];exact hkn
   have hkv:(kv:Int)<(nv:Int):=by omega
   have l71:w1.heap.size<w7.heap.size:=by omega
   have l7p:p<w7.heap.size:=HI7.out.row.lt
   have nm1: ¬w1.heap.size=mb:=fun e=>nB (by rw [e,hmb];exact hc6.2.1)
   have nmp: ¬p=mb:=fun e=>by have h1:=HI.out.c0.2;rw [e,hmb,hc6.2.2]at h1;omega
   have nmg: ¬g=mb:=fun e=>by have h1:=(HI.out.c3 g (by rw [hXa];exact⟨0,rfl⟩)).2;rw [e,hmb,hc6.2.2]at h1;omega
   have hik:=intKey hI64
   have HIK:Hid _:=hik
   clear ha hav hXa hak hmb hnv hca hLv hc6 hik t0 t1 t2 t3 t4 t5 t6 t7 t8 q5 hHeld k7 m7
   go_wp2
   have HSd8:Hid (∀ w',Keep (fun x=>x=mb) w7 w'→(fun w'=>w'.cell? ⟨p,3,none⟩=some (.slice (some ⟨g,0,none⟩) nv ca)∧w'.cell? ⟨w1.heap.size,k,none⟩=some (.int .i64 (kv:Int))∧w'.cell? ⟨g,kv*5+4,none⟩=some (.map (some mb))∧Keep (fun x=>x=mb) w7 w') w'):=by
    unfold Hid
    intro w' hb
    exact⟨(hb.cell (p:=⟨p,3,none⟩) l7p nmp).trans q3,(hb.cell (p:=⟨w1.heap.size,k,none⟩) l71 nm1).trans ci,(hb.cell (p:=⟨g,kv*5+4,none⟩) hg nmg).trans hc4,hb⟩
   refine wp_region_held_drew (S:=fun w'=>w'.cell? ⟨p,3,none⟩=some (.slice (some ⟨g,0,none⟩) nv ca)∧w'.cell? ⟨w1.heap.size,k,none⟩=some (.int .i64 (kv:Int))∧w'.cell? ⟨g,kv*5+4,none⟩=some (.map (some mb))∧Keep (fun x=>x=mb) w7 w') (by kernel_rfl) ?_ (fun hHeld=>?_)
   ·exact HSd8.out _ ((Keep.refl _ _).drew)
   refine tn 0 ?_;refine tn 1 ?_;refine tn 2 ?_;refine tn 3 ?_;refine tn 4 ?_;refine tn 5 ?_;refine tn 6 ?_;refine tn 7 ?_;refine tn 8 ?_;refine tn 9 ?_;refine tn 10 ?_;refine tn 11 ?_
   simp only [Act.put,ps1,ps2,ps3]
   refine tcl 12 fun Kc hK=>?_
   refine step_delete_l rfl (.tmp 36) (.tmp 37) 133 rfl 110 intL Tryz.underlying133 mb (gfD X.gf t fn k a.no) rfl (by rw [HMB.out];exact MapL.below HM7.out (Below.refl _ _).drew) fn (.int .i64 fn) rfl HIK.out ?_;intro w8 k8 m8
   refine hK.out _ _ ?_ (fun hHeld=>?_)
   ·exact HSd8.out _ (hHeld.2.2.2.trans k8 (fun i g=>Or.inl g))
   clear hK Kc
   refine wpAnyH_done (by kernel_rfl) ?_ _
   have HI8:Hid (MeI base p { X with ge:=geD X.ge t (k+1),gf:=gfD X.gf t fn (k+1) } F w8):=by
    unfold Hid
    rw [HMB.out]at k8 m8
    have h8:=(HI7.out.below (Below.refl _ _).drew).turnM HLV.out k8 m8
    have e8:(fun u=>if u=a.no then(fun y=>if y=fn then none else gfD X.gf t fn k a.no y)else gfD X.gf t fn k u)=gfD X.gf t fn (k+1):=by
     rw [←HAN.out]
     rfl
    rw [←e8]
    exact h8
   have K8:Hid (Keep F V w8):=by
    unfold Hid
    rw [HMB.out]at k8
    exact(K7.out.to (Below.refl _ _).drew).trans k8 (fun i e=>Or.inl (by rw [e];exact(HI.out.c6 a.no HLV.out).2.1))
   clear q3 ci hc4 hHeld k8 m8
   go_wp2
   go_roundw
   case rel=>exact⟨k+1,by omega,by simp,HI8.out,K8.out⟩
   case measure=>simp [iv];omega
  ·obtain rfl:k=3:=by omega
   have m2:=HIr.out.row.cell 2 _ rfl
   go_wp2_with (go_at_call 128;fail)
   refine(mFree HIr.out.arf hTf HCL.out).mono ?_
   rintro e w4 ⟨rfl,k4,Ff',a4,s4⟩
   go_wp2
   go_ret
   have hI4:=HIr.out.turnF k4 a4 s4
   have zv:=BV.size
   have z4:=k4.size
   refine⟨rfl,?_,_,⟨_,hI4,?_⟩,?_⟩
   ·exact((Keep.of BV).trans HKr.out (fun k f=>Or.inl f)).trans k4 (fun k f=>Or.inl (HI.out.c2 k f).1)
   ·apply HCT.out HS.out HK.out
    ·rfl
    ·rfl
    ·show X.af.freed fn=S.af.freed fn
     rw [HS.out.af]
    ·rfl
    ·rfl
    ·rfl
    ·rfl
    ·rfl
    ·rfl
    ·rfl
    ·rfl
   ·intro q hq
    rcases hq with f|f
    ·exact Or.inl f
    ·right;omega
theorem sorted_eq{L M:List Int}(hL:L.Pairwise (· < ·))(hM:M.Pairwise (· < ·))(h: ∀ x,x∈L↔x∈M):L=M:=by
 have h1:L.Perm M:=(List.perm_ext_iff_of_nodup (hL.imp (fun{a b} h=>by omega)) (hM.imp (fun{a b} h=>by omega))).2 h
 exact h1.eq_of_pairwise (le:=fun a b:Int=>a≤b) (fun a b _ _ h1 h2=>by omega) (hL.imp (fun{a b} h=>by omega)) (hM.imp (fun{a b} h=>by omega))
theorem allN_sorted(L:List Int)(k:Nat):(allN L k).Pairwise (· < ·):=by
 unfold allN
 refine List.Pairwise.filter _ ?_
 rw [List.pairwise_map]
 exact List.pairwise_lt_range.imp (fun{a b} h=>by omega)
theorem vs_all{S:Ms}{m:Nat}(hk:MsOk S m):S.V.map Vt.no=allN S.av.L S.av.T:=by
 refine sorted_eq (List.pairwise_map.2 hk.vs) (allN_sorted _ _) (fun x=>?_)
 rw [hk.vp.mem_iff]
 constructor
 ·intro h
  have:=hk.va.rg x (List.mem_append_left _ h)
  exact mem_allN h this.1 this.2
 ·intro h
  exact(allN_mem h).1
theorem fs_all{S:Ms}{m:Nat}(hk:MsOk S m):S.C.map Ce.no=allN S.af.L S.af.T:=by
 refine sorted_eq (List.pairwise_map.2 hk.fs) (allN_sorted _ _) (fun x=>?_)
 rw [hk.fp.mem_iff]
 constructor
 ·intro h
  have:=hk.fa.rg x (List.mem_append_left _ h)
  exact mem_allN h this.1 this.2
 ·intro h
  exact(allN_mem h).1
set_option maxRecDepth 100000 in
set_option maxHeartbeats 2000000 in
theorem mGatherV(base pv:Nat)(A:Ar)(Fv:Nat→Prop)(w:World)(hA:ArP base pv A.L A.B A.T Fv w)(hL:A.L.length≤1000)(hT:A.T≤1000)(g B:Nat)(eg: ∀ args w,(callFunc g args).run Tryz.prog w= .ok (.enter g args) w)(L:List Vt)(hno:L.map Vt.no=allN A.L A.T)
  (tell: ∀ x∈L, ∀ w',Below w.heap.size w w'→Calls Tryz.prog g #[.int .i64 (Vt.no x),ptR B] w' fun e w''=>e= .returned (.agg (vtC x).toArray)∧Below w'.heap.size w' w''):
  Calls Tryz.prog 60 #[ptR pv, .func (.func g) #[] #[ptR B]] w fun e w'=> ∃ (a:Option Addr) (c:Nat),e= .returned (.slice a L.length c)∧OwnS w' w.heap.size 67 4 a L.length c (flat vtC L)∧Below w.heap.size w w':=by
 have HA:Hid _:=hA
 have HT:Hid _:=tell
 have HNO:Hid _:=hno
 obtain⟨i0,hi0,hz0,hz1,hz2⟩:=info_of infoV
 obtain⟨m,hm⟩: ∃ m,m=A.L.length:=⟨_,rfl⟩
 have hm1:m≤1000:=by omega
 have HM:Hid ((m:Int)=A.L.length):=by unfold Hid;rw [hm]
 obtain⟨n,hn⟩: ∃ n,n=L.length:=⟨_,rfl⟩
 have hnl:n≤1000:=by have h1:=allN_len A.L A.T;have h2:=congrArg List.length hno;rw [List.length_map]at h2;omega
 have HN:Hid _:=hn
 clear hA tell hno hm hn
 go_enter Tryz.func60,Tryz.ntmps60
 go_wp2_with (go_at_call 124;fail)
 refine(arLen HA.out (m:Int) HM.out).mono ?_
 rintro e w1 ⟨rfl,b1⟩
 have z1:=b1.size
 go_wp2_with (first
  |(at_make;refine wpList_make_own _ rfl (.const (.int .i64 0)) (.tmp 9) 55 rfl w.heap.size 67 i0 _ 4 Tryz.underlying55 hi0 hz0 hz1 .i64 .i64 _ m rfl rfl rfl (by rw [hz2];omega) (by unfold maxLen;omega) b1.size ?_;intro w2 own2 g2)
  |(go_at_call 125;fail))
 have b2:Below w1.heap.size w1 w2:=(Keep.grown (F:=fun _=>False) (Keep.refl _ w1) g2 (fun k e=>by cases e)).below (Nat.le_refl _) (fun _ x=>x.elim)
 have B2:Below w.heap.size w w2:=b1.trans (b2.mono b1.size)
 refine(arAll (HA.out.keep (Keep.of (F:=fun _=>False) B2) (fun _ _ x=>x)) hL hT HNO.out).mono ?_
 rintro e w3 ⟨a3,c3,rfl,own3,b3⟩
 have z2:=b2.size
 have z3:=b3.size
 have B3:Below w.heap.size w w3:=B2.trans (b3.mono B2.size)
 rw [List.length_map]at own3 ⊢
 rw [←HN.out]at own3 ⊢
 have HO2:Hid (OwnS w3 w.heap.size 67 4 (some ⟨w1.heap.size,0,none⟩) 0 m []):=OwnS.below own2 b3
 have hap: ∀ q,Slot (some ⟨w1.heap.size,0,none⟩) q→ ¬Slot a3 q:=fun q s1 s3=>by
  obtain⟨_,e⟩:=s1
  have h1:=(Own.lt own3 s3).2
  have h2:w1.heap.size<w2.heap.size:=(OwnS.lt own2 ⟨0,rfl⟩).1
  have h3:w1.heap.size=q:=by cases e;rfl
  omega
 have HO3:Hid _:=own3
 have HAP:Hid _:=hap
 clear own2 own3 hap g2
 go_wp2
 go_loopw [5,14] (fun s i wr=> ∃ k:Nat,k≤n∧i= .int .i64 (k:Int)∧ ∃ (a:Option Addr) (c:Nat),s= .slice a k c∧OwnS wr w.heap.size 67 4 a k c (flat vtC (L.take k))∧Own wr w2.heap.size 3 a3 n c3 (ints (L.map Vt.no))∧(∀ q,Slot a q→ ¬Slot a3 q)∧Below w.heap.size w wr) (fun _ i _=>n- (iv i).toNat)
 case atStart=>exact⟨0,by omega,rfl,_,_,rfl,HO2.out,HO3.out,HAP.out,B3⟩
 case round=>
  clear HO2 HO3 HAP
  obtain⟨k,hk,rfl,a4,c4,rfl,hown,hints,hap,bel⟩:=hrel
  have hbs:=bel.size
  by_cases hlt:k<n
  ·obtain⟨x,hx⟩: ∃ x,L[k]? =some x:=⟨L[k]'(by rw [←HN.out];exact hlt),List.getElem?_eq_getElem _⟩
   have HX:Hid _:=hx
   have hxm:=List.mem_of_getElem? hx
   obtain⟨bb,hbb,hbl,_,hseg⟩:=Own.at hints (by omega)
   have ci:=hseg.cell k (.int .i64 (Vt.no x)) (by rw [ints,List.getElem?_map,List.getElem?_map,hx];rfl)
   rw [Nat.zero_add]at ci
   have HI:Hid _:=hints
   have HAP:Hid _:=hap
   subst hbb
   have hlt':(k:Int)<(n:Int):=by omega
   have hcap:k+1≤maxLen:=by unfold maxLen;omega
   obtain⟨x0,x1,x2,x3⟩:=x
   have HTX:Hid (Calls Tryz.prog g #[.int .i64 x0,ptR B] wr fun e w''=>e= .returned (.agg #[.int .i64 x0, .int .i64 x1, .int .i64 x2, .int .i64 x3])∧Below wr.heap.size wr w''):=HT.out _ hxm _ bel
   clear hints hap hseg hx hxm
   go_wp2_with (go_at_fn g;fail)
   refine(Calls.mono HTX.out) ?_
   rintro e w5 ⟨rfl,b5⟩
   have z5:=b5.size
   have o5:=OwnS.below (OwnS.below hown b5) ((Below.refl w5.heap.size w5).alloc (Nat.le_refl _) (.cells #[.int .i64 x0, .int .i64 x1, .int .i64 x2, .int .i64 x3] 67))
   have NW:=news_new w5 [.int .i64 x0, .int .i64 x1, .int .i64 x2, .int .i64 x3] 67
   clear ci
   go_wp2_with (at_builtin;refine app_atS _ rfl (.tmp 18) (.tmp 22) 55 rfl w.heap.size 67 i0 _ 4 32 Tryz.underlying55 hi0 hz0 hz1 hz2 rfl (by decide) a4 k c4 _ rfl o5 ⟨w5.heap.size,0,none⟩ 1 1 [.int .i64 x0, .int .i64 x1, .int .i64 x2, .int .i64 x3] rfl rfl NW (by simp [Value.oneCell']) hcap (by omega) (by simp;omega) ?_;intro a6 c6 w6 h6 g6 s6)
   have KG:Keep (Slot a4) (w5.alloc (.cells #[.int .i64 x0, .int .i64 x1, .int .i64 x2, .int .i64 x3] 67)) w6:=(Keep.refl _ _).grown g6 (fun q e=>Or.inl (OwnS.slot hown e))
   have BA:Below w5.heap.size w5 (w5.alloc (.cells #[.int .i64 x0, .int .i64 x1, .int .i64 x2, .int .i64 x3] 67)):=(Below.refl w5.heap.size w5).alloc (Nat.le_refl _) _
   have i6:=Own.keep (Own.below (Own.below HI.out b5) BA) KG (fun q s3 s4=>HAP.out q s4 s3)
   have hla:=fun q (s:Slot (some ⟨bb,0,none⟩) q)=>(Own.lt HI.out s).1
   have b6:Below w.heap.size w w6:=(bel.trans ((b5.mono bel.size).trans (BA.mono (by omega)))).trans (KG.below (by simp;omega) (fun q s=>(OwnS.lt hown s).2))
   go_roundw
   case rel=>
    refine⟨k+1,by omega,by simp,a6,c6,rfl,?_,i6,(fun q s s3=>(s6 q s).elim (fun s4=>HAP.out q s4 s3) (fun e=>by have:=hla q s3;simp at e;omega)),b6⟩
    have e7:flat vtC (L.take (k+1))=flat vtC (L.take k)++ [.int .i64 x0, .int .i64 x1, .int .i64 x2, .int .i64 x3]:=by
     rw [List.take_add_one,HX.out]
     simp [flat,vtC]
    rw [e7]
    exact h6
   case measure=>simp [iv];omega
  ·obtain rfl:k=n:=by omega
   go_wp2
   go_ret
   have e9:=HN.out
   rw [List.take_of_length_le (by omega)]at hown
   rw [←e9]
   exact⟨a4,c4,rfl,hown,bel⟩
set_option maxRecDepth 100000 in
set_option maxHeartbeats 2000000 in
theorem mGatherC(base pv:Nat)(A:Ar)(Fv:Nat→Prop)(w:World)(hA:ArP base pv A.L A.B A.T Fv w)(hL:A.L.length≤1000)(hT:A.T≤1000)(g B:Nat)(eg: ∀ args w,(callFunc g args).run Tryz.prog w= .ok (.enter g args) w)(L:List Ce)(hno:L.map Ce.no=allN A.L A.T)
  (tell: ∀ x∈L, ∀ w',Below w.heap.size w w'→Calls Tryz.prog g #[.int .i64 (Ce.no x),ptR B] w' fun e w''=>e= .returned (.agg (ceC x).toArray)∧Below w'.heap.size w' w''):
  Calls Tryz.prog 62 #[ptR pv, .func (.func g) #[] #[ptR B]] w fun e w'=> ∃ (a:Option Addr) (c:Nat),e= .returned (.slice a L.length c)∧OwnS w' w.heap.size 139 10 a L.length c (flat ceC L)∧Below w.heap.size w w':=by
 have HA:Hid _:=hA
 have HT:Hid _:=tell
 have HNO:Hid _:=hno
 obtain⟨i0,hi0,hz0,hz1,hz2⟩:=info_of infoC
 obtain⟨m,hm⟩: ∃ m,m=A.L.length:=⟨_,rfl⟩
 have hm1:m≤1000:=by omega
 have HM:Hid ((m:Int)=A.L.length):=by unfold Hid;rw [hm]
 obtain⟨n,hn⟩: ∃ n,n=L.length:=⟨_,rfl⟩
 have hnl:n≤1000:=by have h1:=allN_len A.L A.T;have h2:=congrArg List.length hno;rw [List.length_map]at h2;omega
 have HN:Hid _:=hn
 clear hA tell hno hm hn
 go_enter Tryz.func62,Tryz.ntmps62
 go_wp2_with (go_at_call 124;fail)
 refine(arLen HA.out (m:Int) HM.out).mono ?_
 rintro e w1 ⟨rfl,b1⟩
 have z1:=b1.size
 go_wp2_with (first
  |(at_make;refine wpList_make_own _ rfl (.const (.int .i64 0)) (.tmp 9) 56 rfl w.heap.size 139 i0 _ 10 Tryz.underlying56 hi0 hz0 hz1 .i64 .i64 _ m rfl rfl rfl (by rw [hz2];omega) (by unfold maxLen;omega) b1.size ?_;intro w2 own2 g2)
  |(go_at_call 125;fail))
 have b2:Below w1.heap.size w1 w2:=(Keep.grown (F:=fun _=>False) (Keep.refl _ w1) g2 (fun k e=>by cases e)).below (Nat.le_refl _) (fun _ x=>x.elim)
 have B2:Below w.heap.size w w2:=b1.trans (b2.mono b1.size)
 refine(arAll (HA.out.keep (Keep.of (F:=fun _=>False) B2) (fun _ _ x=>x)) hL hT HNO.out).mono ?_
 rintro e w3 ⟨a3,c3,rfl,own3,b3⟩
 have z2:=b2.size
 have z3:=b3.size
 have B3:Below w.heap.size w w3:=B2.trans (b3.mono B2.size)
 rw [List.length_map]at own3 ⊢
 rw [←HN.out]at own3 ⊢
 have HO2:Hid (OwnS w3 w.heap.size 139 10 (some ⟨w1.heap.size,0,none⟩) 0 m []):=OwnS.below own2 b3
 have hap: ∀ q,Slot (some ⟨w1.heap.size,0,none⟩) q→ ¬Slot a3 q:=fun q s1 s3=>by
  obtain⟨_,e⟩:=s1
  have h1:=(Own.lt own3 s3).2
  have h2:w1.heap.size<w2.heap.size:=(OwnS.lt own2 ⟨0,rfl⟩).1
  have h3:w1.heap.size=q:=by cases e;rfl
  omega
 have HO3:Hid _:=own3
 have HAP:Hid _:=hap
 clear own2 own3 hap g2
 go_wp2
 go_loopw [5,14] (fun s i wr=> ∃ k:Nat,k≤n∧i= .int .i64 (k:Int)∧ ∃ (a:Option Addr) (c:Nat),s= .slice a k c∧OwnS wr w.heap.size 139 10 a k c (flat ceC (L.take k))∧Own wr w2.heap.size 3 a3 n c3 (ints (L.map Ce.no))∧(∀ q,Slot a q→ ¬Slot a3 q)∧Below w.heap.size w wr) (fun _ i _=>n- (iv i).toNat)
 case atStart=>exact⟨0,by omega,rfl,_,_,rfl,HO2.out,HO3.out,HAP.out,B3⟩
 case round=>
  clear HO2 HO3 HAP
  obtain⟨k,hk,rfl,a4,c4,rfl,hown,hints,hap,bel⟩:=hrel
  have hbs:=bel.size
  by_cases hlt:k<n
  ·obtain⟨x,hx⟩: ∃ x,L[k]? =some x:=⟨L[k]'(by rw [←HN.out];exact hlt),List.getElem?_eq_getElem _⟩
   have HX:Hid _:=hx
   have hxm:=List.mem_of_getElem? hx
   obtain⟨bb,hbb,hbl,_,hseg⟩:=Own.at hints (by omega)
   have ci:=hseg.cell k (.int .i64 (Ce.no x)) (by rw [ints,List.getElem?_map,List.getElem?_map,hx];rfl)
   rw [Nat.zero_add]at ci
   have HI:Hid _:=hints
   have HAP:Hid _:=hap
   subst hbb
   have hlt':(k:Int)<(n:Int):=by omega
   have hcap:k+1≤maxLen:=by unfold maxLen;omega
   obtain⟨x0,t⟩:=x
   have HTX:Hid (Calls Tryz.prog g #[.int .i64 x0,ptR B] wr fun e w''=>e= .returned (.agg #[.int .i64 x0, .int .i64 t.v0, .int .i64 t.v1, .int .i64 t.v2, .int .i64 t.x0, .int .i64 t.y0, .int .i64 t.x1, .int .i64 t.y1, .int .i64 t.x2, .int .i64 t.y2])∧Below wr.heap.size wr w''):=HT.out _ hxm _ bel
   clear hints hap hseg hx hxm
   go_wp2_with (go_at_fn g;fail)
   refine(Calls.mono HTX.out) ?_
   rintro e w5 ⟨rfl,b5⟩
   have z5:=b5.size
   have o5:=OwnS.below (OwnS.below hown b5) ((Below.refl w5.heap.size w5).alloc (Nat.le_refl _) (.cells #[.int .i64 x0, .int .i64 t.v0, .int .i64 t.v1, .int .i64 t.v2, .int .i64 t.x0, .int .i64 t.y0, .int .i64 t.x1, .int .i64 t.y1, .int .i64 t.x2, .int .i64 t.y2] 139))
   have NW:=news_new w5 [.int .i64 x0, .int .i64 t.v0, .int .i64 t.v1, .int .i64 t.v2, .int .i64 t.x0, .int .i64 t.y0, .int .i64 t.x1, .int .i64 t.y1, .int .i64 t.x2, .int .i64 t.y2] 139
   clear ci
   go_wp2_with (at_builtin;refine app_atS _ rfl (.tmp 18) (.tmp 22) 56 rfl w.heap.size 139 i0 _ 10 80 Tryz.underlying56 hi0 hz0 hz1 hz2 rfl (by decide) a4 k c4 _ rfl o5 ⟨w5.heap.size,0,none⟩ 1 1 [.int .i64 x0, .int .i64 t.v0, .int .i64 t.v1, .int .i64 t.v2, .int .i64 t.x0, .int .i64 t.y0, .int .i64 t.x1, .int .i64 t.y1, .int .i64 t.x2, .int .i64 t.y2] rfl rfl NW (by simp [Value.oneCell']) hcap (by omega) (by simp;omega) ?_;intro a6 c6 w6 h6 g6 s6)
   have KG:Keep (Slot a4) (w5.alloc (.cells #[.int .i64 x0, .int .i64 t.v0, .int .i64 t.v1, .int .i64 t.v2, .int .i64 t.x0, .int .i64 t.y0, .int .i64 t.x1, .int .i64 t.y1, .int .i64 t.x2, .int .i64 t.y2] 139)) w6:=(Keep.refl _ _).grown g6 (fun q e=>Or.inl (OwnS.slot hown e))
   have BA:Below w5.heap.size w5 (w5.alloc (.cells #[.int .i64 x0, .int .i64 t.v0, .int .i64 t.v1, .int .i64 t.v2, .int .i64 t.x0, .int .i64 t.y0, .int .i64 t.x1, .int .i64 t.y1, .int .i64 t.x2, .int .i64 t.y2] 139)):=(Below.refl w5.heap.size w5).alloc (Nat.le_refl _) _
   have i6:=Own.keep (Own.below (Own.below HI.out b5) BA) KG (fun q s3 s4=>HAP.out q s4 s3)
   have hla:=fun q (s:Slot (some ⟨bb,0,none⟩) q)=>(Own.lt HI.out s).1
   have b6:Below w.heap.size w w6:=(bel.trans ((b5.mono bel.size).trans (BA.mono (by omega)))).trans (KG.below (by simp;omega) (fun q s=>(OwnS.lt hown s).2))
   go_roundw
   case rel=>
    refine⟨k+1,by omega,by simp,a6,c6,rfl,?_,i6,(fun q s s3=>(s6 q s).elim (fun s4=>HAP.out q s4 s3) (fun e=>by have:=hla q s3;simp at e;omega)),b6⟩
    have e7:flat ceC (L.take (k+1))=flat ceC (L.take k)++ [.int .i64 x0, .int .i64 t.v0, .int .i64 t.v1, .int .i64 t.v2, .int .i64 t.x0, .int .i64 t.y0, .int .i64 t.x1, .int .i64 t.y1, .int .i64 t.x2, .int .i64 t.y2]:=by
     rw [List.take_add_one,HX.out]
     simp [flat,ceC,trC]
    rw [e7]
    exact h6
   case measure=>simp [iv];omega
  ·obtain rfl:k=n:=by omega
   go_wp2
   go_ret
   have e9:=HN.out
   rw [List.take_of_length_le (by omega)]at hown
   rw [←e9]
   exact⟨a4,c4,rfl,hown,bel⟩
def closedB(S:Ms):Bool:=S.C.all fun c=>(List.range 3).all fun k=>(acr c.t k S.C).isSome
theorem grown_of{w w':World}(h:Below w.heap.size w w'):w.grownBy w' none:=⟨h.os,h.tape,h.output,h.size,fun k hk _=>h.block k hk⟩
theorem below_grown{w w':World}{r B:Nat}(h:w.grownBy w' (some r))(hB:B≤w.heap.size)(hr:B≤r):Below B w w':=⟨h.os,h.tape,h.output,h.size,fun k hk=>h.block k (by omega) (fun e=>by cases e;omega)⟩
theorem wrap_I64(x:Int):I64 (wrap64 x):=by unfold wrap64;constructor<;>omega
theorem egT_I64{e:Eg}(h:e.ok):(egT e).ok:=⟨h.2.1,h.1,wrap_I64 _,wrap_I64 _⟩
set_option maxRecDepth 100000 in
set_option maxHeartbeats 1000000 in
theorem mClosed(base p:Nat)(X:Mx)(S:Ms)(m:Nat)(F:Nat→Prop)(w:World)(h:MeI base p X F w)(hS:MeOk X S)(hk:MsOk S m)(hm:m≤1000){r:Bool}(hr:r=closedB S):
  Calls Tryz.prog 71 #[ptR p] w fun e w'=>e= .returned (.bool r)∧Below w.heap.size w w':=by
 obtain⟨D,n,hown,hhas⟩:=h.edg.out
 have q5:=h.row.cell 5 _ rfl
 have HI:Hid _:=h
 have HS:Hid _:=hS
 have HK:Hid _:=hk
 have HR:Hid _:=hr
 have HH:Hid _:=hhas
 obtain⟨be,hbe⟩: ∃ b,b=X.be:=⟨_,rfl⟩
 rw [←hbe]at q5 hown
 have HOW:Hid _:=hown
 clear h hS hk hr hhas hbe
 go_enter Tryz.func71,Tryz.ntmps71
 go_wp2_with (at_range;refine wpList_range_own _ rfl (.tmp 7) 129 rfl 195 199 egKeyed Tryz.underlying129 rV be n D rfl HOW.out ?_;intro w0 hrg0 hg0 hs0)
 have B0:Below w.heap.size w w0:=⟨hg0.os,hg0.tape,hg0.output,hg0.size,fun k hk=>hg0.block k hk (by simp)⟩
 have HRG:Hid _:=hrg0
 clear hrg0 hg0 hs0 hown
 go_frame
 go_loopw [9] (fun _ wr=> ∃ (left:Lit→Bool) (cnt:Nat),wr.ranges Tryz.prog 195 rV be w.heap.size n D left cnt∧(∀ a kl,keyOf Tryz.prog 195 (egV a)=some kl→Maps.has D kl=true→left kl=false→(X.ge (egT a)).isSome=true)∧Below w.heap.size w wr) (fun _ wr=>wr.rangeLeft be w.heap.size)
 case atStart=>exact⟨_,_,HRG.out,(fun a kl _ h1 h2=>by rw [h1]at h2;cases h2),B0⟩
 case round=>
  clear HRG
  obtain⟨left,cnt,hrg,hdone,bel⟩:=hrel
  have HD:Hid _:=hdone
  have HG:Hid (wr.rangeLeft be w.heap.size=cnt):=hrg.left_eq
  clear hdone
  go_wp2_with (at_next;refine wpList_next_ranges _ rfl (.tmp 8) rfl 195 egKeyed rV egV id (fun key kl hkey=>by obtain⟨x,hx,_⟩:=egSur key kl hkey;exact⟨x,hx⟩) (fun v _ _=>⟨v,rfl⟩) be w.heap.size n D left cnt rfl hrg ?_ ?_)
  ·intro hc0 hl0
   obtain rfl:r=true:=by
    rw [HR.out]
    unfold closedB
    rw [List.all_eq_true]
    intro c hc
    rw [List.all_eq_true]
    intro k hk3
    have hk3:=List.mem_range.1 hk3
    have hs:=small_mem HK.out hc
    have hv:=HK.out.fi c hc
    obtain⟨kl,hkl⟩:=egKey (eg_ok HK.out hm hs hv hk3)
    have h1:=HH.out _ kl hkl
    rw [HS.out.ge1 c hc k hk3]at h1
    have h2:=HD.out _ kl hkl h1 (hl0 kl)
    rw [HS.out.across HK.out hm hs hv hk3]at h2
    simpa using h2
   go_wp2
   go_ret
   exact⟨rfl,bel⟩
  ·intro x c kl yd yp w2 cnt2 hkey hlk hv1 hv2 hat hrg2 hlt hg2 hs2 hen
   have b2:Below w.heap.size wr w2:=below_grown hg2 bel.size (Nat.le_refl _)
   have B2:Below w.heap.size w w2:=bel.trans b2
   have hxo:x.ok:=by
    obtain⟨e,he,ho⟩:=egSur _ _ hkey
    have:=egL.inj _ _ he
    rw [this]
    exact ho
   have HXO:Hid _:=hxo
   have HHX:Hid (Maps.has D kl=true):=has_true_of_atKey hat
   have HKY:Hid _:=hkey
   have HRG2:Hid _:=hrg2
   have HLT:Hid _:=hlt
   obtain⟨xf,xt,xx,xy⟩:=x
   clear hs2 hkey hlk hv1 hv2 hat hrg2 hg2 hxo hrg hlt
   go_wp2_with (go_at_call 137;fail)
   refine(mTurned xf xt xx xy _).mono ?_
   rintro e w3 ⟨rfl,b3⟩
   obtain⟨s,HSS⟩: ∃ s,Hid (s=(X.ge (egT ⟨xf,xt,xx,xy⟩)).isSome):=⟨_,rfl⟩
   have BA:Below w2.heap.size w2 (w2.alloc (.cells #[.int .i64 xf, .int .i64 xt, .int .i64 xx, .int .i64 xy] 195)):=(Below.refl _ _).alloc (Nat.le_refl _) _
   have b3':Below w2.heap.size w2 w3:=BA.trans (b3.mono (by simp))
   have B3:Below w.heap.size w w3:=B2.trans (b3'.mono B2.size)
   go_wp2_with (go_at_call 107;fail)
   refine(mHasE base p X F w3 (HI.out.below B3) HS.out.starts _ _ _ _ (egT_I64 (e:=⟨xf,xt,xx,xy⟩) HXO.out) HSS.out).mono ?_
   rintro e w4 ⟨rfl,b4⟩
   have B4:Below w.heap.size w w4:=B3.trans (b4.mono B3.size)
   have b24:Below w2.heap.size w2 w4:=b3'.trans (b4.mono b3'.size)
   cases s with
   |true=>
    have hrg3:World.ranges w2 Tryz.prog 195 rV be w.heap.size n D (fun z=>left z && !z.sameKey kl) cnt2:=HRG2.out
    have hrg4:World.ranges w4 Tryz.prog 195 rV be w.heap.size n D (fun z=>left z && !z.sameKey kl) cnt2:=hrg3.kept (grown_of b24) (by simp) (by simp)
    have HL4:Hid (w4.rangeLeft be w.heap.size=cnt2):=hrg4.left_eq
    have HRG4:Hid _:=hrg4
    clear hrg3
    clear hrg4 hen
    go_wp2
    go_roundw
    case rel=>
     refine⟨fun z=>left z && !z.sameKey kl,cnt2,HRG4.out,?_,B4⟩
     intro a ka hka h1 h2
     by_cases e:ka=kl
     ·subst e
      have e2:a=⟨xf,xt,xx,xy⟩:=egL.inj _ _ (egKeyed.inj hka HKY.out)
      rw [e2]
      exact HSS.out.symm
     ·refine HD.out a ka hka h1 ?_
      have:ka.sameKey kl=false:=sameKey_ne e
      replace h2:(left ka && !ka.sameKey kl)=false:=h2
      rw [this]at h2
      simpa using h2
    case measure=>
     rw [HL4.out,HG.out]
     exact HLT.out
   |false=>
    obtain rfl:r=false:=by
     rw [HR.out]
     have h1:=HH.out _ kl HKY.out
     rw [HHX.out]at h1
     obtain⟨c,hc,k,hk3,e⟩:=HS.out.ge2 ⟨xf,xt,xx,xy⟩ (fun e=>by rw [e]at h1;cases h1)
     have hs:=small_mem HK.out hc
     have hv:=HK.out.fi c hc
     have h2:=HSS.out
     rw [e,HS.out.across HK.out hm hs hv hk3]at h2
     unfold closedB
     rw [List.all_eq_false]
     refine⟨c,hc,?_⟩
     rw [Bool.not_eq_true,List.all_eq_false]
     refine⟨k,List.mem_range.2 hk3,?_⟩
     intro h3
     rw [Option.isSome_map]at h2
     rw [h3]at h2
     cases h2
    clear hen
    go_wp2
    go_ret
    exact⟨rfl,B4⟩
def usesB(S:Ms):Bool:=S.V.all fun a=> !(around S.C a.no).isEmpty
set_option maxRecDepth 100000 in
set_option maxHeartbeats 1000000 in
theorem mUses(base p:Nat)(X:Mx)(S:Ms)(m:Nat)(F:Nat→Prop)(w:World)(h:MeI base p X F w)(hS:MeOk X S)(hk:MsOk S m)(hm:m≤1000){r:Bool}(hr:r=usesB S):
  Calls Tryz.prog 72 #[ptR p] w fun e w'=>e= .returned (.bool r)∧Below w.heap.size w w':=by
 have hTv:X.av.T≤1000:=by rw [hS.av];have:=hk.vt;omega
 have hLv:X.av.L.length≤1000:=by rw [hS.av];have:=hk.lens;omega
 have hnv:S.V.map Vt.no=allN X.av.L X.av.T:=by rw [hS.av];exact vs_all hk
 have q1:=h.row.cell 1 _ rfl
 have HI:Hid _:=h
 have HS:Hid _:=hS
 have HK:Hid _:=hk
 have HR:Hid _:=hr
 have HNV:Hid _:=hnv
 obtain⟨n,hn⟩: ∃ n,n=S.V.length:=⟨_,rfl⟩
 have hnl:n≤1000:=by have:=hk.lens.1;omega
 have HN:Hid _:=hn
 clear h hS hk hr hnv hn
 go_enter Tryz.func72,Tryz.ntmps72
 go_wp2_with (go_at_call 125;fail)
 refine(arAll HI.out.arv hLv hTv HNV.out).mono ?_
 rintro e w1 ⟨a1,c1,rfl,own1,b1⟩
 rw [List.length_map]at own1 ⊢
 rw [←HN.out]at own1 ⊢
 have HO:Hid _:=own1
 clear own1 q1
 go_wp2
 go_loopw [11] (fun i wr=> ∃ k:Nat,k≤n∧i= .int .i64 (k:Int)∧(∀ j a,j<k→S.V[j]? =some a→around S.C a.no≠ [])∧Below w1.heap.size w1 wr) (fun i _=>n- (iv i).toNat)
 case atStart=>exact⟨0,by omega,rfl,(fun j a hj=>by omega),Below.refl _ _⟩
 case round=>
  obtain⟨k,hk,rfl,hall,bel⟩:=hrel
  have HALL:Hid _:=hall
  have B:Below w.heap.size w wr:=b1.trans (bel.mono b1.size)
  clear hall
  by_cases hlt:k<n
  ·obtain⟨a,hx⟩: ∃ x,S.V[k]? =some x:=⟨S.V[k]'(by rw [←HN.out];exact hlt),List.getElem?_eq_getElem _⟩
   have HX:Hid _:=hx
   have hxm:=List.mem_of_getElem? hx
   obtain⟨bb,hbb,hbl,_,hseg⟩:=Own.at (Own.below HO.out bel) (by omega)
   have ci:=hseg.cell k (.int .i64 a.no) (by rw [ints,List.getElem?_map,List.getElem?_map,hx];rfl)
   rw [Nat.zero_add]at ci
   subst hbb
   have hIr:=HI.out.below B
   obtain⟨l,hlen,hl0⟩:=hIr.lens HS.out HK.out hm hxm
   obtain⟨g,kv,hXa,hg,hak,hkn,hcap,hc⟩:=hIr.vcell HS.out HK.out hxm
   have q3:=hIr.row.cell 3 _ rfl
   rw [hXa]at q3
   have u4:=(hc 4 _ rfl).1
   obtain⟨nv,hnv⟩: ∃ v,v=X.nv:=⟨_,rfl⟩
   obtain⟨ca,hca⟩: ∃ v,v=X.ca:=⟨_,rfl⟩
   obtain⟨mb,hmb⟩: ∃ v,v=X.M a.no:=⟨_,rfl⟩
   rw [←hnv,←hca]at q3
   rw [←hnv]at hkn
   rw [←hmb]at u4 hlen
   have hll:=hlen wr (Below.refl _ _)
   rw [hak]at ci
   have hlt':(k:Int)<(n:Int):=by omega
   have hkv:(kv:Int)<(nv:Int):=by omega
   have HL0:Hid _:=hl0
   clear hx hxm hseg hIr hlen hXa hak hcap hc hnv hca hmb hl0
   cases l with
   |zero=>
    obtain rfl:r=false:=by
     rw [HR.out]
     unfold usesB
     rw [List.all_eq_false]
     exact⟨a,List.mem_of_getElem? HX.out,by rw [HL0.out.1 rfl];simp⟩
    go_wp2
    go_ret
    exact⟨rfl,B⟩
   |succ l=>
    have hne:((((l+1:Nat):Int))==0)=false:=by
     have: ¬(((l+1:Nat):Int))=0:=by omega
     simpa using this
    have HNE:Hid (around S.C a.no≠ []):=fun e=>by have:=HL0.out.2 e;omega
    obtain⟨ll,hll2⟩: ∃ ll:Int,ll=((l+1:Nat):Int):=⟨_,rfl⟩
    rw [←hll2]at hll hne
    clear hll2
    go_wp2
    go_roundw
    case rel=>exact⟨k+1,by omega,by simp,(fun j b hj hb=>if e:j=k then by subst e;rw [HX.out]at hb;cases hb;exact HNE.out else HALL.out j b (by omega) hb),bel⟩
    case measure=>simp [iv];omega
  ·obtain rfl:k=n:=by omega
   obtain rfl:r=true:=by
    rw [HR.out]
    unfold usesB
    rw [List.all_eq_true]
    intro a ha
    obtain⟨j,hj⟩:=List.mem_iff_getElem?.1 ha
    have h1:=HALL.out j a (by have:=(List.getElem?_eq_some_iff.1 hj).1;have:=HN.out;omega) hj
    cases hh:around S.C a.no with
    |nil=>exact absurd hh h1
    |cons x l=>rfl
   go_wp2
   go_ret
   exact⟨rfl,B⟩
set_option maxRecDepth 100000 in
theorem mTellV(base p:Nat)(X:Mx)(S:Ms)(m:Nat)(F:Nat→Prop)(w:World)(h:MeI base p X F w)(hS:MeOk X S)(hk:MsOk S m)(B:Nat)(R:Row w B [ptR p])(a:Vt)(ha:a∈S.V):
  Calls Tryz.prog 61 #[.int .i64 a.no,ptR B] w fun e w'=>e= .returned (.agg (vtC a).toArray)∧Below w.heap.size w w':=by
 obtain⟨g,k,hXa,hg,hak,hkn,hcap,hc⟩:=h.vcell hS hk ha
 obtain⟨W,hW⟩: ∃ W,W=w.alloc (.cells #[.int .i64 0, .int .i64 0, .int .i64 0, .int .i64 0] 67):=⟨_,rfl⟩
 have BW:Below w.heap.size w W:=by rw [hW];exact(Below.refl _ _).alloc (Nat.le_refl _) _
 have R0:Row W w.heap.size [.int .i64 0, .int .i64 0, .int .i64 0, .int .i64 0]:=by rw [hW];exact Row.new w [.int .i64 0, .int .i64 0, .int .i64 0, .int .i64 0] _
 have hW':=hW.symm
 have q3:=(h.below BW).row.cell 3 _ rfl
 rw [hXa]at q3
 have rb:=(R.below BW R.lt).cell 0 _ rfl
 have u0:=(BW.cell (p:=⟨g,k*5,none⟩) hg).trans (hc 0 _ rfl).1
 have u1:=(BW.cell (p:=⟨g,k*5+1,none⟩) hg).trans (hc 1 _ rfl).1
 have u2:=(BW.cell (p:=⟨g,k*5+2,none⟩) hg).trans (hc 2 _ rfl).1
 have u3:=(BW.cell (p:=⟨g,k*5+3,none⟩) hg).trans (hc 3 _ rfl).1
 obtain⟨nv,hnv⟩: ∃ v,v=X.nv:=⟨_,rfl⟩
 obtain⟨ca,hca⟩: ∃ v,v=X.ca:=⟨_,rfl⟩
 rw [←hnv,←hca]at q3
 rw [←hnv]at hkn
 have hlt:(k:Int)<(nv:Int):=by omega
 obtain⟨a0,a1,a2,a3⟩:=a
 replace hak:a0=(k:Int):=hak
 subst hak
 have c0:=R0.cell 0 _ rfl
 have c1:=R0.cell 1 _ rfl
 have c2:=R0.cell 2 _ rfl
 have c3:=R0.cell 3 _ rfl
 have f0:=R0.free 0 (by simp)
 have f1:=R0.free 1 (by simp)
 have f2:=R0.free 2 (by simp)
 have f3:=R0.free 3 (by simp)
 clear hW h hS hk hc hXa hnv hca ha hcap R
 go_enter Tryz.func61,Tryz.ntmps61
 go_wp2
 have R2:=(((R0.set 0 (.int .i64 (k:Int)) (by simp)).set 1 (.int .i64 a1) (by simp)).set 2 (.int .i64 a2) (by simp)).set 3 (.int .i64 a3) (by simp)
 have d0:=R2.cell 0 _ rfl
 have d1:=R2.cell 1 _ rfl
 have d2:=R2.cell 2 _ rfl
 have d3:=R2.cell 3 _ rfl
 refine bodyPost_ret (v:= .agg #[.int .i64 (k:Int), .int .i64 a1, .int .i64 a2, .int .i64 a3]) (by simp [results,Tryz.results61,go_sem, *]) rfl ?_
 exact⟨rfl,(((BW.setCell (Nat.le_refl _) _).setCell (Nat.le_refl _) _).setCell (Nat.le_refl _) _).setCell (Nat.le_refl _) _⟩
set_option maxRecDepth 100000 in
theorem mTellC(base p:Nat)(X:Mx)(S:Ms)(m:Nat)(F:Nat→Prop)(w:World)(h:MeI base p X F w)(hS:MeOk X S)(hk:MsOk S m)(B:Nat)(R:Row w B [ptR p])(c:Ce)(hcm:c∈S.C):
  Calls Tryz.prog 63 #[.int .i64 c.no,ptR B] w fun e w'=>e= .returned (.agg (ceC c).toArray)∧Below w.heap.size w w':=by
 obtain⟨g,k,hXb,hg,hak,hkn,hcap,hc⟩:=h.fcell hS hk hcm
 obtain⟨W,hW⟩: ∃ W,W=w.alloc (.cells #[.int .i64 0, .int .i64 0, .int .i64 0, .int .i64 0, .int .i64 0, .int .i64 0, .int .i64 0, .int .i64 0, .int .i64 0, .int .i64 0] 139):=⟨_,rfl⟩
 have BW:Below w.heap.size w W:=by rw [hW];exact(Below.refl _ _).alloc (Nat.le_refl _) _
 have R0:Row W w.heap.size [.int .i64 0, .int .i64 0, .int .i64 0, .int .i64 0, .int .i64 0, .int .i64 0, .int .i64 0, .int .i64 0, .int .i64 0, .int .i64 0]:=by rw [hW];exact Row.new w [.int .i64 0, .int .i64 0, .int .i64 0, .int .i64 0, .int .i64 0, .int .i64 0, .int .i64 0, .int .i64 0, .int .i64 0, .int .i64 0] _
 have hW':=hW.symm
 have q4:=(h.below BW).row.cell 4 _ rfl
 rw [hXb]at q4
 have rb:=(R.below BW R.lt).cell 0 _ rfl
 obtain⟨no,t⟩:=c
 have u0:=(BW.cell (p:=⟨g,k*9,none⟩) hg).trans (hc 0 _ rfl).1
 have u1:=(BW.cell (p:=⟨g,k*9+1,none⟩) hg).trans (hc 1 _ rfl).1
 have u2:=(BW.cell (p:=⟨g,k*9+2,none⟩) hg).trans (hc 2 _ rfl).1
 have u3:=(BW.cell (p:=⟨g,k*9+3,none⟩) hg).trans (hc 3 _ rfl).1
 have u4:=(BW.cell (p:=⟨g,k*9+4,none⟩) hg).trans (hc 4 _ rfl).1
 have u5:=(BW.cell (p:=⟨g,k*9+5,none⟩) hg).trans (hc 5 _ rfl).1
 have u6:=(BW.cell (p:=⟨g,k*9+6,none⟩) hg).trans (hc 6 _ rfl).1
 have u7:=(BW.cell (p:=⟨g,k*9+7,none⟩) hg).trans (hc 7 _ rfl).1
 have u8:=(BW.cell (p:=⟨g,k*9+8,none⟩) hg).trans (hc 8 _ rfl).1
 obtain⟨nf,hnf⟩: ∃ v,v=X.nf:=⟨_,rfl⟩
 obtain⟨cb,hcb⟩: ∃ v,v=X.cb:=⟨_,rfl⟩
 rw [←hnf,←hcb]at q4
 rw [←hnf]at hkn
 have hlt:(k:Int)<(nf:Int):=by omega
 replace hak:no=(k:Int):=hak
 subst hak
 have c0:=R0.cell 0 _ rfl
 have f0:=R0.free 0 (by simp)
 have c1:=R0.cell 1 _ rfl
 have f1:=R0.free 1 (by simp)
 have c2:=R0.cell 2 _ rfl
 have f2:=R0.free 2 (by simp)
 have c3:=R0.cell 3 _ rfl
 have f3:=R0.free 3 (by simp)
 have c4:=R0.cell 4 _ rfl
 have f4:=R0.free 4 (by simp)
 have c5:=R0.cell 5 _ rfl
 have f5:=R0.free 5 (by simp)
 have c6:=R0.cell 6 _ rfl
 have f6:=R0.free 6 (by simp)
 have c7:=R0.cell 7 _ rfl
 have f7:=R0.free 7 (by simp)
 have c8:=R0.cell 8 _ rfl
 have f8:=R0.free 8 (by simp)
 have c9:=R0.cell 9 _ rfl
 have f9:=R0.free 9 (by simp)
 clear hW h hS hk hc hXb hnf hcb hcm hcap R
 go_enter Tryz.func63,Tryz.ntmps63
 go_wp2
 have R2:=((((((((((R0.set 0 (.int .i64 (k:Int)) (by simp)).set 1 (.int .i64 t.v0) (by simp)).set 2 (.int .i64 t.v1) (by simp)).set 3 (.int .i64 t.v2) (by simp)).set 4 (.int .i64 t.x0) (by simp)).set 5 (.int .i64 t.y0) (by simp)).set 6 (.int .i64 t.x1) (by simp)).set 7 (.int .i64 t.y1) (by simp)).set 8 (.int .i64 t.x2) (by simp)).set 9 (.int .i64 t.y2) (by simp))
 have d0:=R2.cell 0 _ rfl
 have d1:=R2.cell 1 _ rfl
 have d2:=R2.cell 2 _ rfl
 have d3:=R2.cell 3 _ rfl
 have d4:=R2.cell 4 _ rfl
 have d5:=R2.cell 5 _ rfl
 have d6:=R2.cell 6 _ rfl
 have d7:=R2.cell 7 _ rfl
 have d8:=R2.cell 8 _ rfl
 have d9:=R2.cell 9 _ rfl
 refine bodyPost_ret (v:= .agg #[.int .i64 (k:Int), .int .i64 t.v0, .int .i64 t.v1, .int .i64 t.v2, .int .i64 t.x0, .int .i64 t.y0, .int .i64 t.x1, .int .i64 t.y1, .int .i64 t.x2, .int .i64 t.y2]) (by simp [results,Tryz.results63,go_sem, *]) rfl ?_
 exact⟨rfl,((((((((((BW.setCell (Nat.le_refl _) _).setCell (Nat.le_refl _) _).setCell (Nat.le_refl _) _).setCell (Nat.le_refl _) _).setCell (Nat.le_refl _) _).setCell (Nat.le_refl _) _).setCell (Nat.le_refl _) _).setCell (Nat.le_refl _) _).setCell (Nat.le_refl _) _).setCell (Nat.le_refl _) _)⟩
set_option maxRecDepth 100000 in
set_option maxHeartbeats 1000000 in
theorem mDump(base p:Nat)(X:Mx)(S:Ms)(m:Nat)(F:Nat→Prop)(w:World)(h:MeI base p X F w)(hS:MeOk X S)(hk:MsOk S m)(hm:m≤1000):
  Calls Tryz.prog 22 #[ptR p] w (GotDump w S):=by
 have hTv:X.av.T≤1000:=by rw [hS.av];have:=hk.vt;omega
 have hTf:X.af.T≤1000:=by rw [hS.af];have:=hk.ft;omega
 have hLv:X.av.L.length≤1000:=by rw [hS.av];have:=hk.lens;omega
 have hLf:X.af.L.length≤1000:=by rw [hS.af];have:=hk.lens;omega
 have hnv:S.V.map Vt.no=allN X.av.L X.av.T:=by rw [hS.av];exact vs_all hk
 have hnf:S.C.map Ce.no=allN X.af.L X.af.T:=by rw [hS.af];exact fs_all hk
 obtain⟨W,hW⟩: ∃ W,W=(w.alloc (.cells #[ptR p] 33)).alloc (.cells #[.int .i64 0, .slice none 0 0, .slice none 0 0] 58):=⟨_,rfl⟩
 have BW:Below w.heap.size w W:=by rw [hW];exact((Below.refl _ _).alloc (Nat.le_refl _) _).alloc (by simp) _
 have zW:W.heap.size=w.heap.size+2:=by rw [hW];simp
 have R1:Row W w.heap.size [ptR p]:=by rw [hW];exact(Row.new w [ptR p] _).alloc _ (by simp)
 have R0:Row W (w.heap.size+1) [.int .i64 0, .slice none 0 0, .slice none 0 0]:=by rw [hW];have:=Row.new (w.alloc (.cells #[ptR p] 33)) [.int .i64 0, .slice none 0 0, .slice none 0 0] 58;simpa using this
 have hW':=hW.symm
 have hIW:=h.below BW
 have HGV:Hid (∀ w',Below W.heap.size W w'→Calls Tryz.prog 60 #[ptR X.pv, .func (.func 61) #[] #[ptR w.heap.size]] w' fun e w''=> ∃ (a:Option Addr) (c:Nat),e= .returned (.slice a S.V.length c)∧OwnS w'' w'.heap.size 67 4 a S.V.length c (flat vtC S.V)∧Below w'.heap.size w' w''):=by
  unfold Hid
  intro w' hb
  have hz:=hb.size
  refine mGatherV base X.pv X.av X.Fv w' (hIW.below hb).arv hLv hTv _ w.heap.size (enters_of Tryz.func61 (by kernel_rfl) rfl) S.V hnv ?_
  intro x hx w'' hb''
  exact mTellV base p X S m F w'' ((hIW.below hb).below hb'') hS hk w.heap.size ((R1.below hb (by omega)).below hb'' (by omega)) x hx
 have HGC:Hid (∀ w',Below W.heap.size W w'→Calls Tryz.prog 62 #[ptR X.pf, .func (.func 63) #[] #[ptR w.heap.size]] w' fun e w''=> ∃ (a:Option Addr) (c:Nat),e= .returned (.slice a S.C.length c)∧OwnS w'' w'.heap.size 139 10 a S.C.length c (flat ceC S.C)∧Below w'.heap.size w' w''):=by
  unfold Hid
  intro w' hb
  have hz:=hb.size
  refine mGatherC base X.pf X.af X.Ff w' (hIW.below hb).arf hLf hTf _ w.heap.size (enters_of Tryz.func63 (by kernel_rfl) rfl) S.C hnf ?_
  intro x hx w'' hb''
  exact mTellC base p X S m F w'' ((hIW.below hb).below hb'') hS hk w.heap.size ((R1.below hb (by omega)).below hb'' (by omega)) x hx
 have q0:=hIW.row.cell 0 _ rfl
 have q1:=hIW.row.cell 1 _ rfl
 have q2:=hIW.row.cell 2 _ rfl
 have r0:=R1.cell 0 _ rfl
 have lp:p<w.heap.size+1:=by have:=h.row.lt;omega
 have lb:w.heap.size<w.heap.size+1:=by omega
 have HSN:Hid (X.n=S.n):=hS.n
 obtain⟨n,hn⟩: ∃ n,n=X.n:=⟨_,rfl⟩
 obtain⟨pv,hpv⟩: ∃ n,n=X.pv:=⟨_,rfl⟩
 obtain⟨pf,hpf⟩: ∃ n,n=X.pf:=⟨_,rfl⟩
 obtain⟨lv,hlv⟩: ∃ n,n=S.V.length:=⟨_,rfl⟩
 obtain⟨lf,hlf⟩: ∃ n,n=S.C.length:=⟨_,rfl⟩
 rw [←hn]at q0 HSN
 rw [←hpv]at q1 HGV
 rw [←hpf]at q2 HGC
 rw [←hlv]at HGV
 rw [←hlf]at HGC
 have HLV:Hid _:=hlv
 have HLF:Hid _:=hlf
 clear hW h hS hk hIW hn hpv hpf hnv hnf hlv hlf
 go_enter Tryz.func22,Tryz.ntmps22
 go_wp2
 clear hW'
 have HSdu:Hid (∀ w',Below (w.heap.size+1) W w'→(fun w'=>w'.cell? ⟨w.heap.size,0,none⟩=some (ptR p)∧w'.cell? ⟨p,0,none⟩=some (.int .i64 n)∧w'.cell? ⟨p,1,none⟩=some (ptR pv)∧w'.cell? ⟨p,2,none⟩=some (ptR pf)∧Below (w.heap.size+1) W w') w'):=by
  unfold Hid
  intro w' hb
  exact⟨(hb.cell (p:=⟨w.heap.size,0,none⟩) lb).trans r0,(hb.cell (p:=⟨p,0,none⟩) lp).trans q0,(hb.cell (p:=⟨p,1,none⟩) lp).trans q1,(hb.cell (p:=⟨p,2,none⟩) lp).trans q2,hb⟩
 refine wp_region_held_drew (S:=fun w'=>w'.cell? ⟨w.heap.size,0,none⟩=some (ptR p)∧w'.cell? ⟨p,0,none⟩=some (.int .i64 n)∧w'.cell? ⟨p,1,none⟩=some (ptR pv)∧w'.cell? ⟨p,2,none⟩=some (ptR pf)∧Below (w.heap.size+1) W w') (by kernel_rfl) ?_ (fun hHeld=>?_)
 ·exact HSdu.out _ ((Below.refl _ _).drew)
 refine tn 0 ?_;refine tn 1 ?_;refine tn 2 ?_;refine tn 3 ?_;refine tn 4 ?_;refine tn 5 ?_;refine tn 6 ?_;refine tn 7 ?_;refine tn 8 ?_;refine tn 10 ?_;refine tn 11 ?_;refine tn 12 ?_;refine tn 13 ?_;refine tn 14 ?_
 simp only [Act.put,ps1,ps2,ps3]
 refine tcl 9 fun Kc hK=>?_
 go_simp
 (go_at_call 60;refine(HGV.out _ (Below.refl _ _).drew).mono ?_;rintro e w2 ⟨a2,c2,rfl,o2,b2⟩)
 refine hK.out _ _ ?_ (fun hHeld=>?_)
 ·exact HSdu.out _ (hHeld.2.2.2.2.trans (b2.mono (Nat.le_trans (by omega) hHeld.2.2.2.2.size)))
 clear hK Kc
 refine tcl 15 fun Kc hK=>?_
 go_simp
 (go_at_call 62;refine(HGC.out _ ((Below.refl _ _).drew.trans (b2.mono (Nat.le_refl _)))).mono ?_;rintro e w3 ⟨a3,c3,rfl,o3,b3⟩)
 refine hK.out _ _ ?_ (fun hHeld=>?_)
 ·exact HSdu.out _ (hHeld.2.2.2.2.trans (b3.mono (Nat.le_trans (by omega) hHeld.2.2.2.2.size)))
 clear hK Kc
 refine tz (i:=16) rfl ?_
 simp only [Act.put,ps1,ps2,ps3]
 have z2:=b2.size
 have z3:=b3.size
 replace R0:=((show Row W.drew (w.heap.size+1) [.int .i64 0, .slice none 0 0, .slice none 0 0]from R0).below b2 (by simp;omega)).below b3 (by simp at z2;omega)
 have f0:=R0.free 0 (by simp)
 have f1:=R0.free 1 (by simp)
 have f2:=R0.free 2 (by simp)
 have g0:=R0.cell 0 _ rfl
 have g1:=R0.cell 1 _ rfl
 have g2:=R0.cell 2 _ rfl
 refine tcl 17 fun Kc hK=>?_
 go_simp
 refine hK.out _ _ ?_ (fun hHeld=>?_)
 ·exact HSdu.out _ ((((hHeld.2.2.2.2.setCell (by simp;try omega) _).setCell (by simp;try omega) _).setCell (by simp;try omega) _))
 clear hK Kc
 refine wpAnyH_done (by kernel_rfl) ?_ _
 have BF:=hHeld.2.2.2.2
 have R2:=((R0.set 0 (.int .i64 n) (by simp)).set 1 (.slice a2 lv c2) (by simp)).set 2 (.slice a3 lf c3) (by simp)
 have d0:=R2.cell 0 _ rfl
 have d1:=R2.cell 1 _ rfl
 have d2:=R2.cell 2 _ rfl
 go_wp2
 refine bodyPost_ret (v:= .agg #[.int .i64 n, .slice a2 lv c2, .slice a3 lf c3]) (by simp [results,Tryz.results22,go_sem, *]) rfl ?_
 have zz2:W.heap.size≤w2.heap.size:=b2.size
 have o2':=OwnS.below o2 b3
 have p2:=((o2'.put (k:=w.heap.size+1) (i:=0) (fun s=>by have:=(OwnS.lt o2 s).2;simp at this;omega) (.int .i64 n)).put (k:=w.heap.size+1) (i:=1) (fun s=>by have:=(OwnS.lt o2 s).2;simp at this;omega) (.slice a2 lv c2)).put (k:=w.heap.size+1) (i:=2) (fun s=>by have:=(OwnS.lt o2 s).2;simp at this;omega) (.slice a3 lf c3)
 have p3:=((OwnS.put o3 (k:=w.heap.size+1) (i:=0) (fun s=>by have:=(OwnS.lt o3 s).2;omega) (.int .i64 n)).put (k:=w.heap.size+1) (i:=1) (fun s=>by have:=(OwnS.lt o3 s).2;omega) (.slice a2 lv c2)).put (k:=w.heap.size+1) (i:=2) (fun s=>by have:=(OwnS.lt o3 s).2;omega) (.slice a3 lf c3)
 have BB:=BW.trans (BF.mono (Nat.le_succ _))
 rw [HLV.out]at p2 p3 BB ⊢
 rw [HLF.out]at p2 p3 BB ⊢
 rw [HSN.out]at p2 p3 BB ⊢
 exact⟨a2,c2,a3,c3,rfl,⟨0,p2.mono (Nat.zero_le _),p3.mono (Nat.zero_le _)⟩,BB⟩
def sumK(S:Ms)(k:Nat):Int:=((S.C.take k).map fun c=>areaT S c.t).sum
theorem sumK_next{S:Ms}{k:Nat}{c:Ce}(h:S.C[k]? =some c):sumK S (k+1)=sumK S k+areaT S c.t:=by
 unfold sumK
 rw [List.take_add_one,h]
 simp
theorem area_bound(S:Ms){t:Tr}(h0:plOk S t 0=true)(h1:plOk S t 1=true)(h2:plOk S t 2=true): -10000000000000000000000000≤areaT S t∧areaT S t≤10000000000000000000000000:=by
 rw [←pl_area h0 h1 h2]
 exact ar_wide _ _ _ _ _ _
theorem sumK_bound{S:Ms}{m:Nat}(hk:MsOk S m)(k:Nat): -(10000000000000000000000000*(k:Int))≤sumK S k∧sumK S k≤10000000000000000000000000*(k:Int):=by
 induction k with
 |zero=>simp [sumK]
 |succ k ih=>
  cases h:S.C[k]? with
  |none=>
   have e:sumK S (k+1)=sumK S k:=by unfold sumK;rw [List.take_add_one,h];simp
   rw [e]
   omega
  |some c=>
   have hc:=List.mem_of_getElem? h
   have:=area_bound S (hk.fo c hc 0 (by omega)) (hk.fo c hc 1 (by omega)) (hk.fo c hc 2 (by omega))
   rw [sumK_next h]
   omega
theorem MeI.fcell9{base p:Nat}{X:Mx}{F:Nat→Prop}{w:World}{S:Ms}{m:Nat}(h:MeI base p X F w)(hS:MeOk X S)(hk:MsOk S m){c:Ce}(hc:c∈S.C): ∃ (g k nf cb:Nat),w.cell? ⟨p,4,none⟩=some (.slice (some ⟨g,0,none⟩) nf cb)∧g<w.heap.size∧c.no=(k:Int)∧k<nf∧ ∀ j u,(trC c.t)[j]? =some u→w.cell? ⟨g,k*9+j,none⟩=some u:=by
 obtain⟨g,k,hXb,hg,hak,hkn,hcap,hcc⟩:=h.fcell hS hk hc
 have q4:=h.row.cell 4 _ rfl
 rw [hXb]at q4
 exact⟨g,k,X.nf,X.cb,q4,hg,hak,hkn,fun j u hu=>(hcc j u hu).1⟩
set_option maxRecDepth 100000 in
set_option maxHeartbeats 2000000 in
theorem mArea(base p:Nat)(X:Mx)(S:Ms)(m:Nat)(F:Nat→Prop)(w:World)(h:MeI base p X F w)(hS:MeOk X S)(hk:MsOk S m)(hm:m≤1000){u v:Int}(hu:u=lw.hi (sumK S S.C.length))(hv:v=lw.lo (sumK S S.C.length)):
  Calls Tryz.prog 74 #[ptR p] w fun e w'=>e= .returned (.agg #[.int .i64 u, .int .u64 v])∧Below w.heap.size w w':=by
 have hTf:X.af.T≤1000:=by rw [hS.af];have:=hk.ft;omega
 have hLf:X.af.L.length≤1000:=by rw [hS.af];have:=hk.lens;omega
 have hnf:S.C.map Ce.no=allN X.af.L X.af.T:=by rw [hS.af];exact fs_all hk
 obtain⟨W,hW⟩: ∃ W,W=(w.alloc (.cells #[.int .i64 0, .int .u64 0] 149)).alloc (.cells #[.int .i64 0, .int .u64 0] 149):=⟨_,rfl⟩
 have BW:Below w.heap.size w W:=by rw [hW];exact((Below.refl _ _).alloc (Nat.le_refl _) _).alloc (by simp) _
 have HZW:Hid (W.heap.size=w.heap.size+2):=by unfold Hid;rw [hW];simp
 have R0:Row W w.heap.size [.int .i64 0, .int .u64 0]:=by rw [hW];exact(Row.new w [.int .i64 0, .int .u64 0] _).alloc _ (by simp)
 have R1:Row W (w.heap.size+1) [.int .i64 0, .int .u64 0]:=by rw [hW];have:=Row.new (w.alloc (.cells #[.int .i64 0, .int .u64 0] 149)) [.int .i64 0, .int .u64 0] 149;simpa using this
 have hW':=hW.symm
 have q2:=(h.below BW).row.cell 2 _ rfl
 have HI:Hid _:=h
 have HS:Hid _:=hS
 have HK:Hid _:=hk
 have HNF:Hid _:=hnf
 have HU:Hid _:=hu
 have HV:Hid _:=hv
 obtain⟨n,hn⟩: ∃ n,n=S.C.length:=⟨_,rfl⟩
 have hnl:n≤1000:=by have:=hk.lens.2.1;omega
 have HN:Hid _:=hn
 clear hW h hS hk hnf hn hu hv
 go_enter Tryz.func74,Tryz.ntmps74
 go_wp2_with (go_at_call 125;fail)
 refine(arAll (HI.out.below BW).arf hLf hTf HNF.out).mono ?_
 rintro e w1 ⟨a1,c1,rfl,own1,b1⟩
 rw [List.length_map]at own1 ⊢
 rw [←HN.out]at own1 ⊢
 have z1:=b1.size
 have B1:Below w.heap.size w w1:=BW.trans (b1.mono BW.size)
 have HO:Hid _:=own1
 have R0':=R0.below b1 (by have:=HZW.out;omega)
 have R1':=R1.below b1 (by have:=HZW.out;omega)
 have HR0:Hid _:=R0'
 have HR1:Hid _:=R1'
 clear own1 q2 hW' R0 R1 R0' R1'
 go_wp2
 go_loopw [14] (fun i wr=> ∃ k:Nat,k≤n∧i= .int .i64 (k:Int)∧Row wr w.heap.size [.int .i64 0, .int .u64 0]∧Row wr (w.heap.size+1) [.int .i64 (lw.hi (sumK S k)), .int .u64 (lw.lo (sumK S k))]∧Own wr W.heap.size 3 a1 n c1 (ints (S.C.map Ce.no))∧Below w.heap.size w wr) (fun i _=>n- (iv i).toNat)
 case atStart=>exact⟨0,by omega,rfl,HR0.out,HR1.out,HO.out,B1⟩
 case round=>
  clear HR0 HR1 HO
  obtain⟨k,hk,rfl,R0,R1,own,bel⟩:=hrel
  have hbs:=bel.size
  have HOW:Hid _:=own
  have l0:=R0.lt
  have l1:=R1.lt
  by_cases hlt:k<n
  ·obtain⟨c,hx⟩: ∃ x,S.C[k]? =some x:=⟨S.C[k]'(by rw [←HN.out];exact hlt),List.getElem?_eq_getElem _⟩
   have HX:Hid _:=hx
   have hxm:=List.mem_of_getElem? hx
   have HXM:Hid _:=hxm
   obtain⟨bb,hbb,hbl,hbw,hseg⟩:=Own.at own (by omega)
   have ci:=hseg.cell k (.int .i64 c.no) (by rw [ints,List.getElem?_map,List.getElem?_map,hx];rfl)
   rw [Nat.zero_add]at ci
   subst hbb
   have hIr:=HI.out.below bel
   have HIR:Hid _:=hIr
   obtain⟨g,kf,nf,cb,q4,hg,hak,hkn,hcc⟩:=hIr.fcell9 HS.out HK.out hxm
   rw [hak]at ci
   have u0:wr.cell? ⟨g,kf*9,none⟩=some (.int .i64 c.t.v0):=hcc 0 _ rfl
   have u1:wr.cell? ⟨g,kf*9+1,none⟩=some (.int .i64 c.t.v1):=hcc 1 _ rfl
   have u2:wr.cell? ⟨g,kf*9+2,none⟩=some (.int .i64 c.t.v2):=hcc 2 _ rfl
   have u3:wr.cell? ⟨g,kf*9+3,none⟩=some (.int .i64 c.t.x0):=hcc 3 _ rfl
   have u4:wr.cell? ⟨g,kf*9+4,none⟩=some (.int .i64 c.t.y0):=hcc 4 _ rfl
   have u5:wr.cell? ⟨g,kf*9+5,none⟩=some (.int .i64 c.t.x1):=hcc 5 _ rfl
   have u6:wr.cell? ⟨g,kf*9+6,none⟩=some (.int .i64 c.t.y1):=hcc 6 _ rfl
   have u7:wr.cell? ⟨g,kf*9+7,none⟩=some (.int .i64 c.t.x2):=hcc 7 _ rfl
   have u8:wr.cell? ⟨g,kf*9+8,none⟩=some (.int .i64 c.t.y2):=hcc 8 _ rfl
   have hlt':(k:Int)<(n:Int):=by omega
   have hkv:(kf:Int)<(nf:Int):=by omega
   obtain⟨sh,HSH⟩: ∃ s,Hid (s=lw.hi (sumK S k)):=⟨_,rfl⟩
   obtain⟨sl,HSL⟩: ∃ s,Hid (s=lw.lo (sumK S k)):=⟨_,rfl⟩
   rw [←HSH.out,←HSL.out]at R1
   have HNE:Hid (bb≠w.heap.size+1):=by unfold Hid;have:=HZW.out;omega
   clear hx hxm hseg hIr hak hcc own
   go_wp2_with (go_at_call 140;fail)
   refine(mPlaces base p X S m F wr HIR.out HS.out HK.out c.t (HK.out.fi c HXM.out)).mono ?_
   clear u0 u1 u2 u3 u4 u5 u6 u7 u8 ci q4
   rintro e w2 ⟨X0,Y0,X1,Y1,X2,Y2,r,rfl,hr,hc,b2⟩
   have o0:=HK.out.fo c HXM.out 0 (by omega)
   have o1:=HK.out.fo c HXM.out 1 (by omega)
   have o2:=HK.out.fo c HXM.out 2 (by omega)
   obtain rfl:r=true:=by rw [hr,o0,o1,o2];rfl
   have HA:Hid (arP X0 Y0 X1 Y1 X2 Y2=areaT S c.t):=by
    unfold Hid
    obtain⟨e0,e1,e2,e3,e4,e5⟩:=hc rfl
    rw [e0,e1,e2,e3,e4,e5]
    exact pl_area o0 o1 o2
   obtain⟨V,hV⟩: ∃ V,V=w2.alloc (.cells #[.int .i64 X0, .int .i64 Y0, .int .i64 X1, .int .i64 Y1, .int .i64 X2, .int .i64 Y2] 202):=⟨_,rfl⟩
   have z2:=b2.size
   have bV:Below wr.heap.size wr V:=by rw [hV];exact b2.alloc b2.size _
   have RP:Row V w2.heap.size (six X0 Y0 X1 Y1 X2 Y2):=by rw [hV];exact Row.new w2 (six X0 Y0 X1 Y1 X2 Y2) _
   have zV:w2.heap.size<V.heap.size:=by rw [hV];simp
   have hV':=hV.symm
   have R1V:=R1.below bV l1
   have R0V:=R0.below bV l0
   have l1V:w.heap.size+1<V.heap.size:=R1V.lt
   have s0:=R1V.cell 0 _ rfl
   have s1:=R1V.cell 1 _ rfl
   have p0:=RP.cell 0 _ rfl
   have p1:=RP.cell 1 _ rfl
   have p2:=RP.cell 2 _ rfl
   have p3:=RP.cell 3 _ rfl
   have p4:=RP.cell 4 _ rfl
   have p5:=RP.cell 5 _ rfl
   obtain⟨ah,HAH⟩: ∃ s,Hid (s=lw.hi (arP X0 Y0 X1 Y1 X2 Y2)):=⟨_,rfl⟩
   obtain⟨al,HAL⟩: ∃ s,Hid (s=lw.lo (arP X0 Y0 X1 Y1 X2 Y2)):=⟨_,rfl⟩
   have HAH2:Hid (ah=lw.hi (areaT S c.t)):=by unfold Hid;rw [HAH.out,HA.out]
   have HAL2:Hid (al=lw.lo (areaT S c.t)):=by unfold Hid;rw [HAL.out,HA.out]
   obtain⟨th,HTH⟩: ∃ s,Hid (s=lw.hi (sumK S k+areaT S c.t)):=⟨_,rfl⟩
   obtain⟨tl,HTL⟩: ∃ s,Hid (s=lw.lo (sumK S k+areaT S c.t)):=⟨_,rfl⟩
   have HAD:Hid (∀ w',Calls Tryz.prog 141 #[.agg #[.int .i64 sh, .int .u64 sl], .agg #[.int .i64 ah, .int .u64 al]] w' fun e w''=>e= .returned (.agg #[.int .i64 th, .int .u64 tl])∧Below w'.heap.size w' w''):=by
    unfold Hid
    intro w'
    rw [HTH.out,HTL.out]
    exact lw.add_any (sumK S k) (areaT S c.t) HSH.out HSL.out HAH2.out HAL2.out w'
   clear hV hr hc o0 o1 o2
   go_wp2
   clear hV'
   have HSar:Hid (∀ w',Below (V.heap.size) V w'→(fun w'=>w'.cell? ⟨w.heap.size+1,0,none⟩=some (.int .i64 sh)∧w'.cell? ⟨w.heap.size+1,1,none⟩=some (.int .u64 sl)∧w'.cell? ⟨w2.heap.size,0,none⟩=some (.int .i64 X0)∧w'.cell? ⟨w2.heap.size,1,none⟩=some (.int .i64 Y0)∧w'.cell? ⟨w2.heap.size,2,none⟩=some (.int .i64 X1)∧w'.cell? ⟨w2.heap.size,3,none⟩=some (.int .i64 Y1)∧w'.cell? ⟨w2.heap.size,4,none⟩=some (.int .i64 X2)∧w'.cell? ⟨w2.heap.size,5,none⟩=some (.int .i64 Y2)∧Below (V.heap.size) V w') w'):=by
    unfold Hid
    intro w' hb
    exact⟨(hb.cell (p:=⟨w.heap.size+1,0,none⟩) l1V).trans s0,(hb.cell (p:=⟨w.heap.size+1,1,none⟩) l1V).trans s1,(hb.cell (p:=⟨w2.heap.size,0,none⟩) zV).trans p0,(hb.cell (p:=⟨w2.heap.size,1,none⟩) zV).trans p1,(hb.cell (p:=⟨w2.heap.size,2,none⟩) zV).trans p2,(hb.cell (p:=⟨w2.heap.size,3,none⟩) zV).trans p3,(hb.cell (p:=⟨w2.heap.size,4,none⟩) zV).trans p4,(hb.cell (p:=⟨w2.heap.size,5,none⟩) zV).trans p5,hb⟩
   refine regionL 9 (S:=fun w'=>w'.cell? ⟨w.heap.size+1,0,none⟩=some (.int .i64 sh)∧w'.cell? ⟨w.heap.size+1,1,none⟩=some (.int .u64 sl)∧w'.cell? ⟨w2.heap.size,0,none⟩=some (.int .i64 X0)∧w'.cell? ⟨w2.heap.size,1,none⟩=some (.int .i64 Y0)∧w'.cell? ⟨w2.heap.size,2,none⟩=some (.int .i64 X1)∧w'.cell? ⟨w2.heap.size,3,none⟩=some (.int .i64 Y1)∧w'.cell? ⟨w2.heap.size,4,none⟩=some (.int .i64 X2)∧w'.cell? ⟨w2.heap.size,5,none⟩=some (.int .i64 Y2)∧Below (V.heap.size) V w') (by kernel_rfl) ?_ (fun hHeld=>?_)
   ·exact HSar.out _ ((Below.refl _ _).drew)
   refine tyL (i:=0) (v:=?var0) rfl ?hyar0 ?_
   case hyar0=>(intro w hSw;(try dsimp only at hSw);go_simp<;>with_reducible rfl)
   simp only [Act.put,ps1,ps2,ps3]
   refine tyL (i:=1) (v:=?var1) rfl ?hyar1 ?_
   case hyar1=>(intro w hSw;(try dsimp only at hSw);go_simp<;>with_reducible rfl)
   simp only [Act.put,ps1,ps2,ps3]
   refine tyL (i:=2) (v:=?var2) rfl ?hyar2 ?_
   case hyar2=>(intro w hSw;(try dsimp only at hSw);go_simp<;>with_reducible rfl)
   simp only [Act.put,ps1,ps2,ps3]
   refine tyL (i:=3) (v:=?var3) rfl ?hyar3 ?_
   case hyar3=>(intro w hSw;(try dsimp only at hSw);go_simp<;>with_reducible rfl)
   simp only [Act.put,ps1,ps2,ps3]
   refine tyL (i:=4) (v:=?var4) rfl ?hyar4 ?_
   case hyar4=>(intro w hSw;(try dsimp only at hSw);go_simp<;>with_reducible rfl)
   simp only [Act.put,ps1,ps2,ps3]
   refine tyL (i:=5) (v:=?var5) rfl ?hyar5 ?_
   case hyar5=>(intro w hSw;(try dsimp only at hSw);go_simp<;>with_reducible rfl)
   simp only [Act.put,ps1,ps2,ps3]
   refine tyL (i:=6) (v:=?var6) rfl ?hyar6 ?_
   case hyar6=>(intro w hSw;(try dsimp only at hSw);go_simp<;>with_reducible rfl)
   simp only [Act.put,ps1,ps2,ps3]
   refine takeL_call (i:=7) rfl (by kernel_rfl) (fun Kc hK=>?_)
   go_simp
   (go_at_call 142;refine(pArea X0 Y0 X1 Y1 X2 Y2 _ HAH.out HAL.out).mono ?_;rintro e w4 ⟨rfl,b4⟩)
   refine hK.out _ _ ?_ (fun hHeld=>?_)
   ·exact HSar.out _ (hHeld.2.2.2.2.2.2.2.2.trans (b4.mono hHeld.2.2.2.2.2.2.2.2.size))
   clear hK Kc
   refine takeL_call (i:=8) rfl (by kernel_rfl) (fun Kc hK=>?_)
   go_simp
   (go_at_call 141;refine(HAD.out _).mono ?_;rintro e w5 ⟨rfl,b5⟩)
   refine hK.out _ _ ?_ (fun hHeld=>?_)
   ·exact HSar.out _ (hHeld.2.2.2.2.2.2.2.2.trans (b5.mono hHeld.2.2.2.2.2.2.2.2.size))
   clear hK Kc
   have HB:Hid _:=hHeld.2.2.2.2.2.2.2.2
   have R1L:=R1V.below hHeld.2.2.2.2.2.2.2.2 l1V
   have f0:=R1L.free 0 (by simp)
   have f1:=R1L.free 1 (by simp)
   have g0:=R1L.cell 0 _ rfl
   have g1:=R1L.cell 1 _ rfl
   refine takeL_last rfl (by kernel_rfl) (fun Kc hK=>?_)
   go_simp
   refine hK.out _ _ ?_
   clear hK Kc
   refine anyL_done (by kernel_rfl) ?_ _
   have BL:=HB.out
   have bF:Below wr.heap.size wr w5:=bV.trans (BL.mono bV.size)
   have R1F:=(R1L.set 0 (.int .i64 th) (by simp)).set 1 (.int .u64 tl) (by simp)
   have kS:Keep (fun q=>q=w.heap.size+1) w5 ((w5.setCell ⟨w.heap.size+1,0,none⟩ (.int .i64 th)).setCell ⟨w.heap.size+1,1,none⟩ (.int .u64 tl)):=((Keep.refl (fun q=>q=w.heap.size+1) w5).set (Or.inl rfl) _).set (Or.inl rfl) _
   have zF:=bF.size
   have R0F:=(R0.below bF l0).keep kS (by omega) (by omega)
   have OF:=Own.keep (Own.below HOW.out bF) kS (fun q s e=>by obtain⟨o,s⟩:=s;cases s;exact HNE.out e)
   have BFF:Below w.heap.size w ((w5.setCell ⟨w.heap.size+1,0,none⟩ (.int .i64 th)).setCell ⟨w.heap.size+1,1,none⟩ (.int .u64 tl)):=(bel.trans (bF.mono bel.size)).trans (kS.below (by omega) (fun q e=>by omega))
   have HR0:Hid _:=R0F
   have HR1:Hid (Row ((w5.setCell ⟨w.heap.size+1,0,none⟩ (.int .i64 th)).setCell ⟨w.heap.size+1,1,none⟩ (.int .u64 tl)) (w.heap.size+1) [.int .i64 (lw.hi (sumK S (k+1))), .int .u64 (lw.lo (sumK S (k+1)))]):=by
    unfold Hid
    rw [sumK_next HX.out,←HTH.out,←HTL.out]
    exact R1F
   have HO:Hid _:=OF
   clear R0F R1F OF s0 s1 p0 p1 p2 p3 p4 p5 g0 g1 f0 f1
   go_wp2
   go_roundw
   case rel=>exact⟨k+1,by omega,by simp,HR0.out,HR1.out,HO.out,BFF⟩
   case measure=>simp [iv];omega
  ·obtain rfl:k=n:=by omega
   rw [HN.out,←HU.out,←HV.out]at R1
   have s0:=R1.cell 0 _ rfl
   have s1:=R1.cell 1 _ rfl
   have f0:=R0.free 0 (by simp)
   have f1:=R0.free 1 (by simp)
   have g0:=R0.cell 0 _ rfl
   have g1:=R0.cell 1 _ rfl
   go_wp2
   have R2:=(R0.set 0 (.int .i64 u) (by simp)).set 1 (.int .u64 v) (by simp)
   have d0:=R2.cell 0 _ rfl
   have d1:=R2.cell 1 _ rfl
   refine bodyPost_ret (v:= .agg #[.int .i64 u, .int .u64 v]) (by simp [results,Tryz.results74,go_sem, *]) rfl ?_
   exact⟨rfl,(bel.setCell (Nat.le_refl _) _).setCell (Nat.le_refl _) _⟩
theorem crossed_at{S:Ms}{m:Nat}(hk:MsOk S m){c:Ce}(hc:c∈S.C)(i:Int):(crossed S c.no i).isSome=(acr c.t (nx (corner i)) S.C).isSome:=by
 unfold crossed
 rw [m_faceOf_at hk hc]
 show(match acr c.t (nx (corner i)) S.C with|none=>none|some r=>some (c.t,r):Option (Tr×Ce×Nat)).isSome=_
 cases acr c.t (nx (corner i)) S.C<;>rfl
theorem closed_eq{S:Ms}{m:Nat}(hk:MsOk S m):(S.C.all fun c=>(List.range 3).all fun k=>(crossed S c.no (k:Int)).isSome)=closedB S:=by
 unfold closedB
 rw [Bool.eq_iff_iff,List.all_eq_true,List.all_eq_true]
 refine forall_congr' fun c=>forall_congr' fun hc=>?_
 rw [List.all_eq_true,List.all_eq_true]
 have e: ∀ k:Nat,k<3→corner (k:Int)=k:=fun k hk=>by unfold corner;omega
 constructor
 ·intro h k hk3
  have hk3:=List.mem_range.1 hk3
  have h1:=h ((k+2) % 3) (List.mem_range.2 (by omega))
  rw [crossed_at hk hc,e _ (by omega)]at h1
  rw [show nx ((k+2) % 3)=k by unfold nx;omega]at h1
  exact h1
 ·intro h k hk3
  have hk3:=List.mem_range.1 hk3
  rw [crossed_at hk hc,e _ hk3]
  exact h (nx k) (List.mem_range.2 (nx_lt k))
theorem whole_eq{S:Ms}{m:Nat}(hk:MsOk S m):whole S=(closedB S && (usesB S && decide (sumK S S.C.length=2*(S.n*S.n)))):=by
 unfold whole
 rw [closed_eq hk]
 unfold usesB sumK
 rw [List.take_length]
set_option maxRecDepth 100000 in
set_option maxHeartbeats 1000000 in
theorem mCheck(base p:Nat)(X:Mx)(S:Ms)(m:Nat)(F:Nat→Prop)(w:World)(h:MeI base p X F w)(hS:MeOk X S)(hk:MsOk S m)(hm:m≤1000){r:Int}(hr:r=if whole S=true then 0 else 6):
  Calls Tryz.prog 27 #[ptR p] w fun e w'=>e= .returned (.int .i64 r)∧Below w.heap.size w w':=by
 rw [whole_eq hk]at hr
 have q0:=h.row.cell 0 _ rfl
 have lp:=h.row.lt
 have hn1:=hk.n1
 rw [←hS.n]at hn1 hr
 have HI:Hid _:=h
 have HS:Hid _:=hS
 have HK:Hid _:=hk
 have HR:Hid _:=hr
 obtain⟨n,hn⟩: ∃ n,n=X.n:=⟨_,rfl⟩
 rw [←hn]at q0 hn1 HR
 obtain⟨n1,n2⟩:=hn1
 obtain⟨cl,HCL⟩: ∃ b,Hid (b=closedB S):=⟨_,rfl⟩
 obtain⟨us,HUS⟩: ∃ b,Hid (b=usesB S):=⟨_,rfl⟩
 clear h hS hk hr hn
 cases cl with
 |false=>
  obtain rfl:r=6:=by rw [HR.out,←HCL.out];rfl
  go_enter Tryz.func27,Tryz.ntmps27
  go_wp2
  have HSk0:Hid (∀ w',Below (w.heap.size) w w'→(fun w'=>w'.cell? ⟨p,0,none⟩=some (.int .i64 n)∧Below (w.heap.size) w w') w'):=by
   unfold Hid
   intro w' hb
   exact⟨(hb.cell (p:=⟨p,0,none⟩) lp).trans q0,hb⟩
  refine wp_region_held_drew (S:=fun w'=>w'.cell? ⟨p,0,none⟩=some (.int .i64 n)∧Below (w.heap.size) w w') (by kernel_rfl) ?_ (fun hHeld=>?_)
  ·exact HSk0.out _ ((Below.refl _ _).drew)
  refine tz (i:=0) rfl ?_
  simp only [Act.put,ps1,ps2,ps3]
  refine tcl 1 fun Kc hK=>?_
  go_simp
  (go_at_call 71;refine(mClosed base p X S m F _ (HI.out.below (Below.refl _ _).drew) HS.out HK.out hm HCL.out).mono ?_;rintro e w1 ⟨rfl,b1⟩)
  refine hK.out _ _ ?_ (fun hHeld=>?_)
  ·exact HSk0.out _ (hHeld.2.trans (b1.mono hHeld.2.size))
  clear hK Kc
  refine tz (i:=2) rfl ?_
  simp only [Act.put,ps1,ps2,ps3]
  refine tz (i:=3) rfl ?_
  simp only [Act.put,ps1,ps2,ps3]
  refine tno 4 ?_
  simp only [Act.put,ps1,ps2,ps3]
  refine tno 5 ?_
  simp only [Act.put,ps1,ps2,ps3]
  refine tno 6 ?_
  simp only [Act.put,ps1,ps2,ps3]
  refine tz (i:=7) rfl ?_
  simp only [Act.put,ps1,ps2,ps3]
  refine tz (i:=8) rfl ?_
  simp only [Act.put,ps1,ps2,ps3]
  refine tno 9 ?_
  simp only [Act.put,ps1,ps2,ps3]
  refine tno 10 ?_
  simp only [Act.put,ps1,ps2,ps3]
  refine tno 11 ?_
  simp only [Act.put,ps1,ps2,ps3]
  refine tno 12 ?_
  simp only [Act.put,ps1,ps2,ps3]
  refine tno 13 ?_
  simp only [Act.put,ps1,ps2,ps3]
  refine tno 14 ?_
  simp only [Act.put,ps1,ps2,ps3]
  refine tno 15 ?_
  simp only [Act.put,ps1,ps2,ps3]
  refine tno 16 ?_
  simp only [Act.put,ps1,ps2,ps3]
  refine tno 17 ?_
  simp only [Act.put,ps1,ps2,ps3]
  refine tno 18 ?_
  simp only [Act.put,ps1,ps2,ps3]
  refine tno 19 ?_
  simp only [Act.put,ps1,ps2,ps3]
  refine tno 20 ?_
  simp only [Act.put,ps1,ps2,ps3]
  refine tno 21 ?_
  simp only [Act.put,ps1,ps2,ps3]
  refine tno 22 ?_
  simp only [Act.put,ps1,ps2,ps3]
  refine tz (i:=23) rfl ?_
  simp only [Act.put,ps1,ps2,ps3]
  refine wpAnyH_done (by kernel_rfl) ?_ _
  have BF:=hHeld.2
  go_wp2
  go_ret
  exact⟨rfl,BF⟩
 |true=>
  cases us with
  |false=>
   obtain rfl:r=6:=by rw [HR.out,←HCL.out,←HUS.out];rfl
   go_enter Tryz.func27,Tryz.ntmps27
   go_wp2
   have HSk1:Hid (∀ w',Below (w.heap.size) w w'→(fun w'=>w'.cell? ⟨p,0,none⟩=some (.int .i64 n)∧Below (w.heap.size) w w') w'):=by
    unfold Hid
    intro w' hb
    exact⟨(hb.cell (p:=⟨p,0,none⟩) lp).trans q0,hb⟩
   refine wp_region_held_drew (S:=fun w'=>w'.cell? ⟨p,0,none⟩=some (.int .i64 n)∧Below (w.heap.size) w w') (by kernel_rfl) ?_ (fun hHeld=>?_)
   ·exact HSk1.out _ ((Below.refl _ _).drew)
   refine tz (i:=0) rfl ?_
   simp only [Act.put,ps1,ps2,ps3]
   refine tcl 1 fun Kc hK=>?_
   go_simp
   (go_at_call 71;refine(mClosed base p X S m F _ (HI.out.below (Below.refl _ _).drew) HS.out HK.out hm HCL.out).mono ?_;rintro e w1 ⟨rfl,b1⟩)
   refine hK.out _ _ ?_ (fun hHeld=>?_)
   ·exact HSk1.out _ (hHeld.2.trans (b1.mono hHeld.2.size))
   clear hK Kc
   refine tz (i:=2) rfl ?_
   simp only [Act.put,ps1,ps2,ps3]
   refine tz (i:=3) rfl ?_
   simp only [Act.put,ps1,ps2,ps3]
   refine tz (i:=4) rfl ?_
   simp only [Act.put,ps1,ps2,ps3]
   refine tcl 5 fun Kc hK=>?_
   go_simp
   (go_at_call 72;refine(mUses base p X S m F _ (HI.out.below hHeld.2) HS.out HK.out hm HUS.out).mono ?_;rintro e w2 ⟨rfl,b2⟩)
   refine hK.out _ _ ?_ (fun hHeld=>?_)
   ·exact HSk1.out _ (hHeld.2.trans (b2.mono hHeld.2.size))
   clear hK Kc
   refine tz (i:=6) rfl ?_
   simp only [Act.put,ps1,ps2,ps3]
   refine tz (i:=7) rfl ?_
   simp only [Act.put,ps1,ps2,ps3]
   refine tz (i:=8) rfl ?_
   simp only [Act.put,ps1,ps2,ps3]
   refine tno 9 ?_
   simp only [Act.put,ps1,ps2,ps3]
   refine tno 10 ?_
   simp only [Act.put,ps1,ps2,ps3]
   refine tno 11 ?_
   simp only [Act.put,ps1,ps2,ps3]
   refine tno 12 ?_
   simp only [Act.put,ps1,ps2,ps3]
   refine tno 13 ?_
   simp only [Act.put,ps1,ps2,ps3]
   refine tno 14 ?_
   simp only [Act.put,ps1,ps2,ps3]
   refine tno 15 ?_
   simp only [Act.put,ps1,ps2,ps3]
   refine tno 16 ?_
   simp only [Act.put,ps1,ps2,ps3]
   refine tno 17 ?_
   simp only [Act.put,ps1,ps2,ps3]
   refine tno 18 ?_
   simp only [Act.put,ps1,ps2,ps3]
   refine tno 19 ?_
   simp only [Act.put,ps1,ps2,ps3]
   refine tno 20 ?_
   simp only [Act.put,ps1,ps2,ps3]
   refine tno 21 ?_
   simp only [Act.put,ps1,ps2,ps3]
   refine tno 22 ?_
   simp only [Act.put,ps1,ps2,ps3]
   refine tz (i:=23) rfl ?_
   simp only [Act.put,ps1,ps2,ps3]
   refine wpAnyH_done (by kernel_rfl) ?_ _
   have BF:=hHeld.2
   go_wp2
   go_ret
   exact⟨rfl,BF⟩
  |true=>
   obtain⟨ah,HAH⟩: ∃ s,Hid (s=lw.hi (sumK S S.C.length)):=⟨_,rfl⟩
   obtain⟨al,HAL⟩: ∃ s,Hid (s=lw.lo (sumK S S.C.length)):=⟨_,rfl⟩
   obtain⟨n22,HN2⟩: ∃ s,Hid (s=2*n):=⟨_,rfl⟩
   have hw2:IntKind.i64.wrap (2*n)=n22:=by rw [wrap_i64,HN2.out];unfold wrap64;omega
   obtain⟨bh,HBH⟩: ∃ s,Hid (s=lw.hi (n22*n)):=⟨_,rfl⟩
   obtain⟨bl,HBL⟩: ∃ s,Hid (s=lw.lo (n22*n)):=⟨_,rfl⟩
   have HMU:Hid (∀ w',Calls Tryz.prog 75 #[.int .i64 n22, .int .i64 n] w' fun e w''=>e= .returned (.agg #[.int .i64 bh, .int .u64 bl])∧Below w'.heap.size w' w''):=by
    unfold Hid
    intro w'
    have e2:=HN2.out
    rw [HBH.out,HBL.out]
    exact lw.mul_any n22 n (by omega) (by omega) (by omega) (by omega) w'
   have HPR:Hid (n22*n=2*(n*n)):=by unfold Hid;rw [HN2.out,Int.mul_assoc]
   obtain⟨g,HG⟩: ∃ s,Hid (s=lw.cmpI (sumK S S.C.length) (n22*n)):=⟨_,rfl⟩
   have HCM:Hid (∀ w',Calls Tryz.prog 73 #[.agg #[.int .i64 ah, .int .u64 al], .agg #[.int .i64 bh, .int .u64 bl]] w' fun e w''=>e= .returned (.int .i64 g)∧Below w'.heap.size w' w''):=by
    unfold Hid
    intro w'
    have hs:=sumK_bound HK.out S.C.length
    have hl:=HK.out.lens.2.1
    have hq:0≤n*n∧n*n≤17179869184*17179869184:=⟨Int.mul_nonneg (by omega) (by omega),Int.mul_le_mul n2 n2 (by omega) (by decide)⟩
    rw [HG.out]
    exact lw.cmp_any (sumK S S.C.length) (n22*n) HAH.out HAL.out HBH.out HBL.out (by omega) (by omega) (by rw [HPR.out];omega) (by rw [HPR.out];omega) w'
   have HRG:Hid (r=if g=0 then 0 else 6):=by
    unfold Hid
    rw [HR.out,←HCL.out,←HUS.out,←HPR.out,HG.out]
    unfold lw.cmpI
    by_cases e:sumK S S.C.length=n22*n
    ·rw [e]
     simp
    ·rcases Int.lt_or_gt_of_ne e with e1|e1
     ·simp [e,e1]
     ·have e2: ¬sumK S S.C.length<n22*n:=by omega
      have e3:n22*n<sumK S S.C.length:=e1
      simp [e,e2,e3]
   obtain⟨q,hq,hqb⟩: ∃ q:Bool,(g !=0)=q∧r=if q then 6 else 0:=by
    refine⟨_,rfl,?_⟩
    rw [HRG.out]
    by_cases e:g=0
    ·simp [e]
    ·simp [e]
   have HQB:Hid _:=hqb
   clear hqb
   go_enter Tryz.func27,Tryz.ntmps27
   go_wp2
   have HSk2:Hid (∀ w',Below (w.heap.size) w w'→(fun w'=>w'.cell? ⟨p,0,none⟩=some (.int .i64 n)∧Below (w.heap.size) w w') w'):=by
    unfold Hid
    intro w' hb
    exact⟨(hb.cell (p:=⟨p,0,none⟩) lp).trans q0,hb⟩
   refine wp_region_held_drew (S:=fun w'=>w'.cell? ⟨p,0,none⟩=some (.int .i64 n)∧Below (w.heap.size) w w') (by kernel_rfl) ?_ (fun hHeld=>?_)
   ·exact HSk2.out _ ((Below.refl _ _).drew)
   refine tz (i:=0) rfl ?_
   simp only [Act.put,ps1,ps2,ps3]
   refine tcl 1 fun Kc hK=>?_
   go_simp
   (go_at_call 71;refine(mClosed base p X S m F _ (HI.out.below (Below.refl _ _).drew) HS.out HK.out hm HCL.out).mono ?_;rintro e w1 ⟨rfl,b1⟩)
   refine hK.out _ _ ?_ (fun hHeld=>?_)
   ·exact HSk2.out _ (hHeld.2.trans (b1.mono hHeld.2.size))
   clear hK Kc
   refine tz (i:=2) rfl ?_
   simp only [Act.put,ps1,ps2,ps3]
   refine tz (i:=3) rfl ?_
   simp only [Act.put,ps1,ps2,ps3]
   refine tz (i:=4) rfl ?_
   simp only [Act.put,ps1,ps2,ps3]
   refine tcl 5 fun Kc hK=>?_
   go_simp
   (go_at_call 72;refine(mUses base p X S m F _ (HI.out.below hHeld.2) HS.out HK.out hm HUS.out).mono ?_;rintro e w2 ⟨rfl,b2⟩)
   refine hK.out _ _ ?_ (fun hHeld=>?_)
   ·exact HSk2.out _ (hHeld.2.trans (b2.mono hHeld.2.size))
   clear hK Kc
   refine tz (i:=6) rfl ?_
   simp only [Act.put,ps1,ps2,ps3]
   refine tz (i:=7) rfl ?_
   simp only [Act.put,ps1,ps2,ps3]
   refine tz (i:=8) rfl ?_
   simp only [Act.put,ps1,ps2,ps3]
   refine tz (i:=9) rfl ?_
   simp only [Act.put,ps1,ps2,ps3]
   refine tz (i:=11) rfl ?_
   simp only [Act.put,ps1,ps2,ps3]
   refine tz (i:=12) rfl ?_
   simp only [Act.put,ps1,ps2,ps3]
   refine tz (i:=13) rfl ?_
   simp only [Act.put,ps1,ps2,ps3]
   refine tz (i:=14) rfl ?_
   simp only [Act.put,ps1,ps2,ps3]
   refine tz (i:=15) rfl ?_
   simp only [Act.put,ps1,ps2,ps3]
   refine tz (i:=16) rfl ?_
   simp only [Act.put,ps1,ps2,ps3]
   refine tz (i:=17) rfl ?_
   simp only [Act.put,ps1,ps2,ps3]
   refine tz (i:=18) rfl ?_
   simp only [Act.put,ps1,ps2,ps3]
   refine tz (i:=19) rfl ?_
   simp only [Act.put,ps1,ps2,ps3]
   refine tcl 10 fun Kc hK=>?_
   go_simp
   (go_at_call 74;refine(mArea base p X S m F _ (HI.out.below hHeld.2) HS.out HK.out hm HAH.out HAL.out).mono ?_;rintro e w3 ⟨rfl,b3⟩)
   refine hK.out _ _ ?_ (fun hHeld=>?_)
   ·exact HSk2.out _ (hHeld.2.trans (b3.mono hHeld.2.size))
   clear hK Kc
   refine tcl 20 fun Kc hK=>?_
   go_simp
   (go_at_call 75;refine(HMU.out _).mono ?_;rintro e w4 ⟨rfl,b4⟩)
   refine hK.out _ _ ?_ (fun hHeld=>?_)
   ·exact HSk2.out _ (hHeld.2.trans (b4.mono hHeld.2.size))
   clear hK Kc
   refine tcl 21 fun Kc hK=>?_
   go_simp
   (go_at_call 73;refine(HCM.out _).mono ?_;rintro e w5 ⟨rfl,b5⟩)
   refine hK.out _ _ ?_ (fun hHeld=>?_)
   ·exact HSk2.out _ (hHeld.2.trans (b5.mono hHeld.2.size))
   clear hK Kc
   refine tz (i:=22) rfl ?_
   simp only [Act.put,ps1,ps2,ps3]
   refine tz (i:=23) rfl ?_
   simp only [Act.put,ps1,ps2,ps3]
   refine wpAnyH_done (by kernel_rfl) ?_ _
   have BF:=hHeld.2
   cases q with
   |true=>
    obtain rfl:r=6:=HQB.out
    go_wp2
    go_ret
    exact⟨rfl,BF⟩
   |false=>
    obtain rfl:r=0:=HQB.out
    go_wp2
    go_ret
    exact⟨rfl,BF⟩
end Go.Proofs.YtjmhfdimoeaplaaGreat
