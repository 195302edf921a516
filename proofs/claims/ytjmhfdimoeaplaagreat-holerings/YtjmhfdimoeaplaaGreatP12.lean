/-
  Joined texts, part 12:
  The landed mesh's New, Side, AddVert.
  The landed mesh's Vert, Face, DropVert.
  The landed mesh's Face, Corner.
-/
import Derived.Test.YtjmhfdimoeaplaaGreatP11
set_option maxRecDepth 100000
set_option maxHeartbeats 20000000
namespace Go.Proofs.YtjmhfdimoeaplaaGreat
open Go.RowKit Go.Maps
set_option linter.unusedVariables false
theorem mTake{base p:Nat}{A:Ar}{F:Nat→Prop}{w:World}(h:ArP base p A.L A.B A.T F w)(hT:A.T≤1000){n:Int}(hn:n=A.num):
  Calls Tryz.prog 101 #[ptR p] w fun e w'=>e= .returned (.int .i64 n)∧Keep F w w'∧ ∃ F',ArP base p A.took.L A.took.B A.took.T F' w'∧ ∀ k,F' k→F k∨w.heap.size≤k:=by
 obtain⟨L,B,T⟩:=A
 rcases nil_or_last B with rfl|⟨B',x,rfl⟩
 ·obtain rfl:n=(T:Int):=hn
  exact arTake0 h hT
 ·obtain rfl:n=x:=hn.trans (tkN_last B' x T)
  obtain⟨k,rfl⟩:=Int.eq_ofNat_of_zero_le (h.ok.rg n (by simp)).1
  refine(arTake1 h hT).mono ?_
  rintro e w' ⟨rfl,hk,F',h',hs⟩
  refine⟨rfl,hk,F',?_,hs⟩
  have e1:(Ar.took ⟨L,B'++ [(k:Int)],T⟩)=⟨L++ [(k:Int)],B',T⟩:=by unfold Ar.took Ar.num;rw [tkN_last,tkT_last,List.dropLast_concat]
  rw [e1]
  exact h'
theorem mFree{base p:Nat}{A:Ar}{F:Nat→Prop}{w:World}(h:ArP base p A.L A.B A.T F w)(hT:A.T≤1000){n:Int}(hn:n∈A.L):
  Calls Tryz.prog 128 #[ptR p, .int .i64 n] w fun e w'=>e= .returned (.bool true)∧Keep F w w'∧ ∃ F',ArP base p (A.freed n).L (A.freed n).B (A.freed n).T F' w'∧ ∀ k,F' k→F k∨w.heap.size≤k:=by
 obtain⟨L,B,T⟩:=A
 obtain⟨k,rfl⟩:=Int.eq_ofNat_of_zero_le (h.ok.rg n (List.mem_append_left _ hn)).1
 exact arFree1 h hT hn rfl
theorem meiNew{base:Nat}{w w1 w2:World}{p1 p2:Nat}{F1 F2:Nat→Prop}(n:Int)(hb:base≤w.heap.size)(h1:ArP base p1 [] [] 0 F1 w1)(hF1: ∀ k,F1 k→w.heap.size≤k)(b1:Below w.heap.size w w1)(h2:ArP base p2 [] [] 0 F2 w2)(hF2: ∀ k,F2 k→w1.heap.size≤k)(b2:Below w1.heap.size w1 w2)(t:TypeId):
  MeP base (w2.heap.size+1) (Ms.new n) (fun k=>w.heap.size≤k∧k<w2.heap.size+2) ((w2.alloc (.map #[] 0)).alloc (.cells #[.int .i64 n,ptR p1,ptR p2, .slice none 0 0, .slice none 0 0, .map (some w2.heap.size)] t))∧Below w.heap.size w ((w2.alloc (.map #[] 0)).alloc (.cells #[.int .i64 n,ptR p1,ptR p2, .slice none 0 0, .slice none 0 0, .map (some w2.heap.size)] t)):=by
 have b3:Below w2.heap.size w2 ((w2.alloc (.map #[] 0)).alloc (.cells #[.int .i64 n,ptR p1,ptR p2, .slice none 0 0, .slice none 0 0, .map (some w2.heap.size)] t)):=((Below.refl _ _).alloc (Nat.le_refl _) _).alloc (by simp) _
 have R:=Row.new (w2.alloc (.map #[] 0)) [.int .i64 n,ptR p1,ptR p2, .slice none 0 0, .slice none 0 0, .map (some w2.heap.size)] t
 have e1:(w2.alloc (.map #[] 0)).heap.size=w2.heap.size+1:=by simp
 rw [e1]at R
 have M0:EMap (w2.alloc (.map #[] 0)) w2.heap.size (fun _=>none):=MapL.new w2
 have M1:=M0.below ((Below.refl _ (w2.alloc (.map #[] 0))).alloc (Nat.le_refl _) (.cells #[.int .i64 n,ptR p1,ptR p2, .slice none 0 0, .slice none 0 0, .map (some w2.heap.size)] t))
 have z1:=b1.size
 have z2:=b2.size
 have z3:=b3.size
 have ft1:=h1.ft
 have ft2:=h2.ft
 have A1:=(h1.keep (Keep.of (F:=fun _=>False) b2) (fun _ _ x=>x)).keep (Keep.of (F:=fun _=>False) b3) (fun _ _ x=>x)
 have A2:=h2.keep (Keep.of (F:=fun _=>False) b3) (fun _ _ x=>x)
 refine⟨⟨⟨fun k=>if k<w1.heap.size then 1 else if k<w2.heap.size then 2 else if k=w2.heap.size then 5 else 0,p1,p2,F1,F2,none,0,0,none,0,0,w2.heap.size, [], [],fun _=>0,fun _=>none,fun _ _=>none,fun _=>False,n,⟨[], [],0⟩,⟨[], [],0⟩⟩,⟨R,A1,A2,ownS_none _ _ _ _,ownS_none _ _ _ _,M1,(fun v h=>h.elim),?_,?_,?_,(fun k s=>by obtain⟨o,s⟩:=s;cases s),(fun k s=>by obtain⟨o,s⟩:=s;cases s),?_,(fun v h=>h.elim),?_⟩,?_⟩,(b1.trans (b2.mono z1)).trans (b3.mono (by omega))⟩
 ·exact⟨⟨by omega,by omega⟩,by simp only [];rw [if_neg (by omega),if_neg (by omega),if_neg (by omega)]⟩
 ·intro k s
  have:=ft1 k s
  exact⟨⟨hF1 k s,by omega⟩,if_pos this.2⟩
 ·intro k s
  have h3:=ft2 k s
  have h4:=hF2 k s
  exact⟨⟨by omega,by omega⟩,by simp only [];rw [if_neg (by omega),if_pos h3.2]⟩
 ·show(w.heap.size≤w2.heap.size∧w2.heap.size<w2.heap.size+2)∧(if w2.heap.size<w1.heap.size then 1 else if w2.heap.size<w2.heap.size then 2 else if w2.heap.size=w2.heap.size then 5 else 0)=5
  exact⟨⟨by omega,by omega⟩,by rw [if_neg (by omega),if_neg (by omega),if_pos rfl]⟩
 ·intro k hk
  refine⟨by omega,?_⟩
  simp
  omega
 ·refine⟨rfl,rfl,rfl,rfl,rfl,?_,(fun a h=>by cases h),(fun a h=>by cases h),(fun a h=>by cases h),(fun e h=>absurd rfl h),(fun a h=>by cases h)⟩
  intro v
  exact⟨fun h=>h.elim,fun h=>by cases h⟩
theorem mNew(base:Nat)(n:Int)(w:World)(hb:base≤w.heap.size)(hn:1≤n∧n≤17179869184):Calls Tryz.prog 45 #[.int .i64 n] w fun e w'=> ∃ (p:Nat) (F:Nat→Prop),e= .returned (ptR p)∧MeP base p (Ms.new n) F w'∧(∀ k,F k→w.heap.size≤k)∧Below w.heap.size w w':=by
 obtain⟨hn1,hn2⟩:=hn
 have hmm:=@run_makeMap Tryz.prog
 go_enter Tryz.func45,Tryz.ntmps45
 go_wp2_with (go_at_call 99;fail)
 refine(arNew base w hb).mono ?_
 rintro e w1 ⟨p1,F1,rfl,h1,hF1,b1⟩
 have H1:Hid _:=h1
 have H2:Hid _:=hF1
 clear h1 hF1
 go_wp2_with (go_at_call 99;fail)
 refine(arNew base w1 (Nat.le_trans hb b1.size)).mono ?_
 rintro e w2 ⟨p2,F2,rfl,h2,hF2,b2⟩
 have HM:Hid _:=meiNew n hb H1.out H2.out b1 h2 hF2 b2 131
 clear h2 hF2
 go_wp2
 go_ret
 exact⟨_,_,rfl,HM.out.1,(fun k e=>e.1),HM.out.2⟩
theorem mSide(base p:Nat)(X:Mx)(F:Nat→Prop)(w:World)(h:MeI base p X F w):Calls Tryz.prog 68 #[ptR p] w fun e w'=>e= .returned (.int .i64 X.n)∧Below w.heap.size w w':=by
 have q0:=h.row.cell 0 _ rfl
 clear h
 go_enter Tryz.func68,Tryz.ntmps68
 go_wp2
 go_ret
 exact⟨rfl,Below.refl _ _⟩
theorem mAddV0(base p:Nat)(X:Mx)(F:Nat→Prop)(w:World)(h:MeI base p X F w)(x y id:Int)(hq: ¬((0≤x∧x<X.n)∧(0≤y∧y<X.n))):
  Calls Tryz.prog 46 #[ptR p, .agg #[.int .i64 x, .int .i64 y], .int .i64 id] w fun e w'=>e= .returned (.int .i64 (-1))∧Below w.heap.size w w':=by
 obtain⟨W,hW⟩: ∃ W,W=w.alloc (.cells #[.int .i64 x, .int .i64 y] 24):=⟨_,rfl⟩
 have BW:Below w.heap.size w W:=by rw [hW];exact(Below.refl _ _).alloc (Nat.le_refl _) _
 have zW:w.heap.size<W.heap.size:=by rw [hW];simp
 have R0:Row W w.heap.size [.int .i64 x, .int .i64 y]:=by rw [hW];exact Row.new w [.int .i64 x, .int .i64 y] _
 have hW':=hW.symm
 have c0:=R0.cell 0 _ rfl
 have c1:=R0.cell 1 _ rfl
 have HI:Hid _:=h.below BW
 clear hW h
 by_cases hx:0≤x∧x<X.n
 ·have hy: ¬(0≤y∧y<X.n):=fun e=>hq ⟨hx,e⟩
  clear hq
  have HX:Hid (true=decide (0≤x∧x<X.n)):=(decide_eq_true hx).symm
  have HY:Hid (false=decide (0≤y∧y<X.n)):=(decide_eq_false hy).symm
  clear hx hy
  go_enter Tryz.func46,Tryz.ntmps46
  go_wp2_with (go_at_call 100;fail)
  refine(mCan base p X F W HI.out x HX.out).mono ?_
  rintro e w1 ⟨rfl,b1⟩
  have c1:=(R0.below b1 zW).cell 1 _ rfl
  go_wp2_with (go_at_call 100;fail)
  refine(mCan base p X F w1 (HI.out.below b1) y HY.out).mono ?_
  rintro e w2 ⟨rfl,b2⟩
  go_wp2
  go_ret
  exact⟨rfl,(BW.trans (b1.mono BW.size)).trans (b2.mono (Nat.le_trans BW.size b1.size))⟩
 ·clear hq
  have HX:Hid (false=decide (0≤x∧x<X.n)):=(decide_eq_false hx).symm
  clear hx
  go_enter Tryz.func46,Tryz.ntmps46
  go_wp2_with (go_at_call 100;fail)
  refine(mCan base p X F W HI.out x HX.out).mono ?_
  rintro e w1 ⟨rfl,b1⟩
  go_wp2
  go_ret
  exact⟨rfl,BW.trans (b1.mono BW.size)⟩
theorem mAddV(base p:Nat)(X:Mx)(S:Ms)(m:Nat)(F:Nat→Prop)(w:World)(h:MeI base p X F w)(hS:MeOk X S)(hk:MsOk S m)(hm:m≤1000)(x y id:Int)(hq:inSq S x y=true):
  Calls Tryz.prog 46 #[ptR p, .agg #[.int .i64 x, .int .i64 y], .int .i64 id] w fun e w'=>e= .returned (.int .i64 S.av.num)∧Left (MeP base p (S.addV x y id)) F w w':=by
 obtain⟨q1,q2,q3,q4⟩:=of_decide_eq_true hq
 obtain⟨h0,hrg⟩:=num_range hk.va
 obtain⟨v,hv⟩:=Int.eq_ofNat_of_zero_le h0
 rw [hv]
 have hT:X.av.T≤1000:=by rw [hS.av];have:=hk.vt;omega
 have hnv:X.nv≤1000:=by rw [hS.nv];have:=hk.vt;omega
 have HV:Hid ((v:Int)=X.av.num):=by unfold Hid;rw [hS.av,hv]
 have HN:Hid (v≤X.nv∧(v=X.nv→S.av.took.T=X.nv+1)∧(v<X.nv→S.av.took.T=X.nv)):=by
  unfold Hid
  rw [hS.nv]
  rcases hrg with⟨e1,e2⟩|⟨e1,e2⟩
  ·rw [hv]at e1
   exact⟨by omega,fun _=>e2,fun e=>by omega⟩
  ·rw [hv]at e1
   exact⟨by omega,fun e=>by omega,fun _=>e2⟩
 have HX:Hid (true=decide (0≤x∧x<X.n)):=by unfold Hid;rw [hS.n];exact(decide_eq_true ⟨q1,q2⟩).symm
 have HY:Hid (true=decide (0≤y∧y<X.n)):=by unfold Hid;rw [hS.n];exact(decide_eq_true ⟨q3,q4⟩).symm
 obtain⟨W,hW⟩: ∃ W,W=w.alloc (.cells #[.int .i64 x, .int .i64 y] 24):=⟨_,rfl⟩
 have BW:Below w.heap.size w W:=by rw [hW];exact(Below.refl _ _).alloc (Nat.le_refl _) _
 have zW:w.heap.size<W.heap.size:=by rw [hW];simp
 have R0:Row W w.heap.size [.int .i64 x, .int .i64 y]:=by rw [hW];exact Row.new w [.int .i64 x, .int .i64 y] _
 have hW':=hW.symm
 have c0:=R0.cell 0 _ rfl
 have c1:=R0.cell 1 _ rfl
 have HI:Hid _:=h.below BW
 have H0:Hid _:=h
 have HS:Hid _:=hS
 have HK:Hid _:=hk
 have HVV:Hid _:=hv
 clear hW h hS hk hq q1 q2 q3 q4 h0 hrg hv
 go_enter Tryz.func46,Tryz.ntmps46
 go_wp2_with (go_at_call 100;fail)
 refine(mCan base p X F W HI.out x HX.out).mono ?_
 rintro e w1 ⟨rfl,b1⟩
 replace R0:=R0.below b1 zW
 replace c0:=R0.cell 0 _ rfl
 replace c1:=R0.cell 1 _ rfl
 go_wp2_with (go_at_call 100;fail)
 refine(mCan base p X F w1 (HI.out.below b1) y HY.out).mono ?_
 rintro e w2 ⟨rfl,b2⟩
 have z1:=b1.size
 have z2:=b2.size
 have B2:Below w.heap.size w w2:=(BW.trans (b1.mono BW.size)).trans (b2.mono (Nat.le_trans BW.size b1.size))
 have HI2:Hid (MeI base p X F w2):=H0.out.below B2
 replace R0:=R0.below b2 (by omega)
 have m1:=HI2.out.row.cell 1 _ rfl
 clear c0 c1 hW' HI
 go_wp2_with (go_at_call 101;fail)
 refine(mTake HI2.out.arv hT HV.out).mono ?_
 rintro e w3 ⟨rfl,k3,Fv',a3,s3⟩
 have HI3:Hid (MeI base p { X with av:=X.av.took,Fv:=Fv',κ:=paint X.κ w2.heap.size 1 } (more F w2.heap.size w3.heap.size) w3):=HI2.out.turnV k3 a3 s3
 have K3:Hid (Keep F w w3):=(Keep.of B2).trans k3 (fun k f=>Or.inl (H0.out.c1 k f).1)
 have z3:=k3.size
 replace R0:=R0.keep k3 (by omega) (fun f=>by have:=(H0.out.ft _ (H0.out.c1 _ f).1).2;omega)
 have c0:=R0.cell 0 _ rfl
 have c1:=R0.cell 1 _ rfl
 clear m1
 obtain⟨W3,hW3⟩: ∃ W3,W3=w3.alloc (.cells #[.int .i64 (v:Int), .int .i64 x, .int .i64 y, .int .i64 id] 67):=⟨_,rfl⟩
 have B3:Below w3.heap.size w3 W3:=by rw [hW3];exact(Below.refl _ _).alloc (Nat.le_refl _) _
 have zW3:w3.heap.size<W3.heap.size:=by rw [hW3];simp
 have RT:Row W3 w3.heap.size [.int .i64 (v:Int), .int .i64 x, .int .i64 y, .int .i64 id]:=by rw [hW3];exact Row.new w3 _ _
 have hW3':=hW3.symm
 have HIW:Hid (MeI base p { X with av:=X.av.took,Fv:=Fv',κ:=paint X.κ w2.heap.size 1 } (more F w2.heap.size w3.heap.size) W3):=HI3.out.below B3
 have m3:=HIW.out.row.cell 3 _ rfl
 have t0:=RT.cell 0 _ rfl
 have t1:=RT.cell 1 _ rfl
 have t2:=RT.cell 2 _ rfl
 have t3:=RT.cell 3 _ rfl
 have lp:p<W3.heap.size:=HIW.out.row.lt
 have ng: ¬Slot X.a p:=fun s=>absurd ((H0.out.c3 p s).2.symm.trans H0.out.c0.2) (by decide)
 have nt: ¬Slot X.a w3.heap.size:=fun s=>by have:=(H0.out.ft _ (H0.out.c3 _ s).1).2;omega
 have f3:=HIW.out.row.free 3 (by simp)
 obtain⟨a,ha⟩: ∃ a,a=X.a:=⟨_,rfl⟩
 obtain⟨nv,hnv'⟩: ∃ n,n=X.nv:=⟨_,rfl⟩
 obtain⟨ca,hca⟩: ∃ n,n=X.ca:=⟨_,rfl⟩
 rw [←ha,←hnv',←hca]at m3
 rw [←ha]at ng nt
 have HA:Hid _:=ha
 have HNV:Hid _:=hnv'
 have HCA:Hid _:=hca
 have HPUT:Hid (∀ w',Below W3.heap.size W3 w'→Calls Tryz.prog 102 #[.slice a nv ca, .int .i64 (v:Int), .agg #[.int .i64 (v:Int), .int .i64 x, .int .i64 y, .int .i64 id, .map (some W3.heap.size)]] w' (PutPost 135 5 base a nv X.xs v [.int .i64 (v:Int), .int .i64 x, .int .i64 y, .int .i64 id, .map (some W3.heap.size)] w')):=by
  unfold Hid
  intro w' hb
  have hO:=(HIW.out.below hb).own
  refine mPutV base a nv ca X.xs w' (by rw [ha,hnv',hca];exact hO) (by rw [hnv'];exact hnv) ?_ v (by rw [hnv'];exact HN.out.1) _ _ _ _ _ rfl
  have h1:=H0.out.ft p H0.out.c0.1
  have h2:=hb.size
  omega
 clear hW3 ha hnv' hca
 have hmm:=@run_makeMap Tryz.prog
 go_wp2
 clear hW3'
 have HSav:Hid (∀ w',Keep (Slot a) W3 w'→(fun w'=>w'.cell? ⟨p,3,none⟩=some (.slice a nv ca)∧w'.cell? ⟨w3.heap.size,0,none⟩=some (.int .i64 (v:Int))∧w'.cell? ⟨w3.heap.size,1,none⟩=some (.int .i64 x)∧w'.cell? ⟨w3.heap.size,2,none⟩=some (.int .i64 y)∧w'.cell? ⟨w3.heap.size,3,none⟩=some (.int .i64 id)∧Keep (Slot a) W3 w') w'):=by
  unfold Hid
  intro w' hb
  exact⟨(hb.cell (p:=⟨p,3,none⟩) lp ng).trans m3,(hb.cell (p:=⟨w3.heap.size,0,none⟩) zW3 nt).trans t0,(hb.cell (p:=⟨w3.heap.size,1,none⟩) zW3 nt).trans t1,(hb.cell (p:=⟨w3.heap.size,2,none⟩) zW3 nt).trans t2,(hb.cell (p:=⟨w3.heap.size,3,none⟩) zW3 nt).trans t3,hb⟩
 refine regionL 12 (S:=fun w'=>w'.cell? ⟨p,3,none⟩=some (.slice a nv ca)∧w'.cell? ⟨w3.heap.size,0,none⟩=some (.int .i64 (v:Int))∧w'.cell? ⟨w3.heap.size,1,none⟩=some (.int .i64 x)∧w'.cell? ⟨w3.heap.size,2,none⟩=some (.int .i64 y)∧w'.cell? ⟨w3.heap.size,3,none⟩=some (.int .i64 id)∧Keep (Slot a) W3 w') (by kernel_rfl) ?_ (fun hHeld=>?_)
 ·exact HSav.out _ ((Keep.refl _ _).drew)
 refine tyL (i:=0) (v:=?vav0) rfl ?hyav0 ?_
 case hyav0=>(intro w hSw;(try dsimp only at hSw);go_simp<;>with_reducible rfl)
 simp only [Act.put,ps1,ps2,ps3]
 refine tyL (i:=1) (v:=?vav1) rfl ?hyav1 ?_
 case hyav1=>(intro w hSw;(try dsimp only at hSw);go_simp<;>with_reducible rfl)
 simp only [Act.put,ps1,ps2,ps3]
 refine tyL (i:=2) (v:=?vav2) rfl ?hyav2 ?_
 case hyav2=>(intro w hSw;(try dsimp only at hSw);go_simp<;>with_reducible rfl)
 simp only [Act.put,ps1,ps2,ps3]
 refine tyL (i:=3) (v:=?vav3) rfl ?hyav3 ?_
 case hyav3=>(intro w hSw;(try dsimp only at hSw);go_simp<;>with_reducible rfl)
 simp only [Act.put,ps1,ps2,ps3]
 refine tyL (i:=4) (v:=?vav4) rfl ?hyav4 ?_
 case hyav4=>(intro w hSw;(try dsimp only at hSw);go_simp<;>with_reducible rfl)
 simp only [Act.put,ps1,ps2,ps3]
 refine tyL (i:=5) (v:=?vav5) rfl ?hyav5 ?_
 case hyav5=>(intro w hSw;(try dsimp only at hSw);go_simp<;>with_reducible rfl)
 simp only [Act.put,ps1,ps2,ps3]
 refine tyL (i:=6) (v:=?vav6) rfl ?hyav6 ?_
 case hyav6=>(intro w hSw;(try dsimp only at hSw);go_simp<;>with_reducible rfl)
 simp only [Act.put,ps1,ps2,ps3]
 refine takeL_call (i:=7) rfl (by kernel_rfl) (fun Kc hK=>?_)
 go_simp
 refine hK.out _ _ ?_ (fun hHeld=>?_)
 ·exact HSav.out _ (hHeld.2.2.2.2.2.alloc _)
 clear hK Kc
 refine tyL (i:=8) (v:=?vav8) rfl ?hyav8 ?_
 case hyav8=>(intro w hSw;(try dsimp only at hSw);go_simp<;>with_reducible rfl)
 simp only [Act.put,ps1,ps2,ps3]
 refine takeL_call (i:=9) rfl (by kernel_rfl) (fun Kc hK=>?_)
 go_simp
 (go_at_call 102;refine(HPUT.out _ ((Below.refl _ _).alloc (Nat.le_refl _) _).drew).mono ?_;rintro e w5 ⟨a5,n5,c5,xs5,rfl,hP⟩)
 refine hK.out _ _ ?_ (fun hHeld=>?_)
 ·exact HSav.out _ (hHeld.2.2.2.2.2.trans hP.2.2.2.2.2 (fun i g=>Or.inl g))
 clear hK Kc
 have HP:Hid _:=hP
 clear hP
 refine takeL_call (i:=10) rfl (by kernel_rfl) (fun Kc hK=>?_)
 go_simp
 refine hK.out _ _ ?_ (fun hHeld=>?_)
 ·exact HSav.out _ (hHeld.2.2.2.2.2)
 clear hK Kc
 refine tyL (i:=11) (v:=?vav11) rfl ?hyav11 ?_
 case hyav11=>(intro w hSw;(try dsimp only at hSw);go_simp<;>with_reducible rfl)
 simp only [Act.put,ps1,ps2,ps3]
 have s3:=hHeld.1
 have fz:=(HIW.out.row.keep hHeld.2.2.2.2.2 lp ng).free 3 (by simp)
 refine takeL_last rfl (by kernel_rfl) (fun Kc hK=>?_)
 go_simp
 refine hK.out _ _ ?_
 clear hK Kc
 refine anyL_done (by kernel_rfl) ?_ _
 have r0:=HP.out.2.2.2.2.2
 go_wp2
 go_ret
 refine⟨rfl,?_⟩
 obtain⟨g1,g2,g3,g4,g5,g6⟩:=HP.out
 rw [HNV.out]at g1 g2 g4
 rw [HA.out]at g5 g6
 have b4:Below W3.heap.size W3 ((W3.alloc (.map #[] 0)).drew):=((Below.refl _ _).alloc (Nat.le_refl _) _).drew
 have M0:IMap ((W3.alloc (.map #[] 0)).drew) W3.heap.size (fun _=>none):=(MapL.new W3:IMap (W3.alloc (.map #[] 0)) W3.heap.size (fun _=>none)).below (Below.refl _ _).drew
 have z4:((W3.alloc (.map #[] 0)).drew).heap.size=W3.heap.size+1:=by simp
 generalize (W3.alloc (.map #[] 0)).drew=W4 at b4 M0 z4 g5 g6
 have z5:=g6.size
 have hI4:=HIW.out.below b4
 have hft:=H0.out.ft
 have hcp:=H0.out.c0.1
 have hpl:=(hft p hcp).2
 obtain⟨hI5,k5⟩:=hI4.turnA (a':=a5) (n':=n5) (c':=c5) (xs':=xs5) g6 g3 g5
 have nm: ¬Slot X.a W3.heap.size:=fun s=>by have:=(hft _ (H0.out.c3 _ s).1).2;omega
 have M5:=(M0.keep g6 nm).keep ((Keep.refl (fun k=>k=p) w5).set (p:=⟨p,3,none⟩) (Or.inl rfl) (.slice a5 n5 c5)) (by omega)
 have hI6:=hI5.addM (v:=(v:Int)) (by omega) (mb:=W3.heap.size) (fun f=>by rcases f with(f|f)|f;(have:=(hft _ f).2;omega);omega;omega) M5 (by have:=(hft p hcp).1;omega)
 refine⟨?_,_,⟨_,hI6,?_⟩,?_⟩
 ·exact((K3.out.to B3).to b4).trans k5 (fun k f=>f.imp (fun x=>x) (fun e=>by have:=K3.out.size;omega))
 ·have hS:=HS.out
  have hv:=HVV.out
  refine MeOk.addV hS HK.out v hv (mb:=W3.heap.size) (nv':=0) ?_ rfl (by show X.av.took=S.av.took;rw [hS.av]) rfl ?_ rfl ?_ ?_ rfl rfl ?_
  ·show PutE 5 X.xs xs5 X.nv v (vxC ⟨S.av.num,x,y,id⟩ W3.heap.size)
   rw [hv]
   exact g4
  ·show n5=S.av.took.T
   rcases Nat.lt_or_ge v X.nv with e|e
   ·rw [g2 e,HN.out.2.2 e]
   ·have e':v=X.nv:=Nat.le_antisymm HN.out.1 e
    rw [g1 e',HN.out.2.1 e']
  ·rw [hv]
  ·rw [hv]
  ·rw [hv]
 ·intro k hk
  have h1:=K3.out.size
  rcases hk with((f|f)|f)|f
  ·exact Or.inl f
  ·right;omega
  ·right;omega
  ·right;omega
theorem isV_dec{X:Mx}{S:Ms}{m:Nat}(hS:MeOk X S)(hk:MsOk S m)(v:Int):isV S v=decide (v∈X.av.L):=by
 rw [hS.av]
 cases h:isV S v with
 |true=>exact(decide_eq_true (hk.live.2 h)).symm
 |false=>exact(decide_eq_false (fun e=>by rw [hk.live.1 e]at h;cases h)).symm
theorem isF_dec{X:Mx}{S:Ms}{m:Nat}(hS:MeOk X S)(hk:MsOk S m)(v:Int):isF S v=decide (v∈X.af.L):=by
 rw [hS.af]
 cases h:isF S v with
 |true=>exact(decide_eq_true (hk.liveF.2 h)).symm
 |false=>exact(decide_eq_false (fun e=>by rw [hk.liveF.1 e]at h;cases h)).symm
theorem m_vertOf_at{S:Ms}{m:Nat}(hk:MsOk S m){a:Vt}(ha:a∈S.V):vertOf S a.no=a:=by
 unfold vertOf
 have:S.V.find? (fun b=>decide (b.no=a.no))=some a:=by
  have hs:=hk.vs
  generalize S.V=V at ha hs
  induction V with
  |nil=>cases ha
  |cons b V ih=>
   rw [List.pairwise_cons]at hs
   rcases List.mem_cons.1 ha with rfl|h
   ·simp
   ·have hne: ¬b.no=a.no:=by have:=hs.1 a h;omega
    rw [List.find?_cons_of_neg (by simpa using hne)]
    exact ih h hs.2
 rw [this]
theorem m_faceOf_at{S:Ms}{m:Nat}(hk:MsOk S m){c:Ce}(hc:c∈S.C):S.C.find? (fun b=>decide (b.no=c.no))=some c:=by
 have hs:=hk.fs
 generalize S.C=C at hc hs
 induction C with
 |nil=>cases hc
 |cons b V ih=>
  rw [List.pairwise_cons]at hs
  rcases List.mem_cons.1 hc with rfl|h
  ·simp
  ·have hne: ¬b.no=c.no:=by have:=hs.1 c h;omega
   rw [List.find?_cons_of_neg (by simpa using hne)]
   exact ih h hs.2
theorem m_vertOf_no{S:Ms}{v:Int}(h:isV S v=false):vertOf S v=vtZero:=by
 unfold vertOf
 have:S.V.find? (fun b=>decide (b.no=v))=none:=by
  rw [List.find?_eq_none]
  intro b hb e
  have:isV S v=true:=isV_iff.2 ⟨b,hb,of_decide_eq_true e⟩
  rw [h]at this
  cases this
 rw [this]
theorem m_faceOf_no{S:Ms}{v:Int}(h:isF S v=false):S.C.find? (fun b=>decide (b.no=v))=none:=by
 rw [List.find?_eq_none]
 intro b hb e
 have:isF S v=true:=isF_iff.2 ⟨b,hb,of_decide_eq_true e⟩
 rw [h]at this
 cases this
theorem mVert(base p:Nat)(X:Mx)(S:Ms)(m:Nat)(F:Nat→Prop)(w:World)(h:MeI base p X F w)(hS:MeOk X S)(hk:MsOk S m)(hm:m≤1000)(v:Int)(hv:In64 v):
  Calls Tryz.prog 26 #[ptR p, .int .i64 v] w fun e w'=>e= .returned (.tuple #[vtV (vertOf S v), .bool (isV S v)])∧Below w.heap.size w w':=by
 have hT:X.av.T≤1000:=by rw [hS.av];have:=hk.vt;omega
 obtain⟨W,hW⟩: ∃ W,W=w.alloc (.cells #[.int .i64 0, .int .i64 0, .int .i64 0, .int .i64 0] 67):=⟨_,rfl⟩
 have BW:Below w.heap.size w W:=by rw [hW];exact(Below.refl _ _).alloc (Nat.le_refl _) _
 have zW:w.heap.size<W.heap.size:=by rw [hW];simp
 have R0:Row W w.heap.size [.int .i64 0, .int .i64 0, .int .i64 0, .int .i64 0]:=by rw [hW];exact Row.new w [.int .i64 0, .int .i64 0, .int .i64 0, .int .i64 0] _
 have hW':=hW.symm
 have HI:Hid _:=h.below BW
 have HD:Hid (isV S v=decide (v∈X.av.L)):=isV_dec hS hk v
 cases hb:isV S v with
 |false=>
  rw [m_vertOf_no hb]
  rw [hb]at HD
  clear hW h hS hk
  go_enter Tryz.func26,Tryz.ntmps26
  go_wp2_with (go_at_call 70;fail)
  refine(mHasV base p X F W HI.out hT v hv HD.out).mono ?_
  rintro e w1 ⟨rfl,b1⟩
  have R1:=R0.below b1 zW
  have c0:=R1.cell 0 _ rfl
  have c1:=R1.cell 1 _ rfl
  have c2:=R1.cell 2 _ rfl
  have c3:=R1.cell 3 _ rfl
  have f0:=R1.free 0 (by simp)
  have f1:=R1.free 1 (by simp)
  have f2:=R1.free 2 (by simp)
  have f3:=R1.free 3 (by simp)
  clear hW'
  go_wp2
  have R2:=(((R1.set 0 (.int .i64 0) (by simp)).set 1 (.int .i64 0) (by simp)).set 2 (.int .i64 0) (by simp)).set 3 (.int .i64 0) (by simp)
  have d0:=R2.cell 0 _ rfl
  have d1:=R2.cell 1 _ rfl
  have d2:=R2.cell 2 _ rfl
  have d3:=R2.cell 3 _ rfl
  refine bodyPost_ret (v:= .tuple #[.agg #[.int .i64 0, .int .i64 0, .int .i64 0, .int .i64 0], .bool false]) (by simp [results,Tryz.results26,go_sem, *]) rfl ?_
  exact⟨rfl,((((BW.trans (b1.mono BW.size)).setCell (Nat.le_refl _) _).setCell (Nat.le_refl _) _).setCell (Nat.le_refl _) _).setCell (Nat.le_refl _) _⟩
 |true=>
  obtain⟨a,ha,rfl⟩:=isV_iff.1 hb
  rw [m_vertOf_at hk ha]
  rw [hb]at HD
  obtain⟨g,k,hXa,hg,hak,hkn,hcap,hc⟩:=h.vcell hS hk ha
  have q3:=(h.below BW).row.cell 3 _ rfl
  rw [hXa]at q3
  have u0:=(BW.cell (p:=⟨g,k*5,none⟩) hg).trans (hc 0 _ rfl).1
  have u1:=(BW.cell (p:=⟨g,k*5+1,none⟩) hg).trans (hc 1 _ rfl).1
  have u2:=(BW.cell (p:=⟨g,k*5+2,none⟩) hg).trans (hc 2 _ rfl).1
  have u3:=(BW.cell (p:=⟨g,k*5+3,none⟩) hg).trans (hc 3 _ rfl).1
  have lp:p<W.heap.size:=(h.below BW).row.lt
  have lg:g<W.heap.size:=by omega
  obtain⟨nv,hnv⟩: ∃ v,v=X.nv:=⟨_,rfl⟩
  obtain⟨ca,hca⟩: ∃ v,v=X.ca:=⟨_,rfl⟩
  rw [←hnv,←hca]at q3
  rw [←hnv]at hkn
  have hlt:(k:Int)<(nv:Int):=by omega
  obtain⟨a0,a1,a2,a3⟩:=a
  replace hak:a0=(k:Int):=hak
  subst hak
  clear hW h hS hk hc hXa hnv hca ha hb hcap
  go_enter Tryz.func26,Tryz.ntmps26
  go_wp2_with (go_at_call 70;fail)
  refine(mHasV base p X F W HI.out hT (k:Int) hv HD.out).mono ?_
  rintro e w1 ⟨rfl,b1⟩
  have R1:=R0.below b1 zW
  have c0:=R1.cell 0 _ rfl
  have c1:=R1.cell 1 _ rfl
  have c2:=R1.cell 2 _ rfl
  have c3:=R1.cell 3 _ rfl
  have f0:=R1.free 0 (by simp)
  have f1:=R1.free 1 (by simp)
  have f2:=R1.free 2 (by simp)
  have f3:=R1.free 3 (by simp)
  replace q3:=(b1.cell (p:=⟨p,3,none⟩) lp).trans q3
  replace u0:=(b1.cell (p:=⟨g,k*5,none⟩) lg).trans u0
  replace u1:=(b1.cell (p:=⟨g,k*5+1,none⟩) lg).trans u1
  replace u2:=(b1.cell (p:=⟨g,k*5+2,none⟩) lg).trans u2
  replace u3:=(b1.cell (p:=⟨g,k*5+3,none⟩) lg).trans u3
  clear hW'
  go_wp2
  have R2:=(((R1.set 0 (.int .i64 (k:Int)) (by simp)).set 1 (.int .i64 a1) (by simp)).set 2 (.int .i64 a2) (by simp)).set 3 (.int .i64 a3) (by simp)
  have d0:=R2.cell 0 _ rfl
  have d1:=R2.cell 1 _ rfl
  have d2:=R2.cell 2 _ rfl
  have d3:=R2.cell 3 _ rfl
  refine bodyPost_ret (v:= .tuple #[.agg #[.int .i64 (k:Int), .int .i64 a1, .int .i64 a2, .int .i64 a3], .bool true]) (by simp [results,Tryz.results26,go_sem, *]) rfl ?_
  exact⟨rfl,((((BW.trans (b1.mono BW.size)).setCell (Nat.le_refl _) _).setCell (Nat.le_refl _) _).setCell (Nat.le_refl _) _).setCell (Nat.le_refl _) _⟩
theorem MeI.lens{base p:Nat}{X:Mx}{F:Nat→Prop}{w:World}{S:Ms}{m:Nat}(h:MeI base p X F w)(hS:MeOk X S)(hk:MsOk S m)(hm:m≤1000){a:Vt}(ha:a∈S.V): ∃ n:Nat,(∀ w',Below w.heap.size w w'→(Builtin.len_ #[133] 3 #[.map (some (X.M a.no))]).run Tryz.prog w'= .ok (.int .i64 (n:Int)) w')∧(n=0↔around S.C a.no= []):=by
 have hv:X.Lv a.no:=(hS.Lv _).2 (isV_iff.2 ⟨a,ha,rfl⟩)
 obtain⟨n,h1,h2⟩:=(h.fcs _ hv).len intL Tryz.underlying133 3
 refine⟨n,h1,h2.trans ⟨fun e=>?_,fun e x _=>?_⟩⟩
 ·rw [List.eq_nil_iff_forall_not_mem]
  intro f hf
  have h3:=(hS.gf a ha f).2 hf
  have hr:I64 f:=by
   unfold around at hf
   obtain⟨c,hc,rfl⟩:=List.mem_map.1 hf
   have h5:=(hk.fmem (List.mem_filter.1 hc).1).2
   have h6:=hk.ft
   exact⟨by omega,by omega⟩
  exact h3 (e f ⟨_,intKey hr⟩)
 ·cases hg:X.gf a.no x with
  |none=>rfl
  |some u=>
   have:=(hS.gf a ha x).1 (by rw [hg];exact fun e=>by cases e)
   rw [e]at this
   cases this
theorem mDropV0(base p:Nat)(X:Mx)(S:Ms)(m:Nat)(F:Nat→Prop)(w:World)(h:MeI base p X F w)(hS:MeOk X S)(hk:MsOk S m)(hm:m≤1000)(v:Int)(hv:In64 v)(hno:isV S v=false∨around S.C v≠ []):
  Calls Tryz.prog 146 #[ptR p, .int .i64 v] w fun e w'=>e= .returned (.bool false)∧Below w.heap.size w w':=by
 have hT:X.av.T≤1000:=by rw [hS.av];have:=hk.vt;omega
 have HD:Hid (isV S v=decide (v∈X.av.L)):=isV_dec hS hk v
 have HI:Hid _:=h
 cases hb:isV S v with
 |false=>
  rw [hb]at HD
  clear h hS hk hno
  go_enter Tryz.func146,Tryz.ntmps146
  go_wp2_with (go_at_call 70;fail)
  refine(mHasV base p X F w HI.out hT v hv HD.out).mono ?_
  rintro e w1 ⟨rfl,b1⟩
  go_wp2
  go_ret
  exact⟨rfl,b1⟩
 |true=>
  have har:around S.C v≠ []:=hno.resolve_left (by rw [hb];exact fun e=>by cases e)
  obtain⟨a,ha,rfl⟩:=isV_iff.1 hb
  rw [hb]at HD
  obtain⟨n,hlen,hn0⟩:=h.lens hS hk hm ha
  have hn:0<n:=Nat.pos_of_ne_zero (fun e=>har (hn0.1 e))
  obtain⟨g,k,hXa,hg,hak,hkn,hcap,hc⟩:=h.vcell hS hk ha
  have q3:=h.row.cell 3 _ rfl
  rw [hXa]at q3
  have u4:=(hc 4 _ rfl).1
  have lp:=h.row.lt
  obtain⟨nv,hnv⟩: ∃ v,v=X.nv:=⟨_,rfl⟩
  obtain⟨ca,hca⟩: ∃ v,v=X.ca:=⟨_,rfl⟩
  obtain⟨mb,hmb⟩: ∃ v,v=X.M a.no:=⟨_,rfl⟩
  rw [←hnv,←hca]at q3
  rw [←hnv]at hkn
  rw [←hmb]at u4 hlen
  rw [hak]
  rw [hak]at HD hv
  have hlt:(k:Int)<(nv:Int):=by omega
  have hgt:(0:Int)<(n:Int):=by omega
  have HL:Hid _:=hlen
  clear h hS hk hc hXa hnv hca ha hb hcap hno har hn0 hlen hmb hak hn
  go_enter Tryz.func146,Tryz.ntmps146
  go_wp2_with (go_at_call 70;fail)
  refine(mHasV base p X F w HI.out hT (k:Int) hv HD.out).mono ?_
  rintro e w1 ⟨rfl,b1⟩
  replace q3:=(b1.cell (p:=⟨p,3,none⟩) lp).trans q3
  replace u4:=(b1.cell (p:=⟨g,k*5+4,none⟩) hg).trans u4
  have hl:=HL.out w1 b1
  go_wp2
  go_ret
  exact⟨rfl,b1⟩
theorem mDropV(base p:Nat)(X:Mx)(S:Ms)(m:Nat)(F:Nat→Prop)(w:World)(h:MeI base p X F w)(hS:MeOk X S)(hk:MsOk S m)(hm:m≤1000)(i:Nat)(a:Vt)(ha:S.V[i]? =some a)(har:around S.C a.no= []):
  Calls Tryz.prog 146 #[ptR p, .int .i64 a.no] w fun e w'=>e= .returned (.bool true)∧Left (MeP base p (S.dropV a.no i)) F w w':=by
 have hT:X.av.T≤1000:=by rw [hS.av];have:=hk.vt;omega
 have hmem:=List.mem_of_getElem? ha
 have hb:isV S a.no=true:=isV_iff.2 ⟨a,hmem,rfl⟩
 have HD:Hid (true=decide (a.no∈X.av.L)):=hb.symm.trans (isV_dec hS hk a.no)
 have HI:Hid _:=h
 have HS:Hid _:=hS
 have HK:Hid _:=hk
 obtain⟨n,hlen,hn0⟩:=h.lens hS hk hm hmem
 obtain rfl:n=0:=hn0.2 har
 obtain⟨g,k,hXa,hg,hak,hkn,hcap,hc⟩:=h.vcell hS hk hmem
 have HO:Hid _:=h.own
 rw [hXa]at HO
 have q1:=h.row.cell 1 _ rfl
 have q3:=h.row.cell 3 _ rfl
 rw [hXa]at q3
 have u4:=(hc 4 _ rfl).1
 have lp:=h.row.lt
 have hnv1:X.nv≤1000:=by rw [hS.nv];have:=hk.vt;omega
 have hbase:base≤w.heap.size:=by have:=h.ft p h.c0.1;omega
 have hvr:In64 (k:Int):=by have:=(hk.vmem hmem).2;rw [hak]at this;have:=hk.vt;exact⟨by omega,by omega⟩
 have ngp: ¬Slot (some ⟨g,0,none⟩) p:=fun s=>absurd ((h.c3 p (by rw [hXa];exact s)).2.symm.trans h.c0.2) (by decide)
 obtain⟨nv,hnv⟩: ∃ v,v=X.nv:=⟨_,rfl⟩
 obtain⟨ca,hca⟩: ∃ v,v=X.ca:=⟨_,rfl⟩
 obtain⟨pv,hpv⟩: ∃ v,v=X.pv:=⟨_,rfl⟩
 obtain⟨mb,hmb⟩: ∃ v,v=X.M a.no:=⟨_,rfl⟩
 rw [←hpv]at q1
 rw [←hnv,←hca]at q3 HO
 rw [←hnv]at hkn hnv1
 rw [←hmb]at u4 hlen
 have HPV:Hid _:=hpv
 have HNV:Hid _:=hnv
 have HCA:Hid _:=hca
 have HXA:Hid _:=hXa
 have HAK:Hid _:=hak
 have HA:Hid _:=ha
 rw [hak]
 rw [hak]at HD
 have hlt:(k:Int)<(nv:Int):=by omega
 have HL:Hid _:=hlen
 clear h hS hk hc hXa hnv hca ha hb hcap har hn0 hlen hmb hak hpv hmem
 go_enter Tryz.func146,Tryz.ntmps146
 go_wp2_with (go_at_call 70;fail)
 refine(mHasV base p X F w HI.out hT (k:Int) hvr HD.out).mono ?_
 rintro e w1 ⟨rfl,b1⟩
 replace q3:=(b1.cell (p:=⟨p,3,none⟩) lp).trans q3
 replace u4:=(b1.cell (p:=⟨g,k*5+4,none⟩) hg).trans u4
 have hl:=HL.out w1 b1
 have z1:=b1.size
 go_wp2_with (go_at_call 102;fail)
 refine(mPutV base (some ⟨g,0,none⟩) nv ca X.xs w1 (OwnS.below HO.out b1) hnv1 (by omega) k (by omega) 0 0 0 0 none rfl).mono ?_
 rintro e w2 ⟨a2,n2,c2,xs2,rfl,hP⟩
 have HP:Hid _:=hP
 have k2:=hP.2.2.2.2.2
 have row2:=(HI.out.below b1).row.keep k2 (by omega) ngp
 have s3:=row2.cell 3 _ rfl
 have fz:=row2.free 3 (by simp)
 rw [HXA.out,←HNV.out,←HCA.out]at s3
 obtain⟨g1,g2,g3,g4,g5,g6⟩:=hP
 rw [HNV.out]at g2 g4
 obtain rfl:n2=X.nv:=g2 (by rw [←HNV.out];omega)
 have hI1:=HI.out.below b1
 rw [←HXA.out]at g5 g6
 have HT:Hid _:=hI1.turnA (a':=a2) (n':=X.nv) (c':=c2) (xs':=xs2) g6 g3 g5
 have HG4:Hid _:=g4
 have z2:=g6.size
 obtain⟨W,hW⟩: ∃ W,W=w2.setCell ⟨p,3,none⟩ (.slice a2 X.nv c2):=⟨_,rfl⟩
 have zW:W.heap.size=w2.heap.size:=by rw [hW];simp
 have HT2:Hid (MeI base p { X with a:=a2,nv:=X.nv,ca:=c2,xs:=xs2,κ:=paint X.κ w1.heap.size 3 } (more F w1.heap.size w2.heap.size) W∧Keep F w1 W):=by unfold Hid;rw [hW];exact HT.out
 have m1:=HT2.out.1.row.cell 1 _ rfl
 have HZW:Hid _:=zW
 rw [←HPV.out]at m1
 have hW':=hW.symm
 clear HT hW g1 g2 g3 g4 g5 g6 HP row2 k2 zW
 go_wp2_with (go_at_call 128;fail)
 rw [HPV.out]
 refine(mFree HT2.out.1.arv hT (n:=(k:Int)) (of_decide_eq_true HD.out.symm)).mono ?_
 rintro e w4 ⟨rfl,k4,Fv',a4,s4⟩
 go_wp2
 go_ret
 have hI4:=(HT2.out.1.turnV k4 a4 s4).lessM (L:=fun u=>u≠a.no∧X.Lv u) (fun v h=>h.2)
 have hzw:=HZW.out
 have z4:=k4.size
 refine⟨rfl,?_,_,⟨_,hI4,?_⟩,?_⟩
 ·exact((Keep.of b1).trans HT2.out.2 (fun k f=>Or.inl f)).trans k4 (fun k f=>Or.inl (HI.out.c1 k f).1)
 ·rw [←HAK.out]
  apply MeOk.dropV HS.out HK.out HA.out k HAK.out
  ·exact HG4.out
  ·rfl
  ·show X.av.freed a.no=S.av.freed a.no
   rw [HS.out.av]
  ·rfl
  ·rfl
  ·rfl
  ·rfl
  ·rfl
  ·rfl
  ·rfl
  ·rfl
 ·intro q hq
  rcases hq with(f|f)|f
  ·exact Or.inl f
  ·right;omega
  ·right;omega
theorem mFace(base p:Nat)(X:Mx)(S:Ms)(m:Nat)(F:Nat→Prop)(w:World)(h:MeI base p X F w)(hS:MeOk X S)(hk:MsOk S m)(hm:m≤1000)(f:Int)(hf:In64 f):
  Calls Tryz.prog 56 #[ptR p, .int .i64 f] w fun e w'=>e= .returned (.tuple #[trV (faceOf S f), .bool (isF S f)])∧Below w.heap.size w w':=by
 have hT:X.af.T≤1000:=by rw [hS.af];have:=hk.ft;omega
 obtain⟨W,hW⟩: ∃ W,W=w.alloc (.cells #[.int .i64 0, .int .i64 0, .int .i64 0, .int .i64 0, .int .i64 0, .int .i64 0, .int .i64 0, .int .i64 0, .int .i64 0] 54):=⟨_,rfl⟩
 have BW:Below w.heap.size w W:=by rw [hW];exact(Below.refl _ _).alloc (Nat.le_refl _) _
 have zW:w.heap.size<W.heap.size:=by rw [hW];simp
 have R0:Row W w.heap.size [.int .i64 0, .int .i64 0, .int .i64 0, .int .i64 0, .int .i64 0, .int .i64 0, .int .i64 0, .int .i64 0, .int .i64 0]:=by rw [hW];exact Row.new w [.int .i64 0, .int .i64 0, .int .i64 0, .int .i64 0, .int .i64 0, .int .i64 0, .int .i64 0, .int .i64 0, .int .i64 0] _
 have hW':=hW.symm
 have HA:Hid _:=(h.below BW).arf
 have q2:=(h.below BW).row.cell 2 _ rfl
 obtain⟨pf,hpf⟩: ∃ v,v=X.pf:=⟨_,rfl⟩
 rw [←hpf]at q2 HA
 have HD:Hid (isF S f=decide (f∈X.af.L)):=isF_dec hS hk f
 cases hb:isF S f with
 |false=>
  have e0:faceOf S f=trZero:=by unfold faceOf;rw [m_faceOf_no hb]
  rw [e0]
  rw [hb]at HD
  clear hW h hS hk e0 hpf
  go_enter Tryz.func56,Tryz.ntmps56
  go_wp2_with (go_at_call 118;fail)
  refine(arLive HA.out hT f hf HD.out).mono ?_
  rintro e w1 ⟨rfl,b1⟩
  have R1:=R0.below b1 zW
  have c0:=R1.cell 0 _ rfl
  have f0:=R1.free 0 (by simp)
  have c1:=R1.cell 1 _ rfl
  have f1:=R1.free 1 (by simp)
  have c2:=R1.cell 2 _ rfl
  have f2:=R1.free 2 (by simp)
  have c3:=R1.cell 3 _ rfl
  have f3:=R1.free 3 (by simp)
  have c4:=R1.cell 4 _ rfl
  have f4:=R1.free 4 (by simp)
  have c5:=R1.cell 5 _ rfl
  have f5:=R1.free 5 (by simp)
  have c6:=R1.cell 6 _ rfl
  have f6:=R1.free 6 (by simp)
  have c7:=R1.cell 7 _ rfl
  have f7:=R1.free 7 (by simp)
  have c8:=R1.cell 8 _ rfl
  have f8:=R1.free 8 (by simp)
  clear hW'
  go_wp2
  have R2:=(((((((((R1.set 0 (.int .i64 0) (by simp)).set 1 (.int .i64 0) (by simp)).set 2 (.int .i64 0) (by simp)).set 3 (.int .i64 0) (by simp)).set 4 (.int .i64 0) (by simp)).set 5 (.int .i64 0) (by simp)).set 6 (.int .i64 0) (by simp)).set 7 (.int .i64 0) (by simp)).set 8 (.int .i64 0) (by simp))
  have d0:=R2.cell 0 _ rfl
  have d1:=R2.cell 1 _ rfl
  have d2:=R2.cell 2 _ rfl
  have d3:=R2.cell 3 _ rfl
  have d4:=R2.cell 4 _ rfl
  have d5:=R2.cell 5 _ rfl
  have d6:=R2.cell 6 _ rfl
  have d7:=R2.cell 7 _ rfl
  have d8:=R2.cell 8 _ rfl
  refine bodyPost_ret (v:= .tuple #[.agg #[.int .i64 0, .int .i64 0, .int .i64 0, .int .i64 0, .int .i64 0, .int .i64 0, .int .i64 0, .int .i64 0, .int .i64 0], .bool false]) (by simp [results,Tryz.results56,go_sem, *]) rfl ?_
  exact⟨rfl,((((((((((BW.trans (b1.mono BW.size)).setCell (Nat.le_refl _) _).setCell (Nat.le_refl _) _).setCell (Nat.le_refl _) _).setCell (Nat.le_refl _) _).setCell (Nat.le_refl _) _).setCell (Nat.le_refl _) _).setCell (Nat.le_refl _) _).setCell (Nat.le_refl _) _).setCell (Nat.le_refl _) _)⟩
 |true=>
  obtain⟨c,hc,rfl⟩:=isF_iff.1 hb
  have e0:faceOf S c.no=c.t:=by unfold faceOf;rw [m_faceOf_at hk hc]
  rw [e0]
  rw [hb]at HD
  obtain⟨g,k,hXb,hg,hak,hkn,hcap,hcc⟩:=h.fcell hS hk hc
  have q4:=(h.below BW).row.cell 4 _ rfl
  rw [hXb]at q4
  obtain⟨no,t⟩:=c
  have u0:=(BW.cell (p:=⟨g,k*9,none⟩) hg).trans (hcc 0 _ rfl).1
  have u1:=(BW.cell (p:=⟨g,k*9+1,none⟩) hg).trans (hcc 1 _ rfl).1
  have u2:=(BW.cell (p:=⟨g,k*9+2,none⟩) hg).trans (hcc 2 _ rfl).1
  have u3:=(BW.cell (p:=⟨g,k*9+3,none⟩) hg).trans (hcc 3 _ rfl).1
  have u4:=(BW.cell (p:=⟨g,k*9+4,none⟩) hg).trans (hcc 4 _ rfl).1
  have u5:=(BW.cell (p:=⟨g,k*9+5,none⟩) hg).trans (hcc 5 _ rfl).1
  have u6:=(BW.cell (p:=⟨g,k*9+6,none⟩) hg).trans (hcc 6 _ rfl).1
  have u7:=(BW.cell (p:=⟨g,k*9+7,none⟩) hg).trans (hcc 7 _ rfl).1
  have u8:=(BW.cell (p:=⟨g,k*9+8,none⟩) hg).trans (hcc 8 _ rfl).1
  have lp:p<W.heap.size:=(h.below BW).row.lt
  have lg:g<W.heap.size:=by omega
  obtain⟨nf,hnf⟩: ∃ v,v=X.nf:=⟨_,rfl⟩
  obtain⟨cb,hcb⟩: ∃ v,v=X.cb:=⟨_,rfl⟩
  rw [←hnf,←hcb]at q4
  rw [←hnf]at hkn
  have hlt:(k:Int)<(nf:Int):=by omega
  replace hak:no=(k:Int):=hak
  subst hak
  clear hW h hS hk hcc hXb hnf hcb hc hb hcap e0 hpf
  go_enter Tryz.func56,Tryz.ntmps56
  go_wp2_with (go_at_call 118;fail)
  refine(arLive HA.out hT (k:Int) hf HD.out).mono ?_
  rintro e w1 ⟨rfl,b1⟩
  have R1:=R0.below b1 zW
  have c0:=R1.cell 0 _ rfl
  have f0:=R1.free 0 (by simp)
  have c1:=R1.cell 1 _ rfl
  have f1:=R1.free 1 (by simp)
  have c2:=R1.cell 2 _ rfl
  have f2:=R1.free 2 (by simp)
  have c3:=R1.cell 3 _ rfl
  have f3:=R1.free 3 (by simp)
  have c4:=R1.cell 4 _ rfl
  have f4:=R1.free 4 (by simp)
  have c5:=R1.cell 5 _ rfl
  have f5:=R1.free 5 (by simp)
  have c6:=R1.cell 6 _ rfl
  have f6:=R1.free 6 (by simp)
  have c7:=R1.cell 7 _ rfl
  have f7:=R1.free 7 (by simp)
  have c8:=R1.cell 8 _ rfl
  have f8:=R1.free 8 (by simp)
  replace q4:=(b1.cell (p:=⟨p,4,none⟩) lp).trans q4
  replace u0:=(b1.cell (p:=⟨g,k*9,none⟩) lg).trans u0
  replace u1:=(b1.cell (p:=⟨g,k*9+1,none⟩) lg).trans u1
  replace u2:=(b1.cell (p:=⟨g,k*9+2,none⟩) lg).trans u2
  replace u3:=(b1.cell (p:=⟨g,k*9+3,none⟩) lg).trans u3
  replace u4:=(b1.cell (p:=⟨g,k*9+4,none⟩) lg).trans u4
  replace u5:=(b1.cell (p:=⟨g,k*9+5,none⟩) lg).trans u5
  replace u6:=(b1.cell (p:=⟨g,k*9+6,none⟩) lg).trans u6
  replace u7:=(b1.cell (p:=⟨g,k*9+7,none⟩) lg).trans u7
  replace u8:=(b1.cell (p:=⟨g,k*9+8,none⟩) lg).trans u8
  clear hW'
  go_wp2
  have R2:=(((((((((R1.set 0 (.int .i64 t.v0) (by simp)).set 1 (.int .i64 t.v1) (by simp)).set 2 (.int .i64 t.v2) (by simp)).set 3 (.int .i64 t.x0) (by simp)).set 4 (.int .i64 t.y0) (by simp)).set 5 (.int .i64 t.x1) (by simp)).set 6 (.int .i64 t.y1) (by simp)).set 7 (.int .i64 t.x2) (by simp)).set 8 (.int .i64 t.y2) (by simp))
  have d0:=R2.cell 0 _ rfl
  have d1:=R2.cell 1 _ rfl
  have d2:=R2.cell 2 _ rfl
  have d3:=R2.cell 3 _ rfl
  have d4:=R2.cell 4 _ rfl
  have d5:=R2.cell 5 _ rfl
  have d6:=R2.cell 6 _ rfl
  have d7:=R2.cell 7 _ rfl
  have d8:=R2.cell 8 _ rfl
  refine bodyPost_ret (v:= .tuple #[.agg #[.int .i64 t.v0, .int .i64 t.v1, .int .i64 t.v2, .int .i64 t.x0, .int .i64 t.y0, .int .i64 t.x1, .int .i64 t.y1, .int .i64 t.x2, .int .i64 t.y2], .bool true]) (by simp [results,Tryz.results56,go_sem, *]) rfl ?_
  exact⟨rfl,((((((((((BW.trans (b1.mono BW.size)).setCell (Nat.le_refl _) _).setCell (Nat.le_refl _) _).setCell (Nat.le_refl _) _).setCell (Nat.le_refl _) _).setCell (Nat.le_refl _) _).setCell (Nat.le_refl _) _).setCell (Nat.le_refl _) _).setCell (Nat.le_refl _) _).setCell (Nat.le_refl _) _)⟩
theorem faceOf_mem{S:Ms}{f:Int}(h:isF S f=true){m:Nat}(hk:MsOk S m): ∃ c∈S.C,c.no=f∧faceOf S f=c.t:=by
 obtain⟨c,hc,rfl⟩:=isF_iff.1 h
 exact⟨c,hc,rfl,by unfold faceOf;rw [m_faceOf_at hk hc]⟩
theorem mFaceL(base p:Nat)(X:Mx)(S:Ms)(m:Nat)(F:Nat→Prop)(w:World)(h:MeI base p X F w)(hS:MeOk X S)(hk:MsOk S m)(hm:m≤1000)(f:Int)(hf:In64 f){t:Tr}{r:Bool}(ht:t=faceOf S f)(hr:r=isF S f):
  Calls Tryz.prog 56 #[ptR p, .int .i64 f] w fun e w'=>e= .returned (.tuple #[trV t, .bool r])∧Below w.heap.size w w':=by
 subst ht hr
 exact mFace base p X S m F w h hS hk hm f hf
theorem corner_lt(i:Int):corner i<3:=by unfold corner;omega
theorem corner_eq(i:Int):((corner i:Nat):Int)=i % 3:=by unfold corner;omega
theorem mCorner0(pp:Value)(f i:Int)(w:World)(hF: ∀ w',Below w.heap.size w w'→Calls Tryz.prog 56 #[pp, .int .i64 f] w' fun e w''=>e= .returned (.tuple #[trV trZero, .bool false])∧Below w'.heap.size w' w''):
  Calls Tryz.prog 110 #[pp, .int .i64 f, .int .i64 i] w fun e w'=>e= .returned (.tuple #[.agg #[.int .i64 0, .int .i64 0], .bool false])∧Below w.heap.size w w':=by
 obtain⟨W,hW⟩: ∃ W,W=w.alloc (.cells #[.int .i64 0, .int .i64 0] 24):=⟨_,rfl⟩
 have BW:Below w.heap.size w W:=by rw [hW];exact(Below.refl _ _).alloc (Nat.le_refl _) _
 have zW:w.heap.size<W.heap.size:=by rw [hW];simp
 have R0:Row W w.heap.size [.int .i64 0, .int .i64 0]:=by rw [hW];exact Row.new w [.int .i64 0, .int .i64 0] _
 have hW':=hW.symm
 have HF:Hid _:=hF W BW
 clear hW hF
 go_enter Tryz.func110,Tryz.ntmps110
 go_wp2_with (go_at_call 56;fail)
 refine(Calls.mono HF.out) ?_
 rintro e w1 ⟨rfl,b1⟩
 clear hW'
 obtain⟨V,hV⟩: ∃ V,V=w1.alloc (.cells (trC trZero).toArray 54):=⟨_,rfl⟩
 have z1:=b1.size
 have BV:Below w.heap.size w V:=by rw [hV];exact(BW.trans (b1.mono BW.size)).alloc (Nat.le_trans BW.size b1.size) _
 have R1:Row V w.heap.size [.int .i64 0, .int .i64 0]:=by rw [hV];exact(R0.below b1 zW).alloc _ (by omega)
 have hV':w1.alloc (.cells #[.int .i64 trZero.v0, .int .i64 trZero.v1, .int .i64 trZero.v2, .int .i64 trZero.x0, .int .i64 trZero.y0, .int .i64 trZero.x1, .int .i64 trZero.y1, .int .i64 trZero.x2, .int .i64 trZero.y2] 54)=V:=hV.symm
 have c0:=R1.cell 0 _ rfl
 have c1:=R1.cell 1 _ rfl
 have f0:=R1.free 0 (by simp)
 have f1:=R1.free 1 (by simp)
 clear hV
 go_wp2
 have R2:=(R1.set 0 (.int .i64 0) (by simp)).set 1 (.int .i64 0) (by simp)
 have d0:=R2.cell 0 _ rfl
 have d1:=R2.cell 1 _ rfl
 refine bodyPost_ret (v:= .tuple #[.agg #[.int .i64 0, .int .i64 0], .bool false]) (by simp [results,Tryz.results110,go_sem, *]) rfl ?_
 exact⟨rfl,(BV.setCell (Nat.le_refl _) _).setCell (Nat.le_refl _) _⟩
theorem mCorner(base p:Nat)(X:Mx)(S:Ms)(m:Nat)(F:Nat→Prop)(w:World)(h:MeI base p X F w)(hS:MeOk X S)(hk:MsOk S m)(hm:m≤1000)(f i:Int)(hf:In64 f)(hi:In64 i)(hb:isF S f=true):
  Calls Tryz.prog 110 #[ptR p, .int .i64 f, .int .i64 i] w fun e w'=>e= .returned (.tuple #[.agg #[.int .i64 (plX S (faceOf S f) (corner i)), .int .i64 (plY S (faceOf S f) (corner i))], .bool true])∧Below w.heap.size w w':=by
 obtain⟨c,hc,hcn,hct⟩:=faceOf_mem hb hk
 obtain⟨t,ht⟩: ∃ t,t=faceOf S f:=⟨_,rfl⟩
 obtain⟨k,hkc⟩: ∃ k,k=corner i:=⟨_,rfl⟩
 have hk3:k<3:=by rw [hkc];exact corner_lt i
 have HK3:Hid ((k:Int)=i % 3):=by unfold Hid;rw [hkc];exact corner_eq i
 rw [←ht,←hkc]
 have HV:Hid (isV S (t.v k)=true):=by unfold Hid;rw [ht,hct];exact hk.fi c hc k hk3
 obtain⟨u,HU⟩: ∃ u,Hid (u=plX S t k):=⟨_,rfl⟩
 obtain⟨v,HW⟩: ∃ v,Hid (v=plY S t k):=⟨_,rfl⟩
 have HB:Hid (true=plOk S t k):=by unfold Hid;rw [ht,hct];exact(hk.fo c hc k hk3).symm
 rw [←HU.out,←HW.out]
 have HT:Hid _:=ht
 have HR:Hid (true=isF S f):=hb.symm
 obtain⟨W,hW⟩: ∃ W,W=w.alloc (.cells #[.int .i64 0, .int .i64 0] 24):=⟨_,rfl⟩
 have BW:Below w.heap.size w W:=by rw [hW];exact(Below.refl _ _).alloc (Nat.le_refl _) _
 have zW:w.heap.size<W.heap.size:=by rw [hW];simp
 have R0:Row W w.heap.size [.int .i64 0, .int .i64 0]:=by rw [hW];exact Row.new w [.int .i64 0, .int .i64 0] _
 have hW':=hW.symm
 have HI:Hid _:=h
 have HS:Hid _:=hS
 have HK:Hid _:=hk
 have hpl:=h.row.lt
 clear hW h hS hk hb hc hcn hct ht hkc
 go_enter Tryz.func110,Tryz.ntmps110
 go_wp2_with (go_at_call 56;fail)
 refine(mFaceL base p X S m F W (HI.out.below BW) HS.out HK.out hm f hf HT.out HR.out).mono ?_
 rintro e w1 ⟨rfl,b1⟩
 clear hW'
 obtain⟨V,hV⟩: ∃ V,V=w1.alloc (.cells (trC t).toArray 54):=⟨_,rfl⟩
 have z1:=b1.size
 have BV:Below w.heap.size w V:=by rw [hV];exact(BW.trans (b1.mono BW.size)).alloc (Nat.le_trans BW.size b1.size) _
 have R1:Row V w.heap.size [.int .i64 0, .int .i64 0]:=by rw [hV];exact(R0.below b1 zW).alloc _ (by omega)
 have RT:Row V w1.heap.size (trC t):=by rw [hV];exact Row.new w1 (trC t) _
 have zV:w1.heap.size<V.heap.size:=by rw [hV];simp
 have hV':w1.alloc (.cells #[.int .i64 t.v0, .int .i64 t.v1, .int .i64 t.v2, .int .i64 t.x0, .int .i64 t.y0, .int .i64 t.x1, .int .i64 t.y1, .int .i64 t.x2, .int .i64 t.y2] 54)=V:=hV.symm
 have nt: ¬w1.heap.size=w.heap.size:=by omega
 have t0:=RT.cell 0 _ rfl
 have t1:=RT.cell 1 _ rfl
 have t2:=RT.cell 2 _ rfl
 have t3:=RT.cell 3 _ rfl
 have t4:=RT.cell 4 _ rfl
 have t5:=RT.cell 5 _ rfl
 have t6:=RT.cell 6 _ rfl
 have t7:=RT.cell 7 _ rfl
 have t8:=RT.cell 8 _ rfl
 have HIV:Hid _:=HI.out.below BV
 have hne: ∀ k,F k→ ¬k=w.heap.size:=fun k f e=>by have:=(HI.out.ft k f).2;omega
 clear hV
 go_wp2
 clear hV'
 have HSco:Hid (∀ w',Keep (fun k=>k=w.heap.size) V w'→(fun w'=>w'.cell? ⟨w1.heap.size,0,none⟩=some (.int .i64 t.v0)∧w'.cell? ⟨w1.heap.size,1,none⟩=some (.int .i64 t.v1)∧w'.cell? ⟨w1.heap.size,2,none⟩=some (.int .i64 t.v2)∧w'.cell? ⟨w1.heap.size,3,none⟩=some (.int .i64 t.x0)∧w'.cell? ⟨w1.heap.size,4,none⟩=some (.int .i64 t.y0)∧w'.cell? ⟨w1.heap.size,5,none⟩=some (.int .i64 t.x1)∧w'.cell? ⟨w1.heap.size,6,none⟩=some (.int .i64 t.y1)∧w'.cell? ⟨w1.heap.size,7,none⟩=some (.int .i64 t.x2)∧w'.cell? ⟨w1.heap.size,8,none⟩=some (.int .i64 t.y2)∧Keep (fun k=>k=w.heap.size) V w') w'):=by
  unfold Hid
  intro w' hb
  exact⟨(hb.cell (p:=⟨w1.heap.size,0,none⟩) zV nt).trans t0,(hb.cell (p:=⟨w1.heap.size,1,none⟩) zV nt).trans t1,(hb.cell (p:=⟨w1.heap.size,2,none⟩) zV nt).trans t2,(hb.cell (p:=⟨w1.heap.size,3,none⟩) zV nt).trans t3,(hb.cell (p:=⟨w1.heap.size,4,none⟩) zV nt).trans t4,(hb.cell (p:=⟨w1.heap.size,5,none⟩) zV nt).trans t5,(hb.cell (p:=⟨w1.heap.size,6,none⟩) zV nt).trans t6,(hb.cell (p:=⟨w1.heap.size,7,none⟩) zV nt).trans t7,(hb.cell (p:=⟨w1.heap.size,8,none⟩) zV nt).trans t8,hb⟩
 refine wp_region_held_drew (S:=fun w'=>w'.cell? ⟨w1.heap.size,0,none⟩=some (.int .i64 t.v0)∧w'.cell? ⟨w1.heap.size,1,none⟩=some (.int .i64 t.v1)∧w'.cell? ⟨w1.heap.size,2,none⟩=some (.int .i64 t.v2)∧w'.cell? ⟨w1.heap.size,3,none⟩=some (.int .i64 t.x0)∧w'.cell? ⟨w1.heap.size,4,none⟩=some (.int .i64 t.y0)∧w'.cell? ⟨w1.heap.size,5,none⟩=some (.int .i64 t.x1)∧w'.cell? ⟨w1.heap.size,6,none⟩=some (.int .i64 t.y1)∧w'.cell? ⟨w1.heap.size,7,none⟩=some (.int .i64 t.x2)∧w'.cell? ⟨w1.heap.size,8,none⟩=some (.int .i64 t.y2)∧Keep (fun k=>k=w.heap.size) V w') (by kernel_rfl) ?_ (fun hHeld=>?_)
 ·exact HSco.out _ ((Keep.refl _ _).drew)
 refine tn 0 ?_;refine tn 1 ?_;refine tn 2 ?_
 simp only [Act.put,ps1,ps2,ps3]
 refine tcl 3 fun Kc hK=>?_
 go_simp
 (go_at_call 162;refine(mThird i _ HK3.out).mono ?_;rintro e w2 ⟨rfl,b2⟩)
 refine hK.out _ _ ?_ (fun hHeld=>?_)
 ·exact HSco.out _ (hHeld.2.2.2.2.2.2.2.2.2.to b2)
 clear hK Kc
 refine tcl 4 fun Kc hK=>?_
 go_simp
 (go_at_call 163;refine(mPlaceL base p X S m F w2 (HIV.out.keep hHeld.2.2.2.2.2.2.2.2.2 hne) HS.out HK.out t k hk3 HV.out HB.out HU.out HW.out).mono ?_;rintro e w3 ⟨rfl,b3⟩)
 refine hK.out _ _ ?_ (fun hHeld=>?_)
 ·exact HSco.out _ (hHeld.2.2.2.2.2.2.2.2.2.to b3)
 clear hK Kc
 refine tn 5 ?_;refine tn 6 ?_
 simp only [Act.put,ps1,ps2,ps3]
 have R3:Row w3 w.heap.size [.int .i64 0, .int .i64 0]:=(show Row V.drew w.heap.size [.int .i64 0, .int .i64 0]from R1).below b2 (by simp;omega)|>.below b3 (by have:=b2.size;simp at this;omega)
 have g0:=R3.cell 0 _ rfl
 have g1:=R3.cell 1 _ rfl
 have f0:=R3.free 0 (by simp)
 have f1:=R3.free 1 (by simp)
 refine tcl 7 fun Kc hK=>?_
 go_simp
 refine hK.out _ _ ?_ (fun hHeld=>?_)
 ·exact HSco.out _ ((hHeld.2.2.2.2.2.2.2.2.2.set (Or.inl rfl) _).set (Or.inl rfl) _)
 clear hK Kc
 refine tz (i:=8) rfl ?_
 simp only [Act.put,ps1,ps2,ps3]
 refine wpAnyH_done (by kernel_rfl) ?_ _
 have KF:=hHeld.2.2.2.2.2.2.2.2.2
 have R4:=(R3.set 0 (.int .i64 u) (by simp)).set 1 (.int .i64 v) (by simp)
 have d0:=R4.cell 0 _ rfl
 have d1:=R4.cell 1 _ rfl
 go_wp2
 refine bodyPost_ret (v:= .tuple #[.agg #[.int .i64 u, .int .i64 v], .bool true]) (by simp [results,Tryz.results110,go_sem, *]) rfl ?_
 exact⟨rfl,BV.trans (KF.below BV.size (fun k e=>by omega))⟩
end Go.Proofs.YtjmhfdimoeaplaaGreat
