/-
  Joined texts of this law, part 3.
-/
import Derived.Test.YtjmhfdimoeaplaaGreatP15
import Derived.Test.YtjmhfdimoeaplaaGreatP9
import Derived.Test.YtjmhfdimoeaplaaGreatQHRings2
namespace Go.Proofs.YtjmhfdimoeaplaaGreat
open Go.RowKit Go.Maps
set_option linter.unusedVariables false
theorem ring_len{C:List Ce}{f:Wg}: ∀ (n:Nat) (a:Wg) (W R:List Wg),ringR C f n a W=some R→R.length≤W.length+n:=by
 intro n
 induction n with
 |zero=>intro a W R h;unfold ringR at h;cases h
 |succ n ih=>
  intro a W R h
  cases hs:stepW C a with
  |none=>rw[ring_out hs]at h;cases h
  |some b=>
   by_cases e:b.1.no=f.1.no∧b.2=f.2
   ·rw[ring_shut hs e]at h;cases h;simp
   ·rw[ring_on hs e]at h
    have:=ih b _ R h
    simp at this
    omega
theorem ring_few{C:List Ce}{v:Int}{W:List Wg}(h:ringQ C v=some W):W.length≤3*C.length+1:=by
 cases e:firstW C v with
 |none=>rw[ringQ_no e]at h;cases h
 |some f=>rw[ringQ_of e]at h;have:=ring_len _ _ _ _ h;simp at this;omega
theorem rkC_len(a:Wg):(rkC a).length=3:=rfl
theorem rf_ints(W:List Wg):flat rfC W=ints (W.map fun a=>a.1.no):=by
 unfold flat ints
 induction W with
 |nil=>rfl
 |cons a W ih=>rw[List.flatMap_cons,ih];rfl
set_option maxRecDepth 100000 in
set_option maxHeartbeats 4000000 in
theorem rgKnots(a b:Option Addr)(ba bb n ca cb:Nat)(D:List Wg)(w:World)(ha:OwnS w ba 122 3 a n ca (flat rkC D))(hb:OwnS w bb 122 3 b n cb (flat rkC D))(hn:n=D.length)(hD:n≤1000000):
  Calls Tryz.prog 35 #[.slice a n ca, .slice b n cb] w fun e w'=>e= .returned (.bool true)∧Below w.heap.size w w':=by
 have HA:Hid _:=ha
 have HB:Hid _:=hb
 have HN:Hid _:=hn
 clear ha hb hn
 go_enter Tryz.func35,Tryz.ntmps35
 go_wp2
 go_loopw [5] (fun i wr=> ∃ k:Nat,k≤n∧i= .int .i64 (k:Int)∧Below w.heap.size w wr) (fun i _=>n- (Go.RowKit.intOf i).toNat)
 case atStart=>exact⟨0,by omega,rfl,Below.refl _ _⟩
 case round=>
  obtain⟨k,hk,rfl,be⟩:=hrel
  by_cases hlt:k<n
  ·have hlt':(k:Int)<(n:Int):=by omega
   obtain⟨t,ht⟩: ∃ t,D[k]? =some t:=⟨D[k]'(by rw[←HN.out];exact hlt),List.getElem?_eq_getElem _⟩
   obtain⟨ga,rfl,hla,_,hca,HE⟩:=OwnS.elH rkC_len (OwnS.below HA.out be) HN.out ht
   obtain⟨gb,rfl,hlb,_,hcb,HE2⟩:=OwnS.elH rkC_len (OwnS.below HB.out be) HN.out ht
   obtain⟨x0,hx0⟩: ∃ x,x=(folK t.1.t t.2).1:=⟨_,rfl⟩
   obtain⟨x1,hx1⟩: ∃ x,x=(folK t.1.t t.2).2.1:=⟨_,rfl⟩
   obtain⟨x2,hx2⟩: ∃ x,x=(folK t.1.t t.2).2.2:=⟨_,rfl⟩
   have c0:wr.cell? ⟨ga,k*3,none⟩=some (.int .i64 x0):=by rw[hx0];exact HE 0 _ rfl
   have d0:wr.cell? ⟨gb,k*3,none⟩=some (.int .i64 x0):=by rw[hx0];exact HE2 0 _ rfl
   have c1:wr.cell? ⟨ga,k*3+1,none⟩=some (.int .i64 x1):=by rw[hx1];exact HE 1 _ rfl
   have d1:wr.cell? ⟨gb,k*3+1,none⟩=some (.int .i64 x1):=by rw[hx1];exact HE2 1 _ rfl
   have c2:wr.cell? ⟨ga,k*3+2,none⟩=some (.int .i64 x2):=by rw[hx2];exact HE 2 _ rfl
   have d2:wr.cell? ⟨gb,k*3+2,none⟩=some (.int .i64 x2):=by rw[hx2];exact HE2 2 _ rfl
   have heq: ∀ w',(Op.equalIn 10000 122 (.agg #[.int .i64 x0, .int .i64 x1, .int .i64 x2]) (.agg #[.int .i64 x0, .int .i64 x1, .int .i64 x2])).run Tryz.prog w'= .ok true w':=fun w'=>by rw[eq_knot];simp
   clear HE HE2 ht hx0 hx1 hx2
   go_wp2
   have HSs:Hid (∀ w',Below (wr.heap.size) wr w'→(fun w'=>w'.cell? ⟨ga,k*3,none⟩=some (.int .i64 x0)∧w'.cell? ⟨ga,k*3+1,none⟩=some (.int .i64 x1)∧w'.cell? ⟨ga,k*3+2,none⟩=some (.int .i64 x2)∧w'.cell? ⟨gb,k*3,none⟩=some (.int .i64 x0)∧w'.cell? ⟨gb,k*3+1,none⟩=some (.int .i64 x1)∧w'.cell? ⟨gb,k*3+2,none⟩=some (.int .i64 x2)∧Below (wr.heap.size) wr w') w'):=by
    unfold Hid
    intro w' hb
    exact⟨(hb.cell (p:=⟨ga,k*3,none⟩) hla).trans c0,(hb.cell (p:=⟨ga,k*3+1,none⟩) hla).trans c1,(hb.cell (p:=⟨ga,k*3+2,none⟩) hla).trans c2,(hb.cell (p:=⟨gb,k*3,none⟩) hlb).trans d0,(hb.cell (p:=⟨gb,k*3+1,none⟩) hlb).trans d1,(hb.cell (p:=⟨gb,k*3+2,none⟩) hlb).trans d2,hb⟩
   refine wp_region_held_drew (S:=fun w'=>w'.cell? ⟨ga,k*3,none⟩=some (.int .i64 x0)∧w'.cell? ⟨ga,k*3+1,none⟩=some (.int .i64 x1)∧w'.cell? ⟨ga,k*3+2,none⟩=some (.int .i64 x2)∧w'.cell? ⟨gb,k*3,none⟩=some (.int .i64 x0)∧w'.cell? ⟨gb,k*3+1,none⟩=some (.int .i64 x1)∧w'.cell? ⟨gb,k*3+2,none⟩=some (.int .i64 x2)∧Below (wr.heap.size) wr w') (by kernel_rfl) ?_ (fun hHeld=>?_)
   ·exact HSs.out _ ((Below.refl _ _).drew)
   refine tn 0 ?_;refine tn 1 ?_
   simp only[Act.put,ps1,ps2,ps3]
   refine tn 2 ?_;refine tn 3 ?_
   simp only[Act.put,ps1,ps2,ps3]
   refine tn 4 ?_;refine tn 5 ?_
   simp only[Act.put,ps1,ps2,ps3]
   refine tn 6 ?_;refine tn 7 ?_
   simp only[Act.put,ps1,ps2,ps3]
   refine tn 8 ?_
   simp only[Act.put,ps1,ps2,ps3]
   refine wpAnyH_done (by kernel_rfl) ?_ _
   have b2:=hHeld.2.2.2.2.2.2
   have be2:Below w.heap.size w wr.drew:=be.trans (b2.mono be.size)
   clear hHeld HSs
   go_wp2
   go_roundw
   case rel=>exact⟨k+1,by omega,by simp,be2⟩
   case measure=>simp[Go.RowKit.intOf];omega
  ·obtain rfl:n=k:=by omega
   go_wp2
   go_ret
   exact⟨rfl,be⟩
theorem zzHR{P:Prop}(h:P:=by
 go_wp2_with (go_at_call 30;fail)
 refine Calls.mono CP.out ?_
 rintro e w1 ⟨pm,px,S,rfl,hB,hn,b1⟩
 obtain⟨⟨Fm,Fx,h1,h2,hd⟩,O⟩:=hB
 have z1:=b1.size
 have CR:Hid _:=hRing meSp w.heap.size pm S 40 Fm w1 h1 O (by omega) v HV.out
 have H2:Hid _:=h2
 have HO:Hid _:=O
 have lens:=O.lens
 clear CP h1 h2 hd O
 go_wp2_with (go_at_call 31;fail)
 refine Calls.mono CR.out ?_
 rintro e w2 ⟨ht,b2⟩
 have z2:=b2.size
 have q2:MeR w.heap.size px S Fx w2:=MeR.keep H2.out (Keep.of (F:=fun _=>False) b2) (fun _ _ x=>x)
 obtain⟨pv,pf,Fv,Ff,va,vc,fa,fc,hrow,_,_,hV,hC,_⟩:=q2.ex
 have r4:=hrow.cell 4 _ rfl
 have CG:Hid _:=rgRing w.heap.size fa fc S.C v w2 hC (by omega) HO.out.fe (fun c hc=>wgOffs HO.out hc) (fun c hc d hd e=>by have h1:=(faceOf_of HO.out hc).2;have h2:=(faceOf_of HO.out hd).2;rw[e]at h1;rw[h1]at h2;cases h2;rfl)
 have LK:Hid _:=q2.look
 obtain⟨nC,hnC⟩: ∃ n,n=S.C.length:=⟨_,rfl⟩
 rw[←hnC]at r4 CG
 have B2:Below w.heap.size w w2:=b1.trans (b2.mono z1)
 obtain⟨rv,hrv⟩: ∃ r,r=fAt Vt.no v S.V 0:=⟨_,rfl⟩
 have HRV:Hid _:=hrv
 clear CR H2 hrow hV hC q2 hnC hrv
 cases hq:ringQ S.C v with
 |none=>
  rw[hq]at ht CG
  have ht:e=_:=ht
  subst ht
  clear hq
  go_wp2_with (go_at_call 32;fail)
  refine Calls.mono CG.out ?_
  rintro e w3 ⟨⟨ka,fb,kc,fd,rfl,ok,of⟩,b3⟩
  have z3:=b3.size
  have CV:Hid _:=mrVertAt px S v w3 (LK.out.below b3) (by omega) HRV.out
  have CKN:Hid (∀ w',Below w3.heap.size w3 w'→Calls Tryz.prog 35 #[.slice none 0 0, .slice ka 0 kc] w' fun e w''=>e= .returned (.bool true)∧Below w'.heap.size w' w''):=fun w' hb=>rgKnots none ka w.heap.size w2.heap.size 0 0 kc [] w' (ownS_none _ _ _ _) (OwnS.below ok hb) rfl (by omega)
  have CIN:Hid (∀ w',Below w3.heap.size w3 w'→Calls Tryz.prog 36 #[.slice none 0 0, .slice fb 0 fd] w' fun e w''=>e= .returned (.bool true)∧Below w'.heap.size w' w''):=fun w' hb=>anInts none fb 0 0 fd [] w' (Own.sl (ownS_none w' w.heap.size 3 1)) (Own.sl (OwnS.below of hb)) (by omega)
  clear CG r4 ok of
  go_wp2_with (go_at_call 33;fail)
  refine Calls.mono CV.out ?_
  rintro e w4 ⟨rfl,b4⟩
  have z4:=b4.size
  have B4:Below w.heap.size w w4:=(B2.trans (b3.mono (by omega))).trans (b4.mono (by omega))
  clear CV
  by_cases hneg:rv<0
  ·go_wp2_with (go_at_call 34;refine Calls.mono (hLives _) ?_;rintro e w5 ⟨rfl,b5⟩)
   go_ret
   exact⟨rfl,B4.trans (b5.mono (by omega))⟩
  ·go_wp2_with (go_at_call 35;fail)
   refine Calls.mono (CKN.out w4 b4) ?_
   rintro e w5 ⟨rfl,b5⟩
   have z5:=b5.size
   have CI:Hid _:=CIN.out w5 (b4.trans (b5.mono (by omega)))
   go_wp2_with (first
    |(go_at_call 36;refine Calls.mono CI.out ?_;rintro e w6 ⟨rfl,b6⟩)
    |(go_at_call 34;refine Calls.mono (hLives _) ?_;rintro e w7 ⟨rfl,b7⟩))
   go_ret
   have z6:=b6.size
   exact⟨rfl,((B4.trans (b5.mono (by omega))).trans (b6.mono (by omega))).trans (b7.mono (by omega))⟩
 |some W1=>
  rw[hq]at ht CG
  obtain⟨ka,fb,kc,fd,rfl,ok,of⟩:=ht
  have hpos: ¬rv<0:=by
   obtain⟨f,hf⟩: ∃ f,firstW S.C v=some f:=by
    cases e:firstW S.C v with
    |none=>rw[ringQ_no e]at hq;cases hq
    |some f=>exact⟨f,rfl⟩
   have hw:=first_is hf
   have:=HO.out.fi f.1 hw.c f.2 hw.i
   rw[hw.v]at this
   unfold isV at this
   rw[decide_eq_true_iff,←HRV.out]at this
   omega
  have hlen:W1.length≤1000000:=by
   have:=ring_few hq
   omega
  obtain⟨n1,hn1⟩: ∃ n,n=W1.length:=⟨_,rfl⟩
  have HN1:Hid _:=hn1
  rw[←hn1]at ok of hlen ⊢
  have Hok:Hid _:=ok
  have Hof:Hid _:=of
  clear hq ok of
  go_wp2_with (go_at_call 32;fail)
  refine Calls.mono CG.out ?_
  rintro e w3 ⟨⟨kx,fx,ky,fy,rfl,okx,ofx⟩,b3⟩
  have z3:=b3.size
  rw[←hn1]at okx ofx ⊢
  have CV:Hid _:=mrVertAt px S v w3 (LK.out.below b3) (by omega) HRV.out
  have Hokx:Hid _:=okx
  have Hofx:Hid _:=ofx
  clear CG r4 okx ofx hn1
  go_wp2_with (go_at_call 33;fail)
  refine Calls.mono CV.out ?_
  rintro e w4 ⟨rfl,b4⟩
  have z4:=b4.size
  have B4:Below w.heap.size w w4:=(B2.trans (b3.mono (by omega))).trans (b4.mono (by omega))
  have CK:Hid _:=rgKnots ka kx w1.heap.size w2.heap.size n1 kc ky W1 w4 (OwnS.below (OwnS.below Hok.out b3) b4) (OwnS.below Hokx.out b4) HN1.out (by omega)
  clear CV
  go_wp2_with (go_at_call 35;fail)
  refine Calls.mono CK.out ?_
  rintro e w5 ⟨rfl,b5⟩
  have z5:=b5.size
  have CI:Hid _:=anInts fb fx n1 fd fy (W1.map fun a=>a.1.no) w5 (by rw[←rf_ints];exact Own.sl (OwnS.below (OwnS.below (OwnS.below Hof.out b3) b4) b5)) (by rw[←rf_ints];exact Own.sl (OwnS.below (OwnS.below Hofx.out b4) b5)) (by omega)
  clear CK
  go_wp2_with (first
   |(go_at_call 36;refine Calls.mono CI.out ?_;rintro e w6 ⟨rfl,b6⟩)
   |(go_at_call 34;refine Calls.mono (hLives _) ?_;rintro e w7 ⟨rfl,b7⟩))
  go_ret
  have z6:=b6.size
  exact⟨rfl,((B4.trans (b5.mono (by omega))).trans (b6.mono (by omega))).trans (b7.mono (by omega))⟩):P:=h
set_option maxRecDepth 100000 in
set_option maxHeartbeats 4000000 in
theorem hrings_of(side:Int)(a:Option Addr)(n c:Nat)(L:List Act)(v:Int)(w:World)(hL:ActsAt w a n c L)(hv:In64 v):
  Calls Tryz.prog 7 #[.int .i64 side, .slice a n c, .int .i64 v] w fun e w'=>e= .returned (.bool true)∧Below w.heap.size w w':=by
 have HV:Hid _:=hv
 have CPS:Hid (∀ s:Int,1≤s∧s≤17179869184→Calls Tryz.prog 30 #[.int .i64 s, .slice a n c] w fun e w'=> ∃ (pm px:Nat) (S:Ms),e= .returned (.tuple #[ptR pm,ptR px, .bool true])∧BothM MeP w.heap.size pm px S 40 w'∧S.n=s∧Below w.heap.size w w'):=fun s hs=>plays_of meSpec s hs a n c L w hL
 clear hL hv
 go_enter Tryz.func7,Tryz.ntmps7
 by_cases h1:side<1
 ·have CP:Hid _:=CPS.out 10 (by omega)
  clear CPS
  exact zzHR
 ·by_cases h2:17179869184<side
  ·have CP:Hid _:=CPS.out 10 (by omega)
   clear CPS
   exact zzHR
  ·have CP:Hid _:=CPS.out side (by omega)
   clear CPS
   exact zzHR
end Go.Proofs.YtjmhfdimoeaplaaGreat
