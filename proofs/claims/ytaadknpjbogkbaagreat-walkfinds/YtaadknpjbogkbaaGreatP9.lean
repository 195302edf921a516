/-
  Joined texts, part 9:
  What zelligeref11's Across answers of an edge that begins at corner 1.
  What zelligeref11's Across answers of an edge that begins at corner 2.
  What zelligeref11's Across answers.
  What the program's mesh must do (its own shape in memory is left open: MP): the laws of la
  Plain arithmetic of numbers of two words: what word a sum, a difference and a product have
  What package wide's smallest functions answer: a sum, a difference, a number with the othe
  wide.Mul, Cmp, Sign, and the product whose text every law of this layer looks at.
-/
import Derived.Test.YtaadknpjbogkbaaGreatP8
import Derived.Test.YtaadknpjbogkbaaGreatP7
import Derived.Test.YtaadknpjbogkbaaGreatP2
import Derived.WalkKit
import Derived.Laws.Bits64b
import Derived.Test.YtaadknpjbogkbaaGreatP1
import Derived.Test.YtaadknpjbogkbaaGreatRows
import Derived.WalkSpells
import Derived.StillTactics
import Derived.Laws.Pointers
import Derived.Laws.Externs
import Derived.Shelf.Spec.BitsCarry
import Derived.RowKit3
import Derived.Laws.BytesArg
import Derived.WalkSmall
import Derived.Deep.QuietTactic
import Derived.BigQuiet
namespace Go.Proofs.YtaadknpjbogkbaaGreat
open Go.RowKit
set_option linter.unusedVariables false
set_option maxRecDepth 100000 in
set_option maxHeartbeats 4000000 in
theorem across_1(p:Nat)(S:Ms)(f i:Int)(w:World)(h:MeLook p S w)(hC:S.C.length≤1000)(hco: ∀ c∈S.C,offB c.t)(idx:Nat)(c0:Ce)(hi:fAt Ce.no f S.C 0=(idx:Int))(hx:S.C[idx]? =some c0)(hcn:nx (corner i)=1):
  Calls Tryz.prog 29 #[ptR p, .int .i64 f, .int .i64 i] w (AcrPost c0.t 1 (acr c0.t 1 S.C) w):=by
 have HL:Hid _:=h
 have HI:Hid ((idx:Int)=_):=hi.symm
 have HX0:Hid _:=hx
 have hct:=hco c0 (List.mem_of_getElem? hx)
 have hlt0:=(List.getElem?_eq_some_iff.1 hx).1
 have hd:decide ((idx:Int)<0)=false:=decide_eq_false (by omega)
 obtain⟨⟨hm1,hm2⟩,hm3⟩:=corner_at i
 obtain⟨m,hm⟩: ∃ m,m=Int.tmod i 3:=⟨_,rfl⟩
 rw [←hm]at hm1 hm2 hm3
 have hm':=hm.symm
 obtain⟨cn,hcn'⟩: ∃ cn,cn=corner i:=⟨_,rfl⟩
 rw [←hcn']at hcn hm3
 have hc3:cn<3:=by rw [hcn'];unfold corner;omega
 have hm4:Int.tmod ((cn:Int)+1) 3=1:=by rw [Int.tmod_eq_emod_of_nonneg (by omega)];unfold nx at hcn;omega
 have hm5:((cn:Int)+1) % 3=1:=by unfold nx at hcn;omega
 have hm6:(m+3) % 3=(cn:Int):=by rw [←Int.tmod_eq_emod_of_nonneg (by omega)];exact hm3
 clear h hi hx hm hcn hcn'
 obtain⟨W0,hW0⟩: ∃ W,W=w.alloc (.cells ([.int .i64 0, .int .i64 0]:List Value).toArray 32):=⟨_,rfl⟩
 have B0:Below w.heap.size w W0:=by rw [hW0];exact(Below.refl _ _).alloc (Nat.le_refl _) _
 have z0:W0.heap.size=w.heap.size+1:=by rw [hW0];simp
 have R0:Row W0 w.heap.size [.int .i64 0, .int .i64 0]:=by rw [hW0];exact Row.new w _ _
 have hW0':w.alloc (.cells #[.int .i64 0, .int .i64 0] 32)=W0:=hW0.symm
 clear hW0
 go_enter Tryz.func29,Tryz.ntmps29
 go_wp2_with (go_at_call 27;fail)
 refine(mrFaceAt p S f W0 (HL.out.below B0) hC HI.out).mono ?_
 rintro e w1 ⟨rfl,b1⟩
 have L1:=(HL.out.below B0).below b1
 have R1:=R0.below b1 (by omega)
 have z1:=b1.size
 obtain⟨g1,cp1,x1,x2,x3,hrow1,hc1,hbl1,H1⟩:=L1.face HX0.out
 have g1_:=H1 1 _ rfl
 have g2_:=H1 2 _ rfl
 have g3_:=H1 3 _ rfl
 have g4_:=H1 4 _ rfl
 have g5_:=H1 5 _ rfl
 have g6_:=H1 6 _ rfl
 have g7_:=H1 7 _ rfl
 have g8_:=H1 8 _ rfl
 have g9_:=H1 9 _ rfl
 have m1:=hrow1.cell 4 _ rfl
 obtain⟨nn,hnn⟩: ∃ nn,nn=S.C.length:=⟨_,rfl⟩
 have HNN:Hid _:=hnn
 rw [←hnn]at m1 hc1 hlt0 hC
 obtain⟨t,ht⟩: ∃ t,t=c0.t:=⟨_,rfl⟩
 have hW0'':=hW0'
 clear hW0' hW0''
 obtain⟨W2,hW2⟩: ∃ W,W=w1.alloc (.cells (trC c0.t).toArray 49):=⟨_,rfl⟩
 have B2:Below w1.heap.size w1 W2:=by rw [hW2];exact(Below.refl _ _).alloc (Nat.le_refl _) _
 have z2:W2.heap.size=w1.heap.size+1:=by rw [hW2];simp
 have T2:Row W2 w1.heap.size (trC c0.t):=by rw [hW2];exact Row.new w1 _ _
 have R2:=R1.below B2 (by omega)
 have L2:Hid _:=L1.below B2
 have hW2':w1.alloc (.cells #[.int .i64 c0.t.v0, .int .i64 c0.t.v1, .int .i64 c0.t.v2, .int .i64 c0.t.x0, .int .i64 c0.t.y0, .int .i64 c0.t.x1, .int .i64 c0.t.y1, .int .i64 c0.t.x2, .int .i64 c0.t.y2] 49)=W2:=hW2.symm
 have BW:Below w.heap.size w W2:=(B0.trans (b1.mono (by omega))).trans (B2.mono (by omega))
 clear hW2 hrow1 H1 L1 R1 R0 hnn ht
 go_wp2
 clear hW2' g1_ g2_ g3_ g4_ g5_ g6_ g7_ g8_ g9_ m1
 go_loopw [13] (fun q wr=> ∃ k:Nat,k≤S.C.length∧q= .int .i64 (k:Int)∧acr c0.t 1 S.C=acr c0.t 1 (S.C.drop k)∧Below W2.heap.size W2 wr) (fun q _=>S.C.length- (intOf q).toNat)
 case atStart=>exact⟨0,by omega,rfl,by simp,Below.refl _ _⟩
 case round=>
  obtain⟨k,hk,rfl,hac,bel⟩:=hrel
  have zr:=bel.size
  by_cases hlt:k<S.C.length
  ·obtain⟨c,hx⟩: ∃ c,S.C[k]? =some c:=⟨S.C[k],List.getElem?_eq_getElem hlt⟩
   have hcm:=hco c (List.mem_of_getElem? hx)
   have HAC:Hid _:=hac
   have HX:Hid _:=hx
   obtain⟨y1,y2,ya,yca,yb,ycb,hrow⟩:=(L2.out.below bel).row
   have m2:=hrow.cell 4 _ rfl
   rw [←HNN.out]at m2 hlt
   clear hac hrow hx hk
   go_wp2
   go_loopw [14] (fun q wr'=> ∃ j:Nat,j≤3∧q= .int .i64 (j:Int)∧(∀ j',j'<j→opp c0.t 1 c.t j'=false)∧Below W2.heap.size W2 wr') (fun q _=>3- (intOf q).toNat)
   case atStart=>exact⟨0,by omega,rfl,(fun j' h=>by omega),bel⟩
   case round=>
    obtain⟨j,hj,rfl,hno,bel2⟩:=hrel
    have zr2:=bel2.size
    have HNo:Hid _:=hno
    clear m2
    by_cases hj3:j<3
    ·obtain⟨g8,cp8,x4,x5,x6,hrow8w,hc8,hbw8,H8w⟩:=HL.out.face HX.out
     have BR:Below w.heap.size w wr:=BW.trans (bel2.mono (by omega))
     have zBR:=BR.size
     have hpw:=hrow8w.lt
     have H8: ∀ j u,(ceC c)[j]? =some u→wr.cell? ⟨g8,k*10+j,none⟩=some u:=fun j u hj=>(BR.cell (p:=⟨g8,k*10+j,none⟩) hbw8).trans (H8w j u hj)
     have hrow8:=hrow8w.below BR hpw
     have hbl8:g8<wr.heap.size:=by omega
     clear H8w hrow8w
     have k0:wr.cell? ⟨g8,k*10,none⟩=some (.int .i64 c.no):=H8 0 _ rfl
     have k1:=H8 1 _ rfl
     have k2:=H8 2 _ rfl
     have k3:=H8 3 _ rfl
     have k4:=H8 4 _ rfl
     have k5:=H8 5 _ rfl
     have k6:=H8 6 _ rfl
     have k7:=H8 7 _ rfl
     have k8:=H8 8 _ rfl
     have k9:=H8 9 _ rfl
     have hp8:=hrow8.lt
     have m8:=hrow8.cell 4 _ rfl
     rw [←HNN.out]at m8 hc8
     have T8:=T2.below bel2 (by omega)
     have R8:=R2.below bel2 (by omega)
     obtain⟨W3,hW3⟩: ∃ W,W=wr.alloc (.cells (trC c.t).toArray 49):=⟨_,rfl⟩
     have B3:Below wr.heap.size wr W3:=by rw [hW3];exact(Below.refl _ _).alloc (Nat.le_refl _) _
     have z3:W3.heap.size=wr.heap.size+1:=by rw [hW3];simp
     have U3:Row W3 wr.heap.size (trC c.t):=by rw [hW3];exact Row.new wr _ _
     have T3:=T8.below B3 (by omega)
     have R3:=R8.below B3 (by omega)
     have hW3':wr.alloc (.cells #[.int .i64 c.t.v0, .int .i64 c.t.v1, .int .i64 c.t.v2, .int .i64 c.t.x0, .int .i64 c.t.y0, .int .i64 c.t.x1, .int .i64 c.t.y1, .int .i64 c.t.x2, .int .i64 c.t.y2] 49)=W3:=hW3.symm
     have t3_0:=T3.cell 0 _ rfl
     have u3_0:=U3.cell 0 _ rfl
     have t3_1:=T3.cell 1 _ rfl
     have u3_1:=U3.cell 1 _ rfl
     have t3_2:=T3.cell 2 _ rfl
     have u3_2:=U3.cell 2 _ rfl
     have t3_3:=T3.cell 3 _ rfl
     have u3_3:=U3.cell 3 _ rfl
     have t3_4:=T3.cell 4 _ rfl
     have u3_4:=U3.cell 4 _ rfl
     have t3_5:=T3.cell 5 _ rfl
     have u3_5:=U3.cell 5 _ rfl
     have t3_6:=T3.cell 6 _ rfl
     have u3_6:=U3.cell 6 _ rfl
     have t3_7:=T3.cell 7 _ rfl
     have u3_7:=U3.cell 7 _ rfl
     have t3_8:=T3.cell 8 _ rfl
     have u3_8:=U3.cell 8 _ rfl
     have m3:=(B3.cell (p:=⟨p,4,none⟩) hp8).trans m8
     have k03:=(B3.cell (p:=⟨g8,k*10,none⟩) hbl8).trans k0
     clear hW3 H8 hrow8 hno T8 R8
     rcases(by omega:j=0∨j=1∨j=2)with rfl|rfl|rfl
     ·obtain⟨r,hr⟩: ∃ r,r=opp c0.t 1 c.t 0:=⟨_,rfl⟩
      have HJ:Hid _:=hr
      clear hr
      go_wp2_with (go_at_call 63;fail)
      refine(twin_10r c0.t c.t W3 hct hcm HJ.out).mono ?_
      rintro e w9 ⟨rfl,b9⟩
      have z9:=b9.size
      have BB:Below W2.heap.size W2 w9:=(bel2.trans (B3.mono (by omega))).trans (b9.mono (by omega))
      have T9:=T3.below b9 (by omega)
      have U9:=U3.below b9 (by omega)
      have R9:=R3.below b9 (by omega)
      have hp9:p<W3.heap.size:=by omega
      have hg9:g8<W3.heap.size:=by omega
      have m9:=(b9.cell (p:=⟨p,4,none⟩) hp9).trans m3
      have k09:=(b9.cell (p:=⟨g8,k*10,none⟩) hg9).trans k03
      clear t3_0 u3_0 t3_1 u3_1 t3_2 u3_2 t3_3 u3_3 t3_4 u3_4 t3_5 u3_5 t3_6 u3_6 t3_7 u3_7 t3_8 u3_8 m3 k03 k0 k1 k2 k3 k4 k5 k6 k7 k8 k9 m8 hW3' T3 U3 R3
      cases r with
      |true=>
       have HF:Hid (acr c0.t 1 S.C=some (c,0)):=by unfold Hid;rw [HAC.out];exact acr_found HX.out (by decide) HNo.out HJ.out.symm
       have t9x:=T9.cell 7 _ rfl
       have t9y:=T9.cell 8 _ rfl
       obtain⟨W5,hW5⟩: ∃ W,W=w9.alloc (.cells ([.int .i64 c0.t.x2, .int .i64 c0.t.y2]:List Value).toArray 32):=⟨_,rfl⟩
       have B5:Below w9.heap.size w9 W5:=by rw [hW5];exact(Below.refl _ _).alloc (Nat.le_refl _) _
       have z5:W5.heap.size=w9.heap.size+1:=by rw [hW5];simp
       have O5:Row W5 w9.heap.size [.int .i64 c0.t.x2, .int .i64 c0.t.y2]:=by rw [hW5];exact Row.new w9 _ _
       have hW5':w9.alloc (.cells #[.int .i64 c0.t.x2, .int .i64 c0.t.y2] 32)=W5:=hW5.symm
       have U5:=U9.below B5 (by omega)
       have R5:=R9.below B5 (by omega)
       have ox:=O5.cell 0 _ rfl
       have oy:=O5.cell 1 _ rfl
       have ux:=U5.cell 3 _ rfl
       have uy:=U5.cell 4 _ rfl
       have m5:=(B5.cell (p:=⟨p,4,none⟩) (Nat.lt_of_lt_of_le hp9 z9)).trans m9
       have k05:=(B5.cell (p:=⟨g8,k*10,none⟩) (Nat.lt_of_lt_of_le hg9 z9)).trans k09
       have wj:(IntKind.i64.wrap 2).tmod 3=2:=by decide
       have r0:=R5.cell 0 _ rfl
       have r1:=R5.cell 1 _ rfl
       have f0:=R5.free 0 (by simp)
       have f1:=R5.free 1 (by simp)
       have qct:=hct.all
       have qcm:=hcm.all
       obtain⟨dx,gdx⟩: ∃ dx,dx=c0.t.x2- c.t.x0:=⟨_,rfl⟩
       have vdx:IntKind.i64.wrap (c0.t.x2- c.t.x0)=dx:=by rw [wrap_i64,gdx];unfold wrap64;omega
       have Gdx:Hid _:=gdx
       clear gdx
       obtain⟨dy,gdy⟩: ∃ dy,dy=c0.t.y2- c.t.y0:=⟨_,rfl⟩
       have vdy:IntKind.i64.wrap (c0.t.y2- c.t.y0)=dy:=by rw [wrap_i64,gdy];unfold wrap64;omega
       have Gdy:Hid _:=gdy
       clear gdy
       clear hW5 qct qcm 
       go_wp2
       refine wp_region_held_drew (S:=fun w'=>w'.cell? ⟨p,4,none⟩=some (.slice (some ⟨g8,0,none⟩) nn cp8)∧w'.cell? ⟨g8,k*10,none⟩=some (.int .i64 c.no)∧w'.cell? ⟨w9.heap.size,0,none⟩=some (.int .i64 c0.t.x2)∧w'.cell? ⟨w9.heap.size,1,none⟩=some (.int .i64 c0.t.y2)∧w'.cell? ⟨wr.heap.size,3,none⟩=some (.int .i64 c.t.x0)∧w'.cell? ⟨wr.heap.size,4,none⟩=some (.int .i64 c.t.y0)) (by kernel_rfl) ?_ (fun hHeld=>?_)
       ·exact⟨m5,k05,ox,oy,ux,uy⟩
       refine tn 0 ?_;refine tn 1 ?_;refine tn 2 ?_;refine tn 3 ?_;refine tn 4 ?_;refine tn 5 ?_;refine tn 6 ?_;refine tn 7 ?_;refine tn 8 ?_;refine tn 9 ?_;refine tn 10 ?_;refine tn 11 ?_;refine tn 12 ?_;refine tn 13 ?_;refine tn 14 ?_;refine tn 15 ?_;refine tn 16 ?_;refine tn 17 ?_;refine tn 18 ?_;refine tn 19 ?_;refine tn 20 ?_;refine tn 21 ?_;refine tn 22 ?_;refine tn 23 ?_;refine tn 24 ?_;refine tn 25 ?_;refine tn 26 ?_;refine tn 27 ?_;refine tn 28 ?_;refine tn 29 ?_
       simp only [Act.put,ps1,ps2,ps3]
       refine tcl 30 fun Kc hK=>?_
       go_simp
       refine hK.out _ _ ?_ (fun hHeld=>?_)
       ·exact⟨(World.cell?_setCell_other _ _ _ _ (by intro q;simp only [Addr.mk.injEq]at q;omega)).trans ((World.cell?_setCell_other _ _ _ _ (by intro q;simp only [Addr.mk.injEq]at q;omega)).trans m5),(World.cell?_setCell_other _ _ _ _ (by intro q;simp only [Addr.mk.injEq]at q;omega)).trans ((World.cell?_setCell_other _ _ _ _ (by intro q;simp only [Addr.mk.injEq]at q;omega)).trans k05),(World.cell?_setCell_other _ _ _ _ (by intro q;simp only [Addr.mk.injEq]at q;omega)).trans ((World.cell?_setCell_other _ _ _ _ (by intro q;simp only [Addr.mk.injEq]at q;omega)).trans ox),(World.cell?_setCell_other _ _ _ _ (by intro q;simp only [Addr.mk.injEq]at q;omega)).trans ((World.cell?_setCell_other _ _ _ _ (by intro q;simp only [Addr.mk.injEq]at q;omega)).trans oy),(World.cell?_setCell_other _ _ _ _ (by intro q;simp only [Addr.mk.injEq]at q;omega)).trans ((World.cell?_setCell_other _ _ _ _ (by intro q;simp only [Addr.mk.injEq]at q;omega)).trans ux),(World.cell?_setCell_other _ _ _ _ (by intro q;simp only [Addr.mk.injEq]at q;omega)).trans ((World.cell?_setCell_other _ _ _ _ (by intro q;simp only [Addr.mk.injEq]at q;omega)).trans uy)⟩
       clear hK Kc
       refine tz (i:=31) rfl ?_
       simp only [Act.put,ps1,ps2,ps3]
       refine wpAnyH_done (by kernel_rfl) ?_ _
       have rC:=(R5.set 0 (.int .i64 dx) (by simp)).set 1 (.int .i64 dy) (by simp)
       have rc0:=rC.cell 0 _ rfl
       have rc1:=rC.cell 1 _ rfl
       go_wp2
       have BF:Below w.heap.size w W5:=(BW.trans (BB.mono (by omega))).trans (B5.mono (by omega))
       refine bodyPost_ret (v:= .tuple #[.int .i64 c.no, .int .i64 2, .agg #[.int .i64 dx, .int .i64 dy], .bool true]) (by simp [results,Tryz.results29,go_sem, *]) rfl ⟨?_,below_put2 BF.drew (by omega) _ _⟩
       rw [HF.out,Gdx.out,Gdy.out]
       rfl
      |false=>
       go_wp2
       go_roundw
       case rel=>exact⟨1,by omega,by simp,(fun j' h'=>if e:j'=0 then by rw [e];exact HJ.out.symm else HNo.out j' (by omega)),BB⟩
       case measure=>simp [intOf]
     ·obtain⟨r,hr⟩: ∃ r,r=opp c0.t 1 c.t 1:=⟨_,rfl⟩
      have HJ:Hid _:=hr
      clear hr
      go_wp2_with (go_at_call 63;fail)
      refine(twin_11r c0.t c.t W3 hct hcm HJ.out).mono ?_
      rintro e w9 ⟨rfl,b9⟩
      have z9:=b9.size
      have BB:Below W2.heap.size W2 w9:=(bel2.trans (B3.mono (by omega))).trans (b9.mono (by omega))
      have T9:=T3.below b9 (by omega)
      have U9:=U3.below b9 (by omega)
      have R9:=R3.below b9 (by omega)
      have hp9:p<W3.heap.size:=by omega
      have hg9:g8<W3.heap.size:=by omega
      have m9:=(b9.cell (p:=⟨p,4,none⟩) hp9).trans m3
      have k09:=(b9.cell (p:=⟨g8,k*10,none⟩) hg9).trans k03
      clear t3_0 u3_0 t3_1 u3_1 t3_2 u3_2 t3_3 u3_3 t3_4 u3_4 t3_5 u3_5 t3_6 u3_6 t3_7 u3_7 t3_8 u3_8 m3 k03 k0 k1 k2 k3 k4 k5 k6 k7 k8 k9 m8 hW3' T3 U3 R3
      cases r with
      |true=>
       have HF:Hid (acr c0.t 1 S.C=some (c,1)):=by unfold Hid;rw [HAC.out];exact acr_found HX.out (by decide) HNo.out HJ.out.symm
       have t9x:=T9.cell 7 _ rfl
       have t9y:=T9.cell 8 _ rfl
       obtain⟨W5,hW5⟩: ∃ W,W=w9.alloc (.cells ([.int .i64 c0.t.x2, .int .i64 c0.t.y2]:List Value).toArray 32):=⟨_,rfl⟩
       have B5:Below w9.heap.size w9 W5:=by rw [hW5];exact(Below.refl _ _).alloc (Nat.le_refl _) _
       have z5:W5.heap.size=w9.heap.size+1:=by rw [hW5];simp
       have O5:Row W5 w9.heap.size [.int .i64 c0.t.x2, .int .i64 c0.t.y2]:=by rw [hW5];exact Row.new w9 _ _
       have hW5':w9.alloc (.cells #[.int .i64 c0.t.x2, .int .i64 c0.t.y2] 32)=W5:=hW5.symm
       have U5:=U9.below B5 (by omega)
       have R5:=R9.below B5 (by omega)
       have ox:=O5.cell 0 _ rfl
       have oy:=O5.cell 1 _ rfl
       have ux:=U5.cell 5 _ rfl
       have uy:=U5.cell 6 _ rfl
       have m5:=(B5.cell (p:=⟨p,4,none⟩) (Nat.lt_of_lt_of_le hp9 z9)).trans m9
       have k05:=(B5.cell (p:=⟨g8,k*10,none⟩) (Nat.lt_of_lt_of_le hg9 z9)).trans k09
       have wj:(IntKind.i64.wrap 3).tmod 3=0:=by decide
       have r0:=R5.cell 0 _ rfl
       have r1:=R5.cell 1 _ rfl
       have f0:=R5.free 0 (by simp)
       have f1:=R5.free 1 (by simp)
       have qct:=hct.all
       have qcm:=hcm.all
       obtain⟨dx,gdx⟩: ∃ dx,dx=c0.t.x2- c.t.x1:=⟨_,rfl⟩
       have vdx:IntKind.i64.wrap (c0.t.x2- c.t.x1)=dx:=by rw [wrap_i64,gdx];unfold wrap64;omega
       have Gdx:Hid _:=gdx
       clear gdx
       obtain⟨dy,gdy⟩: ∃ dy,dy=c0.t.y2- c.t.y1:=⟨_,rfl⟩
       have vdy:IntKind.i64.wrap (c0.t.y2- c.t.y1)=dy:=by rw [wrap_i64,gdy];unfold wrap64;omega
       have Gdy:Hid _:=gdy
       clear gdy
       clear hW5 qct qcm 
       go_wp2
       refine wp_region_held_drew (S:=fun w'=>w'.cell? ⟨p,4,none⟩=some (.slice (some ⟨g8,0,none⟩) nn cp8)∧w'.cell? ⟨g8,k*10,none⟩=some (.int .i64 c.no)∧w'.cell? ⟨w9.heap.size,0,none⟩=some (.int .i64 c0.t.x2)∧w'.cell? ⟨w9.heap.size,1,none⟩=some (.int .i64 c0.t.y2)∧w'.cell? ⟨wr.heap.size,5,none⟩=some (.int .i64 c.t.x1)∧w'.cell? ⟨wr.heap.size,6,none⟩=some (.int .i64 c.t.y1)) (by kernel_rfl) ?_ (fun hHeld=>?_)
       ·exact⟨m5,k05,ox,oy,ux,uy⟩
       refine tn 0 ?_;refine tn 1 ?_;refine tn 2 ?_;refine tn 3 ?_;refine tn 4 ?_;refine tn 5 ?_;refine tn 6 ?_;refine tn 7 ?_;refine tn 8 ?_;refine tn 9 ?_;refine tn 10 ?_;refine tn 11 ?_;refine tn 12 ?_;refine tn 13 ?_;refine tn 14 ?_;refine tn 15 ?_;refine tn 16 ?_;refine tn 17 ?_;refine tn 18 ?_;refine tn 19 ?_;refine tn 20 ?_;refine tn 21 ?_;refine tn 22 ?_;refine tn 23 ?_;refine tn 24 ?_;refine tn 25 ?_;refine tn 26 ?_;refine tn 27 ?_;refine tn 28 ?_;refine tn 29 ?_
       simp only [Act.put,ps1,ps2,ps3]
       refine tcl 30 fun Kc hK=>?_
       go_simp
       refine hK.out _ _ ?_ (fun hHeld=>?_)
       ·exact⟨(World.cell?_setCell_other _ _ _ _ (by intro q;simp only [Addr.mk.injEq]at q;omega)).trans ((World.cell?_setCell_other _ _ _ _ (by intro q;simp only [Addr.mk.injEq]at q;omega)).trans m5),(World.cell?_setCell_other _ _ _ _ (by intro q;simp only [Addr.mk.injEq]at q;omega)).trans ((World.cell?_setCell_other _ _ _ _ (by intro q;simp only [Addr.mk.injEq]at q;omega)).trans k05),(World.cell?_setCell_other _ _ _ _ (by intro q;simp only [Addr.mk.injEq]at q;omega)).trans ((World.cell?_setCell_other _ _ _ _ (by intro q;simp only [Addr.mk.injEq]at q;omega)).trans ox),(World.cell?_setCell_other _ _ _ _ (by intro q;simp only [Addr.mk.injEq]at q;omega)).trans ((World.cell?_setCell_other _ _ _ _ (by intro q;simp only [Addr.mk.injEq]at q;omega)).trans oy),(World.cell?_setCell_other _ _ _ _ (by intro q;simp only [Addr.mk.injEq]at q;omega)).trans ((World.cell?_setCell_other _ _ _ _ (by intro q;simp only [Addr.mk.injEq]at q;omega)).trans ux),(World.cell?_setCell_other _ _ _ _ (by intro q;simp only [Addr.mk.injEq]at q;omega)).trans ((World.cell?_setCell_other _ _ _ _ (by intro q;simp only [Addr.mk.injEq]at q;omega)).trans uy)⟩
       clear hK Kc
       refine tz (i:=31) rfl ?_
       simp only [Act.put,ps1,ps2,ps3]
       refine wpAnyH_done (by kernel_rfl) ?_ _
       have rC:=(R5.set 0 (.int .i64 dx) (by simp)).set 1 (.int .i64 dy) (by simp)
       have rc0:=rC.cell 0 _ rfl
       have rc1:=rC.cell 1 _ rfl
       go_wp2
       have BF:Below w.heap.size w W5:=(BW.trans (BB.mono (by omega))).trans (B5.mono (by omega))
       refine bodyPost_ret (v:= .tuple #[.int .i64 c.no, .int .i64 0, .agg #[.int .i64 dx, .int .i64 dy], .bool true]) (by simp [results,Tryz.results29,go_sem, *]) rfl ⟨?_,below_put2 BF.drew (by omega) _ _⟩
       rw [HF.out,Gdx.out,Gdy.out]
       rfl
      |false=>
       go_wp2
       go_roundw
       case rel=>exact⟨2,by omega,by simp,(fun j' h'=>if e:j'=1 then by rw [e];exact HJ.out.symm else HNo.out j' (by omega)),BB⟩
       case measure=>simp [intOf]
     ·obtain⟨r,hr⟩: ∃ r,r=opp c0.t 1 c.t 2:=⟨_,rfl⟩
      have HJ:Hid _:=hr
      clear hr
      go_wp2_with (go_at_call 63;fail)
      refine(twin_12r c0.t c.t W3 hct hcm HJ.out).mono ?_
      rintro e w9 ⟨rfl,b9⟩
      have z9:=b9.size
      have BB:Below W2.heap.size W2 w9:=(bel2.trans (B3.mono (by omega))).trans (b9.mono (by omega))
      have T9:=T3.below b9 (by omega)
      have U9:=U3.below b9 (by omega)
      have R9:=R3.below b9 (by omega)
      have hp9:p<W3.heap.size:=by omega
      have hg9:g8<W3.heap.size:=by omega
      have m9:=(b9.cell (p:=⟨p,4,none⟩) hp9).trans m3
      have k09:=(b9.cell (p:=⟨g8,k*10,none⟩) hg9).trans k03
      clear t3_0 u3_0 t3_1 u3_1 t3_2 u3_2 t3_3 u3_3 t3_4 u3_4 t3_5 u3_5 t3_6 u3_6 t3_7 u3_7 t3_8 u3_8 m3 k03 k0 k1 k2 k3 k4 k5 k6 k7 k8 k9 m8 hW3' T3 U3 R3
      cases r with
      |true=>
       have HF:Hid (acr c0.t 1 S.C=some (c,2)):=by unfold Hid;rw [HAC.out];exact acr_found HX.out (by decide) HNo.out HJ.out.symm
       have t9x:=T9.cell 7 _ rfl
       have t9y:=T9.cell 8 _ rfl
       obtain⟨W5,hW5⟩: ∃ W,W=w9.alloc (.cells ([.int .i64 c0.t.x2, .int .i64 c0.t.y2]:List Value).toArray 32):=⟨_,rfl⟩
       have B5:Below w9.heap.size w9 W5:=by rw [hW5];exact(Below.refl _ _).alloc (Nat.le_refl _) _
       have z5:W5.heap.size=w9.heap.size+1:=by rw [hW5];simp
       have O5:Row W5 w9.heap.size [.int .i64 c0.t.x2, .int .i64 c0.t.y2]:=by rw [hW5];exact Row.new w9 _ _
       have hW5':w9.alloc (.cells #[.int .i64 c0.t.x2, .int .i64 c0.t.y2] 32)=W5:=hW5.symm
       have U5:=U9.below B5 (by omega)
       have R5:=R9.below B5 (by omega)
       have ox:=O5.cell 0 _ rfl
       have oy:=O5.cell 1 _ rfl
       have ux:=U5.cell 7 _ rfl
       have uy:=U5.cell 8 _ rfl
       have m5:=(B5.cell (p:=⟨p,4,none⟩) (Nat.lt_of_lt_of_le hp9 z9)).trans m9
       have k05:=(B5.cell (p:=⟨g8,k*10,none⟩) (Nat.lt_of_lt_of_le hg9 z9)).trans k09
       have wj:(IntKind.i64.wrap 4).tmod 3=1:=by decide
       have r0:=R5.cell 0 _ rfl
       have r1:=R5.cell 1 _ rfl
       have f0:=R5.free 0 (by simp)
       have f1:=R5.free 1 (by simp)
       have qct:=hct.all
       have qcm:=hcm.all
       obtain⟨dx,gdx⟩: ∃ dx,dx=c0.t.x2- c.t.x2:=⟨_,rfl⟩
       have vdx:IntKind.i64.wrap (c0.t.x2- c.t.x2)=dx:=by rw [wrap_i64,gdx];unfold wrap64;omega
       have Gdx:Hid _:=gdx
       clear gdx
       obtain⟨dy,gdy⟩: ∃ dy,dy=c0.t.y2- c.t.y2:=⟨_,rfl⟩
       have vdy:IntKind.i64.wrap (c0.t.y2- c.t.y2)=dy:=by rw [wrap_i64,gdy];unfold wrap64;omega
       have Gdy:Hid _:=gdy
       clear gdy
       clear hW5 qct qcm 
       go_wp2
       refine wp_region_held_drew (S:=fun w'=>w'.cell? ⟨p,4,none⟩=some (.slice (some ⟨g8,0,none⟩) nn cp8)∧w'.cell? ⟨g8,k*10,none⟩=some (.int .i64 c.no)∧w'.cell? ⟨w9.heap.size,0,none⟩=some (.int .i64 c0.t.x2)∧w'.cell? ⟨w9.heap.size,1,none⟩=some (.int .i64 c0.t.y2)∧w'.cell? ⟨wr.heap.size,7,none⟩=some (.int .i64 c.t.x2)∧w'.cell? ⟨wr.heap.size,8,none⟩=some (.int .i64 c.t.y2)) (by kernel_rfl) ?_ (fun hHeld=>?_)
       ·exact⟨m5,k05,ox,oy,ux,uy⟩
       refine tn 0 ?_;refine tn 1 ?_;refine tn 2 ?_;refine tn 3 ?_;refine tn 4 ?_;refine tn 5 ?_;refine tn 6 ?_;refine tn 7 ?_;refine tn 8 ?_;refine tn 9 ?_;refine tn 10 ?_;refine tn 11 ?_;refine tn 12 ?_;refine tn 13 ?_;refine tn 14 ?_;refine tn 15 ?_;refine tn 16 ?_;refine tn 17 ?_;refine tn 18 ?_;refine tn 19 ?_;refine tn 20 ?_;refine tn 21 ?_;refine tn 22 ?_;refine tn 23 ?_;refine tn 24 ?_;refine tn 25 ?_;refine tn 26 ?_;refine tn 27 ?_;refine tn 28 ?_;refine tn 29 ?_
       simp only [Act.put,ps1,ps2,ps3]
       refine tcl 30 fun Kc hK=>?_
       go_simp
       refine hK.out _ _ ?_ (fun hHeld=>?_)
       ·exact⟨(World.cell?_setCell_other _ _ _ _ (by intro q;simp only [Addr.mk.injEq]at q;omega)).trans ((World.cell?_setCell_other _ _ _ _ (by intro q;simp only [Addr.mk.injEq]at q;omega)).trans m5),(World.cell?_setCell_other _ _ _ _ (by intro q;simp only [Addr.mk.injEq]at q;omega)).trans ((World.cell?_setCell_other _ _ _ _ (by intro q;simp only [Addr.mk.injEq]at q;omega)).trans k05),(World.cell?_setCell_other _ _ _ _ (by intro q;simp only [Addr.mk.injEq]at q;omega)).trans ((World.cell?_setCell_other _ _ _ _ (by intro q;simp only [Addr.mk.injEq]at q;omega)).trans ox),(World.cell?_setCell_other _ _ _ _ (by intro q;simp only [Addr.mk.injEq]at q;omega)).trans ((World.cell?_setCell_other _ _ _ _ (by intro q;simp only [Addr.mk.injEq]at q;omega)).trans oy),(World.cell?_setCell_other _ _ _ _ (by intro q;simp only [Addr.mk.injEq]at q;omega)).trans ((World.cell?_setCell_other _ _ _ _ (by intro q;simp only [Addr.mk.injEq]at q;omega)).trans ux),(World.cell?_setCell_other _ _ _ _ (by intro q;simp only [Addr.mk.injEq]at q;omega)).trans ((World.cell?_setCell_other _ _ _ _ (by intro q;simp only [Addr.mk.injEq]at q;omega)).trans uy)⟩
       clear hK Kc
       refine tz (i:=31) rfl ?_
       simp only [Act.put,ps1,ps2,ps3]
       refine wpAnyH_done (by kernel_rfl) ?_ _
       have rC:=(R5.set 0 (.int .i64 dx) (by simp)).set 1 (.int .i64 dy) (by simp)
       have rc0:=rC.cell 0 _ rfl
       have rc1:=rC.cell 1 _ rfl
       go_wp2
       have BF:Below w.heap.size w W5:=(BW.trans (BB.mono (by omega))).trans (B5.mono (by omega))
       refine bodyPost_ret (v:= .tuple #[.int .i64 c.no, .int .i64 1, .agg #[.int .i64 dx, .int .i64 dy], .bool true]) (by simp [results,Tryz.results29,go_sem, *]) rfl ⟨?_,below_put2 BF.drew (by omega) _ _⟩
       rw [HF.out,Gdx.out,Gdy.out]
       rfl
      |false=>
       go_wp2
       go_roundw
       case rel=>exact⟨3,by omega,by simp,(fun j' h'=>if e:j'=2 then by rw [e];exact HJ.out.symm else HNo.out j' (by omega)),BB⟩
       case measure=>simp [intOf]
    ·obtain rfl:j=3:=by omega
     have HT:Hid (acr c0.t 1 S.C=acr c0.t 1 (S.C.drop (k+1))):=by unfold Hid;rw [HAC.out];exact acr_on HX.out hno
     clear hno
     go_wp2
     go_roundw
     case rel=>exact⟨k+1,by have:=HNN.out;omega,by simp,HT.out,bel2⟩
     case measure=>have:=HNN.out;simp [intOf];omega
  ·obtain rfl:k=S.C.length:=by omega
   have HT:Hid (acr c0.t 1 S.C=none):=by unfold Hid;rw [hac,List.drop_length];rfl
   obtain⟨y1,y2,ya,yca,yb,ycb,hrow⟩:=(L2.out.below bel).row
   have m2:=hrow.cell 4 _ rfl
   rw [←HNN.out]at m2 ⊢
   have R8:=R2.below bel (by omega)
   have r0:=R8.cell 0 _ rfl
   have r1:=R8.cell 1 _ rfl
   have f0:=R8.free 0 (by simp)
   have f1:=R8.free 1 (by simp)
   have rC:=(R8.set 0 (.int .i64 0) (by simp)).set 1 (.int .i64 0) (by simp)
   have rc0:=rC.cell 0 _ rfl
   have rc1:=rC.cell 1 _ rfl
   clear hac hrow
   go_wp2
   refine bodyPost_ret (v:= .tuple #[.int .i64 (-1), .int .i64 0, .agg #[.int .i64 0, .int .i64 0], .bool false]) (by simp [results,Tryz.results29,go_sem, *]) rfl ⟨?_,below_put2 (BW.trans (bel.mono (by omega))) (by omega) _ _⟩
   rw [HT.out]
   rfl
set_option maxRecDepth 100000 in
set_option maxHeartbeats 4000000 in
theorem across_2(p:Nat)(S:Ms)(f i:Int)(w:World)(h:MeLook p S w)(hC:S.C.length≤1000)(hco: ∀ c∈S.C,offB c.t)(idx:Nat)(c0:Ce)(hi:fAt Ce.no f S.C 0=(idx:Int))(hx:S.C[idx]? =some c0)(hcn:nx (corner i)=2):
  Calls Tryz.prog 29 #[ptR p, .int .i64 f, .int .i64 i] w (AcrPost c0.t 2 (acr c0.t 2 S.C) w):=by
 have HL:Hid _:=h
 have HI:Hid ((idx:Int)=_):=hi.symm
 have HX0:Hid _:=hx
 have hct:=hco c0 (List.mem_of_getElem? hx)
 have hlt0:=(List.getElem?_eq_some_iff.1 hx).1
 have hd:decide ((idx:Int)<0)=false:=decide_eq_false (by omega)
 obtain⟨⟨hm1,hm2⟩,hm3⟩:=corner_at i
 obtain⟨m,hm⟩: ∃ m,m=Int.tmod i 3:=⟨_,rfl⟩
 rw [←hm]at hm1 hm2 hm3
 have hm':=hm.symm
 obtain⟨cn,hcn'⟩: ∃ cn,cn=corner i:=⟨_,rfl⟩
 rw [←hcn']at hcn hm3
 have hc3:cn<3:=by rw [hcn'];unfold corner;omega
 have hm4:Int.tmod ((cn:Int)+1) 3=2:=by rw [Int.tmod_eq_emod_of_nonneg (by omega)];unfold nx at hcn;omega
 have hm5:((cn:Int)+1) % 3=2:=by unfold nx at hcn;omega
 have hm6:(m+3) % 3=(cn:Int):=by rw [←Int.tmod_eq_emod_of_nonneg (by omega)];exact hm3
 clear h hi hx hm hcn hcn'
 obtain⟨W0,hW0⟩: ∃ W,W=w.alloc (.cells ([.int .i64 0, .int .i64 0]:List Value).toArray 32):=⟨_,rfl⟩
 have B0:Below w.heap.size w W0:=by rw [hW0];exact(Below.refl _ _).alloc (Nat.le_refl _) _
 have z0:W0.heap.size=w.heap.size+1:=by rw [hW0];simp
 have R0:Row W0 w.heap.size [.int .i64 0, .int .i64 0]:=by rw [hW0];exact Row.new w _ _
 have hW0':w.alloc (.cells #[.int .i64 0, .int .i64 0] 32)=W0:=hW0.symm
 clear hW0
 go_enter Tryz.func29,Tryz.ntmps29
 go_wp2_with (go_at_call 27;fail)
 refine(mrFaceAt p S f W0 (HL.out.below B0) hC HI.out).mono ?_
 rintro e w1 ⟨rfl,b1⟩
 have L1:=(HL.out.below B0).below b1
 have R1:=R0.below b1 (by omega)
 have z1:=b1.size
 obtain⟨g1,cp1,x1,x2,x3,hrow1,hc1,hbl1,H1⟩:=L1.face HX0.out
 have g1_:=H1 1 _ rfl
 have g2_:=H1 2 _ rfl
 have g3_:=H1 3 _ rfl
 have g4_:=H1 4 _ rfl
 have g5_:=H1 5 _ rfl
 have g6_:=H1 6 _ rfl
 have g7_:=H1 7 _ rfl
 have g8_:=H1 8 _ rfl
 have g9_:=H1 9 _ rfl
 have m1:=hrow1.cell 4 _ rfl
 obtain⟨nn,hnn⟩: ∃ nn,nn=S.C.length:=⟨_,rfl⟩
 have HNN:Hid _:=hnn
 rw [←hnn]at m1 hc1 hlt0 hC
 obtain⟨t,ht⟩: ∃ t,t=c0.t:=⟨_,rfl⟩
 have hW0'':=hW0'
 clear hW0' hW0''
 obtain⟨W2,hW2⟩: ∃ W,W=w1.alloc (.cells (trC c0.t).toArray 49):=⟨_,rfl⟩
 have B2:Below w1.heap.size w1 W2:=by rw [hW2];exact(Below.refl _ _).alloc (Nat.le_refl _) _
 have z2:W2.heap.size=w1.heap.size+1:=by rw [hW2];simp
 have T2:Row W2 w1.heap.size (trC c0.t):=by rw [hW2];exact Row.new w1 _ _
 have R2:=R1.below B2 (by omega)
 have L2:Hid _:=L1.below B2
 have hW2':w1.alloc (.cells #[.int .i64 c0.t.v0, .int .i64 c0.t.v1, .int .i64 c0.t.v2, .int .i64 c0.t.x0, .int .i64 c0.t.y0, .int .i64 c0.t.x1, .int .i64 c0.t.y1, .int .i64 c0.t.x2, .int .i64 c0.t.y2] 49)=W2:=hW2.symm
 have BW:Below w.heap.size w W2:=(B0.trans (b1.mono (by omega))).trans (B2.mono (by omega))
 clear hW2 hrow1 H1 L1 R1 R0 hnn ht
 go_wp2
 clear hW2' g1_ g2_ g3_ g4_ g5_ g6_ g7_ g8_ g9_ m1
 go_loopw [13] (fun q wr=> ∃ k:Nat,k≤S.C.length∧q= .int .i64 (k:Int)∧acr c0.t 2 S.C=acr c0.t 2 (S.C.drop k)∧Below W2.heap.size W2 wr) (fun q _=>S.C.length- (intOf q).toNat)
 case atStart=>exact⟨0,by omega,rfl,by simp,Below.refl _ _⟩
 case round=>
  obtain⟨k,hk,rfl,hac,bel⟩:=hrel
  have zr:=bel.size
  by_cases hlt:k<S.C.length
  ·obtain⟨c,hx⟩: ∃ c,S.C[k]? =some c:=⟨S.C[k],List.getElem?_eq_getElem hlt⟩
   have hcm:=hco c (List.mem_of_getElem? hx)
   have HAC:Hid _:=hac
   have HX:Hid _:=hx
   obtain⟨y1,y2,ya,yca,yb,ycb,hrow⟩:=(L2.out.below bel).row
   have m2:=hrow.cell 4 _ rfl
   rw [←HNN.out]at m2 hlt
   clear hac hrow hx hk
   go_wp2
   go_loopw [14] (fun q wr'=> ∃ j:Nat,j≤3∧q= .int .i64 (j:Int)∧(∀ j',j'<j→opp c0.t 2 c.t j'=false)∧Below W2.heap.size W2 wr') (fun q _=>3- (intOf q).toNat)
   case atStart=>exact⟨0,by omega,rfl,(fun j' h=>by omega),bel⟩
   case round=>
    obtain⟨j,hj,rfl,hno,bel2⟩:=hrel
    have zr2:=bel2.size
    have HNo:Hid _:=hno
    clear m2
    by_cases hj3:j<3
    ·obtain⟨g8,cp8,x4,x5,x6,hrow8w,hc8,hbw8,H8w⟩:=HL.out.face HX.out
     have BR:Below w.heap.size w wr:=BW.trans (bel2.mono (by omega))
     have zBR:=BR.size
     have hpw:=hrow8w.lt
     have H8: ∀ j u,(ceC c)[j]? =some u→wr.cell? ⟨g8,k*10+j,none⟩=some u:=fun j u hj=>(BR.cell (p:=⟨g8,k*10+j,none⟩) hbw8).trans (H8w j u hj)
     have hrow8:=hrow8w.below BR hpw
     have hbl8:g8<wr.heap.size:=by omega
     clear H8w hrow8w
     have k0:wr.cell? ⟨g8,k*10,none⟩=some (.int .i64 c.no):=H8 0 _ rfl
     have k1:=H8 1 _ rfl
     have k2:=H8 2 _ rfl
     have k3:=H8 3 _ rfl
     have k4:=H8 4 _ rfl
     have k5:=H8 5 _ rfl
     have k6:=H8 6 _ rfl
     have k7:=H8 7 _ rfl
     have k8:=H8 8 _ rfl
     have k9:=H8 9 _ rfl
     have hp8:=hrow8.lt
     have m8:=hrow8.cell 4 _ rfl
     rw [←HNN.out]at m8 hc8
     have T8:=T2.below bel2 (by omega)
     have R8:=R2.below bel2 (by omega)
     obtain⟨W3,hW3⟩: ∃ W,W=wr.alloc (.cells (trC c.t).toArray 49):=⟨_,rfl⟩
     have B3:Below wr.heap.size wr W3:=by rw [hW3];exact(Below.refl _ _).alloc (Nat.le_refl _) _
     have z3:W3.heap.size=wr.heap.size+1:=by rw [hW3];simp
     have U3:Row W3 wr.heap.size (trC c.t):=by rw [hW3];exact Row.new wr _ _
     have T3:=T8.below B3 (by omega)
     have R3:=R8.below B3 (by omega)
     have hW3':wr.alloc (.cells #[.int .i64 c.t.v0, .int .i64 c.t.v1, .int .i64 c.t.v2, .int .i64 c.t.x0, .int .i64 c.t.y0, .int .i64 c.t.x1, .int .i64 c.t.y1, .int .i64 c.t.x2, .int .i64 c.t.y2] 49)=W3:=hW3.symm
     have t3_0:=T3.cell 0 _ rfl
     have u3_0:=U3.cell 0 _ rfl
     have t3_1:=T3.cell 1 _ rfl
     have u3_1:=U3.cell 1 _ rfl
     have t3_2:=T3.cell 2 _ rfl
     have u3_2:=U3.cell 2 _ rfl
     have t3_3:=T3.cell 3 _ rfl
     have u3_3:=U3.cell 3 _ rfl
     have t3_4:=T3.cell 4 _ rfl
     have u3_4:=U3.cell 4 _ rfl
     have t3_5:=T3.cell 5 _ rfl
     have u3_5:=U3.cell 5 _ rfl
     have t3_6:=T3.cell 6 _ rfl
     have u3_6:=U3.cell 6 _ rfl
     have t3_7:=T3.cell 7 _ rfl
     have u3_7:=U3.cell 7 _ rfl
     have t3_8:=T3.cell 8 _ rfl
     have u3_8:=U3.cell 8 _ rfl
     have m3:=(B3.cell (p:=⟨p,4,none⟩) hp8).trans m8
     have k03:=(B3.cell (p:=⟨g8,k*10,none⟩) hbl8).trans k0
     clear hW3 H8 hrow8 hno T8 R8
     rcases(by omega:j=0∨j=1∨j=2)with rfl|rfl|rfl
     ·obtain⟨r,hr⟩: ∃ r,r=opp c0.t 2 c.t 0:=⟨_,rfl⟩
      have HJ:Hid _:=hr
      clear hr
      go_wp2_with (go_at_call 63;fail)
      refine(twin_20r c0.t c.t W3 hct hcm HJ.out).mono ?_
      rintro e w9 ⟨rfl,b9⟩
      have z9:=b9.size
      have BB:Below W2.heap.size W2 w9:=(bel2.trans (B3.mono (by omega))).trans (b9.mono (by omega))
      have T9:=T3.below b9 (by omega)
      have U9:=U3.below b9 (by omega)
      have R9:=R3.below b9 (by omega)
      have hp9:p<W3.heap.size:=by omega
      have hg9:g8<W3.heap.size:=by omega
      have m9:=(b9.cell (p:=⟨p,4,none⟩) hp9).trans m3
      have k09:=(b9.cell (p:=⟨g8,k*10,none⟩) hg9).trans k03
      clear t3_0 u3_0 t3_1 u3_1 t3_2 u3_2 t3_3 u3_3 t3_4 u3_4 t3_5 u3_5 t3_6 u3_6 t3_7 u3_7 t3_8 u3_8 m3 k03 k0 k1 k2 k3 k4 k5 k6 k7 k8 k9 m8 hW3' T3 U3 R3
      cases r with
      |true=>
       have HF:Hid (acr c0.t 2 S.C=some (c,0)):=by unfold Hid;rw [HAC.out];exact acr_found HX.out (by decide) HNo.out HJ.out.symm
       have t9x:=T9.cell 3 _ rfl
       have t9y:=T9.cell 4 _ rfl
       obtain⟨W5,hW5⟩: ∃ W,W=w9.alloc (.cells ([.int .i64 c0.t.x0, .int .i64 c0.t.y0]:List Value).toArray 32):=⟨_,rfl⟩
       have B5:Below w9.heap.size w9 W5:=by rw [hW5];exact(Below.refl _ _).alloc (Nat.le_refl _) _
       have z5:W5.heap.size=w9.heap.size+1:=by rw [hW5];simp
       have O5:Row W5 w9.heap.size [.int .i64 c0.t.x0, .int .i64 c0.t.y0]:=by rw [hW5];exact Row.new w9 _ _
       have hW5':w9.alloc (.cells #[.int .i64 c0.t.x0, .int .i64 c0.t.y0] 32)=W5:=hW5.symm
       have U5:=U9.below B5 (by omega)
       have R5:=R9.below B5 (by omega)
       have ox:=O5.cell 0 _ rfl
       have oy:=O5.cell 1 _ rfl
       have ux:=U5.cell 3 _ rfl
       have uy:=U5.cell 4 _ rfl
       have m5:=(B5.cell (p:=⟨p,4,none⟩) (Nat.lt_of_lt_of_le hp9 z9)).trans m9
       have k05:=(B5.cell (p:=⟨g8,k*10,none⟩) (Nat.lt_of_lt_of_le hg9 z9)).trans k09
       have wj:(IntKind.i64.wrap 2).tmod 3=2:=by decide
       have r0:=R5.cell 0 _ rfl
       have r1:=R5.cell 1 _ rfl
       have f0:=R5.free 0 (by simp)
       have f1:=R5.free 1 (by simp)
       have qct:=hct.all
       have qcm:=hcm.all
       obtain⟨dx,gdx⟩: ∃ dx,dx=c0.t.x0- c.t.x0:=⟨_,rfl⟩
       have vdx:IntKind.i64.wrap (c0.t.x0- c.t.x0)=dx:=by rw [wrap_i64,gdx];unfold wrap64;omega
       have Gdx:Hid _:=gdx
       clear gdx
       obtain⟨dy,gdy⟩: ∃ dy,dy=c0.t.y0- c.t.y0:=⟨_,rfl⟩
       have vdy:IntKind.i64.wrap (c0.t.y0- c.t.y0)=dy:=by rw [wrap_i64,gdy];unfold wrap64;omega
       have Gdy:Hid _:=gdy
       clear gdy
       clear hW5 qct qcm 
       go_wp2
       refine wp_region_held_drew (S:=fun w'=>w'.cell? ⟨p,4,none⟩=some (.slice (some ⟨g8,0,none⟩) nn cp8)∧w'.cell? ⟨g8,k*10,none⟩=some (.int .i64 c.no)∧w'.cell? ⟨w9.heap.size,0,none⟩=some (.int .i64 c0.t.x0)∧w'.cell? ⟨w9.heap.size,1,none⟩=some (.int .i64 c0.t.y0)∧w'.cell? ⟨wr.heap.size,3,none⟩=some (.int .i64 c.t.x0)∧w'.cell? ⟨wr.heap.size,4,none⟩=some (.int .i64 c.t.y0)) (by kernel_rfl) ?_ (fun hHeld=>?_)
       ·exact⟨m5,k05,ox,oy,ux,uy⟩
       refine tn 0 ?_;refine tn 1 ?_;refine tn 2 ?_;refine tn 3 ?_;refine tn 4 ?_;refine tn 5 ?_;refine tn 6 ?_;refine tn 7 ?_;refine tn 8 ?_;refine tn 9 ?_;refine tn 10 ?_;refine tn 11 ?_;refine tn 12 ?_;refine tn 13 ?_;refine tn 14 ?_;refine tn 15 ?_;refine tn 16 ?_;refine tn 17 ?_;refine tn 18 ?_;refine tn 19 ?_;refine tn 20 ?_;refine tn 21 ?_;refine tn 22 ?_;refine tn 23 ?_;refine tn 24 ?_;refine tn 25 ?_;refine tn 26 ?_;refine tn 27 ?_;refine tn 28 ?_;refine tn 29 ?_
       simp only [Act.put,ps1,ps2,ps3]
       refine tcl 30 fun Kc hK=>?_
       go_simp
       refine hK.out _ _ ?_ (fun hHeld=>?_)
       ·exact⟨(World.cell?_setCell_other _ _ _ _ (by intro q;simp only [Addr.mk.injEq]at q;omega)).trans ((World.cell?_setCell_other _ _ _ _ (by intro q;simp only [Addr.mk.injEq]at q;omega)).trans m5),(World.cell?_setCell_other _ _ _ _ (by intro q;simp only [Addr.mk.injEq]at q;omega)).trans ((World.cell?_setCell_other _ _ _ _ (by intro q;simp only [Addr.mk.injEq]at q;omega)).trans k05),(World.cell?_setCell_other _ _ _ _ (by intro q;simp only [Addr.mk.injEq]at q;omega)).trans ((World.cell?_setCell_other _ _ _ _ (by intro q;simp only [Addr.mk.injEq]at q;omega)).trans ox),(World.cell?_setCell_other _ _ _ _ (by intro q;simp only [Addr.mk.injEq]at q;omega)).trans ((World.cell?_setCell_other _ _ _ _ (by intro q;simp only [Addr.mk.injEq]at q;omega)).trans oy),(World.cell?_setCell_other _ _ _ _ (by intro q;simp only [Addr.mk.injEq]at q;omega)).trans ((World.cell?_setCell_other _ _ _ _ (by intro q;simp only [Addr.mk.injEq]at q;omega)).trans ux),(World.cell?_setCell_other _ _ _ _ (by intro q;simp only [Addr.mk.injEq]at q;omega)).trans ((World.cell?_setCell_other _ _ _ _ (by intro q;simp only [Addr.mk.injEq]at q;omega)).trans uy)⟩
       clear hK Kc
       refine tz (i:=31) rfl ?_
       simp only [Act.put,ps1,ps2,ps3]
       refine wpAnyH_done (by kernel_rfl) ?_ _
       have rC:=(R5.set 0 (.int .i64 dx) (by simp)).set 1 (.int .i64 dy) (by simp)
       have rc0:=rC.cell 0 _ rfl
       have rc1:=rC.cell 1 _ rfl
       go_wp2
       have BF:Below w.heap.size w W5:=(BW.trans (BB.mono (by omega))).trans (B5.mono (by omega))
       refine bodyPost_ret (v:= .tuple #[.int .i64 c.no, .int .i64 2, .agg #[.int .i64 dx, .int .i64 dy], .bool true]) (by simp [results,Tryz.results29,go_sem, *]) rfl ⟨?_,below_put2 BF.drew (by omega) _ _⟩
       rw [HF.out,Gdx.out,Gdy.out]
       rfl
      |false=>
       go_wp2
       go_roundw
       case rel=>exact⟨1,by omega,by simp,(fun j' h'=>if e:j'=0 then by rw [e];exact HJ.out.symm else HNo.out j' (by omega)),BB⟩
       case measure=>simp [intOf]
     ·obtain⟨r,hr⟩: ∃ r,r=opp c0.t 2 c.t 1:=⟨_,rfl⟩
      have HJ:Hid _:=hr
      clear hr
      go_wp2_with (go_at_call 63;fail)
      refine(twin_21r c0.t c.t W3 hct hcm HJ.out).mono ?_
      rintro e w9 ⟨rfl,b9⟩
      have z9:=b9.size
      have BB:Below W2.heap.size W2 w9:=(bel2.trans (B3.mono (by omega))).trans (b9.mono (by omega))
      have T9:=T3.below b9 (by omega)
      have U9:=U3.below b9 (by omega)
      have R9:=R3.below b9 (by omega)
      have hp9:p<W3.heap.size:=by omega
      have hg9:g8<W3.heap.size:=by omega
      have m9:=(b9.cell (p:=⟨p,4,none⟩) hp9).trans m3
      have k09:=(b9.cell (p:=⟨g8,k*10,none⟩) hg9).trans k03
      clear t3_0 u3_0 t3_1 u3_1 t3_2 u3_2 t3_3 u3_3 t3_4 u3_4 t3_5 u3_5 t3_6 u3_6 t3_7 u3_7 t3_8 u3_8 m3 k03 k0 k1 k2 k3 k4 k5 k6 k7 k8 k9 m8 hW3' T3 U3 R3
      cases r with
      |true=>
       have HF:Hid (acr c0.t 2 S.C=some (c,1)):=by unfold Hid;rw [HAC.out];exact acr_found HX.out (by decide) HNo.out HJ.out.symm
       have t9x:=T9.cell 3 _ rfl
       have t9y:=T9.cell 4 _ rfl
       obtain⟨W5,hW5⟩: ∃ W,W=w9.alloc (.cells ([.int .i64 c0.t.x0, .int .i64 c0.t.y0]:List Value).toArray 32):=⟨_,rfl⟩
       have B5:Below w9.heap.size w9 W5:=by rw [hW5];exact(Below.refl _ _).alloc (Nat.le_refl _) _
       have z5:W5.heap.size=w9.heap.size+1:=by rw [hW5];simp
       have O5:Row W5 w9.heap.size [.int .i64 c0.t.x0, .int .i64 c0.t.y0]:=by rw [hW5];exact Row.new w9 _ _
       have hW5':w9.alloc (.cells #[.int .i64 c0.t.x0, .int .i64 c0.t.y0] 32)=W5:=hW5.symm
       have U5:=U9.below B5 (by omega)
       have R5:=R9.below B5 (by omega)
       have ox:=O5.cell 0 _ rfl
       have oy:=O5.cell 1 _ rfl
       have ux:=U5.cell 5 _ rfl
       have uy:=U5.cell 6 _ rfl
       have m5:=(B5.cell (p:=⟨p,4,none⟩) (Nat.lt_of_lt_of_le hp9 z9)).trans m9
       have k05:=(B5.cell (p:=⟨g8,k*10,none⟩) (Nat.lt_of_lt_of_le hg9 z9)).trans k09
       have wj:(IntKind.i64.wrap 3).tmod 3=0:=by decide
       have r0:=R5.cell 0 _ rfl
       have r1:=R5.cell 1 _ rfl
       have f0:=R5.free 0 (by simp)
       have f1:=R5.free 1 (by simp)
       have qct:=hct.all
       have qcm:=hcm.all
       obtain⟨dx,gdx⟩: ∃ dx,dx=c0.t.x0- c.t.x1:=⟨_,rfl⟩
       have vdx:IntKind.i64.wrap (c0.t.x0- c.t.x1)=dx:=by rw [wrap_i64,gdx];unfold wrap64;omega
       have Gdx:Hid _:=gdx
       clear gdx
       obtain⟨dy,gdy⟩: ∃ dy,dy=c0.t.y0- c.t.y1:=⟨_,rfl⟩
       have vdy:IntKind.i64.wrap (c0.t.y0- c.t.y1)=dy:=by rw [wrap_i64,gdy];unfold wrap64;omega
       have Gdy:Hid _:=gdy
       clear gdy
       clear hW5 qct qcm 
       go_wp2
       refine wp_region_held_drew (S:=fun w'=>w'.cell? ⟨p,4,none⟩=some (.slice (some ⟨g8,0,none⟩) nn cp8)∧w'.cell? ⟨g8,k*10,none⟩=some (.int .i64 c.no)∧w'.cell? ⟨w9.heap.size,0,none⟩=some (.int .i64 c0.t.x0)∧w'.cell? ⟨w9.heap.size,1,none⟩=some (.int .i64 c0.t.y0)∧w'.cell? ⟨wr.heap.size,5,none⟩=some (.int .i64 c.t.x1)∧w'.cell? ⟨wr.heap.size,6,none⟩=some (.int .i64 c.t.y1)) (by kernel_rfl) ?_ (fun hHeld=>?_)
       ·exact⟨m5,k05,ox,oy,ux,uy⟩
       refine tn 0 ?_;refine tn 1 ?_;refine tn 2 ?_;refine tn 3 ?_;refine tn 4 ?_;refine tn 5 ?_;refine tn 6 ?_;refine tn 7 ?_;refine tn 8 ?_;refine tn 9 ?_;refine tn 10 ?_;refine tn 11 ?_;refine tn 12 ?_;refine tn 13 ?_;refine tn 14 ?_;refine tn 15 ?_;refine tn 16 ?_;refine tn 17 ?_;refine tn 18 ?_;refine tn 19 ?_;refine tn 20 ?_;refine tn 21 ?_;refine tn 22 ?_;refine tn 23 ?_;refine tn 24 ?_;refine tn 25 ?_;refine tn 26 ?_;refine tn 27 ?_;refine tn 28 ?_;refine tn 29 ?_
       simp only [Act.put,ps1,ps2,ps3]
       refine tcl 30 fun Kc hK=>?_
       go_simp
       refine hK.out _ _ ?_ (fun hHeld=>?_)
       ·exact⟨(World.cell?_setCell_other _ _ _ _ (by intro q;simp only [Addr.mk.injEq]at q;omega)).trans ((World.cell?_setCell_other _ _ _ _ (by intro q;simp only [Addr.mk.injEq]at q;omega)).trans m5),(World.cell?_setCell_other _ _ _ _ (by intro q;simp only [Addr.mk.injEq]at q;omega)).trans ((World.cell?_setCell_other _ _ _ _ (by intro q;simp only [Addr.mk.injEq]at q;omega)).trans k05),(World.cell?_setCell_other _ _ _ _ (by intro q;simp only [Addr.mk.injEq]at q;omega)).trans ((World.cell?_setCell_other _ _ _ _ (by intro q;simp only [Addr.mk.injEq]at q;omega)).trans ox),(World.cell?_setCell_other _ _ _ _ (by intro q;simp only [Addr.mk.injEq]at q;omega)).trans ((World.cell?_setCell_other _ _ _ _ (by intro q;simp only [Addr.mk.injEq]at q;omega)).trans oy),(World.cell?_setCell_other _ _ _ _ (by intro q;simp only [Addr.mk.injEq]at q;omega)).trans ((World.cell?_setCell_other _ _ _ _ (by intro q;simp only [Addr.mk.injEq]at q;omega)).trans ux),(World.cell?_setCell_other _ _ _ _ (by intro q;simp only [Addr.mk.injEq]at q;omega)).trans ((World.cell?_setCell_other _ _ _ _ (by intro q;simp only [Addr.mk.injEq]at q;omega)).trans uy)⟩
       clear hK Kc
       refine tz (i:=31) rfl ?_
       simp only [Act.put,ps1,ps2,ps3]
       refine wpAnyH_done (by kernel_rfl) ?_ _
       have rC:=(R5.set 0 (.int .i64 dx) (by simp)).set 1 (.int .i64 dy) (by simp)
       have rc0:=rC.cell 0 _ rfl
       have rc1:=rC.cell 1 _ rfl
       go_wp2
       have BF:Below w.heap.size w W5:=(BW.trans (BB.mono (by omega))).trans (B5.mono (by omega))
       refine bodyPost_ret (v:= .tuple #[.int .i64 c.no, .int .i64 0, .agg #[.int .i64 dx, .int .i64 dy], .bool true]) (by simp [results,Tryz.results29,go_sem, *]) rfl ⟨?_,below_put2 BF.drew (by omega) _ _⟩
       rw [HF.out,Gdx.out,Gdy.out]
       rfl
      |false=>
       go_wp2
       go_roundw
       case rel=>exact⟨2,by omega,by simp,(fun j' h'=>if e:j'=1 then by rw [e];exact HJ.out.symm else HNo.out j' (by omega)),BB⟩
       case measure=>simp [intOf]
     ·obtain⟨r,hr⟩: ∃ r,r=opp c0.t 2 c.t 2:=⟨_,rfl⟩
      have HJ:Hid _:=hr
      clear hr
      go_wp2_with (go_at_call 63;fail)
      refine(twin_22r c0.t c.t W3 hct hcm HJ.out).mono ?_
      rintro e w9 ⟨rfl,b9⟩
      have z9:=b9.size
      have BB:Below W2.heap.size W2 w9:=(bel2.trans (B3.mono (by omega))).trans (b9.mono (by omega))
      have T9:=T3.below b9 (by omega)
      have U9:=U3.below b9 (by omega)
      have R9:=R3.below b9 (by omega)
      have hp9:p<W3.heap.size:=by omega
      have hg9:g8<W3.heap.size:=by omega
      have m9:=(b9.cell (p:=⟨p,4,none⟩) hp9).trans m3
      have k09:=(b9.cell (p:=⟨g8,k*10,none⟩) hg9).trans k03
      clear t3_0 u3_0 t3_1 u3_1 t3_2 u3_2 t3_3 u3_3 t3_4 u3_4 t3_5 u3_5 t3_6 u3_6 t3_7 u3_7 t3_8 u3_8 m3 k03 k0 k1 k2 k3 k4 k5 k6 k7 k8 k9 m8 hW3' T3 U3 R3
      cases r with
      |true=>
       have HF:Hid (acr c0.t 2 S.C=some (c,2)):=by unfold Hid;rw [HAC.out];exact acr_found HX.out (by decide) HNo.out HJ.out.symm
       have t9x:=T9.cell 3 _ rfl
       have t9y:=T9.cell 4 _ rfl
       obtain⟨W5,hW5⟩: ∃ W,W=w9.alloc (.cells ([.int .i64 c0.t.x0, .int .i64 c0.t.y0]:List Value).toArray 32):=⟨_,rfl⟩
       have B5:Below w9.heap.size w9 W5:=by rw [hW5];exact(Below.refl _ _).alloc (Nat.le_refl _) _
       have z5:W5.heap.size=w9.heap.size+1:=by rw [hW5];simp
       have O5:Row W5 w9.heap.size [.int .i64 c0.t.x0, .int .i64 c0.t.y0]:=by rw [hW5];exact Row.new w9 _ _
       have hW5':w9.alloc (.cells #[.int .i64 c0.t.x0, .int .i64 c0.t.y0] 32)=W5:=hW5.symm
       have U5:=U9.below B5 (by omega)
       have R5:=R9.below B5 (by omega)
       have ox:=O5.cell 0 _ rfl
       have oy:=O5.cell 1 _ rfl
       have ux:=U5.cell 7 _ rfl
       have uy:=U5.cell 8 _ rfl
       have m5:=(B5.cell (p:=⟨p,4,none⟩) (Nat.lt_of_lt_of_le hp9 z9)).trans m9
       have k05:=(B5.cell (p:=⟨g8,k*10,none⟩) (Nat.lt_of_lt_of_le hg9 z9)).trans k09
       have wj:(IntKind.i64.wrap 4).tmod 3=1:=by decide
       have r0:=R5.cell 0 _ rfl
       have r1:=R5.cell 1 _ rfl
       have f0:=R5.free 0 (by simp)
       have f1:=R5.free 1 (by simp)
       have qct:=hct.all
       have qcm:=hcm.all
       obtain⟨dx,gdx⟩: ∃ dx,dx=c0.t.x0- c.t.x2:=⟨_,rfl⟩
       have vdx:IntKind.i64.wrap (c0.t.x0- c.t.x2)=dx:=by rw [wrap_i64,gdx];unfold wrap64;omega
       have Gdx:Hid _:=gdx
       clear gdx
       obtain⟨dy,gdy⟩: ∃ dy,dy=c0.t.y0- c.t.y2:=⟨_,rfl⟩
       have vdy:IntKind.i64.wrap (c0.t.y0- c.t.y2)=dy:=by rw [wrap_i64,gdy];unfold wrap64;omega
       have Gdy:Hid _:=gdy
       clear gdy
       clear hW5 qct qcm 
       go_wp2
       refine wp_region_held_drew (S:=fun w'=>w'.cell? ⟨p,4,none⟩=some (.slice (some ⟨g8,0,none⟩) nn cp8)∧w'.cell? ⟨g8,k*10,none⟩=some (.int .i64 c.no)∧w'.cell? ⟨w9.heap.size,0,none⟩=some (.int .i64 c0.t.x0)∧w'.cell? ⟨w9.heap.size,1,none⟩=some (.int .i64 c0.t.y0)∧w'.cell? ⟨wr.heap.size,7,none⟩=some (.int .i64 c.t.x2)∧w'.cell? ⟨wr.heap.size,8,none⟩=some (.int .i64 c.t.y2)) (by kernel_rfl) ?_ (fun hHeld=>?_)
       ·exact⟨m5,k05,ox,oy,ux,uy⟩
       refine tn 0 ?_;refine tn 1 ?_;refine tn 2 ?_;refine tn 3 ?_;refine tn 4 ?_;refine tn 5 ?_;refine tn 6 ?_;refine tn 7 ?_;refine tn 8 ?_;refine tn 9 ?_;refine tn 10 ?_;refine tn 11 ?_;refine tn 12 ?_;refine tn 13 ?_;refine tn 14 ?_;refine tn 15 ?_;refine tn 16 ?_;refine tn 17 ?_;refine tn 18 ?_;refine tn 19 ?_;refine tn 20 ?_;refine tn 21 ?_;refine tn 22 ?_;refine tn 23 ?_;refine tn 24 ?_;refine tn 25 ?_;refine tn 26 ?_;refine tn 27 ?_;refine tn 28 ?_;refine tn 29 ?_
       simp only [Act.put,ps1,ps2,ps3]
       refine tcl 30 fun Kc hK=>?_
       go_simp
       refine hK.out _ _ ?_ (fun hHeld=>?_)
       ·exact⟨(World.cell?_setCell_other _ _ _ _ (by intro q;simp only [Addr.mk.injEq]at q;omega)).trans ((World.cell?_setCell_other _ _ _ _ (by intro q;simp only [Addr.mk.injEq]at q;omega)).trans m5),(World.cell?_setCell_other _ _ _ _ (by intro q;simp only [Addr.mk.injEq]at q;omega)).trans ((World.cell?_setCell_other _ _ _ _ (by intro q;simp only [Addr.mk.injEq]at q;omega)).trans k05),(World.cell?_setCell_other _ _ _ _ (by intro q;simp only [Addr.mk.injEq]at q;omega)).trans ((World.cell?_setCell_other _ _ _ _ (by intro q;simp only [Addr.mk.injEq]at q;omega)).trans ox),(World.cell?_setCell_other _ _ _ _ (by intro q;simp only [Addr.mk.injEq]at q;omega)).trans ((World.cell?_setCell_other _ _ _ _ (by intro q;simp only [Addr.mk.injEq]at q;omega)).trans oy),(World.cell?_setCell_other _ _ _ _ (by intro q;simp only [Addr.mk.injEq]at q;omega)).trans ((World.cell?_setCell_other _ _ _ _ (by intro q;simp only [Addr.mk.injEq]at q;omega)).trans ux),(World.cell?_setCell_other _ _ _ _ (by intro q;simp only [Addr.mk.injEq]at q;omega)).trans ((World.cell?_setCell_other _ _ _ _ (by intro q;simp only [Addr.mk.injEq]at q;omega)).trans uy)⟩
       clear hK Kc
       refine tz (i:=31) rfl ?_
       simp only [Act.put,ps1,ps2,ps3]
       refine wpAnyH_done (by kernel_rfl) ?_ _
       have rC:=(R5.set 0 (.int .i64 dx) (by simp)).set 1 (.int .i64 dy) (by simp)
       have rc0:=rC.cell 0 _ rfl
       have rc1:=rC.cell 1 _ rfl
       go_wp2
       have BF:Below w.heap.size w W5:=(BW.trans (BB.mono (by omega))).trans (B5.mono (by omega))
       refine bodyPost_ret (v:= .tuple #[.int .i64 c.no, .int .i64 1, .agg #[.int .i64 dx, .int .i64 dy], .bool true]) (by simp [results,Tryz.results29,go_sem, *]) rfl ⟨?_,below_put2 BF.drew (by omega) _ _⟩
       rw [HF.out,Gdx.out,Gdy.out]
       rfl
      |false=>
       go_wp2
       go_roundw
       case rel=>exact⟨3,by omega,by simp,(fun j' h'=>if e:j'=2 then by rw [e];exact HJ.out.symm else HNo.out j' (by omega)),BB⟩
       case measure=>simp [intOf]
    ·obtain rfl:j=3:=by omega
     have HT:Hid (acr c0.t 2 S.C=acr c0.t 2 (S.C.drop (k+1))):=by unfold Hid;rw [HAC.out];exact acr_on HX.out hno
     clear hno
     go_wp2
     go_roundw
     case rel=>exact⟨k+1,by have:=HNN.out;omega,by simp,HT.out,bel2⟩
     case measure=>have:=HNN.out;simp [intOf];omega
  ·obtain rfl:k=S.C.length:=by omega
   have HT:Hid (acr c0.t 2 S.C=none):=by unfold Hid;rw [hac,List.drop_length];rfl
   obtain⟨y1,y2,ya,yca,yb,ycb,hrow⟩:=(L2.out.below bel).row
   have m2:=hrow.cell 4 _ rfl
   rw [←HNN.out]at m2 ⊢
   have R8:=R2.below bel (by omega)
   have r0:=R8.cell 0 _ rfl
   have r1:=R8.cell 1 _ rfl
   have f0:=R8.free 0 (by simp)
   have f1:=R8.free 1 (by simp)
   have rC:=(R8.set 0 (.int .i64 0) (by simp)).set 1 (.int .i64 0) (by simp)
   have rc0:=rC.cell 0 _ rfl
   have rc1:=rC.cell 1 _ rfl
   clear hac hrow
   go_wp2
   refine bodyPost_ret (v:= .tuple #[.int .i64 (-1), .int .i64 0, .agg #[.int .i64 0, .int .i64 0], .bool false]) (by simp [results,Tryz.results29,go_sem, *]) rfl ⟨?_,below_put2 (BW.trans (bel.mono (by omega))) (by omega) _ _⟩
   rw [HT.out]
   rfl
theorem find_at{α:Type}{f:α→Int}{v:Int}{a:α}: ∀ (L:List α) (k:Int) (i:Nat),0≤k→fAt f v L k=k+(i:Int)→L[i]? =some a→L.find? (fun a=>decide (f a=v))=some a:=by
 intro L
 induction L with
 |nil=>intro k i _ h;simp [fAt]at h;omega
 |cons b L ih=>
  intro k i hk h ha
  unfold fAt at h
  by_cases e:f b=v
  ·rw [if_pos e]at h
   obtain rfl:i=0:=by omega
   simp only [List.getElem?_cons_zero,Option.some.injEq]at ha
   subst ha
   simp [e]
  ·rw [if_neg e]at h
   cases i with
   |zero=>rcases fAt_spec f v L (k+1) (by omega)with⟨h1,_⟩|⟨j,_,h1,_⟩<;>omega
   |succ i=>
    simp only [e,decide_false,Bool.false_eq_true,not_false_eq_true,List.find?_cons_of_neg]
    exact ih (k+1) i (by omega) (by omega) (by simpa using ha)
theorem find_not{α:Type}{f:α→Int}{v:Int}{L:List α}(h: ∀ a∈L,f a≠v):L.find? (fun a=>decide (f a=v))=none:=by
 rw [List.find?_eq_none]
 intro a ha
 simpa using h a ha
def CrossIs(r:Option (Tr×Ce×Nat))(i:Int)(e:Ending):Prop:=match r with
 |none=>e= .returned (.tuple #[.int .i64 (-1), .int .i64 0, .agg #[.int .i64 0, .int .i64 0], .bool false])
 |some (t,c,k)=>e= .returned (.tuple #[.int .i64 c.no, .int .i64 (((k+2) % 3:Nat):Int), .agg #[.int .i64 (t.x (nx (nx (corner i)))- c.t.x k), .int .i64 (t.y (nx (nx (corner i)))- c.t.y k)], .bool true])
set_option maxRecDepth 100000 in
set_option maxHeartbeats 1000000 in
theorem across_none(p:Nat)(S:Ms)(f i:Int)(w:World)(h:MeLook p S w)(hC:S.C.length≤1000)(hi:fAt Ce.no f S.C 0= -1):
  Calls Tryz.prog 29 #[ptR p, .int .i64 f, .int .i64 i] w fun e w'=>e= .returned (.tuple #[.int .i64 (-1), .int .i64 0, .agg #[.int .i64 0, .int .i64 0], .bool false])∧Below w.heap.size w w':=by
 have HL:Hid _:=h
 have HI:Hid ((-1:Int)=_):=hi.symm
 clear h hi
 obtain⟨W0,hW0⟩: ∃ W,W=w.alloc (.cells ([.int .i64 0, .int .i64 0]:List Value).toArray 32):=⟨_,rfl⟩
 have B0:Below w.heap.size w W0:=by rw [hW0];exact(Below.refl _ _).alloc (Nat.le_refl _) _
 have z0:W0.heap.size=w.heap.size+1:=by rw [hW0];simp
 have R0:Row W0 w.heap.size [.int .i64 0, .int .i64 0]:=by rw [hW0];exact Row.new w _ _
 have hW0':w.alloc (.cells #[.int .i64 0, .int .i64 0] 32)=W0:=hW0.symm
 clear hW0
 go_enter Tryz.func29,Tryz.ntmps29
 go_wp2_with (go_at_call 27;fail)
 refine(mrFaceAt p S f W0 (HL.out.below B0) hC HI.out).mono ?_
 rintro e w1 ⟨rfl,b1⟩
 have R1:=R0.below b1 (by omega)
 have r0:=R1.cell 0 _ rfl
 have r1:=R1.cell 1 _ rfl
 have f0:=R1.free 0 (by simp)
 have f1:=R1.free 1 (by simp)
 have rC:=(R1.set 0 (.int .i64 0) (by simp)).set 1 (.int .i64 0) (by simp)
 have rc0:=rC.cell 0 _ rfl
 have rc1:=rC.cell 1 _ rfl
 go_wp2
 exact bodyPost_ret (v:= .tuple #[.int .i64 (-1), .int .i64 0, .agg #[.int .i64 0, .int .i64 0], .bool false]) (by simp [results,Tryz.results29,go_sem, *]) rfl ⟨rfl,below_put2 (B0.trans (b1.mono (by omega))) (by omega) _ _⟩
theorem mrAcross(p:Nat)(S:Ms)(f i:Int)(w:World)(h:MeLook p S w)(hC:S.C.length≤1000)(hco: ∀ c∈S.C,offB c.t):
  Calls Tryz.prog 29 #[ptR p, .int .i64 f, .int .i64 i] w fun e w'=>CrossIs (crossed S f i) i e∧Below w.heap.size w w':=by
 rcases fAt_cases Ce.no f S.C with⟨h1,h2⟩|⟨k,c,h1,h2,_⟩
 ·refine(across_none p S f i w h hC h1).mono ?_
  rintro e w' ⟨rfl,b⟩
  refine⟨?_,b⟩
  unfold crossed
  rw [find_not h2]
  rfl
 ·have hf:=find_at S.C 0 k (by omega) (by rw [h1];omega) h2
  have hn:nx (corner i)=0∨nx (corner i)=1∨nx (corner i)=2:=by unfold nx;omega
  have fin: ∀ a,nx (corner i)=a→ ∀ e,AcrIs c.t a (acr c.t a S.C) e→CrossIs (crossed S f i) i e:=by
   intro a ha e he
   unfold crossed
   rw [hf]
   simp only []
   rw [ha]
   cases hr:acr c.t a S.C with
   |none=>rw [hr]at he;exact he
   |some r=>
    obtain⟨c',k'⟩:=r
    rw [hr]at he
    unfold CrossIs
    simp only []
    rw [ha]
    exact he
  rcases hn with hn|hn|hn
  ·refine(across_0 p S f i w h hC hco k c h1 h2 hn).mono ?_
   rintro e w' ⟨he,b⟩
   exact⟨fin 0 hn e he,b⟩
  ·refine(across_1 p S f i w h hC hco k c h1 h2 hn).mono ?_
   rintro e w' ⟨he,b⟩
   exact⟨fin 1 hn e he,b⟩
  ·refine(across_2 p S f i w h hC hco k c h1 h2 hn).mono ?_
   rintro e w' ⟨he,b⟩
   exact⟨fin 2 hn e he,b⟩
abbrev MeShape:=Nat→Nat→Ms→(Nat→Prop)→World→Prop
def trZero:Tr:=⟨0,0,0,0,0,0,0,0,0⟩
def faceOf(S:Ms)(f:Int):Tr:=match S.C.find? (fun c=>decide (c.no=f))with|some c=>c.t|none=>trZero
structure MeSpec(MP:MeShape):Prop where
 keep: ∀ {base p:Nat} {S:Ms} {F G:Nat→Prop} {w w':World},MP base p S F w→Keep G w w'→(∀ k,F k→ ¬G k)→MP base p S F w'
 ft: ∀ {base p:Nat} {S:Ms} {F:Nat→Prop} {w:World},MP base p S F w→ ∀ k,F k→base≤k∧k<w.heap.size
 new: ∀ (base:Nat) (n:Int) (w:World),base≤w.heap.size→1≤n∧n≤17179869184→Calls Tryz.prog 17 #[.int .i64 n] w fun e w'=> ∃ (p:Nat) (F:Nat→Prop),e= .returned (ptR p)∧MP base p (Ms.new n) F w'∧(∀ k,F k→w.heap.size≤k)∧Below w.heap.size w w'
 side: ∀ (base p:Nat) (S:Ms) (m:Nat) (F:Nat→Prop) (w:World),MP base p S F w→MsOk S m→m≤1000→Calls Tryz.prog 21 #[ptR p] w fun e w'=>e= .returned (.int .i64 S.n)∧Below w.heap.size w w'
 addV0: ∀ (base p:Nat) (S:Ms) (m:Nat) (F:Nat→Prop) (w:World),MP base p S F w→MsOk S m→m≤1000→ ∀ x y id:Int,In64 x→In64 y→In64 id→inSq S x y=false→Calls Tryz.prog 33 #[ptR p, .agg #[.int .i64 x, .int .i64 y], .int .i64 id] w fun e w'=>e= .returned (.int .i64 (-1))∧Left (MP base p S) F w w'
 addV: ∀ (base p:Nat) (S:Ms) (m:Nat) (F:Nat→Prop) (w:World),MP base p S F w→MsOk S m→m≤1000→ ∀ x y id:Int,In64 x→In64 y→In64 id→inSq S x y=true→Calls Tryz.prog 33 #[ptR p, .agg #[.int .i64 x, .int .i64 y], .int .i64 id] w fun e w'=>e= .returned (.int .i64 S.av.num)∧Left (MP base p (S.addV x y id)) F w w'
 dropV0: ∀ (base p:Nat) (S:Ms) (m:Nat) (F:Nat→Prop) (w:World),MP base p S F w→MsOk S m→m≤1000→ ∀ v:Int,In64 v→(isV S v=false∨around S.C v≠ [])→Calls Tryz.prog 50 #[ptR p, .int .i64 v] w fun e w'=>e= .returned (.bool false)∧Left (MP base p S) F w w'
 dropV: ∀ (base p:Nat) (S:Ms) (m:Nat) (F:Nat→Prop) (w:World),MP base p S F w→MsOk S m→m≤1000→ ∀ (v:Int) (i:Nat) (a:Vt),In64 v→S.V[i]? =some a→a.no=v→around S.C v= []→Calls Tryz.prog 50 #[ptR p, .int .i64 v] w fun e w'=>e= .returned (.bool true)∧Left (MP base p (S.dropV v i)) F w w'
 addF0: ∀ (base p:Nat) (S:Ms) (m:Nat) (F:Nat→Prop) (w:World),MP base p S F w→MsOk S m→m≤1000→ ∀ (t:Tr) (e0:Int),Tr64 t→e0=fErr S t→e0≠0→Calls Tryz.prog 34 #[ptR p,trV t] w fun e w'=>e= .returned (.tuple #[.int .i64 (-1), .int .i64 e0])∧Left (MP base p S) F w w'
 addF: ∀ (base p:Nat) (S:Ms) (m:Nat) (F:Nat→Prop) (w:World),MP base p S F w→MsOk S m→m≤1000→ ∀ t:Tr,Tr64 t→fErr S t=0→Calls Tryz.prog 34 #[ptR p,trV t] w fun e w'=>e= .returned (.tuple #[.int .i64 S.af.num, .int .i64 0])∧Left (MP base p (S.addF t)) F w w'
 dropF0: ∀ (base p:Nat) (S:Ms) (m:Nat) (F:Nat→Prop) (w:World),MP base p S F w→MsOk S m→m≤1000→ ∀ f:Int,In64 f→isF S f=false→Calls Tryz.prog 48 #[ptR p, .int .i64 f] w fun e w'=>e= .returned (.bool false)∧Left (MP base p S) F w w'
 dropF: ∀ (base p:Nat) (S:Ms) (m:Nat) (F:Nat→Prop) (w:World),MP base p S F w→MsOk S m→m≤1000→ ∀ (f:Int) (i:Nat) (c:Ce),In64 f→S.C[i]? =some c→c.no=f→Calls Tryz.prog 48 #[ptR p, .int .i64 f] w fun e w'=>e= .returned (.bool true)∧Left (MP base p (S.dropF f i)) F w w'
 face: ∀ (base p:Nat) (S:Ms) (m:Nat) (F:Nat→Prop) (w:World),MP base p S F w→MsOk S m→m≤1000→ ∀ f:Int,In64 f→Calls Tryz.prog 14 #[ptR p, .int .i64 f] w fun e w'=>e= .returned (.tuple #[trV (faceOf S f), .bool (isF S f)])∧Below w.heap.size w w'
 corner0: ∀ (base p:Nat) (S:Ms) (m:Nat) (F:Nat→Prop) (w:World),MP base p S F w→MsOk S m→m≤1000→ ∀ f i:Int,In64 f→In64 i→isF S f=false→Calls Tryz.prog 103 #[ptR p, .int .i64 f, .int .i64 i] w fun e w'=>e= .returned (.tuple #[.agg #[.int .i64 0, .int .i64 0], .bool false])∧Below w.heap.size w w'
 corner: ∀ (base p:Nat) (S:Ms) (m:Nat) (F:Nat→Prop) (w:World),MP base p S F w→MsOk S m→m≤1000→ ∀ f i:Int,In64 f→In64 i→isF S f=true→Calls Tryz.prog 103 #[ptR p, .int .i64 f, .int .i64 i] w fun e w'=>e= .returned (.tuple #[.agg #[.int .i64 (plX S (faceOf S f) (corner i)), .int .i64 (plY S (faceOf S f) (corner i))], .bool true])∧Below w.heap.size w w'
 across: ∀ (base p:Nat) (S:Ms) (m:Nat) (F:Nat→Prop) (w:World),MP base p S F w→MsOk S m→m≤1000→ ∀ f i:Int,In64 f→In64 i→Calls Tryz.prog 106 #[ptR p, .int .i64 f, .int .i64 i] w fun e w'=>CrossIs (crossed S f i) i e∧Below w.heap.size w w'
 dump: ∀ (base p:Nat) (S:Ms) (m:Nat) (F:Nat→Prop) (w:World),MP base p S F w→MsOk S m→m≤1000→Calls Tryz.prog 56 #[ptR p] w (GotDump w S)
theorem MeSpec.below{MP:MeShape}(H:MeSpec MP){base p:Nat}{S:Ms}{F:Nat→Prop}{w w':World}(h:MP base p S F w)(hb:Below w.heap.size w w'):MP base p S F w':=H.keep h (Keep.of (F:=fun _=>False) hb) (fun _ _ x=>x)
end Go.Proofs.YtaadknpjbogkbaaGreat
namespace Go.Proofs.YtaadknpjbogkbaaGreat.lw
open Go.RowKit
def hi(v:Int):Int:=(v/18446744073709551616+9223372036854775808) % 18446744073709551616- 9223372036854775808
def lo(v:Int):Int:=v % 18446744073709551616
theorem lo_range(v:Int):0≤lo v∧lo v<18446744073709551616:=by unfold lo;omega
def bor(x y:Int):Int:=if x<y then 1 else 0
theorem bor_range(x y:Int):0≤bor x y∧bor x y≤1:=by unfold bor;split<;>decide
theorem hi_0:(0:Int)=hi 0:=by decide
theorem lo_0:(0:Int)=lo 0:=by decide
theorem sub_lo(a b:Int):(lo a- lo b) % 18446744073709551616=lo (a- b):=by unfold lo;omega
theorem sub_hi(a b:Int):wrap64 ((IntKind.u64.wrap (hi a)- IntKind.u64.wrap (hi b)- bor (lo a) (lo b)) % 18446744073709551616)=hi (a- b):=by
 rw [IntKind.wrap_u64,IntKind.wrap_u64];unfold bor wrap64;split<;>(simp only [hi,lo]at*;omega)
theorem mask32(x:Int)(h0:0≤x)(h1:x<18446744073709551616):bits .and .u64 x 4294967295=x % 4294967296:=by
 obtain⟨n,rfl⟩:=Int.eq_ofNat_of_zero_le h0
 have h:=bits_and_u64_nat n 4294967295 (by omega) (by omega)
 have e:n &&& 4294967295=n % 4294967296:=Nat.and_two_pow_sub_one_eq_mod n 32
 rw [e]at h
 exact h.trans (by omega)
theorem half_mul(a b:Int)(a0:0≤a)(a1:a<4294967296)(b0:0≤b)(b1:b<4294967296):0≤a*b∧a*b≤18446744065119617025:=by
 refine⟨Int.mul_nonneg a0 b0,?_⟩
 have:=Int.mul_le_mul (show a≤4294967295 by omega) (show b≤4294967295 by omega) b0 (by decide)
 omega
theorem school(a b c d:Int):(a*4294967296+b)*(c*4294967296+d)=a*c*18446744073709551616+a*d*4294967296+b*c*4294967296+b*d:=by
 have h1:a*4294967296*(c*4294967296)=a*c*(4294967296*4294967296):=by rw [Int.mul_assoc a,Int.mul_left_comm 4294967296 c,←Int.mul_assoc]
 have h2:a*4294967296*d=a*d*4294967296:=by rw [Int.mul_assoc a,Int.mul_comm 4294967296 d,←Int.mul_assoc]
 have h3:b*(c*4294967296)=b*c*4294967296:=(Int.mul_assoc b c _).symm
 rw [Int.add_mul,Int.mul_add,Int.mul_add,h1,h2,h3]
 omega
theorem mul64_hi(x y:Int)(x0:0≤x)(x1:x<18446744073709551616)(y0:0≤y)(y1:y<18446744073709551616):
  IntKind.u64.wrap (IntKind.u64.wrap (IntKind.u64.wrap (x/4294967296*(y/4294967296))+IntKind.u64.wrap (IntKind.u64.wrap (x/4294967296*bits .and .u64 y 4294967295)+IntKind.u64.wrap (bits .and .u64 x 4294967295*bits .and .u64 y 4294967295)/4294967296)/4294967296)+
   IntKind.u64.wrap (bits .and .u64 (IntKind.u64.wrap (IntKind.u64.wrap (x/4294967296*bits .and .u64 y 4294967295)+IntKind.u64.wrap (bits .and .u64 x 4294967295*bits .and .u64 y 4294967295)/4294967296)) 4294967295+IntKind.u64.wrap (bits .and .u64 x 4294967295*(y/4294967296)))/4294967296)=x*y/18446744073709551616:=by
 rw [mask32 x x0 x1,mask32 y y0 y1,mask32 (IntKind.u64.wrap _) (wrap_u64_nonneg _) (by rw [IntKind.wrap_u64];omega)]
 have e:=school (x/4294967296) (x % 4294967296) (y/4294967296) (y % 4294967296)
 have ex:x/4294967296*4294967296+x % 4294967296=x:=by omega
 have ey:y/4294967296*4294967296+y % 4294967296=y:=by omega
 rw [ex,ey]at e
 rw [e]
 have b1:=half_mul (x/4294967296) (y/4294967296) (by omega) (by omega) (by omega) (by omega)
 have b2:=half_mul (x/4294967296) (y % 4294967296) (by omega) (by omega) (by omega) (by omega)
 have b3:=half_mul (x % 4294967296) (y/4294967296) (by omega) (by omega) (by omega) (by omega)
 have b4:=half_mul (x % 4294967296) (y % 4294967296) (by omega) (by omega) (by omega) (by omega)
 clear e ex ey
 generalize x/4294967296*(y/4294967296)=p1 at*
 generalize x/4294967296*(y % 4294967296)=p2 at*
 generalize x % 4294967296*(y/4294967296)=p3 at*
 generalize x % 4294967296*(y % 4294967296)=p4 at*
 simp only [IntKind.wrap_u64]
 omega
theorem mul_lo(a b:Int):IntKind.u64.wrap a*IntKind.u64.wrap b % 18446744073709551616=lo (a*b):=by
 rw [IntKind.wrap_u64,IntKind.wrap_u64];unfold lo;exact(Int.mul_emod a b _).symm
theorem ret_tup2{k l:IntKind}{a b c d:Int}(h:a=c)(h':b=d):Ending.returned (.tuple #[.int k a, .int l b])= .returned (.tuple #[.int k c, .int l d]):=by rw [h,h']
theorem ret_int{k:IntKind}{a b:Int}(h:a=b):Ending.returned (.int k a)= .returned (.int k b):=by rw [h]
def cmpI(x y:Int):Int:=if x<y then -1 else if y<x then 1 else 0
theorem sub64(x y b:Int)(hx:0≤x)(hy:0≤y)(hy':y<18446744073709551616)(hb0:0≤b)(hb:b≤1)(w:World):(callFunc 148 #[.int .u64 x, .int .u64 y, .int .u64 b]).run Tryz.prog w=
  .ok (.value (.tuple #[.int .u64 ((x- y- b) % 18446744073709551616), .int .u64 (bor x (y+b))])) w:=by
 obtain⟨x,rfl⟩:=Int.eq_ofNat_of_zero_le hx
 obtain⟨y,rfl⟩:=Int.eq_ofNat_of_zero_le hy
 obtain⟨b,rfl⟩:=Int.eq_ofNat_of_zero_le hb0
 have e1:(((x+18446744073709551616- y- b) % 18446744073709551616:Nat):Int)=((x:Int)- y- b) % 18446744073709551616:=by omega
 have e2:((if x<y+b then 1 else 0:Nat):Int)=bor x (y+b):=by unfold bor;split<;>split<;>omega
 rw [←e1,←e2,run_callFunc_extern Tryz.func148 (by kernel_rfl) (by kernel_rfl) (by kernel_rfl) (e:=sub64Entry) (by kernel_rfl),run_sub64 x y b (by omega)]
 rfl
theorem sub64_0(x y:Int)(hx:0≤x)(hy:0≤y)(hy':y<18446744073709551616)(w:World):(callFunc 148 #[.int .u64 x, .int .u64 y, .int .u64 0]).run Tryz.prog w=
  .ok (.value (.tuple #[.int .u64 ((x- y) % 18446744073709551616), .int .u64 (bor x y)])) w:=by
 simpa using sub64 x y 0 hx hy hy' (Int.le_refl 0) (by decide) w
theorem sub_any{ah al bh bl:Int}(a b:Int)(ha:ah=hi a)(hl:al=lo a)(hb:bh=hi b)(hm:bl=lo b)(w:World):
  Calls Tryz.prog 144 #[.agg #[.int .i64 ah, .int .u64 al], .agg #[.int .i64 bh, .int .u64 bl]] w fun e w'=>
   e= .returned (.agg #[.int .i64 (hi (a- b)), .int .u64 (lo (a- b))])∧Below w.heap.size w w':=by
 subst ha hl hb hm
 obtain⟨a1,a2⟩:=lo_range a;obtain⟨b1,b2⟩:=lo_range b
 obtain⟨k0,k1⟩:=bor_range (lo a) (lo b)
 have k2:=wrap_u64_nonneg (hi a)
 have k3:=wrap_u64_nonneg (hi b)
 have k4:IntKind.u64.wrap (hi b)<18446744073709551616:=by rw [IntKind.wrap_u64];omega
 go_enter Tryz.func144,Tryz.ntmps144
 go_wp2_with (first|simp only [sub64_0 (lo a) (lo b) a1 b1 b2]|simp only [sub64 _ _ _ k2 k3 k4 k0 k1])
 refine bodyPost_ret (v:= .agg #[.int .i64 (hi (a- b)), .int .u64 (lo (a- b))]) (by simp [results,Tryz.results144,go_sem,sub_lo,sub_hi]) rfl ⟨rfl,?_⟩
 exact(((Below.refl _ _).alloc (Nat.le_refl _) _).alloc (by simp) _).alloc (by simp;omega) _
theorem mul64_any(x y:Int)(x0:0≤x)(x1:x<18446744073709551616)(y0:0≤y)(y1:y<18446744073709551616)(w:World):
  Calls Tryz.prog 149 #[.int .u64 x, .int .u64 y] w fun e w'=>e= .returned (.tuple #[.int .u64 (x*y/18446744073709551616), .int .u64 (x*y % 18446744073709551616)])∧w'=w:=by
 go_enter Tryz.func149,Tryz.ntmps149
 go_wp2
 go_ret2
 exact⟨ret_tup2 (mul64_hi x y x0 x1 y0 y1) (IntKind.wrap_u64 _),rfl⟩
theorem cmpI64_any(x y:Int)(w:World):
  Calls Tryz.prog 142 #[.int .i64 x, .int .i64 y] w fun e w'=>e= .returned (.int .i64 (cmpI x y))∧w'=w:=by
 unfold cmpI
 go_enter Tryz.func142,Tryz.ntmps142
 go_wp2
 all_goals (go_ret;exact⟨rfl,rfl⟩)
theorem cmpU64_any(x y:Int)(w:World):
  Calls Tryz.prog 143 #[.int .u64 x, .int .u64 y] w fun e w'=>e= .returned (.int .i64 (cmpI x y))∧w'=w:=by
 unfold cmpI
 go_enter Tryz.func143,Tryz.ntmps143
 go_wp2
 all_goals (go_ret;exact⟨rfl,rfl⟩)
end Go.Proofs.YtaadknpjbogkbaaGreat.lw
namespace Go.Proofs.YtaadknpjbogkbaaGreat.lw
open Go.RowKit
set_option linter.unusedVariables false
set_option maxRecDepth 100000
theorem u_neg(a:Int)(h0:a<0)(h1: -9223372036854775808≤a):IntKind.u64.wrap a=a+18446744073709551616:=by rw [IntKind.wrap_u64];omega
theorem mul_pp(a b:Int):wrap64 (a*b/18446744073709551616)=hi (a*b):=by unfold wrap64 hi;omega
theorem mul_np(a b:Int)(a0:a<0)(a1: -9223372036854775808≤a):wrap64 (IntKind.u64.wrap (IntKind.u64.wrap a*b/18446744073709551616- b))=hi (a*b):=by
 rw [u_neg a a0 a1,Int.add_mul,IntKind.wrap_u64];unfold wrap64 hi;omega
theorem mul_pn(a b:Int)(b0:b<0)(b1: -9223372036854775808≤b):wrap64 (IntKind.u64.wrap (a*IntKind.u64.wrap b/18446744073709551616- a))=hi (a*b):=by
 rw [u_neg b b0 b1,Int.mul_add,IntKind.wrap_u64];unfold wrap64 hi;omega
theorem mul_nn(a b:Int)(a0:a<0)(a1: -9223372036854775808≤a)(b0:b<0)(b1: -9223372036854775808≤b):wrap64 (IntKind.u64.wrap (IntKind.u64.wrap (IntKind.u64.wrap a*IntKind.u64.wrap b/18446744073709551616- IntKind.u64.wrap b)- IntKind.u64.wrap a))=hi (a*b):=by
 rw [u_neg a a0 a1,u_neg b b0 b1,Int.add_mul,Int.mul_add,Int.mul_add,IntKind.wrap_u64,IntKind.wrap_u64];unfold wrap64 hi;omega
theorem lo_pp(a b:Int):a*b % 18446744073709551616=lo (a*b):=rfl
theorem lo_np(a b:Int):IntKind.u64.wrap a*b % 18446744073709551616=lo (a*b):=by rw [IntKind.wrap_u64];unfold lo;rw [Int.mul_emod,Int.emod_emod,←Int.mul_emod]
theorem lo_pn(a b:Int):a*IntKind.u64.wrap b % 18446744073709551616=lo (a*b):=by rw [IntKind.wrap_u64];unfold lo;rw [Int.mul_emod,Int.emod_emod,←Int.mul_emod]
theorem mul_any_pp(a b:Int)(a0: -9223372036854775808≤a)(a1:a≤9223372036854775807)(b0: -9223372036854775808≤b)(b1:b≤9223372036854775807)(ha:0≤a)(hb:0≤b)(w:World):
  Calls Tryz.prog 145 #[.int .i64 a, .int .i64 b] w fun e w'=>e= .returned (.agg #[.int .i64 (hi (a*b)), .int .u64 (lo (a*b))])∧Below w.heap.size w w':=by
 have va:IntKind.u64.wrap a<18446744073709551616:=by rw [IntKind.wrap_u64];omega
 have vb:IntKind.u64.wrap b<18446744073709551616:=by rw [IntKind.wrap_u64];omega
 go_enter Tryz.func145,Tryz.ntmps145
 go_wp2_with (go_at_call 149;refine(mul64_any _ _ ha (by omega) hb (by omega) _).mono ?_;rintro e w' ⟨rfl,rfl⟩)
 exact bodyPost_ret (v:= .agg #[.int .i64 (hi (a*b)), .int .u64 (lo (a*b))]) (by simp [results,Tryz.results145,go_sem,lo_pp,mul_pp]) rfl ⟨rfl,(Below.refl _ _).alloc (Nat.le_refl _) _⟩
theorem mul_any_np(a b:Int)(a0: -9223372036854775808≤a)(a1:a≤9223372036854775807)(b0: -9223372036854775808≤b)(b1:b≤9223372036854775807)(ha:a<0)(hb:0≤b)(w:World):
  Calls Tryz.prog 145 #[.int .i64 a, .int .i64 b] w fun e w'=>e= .returned (.agg #[.int .i64 (hi (a*b)), .int .u64 (lo (a*b))])∧Below w.heap.size w w':=by
 have va:IntKind.u64.wrap a<18446744073709551616:=by rw [IntKind.wrap_u64];omega
 have vb:IntKind.u64.wrap b<18446744073709551616:=by rw [IntKind.wrap_u64];omega
 go_enter Tryz.func145,Tryz.ntmps145
 go_wp2_with (go_at_call 149;refine(mul64_any _ _ (wrap_u64_nonneg a) va hb (by omega) _).mono ?_;rintro e w' ⟨rfl,rfl⟩)
 exact bodyPost_ret (v:= .agg #[.int .i64 (hi (a*b)), .int .u64 (lo (a*b))]) (by simp [results,Tryz.results145,go_sem,lo_np,mul_np a b ha a0]) rfl ⟨rfl,(Below.refl _ _).alloc (Nat.le_refl _) _⟩
theorem mul_any_pn(a b:Int)(a0: -9223372036854775808≤a)(a1:a≤9223372036854775807)(b0: -9223372036854775808≤b)(b1:b≤9223372036854775807)(ha:0≤a)(hb:b<0)(w:World):
  Calls Tryz.prog 145 #[.int .i64 a, .int .i64 b] w fun e w'=>e= .returned (.agg #[.int .i64 (hi (a*b)), .int .u64 (lo (a*b))])∧Below w.heap.size w w':=by
 have va:IntKind.u64.wrap a<18446744073709551616:=by rw [IntKind.wrap_u64];omega
 have vb:IntKind.u64.wrap b<18446744073709551616:=by rw [IntKind.wrap_u64];omega
 go_enter Tryz.func145,Tryz.ntmps145
 go_wp2_with (go_at_call 149;refine(mul64_any _ _ ha (by omega) (wrap_u64_nonneg b) vb _).mono ?_;rintro e w' ⟨rfl,rfl⟩)
 exact bodyPost_ret (v:= .agg #[.int .i64 (hi (a*b)), .int .u64 (lo (a*b))]) (by simp [results,Tryz.results145,go_sem,lo_pn,mul_pn a b hb b0]) rfl ⟨rfl,(Below.refl _ _).alloc (Nat.le_refl _) _⟩
theorem mul_any_nn(a b:Int)(a0: -9223372036854775808≤a)(a1:a≤9223372036854775807)(b0: -9223372036854775808≤b)(b1:b≤9223372036854775807)(ha:a<0)(hb:b<0)(w:World):
  Calls Tryz.prog 145 #[.int .i64 a, .int .i64 b] w fun e w'=>e= .returned (.agg #[.int .i64 (hi (a*b)), .int .u64 (lo (a*b))])∧Below w.heap.size w w':=by
 have va:IntKind.u64.wrap a<18446744073709551616:=by rw [IntKind.wrap_u64];omega
 have vb:IntKind.u64.wrap b<18446744073709551616:=by rw [IntKind.wrap_u64];omega
 go_enter Tryz.func145,Tryz.ntmps145
 go_wp2_with (go_at_call 149;refine(mul64_any _ _ (wrap_u64_nonneg a) va (wrap_u64_nonneg b) vb _).mono ?_;rintro e w' ⟨rfl,rfl⟩)
 exact bodyPost_ret (v:= .agg #[.int .i64 (hi (a*b)), .int .u64 (lo (a*b))]) (by simp [results,Tryz.results145,go_sem,mul_lo,mul_nn a b ha a0 hb b0]) rfl ⟨rfl,(Below.refl _ _).alloc (Nat.le_refl _) _⟩
theorem mul_any(a b:Int)(a0: -9223372036854775808≤a)(a1:a≤9223372036854775807)(b0: -9223372036854775808≤b)(b1:b≤9223372036854775807)(w:World):
  Calls Tryz.prog 145 #[.int .i64 a, .int .i64 b] w fun e w'=>e= .returned (.agg #[.int .i64 (hi (a*b)), .int .u64 (lo (a*b))])∧Below w.heap.size w w':=by
 rcases Int.lt_or_le a 0 with ha|ha<;>rcases Int.lt_or_le b 0 with hb|hb
 ·exact mul_any_nn a b a0 a1 b0 b1 ha hb w
 ·exact mul_any_np a b a0 a1 b0 b1 ha hb w
 ·exact mul_any_pn a b a0 a1 b0 b1 ha hb w
 ·exact mul_any_pp a b a0 a1 b0 b1 ha hb w
theorem cmp_hi(a b:Int)(a0: -170141183460469231731687303715884105728≤a)(a1:a<170141183460469231731687303715884105728)(b0: -170141183460469231731687303715884105728≤b)(b1:b<170141183460469231731687303715884105728)(h:hi a≠hi b):cmpI (hi a) (hi b)=cmpI a b:=by
 have e:hi a=a/18446744073709551616:=by unfold hi;omega
 have e':hi b=b/18446744073709551616:=by unfold hi;omega
 rw [e,e']at h ⊢;unfold cmpI;split<;>split<;>(try split)<;>(try split)<;>omega
theorem cmp_lo(a b:Int)(a0: -170141183460469231731687303715884105728≤a)(a1:a<170141183460469231731687303715884105728)(b0: -170141183460469231731687303715884105728≤b)(b1:b<170141183460469231731687303715884105728)(h:hi a=hi b):cmpI (lo a) (lo b)=cmpI a b:=by
 have e:hi a=a/18446744073709551616:=by unfold hi;omega
 have e':hi b=b/18446744073709551616:=by unfold hi;omega
 rw [e,e']at h;unfold cmpI lo;split<;>split<;>(try split)<;>(try split)<;>omega
theorem cmp_any{ah al bh bl:Int}(a b:Int)(ha:ah=hi a)(hl:al=lo a)(hb:bh=hi b)(hm:bl=lo b)(a0: -170141183460469231731687303715884105728≤a)(a1:a<170141183460469231731687303715884105728)(b0: -170141183460469231731687303715884105728≤b)(b1:b<170141183460469231731687303715884105728)(w:World):
  Calls Tryz.prog 136 #[.agg #[.int .i64 ah, .int .u64 al], .agg #[.int .i64 bh, .int .u64 bl]] w fun e w'=>e= .returned (.int .i64 (cmpI a b))∧Below w.heap.size w w':=by
 subst ha hl hb hm
 by_cases g:hi a=hi b
 ·have E:Hid _:=cmp_lo a b a0 a1 b0 b1 g
  have g':(hi a==hi b)=true:=by simpa using g
  clear g
  go_enter Tryz.func136,Tryz.ntmps136
  go_wp2_with (go_at_call 143;refine(cmpU64_any _ _ _).mono ?_;rintro e w' ⟨rfl,rfl⟩)
  go_ret
  exact⟨ret_int E.out,((Below.refl _ _).alloc (Nat.le_refl _) _).alloc (by simp) _⟩
 ·have E:Hid _:=cmp_hi a b a0 a1 b0 b1 g
  have g':(hi a==hi b)=false:=by simpa using g
  clear g
  go_enter Tryz.func136,Tryz.ntmps136
  go_wp2_with (go_at_call 142;refine(cmpI64_any _ _ _).mono ?_;rintro e w' ⟨rfl,rfl⟩)
  go_ret
  exact⟨ret_int E.out,((Below.refl _ _).alloc (Nat.le_refl _) _).alloc (by simp) _⟩
theorem sign_any{ah al:Int}(a:Int)(ha:ah=hi a)(hl:al=lo a)(a0: -170141183460469231731687303715884105728≤a)(a1:a<170141183460469231731687303715884105728)(w:World):
  Calls Tryz.prog 125 #[.agg #[.int .i64 ah, .int .u64 al]] w fun e w'=>e= .returned (.int .i64 (cmpI a 0))∧Below w.heap.size w w':=by
 subst ha hl
 go_enter Tryz.func125,Tryz.ntmps125
 go_wp2_with (go_at_call 136;refine(cmp_any a 0 rfl rfl hi_0 lo_0 a0 a1 (by decide) (by decide) _).mono ?_;rintro e w' ⟨rfl,hb⟩)
 go_ret
 exact⟨rfl,((Below.refl _ _).alloc (Nat.le_refl _) _).trans (hb.mono (by simp))⟩
end Go.Proofs.YtaadknpjbogkbaaGreat.lw
