/-
  Joined texts, part 11:
  What zelligeref11's AddFace does with a face whose corners are there and turn left.
  append in a region that draws its order, of elements of several cells. It imports nothing 
  What zelligeref11's DropVert and DropFace do.
-/
import Derived.Test.YtaadknpjbogkbaaGreatP8
import Derived.Test.YtaadknpjbogkbaaGreatP10
import Derived.Test.YtaadknpjbogkbaaGreatP1
import Derived.Test.YtaadknpjbogkbaaGreatP2
import Derived.Test.YtaadknpjbogkbaaGreatP7
namespace Go.Proofs.YtaadknpjbogkbaaGreat
open Go.RowKit
set_option linter.unusedVariables false
def FacePost(base p:Nat)(S:Ms)(F:Nat→Prop)(t:Tr)(n:Int)(w:World)(e:Ending)(w':World):Prop:=
 (there t S.C=true∧e= .returned (.tuple #[.int .i64 (-1), .int .i64 6])∧Below w.heap.size w w')∨(there t S.C=false∧e= .returned (.tuple #[.int .i64 n, .int .i64 0])∧Left (MeR base p (S.addF t)) F w w')
theorem any9{t:Tr}{c:Ce}{j:Nat}(hj:j<9)(h:twin t c j=true):(List.range 9).any (fun x=>twin t c x)=true:=List.any_eq_true.2 ⟨j,List.mem_range.2 hj,h⟩
theorem any9_no{t:Tr}{c:Ce}(h: ∀ j,j<9→twin t c j=false):(List.range 9).any (fun x=>twin t c x)=false:=by
 rw [List.any_eq_false]
 intro x hx
 rw [h x (List.mem_range.1 hx)]
 exact Bool.false_ne_true
set_option maxRecDepth 100000 in
set_option maxHeartbeats 4000000 in
theorem mrAddFl(base p:Nat)(S:Ms)(F:Nat→Prop)(t:Tr)(w:World)(hM:MeR base p S F w)(hV:S.V.length≤1000)(hC:S.C.length≤1000)(l1:S.af.L.length≤1000)(l2:S.af.B.length≤1000)(l3:S.af.T≤1000)(hn:In64 S.n)(hvs: ∀ v∈S.V,Vt64 v)(ht:Tr64 t)(hto:offB t)(hco: ∀ c∈S.C,offB c.t)(h0:isV S t.v0=true)(h1:isV S t.v1=true)(h2:isV S t.v2=true)(o0:plOk S t 0=true)(o1:plOk S t 1=true)(o2:plOk S t 2=true)(hg:(areaT S t).sign=1){n:Int}(hn':n=S.af.num):
  Calls Tryz.prog 47 #[ptR p,trV t] w (FacePost base p S F t n w):=by
 have HM:Hid _:=hM
 have HN:Hid _:=hn'
 obtain⟨i0,hi0,hz0,hz1,hz2⟩:=info_of infoC
 have h:=hM.look
 clear hM hn'
 obtain⟨W,hW⟩: ∃ W,W=w.alloc (.cells (trC t).toArray 49):=⟨_,rfl⟩
 have BW:Below w.heap.size w W:=by rw [hW];exact(Below.refl _ _).alloc (Nat.le_refl _) _
 have zW:W.heap.size=w.heap.size+1:=by rw [hW];simp
 have R0:Row W w.heap.size (trC t):=by rw [hW];exact Row.new w (trC t) _
 have hW':w.alloc (.cells #[.int .i64 t.v0, .int .i64 t.v1, .int .i64 t.v2, .int .i64 t.x0, .int .i64 t.y0, .int .i64 t.x1, .int .i64 t.y1, .int .i64 t.x2, .int .i64 t.y2] 49)=W:=hW.symm
 have L0:Hid _:=h.below BW
 have c0:=R0.cell 0 _ rfl
 have c1:=R0.cell 1 _ rfl
 have c2:=R0.cell 2 _ rfl
 have c3:=R0.cell 3 _ rfl
 have c4:=R0.cell 4 _ rfl
 have c5:=R0.cell 5 _ rfl
 have c6:=R0.cell 6 _ rfl
 have c7:=R0.cell 7 _ rfl
 have c8:=R0.cell 8 _ rfl
 clear h hW
 have k0:=isV_yes h0
 have d0:decide (fAt Vt.no t.v0 S.V 0<0)=false:=decide_eq_false (by omega)
 obtain⟨ok0,hok0,Hok0⟩: ∃ ok,ok=true∧Hid (ok=plOk S t 0):=⟨_,rfl,o0.symm⟩
 obtain⟨X0,HX0⟩: ∃ X,Hid (X=plX S t 0):=⟨_,rfl⟩
 obtain⟨Y0,HY0⟩: ∃ X,Hid (X=plY S t 0):=⟨_,rfl⟩
 have k1:=isV_yes h1
 have d1:decide (fAt Vt.no t.v1 S.V 0<0)=false:=decide_eq_false (by omega)
 obtain⟨ok1,hok1,Hok1⟩: ∃ ok,ok=true∧Hid (ok=plOk S t 1):=⟨_,rfl,o1.symm⟩
 obtain⟨X1,HX1⟩: ∃ X,Hid (X=plX S t 1):=⟨_,rfl⟩
 obtain⟨Y1,HY1⟩: ∃ X,Hid (X=plY S t 1):=⟨_,rfl⟩
 have k2:=isV_yes h2
 have d2:decide (fAt Vt.no t.v2 S.V 0<0)=false:=decide_eq_false (by omega)
 obtain⟨ok2,hok2,Hok2⟩: ∃ ok,ok=true∧Hid (ok=plOk S t 2):=⟨_,rfl,o2.symm⟩
 obtain⟨X2,HX2⟩: ∃ X,Hid (X=plX S t 2):=⟨_,rfl⟩
 obtain⟨Y2,HY2⟩: ∃ X,Hid (X=plY S t 2):=⟨_,rfl⟩
 go_enter Tryz.func47,Tryz.ntmps47
 go_wp2_with (go_at_call 92;fail)
 refine(mrVertAt p S t.v0 W L0.out hV rfl).mono ?_
 rintro e w1 ⟨rfl,b1⟩
 have L1:Hid _:=L0.out.below b1
 have R1:=R0.below b1 (by omega)
 have z1:=b1.size
 have c10:=R1.cell 0 _ rfl
 have c11:=R1.cell 1 _ rfl
 have c12:=R1.cell 2 _ rfl
 have c13:=R1.cell 3 _ rfl
 have c14:=R1.cell 4 _ rfl
 have c15:=R1.cell 5 _ rfl
 have c16:=R1.cell 6 _ rfl
 have c17:=R1.cell 7 _ rfl
 have c18:=R1.cell 8 _ rfl
 go_wp2_with (go_at_call 92;fail)
 refine(mrVertAt p S t.v1 w1 L1.out hV rfl).mono ?_
 rintro e w2 ⟨rfl,b2⟩
 have L2:Hid _:=L1.out.below b2
 have R2:=R1.below b2 (by omega)
 have z2:=b2.size
 have c20:=R2.cell 0 _ rfl
 have c21:=R2.cell 1 _ rfl
 have c22:=R2.cell 2 _ rfl
 have c23:=R2.cell 3 _ rfl
 have c24:=R2.cell 4 _ rfl
 have c25:=R2.cell 5 _ rfl
 have c26:=R2.cell 6 _ rfl
 have c27:=R2.cell 7 _ rfl
 have c28:=R2.cell 8 _ rfl
 go_wp2_with (go_at_call 92;fail)
 refine(mrVertAt p S t.v2 w2 L2.out hV rfl).mono ?_
 rintro e w3 ⟨rfl,b3⟩
 have L3:Hid _:=L2.out.below b3
 have R3:=R2.below b3 (by omega)
 have z3:=b3.size
 have c30:=R3.cell 0 _ rfl
 have c31:=R3.cell 1 _ rfl
 have c32:=R3.cell 2 _ rfl
 have c33:=R3.cell 3 _ rfl
 have c34:=R3.cell 4 _ rfl
 have c35:=R3.cell 5 _ rfl
 have c36:=R3.cell 6 _ rfl
 have c37:=R3.cell 7 _ rfl
 have c38:=R3.cell 8 _ rfl
 go_wp2_with (go_at_call 93;fail)
 refine(mrPlace p S t 0 w3 (by decide) L3.out hV hn hvs ht h0 (ok:=ok0) (X:=X0) (Y:=Y0) Hok0.out HX0.out HY0.out).mono ?_
 rintro e w4 ⟨rfl,b4⟩
 obtain⟨u4,hu4⟩: ∃ u,u=w4.alloc (.cells ([.int .i64 X0, .int .i64 Y0]:List Value).toArray 24):=⟨_,rfl⟩
 have d4:Below w4.heap.size w4 u4:=by rw [hu4];exact(Below.refl _ _).alloc (Nat.le_refl _) _
 have z4:=b4.size
 have y4:u4.heap.size=w4.heap.size+1:=by rw [hu4];simp
 have P0:Row u4 w4.heap.size [.int .i64 X0, .int .i64 Y0]:=by rw [hu4];exact Row.new w4 _ _
 have hv4:w4.alloc (.cells #[.int .i64 X0, .int .i64 Y0] 24)=u4:=hu4.symm
 have L4:Hid _:=(L3.out.below b4).below d4
 have R4:=(R3.below b4 (by omega)).below d4 (by omega)
 have c40:=R4.cell 0 _ rfl
 have c41:=R4.cell 1 _ rfl
 have c42:=R4.cell 2 _ rfl
 have c43:=R4.cell 3 _ rfl
 have c44:=R4.cell 4 _ rfl
 have c45:=R4.cell 5 _ rfl
 have c46:=R4.cell 6 _ rfl
 have c47:=R4.cell 7 _ rfl
 have c48:=R4.cell 8 _ rfl
 have p400:=P0.cell 0 _ rfl
 have p401:=P0.cell 1 _ rfl
 clear hu4
 go_wp2_with (go_at_call 93;fail)
 refine(mrPlace p S t 1 u4 (by decide) L4.out hV hn hvs ht h1 (ok:=ok1) (X:=X1) (Y:=Y1) Hok1.out HX1.out HY1.out).mono ?_
 rintro e w5 ⟨rfl,b5⟩
 obtain⟨u5,hu5⟩: ∃ u,u=w5.alloc (.cells ([.int .i64 X1, .int .i64 Y1]:List Value).toArray 24):=⟨_,rfl⟩
 have d5:Below w5.heap.size w5 u5:=by rw [hu5];exact(Below.refl _ _).alloc (Nat.le_refl _) _
 have z5:=b5.size
 have y5:u5.heap.size=w5.heap.size+1:=by rw [hu5];simp
 have P1:Row u5 w5.heap.size [.int .i64 X1, .int .i64 Y1]:=by rw [hu5];exact Row.new w5 _ _
 have hv5:w5.alloc (.cells #[.int .i64 X1, .int .i64 Y1] 24)=u5:=hu5.symm
 have L5:Hid _:=(L4.out.below b5).below d5
 have R5:=(R4.below b5 (by omega)).below d5 (by omega)
 have P0:=(P0.below b5 (by omega)).below d5 (by omega)
 have c50:=R5.cell 0 _ rfl
 have c51:=R5.cell 1 _ rfl
 have c52:=R5.cell 2 _ rfl
 have c53:=R5.cell 3 _ rfl
 have c54:=R5.cell 4 _ rfl
 have c55:=R5.cell 5 _ rfl
 have c56:=R5.cell 6 _ rfl
 have c57:=R5.cell 7 _ rfl
 have c58:=R5.cell 8 _ rfl
 have p500:=P0.cell 0 _ rfl
 have p501:=P0.cell 1 _ rfl
 have p510:=P1.cell 0 _ rfl
 have p511:=P1.cell 1 _ rfl
 clear hu5
 go_wp2_with (go_at_call 93;fail)
 refine(mrPlace p S t 2 u5 (by decide) L5.out hV hn hvs ht h2 (ok:=ok2) (X:=X2) (Y:=Y2) Hok2.out HX2.out HY2.out).mono ?_
 rintro e w6 ⟨rfl,b6⟩
 obtain⟨u6,hu6⟩: ∃ u,u=w6.alloc (.cells ([.int .i64 X2, .int .i64 Y2]:List Value).toArray 24):=⟨_,rfl⟩
 have d6:Below w6.heap.size w6 u6:=by rw [hu6];exact(Below.refl _ _).alloc (Nat.le_refl _) _
 have z6:=b6.size
 have y6:u6.heap.size=w6.heap.size+1:=by rw [hu6];simp
 have P2:Row u6 w6.heap.size [.int .i64 X2, .int .i64 Y2]:=by rw [hu6];exact Row.new w6 _ _
 have hv6:w6.alloc (.cells #[.int .i64 X2, .int .i64 Y2] 24)=u6:=hu6.symm
 have L6:Hid _:=(L5.out.below b6).below d6
 have R6:=(R5.below b6 (by omega)).below d6 (by omega)
 have P0:=(P0.below b6 (by omega)).below d6 (by omega)
 have P1:=(P1.below b6 (by omega)).below d6 (by omega)
 have c60:=R6.cell 0 _ rfl
 have c61:=R6.cell 1 _ rfl
 have c62:=R6.cell 2 _ rfl
 have c63:=R6.cell 3 _ rfl
 have c64:=R6.cell 4 _ rfl
 have c65:=R6.cell 5 _ rfl
 have c66:=R6.cell 6 _ rfl
 have c67:=R6.cell 7 _ rfl
 have c68:=R6.cell 8 _ rfl
 have p600:=P0.cell 0 _ rfl
 have p601:=P0.cell 1 _ rfl
 have p610:=P1.cell 0 _ rfl
 have p611:=P1.cell 1 _ rfl
 have p620:=P2.cell 0 _ rfl
 have p621:=P2.cell 1 _ rfl
 clear hu6
 subst hok0
 subst hok1
 subst hok2
 obtain⟨g,HG,rfl⟩: ∃ g,Hid (g=(areaP X0 Y0 X1 Y1 X2 Y2).sign)∧g=1:=⟨_,rfl,by rw [HX0.out,HY0.out,HX1.out,HY1.out,HX2.out,HY2.out];exact hg⟩
 clear hg
 go_wp2_with (go_at_call 45;fail)
 refine(rpOrient X0 Y0 X1 Y1 X2 Y2 u6 (by rw [HX0.out,HY0.out];exact plOk_can o0) (by rw [HX1.out,HY1.out];exact plOk_can o1) (by rw [HX2.out,HY2.out];exact plOk_can o2) (g:=1) HG.out).mono ?_
 rintro e w7 ⟨rfl,b7⟩
 have B7:Below w.heap.size w w7:=(((((((((BW.trans (b1.mono (by omega))).trans (b2.mono (by omega))).trans (b3.mono (by omega))).trans (b4.mono (by omega))).trans (d4.mono (by omega))).trans (b5.mono (by omega))).trans (d5.mono (by omega))).trans (b6.mono (by omega))).trans (d6.mono (by omega))).trans (b7.mono (by omega))
 have L7:Hid _:=L6.out.below b7
 have R7:=R6.below b7 (by omega)
 have z7:=b7.size
 have s7:w.heap.size<w7.heap.size:=by omega
 clear c0 c1 c2 c3 c4 c5 c6 c7 c8 c10 c11 c12 c13 c14 c15 c16 c17 c18 c20 c21 c22 c23 c24 c25 c26 c27 c28 c30 c31 c32 c33 c34 c35 c36 c37 c38 c40 c41 c42 c43 c44 c45 c46 c47 c48 c50 c51 c52 c53 c54 c55 c56 c57 c58 c60 c61 c62 c63 c64 c65 c66 c67 c68 p400 p401 p500 p501 p510 p511 p600 p601 p610 p611 p620 p621 hW' hv4 hv5 hv6 P0 P1 P2 R0 R1 R2 R3 R4 R5 R6 L0 L1 L2 L3 L4 L5 L6 d0 d1 d2 z1 z2 z3 z4 z5 z6 y4 y5 y6 zW HG Hok0 Hok1 Hok2 k0 k1 k2 h0 h1 h2 o0 o1 o2 b1 b2 b3 b4 b5 b6 b7 BW
 clear HX0 HX1 HX2 HY0 HY1 HY2 hn hvs ht hV d4 d5 d6
 have c0:=R7.cell 0 _ rfl
 have c1:=R7.cell 1 _ rfl
 have c2:=R7.cell 2 _ rfl
 have c3:=R7.cell 3 _ rfl
 have c4:=R7.cell 4 _ rfl
 have c5:=R7.cell 5 _ rfl
 have c6:=R7.cell 6 _ rfl
 have c7:=R7.cell 7 _ rfl
 have c8:=R7.cell 8 _ rfl
 go_wp2
 go_loopw [12] (fun i wr=> ∃ k:Nat,k≤S.C.length∧i= .int .i64 (k:Int)∧there t S.C=there t (S.C.drop k)∧Below w7.heap.size w7 wr) (fun i _=>S.C.length- (intOf i).toNat)
 case atStart=>exact⟨0,by omega,rfl,by simp,⟨rfl,rfl,rfl,Nat.le_refl _,fun _ _=>rfl⟩⟩
 case round=>
  clear c0 c1 c2 c3 c4 c5 c6 c7 c8
  obtain⟨k,hk,rfl,hth,bel⟩:=hrel
  have hl:=L7.out.below bel
  have zr:=bel.size
  by_cases hlt:k<S.C.length
  ·obtain⟨c,hx⟩: ∃ c,S.C[k]? =some c:=⟨S.C[k],List.getElem?_eq_getElem hlt⟩
   have hcm:=hco c (List.mem_of_getElem? hx)
   rw [there_drop hx]at hth
   have HTH:Hid _:=hth
   obtain⟨y1,y2,a,ca,b,cb,hrow⟩:=hl.row
   have m:=hrow.cell 4 _ rfl
   obtain⟨nn,hnn⟩: ∃ nn,nn=S.C.length:=⟨_,rfl⟩
   have HNN:Hid _:=hnn
   rw [←hnn]at m hlt hC
   have HL:Hid _:=hl
   have HX:Hid _:=hx
   clear hth hrow hl hx hk hnn
   go_wp2
   go_loopw [13] (fun i wr'=> ∃ j:Nat,j≤9∧i= .int .i64 (j:Int)∧(∀ j',j'<j→twin t c j'=false)∧Below w7.heap.size w7 wr') (fun i _=>9- (intOf i).toNat)
   case atStart=>exact⟨0,by omega,rfl,(fun j' h=>by omega),bel⟩
   case round=>
    obtain⟨j,hj,rfl,hno,bel2⟩:=hrel
    have zr2:=bel2.size
    have hl2:=L7.out.below bel2
    by_cases hj9:j<9
    ·have R8:=R7.below bel2 s7
     have c0:=R8.cell 0 _ rfl
     have c1:=R8.cell 1 _ rfl
     have c2:=R8.cell 2 _ rfl
     have c3:=R8.cell 3 _ rfl
     have c4:=R8.cell 4 _ rfl
     have c5:=R8.cell 5 _ rfl
     have c6:=R8.cell 6 _ rfl
     have c7:=R8.cell 7 _ rfl
     have c8:=R8.cell 8 _ rfl
     obtain⟨b8,cp8,x1,x2,x3,hrow8,hc8,hbl8,H8⟩:=hl2.face HX.out
     have g1:=H8 1 _ rfl
     have g2:=H8 2 _ rfl
     have g3:=H8 3 _ rfl
     have g4:=H8 4 _ rfl
     have g5:=H8 5 _ rfl
     have g6:=H8 6 _ rfl
     have g7:=H8 7 _ rfl
     have g8:=H8 8 _ rfl
     have g9:=H8 9 _ rfl
     have hA8:=Nat.lt_of_lt_of_le s7 zr2
     have hp8:=hrow8.lt
     have m8:=hrow8.cell 4 _ rfl
     rw [←HNN.out]at m8 hc8
     obtain⟨ja,hja⟩: ∃ ja,ja=j/3:=⟨_,rfl⟩
     obtain⟨jb,hjb⟩: ∃ jb,jb=j % 3:=⟨_,rfl⟩
     have f1:(j:Int)/3=(ja:Int):=by omega
     have f2:(j:Int) % 3=(jb:Int):=by omega
     have f4:(j:Int).tmod 3=(jb:Int):=by rw [Int.tmod_eq_emod_of_nonneg (by omega)];exact f2
     have ja3:ja<3:=by omega
     have f3:IntKind.i64.wrap (ja:Int)=(ja:Int):=by rw [wrap_i64];unfold wrap64;omega
     have jb3:jb<3:=by omega
     obtain⟨r,hr⟩: ∃ r,r=twin t c j:=⟨_,rfl⟩
     have HR:Hid (r=same t ja c.t jb):=by unfold Hid;rw [hr,hja,hjb];rfl
     have HJ:Hid (r=twin t c j):=hr
     have HNo:Hid _:=hno
     clear hja hjb hr hno H8 hrow8 hl2
     go_wp2
     refine wp_region_held_drew (S:=fun w'=>w'.cell? ⟨w.heap.size,0,none⟩=some (.int .i64 t.v0)∧w'.cell? ⟨w.heap.size,1,none⟩=some (.int .i64 t.v1)∧w'.cell? ⟨w.heap.size,2,none⟩=some (.int .i64 t.v2)∧w'.cell? ⟨w.heap.size,3,none⟩=some (.int .i64 t.x0)∧w'.cell? ⟨w.heap.size,4,none⟩=some (.int .i64 t.y0)∧w'.cell? ⟨w.heap.size,5,none⟩=some (.int .i64 t.x1)∧w'.cell? ⟨w.heap.size,6,none⟩=some (.int .i64 t.y1)∧w'.cell? ⟨w.heap.size,7,none⟩=some (.int .i64 t.x2)∧w'.cell? ⟨w.heap.size,8,none⟩=some (.int .i64 t.y2)∧w'.cell? ⟨p,4,none⟩=some (.slice (some ⟨b8,0,none⟩) nn cp8)∧w'.cell? ⟨b8,k*10+1,none⟩=some (.int .i64 c.t.v0)∧w'.cell? ⟨b8,k*10+2,none⟩=some (.int .i64 c.t.v1)∧w'.cell? ⟨b8,k*10+3,none⟩=some (.int .i64 c.t.v2)∧w'.cell? ⟨b8,k*10+4,none⟩=some (.int .i64 c.t.x0)∧w'.cell? ⟨b8,k*10+5,none⟩=some (.int .i64 c.t.y0)∧w'.cell? ⟨b8,k*10+6,none⟩=some (.int .i64 c.t.x1)∧w'.cell? ⟨b8,k*10+7,none⟩=some (.int .i64 c.t.y1)∧w'.cell? ⟨b8,k*10+8,none⟩=some (.int .i64 c.t.x2)∧w'.cell? ⟨b8,k*10+9,none⟩=some (.int .i64 c.t.y2)) (by kernel_rfl) ?_ (fun hHeld=>?_)
     ·exact⟨c0,c1,c2,c3,c4,c5,c6,c7,c8,m8,g1,g2,g3,g4,g5,g6,g7,g8,g9⟩
     refine tn 0 ?_;refine tn 1 ?_;refine tn 2 ?_;refine tn 3 ?_;refine tn 4 ?_;refine tn 5 ?_;refine tn 6 ?_;refine tn 7 ?_;refine tn 8 ?_;refine tn 9 ?_;refine tn 10 ?_;refine tn 11 ?_;refine tn 12 ?_
     simp only [Act.put,ps1,ps2,ps3]
     refine tcl 13 fun Kc hK=>?_
     go_simp
     (go_at_call 63;refine(mrTwin t c.t ja jb _ hto hcm ja3 jb3 HR.out).mono ?_;rintro e w9 ⟨rfl,b9⟩)
     refine hK.out _ _ ?_ (fun hHeld=>?_)
     ·exact⟨(b9.cell (p:=⟨w.heap.size,0,none⟩) hA8).trans c0,(b9.cell (p:=⟨w.heap.size,1,none⟩) hA8).trans c1,(b9.cell (p:=⟨w.heap.size,2,none⟩) hA8).trans c2,(b9.cell (p:=⟨w.heap.size,3,none⟩) hA8).trans c3,(b9.cell (p:=⟨w.heap.size,4,none⟩) hA8).trans c4,(b9.cell (p:=⟨w.heap.size,5,none⟩) hA8).trans c5,(b9.cell (p:=⟨w.heap.size,6,none⟩) hA8).trans c6,(b9.cell (p:=⟨w.heap.size,7,none⟩) hA8).trans c7,(b9.cell (p:=⟨w.heap.size,8,none⟩) hA8).trans c8,(b9.cell (p:=⟨p,4,none⟩) hp8).trans m8,(b9.cell (p:=⟨b8,k*10+1,none⟩) hbl8).trans g1,(b9.cell (p:=⟨b8,k*10+2,none⟩) hbl8).trans g2,(b9.cell (p:=⟨b8,k*10+3,none⟩) hbl8).trans g3,(b9.cell (p:=⟨b8,k*10+4,none⟩) hbl8).trans g4,(b9.cell (p:=⟨b8,k*10+5,none⟩) hbl8).trans g5,(b9.cell (p:=⟨b8,k*10+6,none⟩) hbl8).trans g6,(b9.cell (p:=⟨b8,k*10+7,none⟩) hbl8).trans g7,(b9.cell (p:=⟨b8,k*10+8,none⟩) hbl8).trans g8,(b9.cell (p:=⟨b8,k*10+9,none⟩) hbl8).trans g9⟩
     clear hK Kc
     refine wpAnyH_done (by kernel_rfl) ?_ _
     cases r with
     |true=>
      have HT:Hid (there t S.C=true):=by unfold Hid;rw [HTH.out,any9 hj9 HJ.out.symm];rfl
      go_wp2
      exact bodyPost_ret (v:= .tuple #[.int .i64 (-1), .int .i64 6]) (by simp [results,Tryz.results47,go_sem]) rfl (Or.inl ⟨HT.out,rfl,(B7.trans (bel2.drew.mono (by omega))).trans (b9.mono (by simp;omega))⟩)
     |false=>
      go_wp2
      go_roundw
      case rel=>exact⟨j+1,by omega,by simp,(fun j' h'=>if e:j'=j then by rw [e];exact HJ.out.symm else HNo.out j' (by omega)),bel2.drew.trans (b9.mono (by simp;omega))⟩
      case measure=>simp [intOf];omega
    ·obtain rfl:j=9:=by omega
     have HT:Hid (there t S.C=there t (S.C.drop (k+1))):=by unfold Hid;rw [HTH.out,any9_no hno];rfl
     clear hno
     go_wp2
     go_roundw
     case rel=>exact⟨k+1,by have:=HNN.out;omega,by simp,HT.out,bel2⟩
     case measure=>have:=HNN.out;simp [intOf];omega
  ·obtain rfl:k=S.C.length:=by omega
   have HTF:Hid (there t S.C=false):=by unfold Hid;rw [hth,List.drop_length];rfl
   obtain⟨y1,y2,a,ca,b,cb,hrow⟩:=hl.row
   have m:=hrow.cell 4 _ rfl
   have HB8:=B7.trans (bel.mono (by omega))
   have HMr:=HM.out.below HB8
   obtain⟨q,G,gc,hG,hA,hlook,hleft⟩:=HMr.focusF
   have HLF:Hid _:=hleft
   have HLK:Hid _:=hlook
   have R8:=R7.below bel s7
   have hAG: ¬G w.heap.size:=fun g=>by have:=(HM.out.ft _ (hG _ g).1).2;omega
   have HP:Hid (base≤w.heap.size):=by
    obtain⟨pv,pf,Fv,Ff,a,ca,b,cb,hrow,hv,hf,ha,hb,hp,_⟩:=HM.out.ex
    have:=HM.out.ft p hp
    unfold Hid;omega
   clear hth hlook hleft hrow hl HMr
   go_wp2_with (go_at_call 94;fail)
   refine(anTake base q S.af.L S.af.B S.af.T G wr hA l1 l2 l3 HN.out).mono ?_
   rintro e v1 ⟨rfl,HT⟩
   have HT':Hid _:=HT
   obtain⟨k1,G',h1',hs1⟩:=HT
   have lookT:Hid _:=HLK.out v1 k1
   have rA1:=R8.keep k1 (by omega) hAG
   have zv1:=k1.size
   have fin: ∀ (w3:World) (a3:Option Addr) (c3:Nat),Below v1.heap.size v1 w3→OwnS w3 v1.heap.size 83 10 a3 (insBy Ce.no ⟨n,t⟩ S.C).length c3 (flat ceC (insBy Ce.no ⟨n,t⟩ S.C))→Left (MeR base p (S.addF t)) F w (w3.setCell ⟨p,4,none⟩ (.slice a3 (insBy Ce.no ⟨n,t⟩ S.C).length c3)):=by
    intro w3 a3 c3 b3 o3
    have hn:=HN.out
    subst hn
    obtain⟨kF,F1,hM1,hs1⟩:=HLF.out S.af.took v1 HT'.out
    have hM3:=hM1.below b3
    have hno: ∀ k,F1 k→ ¬Slot a3 k:=fun k f s=>by have:=(hM1.ft k f).2;have:=(o3.lt s).2;omega
    have hF1:F1 p:=by obtain⟨pv,pf,Fv,Ff,a,ca,b,cb,hrow,hv,hf,ha,hb,hp,_⟩:=hM1.ex;exact hp
    have zz:=b3.size
    have hfin:=hM3.putF (o3.mono (base':=base) (by have:=HP.out;omega)) hno
    refine Left.step (Ob:=MeR base p S) (F1:=fun k=>F1 k) ((Keep.of HB8).trans kF (fun k f=>Or.inl f)) (fun k f=>(hs1 k f).imp (fun x=>x) (fun e=>by omega)) ((Keep.of b3).set (Or.inl hF1) _) hfin (fun k s=>s.imp (fun x=>x) (fun s=>(o3.lt s).2))
   have own0:=ownS_new v1 v1.heap.size 83 10 (Nat.le_refl _)
   have B0:Below v1.heap.size v1 (v1.alloc (.cells #[] 83)):=(Below.refl _ _).alloc (Nat.le_refl _) _
   clear h1' hs1 k1 hA hG m R8 HLF HLK
   go_wp2
   go_loopw [15,16,17] (fun s q i wr=>InsRel Ce.no ceC 83 10 v1 S.C ⟨n,t⟩ s q i wr) (fun _ _ i _=>S.C.length- (intOf i).toNat)
   case atStart=>exact⟨0, [],_,_,by omega,rfl,rfl,own0,by simp,Or.inl ⟨rfl,rfl,rfl⟩,B0⟩
   case round=>
    clear own0 B0
    obtain⟨k,M,a2,c2,hk,rfl,rfl,hown,hml,hcase,bel⟩:=hrel
    have hl:=lookT.out.below bel
    have rA2:=rA1.below bel (by omega)
    have cc0:=rA2.cell 0 _ rfl
    have cc1:=rA2.cell 1 _ rfl
    have cc2:=rA2.cell 2 _ rfl
    have cc3:=rA2.cell 3 _ rfl
    have cc4:=rA2.cell 4 _ rfl
    have cc5:=rA2.cell 5 _ rfl
    have cc6:=rA2.cell 6 _ rfl
    have cc7:=rA2.cell 7 _ rfl
    have cc8:=rA2.cell 8 _ rfl
    have zr:=bel.size
    obtain⟨nn,hnn⟩: ∃ nn,nn=S.C.length:=⟨_,rfl⟩
    have HNN:Hid _:=hnn
    have hVn:nn≤1000:=by omega
    by_cases hlt:k<S.C.length
    ·obtain⟨v,hx⟩: ∃ v,S.C[k]? =some v:=⟨S.C[k],List.getElem?_eq_getElem hlt⟩
     have HX:Hid _:=hx
     obtain⟨b,cp,z1,z2,z3,hrow,hc,hbl,H⟩:=hl.face hx
     have g0:wr.cell? ⟨b,k*10,none⟩=some (.int .i64 v.no):=H 0 _ rfl
     have g1:=H 1 _ rfl
     have g2:=H 2 _ rfl
     have g3:=H 3 _ rfl
     have g4:=H 4 _ rfl
     have g5:=H 5 _ rfl
     have g6:=H 6 _ rfl
     have g7:=H 7 _ rfl
     have g8:=H 8 _ rfl
     have g9:=H 9 _ rfl
     have m:=hrow.cell 4 _ rfl
     rw [←hnn]at m hc hlt hk
     have ownV:OwnS (wr.alloc (.cells #[.int .i64 v.no, .int .i64 v.t.v0, .int .i64 v.t.v1, .int .i64 v.t.v2, .int .i64 v.t.x0, .int .i64 v.t.y0, .int .i64 v.t.x1, .int .i64 v.t.y1, .int .i64 v.t.x2, .int .i64 v.t.y2] 83)) v1.heap.size 83 10 a2 M.length c2 (flat ceC M):=hown.below ((Below.refl _ _).alloc (Nat.le_refl _) _)
     have newV:=news_new wr (ceC v) 83
     have HI:Hid _:=hcase
     rcases hcase with⟨rfl,hM,hins⟩|⟨rfl,hins⟩
     ·have hmk:M.length≤k:=by rw [hM,List.length_take];omega
      by_cases hgt:n<v.no
      ·have HR:Hid (insBy Ce.no ⟨n,t⟩ S.C=(M++ [⟨n,t⟩])++ [v]++S.C.drop (k+1)):=by unfold Hid;rw [hins,insBy_drop hx,if_pos hgt,drop_at hx,hM];simp
       have ownN:OwnS (wr.alloc (.cells #[.int .i64 n, .int .i64 t.v0, .int .i64 t.v1, .int .i64 t.v2, .int .i64 t.x0, .int .i64 t.y0, .int .i64 t.x1, .int .i64 t.y1, .int .i64 t.x2, .int .i64 t.y2] 83)) v1.heap.size 83 10 a2 M.length c2 (flat ceC M):=hown.below ((Below.refl _ _).alloc (Nat.le_refl _) _)
       have newN:=news_new wr (ceC ⟨n,t⟩) 83
       clear hM hins HI hx hnn hrow hl H
       go_wp2_with (first
        |(at_builtin;go_loud (refine app_atS _ rfl (.tmp 131) (.tmp 135) 78 rfl v1.heap.size 83 i0 _ 10 80 Tryz.underlying78 hi0 hz0 hz1 hz2 rfl (by decide) a2 M.length c2 (flat ceC M) rfl ownN ⟨wr.heap.size,0,none⟩ 1 1 (ceC ⟨n,t⟩) rfl rfl newN (ceC_one ⟨n,t⟩) (by unfold maxLen;omega) (by omega) (by simp;omega) ?_;intro a3 c3 w3 h3 g3 s3;have bw3:=grow_below bel (by omega) hown g3;have z3:=bw3.size;have hl3:=lookT.out.below bw3;obtain⟨bx,cpx,z1x,z2x,z3x,hrowx,hcx,hblx,Hx⟩:=hl3.face HX.out;have g0x:w3.cell? ⟨bx,k*10,none⟩=some (.int .i64 v.no):=Hx 0 _ rfl;have g1x:=Hx 1 _ rfl;have g2x:=Hx 2 _ rfl;have g3x:=Hx 3 _ rfl;have g4x:=Hx 4 _ rfl;have g5x:=Hx 5 _ rfl;have g6x:=Hx 6 _ rfl;have g7x:=Hx 7 _ rfl;have g8x:=Hx 8 _ rfl;have g9x:=Hx 9 _ rfl;clear Hx;have mx:=hrowx.cell 4 _ rfl;rw [←HNN.out]at mx hcx;clear hrowx;rw [←flat_one (f:=ceC) (⟨n,t⟩:Ce),←flat_append]at h3;have h3:OwnS w3 v1.heap.size 83 10 a3 (M.length+1) c3 (flat ceC (M++ [⟨n,t⟩])):=h3;have ownW:OwnS (w3.alloc (.cells #[.int .i64 v.no, .int .i64 v.t.v0, .int .i64 v.t.v1, .int .i64 v.t.v2, .int .i64 v.t.x0, .int .i64 v.t.y0, .int .i64 v.t.x1, .int .i64 v.t.y1, .int .i64 v.t.x2, .int .i64 v.t.y2] 83)) v1.heap.size 83 10 a3 (M.length+1) c3 (flat ceC (M++ [⟨n,t⟩])):=OwnS.below h3 ((Below.refl _ _).alloc (Nat.le_refl _) _);have newW:=news_new w3 (ceC v) 83))
        |(at_builtin;go_loud (refine app_atS _ rfl (.tmp 137) (.tmp 145) 78 rfl v1.heap.size 83 i0 _ 10 80 Tryz.underlying78 hi0 hz0 hz1 hz2 rfl (by decide) a3 (M.length+1) c3 (flat ceC (M++ [⟨n,t⟩])) rfl ownW ⟨w3.heap.size,0,none⟩ 1 1 (ceC v) rfl rfl newW (ceC_one v) (by unfold maxLen;omega) (by omega) (by simp;omega) ?_;intro a4 c4 w4 h4 g4 s4)))
       go_roundw
       case rel=>
        rw [←flat_one (f:=ceC) v,←flat_append]at h4
        exact⟨k+1,(M++ [⟨n,t⟩])++ [v],a4,c4,by have:=HNN.out;omega,by simp,by simp,by simpa using h4,by simp;omega,Or.inr ⟨rfl,HR.out⟩,grow_below bw3 (by omega) h3 g4⟩
       case measure=>have:=HNN.out;simp [intOf];omega
      ·have hgf:decide (n<v.no)=false:=decide_eq_false hgt
       have HR:Hid (M++ [v]=S.C.take (k+1)∧insBy Ce.no ⟨n,t⟩ S.C=S.C.take (k+1)++insBy Ce.no ⟨n,t⟩ (S.C.drop (k+1))):=by unfold Hid;rw [take_at hx,hM];refine⟨rfl,?_⟩;rw [hins,insBy_drop hx,if_neg hgt];simp
       clear hM hins HI hx hnn hrow hl H
       go_wp2_with (at_builtin;go_loud (refine app_atS _ rfl (.tmp 137) (.tmp 145) 78 rfl v1.heap.size 83 i0 _ 10 80 Tryz.underlying78 hi0 hz0 hz1 hz2 rfl (by decide) a2 M.length c2 (flat ceC M) rfl ownV ⟨wr.heap.size,0,none⟩ 1 1 (ceC v) rfl rfl newV (ceC_one v) (by unfold maxLen;omega) (by omega) (by simp;omega) ?_;intro a3 c3 w3 h3 g3 s3))
       go_roundw
       case rel=>
        rw [←flat_one (f:=ceC) v,←flat_append]at h3
        exact⟨k+1,M++ [v],a3,c3,by have:=HNN.out;omega,by simp,by simp,by simpa using h3,by simp;omega,Or.inl ⟨rfl,HR.out⟩,grow_below bel (by omega) hown g3⟩
       case measure=>have:=HNN.out;simp [intOf];omega
     ·have HR:Hid (insBy Ce.no ⟨n,t⟩ S.C=(M++ [v])++S.C.drop (k+1)):=by unfold Hid;rw [hins,drop_at hx];simp
      clear hins HI hx hnn hrow hl H
      go_wp2_with (at_builtin;go_loud (refine app_atS _ rfl (.tmp 137) (.tmp 145) 78 rfl v1.heap.size 83 i0 _ 10 80 Tryz.underlying78 hi0 hz0 hz1 hz2 rfl (by decide) a2 M.length c2 (flat ceC M) rfl ownV ⟨wr.heap.size,0,none⟩ 1 1 (ceC v) rfl rfl newV (ceC_one v) (by unfold maxLen;omega) (by omega) (by simp;omega) ?_;intro a3 c3 w3 h3 g3 s3))
      go_roundw
      case rel=>
       rw [←flat_one (f:=ceC) v,←flat_append]at h3
       exact⟨k+1,M++ [v],a3,c3,by have:=HNN.out;omega,by simp,by simp,by simpa using h3,by simp;omega,Or.inr ⟨rfl,HR.out⟩,grow_below bel (by omega) hown g3⟩
      case measure=>have:=HNN.out;simp [intOf];omega
    ·obtain⟨z1,z2,za,zca,zb,zcb,hrow⟩:=hl.row
     have m:=hrow.cell 4 _ rfl
     have mf:=hrow.free 4 (by simp)
     obtain rfl:k=S.C.length:=by omega
     rw [←hnn]at m
     have HX:Hid _:=hl
     rcases hcase with⟨rfl,hM,hins⟩|⟨rfl,hins⟩
     ·have HR:Hid (M++ [⟨n,t⟩]=insBy Ce.no ⟨n,t⟩ S.C):=by unfold Hid;rw [hins,insBy_end _ _ _ _ (Nat.le_refl _),hM]
      have ownN:OwnS (wr.alloc (.cells #[.int .i64 n, .int .i64 t.v0, .int .i64 t.v1, .int .i64 t.v2, .int .i64 t.x0, .int .i64 t.y0, .int .i64 t.x1, .int .i64 t.y1, .int .i64 t.x2, .int .i64 t.y2] 83)) v1.heap.size 83 10 a2 M.length c2 (flat ceC M):=hown.below ((Below.refl _ _).alloc (Nat.le_refl _) _)
      have newN:=news_new wr (ceC ⟨n,t⟩) 83
      rw [←hnn]
      rw [←hnn]at hml
      clear hM hins hnn hl
      go_wp2_with (at_builtin;go_loud (refine app_atS _ rfl (.tmp 149) (.tmp 153) 78 rfl v1.heap.size 83 i0 _ 10 80 Tryz.underlying78 hi0 hz0 hz1 hz2 rfl (by decide) a2 M.length c2 (flat ceC M) rfl ownN ⟨wr.heap.size,0,none⟩ 1 1 (ceC ⟨n,t⟩) rfl rfl newN (ceC_one ⟨n,t⟩) (by unfold maxLen;omega) (by omega) (by simp;omega) ?_;intro a3 c3 w3 h3 g3 s3;have bw3:=grow_below bel (by omega) hown g3;obtain⟨z5,z6,z7,z8,z9,z0,hrow3⟩:=(lookT.out.below bw3).row;have mx:=hrow3.cell 4 _ rfl;have mxf:=hrow3.free 4 (by simp);clear hrow3))
      rw [←flat_one (f:=ceC) (⟨n,t⟩:Ce),←flat_append]at h3
      have h3:OwnS w3 v1.heap.size 83 10 a3 (M++ [(⟨n,t⟩:Ce)]).length c3 (flat ceC (M++ [(⟨n,t⟩:Ce)])):=by simpa using h3
      have e3:(M++ [(⟨n,t⟩:Ce)]).length=M.length+1:=by simp
      rw [←e3]
      rw [HR.out]at h3 ⊢
      exact bodyPost_ret (v:= .tuple #[.int .i64 n, .int .i64 0]) (by simp [results,Tryz.results47,go_sem]) rfl (Or.inr ⟨HTF.out,rfl,fin w3 a3 c3 bw3 h3⟩)
     ·have HR:Hid (M=insBy Ce.no ⟨n,t⟩ S.C):=by unfold Hid;rw [hins,List.drop_length];simp
      rw [←hnn]
      clear hins hnn hl
      go_wp2
      rw [HR.out]at hown ⊢
      exact bodyPost_ret (v:= .tuple #[.int .i64 n, .int .i64 0]) (by simp [results,Tryz.results47,go_sem]) rfl (Or.inr ⟨HTF.out,rfl,fin wr a2 c2 bel hown⟩)
theorem step_append_S{P:Program}{w:World}{ops:Array Oper}{o:Oper}{a:Act}{K:Act→World→Prop}{Q:Exit→Act→World→Prop}{E:Prop}(hgd:o.guard=none)(s x:Operand)(t:TypeId)
  (ho:o.op= .call { callee:= .builtin .append,args:= #[s,x],argTypes:= #[t,t] })
  (base:Nat) (e:TypeId) (i:TypeInfo) (z:Value) (size bytes:Nat) (ht:P.underlying t=some (.slice e)) (hi:P.info? e=some i) (hz:i.zero=some z)
  (hsize:i.size=size) (hby:i.bytes=bytes) (hzs:z.cells.size=size) (hsz:0<size)
  (a0:Option Addr) (n0 c0:Nat) (xs:List Value) (hs:a.eval s= .slice a0 n0 c0) (hown:OwnS w base e size a0 n0 c0 xs)
  (ad:Addr) (m c:Nat) (news:List Value) (hx:a.eval x= .slice (some ad) m c) (hl:news.length=m*size) (hnews:News w ad news) (h1: ∀ u∈news,u.oneCell'=true)
  (h63:n0+m≤maxLen) (hbytes:(n0+m)*bytes≤140737488355328) (hbase:base≤w.heap.size)
  (h: ∀ a' cap' w',OwnS w' base e size a' (n0+m) cap' (xs++news)→w.grownBy w' (Value.slice a0 n0 c0).ownBlock→(∀ k,Slot a' k→Slot a0 k∨w.heap.size≤k)→K (a.put o.dst (.slice a' (n0+m) cap')) w'):
  if Region.wanted o (yielded ops a.tmps)=true then Oper.wp P o a w K Q else E:=by
 have hw:Region.wanted o (yielded ops a.tmps)=true:=by simp [Region.wanted,hgd]
 rw [if_pos hw]
 obtain⟨v',w',hr,h2,h3,h4,h5⟩:=run_append_own_at (P:=P) w base t o.type e i z size bytes ht hi hz hsize hby hzs hsz _ n0 xs hown ad m c news hl hnews h1 h63 hbytes hbase
 unfold Oper.wp execOp
 simp only [ho,resolve,invoke,builtin,Sem.run_bind,Sem.run_pure,Result.andThen_ok,List.map_toArray,List.map_cons,List.map_nil,hs,hx,hr]
 obtain⟨a',cap',rfl,h6⟩:=OwnS.form h2
 refine h a' cap' w' h6 h3 ?_
 rintro k ⟨q,rfl⟩
 rcases h5 with h5|h5
 ·cases a0 with
  |none=>cases h5
  |some b0=>
   have:k=b0.block:=by simpa [Value.ownBlock]using h5
   subst this
   obtain⟨hl,⟨h7,_⟩|⟨g,cap',cur,hv,r⟩⟩:=hown
   ·cases h7
   ·cases hv;exact Or.inl ⟨0,rfl⟩
 ·have:k=w.heap.size:=by simpa [Value.ownBlock]using h5
  exact Or.inr (by omega)
theorem cut_length{α:Type}{L:List α}{i:Nat}(h:i<L.length):(cut L i).length=i+(L.length- (i+1)):=by unfold cut;rw [List.length_append,List.length_take,List.length_drop];omega
theorem flat_cut{α:Type}{f:α→List Value}{s:Nat}(hf: ∀ x,(f x).length=s)(L:List α)(i:Nat):flat f (cut L i)=(flat f L).take (i*s)++(flat f L).drop ((i+1)*s):=by unfold cut;rw [flat_append,flat_take hf,flat_drop hf]
set_option maxRecDepth 100000 in
set_option maxHeartbeats 1000000 in
theorem mrDropV0(p:Nat)(S:Ms)(v:Int)(w:World)(h:MeLook p S w)(hV:S.V.length≤1000)(hC:S.C.length≤1000)(hn:fAt Vt.no v S.V 0<0):Calls Tryz.prog 51 #[ptR p, .int .i64 v] w fun e w'=>e= .returned (.bool false)∧Below w.heap.size w w':=by
 go_enter Tryz.func51,Tryz.ntmps51
 go_wp2_with (go_at_call 92;fail)
 refine(mrVertAt p S v w h hV rfl).mono ?_
 rintro e w1 ⟨rfl,b1⟩
 go_wp2
 go_ret
 exact⟨rfl,b1⟩
set_option maxRecDepth 100000 in
set_option maxHeartbeats 1000000 in
theorem mrDropV1(p:Nat)(S:Ms)(v:Int)(w:World)(h:MeLook p S w)(hV:S.V.length≤1000)(hC:S.C.length≤1000)(hn:0≤fAt Vt.no v S.V 0)(hne:around S.C v≠ []):Calls Tryz.prog 51 #[ptR p, .int .i64 v] w fun e w'=>e= .returned (.bool false)∧Below w.heap.size w w':=by
 have hd:decide (fAt Vt.no v S.V 0<0)=false:=decide_eq_false (by omega)
 have hpos:0<((around S.C v).length:Int):=by have:=List.length_pos_iff.2 hne;omega
 have HL:Hid _:=h
 clear h
 go_enter Tryz.func51,Tryz.ntmps51
 go_wp2_with (go_at_call 92;fail)
 refine(mrVertAt p S v w HL.out hV rfl).mono ?_
 rintro e w1 ⟨rfl,b1⟩
 go_wp2_with (go_at_call 97;fail)
 refine(mrAround p S v w1 (HL.out.below b1) hC rfl).mono ?_
 rintro e w2 ⟨a2,c2,rfl,h2,b2⟩
 go_wp2
 go_ret
 exact⟨rfl,b1.trans (b2.mono b1.size)⟩
set_option maxRecDepth 100000 in
set_option maxHeartbeats 1000000 in
theorem mrDropV(base p:Nat)(S:Ms)(F:Nat→Prop)(v:Int)(i:Nat)(w:World)(hM:MeR base p S F w)(hV:S.V.length≤1000)(hC:S.C.length≤1000)(l1:S.av.L.length≤1000)(l2:S.av.B.length≤1000)(hi:fAt Vt.no v S.V 0=(i:Int))(hlt:i<S.V.length)(hL:v∈S.av.L)(hne:around S.C v= []):
  Calls Tryz.prog 51 #[ptR p, .int .i64 v] w fun e w'=>e= .returned (.bool true)∧Left (MeR base p (S.dropV v i)) F w w':=by
 have HM:Hid _:=hM
 have HI:Hid ((i:Int)=_):=hi.symm
 have HL:Hid _:=hL
 obtain⟨i0,hi0,hz0,hz1,hz2⟩:=info_of infoV
 have hd:decide ((i:Int)<0)=false:=decide_eq_false (by omega)
 have HNE:Hid ([]=around S.C v):=hne.symm
 clear hM hi hL hne
 go_enter Tryz.func51,Tryz.ntmps51
 go_wp2_with (go_at_call 92;fail)
 refine(mrVertAt p S v w HM.out.look hV HI.out).mono ?_
 rintro e w0 ⟨rfl,b0⟩
 go_wp2_with (go_at_call 97;fail)
 refine(mrAround p S v w0 (HM.out.look.below b0) hC HNE.out).mono ?_
 rintro e w1 ⟨a2,c2,rfl,h2,b1⟩
 have B1:Below w.heap.size w w1:=b0.trans (b1.mono b0.size)
 clear h2
 have M1:=HM.out.below B1
 have HM1:Hid _:=M1
 obtain⟨pv,pf,Fv,Ff,a,ca,b,cb,hrow,hv,hf,ha,hb,hp,hFv,hFf,hFa,hFb⟩:=M1.ex
 have hpl:=hrow.lt
 have hbase:base≤w1.heap.size:=by have:=M1.ft p hp;omega
 obtain⟨g,rfl,hg,_,hseg⟩:=ha.at (by omega)
 have hroom:=ha.room.1
 have q:=hrow.cell 3 _ rfl
 have fz:=hrow.free 3 (by simp)
 have HS:Hid _:=hseg
 have hlen:=ha.len
 have HLEN:Hid _:=hlen
 obtain⟨nn,hnn⟩: ∃ nn,nn=S.V.length:=⟨_,rfl⟩
 have HNN:Hid _:=hnn
 rw [←hnn]at q hlt hroom hV
 have hF1:Hid (F p):=hp
 clear hrow hv hf ha hb hFv hFf hFa hFb hseg hlen M1 hnn hp
 obtain⟨k,hk⟩: ∃ k,k=i+1:=⟨_,rfl⟩
 have kw:IntKind.i64.wrap ((i:Int)+1)=(k:Int):=by rw [wrap_i64,hk];unfold wrap64;omega
 have HK:Hid _:=hk
 have hic:i≤ca:=by omega
 have hic1:(k:Int)≤(nn:Int):=by omega
 have hic2:k≤nn:=by omega
 clear hk
 obtain⟨ad,hif,had⟩: ∃ ad:Addr,(if ca=k then some (⟨g,0,none⟩:Addr)else some ⟨g,k*4,none⟩)=some ad∧((ca=k∧ad=⟨g,0,none⟩)∨(¬ca=k∧ad=⟨g,k*4,none⟩)):=by
  by_cases e:ca=k
  ·exact⟨_,by rw [if_pos e],Or.inl ⟨e,rfl⟩⟩
  ·exact⟨_,by rw [if_neg e],Or.inr ⟨e,rfl⟩⟩
 have own0:OwnS (w1.drew.alloc (.cells #[] 134)) w1.heap.size 134 4 (some ⟨w1.heap.size,0,none⟩) 0 0 []:=ownS_new w1.drew w1.heap.size 134 4 (Nat.le_refl _)
 have B2:Below w1.heap.size w1 (w1.drew.alloc (.cells #[] 134)):=((Below.refl w1.heap.size w1).drew).alloc (Nat.le_refl _) _
 have news1:News (w1.drew.alloc (.cells #[] 134)) ⟨g,0,none⟩ ((flat vtC S.V).take (i*4)):=by
  intro j u hu
  have h1:=((Seg.take (w:=w1) HS.out (i*4)).cell j u hu)
  rw [Addr.add_lit]
  exact(B2.cell (p:=⟨g,0+j,none⟩) hg).trans h1
 have len1:((flat vtC S.V).take (i*4)).length=i*4:=by rw [List.length_take,HLEN.out,←HNN.out];omega
 have newsP: ∀ w3,Below w1.heap.size w1 w3→News w3 ad ((flat vtC S.V).drop (k*4)):=by
  intro w3 B3 j u hu
  rcases had with⟨e1,rfl⟩|⟨_,rfl⟩
  ·exact absurd (List.getElem?_eq_some_iff.1 hu).1 (by rw [List.length_drop,HLEN.out,←HNN.out,show nn=k by omega];omega)
  ·have h1:=((Seg.drop (w:=w1) HS.out (k*4)).cell j u hu)
   rw [Nat.zero_add]at h1
   rw [Addr.add_lit]
   exact(B3.cell (p:=⟨g,k*4+j,none⟩) hg).trans h1
 have HNP:Hid _:=newsP
 clear newsP had
 go_wp2
 refine regionL 19 (S:=fun w'=>w'.cell? ⟨p,3,none⟩=some (.slice (some ⟨g,0,none⟩) nn ca)) (by kernel_rfl) ?_ (fun hHeld=>?_)
 ·exact q
 refine tyL (i:=0) (v:=?vdrV0) rfl ?hydrV0 ?_
 case hydrV0=>(intro w hSw;(try dsimp only at hSw);go_simp<;>with_reducible rfl)
 simp only [Act.put,ps1,ps2,ps3]
 refine tyL (i:=2) (v:=?vdrV2) rfl ?hydrV2 ?_
 case hydrV2=>(intro w hSw;(try dsimp only at hSw);go_simp<;>with_reducible rfl)
 simp only [Act.put,ps1,ps2,ps3]
 refine tyL (i:=3) (v:=?vdrV3) rfl ?hydrV3 ?_
 case hydrV3=>(intro w hSw;(try dsimp only at hSw);go_simp<;>with_reducible rfl)
 simp only [Act.put,ps1,ps2,ps3]
 refine tyL (i:=4) (v:=?vdrV4) rfl ?hydrV4 ?_
 case hydrV4=>(intro w hSw;(try dsimp only at hSw);go_simp<;>with_reducible rfl)
 simp only [Act.put,ps1,ps2,ps3]
 refine tyL (i:=5) (v:=?vdrV5) rfl ?hydrV5 ?_
 case hydrV5=>(intro w hSw;(try dsimp only at hSw);go_simp<;>with_reducible rfl)
 simp only [Act.put,ps1,ps2,ps3]
 refine tyL (i:=6) (v:=?vdrV6) rfl ?hydrV6 ?_
 case hydrV6=>(intro w hSw;(try dsimp only at hSw);go_simp<;>with_reducible rfl)
 simp only [Act.put,ps1,ps2,ps3]
 refine tyL (i:=7) (v:=?vdrV7) rfl ?hydrV7 ?_
 case hydrV7=>(intro w hSw;(try dsimp only at hSw);go_simp<;>with_reducible rfl)
 simp only [Act.put,ps1,ps2,ps3]
 refine tyL (i:=9) (v:=?vdrV9) rfl ?hydrV9 ?_
 case hydrV9=>(intro w hSw;(try dsimp only at hSw);go_simp<;>with_reducible rfl)
 simp only [Act.put,ps1,ps2,ps3]
 refine tyL (i:=10) (v:=?vdrV10) rfl ?hydrV10 ?_
 case hydrV10=>(intro w hSw;(try dsimp only at hSw);go_simp<;>with_reducible rfl)
 simp only [Act.put,ps1,ps2,ps3]
 refine tyL (i:=11) (v:=?vdrV11) rfl ?hydrV11 ?_
 case hydrV11=>(intro w hSw;(try dsimp only at hSw);go_simp<;>with_reducible rfl)
 simp only [Act.put,ps1,ps2,ps3]
 refine tyL (i:=12) (v:=?vdrV12) rfl ?hydrV12 ?_
 case hydrV12=>(intro w hSw;(try dsimp only at hSw);go_simp<;>with_reducible rfl)
 simp only [Act.put,ps1,ps2,ps3]
 refine tyL (i:=13) (v:=?vdrV13) rfl ?hydrV13 ?_
 case hydrV13=>(intro w hSw;(try dsimp only at hSw);go_simp<;>with_reducible rfl)
 simp only [Act.put,ps1,ps2,ps3]
 refine tyL (i:=14) (v:=?vdrV14) rfl ?hydrV14 ?_
 case hydrV14=>(intro w hSw;(try dsimp only at hSw);go_simp<;>with_reducible rfl)
 simp only [Act.put,ps1,ps2,ps3]
 refine tyL (i:=15) (v:=?vdrV15) rfl ?hydrV15 ?_
 case hydrV15=>(intro w hSw;(try dsimp only at hSw);go_simp<;>with_reducible rfl)
 simp only [Act.put,ps1,ps2,ps3]
 refine takeL_call (i:=1) rfl (by kernel_rfl) (fun Kc hK=>?_)
 go_simp
 refine hK.out _ _ ?_ (fun hHeld=>?_)
 ·first|exact q4|exact(B2.cell (p:=⟨p,3,none⟩) hpl).trans q
 clear hK Kc
 refine takeL_call (i:=8) rfl (by kernel_rfl) (fun Kc hK=>?_)
 refine step_append_S rfl (.tmp 19) (.tmp 25) 77 rfl w1.heap.size 134 i0 _ 4 32 Tryz.underlying77 hi0 hz0 hz1 hz2 rfl (by decide) _ 0 0 [] rfl own0 ⟨g,0,none⟩ i ca _ rfl len1 news1 (fun u hu=>flat_one_cell vtC_one S.V u (List.mem_of_mem_take hu)) (by unfold maxLen;omega) (by omega) (by simp) ?_;intro a3 c3 w3 h3 g3 s3
 refine hK.out _ _ ?_ (fun hHeld=>?_)
 ·exact(((Keep.of (F:=fun k=>w1.heap.size≤k) B2).grown g3 (fun k e=>Or.inl (by simp [Value.ownBlock]at e;omega))).below (Nat.le_refl _) (fun k h=>h)).cell (p:=⟨p,3,none⟩) hpl|>.trans q
 clear hK Kc
 rw [List.nil_append]at h3
 have k3:Keep (fun k=>w1.heap.size≤k) w1 w3:=(Keep.of B2).grown g3 (fun k e=>Or.inl (by simp [Value.ownBlock]at e;omega))
 have B3:Below w1.heap.size w1 w3:=k3.below (Nat.le_refl _) (fun k h=>h)
 have z3:=B3.size
 have len2:((flat vtC S.V).drop (k*4)).length=(nn- k)*4:=(by rw [List.length_drop,HLEN.out,←HNN.out,←Nat.sub_mul])
 refine takeL_call (i:=16) rfl (by kernel_rfl) (fun Kc hK=>?_)
 refine step_append_S rfl (.tmp 26) (.tmp 33) 77 rfl w1.heap.size 134 i0 _ 4 32 Tryz.underlying77 hi0 hz0 hz1 hz2 rfl (by decide) a3 (0+i) c3 _ rfl h3 ad (nn- k) _ _ rfl len2 (HNP.out w3 B3) (fun u hu=>flat_one_cell vtC_one S.V u (List.mem_of_mem_drop hu)) (by unfold maxLen;have:=HK.out;omega) (by have:=HK.out;omega) z3 ?_;intro a4 c4 w4 h4 g4 s4
 refine hK.out _ _ ?_ (fun hHeld=>?_)
 ·exact((k3.grown g4 (fun k e=>Or.inl (OwnS.lt h3 (OwnS.slot h3 e)).2)).below (Nat.le_refl _) (fun k h=>h)).cell (p:=⟨p,3,none⟩) hpl|>.trans q
 clear hK Kc
 have k4:Keep (fun k=>w1.heap.size≤k) w1 w4:=k3.grown g4 (fun k e=>Or.inl (OwnS.lt h3 (OwnS.slot h3 e)).2)
 have B4:Below w1.heap.size w1 w4:=k4.below (Nat.le_refl _) (fun k h=>h)
 have M4:=HM1.out.below B4
 have fz4:=(World.frozen?_of_block (w:=w1) (a:=⟨p,3,none⟩) (B4.block p hpl)).trans fz
 have q4:=(B4.cell (p:=⟨p,3,none⟩) hpl).trans q
 refine takeL_call (i:=17) rfl (by kernel_rfl) (fun Kc hK=>?_)
 go_simp
 refine hK.out _ _ ?_ (fun hHeld=>?_)
 ·first|exact q4|exact(B2.cell (p:=⟨p,3,none⟩) hpl).trans q
 clear hK Kc
 refine tyL (i:=18) (v:=?vdrV18) rfl ?hydrV18 ?_
 case hydrV18=>(intro w hSw;(try dsimp only at hSw);go_simp<;>with_reducible rfl)
 simp only [Act.put,ps1,ps2,ps3]
 refine takeL_last rfl (by kernel_rfl) (fun Kc hK=>?_)
 go_simp
 refine hK.out _ _ ?_
 clear hK Kc
 refine anyL_done (by kernel_rfl) ?_ _
 have hk:=HK.out
 subst hk
 have hcl:i+(nn- (i+1))=(cut S.V i).length:=by rw [cut_length (by rw [←HNN.out];exact hlt),←HNN.out]
 rw [←flat_cut vtC_len]at h4
 rw [Nat.zero_add]at h4
 rw [hcl]at h4 ⊢
 have hno: ∀ k,F k→ ¬Slot a4 k:=fun k f s=>by have:=(HM.out.ft k f).2;have:=B1.size;have:=(OwnS.lt h4 s).2;omega
 have M5:=M4.putV (OwnS.mono h4 hbase) hno
 obtain⟨q5,G,gc,hG,hA,_,hleft⟩:=M5.focusV
 have HLF:Hid _:=hleft
 clear hleft
 obtain⟨w5,hw5⟩: ∃ w5,w5=w4.setCell ⟨p,3,none⟩ (.slice a4 (cut S.V i).length c4):=⟨_,rfl⟩
 rw [←hw5]at gc hA HLF ⊢
 have HW5:Hid _:=hw5
 clear hw5
 go_wp2_with (go_at_call 96;fail)
 refine(anFree base q5 S.av.L S.av.B S.av.T G v w5 hA l1 l2 HL.out rfl).mono ?_
 rintro e w6 ⟨rfl,HT⟩
 go_wp2
 go_ret
 obtain⟨k6,F6,h6,hs6⟩:=HLF.out (S.av.freed v) w6 HT
 have zB:=B1.size
 have K5:Keep F w w5:=by rw [HW5.out];exact((Keep.of B1).to B4).set (Or.inl hF1.out) _
 have z4:=B4.size
 refine⟨rfl,Left.step (Ob:=MeR base p S) (F1:=fun k=>F k∨Slot a4 k) K5 (fun k f=>f.imp (fun x=>x) (fun s=>by have:=(OwnS.lt h4 s).2;omega)) k6 h6 hs6⟩
set_option maxRecDepth 100000 in
set_option maxHeartbeats 1000000 in
theorem mrDropF0(p:Nat)(S:Ms)(v:Int)(w:World)(h:MeLook p S w)(hV:S.C.length≤1000)(hn:fAt Ce.no v S.C 0<0):Calls Tryz.prog 49 #[ptR p, .int .i64 v] w fun e w'=>e= .returned (.bool false)∧Below w.heap.size w w':=by
 go_enter Tryz.func49,Tryz.ntmps49
 go_wp2_with (go_at_call 27;fail)
 refine(mrFaceAt p S v w h hV rfl).mono ?_
 rintro e w1 ⟨rfl,b1⟩
 go_wp2
 go_ret
 exact⟨rfl,b1⟩
set_option maxRecDepth 100000 in
set_option maxHeartbeats 1000000 in
theorem mrDropF(base p:Nat)(S:Ms)(F:Nat→Prop)(v:Int)(i:Nat)(w:World)(hM:MeR base p S F w)(hV:S.C.length≤1000)(l1:S.af.L.length≤1000)(l2:S.af.B.length≤1000)(hi:fAt Ce.no v S.C 0=(i:Int))(hlt:i<S.C.length)(hL:v∈S.af.L):
  Calls Tryz.prog 49 #[ptR p, .int .i64 v] w fun e w'=>e= .returned (.bool true)∧Left (MeR base p (S.dropF v i)) F w w':=by
 have HM:Hid _:=hM
 have HI:Hid ((i:Int)=_):=hi.symm
 have HL:Hid _:=hL
 obtain⟨i0,hi0,hz0,hz1,hz2⟩:=info_of infoC
 have hd:decide ((i:Int)<0)=false:=decide_eq_false (by omega)
 clear hM hi hL
 go_enter Tryz.func49,Tryz.ntmps49
 go_wp2_with (go_at_call 27;fail)
 refine(mrFaceAt p S v w HM.out.look hV HI.out).mono ?_
 rintro e w0 ⟨rfl,b0⟩
 obtain⟨w1,hw1,B1⟩: ∃ w1,w1=w0∧Below w.heap.size w w1:=⟨_,rfl,b0⟩
 rw [←hw1]
 clear hw1
 have M1:=HM.out.below B1
 have HM1:Hid _:=M1
 obtain⟨pv,pf,Fv,Ff,a,ca,b,cb,hrow,hv,hf,ha,hb,hp,hFv,hFf,hFa,hFb⟩:=M1.ex
 have hpl:=hrow.lt
 have hbase:base≤w1.heap.size:=by have:=M1.ft p hp;omega
 obtain⟨g,rfl,hg,_,hseg⟩:=hb.at (by omega)
 have hroom:=hb.room.1
 have q:=hrow.cell 4 _ rfl
 have fz:=hrow.free 4 (by simp)
 have HS:Hid _:=hseg
 have hlen:=hb.len
 have HLEN:Hid _:=hlen
 obtain⟨nn,hnn⟩: ∃ nn,nn=S.C.length:=⟨_,rfl⟩
 have HNN:Hid _:=hnn
 rw [←hnn]at q hlt hroom hV
 have hF1:Hid (F p):=hp
 clear hrow hv hf ha hb hFv hFf hFa hFb hseg hlen M1 hnn hp
 obtain⟨k,hk⟩: ∃ k,k=i+1:=⟨_,rfl⟩
 have kw:IntKind.i64.wrap ((i:Int)+1)=(k:Int):=by rw [wrap_i64,hk];unfold wrap64;omega
 have HK:Hid _:=hk
 have hic:i≤cb:=by omega
 have hic1:(k:Int)≤(nn:Int):=by omega
 have hic2:k≤nn:=by omega
 clear hk
 obtain⟨ad,hif,had⟩: ∃ ad:Addr,(if cb=k then some (⟨g,0,none⟩:Addr)else some ⟨g,k*10,none⟩)=some ad∧((cb=k∧ad=⟨g,0,none⟩)∨(¬cb=k∧ad=⟨g,k*10,none⟩)):=by
  by_cases e:cb=k
  ·exact⟨_,by rw [if_pos e],Or.inl ⟨e,rfl⟩⟩
  ·exact⟨_,by rw [if_neg e],Or.inr ⟨e,rfl⟩⟩
 have own0:OwnS (w1.drew.alloc (.cells #[] 83)) w1.heap.size 83 10 (some ⟨w1.heap.size,0,none⟩) 0 0 []:=ownS_new w1.drew w1.heap.size 83 10 (Nat.le_refl _)
 have B2:Below w1.heap.size w1 (w1.drew.alloc (.cells #[] 83)):=((Below.refl w1.heap.size w1).drew).alloc (Nat.le_refl _) _
 have news1:News (w1.drew.alloc (.cells #[] 83)) ⟨g,0,none⟩ ((flat ceC S.C).take (i*10)):=by
  intro j u hu
  have h1:=((Seg.take (w:=w1) HS.out (i*10)).cell j u hu)
  rw [Addr.add_lit]
  exact(B2.cell (p:=⟨g,0+j,none⟩) hg).trans h1
 have len1:((flat ceC S.C).take (i*10)).length=i*10:=by rw [List.length_take,HLEN.out,←HNN.out];omega
 have newsP: ∀ w3,Below w1.heap.size w1 w3→News w3 ad ((flat ceC S.C).drop (k*10)):=by
  intro w3 B3 j u hu
  rcases had with⟨e1,rfl⟩|⟨_,rfl⟩
  ·exact absurd (List.getElem?_eq_some_iff.1 hu).1 (by rw [List.length_drop,HLEN.out,←HNN.out,show nn=k by omega];omega)
  ·have h1:=((Seg.drop (w:=w1) HS.out (k*10)).cell j u hu)
   rw [Nat.zero_add]at h1
   rw [Addr.add_lit]
   exact(B3.cell (p:=⟨g,k*10+j,none⟩) hg).trans h1
 have HNP:Hid _:=newsP
 clear newsP had
 go_wp2
 refine regionL 19 (S:=fun w'=>w'.cell? ⟨p,4,none⟩=some (.slice (some ⟨g,0,none⟩) nn cb)) (by kernel_rfl) ?_ (fun hHeld=>?_)
 ·exact q
 refine tyL (i:=0) (v:=?vdrC0) rfl ?hydrC0 ?_
 case hydrC0=>(intro w hSw;(try dsimp only at hSw);go_simp<;>with_reducible rfl)
 simp only [Act.put,ps1,ps2,ps3]
 refine tyL (i:=2) (v:=?vdrC2) rfl ?hydrC2 ?_
 case hydrC2=>(intro w hSw;(try dsimp only at hSw);go_simp<;>with_reducible rfl)
 simp only [Act.put,ps1,ps2,ps3]
 refine tyL (i:=3) (v:=?vdrC3) rfl ?hydrC3 ?_
 case hydrC3=>(intro w hSw;(try dsimp only at hSw);go_simp<;>with_reducible rfl)
 simp only [Act.put,ps1,ps2,ps3]
 refine tyL (i:=4) (v:=?vdrC4) rfl ?hydrC4 ?_
 case hydrC4=>(intro w hSw;(try dsimp only at hSw);go_simp<;>with_reducible rfl)
 simp only [Act.put,ps1,ps2,ps3]
 refine tyL (i:=5) (v:=?vdrC5) rfl ?hydrC5 ?_
 case hydrC5=>(intro w hSw;(try dsimp only at hSw);go_simp<;>with_reducible rfl)
 simp only [Act.put,ps1,ps2,ps3]
 refine tyL (i:=6) (v:=?vdrC6) rfl ?hydrC6 ?_
 case hydrC6=>(intro w hSw;(try dsimp only at hSw);go_simp<;>with_reducible rfl)
 simp only [Act.put,ps1,ps2,ps3]
 refine tyL (i:=7) (v:=?vdrC7) rfl ?hydrC7 ?_
 case hydrC7=>(intro w hSw;(try dsimp only at hSw);go_simp<;>with_reducible rfl)
 simp only [Act.put,ps1,ps2,ps3]
 refine tyL (i:=9) (v:=?vdrC9) rfl ?hydrC9 ?_
 case hydrC9=>(intro w hSw;(try dsimp only at hSw);go_simp<;>with_reducible rfl)
 simp only [Act.put,ps1,ps2,ps3]
 refine tyL (i:=10) (v:=?vdrC10) rfl ?hydrC10 ?_
 case hydrC10=>(intro w hSw;(try dsimp only at hSw);go_simp<;>with_reducible rfl)
 simp only [Act.put,ps1,ps2,ps3]
 refine tyL (i:=11) (v:=?vdrC11) rfl ?hydrC11 ?_
 case hydrC11=>(intro w hSw;(try dsimp only at hSw);go_simp<;>with_reducible rfl)
 simp only [Act.put,ps1,ps2,ps3]
 refine tyL (i:=12) (v:=?vdrC12) rfl ?hydrC12 ?_
 case hydrC12=>(intro w hSw;(try dsimp only at hSw);go_simp<;>with_reducible rfl)
 simp only [Act.put,ps1,ps2,ps3]
 refine tyL (i:=13) (v:=?vdrC13) rfl ?hydrC13 ?_
 case hydrC13=>(intro w hSw;(try dsimp only at hSw);go_simp<;>with_reducible rfl)
 simp only [Act.put,ps1,ps2,ps3]
 refine tyL (i:=14) (v:=?vdrC14) rfl ?hydrC14 ?_
 case hydrC14=>(intro w hSw;(try dsimp only at hSw);go_simp<;>with_reducible rfl)
 simp only [Act.put,ps1,ps2,ps3]
 refine tyL (i:=15) (v:=?vdrC15) rfl ?hydrC15 ?_
 case hydrC15=>(intro w hSw;(try dsimp only at hSw);go_simp<;>with_reducible rfl)
 simp only [Act.put,ps1,ps2,ps3]
 refine takeL_call (i:=1) rfl (by kernel_rfl) (fun Kc hK=>?_)
 go_simp
 refine hK.out _ _ ?_ (fun hHeld=>?_)
 ·first|exact q4|exact(B2.cell (p:=⟨p,4,none⟩) hpl).trans q
 clear hK Kc
 refine takeL_call (i:=8) rfl (by kernel_rfl) (fun Kc hK=>?_)
 refine step_append_S rfl (.tmp 12) (.tmp 18) 78 rfl w1.heap.size 83 i0 _ 10 80 Tryz.underlying78 hi0 hz0 hz1 hz2 rfl (by decide) _ 0 0 [] rfl own0 ⟨g,0,none⟩ i cb _ rfl len1 news1 (fun u hu=>flat_one_cell ceC_one S.C u (List.mem_of_mem_take hu)) (by unfold maxLen;omega) (by omega) (by simp) ?_;intro a3 c3 w3 h3 g3 s3
 refine hK.out _ _ ?_ (fun hHeld=>?_)
 ·exact(((Keep.of (F:=fun k=>w1.heap.size≤k) B2).grown g3 (fun k e=>Or.inl (by simp [Value.ownBlock]at e;omega))).below (Nat.le_refl _) (fun k h=>h)).cell (p:=⟨p,4,none⟩) hpl|>.trans q
 clear hK Kc
 rw [List.nil_append]at h3
 have k3:Keep (fun k=>w1.heap.size≤k) w1 w3:=(Keep.of B2).grown g3 (fun k e=>Or.inl (by simp [Value.ownBlock]at e;omega))
 have B3:Below w1.heap.size w1 w3:=k3.below (Nat.le_refl _) (fun k h=>h)
 have z3:=B3.size
 have len2:((flat ceC S.C).drop (k*10)).length=(nn- k)*10:=(by rw [List.length_drop,HLEN.out,←HNN.out,←Nat.sub_mul])
 refine takeL_call (i:=16) rfl (by kernel_rfl) (fun Kc hK=>?_)
 refine step_append_S rfl (.tmp 19) (.tmp 26) 78 rfl w1.heap.size 83 i0 _ 10 80 Tryz.underlying78 hi0 hz0 hz1 hz2 rfl (by decide) a3 (0+i) c3 _ rfl h3 ad (nn- k) _ _ rfl len2 (HNP.out w3 B3) (fun u hu=>flat_one_cell ceC_one S.C u (List.mem_of_mem_drop hu)) (by unfold maxLen;have:=HK.out;omega) (by have:=HK.out;omega) z3 ?_;intro a4 c4 w4 h4 g4 s4
 refine hK.out _ _ ?_ (fun hHeld=>?_)
 ·exact((k3.grown g4 (fun k e=>Or.inl (OwnS.lt h3 (OwnS.slot h3 e)).2)).below (Nat.le_refl _) (fun k h=>h)).cell (p:=⟨p,4,none⟩) hpl|>.trans q
 clear hK Kc
 have k4:Keep (fun k=>w1.heap.size≤k) w1 w4:=k3.grown g4 (fun k e=>Or.inl (OwnS.lt h3 (OwnS.slot h3 e)).2)
 have B4:Below w1.heap.size w1 w4:=k4.below (Nat.le_refl _) (fun k h=>h)
 have M4:=HM1.out.below B4
 have fz4:=(World.frozen?_of_block (w:=w1) (a:=⟨p,4,none⟩) (B4.block p hpl)).trans fz
 have q4:=(B4.cell (p:=⟨p,4,none⟩) hpl).trans q
 refine takeL_call (i:=17) rfl (by kernel_rfl) (fun Kc hK=>?_)
 go_simp
 refine hK.out _ _ ?_ (fun hHeld=>?_)
 ·first|exact q4|exact(B2.cell (p:=⟨p,4,none⟩) hpl).trans q
 clear hK Kc
 refine tyL (i:=18) (v:=?vdrC18) rfl ?hydrC18 ?_
 case hydrC18=>(intro w hSw;(try dsimp only at hSw);go_simp<;>with_reducible rfl)
 simp only [Act.put,ps1,ps2,ps3]
 refine takeL_last rfl (by kernel_rfl) (fun Kc hK=>?_)
 go_simp
 refine hK.out _ _ ?_
 clear hK Kc
 refine anyL_done (by kernel_rfl) ?_ _
 have hk:=HK.out
 subst hk
 have hcl:i+(nn- (i+1))=(cut S.C i).length:=by rw [cut_length (by rw [←HNN.out];exact hlt),←HNN.out]
 rw [←flat_cut ceC_len]at h4
 rw [Nat.zero_add]at h4
 rw [hcl]at h4 ⊢
 have hno: ∀ k,F k→ ¬Slot a4 k:=fun k f s=>by have:=(HM.out.ft k f).2;have:=B1.size;have:=(OwnS.lt h4 s).2;omega
 have M5:=M4.putF (OwnS.mono h4 hbase) hno
 obtain⟨q5,G,gc,hG,hA,_,hleft⟩:=M5.focusF
 have HLF:Hid _:=hleft
 clear hleft
 obtain⟨w5,hw5⟩: ∃ w5,w5=w4.setCell ⟨p,4,none⟩ (.slice a4 (cut S.C i).length c4):=⟨_,rfl⟩
 rw [←hw5]at gc hA HLF ⊢
 have HW5:Hid _:=hw5
 clear hw5
 go_wp2_with (go_at_call 96;fail)
 refine(anFree base q5 S.af.L S.af.B S.af.T G v w5 hA l1 l2 HL.out rfl).mono ?_
 rintro e w6 ⟨rfl,HT⟩
 go_wp2
 go_ret
 obtain⟨k6,F6,h6,hs6⟩:=HLF.out (S.af.freed v) w6 HT
 have zB:=B1.size
 have K5:Keep F w w5:=by rw [HW5.out];exact((Keep.of B1).to B4).set (Or.inl hF1.out) _
 have z4:=B4.size
 refine⟨rfl,Left.step (Ob:=MeR base p S) (F1:=fun k=>F k∨Slot a4 k) K5 (fun k f=>f.imp (fun x=>x) (fun s=>by have:=(OwnS.lt h4 s).2;omega)) k6 h6 hs6⟩
end Go.Proofs.YtaadknpjbogkbaaGreat
