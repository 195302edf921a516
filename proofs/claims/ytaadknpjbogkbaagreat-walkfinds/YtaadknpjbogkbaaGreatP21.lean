/-
  Joined texts, part 21:
  What zelligeref16's all answers.
-/
import Derived.Test.YtaadknpjbogkbaaGreatP18
import Derived.Test.YtaadknpjbogkbaaGreatP20
namespace Go.Proofs.YtaadknpjbogkbaaGreat
open Go.RowKit
set_option linter.unusedVariables false
def RAll(r:Option (Ce×Int×Int))(e:Ending):Prop:=match r with
 |none=>e= .returned (.tuple #[.int .i64 (-1), .agg #[.int .i64 0, .int .i64 0], .bool false])
 |some q=>e= .returned (.tuple #[.int .i64 q.1.no, .agg #[.int .i64 q.2.1, .int .i64 q.2.2], .bool true])
theorem corner_home{S:Ms}{m:Nat}(O:MsOk S m){c:Ce}(hc:c∈S.C):mvOk S c.t 0 0 0=true∧homeC (plX S c.t 0) (plY S c.t 0) S.n=true∧plX S c.t 0/S.n=c.t.x0∧plY S c.t 0/S.n=c.t.y0:=by
 have hcan:=plc_can O hc (i:=0) (by decide)
 have hn:=O.n1
 have hs:sideC S.n=true:=sideC_true.2 ⟨hn.1,by omega⟩
 obtain⟨h1,h2⟩:=canC_true.1 hcan
 obtain⟨a,ha,hav⟩:=isV_iff.1 (O.fi c hc 0 (by decide))
 have hp:=pos_of O.vs ha
 have hq:=O.vq a ha
 have ho:=O.fo c hc 0 (by decide)
 refine⟨?_,?_,?_,?_⟩
 ·exact atC_true.2 ⟨hs,hcan,by rw [Int.zero_mul,Int.add_zero];exact h1,by rw [Int.zero_mul,Int.add_zero];exact h2⟩
 ·unfold homeC;rw [hs,hcan];rfl
 ·unfold plX
  rw [if_pos ho,←hav,hp,Int.add_mul_ediv_right _ _ (by omega),Int.ediv_eq_zero_of_lt hq.1.1 hq.1.2,Int.zero_add]
  rfl
 ·unfold plY
  rw [if_pos ho,←hav,hp,Int.add_mul_ediv_right _ _ (by omega),Int.ediv_eq_zero_of_lt hq.2.1.1 hq.2.1.2,Int.zero_add]
  rfl
set_option maxRecDepth 100000 in
set_option maxHeartbeats 8000000 in
theorem wrAll(p:Nat)(S:Ms)(m:Nat)(O:MsOk S m)(hm:m≤1000)(w:World)(h:MeLook p S w)(q1 q2:Int)(hq:canC q1 q2=true):
  Calls Tryz.prog 30 #[ptR p, .agg #[.int .i64 q1, .int .i64 q2]] w fun e w'=>RAll (seekW S q1 q2 S.C) e∧Below w.heap.size w w':=by
 have hlen:=O.lens.2.1
 have hn1:=O.n1
 have HO:Hid _:=O
 have HMM:Hid _:=hm
 have HQ:Hid _:=hq
 obtain⟨W,hW⟩: ∃ W,W=((w.alloc (.cells #[.int .i64 q1, .int .i64 q2] 24)).alloc (.cells #[.int .i64 0, .int .i64 0] 32)):=⟨_,rfl⟩
 have bW:Below w.heap.size w W:=by rw [hW];exact(((Below.refl _ _).alloc (Nat.le_refl _) _).alloc (by simp<;>omega) _)
 have zW:W.heap.size=w.heap.size+2:=by rw [hW];simp
 have Rq:Row W (w.heap.size) [.int .i64 q1, .int .i64 q2]:=by
  have h0:=Row.new w [.int .i64 q1, .int .i64 q2] 24
  rw [hW];exact(h0.alloc _ (by simp<;>omega))
 have lq:w.heap.size<W.heap.size:=by omega
 have Rr:Row W (w.heap.size+1) [.int .i64 0, .int .i64 0]:=by
  have h0:=Row.new (w.alloc (.cells #[.int .i64 q1, .int .i64 q2] 24)) [.int .i64 0, .int .i64 0] 32
  simp only [World.size_alloc]at h0
  rw [hW];exact h0
 have lr:w.heap.size+1<W.heap.size:=by omega
 have HW:((w.alloc (.cells #[.int .i64 q1, .int .i64 q2] 24)).alloc (.cells #[.int .i64 0, .int .i64 0] 32))=W:=hW.symm
 clear hW
 have HL:Hid (MeLook p S W):=h.below bW
 have hpw:p<w.heap.size:=by obtain⟨_,_,_,_,_,_,hr⟩:=h.row;exact hr.lt
 obtain⟨N,hN⟩: ∃ N,N=S.n:=⟨_,rfl⟩
 have HNN:Hid _:=hN
 obtain⟨n,hn⟩: ∃ n,n=S.C.length:=⟨_,rfl⟩
 have HN:Hid _:=hn
 obtain⟨s1,s2,a,ca,b,cb,hrow⟩:=HL.out.row
 rw [←hn,←hN]at hrow
 rw [←hn]at hlen
 have hnb:n≤1000:=by omega
 rw [←hN]at hn1
 have hpW:=hrow.lt
 replace HW:Hid _:=HW
 clear h hn hN O hm hq
 go_enter Tryz.func30,Tryz.ntmps30
 go_wp2
 rw [HW.out]
 clear HW
 go_loopw [7] (fun k wr=> ∃ i:Nat,i≤n∧k= .int .i64 (i:Int)∧Hid (seekW S q1 q2 S.C=seekW S q1 q2 (S.C.drop i))∧Below W.heap.size W wr) (fun k _=>n- (Go.RowKit.intOf k).toNat)
 case atStart=>exact⟨0,by omega,rfl,rfl,Below.refl _ _⟩
 case round=>
  obtain⟨i,hi,rfl,HA,kr⟩:=hrel
  obtain⟨wq,hwq⟩: ∃ w,w=wr:=⟨_,rfl⟩
  rw [←hwq]at kr ⊢
  clear hwq
  have zq:=kr.size
  have hrq:=hrow.keep (Keep.of (F:=fun _=>False) kr) hpW (fun x=>x)
  have m4:=hrq.cell 4 _ rfl
  by_cases hlt:i<n
  ·have hlt':(i:Int)<(n:Int):=by omega
   obtain⟨c,hc0⟩: ∃ c,S.C[i]? =some c:=⟨S.C[i]'(by rw [←HN.out];exact hlt),List.getElem?_eq_getElem _⟩
   have hcm:=List.mem_of_getElem? hc0
   have HC:Hid _:=hcm
   obtain⟨g,cp,s3,s4,s5,hrow2,hle,hgb,HE⟩:=(HL.out.below kr).face hc0
   have e4:=hrow2.cell 4 _ rfl
   rw [←HN.out]at e4
   have y0:wq.cell? ⟨g,i*10,none⟩=some (.int .i64 c.no):=HE 0 _ rfl
   have HD:Hid _:=seekW_drop (S:=S) (qx:=q1) (qy:=q2) hc0
   obtain⟨h1,h2,h3,h4⟩:=corner_home HO.out hcm
   have hcan:=canC_true.1 (plc_can HO.out hcm (i:=0) (by decide))
   have b1:=inC_true.1 hcan.1
   have b2:=inC_true.1 hcan.2
   have hsm:=off_few HO.out hcm (i:=0) (by decide)
   obtain⟨X,hX⟩: ∃ X,X=plX S c.t 0:=⟨_,rfl⟩
   obtain⟨Y,hY⟩: ∃ X,X=plY S c.t 0:=⟨_,rfl⟩
   obtain⟨no,hno⟩: ∃ f,f=c.no:=⟨_,rfl⟩
   obtain⟨x0,hx0⟩: ∃ f,f=c.t.x0:=⟨_,rfl⟩
   obtain⟨y0',hy0⟩: ∃ f,f=c.t.y0:=⟨_,rfl⟩
   have hsm:(-2199023255552≤x0∧x0≤2199023255552)∧(-2199023255552≤y0'∧y0'≤2199023255552):=by rw [hx0,hy0];exact hsm
   have HNO:Hid _:=hno
   have HX0:Hid _:=hx0
   have HY0:Hid _:=hy0
   rw [←hX,←hY,←HNN.out]at h2
   rw [←hX,←HNN.out,←hx0]at h3
   rw [←hY,←HNN.out,←hy0]at h4
   rw [←hno]at y0
   rw [←hX]at b1
   rw [←hY]at b2
   have CC:Hid (∀ w',Below W.heap.size W w'→Calls Tryz.prog 62 #[ptR p, .int .i64 no, .int .i64 0, .agg #[.int .i64 0, .int .i64 0]] w' fun e w''=>e= .returned (.tuple #[.agg #[.int .i64 X, .int .i64 Y], .bool true])∧Below w'.heap.size w' w''):=fun w' hb=>by
    rw [hno]
    exact wrCorner p S m HO.out HMM.out w' (HL.out.below hb) c hcm 0 (by decide) 0 0 ⟨by omega,by omega⟩ ⟨by omega,by omega⟩ h1.symm (by rw [if_pos rfl,hX];unfold mvX;rw [Int.zero_mul,Int.add_zero]) (by rw [if_pos rfl,hY];unfold mvY;rw [Int.zero_mul,Int.add_zero])
   obtain⟨xa,hxa⟩: ∃ X':Int,X'=X % N:=⟨_,rfl⟩
   obtain⟨ya,hya⟩: ∃ X':Int,X'=Y % N:=⟨_,rfl⟩
   have CH:Hid (∀ w',Calls Tryz.prog 26 #[.agg #[.int .i64 X, .int .i64 Y], .int .i64 N] w' fun e w''=>e= .returned (.tuple #[.agg #[.int .i64 xa, .int .i64 ya], .agg #[.int .i64 x0, .int .i64 y0'], .bool true])∧Below w'.heap.size w' w''):=fun w'=>rlHome X Y N w' ⟨by omega,by omega⟩ ⟨by omega,by omega⟩ ⟨by omega,by omega⟩ h2.symm (by rw [if_pos rfl,hxa]) (by rw [if_pos rfl,hya]) (by rw [if_pos rfl,h3]) (by rw [if_pos rfl,h4])
   have CT:Hid (∀ (w':World) (x y r:Int),Below W.heap.size W w'→In64 x→In64 y→r=outI S c.t x y q1 q2→Calls Tryz.prog 28 #[ptR p, .int .i64 no, .agg #[.int .i64 x, .int .i64 y], .agg #[.int .i64 q1, .int .i64 q2]] w' fun e w''=>e= .returned (.int .i64 r)∧Below w'.heap.size w' w''):=fun w' x y r hb hx hy hr=>by
    rw [hno]
    exact wrOut p S m HO.out HMM.out w' (HL.out.below hb) c hcm x y q1 q2 hx hy HQ.out hr
   clear h1 h2 h3 h4 hcan b1 b2 hX hY hno hxa hya hx0 hy0 hcm HE m4 hrow2 hc0 hle
   go_wp2_with (go_at_call 62;fail)
   refine Calls.mono (CC.out wq kr) ?_
   rintro e w2 ⟨rfl,c2⟩
   obtain⟨w3,hw3⟩: ∃ w3,w3=w2.alloc (.cells #[.int .i64 X, .int .i64 Y] 24):=⟨_,rfl⟩
   have k3:Below wq.heap.size wq w3:=by rw [hw3];exact c2.alloc c2.size _
   have R3:Row w3 w2.heap.size [.int .i64 X, .int .i64 Y]:=by rw [hw3];exact Row.new w2 [.int .i64 X, .int .i64 Y] _
   have z3:=k3.size
   have d0:=R3.cell 0 _ rfl
   have d1:=R3.cell 1 _ rfl
   have l3:w2.heap.size<w3.heap.size:=by rw [hw3];simp
   have lp:p<w3.heap.size:=by omega
   have m0:w3.cell? ⟨p,0,none⟩=some (.int .i64 N):=(hrq.keep (Keep.of (F:=fun _=>False) k3) (by omega) (fun x=>x)).cell 0 _ rfl
   have H3:Hid _:=hw3.symm
   have KW:Below W.heap.size W w3:=kr.trans (k3.mono (by omega))
   clear CC e4 y0 hw3 hgb
   go_wp2
   rw [H3.out]
   clear H3
   have HSh:Hid (∀ w',Below w3.heap.size w3 w'→(fun w'=>w'.cell? ⟨w2.heap.size,0,none⟩=some (.int .i64 X)∧w'.cell? ⟨w2.heap.size,1,none⟩=some (.int .i64 Y)∧w'.cell? ⟨p,0,none⟩=some (.int .i64 N)∧Below w3.heap.size w3 w') w'):=by
    unfold Hid
    intro w' hb
    exact⟨(hb.cell (p:=⟨w2.heap.size,0,none⟩) l3).trans d0,(hb.cell (p:=⟨w2.heap.size,1,none⟩) l3).trans d1,(hb.cell (p:=⟨p,0,none⟩) lp).trans m0,hb⟩
   obtain⟨QQ,hQQ⟩: ∃ QQ:Exit→Go.Act→World→Prop,QQ=fun e act wz=>e= .normal∧ ∃ pa pc:Nat,act=⟨#[ptR p, .agg #[.int .i64 q1, .int .i64 q2],undef, .pointer (some ⟨w.heap.size,0,none⟩),u4, .pointer (some ⟨w.heap.size+1,0,none⟩),u6, .int .i64 (i:Int), .int .i64 no, .pointer (some ⟨w2.heap.size,0,none⟩), .bool true, .pointer (some ⟨pa,0,none⟩), .pointer (some ⟨pc,0,none⟩), .bool true,u14,u15,u16, .int .i64 (i:Int),ptR p, .pointer (some ⟨p,0,none⟩), .pointer (some ⟨p,4,none⟩), .slice (some ⟨g,0,none⟩) n cp, .int .i64 (n:Int), .bool true,u24,u25,ptR p, .pointer (some ⟨p,0,none⟩), .pointer (some ⟨p,4,none⟩), .slice (some ⟨g,0,none⟩) n cp, .int .i64 (i:Int), .pointer (some ⟨g,i*10,none⟩), .pointer (some ⟨g,i*10,none⟩), .int .i64 no, .tuple #[.agg #[.int .i64 X, .int .i64 Y], .bool true],ptR p, .int .i64 no, .agg #[.int .i64 0, .int .i64 0], .tuple #[.agg #[.int .i64 X, .int .i64 Y], .bool true], .agg #[.int .i64 X, .int .i64 Y], .bool true, .tuple #[.agg #[.int .i64 xa, .int .i64 ya], .agg #[.int .i64 x0, .int .i64 y0'], .bool true], .agg #[.int .i64 X, .int .i64 Y],ptR p,ptR p, .pointer (some ⟨p,0,none⟩), .int .i64 N, .tuple #[.agg #[.int .i64 xa, .int .i64 ya], .agg #[.int .i64 x0, .int .i64 y0'], .bool true], .agg #[.int .i64 xa, .int .i64 ya], .agg #[.int .i64 x0, .int .i64 y0'], .bool true,u51,u52,u53,u54,u55,u56,u57,u58,u59,u60,u61,u62,u63,u64,u65,u66,u67,u68,u69,u70,u71,u72,u73,u74,u75,undef], []⟩∧Row wz pa [.int .i64 xa, .int .i64 ya]∧Row wz pc [.int .i64 x0, .int .i64 y0']∧Below w3.heap.size w3 wz∧w3.heap.size≤pa∧pa<wz.heap.size∧w3.heap.size≤pc∧pc<wz.heap.size:=⟨_,rfl⟩
   have HQQ:Hid _:=hQQ
   clear hQQ
   refine wp_mono (Q:=QQ) ?_ ?_
   ·refine wp_region_held_drew (S:=fun w'=>w'.cell? ⟨w2.heap.size,0,none⟩=some (.int .i64 X)∧w'.cell? ⟨w2.heap.size,1,none⟩=some (.int .i64 Y)∧w'.cell? ⟨p,0,none⟩=some (.int .i64 N)∧Below w3.heap.size w3 w') (by kernel_rfl) ?_ (fun hHeld=>?_)
    ·exact HSh.out _ (Below.refl _ _).drew
    refine tQ 0 ?_
    simp only [Act.put,ps1,ps2,ps3]
    refine tQ 1 ?_
    simp only [Act.put,ps1,ps2,ps3]
    refine tQ 2 ?_
    simp only [Act.put,ps1,ps2,ps3]
    refine tQ 3 ?_
    simp only [Act.put,ps1,ps2,ps3]
    refine tQ 4 ?_
    simp only [Act.put,ps1,ps2,ps3]
    generalize w3.drew=X0h at hHeld ⊢
    have gw:w3.heap.size≤X0h.heap.size:=hHeld.2.2.2.size
    refine wpAnyH_ready (rs:= [5,10,11]) (by kernel_rfl) (by simp) (AllReadyH.cons (i:=5) rfl (fun Kc hK=>?_) (AllReadyH.cons (i:=10) rfl (fun Kc hK=>?_) (AllReadyH.cons (i:=11) rfl (fun Kc hK=>?_) AllReadyH.nil)))
    ·skip
     go_simp
     (go_at_call 26;refine Calls.mono (CH.out _) ?_;rintro e X1h ⟨rfl,e1h⟩)
     refine hK.out _ _ (HSh.out _ (hHeld.2.2.2.trans (e1h.mono hHeld.2.2.2.size))) (fun hHeld=>?_)
     clear hK Kc
     replace gw:=Nat.le_trans gw e1h.size
     refine tQ 6 ?_
     simp only [Act.put,ps1,ps2,ps3]
     refine tQ 7 ?_
     simp only [Act.put,ps1,ps2,ps3]
     refine tQ 8 ?_
     simp only [Act.put,ps1,ps2,ps3]
     refine tQ 9 ?_
     simp only [Act.put,ps1,ps2,ps3]
     refine wpAnyH_ready (rs:= [10,11]) (by kernel_rfl) (by simp) (AllReadyH.cons (i:=10) rfl (fun Kc hK=>?_) (AllReadyH.cons (i:=11) rfl (fun Kc hK=>?_) AllReadyH.nil))
     ·skip
      go_simp
      refine hK.out _ _ (HSh.out _ (hHeld.2.2.2.alloc hHeld.2.2.2.size _)) (fun hHeld=>?_)
      clear hK Kc
      have ypa:Row (X1h.alloc (.cells #[.int .i64 0, .int .i64 0] 24)) X1h.heap.size [.int .i64 0, .int .i64 0]:=Row.new X1h [.int .i64 0, .int .i64 0] 24
      have lpa:X1h.heap.size<(X1h.alloc (.cells #[.int .i64 0, .int .i64 0] 24)).heap.size:=by simp
      have gpa:w3.heap.size≤X1h.heap.size:=gw
      replace gw:w3.heap.size≤(X1h.alloc (.cells #[.int .i64 0, .int .i64 0] 24)).heap.size:=by simp;omega
      generalize X1h.alloc (.cells #[.int .i64 0, .int .i64 0] 24)=X2h at ypa lpa gw hHeld ⊢
      generalize X1h.heap.size=pa at ypa lpa gpa  ⊢
      refine tcl 11 fun Kc hK=>?_
      go_simp
      refine hK.out _ _ (HSh.out _ (hHeld.2.2.2.alloc hHeld.2.2.2.size _)) (fun hHeld=>?_)
      clear hK Kc
      have ypc:Row (X2h.alloc (.cells #[.int .i64 0, .int .i64 0] 32)) X2h.heap.size [.int .i64 0, .int .i64 0]:=Row.new X2h [.int .i64 0, .int .i64 0] 32
      have lpc:X2h.heap.size<(X2h.alloc (.cells #[.int .i64 0, .int .i64 0] 32)).heap.size:=by simp
      have gpc:w3.heap.size≤X2h.heap.size:=gw
      have dpapc:pa<X2h.heap.size:=lpa
      replace ypa:=ypa.alloc (.cells #[.int .i64 0, .int .i64 0] 32) lpa
      replace lpa:pa<(X2h.alloc (.cells #[.int .i64 0, .int .i64 0] 32)).heap.size:=by simp;omega
      replace gw:w3.heap.size≤(X2h.alloc (.cells #[.int .i64 0, .int .i64 0] 32)).heap.size:=by simp;omega
      generalize X2h.alloc (.cells #[.int .i64 0, .int .i64 0] 32)=X3h at ypa lpa ypc lpc gw hHeld ⊢
      generalize X2h.heap.size=pc at ypc lpc gpc dpapc ⊢
      have sc0:=ypa.cell 0 _ rfl
      have sf0:=ypa.free 0 (by simp)
      have sc1:=ypa.cell 1 _ rfl
      have sf1:=ypa.free 1 (by simp)
      refine tcl 12 fun Kc hK=>?_
      go_simp
      refine hK.out _ _ (HSh.out _ (((hHeld.2.2.2.setCell gpa _).setCell gpa _))) (fun hHeld=>?_)
      clear hK Kc sc0 sf0 sc1 sf1
      have zpa:=((ypa.set 0 (.int .i64 xa) (by simp)).set 1 (.int .i64 ya) (by simp))
      have vpcpa:=Row.keep ypc (((Keep.refl (fun z=>z=pa) _).set (p:=⟨pa,0,none⟩) (Or.inl rfl) (.int .i64 xa)).set (p:=⟨pa,1,none⟩) (Or.inl rfl) (.int .i64 ya)) (by first|exact lpc|simpa using lpc) (by omega)
      have sc0:=vpcpa.cell 0 _ rfl
      have sf0:=vpcpa.free 0 (by simp)
      have sc1:=vpcpa.cell 1 _ rfl
      have sf1:=vpcpa.free 1 (by simp)
      refine tcl 13 fun Kc hK=>?_
      go_simp
      refine hK.out _ _ (HSh.out _ (((hHeld.2.2.2.setCell gpc _).setCell gpc _))) (fun hHeld=>?_)
      clear hK Kc sc0 sf0 sc1 sf1
      have zpc:=((vpcpa.set 0 (.int .i64 x0) (by simp)).set 1 (.int .i64 y0') (by simp))
      have vpapc:=Row.keep zpa (((Keep.refl (fun z=>z=pc) _).set (p:=⟨pc,0,none⟩) (Or.inl rfl) (.int .i64 x0)).set (p:=⟨pc,1,none⟩) (Or.inl rfl) (.int .i64 y0')) (by first|exact lpa|simpa using lpa) (by omega)
      refine tQ 14 ?_
      simp only [Act.put,ps1,ps2,ps3]
      refine wpAnyH_done (by kernel_rfl) ?_ _
      rw [HQQ.out]
      exact⟨rfl,pa,pc,rfl,vpapc,zpc,hHeld.2.2.2,gpa,by simp only [World.size_setCell];exact lpa,gpc,by simp only [World.size_setCell];exact lpc⟩
     ·skip
      go_simp
      refine hK.out _ _ (HSh.out _ (hHeld.2.2.2.alloc hHeld.2.2.2.size _)) (fun hHeld=>?_)
      clear hK Kc
      have ypc:Row (X1h.alloc (.cells #[.int .i64 0, .int .i64 0] 32)) X1h.heap.size [.int .i64 0, .int .i64 0]:=Row.new X1h [.int .i64 0, .int .i64 0] 32
      have lpc:X1h.heap.size<(X1h.alloc (.cells #[.int .i64 0, .int .i64 0] 32)).heap.size:=by simp
      have gpc:w3.heap.size≤X1h.heap.size:=gw
      replace gw:w3.heap.size≤(X1h.alloc (.cells #[.int .i64 0, .int .i64 0] 32)).heap.size:=by simp;omega
      generalize X1h.alloc (.cells #[.int .i64 0, .int .i64 0] 32)=X4h at ypc lpc gw hHeld ⊢
      generalize X1h.heap.size=pc at ypc lpc gpc  ⊢
      refine tcl 10 fun Kc hK=>?_
      go_simp
      refine hK.out _ _ (HSh.out _ (hHeld.2.2.2.alloc hHeld.2.2.2.size _)) (fun hHeld=>?_)
      clear hK Kc
      have ypa:Row (X4h.alloc (.cells #[.int .i64 0, .int .i64 0] 24)) X4h.heap.size [.int .i64 0, .int .i64 0]:=Row.new X4h [.int .i64 0, .int .i64 0] 24
      have lpa:X4h.heap.size<(X4h.alloc (.cells #[.int .i64 0, .int .i64 0] 24)).heap.size:=by simp
      have gpa:w3.heap.size≤X4h.heap.size:=gw
      have dpcpa:pc<X4h.heap.size:=lpc
      replace ypc:=ypc.alloc (.cells #[.int .i64 0, .int .i64 0] 24) lpc
      replace lpc:pc<(X4h.alloc (.cells #[.int .i64 0, .int .i64 0] 24)).heap.size:=by simp;omega
      replace gw:w3.heap.size≤(X4h.alloc (.cells #[.int .i64 0, .int .i64 0] 24)).heap.size:=by simp;omega
      generalize X4h.alloc (.cells #[.int .i64 0, .int .i64 0] 24)=X5h at ypc lpc ypa lpa gw hHeld ⊢
      generalize X4h.heap.size=pa at ypa lpa gpa dpcpa ⊢
      have sc0:=ypa.cell 0 _ rfl
      have sf0:=ypa.free 0 (by simp)
      have sc1:=ypa.cell 1 _ rfl
      have sf1:=ypa.free 1 (by simp)
      refine tcl 12 fun Kc hK=>?_
      go_simp
      refine hK.out _ _ (HSh.out _ (((hHeld.2.2.2.setCell gpa _).setCell gpa _))) (fun hHeld=>?_)
      clear hK Kc sc0 sf0 sc1 sf1
      have zpa:=((ypa.set 0 (.int .i64 xa) (by simp)).set 1 (.int .i64 ya) (by simp))
      have vpcpa:=Row.keep ypc (((Keep.refl (fun z=>z=pa) _).set (p:=⟨pa,0,none⟩) (Or.inl rfl) (.int .i64 xa)).set (p:=⟨pa,1,none⟩) (Or.inl rfl) (.int .i64 ya)) (by first|exact lpc|simpa using lpc) (by omega)
      have sc0:=vpcpa.cell 0 _ rfl
      have sf0:=vpcpa.free 0 (by simp)
      have sc1:=vpcpa.cell 1 _ rfl
      have sf1:=vpcpa.free 1 (by simp)
      refine tcl 13 fun Kc hK=>?_
      go_simp
      refine hK.out _ _ (HSh.out _ (((hHeld.2.2.2.setCell gpc _).setCell gpc _))) (fun hHeld=>?_)
      clear hK Kc sc0 sf0 sc1 sf1
      have zpc:=((vpcpa.set 0 (.int .i64 x0) (by simp)).set 1 (.int .i64 y0') (by simp))
      have vpapc:=Row.keep zpa (((Keep.refl (fun z=>z=pc) _).set (p:=⟨pc,0,none⟩) (Or.inl rfl) (.int .i64 x0)).set (p:=⟨pc,1,none⟩) (Or.inl rfl) (.int .i64 y0')) (by first|exact lpa|simpa using lpa) (by omega)
      refine tQ 14 ?_
      simp only [Act.put,ps1,ps2,ps3]
      refine wpAnyH_done (by kernel_rfl) ?_ _
      rw [HQQ.out]
      exact⟨rfl,pa,pc,rfl,vpapc,zpc,hHeld.2.2.2,gpa,by simp only [World.size_setCell];exact lpa,gpc,by simp only [World.size_setCell];exact lpc⟩
    ·skip
     go_simp
     refine hK.out _ _ (HSh.out _ (hHeld.2.2.2.alloc hHeld.2.2.2.size _)) (fun hHeld=>?_)
     clear hK Kc
     have ypa:Row (X0h.alloc (.cells #[.int .i64 0, .int .i64 0] 24)) X0h.heap.size [.int .i64 0, .int .i64 0]:=Row.new X0h [.int .i64 0, .int .i64 0] 24
     have lpa:X0h.heap.size<(X0h.alloc (.cells #[.int .i64 0, .int .i64 0] 24)).heap.size:=by simp
     have gpa:w3.heap.size≤X0h.heap.size:=gw
     replace gw:w3.heap.size≤(X0h.alloc (.cells #[.int .i64 0, .int .i64 0] 24)).heap.size:=by simp;omega
     generalize X0h.alloc (.cells #[.int .i64 0, .int .i64 0] 24)=X6h at ypa lpa gw hHeld ⊢
     generalize X0h.heap.size=pa at ypa lpa gpa  ⊢
     refine wpAnyH_ready (rs:= [5,11]) (by kernel_rfl) (by simp) (AllReadyH.cons (i:=5) rfl (fun Kc hK=>?_) (AllReadyH.cons (i:=11) rfl (fun Kc hK=>?_) AllReadyH.nil))
     ·skip
      go_simp
      (go_at_call 26;refine Calls.mono (CH.out _) ?_;rintro e X7h ⟨rfl,e7h⟩)
      refine hK.out _ _ (HSh.out _ (hHeld.2.2.2.trans (e7h.mono hHeld.2.2.2.size))) (fun hHeld=>?_)
      clear hK Kc
      replace ypa:=ypa.below e7h lpa
      replace lpa:=Nat.lt_of_lt_of_le lpa e7h.size
      replace gw:=Nat.le_trans gw e7h.size
      refine tQ 6 ?_
      simp only [Act.put,ps1,ps2,ps3]
      refine tQ 7 ?_
      simp only [Act.put,ps1,ps2,ps3]
      refine tQ 8 ?_
      simp only [Act.put,ps1,ps2,ps3]
      refine tQ 9 ?_
      simp only [Act.put,ps1,ps2,ps3]
      refine tcl 11 fun Kc hK=>?_
      go_simp
      refine hK.out _ _ (HSh.out _ (hHeld.2.2.2.alloc hHeld.2.2.2.size _)) (fun hHeld=>?_)
      clear hK Kc
      have ypc:Row (X7h.alloc (.cells #[.int .i64 0, .int .i64 0] 32)) X7h.heap.size [.int .i64 0, .int .i64 0]:=Row.new X7h [.int .i64 0, .int .i64 0] 32
      have lpc:X7h.heap.size<(X7h.alloc (.cells #[.int .i64 0, .int .i64 0] 32)).heap.size:=by simp
      have gpc:w3.heap.size≤X7h.heap.size:=gw
      have dpapc:pa<X7h.heap.size:=lpa
      replace ypa:=ypa.alloc (.cells #[.int .i64 0, .int .i64 0] 32) lpa
      replace lpa:pa<(X7h.alloc (.cells #[.int .i64 0, .int .i64 0] 32)).heap.size:=by simp;omega
      replace gw:w3.heap.size≤(X7h.alloc (.cells #[.int .i64 0, .int .i64 0] 32)).heap.size:=by simp;omega
      generalize X7h.alloc (.cells #[.int .i64 0, .int .i64 0] 32)=X8h at ypa lpa ypc lpc gw hHeld ⊢
      generalize X7h.heap.size=pc at ypc lpc gpc dpapc ⊢
      have sc0:=ypa.cell 0 _ rfl
      have sf0:=ypa.free 0 (by simp)
      have sc1:=ypa.cell 1 _ rfl
      have sf1:=ypa.free 1 (by simp)
      refine tcl 12 fun Kc hK=>?_
      go_simp
      refine hK.out _ _ (HSh.out _ (((hHeld.2.2.2.setCell gpa _).setCell gpa _))) (fun hHeld=>?_)
      clear hK Kc sc0 sf0 sc1 sf1
      have zpa:=((ypa.set 0 (.int .i64 xa) (by simp)).set 1 (.int .i64 ya) (by simp))
      have vpcpa:=Row.keep ypc (((Keep.refl (fun z=>z=pa) _).set (p:=⟨pa,0,none⟩) (Or.inl rfl) (.int .i64 xa)).set (p:=⟨pa,1,none⟩) (Or.inl rfl) (.int .i64 ya)) (by first|exact lpc|simpa using lpc) (by omega)
      have sc0:=vpcpa.cell 0 _ rfl
      have sf0:=vpcpa.free 0 (by simp)
      have sc1:=vpcpa.cell 1 _ rfl
      have sf1:=vpcpa.free 1 (by simp)
      refine tcl 13 fun Kc hK=>?_
      go_simp
      refine hK.out _ _ (HSh.out _ (((hHeld.2.2.2.setCell gpc _).setCell gpc _))) (fun hHeld=>?_)
      clear hK Kc sc0 sf0 sc1 sf1
      have zpc:=((vpcpa.set 0 (.int .i64 x0) (by simp)).set 1 (.int .i64 y0') (by simp))
      have vpapc:=Row.keep zpa (((Keep.refl (fun z=>z=pc) _).set (p:=⟨pc,0,none⟩) (Or.inl rfl) (.int .i64 x0)).set (p:=⟨pc,1,none⟩) (Or.inl rfl) (.int .i64 y0')) (by first|exact lpa|simpa using lpa) (by omega)
      refine tQ 14 ?_
      simp only [Act.put,ps1,ps2,ps3]
      refine wpAnyH_done (by kernel_rfl) ?_ _
      rw [HQQ.out]
      exact⟨rfl,pa,pc,rfl,vpapc,zpc,hHeld.2.2.2,gpa,by simp only [World.size_setCell];exact lpa,gpc,by simp only [World.size_setCell];exact lpc⟩
     ·skip
      go_simp
      refine hK.out _ _ (HSh.out _ (hHeld.2.2.2.alloc hHeld.2.2.2.size _)) (fun hHeld=>?_)
      clear hK Kc
      have ypc:Row (X6h.alloc (.cells #[.int .i64 0, .int .i64 0] 32)) X6h.heap.size [.int .i64 0, .int .i64 0]:=Row.new X6h [.int .i64 0, .int .i64 0] 32
      have lpc:X6h.heap.size<(X6h.alloc (.cells #[.int .i64 0, .int .i64 0] 32)).heap.size:=by simp
      have gpc:w3.heap.size≤X6h.heap.size:=gw
      have dpapc:pa<X6h.heap.size:=lpa
      replace ypa:=ypa.alloc (.cells #[.int .i64 0, .int .i64 0] 32) lpa
      replace lpa:pa<(X6h.alloc (.cells #[.int .i64 0, .int .i64 0] 32)).heap.size:=by simp;omega
      replace gw:w3.heap.size≤(X6h.alloc (.cells #[.int .i64 0, .int .i64 0] 32)).heap.size:=by simp;omega
      generalize X6h.alloc (.cells #[.int .i64 0, .int .i64 0] 32)=X9h at ypa lpa ypc lpc gw hHeld ⊢
      generalize X6h.heap.size=pc at ypc lpc gpc dpapc ⊢
      refine tcl 5 fun Kc hK=>?_
      go_simp
      (go_at_call 26;refine Calls.mono (CH.out _) ?_;rintro e X10h ⟨rfl,e10h⟩)
      refine hK.out _ _ (HSh.out _ (hHeld.2.2.2.trans (e10h.mono hHeld.2.2.2.size))) (fun hHeld=>?_)
      clear hK Kc
      replace ypa:=ypa.below e10h lpa
      replace lpa:=Nat.lt_of_lt_of_le lpa e10h.size
      replace ypc:=ypc.below e10h lpc
      replace lpc:=Nat.lt_of_lt_of_le lpc e10h.size
      replace gw:=Nat.le_trans gw e10h.size
      refine tQ 6 ?_
      simp only [Act.put,ps1,ps2,ps3]
      refine tQ 7 ?_
      simp only [Act.put,ps1,ps2,ps3]
      refine tQ 8 ?_
      simp only [Act.put,ps1,ps2,ps3]
      refine tQ 9 ?_
      simp only [Act.put,ps1,ps2,ps3]
      have sc0:=ypa.cell 0 _ rfl
      have sf0:=ypa.free 0 (by simp)
      have sc1:=ypa.cell 1 _ rfl
      have sf1:=ypa.free 1 (by simp)
      refine tcl 12 fun Kc hK=>?_
      go_simp
      refine hK.out _ _ (HSh.out _ (((hHeld.2.2.2.setCell gpa _).setCell gpa _))) (fun hHeld=>?_)
      clear hK Kc sc0 sf0 sc1 sf1
      have zpa:=((ypa.set 0 (.int .i64 xa) (by simp)).set 1 (.int .i64 ya) (by simp))
      have vpcpa:=Row.keep ypc (((Keep.refl (fun z=>z=pa) _).set (p:=⟨pa,0,none⟩) (Or.inl rfl) (.int .i64 xa)).set (p:=⟨pa,1,none⟩) (Or.inl rfl) (.int .i64 ya)) (by first|exact lpc|simpa using lpc) (by omega)
      have sc0:=vpcpa.cell 0 _ rfl
      have sf0:=vpcpa.free 0 (by simp)
      have sc1:=vpcpa.cell 1 _ rfl
      have sf1:=vpcpa.free 1 (by simp)
      refine tcl 13 fun Kc hK=>?_
      go_simp
      refine hK.out _ _ (HSh.out _ (((hHeld.2.2.2.setCell gpc _).setCell gpc _))) (fun hHeld=>?_)
      clear hK Kc sc0 sf0 sc1 sf1
      have zpc:=((vpcpa.set 0 (.int .i64 x0) (by simp)).set 1 (.int .i64 y0') (by simp))
      have vpapc:=Row.keep zpa (((Keep.refl (fun z=>z=pc) _).set (p:=⟨pc,0,none⟩) (Or.inl rfl) (.int .i64 x0)).set (p:=⟨pc,1,none⟩) (Or.inl rfl) (.int .i64 y0')) (by first|exact lpa|simpa using lpa) (by omega)
      refine tQ 14 ?_
      simp only [Act.put,ps1,ps2,ps3]
      refine wpAnyH_done (by kernel_rfl) ?_ _
      rw [HQQ.out]
      exact⟨rfl,pa,pc,rfl,vpapc,zpc,hHeld.2.2.2,gpa,by simp only [World.size_setCell];exact lpa,gpc,by simp only [World.size_setCell];exact lpc⟩
    ·skip
     go_simp
     refine hK.out _ _ (HSh.out _ (hHeld.2.2.2.alloc hHeld.2.2.2.size _)) (fun hHeld=>?_)
     clear hK Kc
     have ypc:Row (X0h.alloc (.cells #[.int .i64 0, .int .i64 0] 32)) X0h.heap.size [.int .i64 0, .int .i64 0]:=Row.new X0h [.int .i64 0, .int .i64 0] 32
     have lpc:X0h.heap.size<(X0h.alloc (.cells #[.int .i64 0, .int .i64 0] 32)).heap.size:=by simp
     have gpc:w3.heap.size≤X0h.heap.size:=gw
     replace gw:w3.heap.size≤(X0h.alloc (.cells #[.int .i64 0, .int .i64 0] 32)).heap.size:=by simp;omega
     generalize X0h.alloc (.cells #[.int .i64 0, .int .i64 0] 32)=X11h at ypc lpc gw hHeld ⊢
     generalize X0h.heap.size=pc at ypc lpc gpc  ⊢
     refine wpAnyH_ready (rs:= [5,10]) (by kernel_rfl) (by simp) (AllReadyH.cons (i:=5) rfl (fun Kc hK=>?_) (AllReadyH.cons (i:=10) rfl (fun Kc hK=>?_) AllReadyH.nil))
     ·skip
      go_simp
      (go_at_call 26;refine Calls.mono (CH.out _) ?_;rintro e X12h ⟨rfl,e12h⟩)
      refine hK.out _ _ (HSh.out _ (hHeld.2.2.2.trans (e12h.mono hHeld.2.2.2.size))) (fun hHeld=>?_)
      clear hK Kc
      replace ypc:=ypc.below e12h lpc
      replace lpc:=Nat.lt_of_lt_of_le lpc e12h.size
      replace gw:=Nat.le_trans gw e12h.size
      refine tQ 6 ?_
      simp only [Act.put,ps1,ps2,ps3]
      refine tQ 7 ?_
      simp only [Act.put,ps1,ps2,ps3]
      refine tQ 8 ?_
      simp only [Act.put,ps1,ps2,ps3]
      refine tQ 9 ?_
      simp only [Act.put,ps1,ps2,ps3]
      refine tcl 10 fun Kc hK=>?_
      go_simp
      refine hK.out _ _ (HSh.out _ (hHeld.2.2.2.alloc hHeld.2.2.2.size _)) (fun hHeld=>?_)
      clear hK Kc
      have ypa:Row (X12h.alloc (.cells #[.int .i64 0, .int .i64 0] 24)) X12h.heap.size [.int .i64 0, .int .i64 0]:=Row.new X12h [.int .i64 0, .int .i64 0] 24
      have lpa:X12h.heap.size<(X12h.alloc (.cells #[.int .i64 0, .int .i64 0] 24)).heap.size:=by simp
      have gpa:w3.heap.size≤X12h.heap.size:=gw
      have dpcpa:pc<X12h.heap.size:=lpc
      replace ypc:=ypc.alloc (.cells #[.int .i64 0, .int .i64 0] 24) lpc
      replace lpc:pc<(X12h.alloc (.cells #[.int .i64 0, .int .i64 0] 24)).heap.size:=by simp;omega
      replace gw:w3.heap.size≤(X12h.alloc (.cells #[.int .i64 0, .int .i64 0] 24)).heap.size:=by simp;omega
      generalize X12h.alloc (.cells #[.int .i64 0, .int .i64 0] 24)=X13h at ypc lpc ypa lpa gw hHeld ⊢
      generalize X12h.heap.size=pa at ypa lpa gpa dpcpa ⊢
      have sc0:=ypa.cell 0 _ rfl
      have sf0:=ypa.free 0 (by simp)
      have sc1:=ypa.cell 1 _ rfl
      have sf1:=ypa.free 1 (by simp)
      refine tcl 12 fun Kc hK=>?_
      go_simp
      refine hK.out _ _ (HSh.out _ (((hHeld.2.2.2.setCell gpa _).setCell gpa _))) (fun hHeld=>?_)
      clear hK Kc sc0 sf0 sc1 sf1
      have zpa:=((ypa.set 0 (.int .i64 xa) (by simp)).set 1 (.int .i64 ya) (by simp))
      have vpcpa:=Row.keep ypc (((Keep.refl (fun z=>z=pa) _).set (p:=⟨pa,0,none⟩) (Or.inl rfl) (.int .i64 xa)).set (p:=⟨pa,1,none⟩) (Or.inl rfl) (.int .i64 ya)) (by first|exact lpc|simpa using lpc) (by omega)
      have sc0:=vpcpa.cell 0 _ rfl
      have sf0:=vpcpa.free 0 (by simp)
      have sc1:=vpcpa.cell 1 _ rfl
      have sf1:=vpcpa.free 1 (by simp)
      refine tcl 13 fun Kc hK=>?_
      go_simp
      refine hK.out _ _ (HSh.out _ (((hHeld.2.2.2.setCell gpc _).setCell gpc _))) (fun hHeld=>?_)
      clear hK Kc sc0 sf0 sc1 sf1
      have zpc:=((vpcpa.set 0 (.int .i64 x0) (by simp)).set 1 (.int .i64 y0') (by simp))
      have vpapc:=Row.keep zpa (((Keep.refl (fun z=>z=pc) _).set (p:=⟨pc,0,none⟩) (Or.inl rfl) (.int .i64 x0)).set (p:=⟨pc,1,none⟩) (Or.inl rfl) (.int .i64 y0')) (by first|exact lpa|simpa using lpa) (by omega)
      refine tQ 14 ?_
      simp only [Act.put,ps1,ps2,ps3]
      refine wpAnyH_done (by kernel_rfl) ?_ _
      rw [HQQ.out]
      exact⟨rfl,pa,pc,rfl,vpapc,zpc,hHeld.2.2.2,gpa,by simp only [World.size_setCell];exact lpa,gpc,by simp only [World.size_setCell];exact lpc⟩
     ·skip
      go_simp
      refine hK.out _ _ (HSh.out _ (hHeld.2.2.2.alloc hHeld.2.2.2.size _)) (fun hHeld=>?_)
      clear hK Kc
      have ypa:Row (X11h.alloc (.cells #[.int .i64 0, .int .i64 0] 24)) X11h.heap.size [.int .i64 0, .int .i64 0]:=Row.new X11h [.int .i64 0, .int .i64 0] 24
      have lpa:X11h.heap.size<(X11h.alloc (.cells #[.int .i64 0, .int .i64 0] 24)).heap.size:=by simp
      have gpa:w3.heap.size≤X11h.heap.size:=gw
      have dpcpa:pc<X11h.heap.size:=lpc
      replace ypc:=ypc.alloc (.cells #[.int .i64 0, .int .i64 0] 24) lpc
      replace lpc:pc<(X11h.alloc (.cells #[.int .i64 0, .int .i64 0] 24)).heap.size:=by simp;omega
      replace gw:w3.heap.size≤(X11h.alloc (.cells #[.int .i64 0, .int .i64 0] 24)).heap.size:=by simp;omega
      generalize X11h.alloc (.cells #[.int .i64 0, .int .i64 0] 24)=X14h at ypc lpc ypa lpa gw hHeld ⊢
      generalize X11h.heap.size=pa at ypa lpa gpa dpcpa ⊢
      refine tcl 5 fun Kc hK=>?_
      go_simp
      (go_at_call 26;refine Calls.mono (CH.out _) ?_;rintro e X15h ⟨rfl,e15h⟩)
      refine hK.out _ _ (HSh.out _ (hHeld.2.2.2.trans (e15h.mono hHeld.2.2.2.size))) (fun hHeld=>?_)
      clear hK Kc
      replace ypc:=ypc.below e15h lpc
      replace lpc:=Nat.lt_of_lt_of_le lpc e15h.size
      replace ypa:=ypa.below e15h lpa
      replace lpa:=Nat.lt_of_lt_of_le lpa e15h.size
      replace gw:=Nat.le_trans gw e15h.size
      refine tQ 6 ?_
      simp only [Act.put,ps1,ps2,ps3]
      refine tQ 7 ?_
      simp only [Act.put,ps1,ps2,ps3]
      refine tQ 8 ?_
      simp only [Act.put,ps1,ps2,ps3]
      refine tQ 9 ?_
      simp only [Act.put,ps1,ps2,ps3]
      have sc0:=ypa.cell 0 _ rfl
      have sf0:=ypa.free 0 (by simp)
      have sc1:=ypa.cell 1 _ rfl
      have sf1:=ypa.free 1 (by simp)
      refine tcl 12 fun Kc hK=>?_
      go_simp
      refine hK.out _ _ (HSh.out _ (((hHeld.2.2.2.setCell gpa _).setCell gpa _))) (fun hHeld=>?_)
      clear hK Kc sc0 sf0 sc1 sf1
      have zpa:=((ypa.set 0 (.int .i64 xa) (by simp)).set 1 (.int .i64 ya) (by simp))
      have vpcpa:=Row.keep ypc (((Keep.refl (fun z=>z=pa) _).set (p:=⟨pa,0,none⟩) (Or.inl rfl) (.int .i64 xa)).set (p:=⟨pa,1,none⟩) (Or.inl rfl) (.int .i64 ya)) (by first|exact lpc|simpa using lpc) (by omega)
      have sc0:=vpcpa.cell 0 _ rfl
      have sf0:=vpcpa.free 0 (by simp)
      have sc1:=vpcpa.cell 1 _ rfl
      have sf1:=vpcpa.free 1 (by simp)
      refine tcl 13 fun Kc hK=>?_
      go_simp
      refine hK.out _ _ (HSh.out _ (((hHeld.2.2.2.setCell gpc _).setCell gpc _))) (fun hHeld=>?_)
      clear hK Kc sc0 sf0 sc1 sf1
      have zpc:=((vpcpa.set 0 (.int .i64 x0) (by simp)).set 1 (.int .i64 y0') (by simp))
      have vpapc:=Row.keep zpa (((Keep.refl (fun z=>z=pc) _).set (p:=⟨pc,0,none⟩) (Or.inl rfl) (.int .i64 x0)).set (p:=⟨pc,1,none⟩) (Or.inl rfl) (.int .i64 y0')) (by first|exact lpa|simpa using lpa) (by omega)
      refine tQ 14 ?_
      simp only [Act.put,ps1,ps2,ps3]
      refine wpAnyH_done (by kernel_rfl) ?_ _
      rw [HQQ.out]
      exact⟨rfl,pa,pc,rfl,vpapc,zpc,hHeld.2.2.2,gpa,by simp only [World.size_setCell];exact lpa,gpc,by simp only [World.size_setCell];exact lpc⟩
   rw [HQQ.out]
   rintro e act w4 ⟨rfl,pa,pc,rfl,ypah,ypch,bw4,gpah,lpah,gpch,lpch⟩
   clear HQQ QQ HSh
   try dsimp only
   have z4:=bw4.size
   have KV:Below W.heap.size W w4:=KW.trans (bw4.mono (by omega))
   have HSM:Hid _:=hsm
   have HKV:Hid _:=KV
   have lpc:pc<w4.heap.size:=lpch
   have HPC:Hid (Row w4 pc [.int .i64 x0, .int .i64 y0']):=ypch
   clear d0 d1 m0 l3 lp CH ypah gpah lpah ypch gpch lpch R3 hsm KV KW kr k3 c2 bw4
   go_wp2
   go_loopw [14] (fun u wr=> ∃ a:Nat,a≤7∧u= .int .i64 ((a:Int)- 3)∧Hid (tryF S c.t q1 q2 49 0=tryF S c.t q1 q2 (49- 7*a) (7*a))∧Below w4.heap.size w4 wr) (fun u _=>7- ((Go.RowKit.intOf u)+3).toNat)
   case atStart=>exact⟨0,by omega,rfl,rfl,Below.refl _ _⟩
   case round=>
    obtain⟨a,ha,rfl,HB,kr⟩:=hrel
    obtain⟨ix,hix⟩: ∃ i:Int,i=(a:Int)- 3:=⟨_,rfl⟩
    have HI:Hid _:=hix
    rw [←hix]
    have hi2:ix≤4∧ -3≤ix:=by omega
    clear hix
    by_cases ha7:ix≤3
    ·have hia:Hid (a<7):=by unfold Hid;have:=HI.out;omega
     clear ha
     go_wp2
     go_loopw [15] (fun u wr=> ∃ b:Nat,b≤7∧u= .int .i64 ((b:Int)- 3)∧Hid (tryF S c.t q1 q2 49 0=tryF S c.t q1 q2 (49- 7*a- b) (7*a+b))∧Below w4.heap.size w4 wr) (fun u _=>7- ((Go.RowKit.intOf u)+3).toNat)
     case atStart=>exact⟨0,by omega,rfl,HB,kr⟩
     case round=>
      clear HB kr
      obtain⟨b,hb,rfl,HB,kr⟩:=hrel
      obtain⟨jy,hjy⟩: ∃ i:Int,i=(b:Int)- 3:=⟨_,rfl⟩
      have HJ:Hid _:=hjy
      rw [←hjy]
      have hj2:jy≤4∧ -3≤jy:=by omega
      clear hjy
      obtain⟨wv,hwv⟩: ∃ w,w=wr:=⟨_,rfl⟩
      rw [←hwv]at kr ⊢
      clear hwv
      have zv:=kr.size
      have KX:Below W.heap.size W wv:=HKV.out.trans (kr.mono (by omega))
      by_cases hb7:jy≤3
      ·have hjb:Hid (b<7):=by unfold Hid;have:=HJ.out;omega
       clear hb
       have RC:=HPC.out.below kr lpc
       have c0:=RC.cell 0 _ rfl
       have c1:=RC.cell 1 _ rfl
       have hs:=HSM.out
       have HT:Hid (tryF S c.t q1 q2 (49- 7*a- b) (7*a+b)=if outI S c.t (ix- x0) (jy- y0') q1 q2= -1 then some (ix- x0,jy- y0')else tryF S c.t q1 q2 (49- 7*a- (b+1)) (7*a+(b+1))):=by
        have:=try_at (S:=S) (t:=c.t) (q1:=q1) (q2:=q2) hia.out hjb.out
        rw [←HX0.out,←HY0.out,←HI.out,←HJ.out]at this
        exact this
       have t1:wrap64 (ix- x0)=ix- x0:=wrap_in (by omega) (by omega)
       have t2:wrap64 (jy- y0')=jy- y0':=wrap_in (by omega) (by omega)
       have i1:In64 (ix- x0):=⟨by omega,by omega⟩
       have i2:In64 (jy- y0'):=⟨by omega,by omega⟩
       have Rq1:=Rq.below KX lq
       have q0:=Rq1.cell 0 _ rfl
       have q1':=Rq1.cell 1 _ rfl
       have lqv:w.heap.size<wv.heap.size:=by omega
       obtain⟨w5,hw5⟩: ∃ w5,w5=wv.alloc (.cells #[.int .i64 (ix- x0), .int .i64 (jy- y0')] 32):=⟨_,rfl⟩
       have k5:Below wv.heap.size wv w5:=by rw [hw5];exact(Below.refl _ _).alloc (Nat.le_refl _) _
       have R5:Row w5 wv.heap.size [.int .i64 (ix- x0), .int .i64 (jy- y0')]:=by rw [hw5];exact Row.new wv [.int .i64 (ix- x0), .int .i64 (jy- y0')] _
       have z5:=k5.size
       have l5:wv.heap.size<w5.heap.size:=by rw [hw5];simp
       have KY:Below W.heap.size W w5:=KX.trans (k5.mono (by omega))
       have v0:=(Rq1.below k5 lqv).cell 0 _ rfl
       have v1:=(Rq1.below k5 lqv).cell 1 _ rfl
       have n0:=R5.cell 0 _ rfl
       have n1:=R5.cell 1 _ rfl
       rw [hw5]at v0 v1 n0 n1
       have H5:Hid _:=hw5.symm
       have HS2:Hid _:=hs
       clear hw5 RC hs q0 q1'
       go_wp2_with (go_at_call 28;fail)
       rw [H5.out]
       clear t1 t2 c0 c1 v0 v1 n0 n1
       by_cases hout:outI S c.t (ix- x0) (jy- y0') q1 q2= -1
       ·have HRES:Hid (RAll (seekW S q1 q2 S.C) (.returned (.tuple #[.int .i64 no, .agg #[.int .i64 (ix- x0), .int .i64 (jy- y0')], .bool true]))):=by
         unfold Hid
         rw [HA.out,HD.out,HB.out,HT.out,if_pos hout,HNO.out]
         rfl
        refine(CT.out w5 (ix- x0) (jy- y0') (-1) KY i1 i2 hout.symm).mono ?_
        rintro e w6 ⟨rfl,b6⟩
        have R6:=R5.below b6 l5
        have z6:=b6.size
        have d0:=R6.cell 0 _ rfl
        have d1:=R6.cell 1 _ rfl
        have K6:Below W.heap.size W w6:=KY.trans (b6.mono (by omega))
        have RR:=Rr.below K6 lr
        have l6:wv.heap.size<w6.heap.size:=by omega
        have n6: ¬(wv.heap.size=w.heap.size+1):=by omega
        have lr6:w.heap.size+1<w6.heap.size:=by omega
        clear HT HB hout R5 R6 HD HA
        go_wp2
        have HSf:Hid (∀ w',Keep (fun k=>k=w.heap.size+1) w6 w'→(fun w'=>w'.cell? ⟨wv.heap.size,0,none⟩=some (.int .i64 (ix- x0))∧w'.cell? ⟨wv.heap.size,1,none⟩=some (.int .i64 (jy- y0'))∧Keep (fun k=>k=w.heap.size+1) w6 w') w'):=by
         unfold Hid
         intro w' hb
         exact⟨(hb.cell (p:=⟨wv.heap.size,0,none⟩) l6 n6).trans d0,(hb.cell (p:=⟨wv.heap.size,1,none⟩) l6 n6).trans d1,hb⟩
        refine wp_region_held_drew (S:=fun w'=>w'.cell? ⟨wv.heap.size,0,none⟩=some (.int .i64 (ix- x0))∧w'.cell? ⟨wv.heap.size,1,none⟩=some (.int .i64 (jy- y0'))∧Keep (fun k=>k=w.heap.size+1) w6 w') (by kernel_rfl) ?_ (fun hHeld=>?_)
        ·exact HSf.out _ ((Keep.refl _ _).drew)
        refine tn 0 ?_;refine tn 1 ?_;refine tn 2 ?_
        simp only [Act.put,ps1,ps2,ps3]
        have sc0:=RR.cell 0 _ rfl
        have sf0:=RR.free 0 (by simp)
        have sc1:=RR.cell 1 _ rfl
        have sf1:=RR.free 1 (by simp)
        have oa:=(RR.set 0 (.int .i64 (ix- x0)) (by simp)).cell 0 _ rfl
        have ob:=((RR.set 0 (.int .i64 (ix- x0)) (by simp)).set 1 (.int .i64 (jy- y0')) (by simp)).cell 1 _ rfl
        replace RR:=RR.drew
        refine tcl 3 fun Kc hK=>?_
        go_simp
        refine hK.out _ _ ?_ (fun hHeld=>?_)
        ·exact HSf.out _ ((hHeld.2.2.set (Or.inl rfl) _).set (Or.inl rfl) _)
        clear hK Kc
        refine tz (i:=4) rfl ?_
        simp only [Act.put,ps1,ps2,ps3]
        refine wpAnyH_done (by kernel_rfl) ?_ _
        have kx:=hHeld.2.2
        have RX:=(RR.set 0 (.int .i64 (ix- x0)) (by simp)).set 1 (.int .i64 (jy- y0')) (by simp)
        have o0:=RX.cell 0 _ rfl
        have o1:=RX.cell 1 _ rfl
        have BX:=(bW.trans (K6.mono (by omega))).trans (kx.below (B:=w.heap.size) (by omega) (fun k e=>by omega))
        clear hHeld HSf kx RX RR sc0 sc1 sf0 sf1
        go_wp2
        exact bodyPost_ret (v:= .tuple #[.int .i64 no, .agg #[.int .i64 (ix- x0), .int .i64 (jy- y0')], .bool true]) (by simp [results,Tryz.results30,go_sem, *]) rfl ⟨HRES.out,BX⟩
       ·have HRES:Hid (tryF S c.t q1 q2 49 0=tryF S c.t q1 q2 (49- 7*a- (b+1)) (7*a+(b+1))):=by unfold Hid;rw [HB.out,HT.out,if_neg hout]
        obtain⟨r,hr⟩: ∃ r,r=outI S c.t (ix- x0) (jy- y0') q1 q2:=⟨_,rfl⟩
        have hr1:(r== -1)=false:=by simpa using(by rw [hr];exact hout: ¬r= -1)
        refine(CT.out w5 (ix- x0) (jy- y0') r KY i1 i2 hr).mono ?_
        rintro e w6 ⟨rfl,b6⟩
        have k6:Below w4.heap.size w4 w6:=kr.trans ((k5.trans (b6.mono (by omega))).mono (by omega))
        clear HT HB hout hr R5 HD HA i1 i2
        go_wp2
        go_roundw
        case rel=>exact⟨b+1,by have:=hjb.out;omega,by have:=HJ.out;simp;omega,HRES,k6⟩
        case measure=>have:=HJ.out;have:=hjb.out;simp [Go.RowKit.intOf];omega
      ·have HRES:Hid (tryF S c.t q1 q2 49 0=tryF S c.t q1 q2 (49- 7*(a+1)) (7*(a+1))):=by
        unfold Hid
        have:=HJ.out
        have e:b=7:=by omega
        rw [HB.out,e]
        congr 1<;>omega
       clear HB HA HD
       go_wp2
       go_roundw
       case rel=>exact⟨a+1,by have:=hia.out;omega,by have:=HI.out;simp;omega,HRES,kr⟩
       case measure=>have:=HI.out;have:=hia.out;simp [Go.RowKit.intOf];omega
    ·have HRES:Hid (seekW S q1 q2 S.C=seekW S q1 q2 (S.C.drop (i+1))):=by
      have:=HI.out
      have e:a=7:=by omega
      have hn:tryF S c.t q1 q2 49 0=none:=by rw [HB.out,e];rfl
      unfold Hid
      rw [HA.out,HD.out,hn]
     have KX:Below W.heap.size W wr:=HKV.out.trans (kr.mono (by have:=kr.size;omega))
     clear HB HA HD
     go_wp2
     go_roundw
     case rel=>exact⟨i+1,by omega,by simp,HRES,KX⟩
     case measure=>simp [Go.RowKit.intOf];omega
  ·obtain rfl:n=i:=by omega
   have HRES:Hid (RAll (seekW S q1 q2 S.C) (.returned (.tuple #[.int .i64 (-1), .agg #[.int .i64 0, .int .i64 0], .bool false]))):=by
    unfold Hid
    rw [HA.out,List.drop_of_length_le (by rw [←HN.out];exact Nat.le_refl _)]
    rfl
   have Rr1:=Rr.below kr lr
   have BX:=bW.trans (kr.mono (by omega))
   have o0:=Rr1.cell 0 _ rfl
   have f0:=Rr1.free 0 (by simp)
   have o1:=Rr1.cell 1 _ rfl
   have f1:=Rr1.free 1 (by simp)
   have RX:=((Rr1.set 0 (.int .i64 0) (by simp)).set 1 (.int .i64 0) (by simp))
   have BZ:=((BX.setCell (p:=⟨w.heap.size+1,0,none⟩) (by simp) (.int .i64 0)).setCell (p:=⟨w.heap.size+1,1,none⟩) (by simp) (.int .i64 0))
   have n0:=RX.cell 0 _ rfl
   have n1:=RX.cell 1 _ rfl
   clear RX Rr1
   clear HA
   go_wp2
   exact bodyPost_ret (v:= .tuple #[.int .i64 (-1), .agg #[.int .i64 0, .int .i64 0], .bool false]) (by simp [results,Tryz.results30,go_sem, *]) rfl ⟨HRES.out,BZ⟩
end Go.Proofs.YtaadknpjbogkbaaGreat
