/-
  Joined texts, part 22:
  What zelligeref16's Find answers.
-/
import Derived.Test.YtaadknpjbogkbaaGreatP18
import Derived.Test.YtaadknpjbogkbaaGreatP21
import Derived.Deep.CutRange
namespace Go.Proofs.YtaadknpjbogkbaaGreat
open Go.RowKit
set_option linter.unusedVariables false
set_option maxRecDepth 100000 in
set_option maxHeartbeats 16000000 in
theorem wrFind(p:Nat)(S:Ms)(m:Nat)(O:MsOk S m)(hm:m≤1000)(w:World)(h:MeLook p S w)(f p1 p2 fuel:Int)(hf:In64 f)(h1:In64 p1)(h2:In64 p2)(hfu:fuel≤1000)(h3:In64 fuel):
  Calls Tryz.prog 7 #[ptR p, .int .i64 f, .agg #[.int .i64 p1, .int .i64 p2], .int .i64 fuel] w fun e w'=>FindIs (findW S f p1 p2 fuel) e∧Below w.heap.size w w':=by
 have hn1:=O.n1
 obtain⟨W,hW⟩: ∃ W,W=((w.alloc (.cells #[.int .i64 p1, .int .i64 p2] 24)).alloc (.cells #[.int .i64 0, .int .i64 0] 32)):=⟨_,rfl⟩
 have bW:Below w.heap.size w W:=by rw [hW];exact(((Below.refl _ _).alloc (Nat.le_refl _) _).alloc (by simp<;>omega) _)
 have zW:W.heap.size=w.heap.size+2:=by rw [hW];simp
 have Rp:Row W (w.heap.size) [.int .i64 p1, .int .i64 p2]:=by
  have h0:=Row.new w [.int .i64 p1, .int .i64 p2] 24
  rw [hW];exact(h0.alloc _ (by simp<;>omega))
 have lp:w.heap.size<W.heap.size:=by omega
 have Rr:Row W (w.heap.size+1) [.int .i64 0, .int .i64 0]:=by
  have h0:=Row.new (w.alloc (.cells #[.int .i64 p1, .int .i64 p2] 24)) [.int .i64 0, .int .i64 0] 32
  simp only [World.size_alloc]at h0
  rw [hW];exact h0
 have lr:w.heap.size+1<W.heap.size:=by omega
 have HW:((w.alloc (.cells #[.int .i64 p1, .int .i64 p2] 24)).alloc (.cells #[.int .i64 0, .int .i64 0] 32))=W:=hW.symm
 clear hW
 have HL:Hid (MeLook p S W):=h.below bW
 have hpw:p<w.heap.size:=by obtain⟨_,_,_,_,_,_,hr⟩:=h.row;exact hr.lt
 obtain⟨N,hN⟩: ∃ N,N=S.n:=⟨_,rfl⟩
 have HNN:Hid _:=hN
 obtain⟨n,hn⟩: ∃ n,n=S.C.length:=⟨_,rfl⟩
 have HN:Hid _:=hn
 have hlen:=O.lens.2.1
 rw [←hn]at hlen
 have hnb:n≤1000:=by omega
 obtain⟨s1,s2,a,ca,b,cb,hrow⟩:=HL.out.row
 rw [←hn,←hN]at hrow
 rw [←hN]at hn1
 have hpW:=hrow.lt
 have d0:=Rp.cell 0 _ rfl
 have d1:=Rp.cell 1 _ rfl
 have m0:=hrow.cell 0 _ rfl
 obtain⟨okb,hok⟩: ∃ b,b=homeC p1 p2 N:=⟨_,rfl⟩
 obtain⟨q1,hq1⟩: ∃ X':Int,X'=if okb then p1 % N else 0:=⟨_,rfl⟩
 obtain⟨q2,hq2⟩: ∃ X':Int,X'=if okb then p2 % N else 0:=⟨_,rfl⟩
 obtain⟨ox,hox⟩: ∃ X':Int,X'=if okb then p1/N else 0:=⟨_,rfl⟩
 obtain⟨oy,hoy⟩: ∃ X':Int,X'=if okb then p2/N else 0:=⟨_,rfl⟩
 have CH:Hid (∀ w',Calls Tryz.prog 26 #[.agg #[.int .i64 p1, .int .i64 p2], .int .i64 N] w' fun e w''=>e= .returned (.tuple #[.agg #[.int .i64 q1, .int .i64 q2], .agg #[.int .i64 ox, .int .i64 oy], .bool okb])∧Below w'.heap.size w' w''):=fun w'=>rlHome p1 p2 N w' h1 h2 ⟨by omega,by omega⟩ hok hq1 hq2 hox hoy
 have HNO:Hid (okb=false→FindIs (findW S f p1 p2 fuel) (.returned (.tuple #[.int .i64 (-1), .agg #[.int .i64 0, .int .i64 0], .int .i64 0, .bool false]))):=fun hb=>by
  unfold findW
  rw [←hN,←hok,hb,if_pos rfl]
  rfl
 have HNI:Hid (okb=true→n=0→FindIs (findW S f p1 p2 fuel) (.returned (.tuple #[.int .i64 (-1), .agg #[.int .i64 0, .int .i64 0], .int .i64 0, .bool false]))):=fun hb hz=>by
  have hC:S.C= []:=List.length_eq_zero_iff.1 (by omega)
  unfold findW firstC
  rw [←hN,←hok,hb,if_neg (by decide),hC]
  rfl
 have HYE:Hid (okb=true→n≠0→canC q1 q2=true∧(-1099511627776≤ox∧ox≤1099511627776)∧(-1099511627776≤oy∧oy≤1099511627776)∧ ∃ c0,firstC S f=some c0∧findW S f p1 p2 fuel=endF S q1 q2 ox oy (goW S q1 q2 (fuelN fuel) c0 0 0)):=fun hb hz=>by
  have hcan:canC p1 p2=true:=by
   rw [hb]at hok
   unfold homeC at hok
   simp at hok
   exact hok.2
  have hq:=home_can hn1 hcan
  rw [hb,if_pos rfl]at hq1 hq2 hox hoy
  rw [hq1,hq2,hox,hoy]
  refine⟨hq.1,hq.2.1,hq.2.2,?_⟩
  have hfc: ∃ c0,firstC S f=some c0:=by
   unfold firstC
   cases hF:S.C.find? (fun c=>decide (c.no=f))with
   |some d=>exact⟨d,rfl⟩
   |none=>
    cases hC:S.C with
    |nil=>rw [hC]at hn;exact absurd hn hz
    |cons c L=>exact⟨c,rfl⟩
  obtain⟨c0,hc0⟩:=hfc
  refine⟨c0,hc0,?_⟩
  unfold findW
  rw [←hN,←hok,hb,if_neg (by decide),hc0]
 have HO:Hid _:=O
 have HMM:Hid _:=hm
 clear hn hN h O hm h1 h2 hok hq1 hq2 hox hoy
 go_enter Tryz.func7,Tryz.ntmps7
 go_wp2
 clear HW
 have HSh:Hid (∀ w',Below W.heap.size W w'→(fun w'=>w'.cell? ⟨w.heap.size,0,none⟩=some (.int .i64 p1)∧w'.cell? ⟨w.heap.size,1,none⟩=some (.int .i64 p2)∧w'.cell? ⟨p,0,none⟩=some (.int .i64 N)∧Below W.heap.size W w') w'):=by
  unfold Hid
  intro w' hb
  exact⟨(hb.cell (p:=⟨w.heap.size,0,none⟩) lp).trans d0,(hb.cell (p:=⟨w.heap.size,1,none⟩) lp).trans d1,(hb.cell (p:=⟨p,0,none⟩) hpW).trans m0,hb⟩
 obtain⟨QQ,hQQ⟩: ∃ QQ:Exit→Go.Act→World→Prop,QQ=fun e act wz=>e= .normal∧ ∃ pa pc:Nat,act=⟨#[ptR p, .int .i64 f, .agg #[.int .i64 p1, .int .i64 p2], .int .i64 fuel,undef,undef, .pointer (some ⟨w.heap.size,0,none⟩),undef, .int .i64 0, .pointer (some ⟨w.heap.size+1,0,none⟩), .int .i64 0, .bool false, .pointer (some ⟨pa,0,none⟩), .pointer (some ⟨pc,0,none⟩), .bool okb,undef,undef,undef,undef,undef,undef,undef,undef,undef,undef,undef, .tuple #[.agg #[.int .i64 q1, .int .i64 q2], .agg #[.int .i64 ox, .int .i64 oy], .bool okb], .agg #[.int .i64 p1, .int .i64 p2],ptR p,ptR p, .pointer (some ⟨p,0,none⟩), .int .i64 N, .tuple #[.agg #[.int .i64 q1, .int .i64 q2], .agg #[.int .i64 ox, .int .i64 oy], .bool okb], .agg #[.int .i64 q1, .int .i64 q2], .agg #[.int .i64 ox, .int .i64 oy], .bool okb,undef,undef,undef,undef,undef,undef,undef,undef,undef,undef,undef,undef,undef,undef,undef,undef,undef,undef,undef,undef,undef,undef,undef,undef,undef,undef,undef,undef,undef,undef,undef,undef,undef,undef,undef,undef,undef,undef,undef,undef,undef,undef,undef,undef,undef,undef,undef,undef,undef,undef,undef,undef,undef,undef,undef,undef,undef,undef,undef,undef,undef,undef,undef,undef,undef,undef,undef,undef,undef,undef,undef,undef,undef,undef,undef,undef,undef,undef,undef,undef,undef,undef,undef,undef,undef,undef,undef,undef,undef,undef,undef,undef,undef,undef,undef,undef,undef,undef,undef,undef,undef,undef,undef,undef,undef,undef,undef], []⟩∧Row wz pa [.int .i64 q1, .int .i64 q2]∧Row wz pc [.int .i64 ox, .int .i64 oy]∧Below W.heap.size W wz∧W.heap.size≤pa∧pa<wz.heap.size∧W.heap.size≤pc∧pc<wz.heap.size:=⟨_,rfl⟩
 have HQQ:Hid _:=hQQ
 clear hQQ
 refine wp_mono (Q:=QQ) ?_ ?_
 ·refine wp_region_held_drew (S:=fun w'=>w'.cell? ⟨w.heap.size,0,none⟩=some (.int .i64 p1)∧w'.cell? ⟨w.heap.size,1,none⟩=some (.int .i64 p2)∧w'.cell? ⟨p,0,none⟩=some (.int .i64 N)∧Below W.heap.size W w') (by kernel_rfl) ?_ (fun hHeld=>?_)
  ·exact HSh.out _ (Below.refl _ _).drew
  refine tQ 0 ?_
  simp only [Act.put,ps1,ps2,ps3]
  refine tQ 1 ?_
  simp only [Act.put,ps1,ps2,ps3]
  refine tQ 2 ?_
  simp only [Act.put,ps1,ps2,ps3]
  refine tQ 3 ?_
  simp only [Act.put,ps1,ps2,ps3]
  refine tQ 4 ?_
  simp only [Act.put,ps1,ps2,ps3]
  generalize W.drew=X0h at hHeld ⊢
  have gw:W.heap.size≤X0h.heap.size:=hHeld.2.2.2.size
  refine wpAnyH_ready (rs:= [5,10,11]) (by kernel_rfl) (by simp) (AllReadyH.cons (i:=5) rfl (fun Kc hK=>?_) (AllReadyH.cons (i:=10) rfl (fun Kc hK=>?_) (AllReadyH.cons (i:=11) rfl (fun Kc hK=>?_) AllReadyH.nil)))
  ·skip
   go_simp
   (go_at_call 26;refine Calls.mono (CH.out _) ?_;rintro e X1h ⟨rfl,e1h⟩)
   refine hK.out _ _ (HSh.out _ (hHeld.2.2.2.trans (e1h.mono hHeld.2.2.2.size))) (fun hHeld=>?_)
   clear hK Kc
   replace gw:=Nat.le_trans gw e1h.size
   refine tQ 6 ?_
   simp only [Act.put,ps1,ps2,ps3]
   refine tQ 7 ?_
   simp only [Act.put,ps1,ps2,ps3]
   refine tQ 8 ?_
   simp only [Act.put,ps1,ps2,ps3]
   refine tQ 9 ?_
   simp only [Act.put,ps1,ps2,ps3]
   refine wpAnyH_ready (rs:= [10,11]) (by kernel_rfl) (by simp) (AllReadyH.cons (i:=10) rfl (fun Kc hK=>?_) (AllReadyH.cons (i:=11) rfl (fun Kc hK=>?_) AllReadyH.nil))
   ·skip
    go_simp
    refine hK.out _ _ (HSh.out _ (hHeld.2.2.2.alloc hHeld.2.2.2.size _)) (fun hHeld=>?_)
    clear hK Kc
    have ypa:Row (X1h.alloc (.cells #[.int .i64 0, .int .i64 0] 24)) X1h.heap.size [.int .i64 0, .int .i64 0]:=Row.new X1h [.int .i64 0, .int .i64 0] 24
    have lpa:X1h.heap.size<(X1h.alloc (.cells #[.int .i64 0, .int .i64 0] 24)).heap.size:=by simp
    have gpa:W.heap.size≤X1h.heap.size:=gw
    replace gw:W.heap.size≤(X1h.alloc (.cells #[.int .i64 0, .int .i64 0] 24)).heap.size:=by simp;omega
    generalize X1h.alloc (.cells #[.int .i64 0, .int .i64 0] 24)=X2h at ypa lpa gw hHeld ⊢
    generalize X1h.heap.size=pa at ypa lpa gpa  ⊢
    refine tcl 11 fun Kc hK=>?_
    go_simp
    refine hK.out _ _ (HSh.out _ (hHeld.2.2.2.alloc hHeld.2.2.2.size _)) (fun hHeld=>?_)
    clear hK Kc
    have ypc:Row (X2h.alloc (.cells #[.int .i64 0, .int .i64 0] 32)) X2h.heap.size [.int .i64 0, .int .i64 0]:=Row.new X2h [.int .i64 0, .int .i64 0] 32
    have lpc:X2h.heap.size<(X2h.alloc (.cells #[.int .i64 0, .int .i64 0] 32)).heap.size:=by simp
    have gpc:W.heap.size≤X2h.heap.size:=gw
    have dpapc:pa<X2h.heap.size:=lpa
    replace ypa:=ypa.alloc (.cells #[.int .i64 0, .int .i64 0] 32) lpa
    replace lpa:pa<(X2h.alloc (.cells #[.int .i64 0, .int .i64 0] 32)).heap.size:=by simp;omega
    replace gw:W.heap.size≤(X2h.alloc (.cells #[.int .i64 0, .int .i64 0] 32)).heap.size:=by simp;omega
    generalize X2h.alloc (.cells #[.int .i64 0, .int .i64 0] 32)=X3h at ypa lpa ypc lpc gw hHeld ⊢
    generalize X2h.heap.size=pc at ypc lpc gpc dpapc ⊢
    have sc0:=ypa.cell 0 _ rfl
    have sf0:=ypa.free 0 (by simp)
    have sc1:=ypa.cell 1 _ rfl
    have sf1:=ypa.free 1 (by simp)
    refine tcl 12 fun Kc hK=>?_
    go_simp
    refine hK.out _ _ (HSh.out _ (((hHeld.2.2.2.setCell gpa _).setCell gpa _))) (fun hHeld=>?_)
    clear hK Kc sc0 sf0 sc1 sf1
    have zpa:=((ypa.set 0 (.int .i64 q1) (by simp)).set 1 (.int .i64 q2) (by simp))
    have vpcpa:=Row.keep ypc (((Keep.refl (fun z=>z=pa) _).set (p:=⟨pa,0,none⟩) (Or.inl rfl) (.int .i64 q1)).set (p:=⟨pa,1,none⟩) (Or.inl rfl) (.int .i64 q2)) (by first|exact lpc|simpa using lpc) (by omega)
    have sc0:=vpcpa.cell 0 _ rfl
    have sf0:=vpcpa.free 0 (by simp)
    have sc1:=vpcpa.cell 1 _ rfl
    have sf1:=vpcpa.free 1 (by simp)
    refine tcl 13 fun Kc hK=>?_
    go_simp
    refine hK.out _ _ (HSh.out _ (((hHeld.2.2.2.setCell gpc _).setCell gpc _))) (fun hHeld=>?_)
    clear hK Kc sc0 sf0 sc1 sf1
    have zpc:=((vpcpa.set 0 (.int .i64 ox) (by simp)).set 1 (.int .i64 oy) (by simp))
    have vpapc:=Row.keep zpa (((Keep.refl (fun z=>z=pc) _).set (p:=⟨pc,0,none⟩) (Or.inl rfl) (.int .i64 ox)).set (p:=⟨pc,1,none⟩) (Or.inl rfl) (.int .i64 oy)) (by first|exact lpa|simpa using lpa) (by omega)
    refine tQ 14 ?_
    simp only [Act.put,ps1,ps2,ps3]
    refine wpAnyH_done (by kernel_rfl) ?_ _
    rw [HQQ.out]
    exact⟨rfl,pa,pc,rfl,vpapc,zpc,hHeld.2.2.2,gpa,by simp only [World.size_setCell];exact lpa,gpc,by simp only [World.size_setCell];exact lpc⟩
   ·skip
    go_simp
    refine hK.out _ _ (HSh.out _ (hHeld.2.2.2.alloc hHeld.2.2.2.size _)) (fun hHeld=>?_)
    clear hK Kc
    have ypc:Row (X1h.alloc (.cells #[.int .i64 0, .int .i64 0] 32)) X1h.heap.size [.int .i64 0, .int .i64 0]:=Row.new X1h [.int .i64 0, .int .i64 0] 32
    have lpc:X1h.heap.size<(X1h.alloc (.cells #[.int .i64 0, .int .i64 0] 32)).heap.size:=by simp
    have gpc:W.heap.size≤X1h.heap.size:=gw
    replace gw:W.heap.size≤(X1h.alloc (.cells #[.int .i64 0, .int .i64 0] 32)).heap.size:=by simp;omega
    generalize X1h.alloc (.cells #[.int .i64 0, .int .i64 0] 32)=X4h at ypc lpc gw hHeld ⊢
    generalize X1h.heap.size=pc at ypc lpc gpc  ⊢
    refine tcl 10 fun Kc hK=>?_
    go_simp
    refine hK.out _ _ (HSh.out _ (hHeld.2.2.2.alloc hHeld.2.2.2.size _)) (fun hHeld=>?_)
    clear hK Kc
    have ypa:Row (X4h.alloc (.cells #[.int .i64 0, .int .i64 0] 24)) X4h.heap.size [.int .i64 0, .int .i64 0]:=Row.new X4h [.int .i64 0, .int .i64 0] 24
    have lpa:X4h.heap.size<(X4h.alloc (.cells #[.int .i64 0, .int .i64 0] 24)).heap.size:=by simp
    have gpa:W.heap.size≤X4h.heap.size:=gw
    have dpcpa:pc<X4h.heap.size:=lpc
    replace ypc:=ypc.alloc (.cells #[.int .i64 0, .int .i64 0] 24) lpc
    replace lpc:pc<(X4h.alloc (.cells #[.int .i64 0, .int .i64 0] 24)).heap.size:=by simp;omega
    replace gw:W.heap.size≤(X4h.alloc (.cells #[.int .i64 0, .int .i64 0] 24)).heap.size:=by simp;omega
    generalize X4h.alloc (.cells #[.int .i64 0, .int .i64 0] 24)=X5h at ypc lpc ypa lpa gw hHeld ⊢
    generalize X4h.heap.size=pa at ypa lpa gpa dpcpa ⊢
    have sc0:=ypa.cell 0 _ rfl
    have sf0:=ypa.free 0 (by simp)
    have sc1:=ypa.cell 1 _ rfl
    have sf1:=ypa.free 1 (by simp)
    refine tcl 12 fun Kc hK=>?_
    go_simp
    refine hK.out _ _ (HSh.out _ (((hHeld.2.2.2.setCell gpa _).setCell gpa _))) (fun hHeld=>?_)
    clear hK Kc sc0 sf0 sc1 sf1
    have zpa:=((ypa.set 0 (.int .i64 q1) (by simp)).set 1 (.int .i64 q2) (by simp))
    have vpcpa:=Row.keep ypc (((Keep.refl (fun z=>z=pa) _).set (p:=⟨pa,0,none⟩) (Or.inl rfl) (.int .i64 q1)).set (p:=⟨pa,1,none⟩) (Or.inl rfl) (.int .i64 q2)) (by first|exact lpc|simpa using lpc) (by omega)
    have sc0:=vpcpa.cell 0 _ rfl
    have sf0:=vpcpa.free 0 (by simp)
    have sc1:=vpcpa.cell 1 _ rfl
    have sf1:=vpcpa.free 1 (by simp)
    refine tcl 13 fun Kc hK=>?_
    go_simp
    refine hK.out _ _ (HSh.out _ (((hHeld.2.2.2.setCell gpc _).setCell gpc _))) (fun hHeld=>?_)
    clear hK Kc sc0 sf0 sc1 sf1
    have zpc:=((vpcpa.set 0 (.int .i64 ox) (by simp)).set 1 (.int .i64 oy) (by simp))
    have vpapc:=Row.keep zpa (((Keep.refl (fun z=>z=pc) _).set (p:=⟨pc,0,none⟩) (Or.inl rfl) (.int .i64 ox)).set (p:=⟨pc,1,none⟩) (Or.inl rfl) (.int .i64 oy)) (by first|exact lpa|simpa using lpa) (by omega)
    refine tQ 14 ?_
    simp only [Act.put,ps1,ps2,ps3]
    refine wpAnyH_done (by kernel_rfl) ?_ _
    rw [HQQ.out]
    exact⟨rfl,pa,pc,rfl,vpapc,zpc,hHeld.2.2.2,gpa,by simp only [World.size_setCell];exact lpa,gpc,by simp only [World.size_setCell];exact lpc⟩
  ·skip
   go_simp
   refine hK.out _ _ (HSh.out _ (hHeld.2.2.2.alloc hHeld.2.2.2.size _)) (fun hHeld=>?_)
   clear hK Kc
   have ypa:Row (X0h.alloc (.cells #[.int .i64 0, .int .i64 0] 24)) X0h.heap.size [.int .i64 0, .int .i64 0]:=Row.new X0h [.int .i64 0, .int .i64 0] 24
   have lpa:X0h.heap.size<(X0h.alloc (.cells #[.int .i64 0, .int .i64 0] 24)).heap.size:=by simp
   have gpa:W.heap.size≤X0h.heap.size:=gw
   replace gw:W.heap.size≤(X0h.alloc (.cells #[.int .i64 0, .int .i64 0] 24)).heap.size:=by simp;omega
   generalize X0h.alloc (.cells #[.int .i64 0, .int .i64 0] 24)=X6h at ypa lpa gw hHeld ⊢
   generalize X0h.heap.size=pa at ypa lpa gpa  ⊢
   refine wpAnyH_ready (rs:= [5,11]) (by kernel_rfl) (by simp) (AllReadyH.cons (i:=5) rfl (fun Kc hK=>?_) (AllReadyH.cons (i:=11) rfl (fun Kc hK=>?_) AllReadyH.nil))
   ·skip
    go_simp
    (go_at_call 26;refine Calls.mono (CH.out _) ?_;rintro e X7h ⟨rfl,e7h⟩)
    refine hK.out _ _ (HSh.out _ (hHeld.2.2.2.trans (e7h.mono hHeld.2.2.2.size))) (fun hHeld=>?_)
    clear hK Kc
    replace ypa:=ypa.below e7h lpa
    replace lpa:=Nat.lt_of_lt_of_le lpa e7h.size
    replace gw:=Nat.le_trans gw e7h.size
    refine tQ 6 ?_
    simp only [Act.put,ps1,ps2,ps3]
    refine tQ 7 ?_
    simp only [Act.put,ps1,ps2,ps3]
    refine tQ 8 ?_
    simp only [Act.put,ps1,ps2,ps3]
    refine tQ 9 ?_
    simp only [Act.put,ps1,ps2,ps3]
    refine tcl 11 fun Kc hK=>?_
    go_simp
    refine hK.out _ _ (HSh.out _ (hHeld.2.2.2.alloc hHeld.2.2.2.size _)) (fun hHeld=>?_)
    clear hK Kc
    have ypc:Row (X7h.alloc (.cells #[.int .i64 0, .int .i64 0] 32)) X7h.heap.size [.int .i64 0, .int .i64 0]:=Row.new X7h [.int .i64 0, .int .i64 0] 32
    have lpc:X7h.heap.size<(X7h.alloc (.cells #[.int .i64 0, .int .i64 0] 32)).heap.size:=by simp
    have gpc:W.heap.size≤X7h.heap.size:=gw
    have dpapc:pa<X7h.heap.size:=lpa
    replace ypa:=ypa.alloc (.cells #[.int .i64 0, .int .i64 0] 32) lpa
    replace lpa:pa<(X7h.alloc (.cells #[.int .i64 0, .int .i64 0] 32)).heap.size:=by simp;omega
    replace gw:W.heap.size≤(X7h.alloc (.cells #[.int .i64 0, .int .i64 0] 32)).heap.size:=by simp;omega
    generalize X7h.alloc (.cells #[.int .i64 0, .int .i64 0] 32)=X8h at ypa lpa ypc lpc gw hHeld ⊢
    generalize X7h.heap.size=pc at ypc lpc gpc dpapc ⊢
    have sc0:=ypa.cell 0 _ rfl
    have sf0:=ypa.free 0 (by simp)
    have sc1:=ypa.cell 1 _ rfl
    have sf1:=ypa.free 1 (by simp)
    refine tcl 12 fun Kc hK=>?_
    go_simp
    refine hK.out _ _ (HSh.out _ (((hHeld.2.2.2.setCell gpa _).setCell gpa _))) (fun hHeld=>?_)
    clear hK Kc sc0 sf0 sc1 sf1
    have zpa:=((ypa.set 0 (.int .i64 q1) (by simp)).set 1 (.int .i64 q2) (by simp))
    have vpcpa:=Row.keep ypc (((Keep.refl (fun z=>z=pa) _).set (p:=⟨pa,0,none⟩) (Or.inl rfl) (.int .i64 q1)).set (p:=⟨pa,1,none⟩) (Or.inl rfl) (.int .i64 q2)) (by first|exact lpc|simpa using lpc) (by omega)
    have sc0:=vpcpa.cell 0 _ rfl
    have sf0:=vpcpa.free 0 (by simp)
    have sc1:=vpcpa.cell 1 _ rfl
    have sf1:=vpcpa.free 1 (by simp)
    refine tcl 13 fun Kc hK=>?_
    go_simp
    refine hK.out _ _ (HSh.out _ (((hHeld.2.2.2.setCell gpc _).setCell gpc _))) (fun hHeld=>?_)
    clear hK Kc sc0 sf0 sc1 sf1
    have zpc:=((vpcpa.set 0 (.int .i64 ox) (by simp)).set 1 (.int .i64 oy) (by simp))
    have vpapc:=Row.keep zpa (((Keep.refl (fun z=>z=pc) _).set (p:=⟨pc,0,none⟩) (Or.inl rfl) (.int .i64 ox)).set (p:=⟨pc,1,none⟩) (Or.inl rfl) (.int .i64 oy)) (by first|exact lpa|simpa using lpa) (by omega)
    refine tQ 14 ?_
    simp only [Act.put,ps1,ps2,ps3]
    refine wpAnyH_done (by kernel_rfl) ?_ _
    rw [HQQ.out]
    exact⟨rfl,pa,pc,rfl,vpapc,zpc,hHeld.2.2.2,gpa,by simp only [World.size_setCell];exact lpa,gpc,by simp only [World.size_setCell];exact lpc⟩
   ·skip
    go_simp
    refine hK.out _ _ (HSh.out _ (hHeld.2.2.2.alloc hHeld.2.2.2.size _)) (fun hHeld=>?_)
    clear hK Kc
    have ypc:Row (X6h.alloc (.cells #[.int .i64 0, .int .i64 0] 32)) X6h.heap.size [.int .i64 0, .int .i64 0]:=Row.new X6h [.int .i64 0, .int .i64 0] 32
    have lpc:X6h.heap.size<(X6h.alloc (.cells #[.int .i64 0, .int .i64 0] 32)).heap.size:=by simp
    have gpc:W.heap.size≤X6h.heap.size:=gw
    have dpapc:pa<X6h.heap.size:=lpa
    replace ypa:=ypa.alloc (.cells #[.int .i64 0, .int .i64 0] 32) lpa
    replace lpa:pa<(X6h.alloc (.cells #[.int .i64 0, .int .i64 0] 32)).heap.size:=by simp;omega
    replace gw:W.heap.size≤(X6h.alloc (.cells #[.int .i64 0, .int .i64 0] 32)).heap.size:=by simp;omega
    generalize X6h.alloc (.cells #[.int .i64 0, .int .i64 0] 32)=X9h at ypa lpa ypc lpc gw hHeld ⊢
    generalize X6h.heap.size=pc at ypc lpc gpc dpapc ⊢
    refine tcl 5 fun Kc hK=>?_
    go_simp
    (go_at_call 26;refine Calls.mono (CH.out _) ?_;rintro e X10h ⟨rfl,e10h⟩)
    refine hK.out _ _ (HSh.out _ (hHeld.2.2.2.trans (e10h.mono hHeld.2.2.2.size))) (fun hHeld=>?_)
    clear hK Kc
    replace ypa:=ypa.below e10h lpa
    replace lpa:=Nat.lt_of_lt_of_le lpa e10h.size
    replace ypc:=ypc.below e10h lpc
    replace lpc:=Nat.lt_of_lt_of_le lpc e10h.size
    replace gw:=Nat.le_trans gw e10h.size
    refine tQ 6 ?_
    simp only [Act.put,ps1,ps2,ps3]
    refine tQ 7 ?_
    simp only [Act.put,ps1,ps2,ps3]
    refine tQ 8 ?_
    simp only [Act.put,ps1,ps2,ps3]
    refine tQ 9 ?_
    simp only [Act.put,ps1,ps2,ps3]
    have sc0:=ypa.cell 0 _ rfl
    have sf0:=ypa.free 0 (by simp)
    have sc1:=ypa.cell 1 _ rfl
    have sf1:=ypa.free 1 (by simp)
    refine tcl 12 fun Kc hK=>?_
    go_simp
    refine hK.out _ _ (HSh.out _ (((hHeld.2.2.2.setCell gpa _).setCell gpa _))) (fun hHeld=>?_)
    clear hK Kc sc0 sf0 sc1 sf1
    have zpa:=((ypa.set 0 (.int .i64 q1) (by simp)).set 1 (.int .i64 q2) (by simp))
    have vpcpa:=Row.keep ypc (((Keep.refl (fun z=>z=pa) _).set (p:=⟨pa,0,none⟩) (Or.inl rfl) (.int .i64 q1)).set (p:=⟨pa,1,none⟩) (Or.inl rfl) (.int .i64 q2)) (by first|exact lpc|simpa using lpc) (by omega)
    have sc0:=vpcpa.cell 0 _ rfl
    have sf0:=vpcpa.free 0 (by simp)
    have sc1:=vpcpa.cell 1 _ rfl
    have sf1:=vpcpa.free 1 (by simp)
    refine tcl 13 fun Kc hK=>?_
    go_simp
    refine hK.out _ _ (HSh.out _ (((hHeld.2.2.2.setCell gpc _).setCell gpc _))) (fun hHeld=>?_)
    clear hK Kc sc0 sf0 sc1 sf1
    have zpc:=((vpcpa.set 0 (.int .i64 ox) (by simp)).set 1 (.int .i64 oy) (by simp))
    have vpapc:=Row.keep zpa (((Keep.refl (fun z=>z=pc) _).set (p:=⟨pc,0,none⟩) (Or.inl rfl) (.int .i64 ox)).set (p:=⟨pc,1,none⟩) (Or.inl rfl) (.int .i64 oy)) (by first|exact lpa|simpa using lpa) (by omega)
    refine tQ 14 ?_
    simp only [Act.put,ps1,ps2,ps3]
    refine wpAnyH_done (by kernel_rfl) ?_ _
    rw [HQQ.out]
    exact⟨rfl,pa,pc,rfl,vpapc,zpc,hHeld.2.2.2,gpa,by simp only [World.size_setCell];exact lpa,gpc,by simp only [World.size_setCell];exact lpc⟩
  ·skip
   go_simp
   refine hK.out _ _ (HSh.out _ (hHeld.2.2.2.alloc hHeld.2.2.2.size _)) (fun hHeld=>?_)
   clear hK Kc
   have ypc:Row (X0h.alloc (.cells #[.int .i64 0, .int .i64 0] 32)) X0h.heap.size [.int .i64 0, .int .i64 0]:=Row.new X0h [.int .i64 0, .int .i64 0] 32
   have lpc:X0h.heap.size<(X0h.alloc (.cells #[.int .i64 0, .int .i64 0] 32)).heap.size:=by simp
   have gpc:W.heap.size≤X0h.heap.size:=gw
   replace gw:W.heap.size≤(X0h.alloc (.cells #[.int .i64 0, .int .i64 0] 32)).heap.size:=by simp;omega
   generalize X0h.alloc (.cells #[.int .i64 0, .int .i64 0] 32)=X11h at ypc lpc gw hHeld ⊢
   generalize X0h.heap.size=pc at ypc lpc gpc  ⊢
   refine wpAnyH_ready (rs:= [5,10]) (by kernel_rfl) (by simp) (AllReadyH.cons (i:=5) rfl (fun Kc hK=>?_) (AllReadyH.cons (i:=10) rfl (fun Kc hK=>?_) AllReadyH.nil))
   ·skip
    go_simp
    (go_at_call 26;refine Calls.mono (CH.out _) ?_;rintro e X12h ⟨rfl,e12h⟩)
    refine hK.out _ _ (HSh.out _ (hHeld.2.2.2.trans (e12h.mono hHeld.2.2.2.size))) (fun hHeld=>?_)
    clear hK Kc
    replace ypc:=ypc.below e12h lpc
    replace lpc:=Nat.lt_of_lt_of_le lpc e12h.size
    replace gw:=Nat.le_trans gw e12h.size
    refine tQ 6 ?_
    simp only [Act.put,ps1,ps2,ps3]
    refine tQ 7 ?_
    simp only [Act.put,ps1,ps2,ps3]
    refine tQ 8 ?_
    simp only [Act.put,ps1,ps2,ps3]
    refine tQ 9 ?_
    simp only [Act.put,ps1,ps2,ps3]
    refine tcl 10 fun Kc hK=>?_
    go_simp
    refine hK.out _ _ (HSh.out _ (hHeld.2.2.2.alloc hHeld.2.2.2.size _)) (fun hHeld=>?_)
    clear hK Kc
    have ypa:Row (X12h.alloc (.cells #[.int .i64 0, .int .i64 0] 24)) X12h.heap.size [.int .i64 0, .int .i64 0]:=Row.new X12h [.int .i64 0, .int .i64 0] 24
    have lpa:X12h.heap.size<(X12h.alloc (.cells #[.int .i64 0, .int .i64 0] 24)).heap.size:=by simp
    have gpa:W.heap.size≤X12h.heap.size:=gw
    have dpcpa:pc<X12h.heap.size:=lpc
    replace ypc:=ypc.alloc (.cells #[.int .i64 0, .int .i64 0] 24) lpc
    replace lpc:pc<(X12h.alloc (.cells #[.int .i64 0, .int .i64 0] 24)).heap.size:=by simp;omega
    replace gw:W.heap.size≤(X12h.alloc (.cells #[.int .i64 0, .int .i64 0] 24)).heap.size:=by simp;omega
    generalize X12h.alloc (.cells #[.int .i64 0, .int .i64 0] 24)=X13h at ypc lpc ypa lpa gw hHeld ⊢
    generalize X12h.heap.size=pa at ypa lpa gpa dpcpa ⊢
    have sc0:=ypa.cell 0 _ rfl
    have sf0:=ypa.free 0 (by simp)
    have sc1:=ypa.cell 1 _ rfl
    have sf1:=ypa.free 1 (by simp)
    refine tcl 12 fun Kc hK=>?_
    go_simp
    refine hK.out _ _ (HSh.out _ (((hHeld.2.2.2.setCell gpa _).setCell gpa _))) (fun hHeld=>?_)
    clear hK Kc sc0 sf0 sc1 sf1
    have zpa:=((ypa.set 0 (.int .i64 q1) (by simp)).set 1 (.int .i64 q2) (by simp))
    have vpcpa:=Row.keep ypc (((Keep.refl (fun z=>z=pa) _).set (p:=⟨pa,0,none⟩) (Or.inl rfl) (.int .i64 q1)).set (p:=⟨pa,1,none⟩) (Or.inl rfl) (.int .i64 q2)) (by first|exact lpc|simpa using lpc) (by omega)
    have sc0:=vpcpa.cell 0 _ rfl
    have sf0:=vpcpa.free 0 (by simp)
    have sc1:=vpcpa.cell 1 _ rfl
    have sf1:=vpcpa.free 1 (by simp)
    refine tcl 13 fun Kc hK=>?_
    go_simp
    refine hK.out _ _ (HSh.out _ (((hHeld.2.2.2.setCell gpc _).setCell gpc _))) (fun hHeld=>?_)
    clear hK Kc sc0 sf0 sc1 sf1
    have zpc:=((vpcpa.set 0 (.int .i64 ox) (by simp)).set 1 (.int .i64 oy) (by simp))
    have vpapc:=Row.keep zpa (((Keep.refl (fun z=>z=pc) _).set (p:=⟨pc,0,none⟩) (Or.inl rfl) (.int .i64 ox)).set (p:=⟨pc,1,none⟩) (Or.inl rfl) (.int .i64 oy)) (by first|exact lpa|simpa using lpa) (by omega)
    refine tQ 14 ?_
    simp only [Act.put,ps1,ps2,ps3]
    refine wpAnyH_done (by kernel_rfl) ?_ _
    rw [HQQ.out]
    exact⟨rfl,pa,pc,rfl,vpapc,zpc,hHeld.2.2.2,gpa,by simp only [World.size_setCell];exact lpa,gpc,by simp only [World.size_setCell];exact lpc⟩
   ·skip
    go_simp
    refine hK.out _ _ (HSh.out _ (hHeld.2.2.2.alloc hHeld.2.2.2.size _)) (fun hHeld=>?_)
    clear hK Kc
    have ypa:Row (X11h.alloc (.cells #[.int .i64 0, .int .i64 0] 24)) X11h.heap.size [.int .i64 0, .int .i64 0]:=Row.new X11h [.int .i64 0, .int .i64 0] 24
    have lpa:X11h.heap.size<(X11h.alloc (.cells #[.int .i64 0, .int .i64 0] 24)).heap.size:=by simp
    have gpa:W.heap.size≤X11h.heap.size:=gw
    have dpcpa:pc<X11h.heap.size:=lpc
    replace ypc:=ypc.alloc (.cells #[.int .i64 0, .int .i64 0] 24) lpc
    replace lpc:pc<(X11h.alloc (.cells #[.int .i64 0, .int .i64 0] 24)).heap.size:=by simp;omega
    replace gw:W.heap.size≤(X11h.alloc (.cells #[.int .i64 0, .int .i64 0] 24)).heap.size:=by simp;omega
    generalize X11h.alloc (.cells #[.int .i64 0, .int .i64 0] 24)=X14h at ypc lpc ypa lpa gw hHeld ⊢
    generalize X11h.heap.size=pa at ypa lpa gpa dpcpa ⊢
    refine tcl 5 fun Kc hK=>?_
    go_simp
    (go_at_call 26;refine Calls.mono (CH.out _) ?_;rintro e X15h ⟨rfl,e15h⟩)
    refine hK.out _ _ (HSh.out _ (hHeld.2.2.2.trans (e15h.mono hHeld.2.2.2.size))) (fun hHeld=>?_)
    clear hK Kc
    replace ypc:=ypc.below e15h lpc
    replace lpc:=Nat.lt_of_lt_of_le lpc e15h.size
    replace ypa:=ypa.below e15h lpa
    replace lpa:=Nat.lt_of_lt_of_le lpa e15h.size
    replace gw:=Nat.le_trans gw e15h.size
    refine tQ 6 ?_
    simp only [Act.put,ps1,ps2,ps3]
    refine tQ 7 ?_
    simp only [Act.put,ps1,ps2,ps3]
    refine tQ 8 ?_
    simp only [Act.put,ps1,ps2,ps3]
    refine tQ 9 ?_
    simp only [Act.put,ps1,ps2,ps3]
    have sc0:=ypa.cell 0 _ rfl
    have sf0:=ypa.free 0 (by simp)
    have sc1:=ypa.cell 1 _ rfl
    have sf1:=ypa.free 1 (by simp)
    refine tcl 12 fun Kc hK=>?_
    go_simp
    refine hK.out _ _ (HSh.out _ (((hHeld.2.2.2.setCell gpa _).setCell gpa _))) (fun hHeld=>?_)
    clear hK Kc sc0 sf0 sc1 sf1
    have zpa:=((ypa.set 0 (.int .i64 q1) (by simp)).set 1 (.int .i64 q2) (by simp))
    have vpcpa:=Row.keep ypc (((Keep.refl (fun z=>z=pa) _).set (p:=⟨pa,0,none⟩) (Or.inl rfl) (.int .i64 q1)).set (p:=⟨pa,1,none⟩) (Or.inl rfl) (.int .i64 q2)) (by first|exact lpc|simpa using lpc) (by omega)
    have sc0:=vpcpa.cell 0 _ rfl
    have sf0:=vpcpa.free 0 (by simp)
    have sc1:=vpcpa.cell 1 _ rfl
    have sf1:=vpcpa.free 1 (by simp)
    refine tcl 13 fun Kc hK=>?_
    go_simp
    refine hK.out _ _ (HSh.out _ (((hHeld.2.2.2.setCell gpc _).setCell gpc _))) (fun hHeld=>?_)
    clear hK Kc sc0 sf0 sc1 sf1
    have zpc:=((vpcpa.set 0 (.int .i64 ox) (by simp)).set 1 (.int .i64 oy) (by simp))
    have vpapc:=Row.keep zpa (((Keep.refl (fun z=>z=pc) _).set (p:=⟨pc,0,none⟩) (Or.inl rfl) (.int .i64 ox)).set (p:=⟨pc,1,none⟩) (Or.inl rfl) (.int .i64 oy)) (by first|exact lpa|simpa using lpa) (by omega)
    refine tQ 14 ?_
    simp only [Act.put,ps1,ps2,ps3]
    refine wpAnyH_done (by kernel_rfl) ?_ _
    rw [HQQ.out]
    exact⟨rfl,pa,pc,rfl,vpapc,zpc,hHeld.2.2.2,gpa,by simp only [World.size_setCell];exact lpa,gpc,by simp only [World.size_setCell];exact lpc⟩
 rw [HQQ.out]
 rintro e act w4 ⟨rfl,pa,pc,rfl,ypah,ypch,bw4,gpah,lpah,gpch,lpch⟩
 clear HQQ QQ HSh
 try dsimp only
 have z4:=bw4.size
 have lr4:w.heap.size+1<w4.heap.size:=by omega
 have Rr4:=Rr.below bw4 lr
 have B4:=bW.trans (bw4.mono (by omega))
 have hrow4:=hrow.keep (Keep.of (F:=fun _=>False) bw4) hpW (fun x=>x)
 have HL4:Hid _:=HL.out.below bw4
 clear d0 d1 m0 CH hrow HL
 cases hb:okb
 ·have HR:Hid _:=HNO.out hb
  clear HNO HNI HYE
  have o0:=Rr4.cell 0 _ rfl
  have f0:=Rr4.free 0 (by simp)
  have o1:=Rr4.cell 1 _ rfl
  have f1:=Rr4.free 1 (by simp)
  have RX:=((Rr4.set 0 (.int .i64 0) (by simp)).set 1 (.int .i64 0) (by simp))
  have BZ:=((B4.setCell (p:=⟨w.heap.size+1,0,none⟩) (by simp) (.int .i64 0)).setCell (p:=⟨w.heap.size+1,1,none⟩) (by simp) (.int .i64 0))
  have n0:=RX.cell 0 _ rfl
  have n1:=RX.cell 1 _ rfl
  clear RX Rr4
  go_wp2
  exact bodyPost_ret (v:= .tuple #[.int .i64 (-1), .agg #[.int .i64 0, .int .i64 0], .int .i64 0, .bool false]) (by simp [results,Tryz.results7,go_sem, *]) rfl ⟨HR.out,BZ⟩
 by_cases hz:n=0
 ·have HR:Hid _:=HNI.out hb hz
  have m4:=hrow4.cell 4 _ rfl
  subst hz
  clear HNO HNI HYE HN hlen hnb
  have o0:=Rr4.cell 0 _ rfl
  have f0:=Rr4.free 0 (by simp)
  have o1:=Rr4.cell 1 _ rfl
  have f1:=Rr4.free 1 (by simp)
  have RX:=((Rr4.set 0 (.int .i64 0) (by simp)).set 1 (.int .i64 0) (by simp))
  have BZ:=((B4.setCell (p:=⟨w.heap.size+1,0,none⟩) (by simp) (.int .i64 0)).setCell (p:=⟨w.heap.size+1,1,none⟩) (by simp) (.int .i64 0))
  have n0:=RX.cell 0 _ rfl
  have n1:=RX.cell 1 _ rfl
  clear RX Rr4
  go_wp2
  exact bodyPost_ret (v:= .tuple #[.int .i64 (-1), .agg #[.int .i64 0, .int .i64 0], .int .i64 0, .bool false]) (by simp [results,Tryz.results7,go_sem, *]) rfl ⟨HR.out,BZ⟩
 obtain⟨hq,hox,hoy,c0,hc0,HE⟩:=HYE.out hb hz
 have HRES:Hid _:=HE
 have HQ:Hid _:=hq
 have HOX:Hid (_∧_):=⟨hox,hoy⟩
 have hcm:=firstC_mem hc0
 clear HNO HNI HYE HE hq hox hoy
 have hnz:((n:Int)==0)=false:=by simpa using(by omega: ¬(n:Int)=0)
 have m4:=hrow4.cell 4 _ rfl
 have hfu': ¬(1000<fuel):=by omega
 obtain⟨bb,hbb⟩: ∃ x,x=w4.heap.size:=⟨_,rfl⟩
 obtain⟨w5,hw5⟩: ∃ w5,w5=w4.alloc (.cells #[.int .i64 0, .int .i64 0] 32):=⟨_,rfl⟩
 have k5:Below w4.heap.size w4 w5:=by rw [hw5];exact(Below.refl _ _).alloc (Nat.le_refl _) _
 have R5:Row w5 bb [.int .i64 0, .int .i64 0]:=by rw [hw5,hbb];exact Row.new w4 [.int .i64 0, .int .i64 0] _
 have l5:bb<w5.heap.size:=by rw [hw5,hbb];simp
 have z5:=k5.size
 have HF5:Hid (∀ w',Below w5.heap.size w5 w'→ ∀ r,r=fAt Ce.no f S.C 0→Calls Tryz.prog 27 #[ptR p, .int .i64 f] w' fun e w''=>e= .returned (.int .i64 r)∧Below w'.heap.size w' w''):=fun w' hb' r hr=>mrFaceAt p S f w' ((HL4.out.below k5).below hb') (by have:=HMM.out;have:=HO.out.lens.2.1;omega) hr
 have H5:Hid _:=hw5.symm
 have HBB:Hid _:=hbb.symm
 have hlbb:w4.heap.size≤bb:=by omega
 clear hw5
 go_wp2_with (go_at_call 27;fail)
 rw [H5.out,HBB.out]
 obtain⟨r,hr⟩: ∃ r,r=fAt Ce.no f S.C 0:=⟨_,rfl⟩
 refine Calls.mono (HF5.out w5 (Below.refl _ _) r hr) ?_
 rintro e w6 ⟨rfl,b6⟩
 have k6:=k5.trans (b6.mono z5)
 obtain⟨fc,hfc⟩: ∃ x,x=c0.no:=⟨_,rfl⟩
 have HFC:Hid _:=hfc
 have hrow6:=hrow4.keep (Keep.of (F:=fun _=>False) k6) (by omega) (fun x=>x)
 have HL6:Hid _:=HL4.out.below k6
 have HCA:Hid (r<0→S.C[0]? =some c0):=fun hlt=>by
  have hno:isF S f=false:=decide_eq_false (by omega)
  unfold firstC at hc0
  rw [m_faceOf_no hno,List.head?_eq_getElem?]at hc0
  exact hc0
 have HCB:Hid (¬r<0→f=fc):=fun hge=>by
  rcases fAt_cases Ce.no f S.C with⟨e,_⟩|⟨j,c,_,h2,h3⟩
  ·exact absurd (hr.trans e) (by omega)
  ·have hmem:=List.mem_of_getElem? h2
   unfold firstC at hc0
   rw [←h3,(wgFace HO.out hmem).2]at hc0
   cases hc0
   rw [hfc,h3]
 clear hr hfc hc0 m4 hfu' H5 HBB HF5 hnz k5 hbb
 go_upto_if 54 with fail
 go_cut [15]from 55 to 61 (fun g wx=>g= .int .i64 fc∧wx=w6)
 case first=>
  by_cases hlt:r<0
  ·have hc0:=HCA.out hlt
   obtain⟨g,cp,t1,t2,t3,hrow7,hle,hgb,HE⟩:=HL6.out.face hc0
   have e4:=hrow7.cell 4 _ rfl
   have e0:w6.cell? ⟨g,0,none⟩=some (.int .i64 c0.no):=HE 0 _ rfl
   have hpos:(0:Int)<(S.C.length:Int):=by have:=(List.getElem?_eq_some_iff.1 hc0).1;omega
   rw [←HFC.out]at e0
   clear HE hrow7 hle HCA HCB hc0
   go_wp2
   go_meet
   case rel=>exact⟨rfl,rfl⟩
  ·have e:Hid (f=fc):=HCB.out (by omega)
   clear HCA HCB
   go_wp2
   go_meet
   case rel=>exact⟨by rw [e.out],rfl⟩
 case rest=>
 obtain⟨rfl,rfl⟩:=hcut
 clear HCA HCB
 have lbb:w4.heap.size≤bb:=hlbb
 have k7:=k6
 have HG0:Hid _:=hlbb
 have CT:Hid (∀ (w':World) (c:Ce) (x y r:Int),c∈S.C→Below w4.heap.size w4 w'→In64 x→In64 y→r=outI S c.t x y q1 q2→Calls Tryz.prog 28 #[ptR p, .int .i64 c.no, .agg #[.int .i64 x, .int .i64 y], .agg #[.int .i64 q1, .int .i64 q2]] w' fun e w''=>e= .returned (.int .i64 r)∧Below w'.heap.size w' w''):=fun w' c x y r hc hb hx hy hr=>wrOut p S m HO.out HMM.out w' (HL4.out.below hb) c hc x y q1 q2 hx hy HQ.out hr
 have CX:Hid (∀ (w':World) (c:Ce) (i:Int),c∈S.C→Below w4.heap.size w4 w'→Calls Tryz.prog 29 #[ptR p, .int .i64 c.no, .int .i64 i] w' fun e w''=>CrossIs (crossed S c.no i) i e∧Below w'.heap.size w' w''):=fun w' c i hc hb=>mrAcross p S c.no i w' (HL4.out.below hb) (by have:=HMM.out;have:=HO.out.lens.2.1;omega) (fun c hc=>wgOffs HO.out hc)
 have CAL:Hid (∀ (w':World),Below w4.heap.size w4 w'→Calls Tryz.prog 30 #[ptR p, .agg #[.int .i64 q1, .int .i64 q2]] w' fun e w''=>RAll (seekW S q1 q2 S.C) e∧Below w'.heap.size w' w''):=fun w' hb=>wrAll p S m HO.out HMM.out w' (HL4.out.below hb) q1 q2 HQ.out
 obtain⟨i0,hi0⟩: ∃ i,i=outI S c0.t 0 0 q1 q2:=⟨_,rfl⟩
 have C0:Hid (Calls Tryz.prog 28 #[ptR p, .int .i64 fc, .agg #[.int .i64 0, .int .i64 0], .agg #[.int .i64 q1, .int .i64 q2]] wc fun e w''=>e= .returned (.int .i64 i0)∧Below wc.heap.size wc w''):=by
  rw [HFC.out]
  exact CT.out wc c0 0 0 i0 hcm k6 ⟨by omega,by omega⟩ ⟨by omega,by omega⟩ hi0
 obtain⟨G,hG⟩: ∃ G,G=goW S q1 q2 (fuelN fuel) c0 0 0:=⟨_,rfl⟩
 rw [←hG]at HRES
 have HI0:Hid _:=hi0
 have HGG:Hid _:=hG
 have HPA:Hid (Row w4 pa [.int .i64 q1, .int .i64 q2]):=ypah
 have HPC:Hid (Row w4 pc [.int .i64 ox, .int .i64 oy]):=ypch
 have HRR:Hid (Row w4 (w.heap.size+1) [.int .i64 0, .int .i64 0]):=Rr4
 have HH4:Hid (Row w4 p [.int .i64 N,s1,s2, .slice a S.V.length ca, .slice b n cb]):=hrow4
 have HB4:Hid _:=B4
 have RB:=R5.below b6 l5
 have RA:=ypah.below k6 lpah
 have e0:=RB.cell 0 _ rfl
 have e1:=RB.cell 1 _ rfl
 have a0:=RA.cell 0 _ rfl
 have a1:=RA.cell 1 _ rfl
 have z6:=k6.size
 have lbc:bb<wc.heap.size:=by have:=b6.size;omega
 clear hi0 hG ypah ypch Rr4 hrow4 hrow6 HL6 R5 b6 l5 z5 RA B4 Rr Rp hlbb gpah
 go_wp2_with (go_at_call 28;fail)
 refine Calls.mono C0.out ?_
 rintro e w7 ⟨rfl,b7⟩
 have k7:Below w4.heap.size w4 w7:=k6.trans (b7.mono z6)
 have z7:=k7.size
 have RB7:Hid (Row w7 bb [.int .i64 0, .int .i64 0]):=RB.below b7 lbc
 have lb7:bb<w7.heap.size:=by have:=b7.size;omega
 have HGS:Hid (G=((goW S q1 q2 (fuelN fuel) c0 0 0).1,(goW S q1 q2 (fuelN fuel) c0 0 0).2+0)):=by unfold Hid;rw [HGG.out];rfl
 clear C0 e0 e1 a0 a1 RB b7 k6 z6 lbc
 go_wp2
 rw [HFC.out,HI0.out]
 go_loopw [15,17,18] (fun fv sv nv wr=> ∃ (c:Ce) (x y:Int) (st k:Nat),c∈S.C∧fv= .int .i64 c.no∧sv= .int .i64 (st:Int)∧nv= .int .i64 (outI S c.t x y q1 q2)∧Hid (st+k=fuelN fuel)∧Hid (G=((goW S q1 q2 k c x y).1,(goW S q1 q2 k c x y).2+st))∧Hid ((-8796093022208≤x∧x≤8796093022208)∧(-8796093022208≤y∧y≤8796093022208))∧Hid (Row wr bb [.int .i64 x, .int .i64 y])∧Keep (fun k=>k=bb) w7 wr) (fun _ sv _ _=>1000- (Go.RowKit.intOf sv).toNat)
 case atStart=>exact⟨c0,0,0,0,fuelN fuel,hcm,rfl,rfl,rfl,by unfold Hid;omega,HGS,⟨by omega,by omega⟩,RB7,Keep.refl _ _⟩
 case round=>
  clear RB7 HGS HGG HI0 HFC
  obtain⟨c,x,y,st,k,hc,rfl,rfl,rfl,HK,HG,HXY,HRB,kr⟩:=hrel
  obtain⟨wv,hwv⟩: ∃ w,w=wr:=⟨_,rfl⟩
  rw [←hwv]at kr HRB ⊢
  clear hwv
  have zv:=kr.size
  have kv:Below w4.heap.size w4 wv:=k7.trans (kr.below (B:=w4.heap.size) (by omega) (fun k e=>by omega))
  have hst:st≤1000:=by have:=HK.out;unfold fuelN at this;split at this<;>(try split at this)<;>omega
  obtain⟨no,hno⟩: ∃ f,f=c.no:=⟨_,rfl⟩
  obtain⟨i,hi⟩: ∃ i,i=outI S c.t x y q1 q2:=⟨_,rfl⟩
  have HNO:Hid _:=hno
  have HI:Hid _:=hi
  have HC:Hid _:=hc
  rw [←hno,←hi]
  have hcs:=out_cases S c.t x y q1 q2
  rw [←hi]at hcs
  clear hno hi hc
  by_cases hin:i= -1
  ·have HE:Hid (G=(some (c,x,y),st)):=by
    unfold Hid
    rw [HG.out,goW_here (HI.out.symm.trans hin),Nat.zero_add]
   have HFI:Hid (FindIs (findW S f p1 p2 fuel) (.returned (.tuple #[.int .i64 no, .agg #[.int .i64 (x+ox), .int .i64 (y+oy)], .int .i64 (st:Int), .bool true]))):=by
    unfold Hid
    rw [HRES.out,HE.out,HNO.out]
    rfl
   subst hin
   clear HG HE hcs
   go_wp2
   have RBv:=HRB.out
   have RCv:=HPC.out.below kv lpch
   have RR:=HRR.out.below kv lr4
   have u0:=RBv.cell 0 _ rfl
   have u1:=RBv.cell 1 _ rfl
   have c0:=RCv.cell 0 _ rfl
   have c1:=RCv.cell 1 _ rfl
   have hxy:=HXY.out
   have hoo:=HOX.out
   have t1:IntKind.i64.wrap (x+ox)=x+ox:=by rw [wrap_i64];exact wrap_in (by omega) (by omega)
   have t2:IntKind.i64.wrap (y+oy)=y+oy:=by rw [wrap_i64];exact wrap_in (by omega) (by omega)
   have B4v:=HB4.out
   have zkv:=kv.size
   clear hxy hoo RBv RCv
   have s0:=RR.cell 0 _ rfl
   have s1:=RR.cell 1 _ rfl
   have f0:=RR.free 0 (by simp)
   have f1:=RR.free 1 (by simp)
   have oA:=(RR.set 0 (.int .i64 (x+ox)) (by simp)).cell 0 _ rfl
   have oB:=((RR.set 0 (.int .i64 (x+ox)) (by simp)).set 1 (.int .i64 (y+oy)) (by simp)).cell 1 _ rfl
   have BX:=(((B4v.trans (kv.mono (by omega))).setCell (p:=⟨w.heap.size+1,0,none⟩) (by simp) (.int .i64 (x+ox))).setCell (p:=⟨w.heap.size+1,1,none⟩) (by simp) (.int .i64 (y+oy))).drew
   clear RR
   go_region
   clear u0 u1 c0 c1 s0 s1 f0 f1 t1 t2
   go_wp2
   exact bodyPost_ret (v:= .tuple #[.int .i64 no, .agg #[(.int .i64 (x+ox)),(.int .i64 (y+oy))], .int .i64 (st:Int), .bool true]) (by simp [results,Tryz.results7,go_sem, *]) rfl ⟨HFI.out,BX⟩
  ·have hin':(i== -1)=false:=by simpa using hin
   have RAv:=HPA.out.below kv lpah
   have hrv:=HH4.out.keep (Keep.of (F:=fun _=>False) kv) (by omega) (fun x=>x)
   obtain⟨w8,hw8⟩: ∃ w8,w8=wv.alloc (.cells #[.int .i64 0, .int .i64 0] 32):=⟨_,rfl⟩
   have k8:Below wv.heap.size wv w8:=by rw [hw8];exact(Below.refl _ _).alloc (Nat.le_refl _) _
   have R8:Row w8 wv.heap.size [.int .i64 0, .int .i64 0]:=by rw [hw8];exact Row.new wv [.int .i64 0, .int .i64 0] _
   have l8:wv.heap.size<w8.heap.size:=by rw [hw8];simp
   have K8:Below w4.heap.size w4 w8:=kv.trans (k8.mono (by have:=kv.size;omega))
   have RA8:=RAv.below k8 (by have:=kv.size;omega)
   have a0:=RA8.cell 0 _ rfl
   have a1:=RA8.cell 1 _ rfl
   rcases hcs with⟨ha,hi2⟩|⟨ha,hi2,hi3⟩
   ·have HGN:Hid (G=(none,st)):=by
     unfold Hid
     rw [HG.out,goW_far (HI.out.symm.trans hi2),Nat.zero_add]
    have hneg: ¬(0≤i):=by omega
    subst hi2
    have H8:Hid _:=hw8.symm
    rw [hw8]at a0 a1
    clear HG ha hw8 RAv hrv
    go_wp2_with (go_at_call 30;fail)
    rw [H8.out]
    clear a0 a1
    refine Calls.mono (CAL.out w8 K8) ?_
    rintro e wa ⟨he,ba⟩
    have ka:Below w4.heap.size w4 wa:=K8.trans (ba.mono K8.size)
    have za:=ka.size
    have B4a:=HB4.out
    cases hsk:seekW S q1 q2 S.C with
    |none=>
     have HFI:Hid (FindIs (findW S f p1 p2 fuel) (.returned (.tuple #[.int .i64 (-1), .agg #[.int .i64 0, .int .i64 0], .int .i64 0, .bool false]))):=by
      have e:=HRES.out
      rw [HGN.out]at e
      unfold endF at e
      rw [hsk]at e
      unfold Hid
      rw [e]
      rfl
     rw [hsk]at he
     have he:e=_:=he
     subst he
     obtain⟨wb,hwb⟩: ∃ w8,w8=wa.alloc (.cells #[.int .i64 0, .int .i64 0] 32):=⟨_,rfl⟩
     have kb:Below wa.heap.size wa wb:=by rw [hwb];exact(Below.refl _ _).alloc (Nat.le_refl _) _
     have Kb:Below w4.heap.size w4 wb:=ka.trans (kb.mono za)
     have RR:=HRR.out.below Kb lr4
     have BX:=B4a.trans (Kb.mono (by omega))
     rw [hwb]at RR BX
     clear hwb hsk
     have o0:=RR.cell 0 _ rfl
     have f0:=RR.free 0 (by simp)
     have o1:=RR.cell 1 _ rfl
     have f1:=RR.free 1 (by simp)
     have RX:=((RR.set 0 (.int .i64 0) (by simp)).set 1 (.int .i64 0) (by simp))
     have BZ:=((BX.setCell (p:=⟨w.heap.size+1,0,none⟩) (by simp) (.int .i64 0)).setCell (p:=⟨w.heap.size+1,1,none⟩) (by simp) (.int .i64 0))
     have n0:=RX.cell 0 _ rfl
     have n1:=RX.cell 1 _ rfl
     clear RX RR
     go_wp2
     exact bodyPost_ret (v:= .tuple #[.int .i64 (-1), .agg #[.int .i64 0, .int .i64 0], .int .i64 0, .bool false]) (by simp [results,Tryz.results7,go_sem, *]) rfl ⟨HFI.out,BZ⟩
    |some r=>
     obtain⟨d,hx,hy⟩:=r
     have hsm:=seekW_small HO.out hsk
     have hoo:=HOX.out
     have t1:IntKind.i64.wrap (hx+ox)=hx+ox:=by rw [wrap_i64];exact wrap_in (by omega) (by omega)
     have t2:IntKind.i64.wrap (hy+oy)=hy+oy:=by rw [wrap_i64];exact wrap_in (by omega) (by omega)
     have HFI:Hid (FindIs (findW S f p1 p2 fuel) (.returned (.tuple #[.int .i64 d.no, .agg #[.int .i64 (hx+ox), .int .i64 (hy+oy)], .int .i64 (st:Int), .bool true]))):=by
      have e:=HRES.out
      rw [HGN.out]at e
      unfold endF at e
      rw [hsk]at e
      unfold Hid
      rw [e]
      rfl
     rw [hsk]at he
     have he:e= .returned (.tuple #[.int .i64 d.no, .agg #[.int .i64 hx, .int .i64 hy], .bool true]):=he
     subst he
     obtain⟨wb,hwb⟩: ∃ w8,w8=wa.alloc (.cells #[.int .i64 hx, .int .i64 hy] 32):=⟨_,rfl⟩
     have kb:Below wa.heap.size wa wb:=by rw [hwb];exact(Below.refl _ _).alloc (Nat.le_refl _) _
     have Kb:Below w4.heap.size w4 wb:=ka.trans (kb.mono za)
     have Rh:Row wb wa.heap.size [.int .i64 hx, .int .i64 hy]:=by rw [hwb];exact Row.new wa [.int .i64 hx, .int .i64 hy] _
     have lh:wa.heap.size<wb.heap.size:=by rw [hwb];simp
     have RR:=HRR.out.below Kb lr4
     have RCb:=HPC.out.below Kb lpch
     have zb:=Kb.size
     have u0:=Rh.cell 0 _ rfl
     have u1:=Rh.cell 1 _ rfl
     have c0:=RCb.cell 0 _ rfl
     have c1:=RCb.cell 1 _ rfl
     have Hb:Hid _:=hwb.symm
     clear hwb hsk hsm hoo Rh RCb
     go_wp2
     rw [Hb.out]
     have s0:=RR.cell 0 _ rfl
     have s1:=RR.cell 1 _ rfl
     have f0:=RR.free 0 (by simp)
     have f1:=RR.free 1 (by simp)
     have oA:=(RR.set 0 (.int .i64 (hx+ox)) (by simp)).cell 0 _ rfl
     have oB:=((RR.set 0 (.int .i64 (hx+ox)) (by simp)).set 1 (.int .i64 (hy+oy)) (by simp)).cell 1 _ rfl
     have BX:=(((B4a.trans (Kb.mono (by omega))).setCell (p:=⟨w.heap.size+1,0,none⟩) (by simp) (.int .i64 (hx+ox))).setCell (p:=⟨w.heap.size+1,1,none⟩) (by simp) (.int .i64 (hy+oy))).drew
     clear RR
     go_region
     clear u0 u1 c0 c1 s0 s1 f0 f1 t1 t2
     go_wp2
     exact bodyPost_ret (v:= .tuple #[.int .i64 d.no, .agg #[(.int .i64 (hx+ox)),(.int .i64 (hy+oy))], .int .i64 (st:Int), .bool true]) (by simp [results,Tryz.results7,go_sem, *]) rfl ⟨HFI.out,BX⟩
   ·obtain⟨j,hj⟩: ∃ j:Nat,i=(j:Int):=⟨i.toNat,by omega⟩
    have hj3:j<3:=by omega
    have hpos:(0:Int)≤i:=by omega
    have HJ:Hid _:=hj
    have HMV:Hid _:=ha
    have hcr:=cross_of' HO.out HC.out hj3
    have CXX:Hid (Calls Tryz.prog 29 #[ptR p, .int .i64 no, .int .i64 i] w8 fun e w''=>CrossIs (crossed S c.no (j:Int)) (j:Int) e∧Below w8.heap.size w8 w''):=by
     rw [HNO.out,hj]
     exact CX.out w8 c (j:Int) HC.out K8
    have H8:Hid _:=hw8.symm
    have s0:=R8.cell 0 _ rfl
    have s1:=R8.cell 1 _ rfl
    have f0:=R8.free 0 (by simp)
    have f1:=R8.free 1 (by simp)
    rw [hw8]at a0 a1 s0 s1 f0 f1
    clear hi2 hi3 ha hw8 RAv hrv hj
    go_wp2_with (go_at_call 29;fail)
    rw [H8.out]
    refine Calls.mono CXX.out ?_
    rintro e w9 ⟨he,b9⟩
    have R9:=R8.below b9 l8
    have K9:Below w4.heap.size w4 w9:=K8.trans (b9.mono K8.size)
    have z9:=K9.size
    obtain⟨ob,hob⟩: ∃ x,x=wv.heap.size:=⟨_,rfl⟩
    have lob:w4.heap.size≤ob:=by rw [hob];exact kv.size
    have lo9:ob<w9.heap.size:=by have:=b9.size;omega
    have lbo:bb<ob:=by rw [hob];have:=kr.size;omega
    rw [←hob]at R9 ⊢
    have HOB:Hid _:=hob
    have HFU:Hid ((k=0→fuel≤(st:Int))∧(k≠0→(st:Int)<fuel)):=by
     have:=HK.out
     unfold fuelN at this
     split at this
     ·exact⟨fun _=>by omega,fun _=>by omega⟩
     ·rw [if_neg (by omega)]at this
      exact⟨fun _=>by omega,fun _=>by omega⟩
    have q0:=R9.cell 0 _ rfl
    have q1':=R9.cell 1 _ rfl
    have g0:=R9.free 0 (by simp)
    have g1:=R9.free 1 (by simp)
    clear CXX H8 a0 a1 s0 s1 f0 f1 R8 hob
    cases hac:acr c.t (nx j) S.C with
    |none=>
     rw [hcr,hac]at he
     have he:e=_:=he
     subst he
     have HGN:Hid (G=(none,st)):=by
      unfold Hid
      rw [HG.out,goW_out (by rw [←HI.out];exact hpos) (by rw [←HI.out,HJ.out];show stepC S c j=none;unfold stepC;rw [hac]),Nat.zero_add]
     obtain⟨wd,hwd⟩: ∃ wd,wd=(w9.setCell ⟨ob,0,none⟩ (.int .i64 0)).setCell ⟨ob,1,none⟩ (.int .i64 0):=⟨_,rfl⟩
     have Kd:Below w4.heap.size w4 wd:=by rw [hwd];exact(K9.setCell (p:=⟨ob,0,none⟩) lob _).setCell (p:=⟨ob,1,none⟩) lob _
     have RAd:=HPA.out.below Kd lpah
     have a0:=RAd.cell 0 _ rfl
     have a1:=RAd.cell 1 _ rfl
     have Hd:Hid _:=hwd.symm
     rw [hwd]at a0 a1
     clear HG hac hcr hwd RAd R9 HFU
     go_wp2_with (go_at_call 30;fail)
     rw [Hd.out]
     clear a0 a1 q0 q1' g0 g1
     refine Calls.mono (CAL.out wd Kd) ?_
     rintro e wa ⟨he,ba⟩
     have ka:Below w4.heap.size w4 wa:=Kd.trans (ba.mono Kd.size)
     have za:=ka.size
     have B4a:=HB4.out
     cases hsk:seekW S q1 q2 S.C with
     |none=>
      have HFI:Hid (FindIs (findW S f p1 p2 fuel) (.returned (.tuple #[.int .i64 (-1), .agg #[.int .i64 0, .int .i64 0], .int .i64 0, .bool false]))):=by
       have e:=HRES.out
       rw [HGN.out]at e
       unfold endF at e
       rw [hsk]at e
       unfold Hid
       rw [e]
       rfl
      rw [hsk]at he
      have he:e=_:=he
      subst he
      obtain⟨wb,hwb⟩: ∃ w8,w8=wa.alloc (.cells #[.int .i64 0, .int .i64 0] 32):=⟨_,rfl⟩
      have kb:Below wa.heap.size wa wb:=by rw [hwb];exact(Below.refl _ _).alloc (Nat.le_refl _) _
      have Kb:Below w4.heap.size w4 wb:=ka.trans (kb.mono za)
      have RR:=HRR.out.below Kb lr4
      have BX:=B4a.trans (Kb.mono (by omega))
      rw [hwb]at RR BX
      clear hwb hsk
      have o0:=RR.cell 0 _ rfl
      have f0:=RR.free 0 (by simp)
      have o1:=RR.cell 1 _ rfl
      have f1:=RR.free 1 (by simp)
      have RX:=((RR.set 0 (.int .i64 0) (by simp)).set 1 (.int .i64 0) (by simp))
      have BZ:=((BX.setCell (p:=⟨w.heap.size+1,0,none⟩) (by simp) (.int .i64 0)).setCell (p:=⟨w.heap.size+1,1,none⟩) (by simp) (.int .i64 0))
      have n0:=RX.cell 0 _ rfl
      have n1:=RX.cell 1 _ rfl
      clear RX RR
      go_wp2
      exact bodyPost_ret (v:= .tuple #[.int .i64 (-1), .agg #[.int .i64 0, .int .i64 0], .int .i64 0, .bool false]) (by simp [results,Tryz.results7,go_sem, *]) rfl ⟨HFI.out,BZ⟩
     |some r=>
      obtain⟨d,hx,hy⟩:=r
      have hsm:=seekW_small HO.out hsk
      have hoo:=HOX.out
      have t1:IntKind.i64.wrap (hx+ox)=hx+ox:=by rw [wrap_i64];exact wrap_in (by omega) (by omega)
      have t2:IntKind.i64.wrap (hy+oy)=hy+oy:=by rw [wrap_i64];exact wrap_in (by omega) (by omega)
      have HFI:Hid (FindIs (findW S f p1 p2 fuel) (.returned (.tuple #[.int .i64 d.no, .agg #[.int .i64 (hx+ox), .int .i64 (hy+oy)], .int .i64 (st:Int), .bool true]))):=by
       have e:=HRES.out
       rw [HGN.out]at e
       unfold endF at e
       rw [hsk]at e
       unfold Hid
       rw [e]
       rfl
      rw [hsk]at he
      have he:e= .returned (.tuple #[.int .i64 d.no, .agg #[.int .i64 hx, .int .i64 hy], .bool true]):=he
      subst he
      obtain⟨wb,hwb⟩: ∃ w8,w8=wa.alloc (.cells #[.int .i64 hx, .int .i64 hy] 32):=⟨_,rfl⟩
      have kb:Below wa.heap.size wa wb:=by rw [hwb];exact(Below.refl _ _).alloc (Nat.le_refl _) _
      have Kb:Below w4.heap.size w4 wb:=ka.trans (kb.mono za)
      have Rh:Row wb wa.heap.size [.int .i64 hx, .int .i64 hy]:=by rw [hwb];exact Row.new wa [.int .i64 hx, .int .i64 hy] _
      have lh:wa.heap.size<wb.heap.size:=by rw [hwb];simp
      have RR:=HRR.out.below Kb lr4
      have RCb:=HPC.out.below Kb lpch
      have zb:=Kb.size
      have u0:=Rh.cell 0 _ rfl
      have u1:=Rh.cell 1 _ rfl
      have c0:=RCb.cell 0 _ rfl
      have c1:=RCb.cell 1 _ rfl
      have Hb:Hid _:=hwb.symm
      clear hwb hsk hsm hoo Rh RCb
      go_wp2
      rw [Hb.out]
      have s0:=RR.cell 0 _ rfl
      have s1:=RR.cell 1 _ rfl
      have f0:=RR.free 0 (by simp)
      have f1:=RR.free 1 (by simp)
      have oA:=(RR.set 0 (.int .i64 (hx+ox)) (by simp)).cell 0 _ rfl
      have oB:=((RR.set 0 (.int .i64 (hx+ox)) (by simp)).set 1 (.int .i64 (hy+oy)) (by simp)).cell 1 _ rfl
      have BX:=(((B4a.trans (Kb.mono (by omega))).setCell (p:=⟨w.heap.size+1,0,none⟩) (by simp) (.int .i64 (hx+ox))).setCell (p:=⟨w.heap.size+1,1,none⟩) (by simp) (.int .i64 (hy+oy))).drew
      clear RR
      go_region
      clear u0 u1 c0 c1 s0 s1 f0 f1 t1 t2
      go_wp2
      exact bodyPost_ret (v:= .tuple #[.int .i64 d.no, .agg #[(.int .i64 (hx+ox)),(.int .i64 (hy+oy))], .int .i64 (st:Int), .bool true]) (by simp [results,Tryz.results7,go_sem, *]) rfl ⟨HFI.out,BX⟩
    |some r=>
     obtain⟨d,kk⟩:=r
     rw [hcr,hac]at he
     have hmem:=acrW_mem hac
     obtain⟨dx,hdx⟩: ∃ u,u=c.t.x (nx (nx j))- d.t.x kk:=⟨_,rfl⟩
     obtain⟨dy,hdy⟩: ∃ u,u=c.t.y (nx (nx j))- d.t.y kk:=⟨_,rfl⟩
     obtain⟨k3,hk3⟩: ∃ u:Int,u=(((kk+2) % 3:Nat):Int):=⟨_,rfl⟩
     have hstep:stepC S c j=some (d,dx,dy):=by unfold stepC;rw [hac,hdx,hdy]
     have hsm:=stepC_small HO.out HC.out hj3 hstep
     obtain⟨gn,hgn⟩: ∃ u,u=d.no:=⟨_,rfl⟩
     unfold CrossIs at he
     simp only at he
     rw [show corner (j:Int)=j by unfold corner;omega,←hdx,←hdy,←hk3,←hgn]at he
     subst he
     obtain⟨wd,hwd⟩: ∃ wd,wd=(w9.setCell ⟨ob,0,none⟩ (.int .i64 dx)).setCell ⟨ob,1,none⟩ (.int .i64 dy):=⟨_,rfl⟩
     have Kd:Below w4.heap.size w4 wd:=by rw [hwd];exact(K9.setCell (p:=⟨ob,0,none⟩) lob _).setCell (p:=⟨ob,1,none⟩) lob _
     have Rd:Row wd ob [.int .i64 dx, .int .i64 dy]:=by rw [hwd];exact(R9.set 0 (.int .i64 dx) (by simp)).set 1 (.int .i64 dy) (by simp)
     have hmv:=(mv_small (mvAll_iff.1 HMV.out).1)
     have HST:Hid _:=hstep
     have HGNO:Hid _:=hgn
     obtain⟨hdm,hs1,hs2⟩:=hsm
     have hs1: -4398046511104≤dx∧dx≤4398046511104:=hs1
     have hs2: -4398046511104≤dy∧dy≤4398046511104:=hs2
     have hdm:d∈S.C:=hdm
     clear hac hcr hdx hdy hk3 hstep hgn R9
     by_cases hk0:k=0
     ·have HGN:Hid (G=(none,st)):=by
       unfold Hid
       rw [HG.out,hk0,goW_dry (by rw [←HI.out];omega),Nat.zero_add]
      have hle:=HFU.out.1 hk0
      have RAd:=HPA.out.below Kd lpah
      have a0:=RAd.cell 0 _ rfl
      have a1:=RAd.cell 1 _ rfl
      have Hd:Hid _:=hwd.symm
      rw [hwd]at a0 a1
      clear HG hwd RAd HFU hs1 hs2 hmv Rd
      go_wp2_with (go_at_call 30;fail)
      rw [Hd.out]
      clear a0 a1 q0 q1' g0 g1
      refine Calls.mono (CAL.out wd Kd) ?_
      rintro e wa ⟨he,ba⟩
      have ka:Below w4.heap.size w4 wa:=Kd.trans (ba.mono Kd.size)
      have za:=ka.size
      have B4a:=HB4.out
      cases hsk:seekW S q1 q2 S.C with
      |none=>
       have HFI:Hid (FindIs (findW S f p1 p2 fuel) (.returned (.tuple #[.int .i64 (-1), .agg #[.int .i64 0, .int .i64 0], .int .i64 0, .bool false]))):=by
        have e:=HRES.out
        rw [HGN.out]at e
        unfold endF at e
        rw [hsk]at e
        unfold Hid
        rw [e]
        rfl
       rw [hsk]at he
       have he:e=_:=he
       subst he
       obtain⟨wb,hwb⟩: ∃ w8,w8=wa.alloc (.cells #[.int .i64 0, .int .i64 0] 32):=⟨_,rfl⟩
       have kb:Below wa.heap.size wa wb:=by rw [hwb];exact(Below.refl _ _).alloc (Nat.le_refl _) _
       have Kb:Below w4.heap.size w4 wb:=ka.trans (kb.mono za)
       have RR:=HRR.out.below Kb lr4
       have BX:=B4a.trans (Kb.mono (by omega))
       rw [hwb]at RR BX
       clear hwb hsk
       have o0:=RR.cell 0 _ rfl
       have f0:=RR.free 0 (by simp)
       have o1:=RR.cell 1 _ rfl
       have f1:=RR.free 1 (by simp)
       have RX:=((RR.set 0 (.int .i64 0) (by simp)).set 1 (.int .i64 0) (by simp))
       have BZ:=((BX.setCell (p:=⟨w.heap.size+1,0,none⟩) (by simp) (.int .i64 0)).setCell (p:=⟨w.heap.size+1,1,none⟩) (by simp) (.int .i64 0))
       have n0:=RX.cell 0 _ rfl
       have n1:=RX.cell 1 _ rfl
       clear RX RR
       go_wp2
       exact bodyPost_ret (v:= .tuple #[.int .i64 (-1), .agg #[.int .i64 0, .int .i64 0], .int .i64 0, .bool false]) (by simp [results,Tryz.results7,go_sem, *]) rfl ⟨HFI.out,BZ⟩
      |some r=>
       obtain⟨d,hx,hy⟩:=r
       have hsm:=seekW_small HO.out hsk
       have hoo:=HOX.out
       have t1:IntKind.i64.wrap (hx+ox)=hx+ox:=by rw [wrap_i64];exact wrap_in (by omega) (by omega)
       have t2:IntKind.i64.wrap (hy+oy)=hy+oy:=by rw [wrap_i64];exact wrap_in (by omega) (by omega)
       have HFI:Hid (FindIs (findW S f p1 p2 fuel) (.returned (.tuple #[.int .i64 d.no, .agg #[.int .i64 (hx+ox), .int .i64 (hy+oy)], .int .i64 (st:Int), .bool true]))):=by
        have e:=HRES.out
        rw [HGN.out]at e
        unfold endF at e
        rw [hsk]at e
        unfold Hid
        rw [e]
        rfl
       rw [hsk]at he
       have he:e= .returned (.tuple #[.int .i64 d.no, .agg #[.int .i64 hx, .int .i64 hy], .bool true]):=he
       subst he
       obtain⟨wb,hwb⟩: ∃ w8,w8=wa.alloc (.cells #[.int .i64 hx, .int .i64 hy] 32):=⟨_,rfl⟩
       have kb:Below wa.heap.size wa wb:=by rw [hwb];exact(Below.refl _ _).alloc (Nat.le_refl _) _
       have Kb:Below w4.heap.size w4 wb:=ka.trans (kb.mono za)
       have Rh:Row wb wa.heap.size [.int .i64 hx, .int .i64 hy]:=by rw [hwb];exact Row.new wa [.int .i64 hx, .int .i64 hy] _
       have lh:wa.heap.size<wb.heap.size:=by rw [hwb];simp
       have RR:=HRR.out.below Kb lr4
       have RCb:=HPC.out.below Kb lpch
       have zb:=Kb.size
       have u0:=Rh.cell 0 _ rfl
       have u1:=Rh.cell 1 _ rfl
       have c0:=RCb.cell 0 _ rfl
       have c1:=RCb.cell 1 _ rfl
       have Hb:Hid _:=hwb.symm
       clear hwb hsk hsm hoo Rh RCb
       go_wp2
       rw [Hb.out]
       have s0:=RR.cell 0 _ rfl
       have s1:=RR.cell 1 _ rfl
       have f0:=RR.free 0 (by simp)
       have f1:=RR.free 1 (by simp)
       have oA:=(RR.set 0 (.int .i64 (hx+ox)) (by simp)).cell 0 _ rfl
       have oB:=((RR.set 0 (.int .i64 (hx+ox)) (by simp)).set 1 (.int .i64 (hy+oy)) (by simp)).cell 1 _ rfl
       have BX:=(((B4a.trans (Kb.mono (by omega))).setCell (p:=⟨w.heap.size+1,0,none⟩) (by simp) (.int .i64 (hx+ox))).setCell (p:=⟨w.heap.size+1,1,none⟩) (by simp) (.int .i64 (hy+oy))).drew
       clear RR
       go_region
       clear u0 u1 c0 c1 s0 s1 f0 f1 t1 t2
       go_wp2
       exact bodyPost_ret (v:= .tuple #[.int .i64 d.no, .agg #[(.int .i64 (hx+ox)),(.int .i64 (hy+oy))], .int .i64 (st:Int), .bool true]) (by simp [results,Tryz.results7,go_sem, *]) rfl ⟨HFI.out,BX⟩
     ·obtain⟨k',rfl⟩: ∃ k',k=k'+1:=⟨k- 1,by omega⟩
      have hlt: ¬(fuel≤(st:Int)):=by have:=HFU.out.2 hk0;omega
      have HGN:Hid (G=((goW S q1 q2 k' d (x+dx) (y+dy)).1,(goW S q1 q2 k' d (x+dx) (y+dy)).2+(st+1))):=by
       unfold Hid
       rw [HG.out,goW_step (by rw [←HI.out];exact hpos) (by rw [←HI.out,HJ.out];exact HST.out)]
       simp only
       rw [Nat.add_assoc,Nat.add_comm 1 st]
      have HKK:Hid (st+1+k'=fuelN fuel):=by unfold Hid;rw [←HK.out];omega
      have RBd:Row wd bb [.int .i64 x, .int .i64 y]:=by
       have h9:=((HRB.out.below k8 (by omega)).below b9 (by omega))
       rw [hwd]
       exact h9.keep (((Keep.refl (fun z=>z=ob) w9).set (p:=⟨ob,0,none⟩) (Or.inl rfl) _).set (p:=⟨ob,1,none⟩) (Or.inl rfl) _) (by omega) (by omega)
      have u0:=RBd.cell 0 _ rfl
      have u1:=RBd.cell 1 _ rfl
      have f0:=RBd.free 0 (by simp)
      have f1:=RBd.free 1 (by simp)
      have c0:=Rd.cell 0 _ rfl
      have c1:=Rd.cell 1 _ rfl
      have t1:IntKind.i64.wrap (x+dx)=x+dx:=by rw [wrap_i64];exact wrap_in (by omega) (by omega)
      have t2:IntKind.i64.wrap (y+dy)=y+dy:=by rw [wrap_i64];exact wrap_in (by omega) (by omega)
      have t3:IntKind.i64.wrap ((st:Int)+1)=(st:Int)+1:=by rw [wrap_i64];exact wrap_in (by omega) (by omega)
      have Hd:Hid _:=hwd.symm
      have X64:In64 (x+dx):=⟨by omega,by omega⟩
      have Y64:In64 (y+dy):=⟨by omega,by omega⟩
      have HBD:Hid ((-8796093022208≤x+dx∧x+dx≤8796093022208)∧(-8796093022208≤y+dy∧y+dy≤8796093022208)):=⟨by omega,by omega⟩
      obtain⟨i2,hi2⟩: ∃ i2,i2=outI S d.t (x+dx) (y+dy) q1 q2:=⟨_,rfl⟩
      have HI2:Hid _:=hi2
      have C2:Hid (∀ w',Below w4.heap.size w4 w'→Calls Tryz.prog 28 #[ptR p, .int .i64 gn, .agg #[.int .i64 (x+dx), .int .i64 (y+dy)], .agg #[.int .i64 q1, .int .i64 q2]] w' fun e w''=>e= .returned (.int .i64 i2)∧Below w'.heap.size w' w''):=fun w' hb=>by rw [HGNO.out];exact CT.out w' d (x+dx) (y+dy) i2 hdm hb X64 Y64 hi2
      have oA:=(RBd.set 0 (.int .i64 (x+dx)) (by simp)).cell 0 _ rfl
      have RB2:=(RBd.set 0 (.int .i64 (x+dx)) (by simp)).set 1 (.int .i64 (y+dy)) (by simp)
      have oB:=RB2.cell 1 _ rfl
      have HRB2:Hid (Row (((wd.setCell ⟨bb,0,none⟩ (.int .i64 (x+dx))).setCell ⟨bb,1,none⟩ (.int .i64 (y+dy))).drew) bb [.int .i64 (x+dx), .int .i64 (y+dy)]):=RB2.drew
      have RAd:=HPA.out.below Kd lpah
      have a0:=RAd.cell 0 _ rfl
      have a1:=RAd.cell 1 _ rfl
      have KX0:Keep (fun z=>z=bb) wd ((wd.setCell ⟨bb,0,none⟩ (.int .i64 (x+dx))).setCell ⟨bb,1,none⟩ (.int .i64 (y+dy))):=((Keep.refl (fun z=>z=bb) wd).set (p:=⟨bb,0,none⟩) (Or.inl rfl) _).set (p:=⟨bb,1,none⟩) (Or.inl rfl) _
      have zd:=Kd.size
      have RA2:=RAd.keep KX0 (by omega) (by omega)
      have p0:=RA2.cell 0 _ rfl
      have p1':=RA2.cell 1 _ rfl
      have BD:=((Kd.setCell (p:=⟨bb,0,none⟩) lbb (.int .i64 (x+dx))).setCell (p:=⟨bb,1,none⟩) lbb (.int .i64 (y+dy))).drew
      have K79:Keep (fun z=>z=bb) w7 w9:=(kr.to k8).to b9
      have KD7:Keep (fun z=>z=bb) w7 wd:=by
       rw [hwd]
       have hge:w7.heap.size≤ob:=by rw [HOB.out];exact kr.size
       exact(K79.set (p:=⟨ob,0,none⟩) (Or.inr hge) _).set (p:=⟨ob,1,none⟩) (Or.inr hge) _
      have KDX:=((KD7.set (p:=⟨bb,0,none⟩) (Or.inl rfl) (.int .i64 (x+dx))).set (p:=⟨bb,1,none⟩) (Or.inl rfl) (.int .i64 (y+dy))).drew
      have HKDX:Hid _:=KDX
      have lbd:bb<wd.heap.size:=by rw [hwd];simp;omega
      clear HG hwd HFU hs1 hs2 hmv RA2 RAd K79 KD7 KDX KX0 RBd Rd RB2 X64 Y64 hi2
      go_wp2
      rw [Hd.out]
      clear q0 q1' g0 g1
      go_region
      clear u0 u1 f0 f1 c0 c1 t1 t2 t3
      go_wp2_with (go_at_call 28;fail)
      refine Calls.mono (C2.out _ BD) ?_
      rintro e w10 ⟨rfl,b10⟩
      have RB10:Hid (Row w10 bb [.int .i64 (x+dx), .int .i64 (y+dy)]):=HRB2.out.below b10 (by simp;exact lbd)
      have K10:=HKDX.out.to b10
      clear oA oB a0 a1 p0 p1' BD
      go_wp2
      go_roundw
      case rel=>exact⟨d,x+dx,y+dy,st+1,k',hdm,by rw [HGNO.out],by simp,by rw [HI2.out],HKK,HGN,HBD,RB10,K10⟩
      case measure=>have:=HKK.out;unfold fuelN at this;simp [Go.RowKit.intOf];split at this<;>(try split at this)<;>omega
end Go.Proofs.YtaadknpjbogkbaaGreat
