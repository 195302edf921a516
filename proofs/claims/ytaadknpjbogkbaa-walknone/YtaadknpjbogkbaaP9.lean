/-
  Joined texts, part 9:
  What walk's Find answers, over what the mesh, and goAcross, must do.
  Layer 16's law: its own mesh, and what is found in it.
  What walk's across, liesIn, lookAt, lookAtAll and start answer, over what the mesh must do
-/
import Derived.Test.YtaadknpjbogkbaaP8
import Derived.Test.YtaadknpjbogkbaaP6
import Derived.Test.YtaadknpjbogkbaaP4
import Derived.Test.YtaadknpjbogkbaaP7
namespace Go.Proofs.Ytaadknpjbogkbaa
open Go.RowKit
set_option linter.unusedVariables false
set_option maxRecDepth 100000 in
set_option maxHeartbeats 16000000 in
theorem wFind{MP:MeShape}(HSp:MeSp MP)(base pp:Nat)(S:Ms)(m:Nat)(F:Nat→Prop)(w:World)(HP:MP base pp S F w)(O:MsOk S m)(hm:m≤1000)(HGo:GoSpec MP)(f p1 p2 fuel:Int)(hf:In64 f)(h1:In64 p1)(h2:In64 p2)(h3:In64 fuel):
  Calls Try.prog 4 #[ptR pp, .int .i64 f, .agg #[.int .i64 p1, .int .i64 p2], .int .i64 fuel] w fun e w'=>FindIs (findW S f p1 p2 fuel) e∧Below w.heap.size w w':=by
 have hn1:=O.n1
 obtain⟨W,hW⟩: ∃ W,W=((w.alloc (.cells #[.int .i64 p1, .int .i64 p2] 23)).alloc (.cells #[.int .i64 0, .int .i64 0] 27)):=⟨_,rfl⟩
 have bW:Below w.heap.size w W:=by rw [hW];exact(((Below.refl _ _).alloc (Nat.le_refl _) _).alloc (by simp<;>omega) _)
 have zW:W.heap.size=w.heap.size+2:=by rw [hW];simp
 have Rp:Row W (w.heap.size) [.int .i64 p1, .int .i64 p2]:=by
  have h0:=Row.new w [.int .i64 p1, .int .i64 p2] 23
  rw [hW];exact(h0.alloc _ (by simp<;>omega))
 have lp:w.heap.size<W.heap.size:=by omega
 have Rr:Row W (w.heap.size+1) [.int .i64 0, .int .i64 0]:=by
  have h0:=Row.new (w.alloc (.cells #[.int .i64 p1, .int .i64 p2] 23)) [.int .i64 0, .int .i64 0] 27
  simp only [World.size_alloc]at h0
  rw [hW];exact h0
 have lr:w.heap.size+1<W.heap.size:=by omega
 have HW:((w.alloc (.cells #[.int .i64 p1, .int .i64 p2] 23)).alloc (.cells #[.int .i64 0, .int .i64 0] 27))=W:=hW.symm
 clear hW
 obtain⟨N,hN⟩: ∃ N,N=S.n:=⟨_,rfl⟩
 rw [←hN]at hn1
 have CS:Hid (∀ w',Below W.heap.size W w'→Calls Try.prog 9 #[ptR pp] w' fun e w''=>e= .returned (.int .i64 N)∧Below w'.heap.size w' w''):=by
  intro w' hb
  rw [hN]
  exact HSp.side base pp S m F w' (HSp.below HP (bW.trans (hb.mono (by omega)))) O hm
 obtain⟨okb,hok⟩: ∃ b,b=homeC p1 p2 N:=⟨_,rfl⟩
 obtain⟨q1,hq1⟩: ∃ X':Int,X'=if okb then p1 % N else 0:=⟨_,rfl⟩
 obtain⟨q2,hq2⟩: ∃ X':Int,X'=if okb then p2 % N else 0:=⟨_,rfl⟩
 obtain⟨ox,hox⟩: ∃ X':Int,X'=if okb then p1/N else 0:=⟨_,rfl⟩
 obtain⟨oy,hoy⟩: ∃ X':Int,X'=if okb then p2/N else 0:=⟨_,rfl⟩
 have CH:Hid (∀ w',Calls Try.prog 8 #[.agg #[.int .i64 p1, .int .i64 p2], .int .i64 N] w' fun e w''=>e= .returned (.tuple #[.agg #[.int .i64 q1, .int .i64 q2], .agg #[.int .i64 ox, .int .i64 oy], .bool okb])∧Below w'.heap.size w' w''):=fun w'=>lHome p1 p2 N w' hok hq1 hq2 hox hoy
 have HNO:Hid (okb=false→FindIs (findW S f p1 p2 fuel) (.returned (.tuple #[.int .i64 (-1), .agg #[.int .i64 0, .int .i64 0], .int .i64 0, .bool false]))):=fun hb=>by
  unfold findW
  rw [←hN,←hok,hb,if_pos rfl]
  rfl
 have HYE:Hid (okb=true→canC q1 q2=true∧(-1099511627776≤ox∧ox≤1099511627776)∧(-1099511627776≤oy∧oy≤1099511627776)∧findW S f p1 p2 fuel=match firstC S f with|none=>noFnd|some c=>endF S q1 q2 ox oy (goW S q1 q2 (fuelN fuel) c 0 0)):=fun hb=>by
  have hcan:canC p1 p2=true:=by
   rw [hb]at hok
   unfold homeC at hok
   simp at hok
   exact hok.2
  have hq:=home_can hn1 hcan
  rw [hb,if_pos rfl]at hq1 hq2 hox hoy
  rw [hq1,hq2,hox,hoy]
  refine⟨hq.1,hq.2.1,hq.2.2,?_⟩
  unfold findW
  rw [←hN,←hok,hb,if_neg (by decide)]
  cases firstC S f<;>rfl
 have HO:Hid _:=O
 have HMM:Hid _:=hm
 have HSS:Hid _:=HSp
 have HPP:Hid _:=HP
 have HG1:Hid _:=HGo
 have HF:Hid _:=hf
 have d0:=Rp.cell 0 _ rfl
 have d1:=Rp.cell 1 _ rfl
 clear hN O hm h1 h2 hok hq1 hq2 hox hoy HP HGo hf
 go_enter Try.func4,Try.ntmps4
 go_wp2
 clear HW
 have HSh:Hid (∀ w',Below W.heap.size W w'→(fun w'=>w'.cell? ⟨w.heap.size,0,none⟩=some (.int .i64 p1)∧w'.cell? ⟨w.heap.size,1,none⟩=some (.int .i64 p2)∧Below W.heap.size W w') w'):=by
  unfold Hid
  intro w' hb
  exact⟨(hb.cell (p:=⟨w.heap.size,0,none⟩) lp).trans d0,(hb.cell (p:=⟨w.heap.size,1,none⟩) lp).trans d1,hb⟩
 obtain⟨QQ,hQQ⟩: ∃ QQ:Exit→Go.Act→World→Prop,QQ=fun e act wz=>e= .normal∧ ∃ pa pc:Nat,act=⟨#[ptR pp, .int .i64 f, .agg #[.int .i64 p1, .int .i64 p2], .int .i64 fuel,undef,undef, .pointer (some ⟨w.heap.size,0,none⟩),undef, .int .i64 0, .pointer (some ⟨w.heap.size+1,0,none⟩), .int .i64 0, .bool false, .pointer (some ⟨pa,0,none⟩), .pointer (some ⟨pc,0,none⟩), .bool okb,undef,undef,undef,undef, .tuple #[.agg #[.int .i64 q1, .int .i64 q2], .agg #[.int .i64 ox, .int .i64 oy], .bool okb], .agg #[.int .i64 p1, .int .i64 p2],ptR pp, .int .i64 N, .tuple #[.agg #[.int .i64 q1, .int .i64 q2], .agg #[.int .i64 ox, .int .i64 oy], .bool okb], .agg #[.int .i64 q1, .int .i64 q2], .agg #[.int .i64 ox, .int .i64 oy], .bool okb,undef,undef,undef,undef,undef,undef,undef,undef,undef,undef,undef,undef,undef,undef,undef,undef,undef,undef,undef,undef,undef,undef,undef,undef,undef,undef,undef,undef,undef,undef,undef,undef,undef,undef,undef,undef,undef,undef,undef,undef,undef,undef], []⟩∧Row wz pa [.int .i64 q1, .int .i64 q2]∧Row wz pc [.int .i64 ox, .int .i64 oy]∧Below W.heap.size W wz∧W.heap.size≤pa∧pa<wz.heap.size∧W.heap.size≤pc∧pc<wz.heap.size:=⟨_,rfl⟩
 have HQQ:Hid _:=hQQ
 clear hQQ
 refine wp_mono (Q:=QQ) ?_ ?_
 ·refine wp_region_held_drew (S:=fun w'=>w'.cell? ⟨w.heap.size,0,none⟩=some (.int .i64 p1)∧w'.cell? ⟨w.heap.size,1,none⟩=some (.int .i64 p2)∧Below W.heap.size W w') (by kernel_rfl) ?_ (fun hHeld=>?_)
  ·exact HSh.out _ (Below.refl _ _).drew
  refine tQ 0 ?_
  simp only [Act.put,ps1,ps2,ps3]
  refine tQ 1 ?_
  simp only [Act.put,ps1,ps2,ps3]
  generalize W.drew=X0h at hHeld ⊢
  have gw:W.heap.size≤X0h.heap.size:=hHeld.2.2.size
  refine wpAnyH_ready (rs:= [2,8,9]) (by kernel_rfl) (by simp) (AllReadyH.cons (i:=2) rfl (fun Kc hK=>?_) (AllReadyH.cons (i:=8) rfl (fun Kc hK=>?_) (AllReadyH.cons (i:=9) rfl (fun Kc hK=>?_) AllReadyH.nil)))
  ·skip
   go_simp
   (go_at_call 9;refine Calls.mono (CS.out _ hHeld.2.2) ?_;rintro e X1h ⟨rfl,e1h⟩)
   refine hK.out _ _ (HSh.out _ (hHeld.2.2.trans (e1h.mono hHeld.2.2.size))) (fun hHeld=>?_)
   clear hK Kc
   replace gw:=Nat.le_trans gw e1h.size
   refine wpAnyH_ready (rs:= [3,8,9]) (by kernel_rfl) (by simp) (AllReadyH.cons (i:=3) rfl (fun Kc hK=>?_) (AllReadyH.cons (i:=8) rfl (fun Kc hK=>?_) (AllReadyH.cons (i:=9) rfl (fun Kc hK=>?_) AllReadyH.nil)))
   ·skip
    go_simp
    (go_at_call 8;refine Calls.mono (CH.out _) ?_;rintro e X2h ⟨rfl,e2h⟩)
    refine hK.out _ _ (HSh.out _ (hHeld.2.2.trans (e2h.mono hHeld.2.2.size))) (fun hHeld=>?_)
    clear hK Kc
    replace gw:=Nat.le_trans gw e2h.size
    refine tQ 4 ?_
    simp only [Act.put,ps1,ps2,ps3]
    refine tQ 5 ?_
    simp only [Act.put,ps1,ps2,ps3]
    refine tQ 6 ?_
    simp only [Act.put,ps1,ps2,ps3]
    refine tQ 7 ?_
    simp only [Act.put,ps1,ps2,ps3]
    refine wpAnyH_ready (rs:= [8,9]) (by kernel_rfl) (by simp) (AllReadyH.cons (i:=8) rfl (fun Kc hK=>?_) (AllReadyH.cons (i:=9) rfl (fun Kc hK=>?_) AllReadyH.nil))
    ·skip
     go_simp
     refine hK.out _ _ (HSh.out _ (hHeld.2.2.alloc hHeld.2.2.size _)) (fun hHeld=>?_)
     clear hK Kc
     have ypa:Row (X2h.alloc (.cells #[.int .i64 0, .int .i64 0] 23)) X2h.heap.size [.int .i64 0, .int .i64 0]:=Row.new X2h [.int .i64 0, .int .i64 0] 23
     have lpa:X2h.heap.size<(X2h.alloc (.cells #[.int .i64 0, .int .i64 0] 23)).heap.size:=by simp
     have gpa:W.heap.size≤X2h.heap.size:=gw
     replace gw:W.heap.size≤(X2h.alloc (.cells #[.int .i64 0, .int .i64 0] 23)).heap.size:=by simp;omega
     generalize X2h.alloc (.cells #[.int .i64 0, .int .i64 0] 23)=X3h at ypa lpa gw hHeld ⊢
     generalize X2h.heap.size=pa at ypa lpa gpa  ⊢
     refine tcl 9 fun Kc hK=>?_
     go_simp
     refine hK.out _ _ (HSh.out _ (hHeld.2.2.alloc hHeld.2.2.size _)) (fun hHeld=>?_)
     clear hK Kc
     have ypc:Row (X3h.alloc (.cells #[.int .i64 0, .int .i64 0] 27)) X3h.heap.size [.int .i64 0, .int .i64 0]:=Row.new X3h [.int .i64 0, .int .i64 0] 27
     have lpc:X3h.heap.size<(X3h.alloc (.cells #[.int .i64 0, .int .i64 0] 27)).heap.size:=by simp
     have gpc:W.heap.size≤X3h.heap.size:=gw
     have dpapc:pa<X3h.heap.size:=lpa
     replace ypa:=ypa.alloc (.cells #[.int .i64 0, .int .i64 0] 27) lpa
     replace lpa:pa<(X3h.alloc (.cells #[.int .i64 0, .int .i64 0] 27)).heap.size:=by simp;omega
     replace gw:W.heap.size≤(X3h.alloc (.cells #[.int .i64 0, .int .i64 0] 27)).heap.size:=by simp;omega
     generalize X3h.alloc (.cells #[.int .i64 0, .int .i64 0] 27)=X4h at ypa lpa ypc lpc gw hHeld ⊢
     generalize X3h.heap.size=pc at ypc lpc gpc dpapc ⊢
     have sc0:=ypa.cell 0 _ rfl
     have sf0:=ypa.free 0 (by simp)
     have sc1:=ypa.cell 1 _ rfl
     have sf1:=ypa.free 1 (by simp)
     refine tcl 10 fun Kc hK=>?_
     go_simp
     refine hK.out _ _ (HSh.out _ (((hHeld.2.2.setCell gpa _).setCell gpa _))) (fun hHeld=>?_)
     clear hK Kc sc0 sf0 sc1 sf1
     have zpa:=((ypa.set 0 (.int .i64 q1) (by simp)).set 1 (.int .i64 q2) (by simp))
     have vpcpa:=Row.keep ypc (((Keep.refl (fun z=>z=pa) _).set (p:=⟨pa,0,none⟩) (Or.inl rfl) (.int .i64 q1)).set (p:=⟨pa,1,none⟩) (Or.inl rfl) (.int .i64 q2)) (by first|exact lpc|simpa using lpc) (by omega)
     have sc0:=vpcpa.cell 0 _ rfl
     have sf0:=vpcpa.free 0 (by simp)
     have sc1:=vpcpa.cell 1 _ rfl
     have sf1:=vpcpa.free 1 (by simp)
     refine tcl 11 fun Kc hK=>?_
     go_simp
     refine hK.out _ _ (HSh.out _ (((hHeld.2.2.setCell gpc _).setCell gpc _))) (fun hHeld=>?_)
     clear hK Kc sc0 sf0 sc1 sf1
     have zpc:=((vpcpa.set 0 (.int .i64 ox) (by simp)).set 1 (.int .i64 oy) (by simp))
     have vpapc:=Row.keep zpa (((Keep.refl (fun z=>z=pc) _).set (p:=⟨pc,0,none⟩) (Or.inl rfl) (.int .i64 ox)).set (p:=⟨pc,1,none⟩) (Or.inl rfl) (.int .i64 oy)) (by first|exact lpa|simpa using lpa) (by omega)
     refine tQ 12 ?_
     simp only [Act.put,ps1,ps2,ps3]
     refine wpAnyH_done (by kernel_rfl) ?_ _
     rw [HQQ.out]
     exact⟨rfl,pa,pc,rfl,vpapc,zpc,hHeld.2.2,gpa,by simp only [World.size_setCell];exact lpa,gpc,by simp only [World.size_setCell];exact lpc⟩
    ·skip
     go_simp
     refine hK.out _ _ (HSh.out _ (hHeld.2.2.alloc hHeld.2.2.size _)) (fun hHeld=>?_)
     clear hK Kc
     have ypc:Row (X2h.alloc (.cells #[.int .i64 0, .int .i64 0] 27)) X2h.heap.size [.int .i64 0, .int .i64 0]:=Row.new X2h [.int .i64 0, .int .i64 0] 27
     have lpc:X2h.heap.size<(X2h.alloc (.cells #[.int .i64 0, .int .i64 0] 27)).heap.size:=by simp
     have gpc:W.heap.size≤X2h.heap.size:=gw
     replace gw:W.heap.size≤(X2h.alloc (.cells #[.int .i64 0, .int .i64 0] 27)).heap.size:=by simp;omega
     generalize X2h.alloc (.cells #[.int .i64 0, .int .i64 0] 27)=X5h at ypc lpc gw hHeld ⊢
     generalize X2h.heap.size=pc at ypc lpc gpc  ⊢
     refine tcl 8 fun Kc hK=>?_
     go_simp
     refine hK.out _ _ (HSh.out _ (hHeld.2.2.alloc hHeld.2.2.size _)) (fun hHeld=>?_)
     clear hK Kc
     have ypa:Row (X5h.alloc (.cells #[.int .i64 0, .int .i64 0] 23)) X5h.heap.size [.int .i64 0, .int .i64 0]:=Row.new X5h [.int .i64 0, .int .i64 0] 23
     have lpa:X5h.heap.size<(X5h.alloc (.cells #[.int .i64 0, .int .i64 0] 23)).heap.size:=by simp
     have gpa:W.heap.size≤X5h.heap.size:=gw
     have dpcpa:pc<X5h.heap.size:=lpc
     replace ypc:=ypc.alloc (.cells #[.int .i64 0, .int .i64 0] 23) lpc
     replace lpc:pc<(X5h.alloc (.cells #[.int .i64 0, .int .i64 0] 23)).heap.size:=by simp;omega
     replace gw:W.heap.size≤(X5h.alloc (.cells #[.int .i64 0, .int .i64 0] 23)).heap.size:=by simp;omega
     generalize X5h.alloc (.cells #[.int .i64 0, .int .i64 0] 23)=X6h at ypc lpc ypa lpa gw hHeld ⊢
     generalize X5h.heap.size=pa at ypa lpa gpa dpcpa ⊢
     have sc0:=ypa.cell 0 _ rfl
     have sf0:=ypa.free 0 (by simp)
     have sc1:=ypa.cell 1 _ rfl
     have sf1:=ypa.free 1 (by simp)
     refine tcl 10 fun Kc hK=>?_
     go_simp
     refine hK.out _ _ (HSh.out _ (((hHeld.2.2.setCell gpa _).setCell gpa _))) (fun hHeld=>?_)
     clear hK Kc sc0 sf0 sc1 sf1
     have zpa:=((ypa.set 0 (.int .i64 q1) (by simp)).set 1 (.int .i64 q2) (by simp))
     have vpcpa:=Row.keep ypc (((Keep.refl (fun z=>z=pa) _).set (p:=⟨pa,0,none⟩) (Or.inl rfl) (.int .i64 q1)).set (p:=⟨pa,1,none⟩) (Or.inl rfl) (.int .i64 q2)) (by first|exact lpc|simpa using lpc) (by omega)
     have sc0:=vpcpa.cell 0 _ rfl
     have sf0:=vpcpa.free 0 (by simp)
     have sc1:=vpcpa.cell 1 _ rfl
     have sf1:=vpcpa.free 1 (by simp)
     refine tcl 11 fun Kc hK=>?_
     go_simp
     refine hK.out _ _ (HSh.out _ (((hHeld.2.2.setCell gpc _).setCell gpc _))) (fun hHeld=>?_)
     clear hK Kc sc0 sf0 sc1 sf1
     have zpc:=((vpcpa.set 0 (.int .i64 ox) (by simp)).set 1 (.int .i64 oy) (by simp))
     have vpapc:=Row.keep zpa (((Keep.refl (fun z=>z=pc) _).set (p:=⟨pc,0,none⟩) (Or.inl rfl) (.int .i64 ox)).set (p:=⟨pc,1,none⟩) (Or.inl rfl) (.int .i64 oy)) (by first|exact lpa|simpa using lpa) (by omega)
     refine tQ 12 ?_
     simp only [Act.put,ps1,ps2,ps3]
     refine wpAnyH_done (by kernel_rfl) ?_ _
     rw [HQQ.out]
     exact⟨rfl,pa,pc,rfl,vpapc,zpc,hHeld.2.2,gpa,by simp only [World.size_setCell];exact lpa,gpc,by simp only [World.size_setCell];exact lpc⟩
   ·skip
    go_simp
    refine hK.out _ _ (HSh.out _ (hHeld.2.2.alloc hHeld.2.2.size _)) (fun hHeld=>?_)
    clear hK Kc
    have ypa:Row (X1h.alloc (.cells #[.int .i64 0, .int .i64 0] 23)) X1h.heap.size [.int .i64 0, .int .i64 0]:=Row.new X1h [.int .i64 0, .int .i64 0] 23
    have lpa:X1h.heap.size<(X1h.alloc (.cells #[.int .i64 0, .int .i64 0] 23)).heap.size:=by simp
    have gpa:W.heap.size≤X1h.heap.size:=gw
    replace gw:W.heap.size≤(X1h.alloc (.cells #[.int .i64 0, .int .i64 0] 23)).heap.size:=by simp;omega
    generalize X1h.alloc (.cells #[.int .i64 0, .int .i64 0] 23)=X7h at ypa lpa gw hHeld ⊢
    generalize X1h.heap.size=pa at ypa lpa gpa  ⊢
    refine wpAnyH_ready (rs:= [3,9]) (by kernel_rfl) (by simp) (AllReadyH.cons (i:=3) rfl (fun Kc hK=>?_) (AllReadyH.cons (i:=9) rfl (fun Kc hK=>?_) AllReadyH.nil))
    ·skip
     go_simp
     (go_at_call 8;refine Calls.mono (CH.out _) ?_;rintro e X8h ⟨rfl,e8h⟩)
     refine hK.out _ _ (HSh.out _ (hHeld.2.2.trans (e8h.mono hHeld.2.2.size))) (fun hHeld=>?_)
     clear hK Kc
     replace ypa:=ypa.below e8h lpa
     replace lpa:=Nat.lt_of_lt_of_le lpa e8h.size
     replace gw:=Nat.le_trans gw e8h.size
     refine tQ 4 ?_
     simp only [Act.put,ps1,ps2,ps3]
     refine tQ 5 ?_
     simp only [Act.put,ps1,ps2,ps3]
     refine tQ 6 ?_
     simp only [Act.put,ps1,ps2,ps3]
     refine tQ 7 ?_
     simp only [Act.put,ps1,ps2,ps3]
     refine tcl 9 fun Kc hK=>?_
     go_simp
     refine hK.out _ _ (HSh.out _ (hHeld.2.2.alloc hHeld.2.2.size _)) (fun hHeld=>?_)
     clear hK Kc
     have ypc:Row (X8h.alloc (.cells #[.int .i64 0, .int .i64 0] 27)) X8h.heap.size [.int .i64 0, .int .i64 0]:=Row.new X8h [.int .i64 0, .int .i64 0] 27
     have lpc:X8h.heap.size<(X8h.alloc (.cells #[.int .i64 0, .int .i64 0] 27)).heap.size:=by simp
     have gpc:W.heap.size≤X8h.heap.size:=gw
     have dpapc:pa<X8h.heap.size:=lpa
     replace ypa:=ypa.alloc (.cells #[.int .i64 0, .int .i64 0] 27) lpa
     replace lpa:pa<(X8h.alloc (.cells #[.int .i64 0, .int .i64 0] 27)).heap.size:=by simp;omega
     replace gw:W.heap.size≤(X8h.alloc (.cells #[.int .i64 0, .int .i64 0] 27)).heap.size:=by simp;omega
     generalize X8h.alloc (.cells #[.int .i64 0, .int .i64 0] 27)=X9h at ypa lpa ypc lpc gw hHeld ⊢
     generalize X8h.heap.size=pc at ypc lpc gpc dpapc ⊢
     have sc0:=ypa.cell 0 _ rfl
     have sf0:=ypa.free 0 (by simp)
     have sc1:=ypa.cell 1 _ rfl
     have sf1:=ypa.free 1 (by simp)
     refine tcl 10 fun Kc hK=>?_
     go_simp
     refine hK.out _ _ (HSh.out _ (((hHeld.2.2.setCell gpa _).setCell gpa _))) (fun hHeld=>?_)
     clear hK Kc sc0 sf0 sc1 sf1
     have zpa:=((ypa.set 0 (.int .i64 q1) (by simp)).set 1 (.int .i64 q2) (by simp))
     have vpcpa:=Row.keep ypc (((Keep.refl (fun z=>z=pa) _).set (p:=⟨pa,0,none⟩) (Or.inl rfl) (.int .i64 q1)).set (p:=⟨pa,1,none⟩) (Or.inl rfl) (.int .i64 q2)) (by first|exact lpc|simpa using lpc) (by omega)
     have sc0:=vpcpa.cell 0 _ rfl
     have sf0:=vpcpa.free 0 (by simp)
     have sc1:=vpcpa.cell 1 _ rfl
     have sf1:=vpcpa.free 1 (by simp)
     refine tcl 11 fun Kc hK=>?_
     go_simp
     refine hK.out _ _ (HSh.out _ (((hHeld.2.2.setCell gpc _).setCell gpc _))) (fun hHeld=>?_)
     clear hK Kc sc0 sf0 sc1 sf1
     have zpc:=((vpcpa.set 0 (.int .i64 ox) (by simp)).set 1 (.int .i64 oy) (by simp))
     have vpapc:=Row.keep zpa (((Keep.refl (fun z=>z=pc) _).set (p:=⟨pc,0,none⟩) (Or.inl rfl) (.int .i64 ox)).set (p:=⟨pc,1,none⟩) (Or.inl rfl) (.int .i64 oy)) (by first|exact lpa|simpa using lpa) (by omega)
     refine tQ 12 ?_
     simp only [Act.put,ps1,ps2,ps3]
     refine wpAnyH_done (by kernel_rfl) ?_ _
     rw [HQQ.out]
     exact⟨rfl,pa,pc,rfl,vpapc,zpc,hHeld.2.2,gpa,by simp only [World.size_setCell];exact lpa,gpc,by simp only [World.size_setCell];exact lpc⟩
    ·skip
     go_simp
     refine hK.out _ _ (HSh.out _ (hHeld.2.2.alloc hHeld.2.2.size _)) (fun hHeld=>?_)
     clear hK Kc
     have ypc:Row (X7h.alloc (.cells #[.int .i64 0, .int .i64 0] 27)) X7h.heap.size [.int .i64 0, .int .i64 0]:=Row.new X7h [.int .i64 0, .int .i64 0] 27
     have lpc:X7h.heap.size<(X7h.alloc (.cells #[.int .i64 0, .int .i64 0] 27)).heap.size:=by simp
     have gpc:W.heap.size≤X7h.heap.size:=gw
     have dpapc:pa<X7h.heap.size:=lpa
     replace ypa:=ypa.alloc (.cells #[.int .i64 0, .int .i64 0] 27) lpa
     replace lpa:pa<(X7h.alloc (.cells #[.int .i64 0, .int .i64 0] 27)).heap.size:=by simp;omega
     replace gw:W.heap.size≤(X7h.alloc (.cells #[.int .i64 0, .int .i64 0] 27)).heap.size:=by simp;omega
     generalize X7h.alloc (.cells #[.int .i64 0, .int .i64 0] 27)=X10h at ypa lpa ypc lpc gw hHeld ⊢
     generalize X7h.heap.size=pc at ypc lpc gpc dpapc ⊢
     refine tcl 3 fun Kc hK=>?_
     go_simp
     (go_at_call 8;refine Calls.mono (CH.out _) ?_;rintro e X11h ⟨rfl,e11h⟩)
     refine hK.out _ _ (HSh.out _ (hHeld.2.2.trans (e11h.mono hHeld.2.2.size))) (fun hHeld=>?_)
     clear hK Kc
     replace ypa:=ypa.below e11h lpa
     replace lpa:=Nat.lt_of_lt_of_le lpa e11h.size
     replace ypc:=ypc.below e11h lpc
     replace lpc:=Nat.lt_of_lt_of_le lpc e11h.size
     replace gw:=Nat.le_trans gw e11h.size
     refine tQ 4 ?_
     simp only [Act.put,ps1,ps2,ps3]
     refine tQ 5 ?_
     simp only [Act.put,ps1,ps2,ps3]
     refine tQ 6 ?_
     simp only [Act.put,ps1,ps2,ps3]
     refine tQ 7 ?_
     simp only [Act.put,ps1,ps2,ps3]
     have sc0:=ypa.cell 0 _ rfl
     have sf0:=ypa.free 0 (by simp)
     have sc1:=ypa.cell 1 _ rfl
     have sf1:=ypa.free 1 (by simp)
     refine tcl 10 fun Kc hK=>?_
     go_simp
     refine hK.out _ _ (HSh.out _ (((hHeld.2.2.setCell gpa _).setCell gpa _))) (fun hHeld=>?_)
     clear hK Kc sc0 sf0 sc1 sf1
     have zpa:=((ypa.set 0 (.int .i64 q1) (by simp)).set 1 (.int .i64 q2) (by simp))
     have vpcpa:=Row.keep ypc (((Keep.refl (fun z=>z=pa) _).set (p:=⟨pa,0,none⟩) (Or.inl rfl) (.int .i64 q1)).set (p:=⟨pa,1,none⟩) (Or.inl rfl) (.int .i64 q2)) (by first|exact lpc|simpa using lpc) (by omega)
     have sc0:=vpcpa.cell 0 _ rfl
     have sf0:=vpcpa.free 0 (by simp)
     have sc1:=vpcpa.cell 1 _ rfl
     have sf1:=vpcpa.free 1 (by simp)
     refine tcl 11 fun Kc hK=>?_
     go_simp
     refine hK.out _ _ (HSh.out _ (((hHeld.2.2.setCell gpc _).setCell gpc _))) (fun hHeld=>?_)
     clear hK Kc sc0 sf0 sc1 sf1
     have zpc:=((vpcpa.set 0 (.int .i64 ox) (by simp)).set 1 (.int .i64 oy) (by simp))
     have vpapc:=Row.keep zpa (((Keep.refl (fun z=>z=pc) _).set (p:=⟨pc,0,none⟩) (Or.inl rfl) (.int .i64 ox)).set (p:=⟨pc,1,none⟩) (Or.inl rfl) (.int .i64 oy)) (by first|exact lpa|simpa using lpa) (by omega)
     refine tQ 12 ?_
     simp only [Act.put,ps1,ps2,ps3]
     refine wpAnyH_done (by kernel_rfl) ?_ _
     rw [HQQ.out]
     exact⟨rfl,pa,pc,rfl,vpapc,zpc,hHeld.2.2,gpa,by simp only [World.size_setCell];exact lpa,gpc,by simp only [World.size_setCell];exact lpc⟩
   ·skip
    go_simp
    refine hK.out _ _ (HSh.out _ (hHeld.2.2.alloc hHeld.2.2.size _)) (fun hHeld=>?_)
    clear hK Kc
    have ypc:Row (X1h.alloc (.cells #[.int .i64 0, .int .i64 0] 27)) X1h.heap.size [.int .i64 0, .int .i64 0]:=Row.new X1h [.int .i64 0, .int .i64 0] 27
    have lpc:X1h.heap.size<(X1h.alloc (.cells #[.int .i64 0, .int .i64 0] 27)).heap.size:=by simp
    have gpc:W.heap.size≤X1h.heap.size:=gw
    replace gw:W.heap.size≤(X1h.alloc (.cells #[.int .i64 0, .int .i64 0] 27)).heap.size:=by simp;omega
    generalize X1h.alloc (.cells #[.int .i64 0, .int .i64 0] 27)=X12h at ypc lpc gw hHeld ⊢
    generalize X1h.heap.size=pc at ypc lpc gpc  ⊢
    refine wpAnyH_ready (rs:= [3,8]) (by kernel_rfl) (by simp) (AllReadyH.cons (i:=3) rfl (fun Kc hK=>?_) (AllReadyH.cons (i:=8) rfl (fun Kc hK=>?_) AllReadyH.nil))
    ·skip
     go_simp
     (go_at_call 8;refine Calls.mono (CH.out _) ?_;rintro e X13h ⟨rfl,e13h⟩)
     refine hK.out _ _ (HSh.out _ (hHeld.2.2.trans (e13h.mono hHeld.2.2.size))) (fun hHeld=>?_)
     clear hK Kc
     replace ypc:=ypc.below e13h lpc
     replace lpc:=Nat.lt_of_lt_of_le lpc e13h.size
     replace gw:=Nat.le_trans gw e13h.size
     refine tQ 4 ?_
     simp only [Act.put,ps1,ps2,ps3]
     refine tQ 5 ?_
     simp only [Act.put,ps1,ps2,ps3]
     refine tQ 6 ?_
     simp only [Act.put,ps1,ps2,ps3]
     refine tQ 7 ?_
     simp only [Act.put,ps1,ps2,ps3]
     refine tcl 8 fun Kc hK=>?_
     go_simp
     refine hK.out _ _ (HSh.out _ (hHeld.2.2.alloc hHeld.2.2.size _)) (fun hHeld=>?_)
     clear hK Kc
     have ypa:Row (X13h.alloc (.cells #[.int .i64 0, .int .i64 0] 23)) X13h.heap.size [.int .i64 0, .int .i64 0]:=Row.new X13h [.int .i64 0, .int .i64 0] 23
     have lpa:X13h.heap.size<(X13h.alloc (.cells #[.int .i64 0, .int .i64 0] 23)).heap.size:=by simp
     have gpa:W.heap.size≤X13h.heap.size:=gw
     have dpcpa:pc<X13h.heap.size:=lpc
     replace ypc:=ypc.alloc (.cells #[.int .i64 0, .int .i64 0] 23) lpc
     replace lpc:pc<(X13h.alloc (.cells #[.int .i64 0, .int .i64 0] 23)).heap.size:=by simp;omega
     replace gw:W.heap.size≤(X13h.alloc (.cells #[.int .i64 0, .int .i64 0] 23)).heap.size:=by simp;omega
     generalize X13h.alloc (.cells #[.int .i64 0, .int .i64 0] 23)=X14h at ypc lpc ypa lpa gw hHeld ⊢
     generalize X13h.heap.size=pa at ypa lpa gpa dpcpa ⊢
     have sc0:=ypa.cell 0 _ rfl
     have sf0:=ypa.free 0 (by simp)
     have sc1:=ypa.cell 1 _ rfl
     have sf1:=ypa.free 1 (by simp)
     refine tcl 10 fun Kc hK=>?_
     go_simp
     refine hK.out _ _ (HSh.out _ (((hHeld.2.2.setCell gpa _).setCell gpa _))) (fun hHeld=>?_)
     clear hK Kc sc0 sf0 sc1 sf1
     have zpa:=((ypa.set 0 (.int .i64 q1) (by simp)).set 1 (.int .i64 q2) (by simp))
     have vpcpa:=Row.keep ypc (((Keep.refl (fun z=>z=pa) _).set (p:=⟨pa,0,none⟩) (Or.inl rfl) (.int .i64 q1)).set (p:=⟨pa,1,none⟩) (Or.inl rfl) (.int .i64 q2)) (by first|exact lpc|simpa using lpc) (by omega)
     have sc0:=vpcpa.cell 0 _ rfl
     have sf0:=vpcpa.free 0 (by simp)
     have sc1:=vpcpa.cell 1 _ rfl
     have sf1:=vpcpa.free 1 (by simp)
     refine tcl 11 fun Kc hK=>?_
     go_simp
     refine hK.out _ _ (HSh.out _ (((hHeld.2.2.setCell gpc _).setCell gpc _))) (fun hHeld=>?_)
     clear hK Kc sc0 sf0 sc1 sf1
     have zpc:=((vpcpa.set 0 (.int .i64 ox) (by simp)).set 1 (.int .i64 oy) (by simp))
     have vpapc:=Row.keep zpa (((Keep.refl (fun z=>z=pc) _).set (p:=⟨pc,0,none⟩) (Or.inl rfl) (.int .i64 ox)).set (p:=⟨pc,1,none⟩) (Or.inl rfl) (.int .i64 oy)) (by first|exact lpa|simpa using lpa) (by omega)
     refine tQ 12 ?_
     simp only [Act.put,ps1,ps2,ps3]
     refine wpAnyH_done (by kernel_rfl) ?_ _
     rw [HQQ.out]
     exact⟨rfl,pa,pc,rfl,vpapc,zpc,hHeld.2.2,gpa,by simp only [World.size_setCell];exact lpa,gpc,by simp only [World.size_setCell];exact lpc⟩
    ·skip
     go_simp
     refine hK.out _ _ (HSh.out _ (hHeld.2.2.alloc hHeld.2.2.size _)) (fun hHeld=>?_)
     clear hK Kc
     have ypa:Row (X12h.alloc (.cells #[.int .i64 0, .int .i64 0] 23)) X12h.heap.size [.int .i64 0, .int .i64 0]:=Row.new X12h [.int .i64 0, .int .i64 0] 23
     have lpa:X12h.heap.size<(X12h.alloc (.cells #[.int .i64 0, .int .i64 0] 23)).heap.size:=by simp
     have gpa:W.heap.size≤X12h.heap.size:=gw
     have dpcpa:pc<X12h.heap.size:=lpc
     replace ypc:=ypc.alloc (.cells #[.int .i64 0, .int .i64 0] 23) lpc
     replace lpc:pc<(X12h.alloc (.cells #[.int .i64 0, .int .i64 0] 23)).heap.size:=by simp;omega
     replace gw:W.heap.size≤(X12h.alloc (.cells #[.int .i64 0, .int .i64 0] 23)).heap.size:=by simp;omega
     generalize X12h.alloc (.cells #[.int .i64 0, .int .i64 0] 23)=X15h at ypc lpc ypa lpa gw hHeld ⊢
     generalize X12h.heap.size=pa at ypa lpa gpa dpcpa ⊢
     refine tcl 3 fun Kc hK=>?_
     go_simp
     (go_at_call 8;refine Calls.mono (CH.out _) ?_;rintro e X16h ⟨rfl,e16h⟩)
     refine hK.out _ _ (HSh.out _ (hHeld.2.2.trans (e16h.mono hHeld.2.2.size))) (fun hHeld=>?_)
     clear hK Kc
     replace ypc:=ypc.below e16h lpc
     replace lpc:=Nat.lt_of_lt_of_le lpc e16h.size
     replace ypa:=ypa.below e16h lpa
     replace lpa:=Nat.lt_of_lt_of_le lpa e16h.size
     replace gw:=Nat.le_trans gw e16h.size
     refine tQ 4 ?_
     simp only [Act.put,ps1,ps2,ps3]
     refine tQ 5 ?_
     simp only [Act.put,ps1,ps2,ps3]
     refine tQ 6 ?_
     simp only [Act.put,ps1,ps2,ps3]
     refine tQ 7 ?_
     simp only [Act.put,ps1,ps2,ps3]
     have sc0:=ypa.cell 0 _ rfl
     have sf0:=ypa.free 0 (by simp)
     have sc1:=ypa.cell 1 _ rfl
     have sf1:=ypa.free 1 (by simp)
     refine tcl 10 fun Kc hK=>?_
     go_simp
     refine hK.out _ _ (HSh.out _ (((hHeld.2.2.setCell gpa _).setCell gpa _))) (fun hHeld=>?_)
     clear hK Kc sc0 sf0 sc1 sf1
     have zpa:=((ypa.set 0 (.int .i64 q1) (by simp)).set 1 (.int .i64 q2) (by simp))
     have vpcpa:=Row.keep ypc (((Keep.refl (fun z=>z=pa) _).set (p:=⟨pa,0,none⟩) (Or.inl rfl) (.int .i64 q1)).set (p:=⟨pa,1,none⟩) (Or.inl rfl) (.int .i64 q2)) (by first|exact lpc|simpa using lpc) (by omega)
     have sc0:=vpcpa.cell 0 _ rfl
     have sf0:=vpcpa.free 0 (by simp)
     have sc1:=vpcpa.cell 1 _ rfl
     have sf1:=vpcpa.free 1 (by simp)
     refine tcl 11 fun Kc hK=>?_
     go_simp
     refine hK.out _ _ (HSh.out _ (((hHeld.2.2.setCell gpc _).setCell gpc _))) (fun hHeld=>?_)
     clear hK Kc sc0 sf0 sc1 sf1
     have zpc:=((vpcpa.set 0 (.int .i64 ox) (by simp)).set 1 (.int .i64 oy) (by simp))
     have vpapc:=Row.keep zpa (((Keep.refl (fun z=>z=pc) _).set (p:=⟨pc,0,none⟩) (Or.inl rfl) (.int .i64 ox)).set (p:=⟨pc,1,none⟩) (Or.inl rfl) (.int .i64 oy)) (by first|exact lpa|simpa using lpa) (by omega)
     refine tQ 12 ?_
     simp only [Act.put,ps1,ps2,ps3]
     refine wpAnyH_done (by kernel_rfl) ?_ _
     rw [HQQ.out]
     exact⟨rfl,pa,pc,rfl,vpapc,zpc,hHeld.2.2,gpa,by simp only [World.size_setCell];exact lpa,gpc,by simp only [World.size_setCell];exact lpc⟩
  ·skip
   go_simp
   refine hK.out _ _ (HSh.out _ (hHeld.2.2.alloc hHeld.2.2.size _)) (fun hHeld=>?_)
   clear hK Kc
   have ypa:Row (X0h.alloc (.cells #[.int .i64 0, .int .i64 0] 23)) X0h.heap.size [.int .i64 0, .int .i64 0]:=Row.new X0h [.int .i64 0, .int .i64 0] 23
   have lpa:X0h.heap.size<(X0h.alloc (.cells #[.int .i64 0, .int .i64 0] 23)).heap.size:=by simp
   have gpa:W.heap.size≤X0h.heap.size:=gw
   replace gw:W.heap.size≤(X0h.alloc (.cells #[.int .i64 0, .int .i64 0] 23)).heap.size:=by simp;omega
   generalize X0h.alloc (.cells #[.int .i64 0, .int .i64 0] 23)=X17h at ypa lpa gw hHeld ⊢
   generalize X0h.heap.size=pa at ypa lpa gpa  ⊢
   refine wpAnyH_ready (rs:= [2,9]) (by kernel_rfl) (by simp) (AllReadyH.cons (i:=2) rfl (fun Kc hK=>?_) (AllReadyH.cons (i:=9) rfl (fun Kc hK=>?_) AllReadyH.nil))
   ·skip
    go_simp
    (go_at_call 9;refine Calls.mono (CS.out _ hHeld.2.2) ?_;rintro e X18h ⟨rfl,e18h⟩)
    refine hK.out _ _ (HSh.out _ (hHeld.2.2.trans (e18h.mono hHeld.2.2.size))) (fun hHeld=>?_)
    clear hK Kc
    replace ypa:=ypa.below e18h lpa
    replace lpa:=Nat.lt_of_lt_of_le lpa e18h.size
    replace gw:=Nat.le_trans gw e18h.size
    refine wpAnyH_ready (rs:= [3,9]) (by kernel_rfl) (by simp) (AllReadyH.cons (i:=3) rfl (fun Kc hK=>?_) (AllReadyH.cons (i:=9) rfl (fun Kc hK=>?_) AllReadyH.nil))
    ·skip
     go_simp
     (go_at_call 8;refine Calls.mono (CH.out _) ?_;rintro e X19h ⟨rfl,e19h⟩)
     refine hK.out _ _ (HSh.out _ (hHeld.2.2.trans (e19h.mono hHeld.2.2.size))) (fun hHeld=>?_)
     clear hK Kc
     replace ypa:=ypa.below e19h lpa
     replace lpa:=Nat.lt_of_lt_of_le lpa e19h.size
     replace gw:=Nat.le_trans gw e19h.size
     refine tQ 4 ?_
     simp only [Act.put,ps1,ps2,ps3]
     refine tQ 5 ?_
     simp only [Act.put,ps1,ps2,ps3]
     refine tQ 6 ?_
     simp only [Act.put,ps1,ps2,ps3]
     refine tQ 7 ?_
     simp only [Act.put,ps1,ps2,ps3]
     refine tcl 9 fun Kc hK=>?_
     go_simp
     refine hK.out _ _ (HSh.out _ (hHeld.2.2.alloc hHeld.2.2.size _)) (fun hHeld=>?_)
     clear hK Kc
     have ypc:Row (X19h.alloc (.cells #[.int .i64 0, .int .i64 0] 27)) X19h.heap.size [.int .i64 0, .int .i64 0]:=Row.new X19h [.int .i64 0, .int .i64 0] 27
     have lpc:X19h.heap.size<(X19h.alloc (.cells #[.int .i64 0, .int .i64 0] 27)).heap.size:=by simp
     have gpc:W.heap.size≤X19h.heap.size:=gw
     have dpapc:pa<X19h.heap.size:=lpa
     replace ypa:=ypa.alloc (.cells #[.int .i64 0, .int .i64 0] 27) lpa
     replace lpa:pa<(X19h.alloc (.cells #[.int .i64 0, .int .i64 0] 27)).heap.size:=by simp;omega
     replace gw:W.heap.size≤(X19h.alloc (.cells #[.int .i64 0, .int .i64 0] 27)).heap.size:=by simp;omega
     generalize X19h.alloc (.cells #[.int .i64 0, .int .i64 0] 27)=X20h at ypa lpa ypc lpc gw hHeld ⊢
     generalize X19h.heap.size=pc at ypc lpc gpc dpapc ⊢
     have sc0:=ypa.cell 0 _ rfl
     have sf0:=ypa.free 0 (by simp)
     have sc1:=ypa.cell 1 _ rfl
     have sf1:=ypa.free 1 (by simp)
     refine tcl 10 fun Kc hK=>?_
     go_simp
     refine hK.out _ _ (HSh.out _ (((hHeld.2.2.setCell gpa _).setCell gpa _))) (fun hHeld=>?_)
     clear hK Kc sc0 sf0 sc1 sf1
     have zpa:=((ypa.set 0 (.int .i64 q1) (by simp)).set 1 (.int .i64 q2) (by simp))
     have vpcpa:=Row.keep ypc (((Keep.refl (fun z=>z=pa) _).set (p:=⟨pa,0,none⟩) (Or.inl rfl) (.int .i64 q1)).set (p:=⟨pa,1,none⟩) (Or.inl rfl) (.int .i64 q2)) (by first|exact lpc|simpa using lpc) (by omega)
     have sc0:=vpcpa.cell 0 _ rfl
     have sf0:=vpcpa.free 0 (by simp)
     have sc1:=vpcpa.cell 1 _ rfl
     have sf1:=vpcpa.free 1 (by simp)
     refine tcl 11 fun Kc hK=>?_
     go_simp
     refine hK.out _ _ (HSh.out _ (((hHeld.2.2.setCell gpc _).setCell gpc _))) (fun hHeld=>?_)
     clear hK Kc sc0 sf0 sc1 sf1
     have zpc:=((vpcpa.set 0 (.int .i64 ox) (by simp)).set 1 (.int .i64 oy) (by simp))
     have vpapc:=Row.keep zpa (((Keep.refl (fun z=>z=pc) _).set (p:=⟨pc,0,none⟩) (Or.inl rfl) (.int .i64 ox)).set (p:=⟨pc,1,none⟩) (Or.inl rfl) (.int .i64 oy)) (by first|exact lpa|simpa using lpa) (by omega)
     refine tQ 12 ?_
     simp only [Act.put,ps1,ps2,ps3]
     refine wpAnyH_done (by kernel_rfl) ?_ _
     rw [HQQ.out]
     exact⟨rfl,pa,pc,rfl,vpapc,zpc,hHeld.2.2,gpa,by simp only [World.size_setCell];exact lpa,gpc,by simp only [World.size_setCell];exact lpc⟩
    ·skip
     go_simp
     refine hK.out _ _ (HSh.out _ (hHeld.2.2.alloc hHeld.2.2.size _)) (fun hHeld=>?_)
     clear hK Kc
     have ypc:Row (X18h.alloc (.cells #[.int .i64 0, .int .i64 0] 27)) X18h.heap.size [.int .i64 0, .int .i64 0]:=Row.new X18h [.int .i64 0, .int .i64 0] 27
     have lpc:X18h.heap.size<(X18h.alloc (.cells #[.int .i64 0, .int .i64 0] 27)).heap.size:=by simp
     have gpc:W.heap.size≤X18h.heap.size:=gw
     have dpapc:pa<X18h.heap.size:=lpa
     replace ypa:=ypa.alloc (.cells #[.int .i64 0, .int .i64 0] 27) lpa
     replace lpa:pa<(X18h.alloc (.cells #[.int .i64 0, .int .i64 0] 27)).heap.size:=by simp;omega
     replace gw:W.heap.size≤(X18h.alloc (.cells #[.int .i64 0, .int .i64 0] 27)).heap.size:=by simp;omega
     generalize X18h.alloc (.cells #[.int .i64 0, .int .i64 0] 27)=X21h at ypa lpa ypc lpc gw hHeld ⊢
     generalize X18h.heap.size=pc at ypc lpc gpc dpapc ⊢
     refine tcl 3 fun Kc hK=>?_
     go_simp
     (go_at_call 8;refine Calls.mono (CH.out _) ?_;rintro e X22h ⟨rfl,e22h⟩)
     refine hK.out _ _ (HSh.out _ (hHeld.2.2.trans (e22h.mono hHeld.2.2.size))) (fun hHeld=>?_)
     clear hK Kc
     replace ypa:=ypa.below e22h lpa
     replace lpa:=Nat.lt_of_lt_of_le lpa e22h.size
     replace ypc:=ypc.below e22h lpc
     replace lpc:=Nat.lt_of_lt_of_le lpc e22h.size
     replace gw:=Nat.le_trans gw e22h.size
     refine tQ 4 ?_
     simp only [Act.put,ps1,ps2,ps3]
     refine tQ 5 ?_
     simp only [Act.put,ps1,ps2,ps3]
     refine tQ 6 ?_
     simp only [Act.put,ps1,ps2,ps3]
     refine tQ 7 ?_
     simp only [Act.put,ps1,ps2,ps3]
     have sc0:=ypa.cell 0 _ rfl
     have sf0:=ypa.free 0 (by simp)
     have sc1:=ypa.cell 1 _ rfl
     have sf1:=ypa.free 1 (by simp)
     refine tcl 10 fun Kc hK=>?_
     go_simp
     refine hK.out _ _ (HSh.out _ (((hHeld.2.2.setCell gpa _).setCell gpa _))) (fun hHeld=>?_)
     clear hK Kc sc0 sf0 sc1 sf1
     have zpa:=((ypa.set 0 (.int .i64 q1) (by simp)).set 1 (.int .i64 q2) (by simp))
     have vpcpa:=Row.keep ypc (((Keep.refl (fun z=>z=pa) _).set (p:=⟨pa,0,none⟩) (Or.inl rfl) (.int .i64 q1)).set (p:=⟨pa,1,none⟩) (Or.inl rfl) (.int .i64 q2)) (by first|exact lpc|simpa using lpc) (by omega)
     have sc0:=vpcpa.cell 0 _ rfl
     have sf0:=vpcpa.free 0 (by simp)
     have sc1:=vpcpa.cell 1 _ rfl
     have sf1:=vpcpa.free 1 (by simp)
     refine tcl 11 fun Kc hK=>?_
     go_simp
     refine hK.out _ _ (HSh.out _ (((hHeld.2.2.setCell gpc _).setCell gpc _))) (fun hHeld=>?_)
     clear hK Kc sc0 sf0 sc1 sf1
     have zpc:=((vpcpa.set 0 (.int .i64 ox) (by simp)).set 1 (.int .i64 oy) (by simp))
     have vpapc:=Row.keep zpa (((Keep.refl (fun z=>z=pc) _).set (p:=⟨pc,0,none⟩) (Or.inl rfl) (.int .i64 ox)).set (p:=⟨pc,1,none⟩) (Or.inl rfl) (.int .i64 oy)) (by first|exact lpa|simpa using lpa) (by omega)
     refine tQ 12 ?_
     simp only [Act.put,ps1,ps2,ps3]
     refine wpAnyH_done (by kernel_rfl) ?_ _
     rw [HQQ.out]
     exact⟨rfl,pa,pc,rfl,vpapc,zpc,hHeld.2.2,gpa,by simp only [World.size_setCell];exact lpa,gpc,by simp only [World.size_setCell];exact lpc⟩
   ·skip
    go_simp
    refine hK.out _ _ (HSh.out _ (hHeld.2.2.alloc hHeld.2.2.size _)) (fun hHeld=>?_)
    clear hK Kc
    have ypc:Row (X17h.alloc (.cells #[.int .i64 0, .int .i64 0] 27)) X17h.heap.size [.int .i64 0, .int .i64 0]:=Row.new X17h [.int .i64 0, .int .i64 0] 27
    have lpc:X17h.heap.size<(X17h.alloc (.cells #[.int .i64 0, .int .i64 0] 27)).heap.size:=by simp
    have gpc:W.heap.size≤X17h.heap.size:=gw
    have dpapc:pa<X17h.heap.size:=lpa
    replace ypa:=ypa.alloc (.cells #[.int .i64 0, .int .i64 0] 27) lpa
    replace lpa:pa<(X17h.alloc (.cells #[.int .i64 0, .int .i64 0] 27)).heap.size:=by simp;omega
    replace gw:W.heap.size≤(X17h.alloc (.cells #[.int .i64 0, .int .i64 0] 27)).heap.size:=by simp;omega
    generalize X17h.alloc (.cells #[.int .i64 0, .int .i64 0] 27)=X23h at ypa lpa ypc lpc gw hHeld ⊢
    generalize X17h.heap.size=pc at ypc lpc gpc dpapc ⊢
    refine tcl 2 fun Kc hK=>?_
    go_simp
    (go_at_call 9;refine Calls.mono (CS.out _ hHeld.2.2) ?_;rintro e X24h ⟨rfl,e24h⟩)
    refine hK.out _ _ (HSh.out _ (hHeld.2.2.trans (e24h.mono hHeld.2.2.size))) (fun hHeld=>?_)
    clear hK Kc
    replace ypa:=ypa.below e24h lpa
    replace lpa:=Nat.lt_of_lt_of_le lpa e24h.size
    replace ypc:=ypc.below e24h lpc
    replace lpc:=Nat.lt_of_lt_of_le lpc e24h.size
    replace gw:=Nat.le_trans gw e24h.size
    refine tcl 3 fun Kc hK=>?_
    go_simp
    (go_at_call 8;refine Calls.mono (CH.out _) ?_;rintro e X25h ⟨rfl,e25h⟩)
    refine hK.out _ _ (HSh.out _ (hHeld.2.2.trans (e25h.mono hHeld.2.2.size))) (fun hHeld=>?_)
    clear hK Kc
    replace ypa:=ypa.below e25h lpa
    replace lpa:=Nat.lt_of_lt_of_le lpa e25h.size
    replace ypc:=ypc.below e25h lpc
    replace lpc:=Nat.lt_of_lt_of_le lpc e25h.size
    replace gw:=Nat.le_trans gw e25h.size
    refine tQ 4 ?_
    simp only [Act.put,ps1,ps2,ps3]
    refine tQ 5 ?_
    simp only [Act.put,ps1,ps2,ps3]
    refine tQ 6 ?_
    simp only [Act.put,ps1,ps2,ps3]
    refine tQ 7 ?_
    simp only [Act.put,ps1,ps2,ps3]
    have sc0:=ypa.cell 0 _ rfl
    have sf0:=ypa.free 0 (by simp)
    have sc1:=ypa.cell 1 _ rfl
    have sf1:=ypa.free 1 (by simp)
    refine tcl 10 fun Kc hK=>?_
    go_simp
    refine hK.out _ _ (HSh.out _ (((hHeld.2.2.setCell gpa _).setCell gpa _))) (fun hHeld=>?_)
    clear hK Kc sc0 sf0 sc1 sf1
    have zpa:=((ypa.set 0 (.int .i64 q1) (by simp)).set 1 (.int .i64 q2) (by simp))
    have vpcpa:=Row.keep ypc (((Keep.refl (fun z=>z=pa) _).set (p:=⟨pa,0,none⟩) (Or.inl rfl) (.int .i64 q1)).set (p:=⟨pa,1,none⟩) (Or.inl rfl) (.int .i64 q2)) (by first|exact lpc|simpa using lpc) (by omega)
    have sc0:=vpcpa.cell 0 _ rfl
    have sf0:=vpcpa.free 0 (by simp)
    have sc1:=vpcpa.cell 1 _ rfl
    have sf1:=vpcpa.free 1 (by simp)
    refine tcl 11 fun Kc hK=>?_
    go_simp
    refine hK.out _ _ (HSh.out _ (((hHeld.2.2.setCell gpc _).setCell gpc _))) (fun hHeld=>?_)
    clear hK Kc sc0 sf0 sc1 sf1
    have zpc:=((vpcpa.set 0 (.int .i64 ox) (by simp)).set 1 (.int .i64 oy) (by simp))
    have vpapc:=Row.keep zpa (((Keep.refl (fun z=>z=pc) _).set (p:=⟨pc,0,none⟩) (Or.inl rfl) (.int .i64 ox)).set (p:=⟨pc,1,none⟩) (Or.inl rfl) (.int .i64 oy)) (by first|exact lpa|simpa using lpa) (by omega)
    refine tQ 12 ?_
    simp only [Act.put,ps1,ps2,ps3]
    refine wpAnyH_done (by kernel_rfl) ?_ _
    rw [HQQ.out]
    exact⟨rfl,pa,pc,rfl,vpapc,zpc,hHeld.2.2,gpa,by simp only [World.size_setCell];exact lpa,gpc,by simp only [World.size_setCell];exact lpc⟩
  ·skip
   go_simp
   refine hK.out _ _ (HSh.out _ (hHeld.2.2.alloc hHeld.2.2.size _)) (fun hHeld=>?_)
   clear hK Kc
   have ypc:Row (X0h.alloc (.cells #[.int .i64 0, .int .i64 0] 27)) X0h.heap.size [.int .i64 0, .int .i64 0]:=Row.new X0h [.int .i64 0, .int .i64 0] 27
   have lpc:X0h.heap.size<(X0h.alloc (.cells #[.int .i64 0, .int .i64 0] 27)).heap.size:=by simp
   have gpc:W.heap.size≤X0h.heap.size:=gw
   replace gw:W.heap.size≤(X0h.alloc (.cells #[.int .i64 0, .int .i64 0] 27)).heap.size:=by simp;omega
   generalize X0h.alloc (.cells #[.int .i64 0, .int .i64 0] 27)=X26h at ypc lpc gw hHeld ⊢
   generalize X0h.heap.size=pc at ypc lpc gpc  ⊢
   refine wpAnyH_ready (rs:= [2,8]) (by kernel_rfl) (by simp) (AllReadyH.cons (i:=2) rfl (fun Kc hK=>?_) (AllReadyH.cons (i:=8) rfl (fun Kc hK=>?_) AllReadyH.nil))
   ·skip
    go_simp
    (go_at_call 9;refine Calls.mono (CS.out _ hHeld.2.2) ?_;rintro e X27h ⟨rfl,e27h⟩)
    refine hK.out _ _ (HSh.out _ (hHeld.2.2.trans (e27h.mono hHeld.2.2.size))) (fun hHeld=>?_)
    clear hK Kc
    replace ypc:=ypc.below e27h lpc
    replace lpc:=Nat.lt_of_lt_of_le lpc e27h.size
    replace gw:=Nat.le_trans gw e27h.size
    refine wpAnyH_ready (rs:= [3,8]) (by kernel_rfl) (by simp) (AllReadyH.cons (i:=3) rfl (fun Kc hK=>?_) (AllReadyH.cons (i:=8) rfl (fun Kc hK=>?_) AllReadyH.nil))
    ·skip
     go_simp
     (go_at_call 8;refine Calls.mono (CH.out _) ?_;rintro e X28h ⟨rfl,e28h⟩)
     refine hK.out _ _ (HSh.out _ (hHeld.2.2.trans (e28h.mono hHeld.2.2.size))) (fun hHeld=>?_)
     clear hK Kc
     replace ypc:=ypc.below e28h lpc
     replace lpc:=Nat.lt_of_lt_of_le lpc e28h.size
     replace gw:=Nat.le_trans gw e28h.size
     refine tQ 4 ?_
     simp only [Act.put,ps1,ps2,ps3]
     refine tQ 5 ?_
     simp only [Act.put,ps1,ps2,ps3]
     refine tQ 6 ?_
     simp only [Act.put,ps1,ps2,ps3]
     refine tQ 7 ?_
     simp only [Act.put,ps1,ps2,ps3]
     refine tcl 8 fun Kc hK=>?_
     go_simp
     refine hK.out _ _ (HSh.out _ (hHeld.2.2.alloc hHeld.2.2.size _)) (fun hHeld=>?_)
     clear hK Kc
     have ypa:Row (X28h.alloc (.cells #[.int .i64 0, .int .i64 0] 23)) X28h.heap.size [.int .i64 0, .int .i64 0]:=Row.new X28h [.int .i64 0, .int .i64 0] 23
     have lpa:X28h.heap.size<(X28h.alloc (.cells #[.int .i64 0, .int .i64 0] 23)).heap.size:=by simp
     have gpa:W.heap.size≤X28h.heap.size:=gw
     have dpcpa:pc<X28h.heap.size:=lpc
     replace ypc:=ypc.alloc (.cells #[.int .i64 0, .int .i64 0] 23) lpc
     replace lpc:pc<(X28h.alloc (.cells #[.int .i64 0, .int .i64 0] 23)).heap.size:=by simp;omega
     replace gw:W.heap.size≤(X28h.alloc (.cells #[.int .i64 0, .int .i64 0] 23)).heap.size:=by simp;omega
     generalize X28h.alloc (.cells #[.int .i64 0, .int .i64 0] 23)=X29h at ypc lpc ypa lpa gw hHeld ⊢
     generalize X28h.heap.size=pa at ypa lpa gpa dpcpa ⊢
     have sc0:=ypa.cell 0 _ rfl
     have sf0:=ypa.free 0 (by simp)
     have sc1:=ypa.cell 1 _ rfl
     have sf1:=ypa.free 1 (by simp)
     refine tcl 10 fun Kc hK=>?_
     go_simp
     refine hK.out _ _ (HSh.out _ (((hHeld.2.2.setCell gpa _).setCell gpa _))) (fun hHeld=>?_)
     clear hK Kc sc0 sf0 sc1 sf1
     have zpa:=((ypa.set 0 (.int .i64 q1) (by simp)).set 1 (.int .i64 q2) (by simp))
     have vpcpa:=Row.keep ypc (((Keep.refl (fun z=>z=pa) _).set (p:=⟨pa,0,none⟩) (Or.inl rfl) (.int .i64 q1)).set (p:=⟨pa,1,none⟩) (Or.inl rfl) (.int .i64 q2)) (by first|exact lpc|simpa using lpc) (by omega)
     have sc0:=vpcpa.cell 0 _ rfl
     have sf0:=vpcpa.free 0 (by simp)
     have sc1:=vpcpa.cell 1 _ rfl
     have sf1:=vpcpa.free 1 (by simp)
     refine tcl 11 fun Kc hK=>?_
     go_simp
     refine hK.out _ _ (HSh.out _ (((hHeld.2.2.setCell gpc _).setCell gpc _))) (fun hHeld=>?_)
     clear hK Kc sc0 sf0 sc1 sf1
     have zpc:=((vpcpa.set 0 (.int .i64 ox) (by simp)).set 1 (.int .i64 oy) (by simp))
     have vpapc:=Row.keep zpa (((Keep.refl (fun z=>z=pc) _).set (p:=⟨pc,0,none⟩) (Or.inl rfl) (.int .i64 ox)).set (p:=⟨pc,1,none⟩) (Or.inl rfl) (.int .i64 oy)) (by first|exact lpa|simpa using lpa) (by omega)
     refine tQ 12 ?_
     simp only [Act.put,ps1,ps2,ps3]
     refine wpAnyH_done (by kernel_rfl) ?_ _
     rw [HQQ.out]
     exact⟨rfl,pa,pc,rfl,vpapc,zpc,hHeld.2.2,gpa,by simp only [World.size_setCell];exact lpa,gpc,by simp only [World.size_setCell];exact lpc⟩
    ·skip
     go_simp
     refine hK.out _ _ (HSh.out _ (hHeld.2.2.alloc hHeld.2.2.size _)) (fun hHeld=>?_)
     clear hK Kc
     have ypa:Row (X27h.alloc (.cells #[.int .i64 0, .int .i64 0] 23)) X27h.heap.size [.int .i64 0, .int .i64 0]:=Row.new X27h [.int .i64 0, .int .i64 0] 23
     have lpa:X27h.heap.size<(X27h.alloc (.cells #[.int .i64 0, .int .i64 0] 23)).heap.size:=by simp
     have gpa:W.heap.size≤X27h.heap.size:=gw
     have dpcpa:pc<X27h.heap.size:=lpc
     replace ypc:=ypc.alloc (.cells #[.int .i64 0, .int .i64 0] 23) lpc
     replace lpc:pc<(X27h.alloc (.cells #[.int .i64 0, .int .i64 0] 23)).heap.size:=by simp;omega
     replace gw:W.heap.size≤(X27h.alloc (.cells #[.int .i64 0, .int .i64 0] 23)).heap.size:=by simp;omega
     generalize X27h.alloc (.cells #[.int .i64 0, .int .i64 0] 23)=X30h at ypc lpc ypa lpa gw hHeld ⊢
     generalize X27h.heap.size=pa at ypa lpa gpa dpcpa ⊢
     refine tcl 3 fun Kc hK=>?_
     go_simp
     (go_at_call 8;refine Calls.mono (CH.out _) ?_;rintro e X31h ⟨rfl,e31h⟩)
     refine hK.out _ _ (HSh.out _ (hHeld.2.2.trans (e31h.mono hHeld.2.2.size))) (fun hHeld=>?_)
     clear hK Kc
     replace ypc:=ypc.below e31h lpc
     replace lpc:=Nat.lt_of_lt_of_le lpc e31h.size
     replace ypa:=ypa.below e31h lpa
     replace lpa:=Nat.lt_of_lt_of_le lpa e31h.size
     replace gw:=Nat.le_trans gw e31h.size
     refine tQ 4 ?_
     simp only [Act.put,ps1,ps2,ps3]
     refine tQ 5 ?_
     simp only [Act.put,ps1,ps2,ps3]
     refine tQ 6 ?_
     simp only [Act.put,ps1,ps2,ps3]
     refine tQ 7 ?_
     simp only [Act.put,ps1,ps2,ps3]
     have sc0:=ypa.cell 0 _ rfl
     have sf0:=ypa.free 0 (by simp)
     have sc1:=ypa.cell 1 _ rfl
     have sf1:=ypa.free 1 (by simp)
     refine tcl 10 fun Kc hK=>?_
     go_simp
     refine hK.out _ _ (HSh.out _ (((hHeld.2.2.setCell gpa _).setCell gpa _))) (fun hHeld=>?_)
     clear hK Kc sc0 sf0 sc1 sf1
     have zpa:=((ypa.set 0 (.int .i64 q1) (by simp)).set 1 (.int .i64 q2) (by simp))
     have vpcpa:=Row.keep ypc (((Keep.refl (fun z=>z=pa) _).set (p:=⟨pa,0,none⟩) (Or.inl rfl) (.int .i64 q1)).set (p:=⟨pa,1,none⟩) (Or.inl rfl) (.int .i64 q2)) (by first|exact lpc|simpa using lpc) (by omega)
     have sc0:=vpcpa.cell 0 _ rfl
     have sf0:=vpcpa.free 0 (by simp)
     have sc1:=vpcpa.cell 1 _ rfl
     have sf1:=vpcpa.free 1 (by simp)
     refine tcl 11 fun Kc hK=>?_
     go_simp
     refine hK.out _ _ (HSh.out _ (((hHeld.2.2.setCell gpc _).setCell gpc _))) (fun hHeld=>?_)
     clear hK Kc sc0 sf0 sc1 sf1
     have zpc:=((vpcpa.set 0 (.int .i64 ox) (by simp)).set 1 (.int .i64 oy) (by simp))
     have vpapc:=Row.keep zpa (((Keep.refl (fun z=>z=pc) _).set (p:=⟨pc,0,none⟩) (Or.inl rfl) (.int .i64 ox)).set (p:=⟨pc,1,none⟩) (Or.inl rfl) (.int .i64 oy)) (by first|exact lpa|simpa using lpa) (by omega)
     refine tQ 12 ?_
     simp only [Act.put,ps1,ps2,ps3]
     refine wpAnyH_done (by kernel_rfl) ?_ _
     rw [HQQ.out]
     exact⟨rfl,pa,pc,rfl,vpapc,zpc,hHeld.2.2,gpa,by simp only [World.size_setCell];exact lpa,gpc,by simp only [World.size_setCell];exact lpc⟩
   ·skip
    go_simp
    refine hK.out _ _ (HSh.out _ (hHeld.2.2.alloc hHeld.2.2.size _)) (fun hHeld=>?_)
    clear hK Kc
    have ypa:Row (X26h.alloc (.cells #[.int .i64 0, .int .i64 0] 23)) X26h.heap.size [.int .i64 0, .int .i64 0]:=Row.new X26h [.int .i64 0, .int .i64 0] 23
    have lpa:X26h.heap.size<(X26h.alloc (.cells #[.int .i64 0, .int .i64 0] 23)).heap.size:=by simp
    have gpa:W.heap.size≤X26h.heap.size:=gw
    have dpcpa:pc<X26h.heap.size:=lpc
    replace ypc:=ypc.alloc (.cells #[.int .i64 0, .int .i64 0] 23) lpc
    replace lpc:pc<(X26h.alloc (.cells #[.int .i64 0, .int .i64 0] 23)).heap.size:=by simp;omega
    replace gw:W.heap.size≤(X26h.alloc (.cells #[.int .i64 0, .int .i64 0] 23)).heap.size:=by simp;omega
    generalize X26h.alloc (.cells #[.int .i64 0, .int .i64 0] 23)=X32h at ypc lpc ypa lpa gw hHeld ⊢
    generalize X26h.heap.size=pa at ypa lpa gpa dpcpa ⊢
    refine tcl 2 fun Kc hK=>?_
    go_simp
    (go_at_call 9;refine Calls.mono (CS.out _ hHeld.2.2) ?_;rintro e X33h ⟨rfl,e33h⟩)
    refine hK.out _ _ (HSh.out _ (hHeld.2.2.trans (e33h.mono hHeld.2.2.size))) (fun hHeld=>?_)
    clear hK Kc
    replace ypc:=ypc.below e33h lpc
    replace lpc:=Nat.lt_of_lt_of_le lpc e33h.size
    replace ypa:=ypa.below e33h lpa
    replace lpa:=Nat.lt_of_lt_of_le lpa e33h.size
    replace gw:=Nat.le_trans gw e33h.size
    refine tcl 3 fun Kc hK=>?_
    go_simp
    (go_at_call 8;refine Calls.mono (CH.out _) ?_;rintro e X34h ⟨rfl,e34h⟩)
    refine hK.out _ _ (HSh.out _ (hHeld.2.2.trans (e34h.mono hHeld.2.2.size))) (fun hHeld=>?_)
    clear hK Kc
    replace ypc:=ypc.below e34h lpc
    replace lpc:=Nat.lt_of_lt_of_le lpc e34h.size
    replace ypa:=ypa.below e34h lpa
    replace lpa:=Nat.lt_of_lt_of_le lpa e34h.size
    replace gw:=Nat.le_trans gw e34h.size
    refine tQ 4 ?_
    simp only [Act.put,ps1,ps2,ps3]
    refine tQ 5 ?_
    simp only [Act.put,ps1,ps2,ps3]
    refine tQ 6 ?_
    simp only [Act.put,ps1,ps2,ps3]
    refine tQ 7 ?_
    simp only [Act.put,ps1,ps2,ps3]
    have sc0:=ypa.cell 0 _ rfl
    have sf0:=ypa.free 0 (by simp)
    have sc1:=ypa.cell 1 _ rfl
    have sf1:=ypa.free 1 (by simp)
    refine tcl 10 fun Kc hK=>?_
    go_simp
    refine hK.out _ _ (HSh.out _ (((hHeld.2.2.setCell gpa _).setCell gpa _))) (fun hHeld=>?_)
    clear hK Kc sc0 sf0 sc1 sf1
    have zpa:=((ypa.set 0 (.int .i64 q1) (by simp)).set 1 (.int .i64 q2) (by simp))
    have vpcpa:=Row.keep ypc (((Keep.refl (fun z=>z=pa) _).set (p:=⟨pa,0,none⟩) (Or.inl rfl) (.int .i64 q1)).set (p:=⟨pa,1,none⟩) (Or.inl rfl) (.int .i64 q2)) (by first|exact lpc|simpa using lpc) (by omega)
    have sc0:=vpcpa.cell 0 _ rfl
    have sf0:=vpcpa.free 0 (by simp)
    have sc1:=vpcpa.cell 1 _ rfl
    have sf1:=vpcpa.free 1 (by simp)
    refine tcl 11 fun Kc hK=>?_
    go_simp
    refine hK.out _ _ (HSh.out _ (((hHeld.2.2.setCell gpc _).setCell gpc _))) (fun hHeld=>?_)
    clear hK Kc sc0 sf0 sc1 sf1
    have zpc:=((vpcpa.set 0 (.int .i64 ox) (by simp)).set 1 (.int .i64 oy) (by simp))
    have vpapc:=Row.keep zpa (((Keep.refl (fun z=>z=pc) _).set (p:=⟨pc,0,none⟩) (Or.inl rfl) (.int .i64 ox)).set (p:=⟨pc,1,none⟩) (Or.inl rfl) (.int .i64 oy)) (by first|exact lpa|simpa using lpa) (by omega)
    refine tQ 12 ?_
    simp only [Act.put,ps1,ps2,ps3]
    refine wpAnyH_done (by kernel_rfl) ?_ _
    rw [HQQ.out]
    exact⟨rfl,pa,pc,rfl,vpapc,zpc,hHeld.2.2,gpa,by simp only [World.size_setCell];exact lpa,gpc,by simp only [World.size_setCell];exact lpc⟩
 rw [HQQ.out]
 rintro e act w4 ⟨rfl,pa,pc,rfl,ypah,ypch,bw4,gpah,lpah,gpch,lpch⟩
 clear HQQ QQ HSh
 try dsimp only
 have z4:=bw4.size
 have lr4:w.heap.size+1<w4.heap.size:=by omega
 have Rr4:=Rr.below bw4 lr
 have B4:=bW.trans (bw4.mono (by omega))
 clear d0 d1 CH CS
 cases hb:okb
 ·have HR:Hid _:=HNO.out hb
  clear HNO HYE
  have o0:=Rr4.cell 0 _ rfl
  have f0:=Rr4.free 0 (by simp)
  have o1:=Rr4.cell 1 _ rfl
  have f1:=Rr4.free 1 (by simp)
  have RX:=((Rr4.set 0 (.int .i64 0) (by simp)).set 1 (.int .i64 0) (by simp))
  have BZ:=((B4.setCell (p:=⟨w.heap.size+1,0,none⟩) (by simp) (.int .i64 0)).setCell (p:=⟨w.heap.size+1,1,none⟩) (by simp) (.int .i64 0))
  have n0:=RX.cell 0 _ rfl
  have n1:=RX.cell 1 _ rfl
  clear RX Rr4
  go_wp2
  exact bodyPost_ret (v:= .tuple #[.int .i64 (-1), .agg #[.int .i64 0, .int .i64 0], .int .i64 0, .bool false]) (by simp [results,Try.results4,go_sem, *]) rfl ⟨HR.out,BZ⟩
 obtain⟨hq,hox,hoy,HE⟩:=HYE.out hb
 have HRES:Hid _:=HE
 have HOX:Hid ((-1099511627776≤ox∧ox≤1099511627776)∧(-1099511627776≤oy∧oy≤1099511627776)):=⟨hox,hoy⟩
 have HPC:Hid (Row w4 pc [.int .i64 ox, .int .i64 oy]):=ypch
 have HRR:Hid (Row w4 (w.heap.size+1) [.int .i64 0, .int .i64 0]):=Rr4
 have HB4:Hid _:=B4
 have CST:Hid (∀ w',Below w4.heap.size w4 w'→Calls Try.prog 10 #[.agg #[ptR pp, .int .i64 q1, .int .i64 q2], .int .i64 f] w' fun e w''=>StartIs (firstC S f) e∧Below w'.heap.size w' w''):=fun w' hb=>wStart HSS.out base pp S m F w' (HSS.out.below HPP.out (HB4.out.trans (hb.mono (by omega)))) HO.out HMM.out f q1 q2 HF.out
 have CGO:Hid (∀ (w':World) (c:Ce),c∈S.C→Below w4.heap.size w4 w'→Calls Try.prog 11 #[.agg #[ptR pp, .int .i64 q1, .int .i64 q2], .int .i64 c.no, .int .i64 (fuelN fuel:Int)] w' fun e w''=>GoIs (goW S q1 q2 (fuelN fuel) c 0 0) e∧Below w'.heap.size w' w''):=fun w' c hc hb=>HG1.out base pp S m F w' (HSS.out.below HPP.out (HB4.out.trans (hb.mono (by omega)))) HO.out HMM.out c q1 q2 (fuelN fuel) hc hq (fuel_few fuel)
 have CAL:Hid (∀ w',Below w4.heap.size w4 w'→Calls Try.prog 12 #[.agg #[ptR pp, .int .i64 q1, .int .i64 q2]] w' fun e w''=>AllIs (seekW S q1 q2 S.C) e∧Below w'.heap.size w' w''):=fun w' hb=>wAll HSS.out base pp S m F w' (HSS.out.below HPP.out (HB4.out.trans (hb.mono (by omega)))) HO.out HMM.out q1 q2 hq
 have a0:=ypah.cell 0 _ rfl
 have a1:=ypah.cell 1 _ rfl
 obtain⟨bw,hbw⟩: ∃ x,x=w4.heap.size:=⟨_,rfl⟩
 obtain⟨w5,hw5⟩: ∃ w5,w5=w4.alloc (.cells #[ptR pp, .int .i64 q1, .int .i64 q2] 39):=⟨_,rfl⟩
 have k5:Below w4.heap.size w4 w5:=by rw [hw5];exact(Below.refl _ _).alloc (Nat.le_refl _) _
 have R5:Row w5 bw [ptR pp, .int .i64 q1, .int .i64 q2]:=by rw [hw5,hbw];exact Row.new w4 [ptR pp, .int .i64 q1, .int .i64 q2] _
 have l5:bw<w5.heap.size:=by rw [hw5,hbw];simp
 have z5:=k5.size
 have H5:Hid _:=hw5.symm
 have HBW:Hid _:=hbw.symm
 clear HNO HYE HE hq hox hoy ypah ypch Rr4 Rr Rp hbw hw5 bw4 B4 gpah lpah
 go_wp2_with (go_at_call 10;fail)
 rw [H5.out,HBW.out]
 clear a0 a1 H5 HBW
 refine Calls.mono (CST.out w5 k5) ?_
 rintro e w6 ⟨he,b6⟩
 have k6:=k5.trans (b6.mono z5)
 have z6:=k6.size
 have R6:=R5.below b6 l5
 have l6:bw<w6.heap.size:=by have:=b6.size;omega
 clear CST R5 l5 b6 k5
 cases hfc:firstC S f with
 |none=>
  have HR:Hid (FindIs (findW S f p1 p2 fuel) (.returned (.tuple #[.int .i64 (-1), .agg #[.int .i64 0, .int .i64 0], .int .i64 0, .bool false]))):=by
   unfold Hid
   rw [HRES.out,hfc]
   rfl
  rw [hfc]at he
  have he:e=_:=he
  subst he
  have Rr6:=HRR.out.below k6 lr4
  have BX:=HB4.out.trans (k6.mono (by omega))
  clear hfc CGO CAL
  have o0:=Rr6.cell 0 _ rfl
  have f0:=Rr6.free 0 (by simp)
  have o1:=Rr6.cell 1 _ rfl
  have f1:=Rr6.free 1 (by simp)
  have RX:=((Rr6.set 0 (.int .i64 0) (by simp)).set 1 (.int .i64 0) (by simp))
  have BZ:=((BX.setCell (p:=⟨w.heap.size+1,0,none⟩) (by simp) (.int .i64 0)).setCell (p:=⟨w.heap.size+1,1,none⟩) (by simp) (.int .i64 0))
  have n0:=RX.cell 0 _ rfl
  have n1:=RX.cell 1 _ rfl
  clear RX Rr6
  go_wp2
  exact bodyPost_ret (v:= .tuple #[.int .i64 (-1), .agg #[.int .i64 0, .int .i64 0], .int .i64 0, .bool false]) (by simp [results,Try.results4,go_sem, *]) rfl ⟨HR.out,BZ⟩
 |some c0=>
  rw [hfc]at he
  have he:e=_:=he
  subst he
  have hcm:=firstC_mem hfc
  have HR1:Hid (findW S f p1 p2 fuel=endF S q1 q2 ox oy (goW S q1 q2 (fuelN fuel) c0 0 0)):=by
   unfold Hid
   rw [HRES.out,hfc]
  obtain⟨fc,hfcn⟩: ∃ x,x=c0.no:=⟨_,rfl⟩
  have hkf:(fuelN fuel:Int)=min (max fuel 0) 1000:=by
   unfold fuelN
   split
   ·omega
   ·split<;>omega
  have CG:Hid _:=CGO.out w6 c0 hcm k6
  rw [←hfcn,hkf]at CG
  rw [←hfcn]
  have w0:=R6.cell 0 _ rfl
  have w1:=R6.cell 1 _ rfl
  have w2:=R6.cell 2 _ rfl
  clear hfc hfcn hkf CGO HRES
  go_wp2_with (go_at_call 11;fail)
  refine Calls.mono CG.out ?_
  rintro e w7 ⟨he,b7⟩
  have k7:=k6.trans (b7.mono z6)
  have z7:=k7.size
  have R7:=R6.below b7 l6
  have l7:bw<w7.heap.size:=by have:=b7.size;omega
  obtain⟨g,hg⟩: ∃ g,g=goW S q1 q2 (fuelN fuel) c0 0 0:=⟨_,rfl⟩
  have HG:Hid _:=hg
  rw [←hg]at he HR1
  obtain⟨gb,hhb⟩: ∃ x,x=w7.heap.size:=⟨_,rfl⟩
  have lhb:w4.heap.size≤gb:=by omega
  have HHB:Hid _:=hhb.symm
  obtain⟨gn,hgn⟩: ∃ x,x=g.2:=⟨_,rfl⟩
  have HGN:Hid _:=hgn
  unfold GoIs at he
  rw [←hgn]at he
  clear CG w0 w1 w2 R6 l6 b7 hg hgn
  cases hg1:g.1 with
  |some r=>
   obtain⟨c,x,y⟩:=r
   rw [hg1]at he
   have he:e= .returned (.tuple #[.agg #[.int .i64 c.no, .int .i64 x, .int .i64 y], .int .i64 (gn:Int), .bool true]):=he
   subst he
   have HFI:Hid (FindIs (findW S f p1 p2 fuel) (.returned (.tuple #[.int .i64 c.no, .agg #[.int .i64 (x+ox), .int .i64 (y+oy)], .int .i64 (gn:Int), .bool true]))):=by
    have e:=HR1.out
    unfold endF at e
    rw [hg1]at e
    unfold Hid
    rw [e,HGN.out]
    rfl
   have hgi:=goW_is hcm (Prod.ext (HG.out▸hg1) rfl:goW S q1 q2 (fuelN fuel) c0 0 0=(some (c,x,y),_))
   have hma:mvAll S c.t x y=true:=by
    rcases out_cases S c.t x y q1 q2 with⟨_,h⟩|⟨h,_⟩
    ·have:=hgi.2.1;simp only at this;omega
    ·exact h
   have hsm:(-2199023255556≤x∧x≤2199023255556)∧(-2199023255556≤y∧y≤2199023255556):=by have:=mv_small (mvAll_iff.1 hma).1;omega
   obtain⟨w8,hw8⟩: ∃ w8,w8=w7.alloc (.cells #[.int .i64 c.no, .int .i64 x, .int .i64 y] 43):=⟨_,rfl⟩
   have k8:Below w7.heap.size w7 w8:=by rw [hw8];exact(Below.refl _ _).alloc (Nat.le_refl _) _
   have K8:=k7.trans (k8.mono z7)
   have Rh:Row w8 gb [.int .i64 c.no, .int .i64 x, .int .i64 y]:=by rw [hw8,hhb];exact Row.new w7 [.int .i64 c.no, .int .i64 x, .int .i64 y] _
   have lh8:gb<w8.heap.size:=by rw [hw8,hhb];simp
   have H8:Hid _:=hw8.symm
   clear hw8 hhb hgi hma hg1 HR1 R7
   go_wp2
   rw [H8.out,HHB.out]
   have zz:=K8.size
   have RC:=HPC.out.below K8 lpch
   have RR:=HRR.out.below K8 lr4
   have BB:=HB4.out.trans (K8.mono (by omega))
   have hoo:=HOX.out
   have HU:Hid (x+ox=wrap64 (x+ox)):=(wrap_in (by omega) (by omega)).symm
   have HV:Hid (y+oy=wrap64 (y+oy)):=(wrap_in (by omega) (by omega)).symm
   have d0:=Rh.cell 0 _ rfl
   have d1:=Rh.cell 1 _ rfl
   have d2:=Rh.cell 2 _ rfl
   have c0:=RC.cell 0 _ rfl
   have c1:=RC.cell 1 _ rfl
   have lpc:pc<w8.heap.size:=by omega
   have nh: ¬(gb=w.heap.size+1):=by omega
   have npc: ¬(pc=w.heap.size+1):=by omega
   have lrr:w.heap.size+1<w8.heap.size:=by omega
   clear hsm hoo RC Rh
   have HSs:Hid (∀ w',Keep (fun k=>k=w.heap.size+1) w8 w'→(fun w'=>w'.cell? ⟨gb,0,none⟩=some (.int .i64 c.no)∧w'.cell? ⟨gb,1,none⟩=some (.int .i64 x)∧w'.cell? ⟨gb,2,none⟩=some (.int .i64 y)∧w'.cell? ⟨pc,0,none⟩=some (.int .i64 ox)∧w'.cell? ⟨pc,1,none⟩=some (.int .i64 oy)∧Keep (fun k=>k=w.heap.size+1) w8 w') w'):=by
    unfold Hid
    intro w' hb
    exact⟨(hb.cell (p:=⟨gb,0,none⟩) lh8 nh).trans d0,(hb.cell (p:=⟨gb,1,none⟩) lh8 nh).trans d1,(hb.cell (p:=⟨gb,2,none⟩) lh8 nh).trans d2,(hb.cell (p:=⟨pc,0,none⟩) lpc npc).trans c0,(hb.cell (p:=⟨pc,1,none⟩) lpc npc).trans c1,hb⟩
   refine wp_region_held_drew (S:=fun w'=>w'.cell? ⟨gb,0,none⟩=some (.int .i64 c.no)∧w'.cell? ⟨gb,1,none⟩=some (.int .i64 x)∧w'.cell? ⟨gb,2,none⟩=some (.int .i64 y)∧w'.cell? ⟨pc,0,none⟩=some (.int .i64 ox)∧w'.cell? ⟨pc,1,none⟩=some (.int .i64 oy)∧Keep (fun k=>k=w.heap.size+1) w8 w') (by kernel_rfl) ?_ (fun hHeld=>?_)
   ·exact HSs.out _ ((Keep.refl _ _).drew)
   refine tn 0 ?_;refine tn 1 ?_;refine tn 2 ?_;refine tn 3 ?_;refine tn 4 ?_;refine tn 6 ?_
   simp only [Act.put,ps1,ps2,ps3]
   refine tcl 5 fun Kc hK=>?_
   go_simp
   (go_at_call 13;refine(lSum x y ox oy _ HU.out HV.out).mono ?_;rintro e ws ⟨rfl,bs⟩)
   refine hK.out _ _ ?_ (fun hHeld=>?_)
   ·exact HSs.out _ (hHeld.2.2.2.2.2.to bs)
   clear hK Kc
   replace RR:=RR.drew.below bs lrr
   refine tz (i:=7) rfl ?_
   simp only [Act.put,ps1,ps2,ps3]
   have sc0:=RR.cell 0 _ rfl
   have sf0:=RR.free 0 (by simp)
   have sc1:=RR.cell 1 _ rfl
   have sf1:=RR.free 1 (by simp)
   refine tcl 8 fun Kc hK=>?_
   go_simp
   refine hK.out _ _ ?_ (fun hHeld=>?_)
   ·exact HSs.out _ ((hHeld.2.2.2.2.2.set (Or.inl rfl) _).set (Or.inl rfl) _)
   clear hK Kc
   refine tn 9 ?_;refine tn 10 ?_
   simp only [Act.put,ps1,ps2,ps3]
   refine wpAnyH_done (by kernel_rfl) ?_ _
   have kx:=hHeld.2.2.2.2.2
   have RX:=(RR.set 0 (.int .i64 (x+ox)) (by simp)).set 1 (.int .i64 (y+oy)) (by simp)
   have o0:=RX.cell 0 _ rfl
   have o1:=RX.cell 1 _ rfl
   have BX:=BB.trans (kx.below (B:=w.heap.size) (by omega) (fun k e=>by omega))
   clear hHeld HSs kx RX RR sc0 sc1 sf0 sf1
   go_wp2
   exact bodyPost_ret (v:= .tuple #[.int .i64 c.no, .agg #[.int .i64 (x+ox), .int .i64 (y+oy)], .int .i64 (gn:Int), .bool true]) (by simp [results,Try.results4,go_sem, *]) rfl ⟨HFI.out,BX⟩
  |none=>
   rw [hg1]at he
   have he:e= .returned (.tuple #[.agg #[.int .i64 0, .int .i64 0, .int .i64 0], .int .i64 (gn:Int), .bool false]):=he
   subst he
   obtain⟨w8,hw8⟩: ∃ w8,w8=w7.alloc (.cells #[.int .i64 0, .int .i64 0, .int .i64 0] 43):=⟨_,rfl⟩
   have k8:Below w7.heap.size w7 w8:=by rw [hw8];exact(Below.refl _ _).alloc (Nat.le_refl _) _
   have K8:=k7.trans (k8.mono z7)
   have Rh:Row w8 gb [.int .i64 0, .int .i64 0, .int .i64 0]:=by rw [hw8,hhb];exact Row.new w7 [.int .i64 0, .int .i64 0, .int .i64 0] _
   have lh8:gb<w8.heap.size:=by rw [hw8,hhb];simp
   have R8:=R7.below k8 l7
   have v0:=R8.cell 0 _ rfl
   have v1:=R8.cell 1 _ rfl
   have v2:=R8.cell 2 _ rfl
   have H8:Hid _:=hw8.symm
   rw [hw8]at v0 v1 v2
   clear hw8 hhb R7 R8
   go_wp2_with (go_at_call 12;fail)
   rw [H8.out,HHB.out]
   refine Calls.mono (CAL.out w8 K8) ?_
   rintro e w9 ⟨he,b9⟩
   have K9:=K8.trans (b9.mono K8.size)
   have z9:=K9.size
   have R9:=Rh.below b9 lh8
   have lh9:gb<w9.heap.size:=by have:=b9.size;omega
   have g0:=R9.cell 0 _ rfl
   have g1:=R9.cell 1 _ rfl
   have g2:=R9.cell 2 _ rfl
   have g3:=R9.free 0 (by simp)
   have g4:=R9.free 1 (by simp)
   have g5:=R9.free 2 (by simp)
   clear CAL v0 v1 v2 H8 b9 Rh
   cases hsk:seekW S q1 q2 S.C with
   |none=>
    have HFI:Hid (FindIs (findW S f p1 p2 fuel) (.returned (.tuple #[.int .i64 (-1), .agg #[.int .i64 0, .int .i64 0], .int .i64 0, .bool false]))):=by
     have e:=HR1.out
     unfold endF at e
     rw [hg1,hsk]at e
     unfold Hid
     rw [e]
     rfl
    rw [hsk]at he
    have he:e=_:=he
    subst he
    obtain⟨wd,hwd⟩: ∃ wd,wd=((w9.setCell ⟨gb,0,none⟩ (.int .i64 0)).setCell ⟨gb,1,none⟩ (.int .i64 0)).setCell ⟨gb,2,none⟩ (.int .i64 0):=⟨_,rfl⟩
    have Kd:Below w4.heap.size w4 wd:=by rw [hwd];exact((K9.setCell (p:=⟨gb,0,none⟩) lhb _).setCell (p:=⟨gb,1,none⟩) lhb _).setCell (p:=⟨gb,2,none⟩) lhb _
    have Rrd:=HRR.out.below Kd lr4
    have BX:=HB4.out.trans (Kd.mono (by omega))
    rw [hwd]at Rrd BX
    clear hwd hsk hg1 HR1
    have o0:=Rrd.cell 0 _ rfl
    have f0:=Rrd.free 0 (by simp)
    have o1:=Rrd.cell 1 _ rfl
    have f1:=Rrd.free 1 (by simp)
    have RX:=((Rrd.set 0 (.int .i64 0) (by simp)).set 1 (.int .i64 0) (by simp))
    have BZ:=((BX.setCell (p:=⟨w.heap.size+1,0,none⟩) (by simp) (.int .i64 0)).setCell (p:=⟨w.heap.size+1,1,none⟩) (by simp) (.int .i64 0))
    have n0:=RX.cell 0 _ rfl
    have n1:=RX.cell 1 _ rfl
    clear RX Rrd
    go_wp2
    exact bodyPost_ret (v:= .tuple #[.int .i64 (-1), .agg #[.int .i64 0, .int .i64 0], .int .i64 0, .bool false]) (by simp [results,Try.results4,go_sem, *]) rfl ⟨HFI.out,BZ⟩
   |some r=>
    obtain⟨c,x,y⟩:=r
    have hsm:=seekW_small HO.out hsk
    have HFI:Hid (FindIs (findW S f p1 p2 fuel) (.returned (.tuple #[.int .i64 c.no, .agg #[.int .i64 (x+ox), .int .i64 (y+oy)], .int .i64 (gn:Int), .bool true]))):=by
     have e:=HR1.out
     unfold endF at e
     rw [hg1,hsk]at e
     unfold Hid
     rw [e,HGN.out]
     rfl
    rw [hsk]at he
    have he:e= .returned (.tuple #[.agg #[.int .i64 c.no, .int .i64 x, .int .i64 y], .bool true]):=he
    subst he
    obtain⟨w8',hwd⟩: ∃ wd,wd=((w9.setCell ⟨gb,0,none⟩ (.int .i64 c.no)).setCell ⟨gb,1,none⟩ (.int .i64 x)).setCell ⟨gb,2,none⟩ (.int .i64 y):=⟨_,rfl⟩
    have K8':Below w4.heap.size w4 w8':=by rw [hwd];exact((K9.setCell (p:=⟨gb,0,none⟩) lhb _).setCell (p:=⟨gb,1,none⟩) lhb _).setCell (p:=⟨gb,2,none⟩) lhb _
    have Rh:Row w8' gb [.int .i64 c.no, .int .i64 x, .int .i64 y]:=by rw [hwd];exact((R9.set 0 (.int .i64 c.no) (by simp)).set 1 (.int .i64 x) (by simp)).set 2 (.int .i64 y) (by simp)
    have lh8':gb<w8'.heap.size:=by rw [hwd];simp;omega
    have Hd:Hid _:=hwd.symm
    clear hwd hsk hg1 HR1 R9
    go_wp2
    rw [Hd.out]
    clear g0 g1 g2 g3 g4 g5
    have zz:=K8'.size
    have RC:=HPC.out.below K8' lpch
    have RR:=HRR.out.below K8' lr4
    have BB:=HB4.out.trans (K8'.mono (by omega))
    have hoo:=HOX.out
    have HU:Hid (x+ox=wrap64 (x+ox)):=(wrap_in (by omega) (by omega)).symm
    have HV:Hid (y+oy=wrap64 (y+oy)):=(wrap_in (by omega) (by omega)).symm
    have d0:=Rh.cell 0 _ rfl
    have d1:=Rh.cell 1 _ rfl
    have d2:=Rh.cell 2 _ rfl
    have c0:=RC.cell 0 _ rfl
    have c1:=RC.cell 1 _ rfl
    have lpc:pc<w8'.heap.size:=by omega
    have nh: ¬(gb=w.heap.size+1):=by omega
    have npc: ¬(pc=w.heap.size+1):=by omega
    have lrr:w.heap.size+1<w8'.heap.size:=by omega
    clear hsm hoo RC Rh
    have HSu:Hid (∀ w',Keep (fun k=>k=w.heap.size+1) w8' w'→(fun w'=>w'.cell? ⟨gb,0,none⟩=some (.int .i64 c.no)∧w'.cell? ⟨gb,1,none⟩=some (.int .i64 x)∧w'.cell? ⟨gb,2,none⟩=some (.int .i64 y)∧w'.cell? ⟨pc,0,none⟩=some (.int .i64 ox)∧w'.cell? ⟨pc,1,none⟩=some (.int .i64 oy)∧Keep (fun k=>k=w.heap.size+1) w8' w') w'):=by
     unfold Hid
     intro w' hb
     exact⟨(hb.cell (p:=⟨gb,0,none⟩) lh8' nh).trans d0,(hb.cell (p:=⟨gb,1,none⟩) lh8' nh).trans d1,(hb.cell (p:=⟨gb,2,none⟩) lh8' nh).trans d2,(hb.cell (p:=⟨pc,0,none⟩) lpc npc).trans c0,(hb.cell (p:=⟨pc,1,none⟩) lpc npc).trans c1,hb⟩
    refine wp_region_held_drew (S:=fun w'=>w'.cell? ⟨gb,0,none⟩=some (.int .i64 c.no)∧w'.cell? ⟨gb,1,none⟩=some (.int .i64 x)∧w'.cell? ⟨gb,2,none⟩=some (.int .i64 y)∧w'.cell? ⟨pc,0,none⟩=some (.int .i64 ox)∧w'.cell? ⟨pc,1,none⟩=some (.int .i64 oy)∧Keep (fun k=>k=w.heap.size+1) w8' w') (by kernel_rfl) ?_ (fun hHeld=>?_)
    ·exact HSu.out _ ((Keep.refl _ _).drew)
    refine tn 0 ?_;refine tn 1 ?_;refine tn 2 ?_;refine tn 3 ?_;refine tn 4 ?_;refine tn 6 ?_
    simp only [Act.put,ps1,ps2,ps3]
    refine tcl 5 fun Kc hK=>?_
    go_simp
    (go_at_call 13;refine(lSum x y ox oy _ HU.out HV.out).mono ?_;rintro e ws ⟨rfl,bs⟩)
    refine hK.out _ _ ?_ (fun hHeld=>?_)
    ·exact HSu.out _ (hHeld.2.2.2.2.2.to bs)
    clear hK Kc
    replace RR:=RR.drew.below bs lrr
    refine tz (i:=7) rfl ?_
    simp only [Act.put,ps1,ps2,ps3]
    have sc0:=RR.cell 0 _ rfl
    have sf0:=RR.free 0 (by simp)
    have sc1:=RR.cell 1 _ rfl
    have sf1:=RR.free 1 (by simp)
    refine tcl 8 fun Kc hK=>?_
    go_simp
    refine hK.out _ _ ?_ (fun hHeld=>?_)
    ·exact HSu.out _ ((hHeld.2.2.2.2.2.set (Or.inl rfl) _).set (Or.inl rfl) _)
    clear hK Kc
    refine tn 9 ?_;refine tn 10 ?_
    simp only [Act.put,ps1,ps2,ps3]
    refine wpAnyH_done (by kernel_rfl) ?_ _
    have kx:=hHeld.2.2.2.2.2
    have RX:=(RR.set 0 (.int .i64 (x+ox)) (by simp)).set 1 (.int .i64 (y+oy)) (by simp)
    have o0:=RX.cell 0 _ rfl
    have o1:=RX.cell 1 _ rfl
    have BX:=BB.trans (kx.below (B:=w.heap.size) (by omega) (fun k e=>by omega))
    clear hHeld HSu kx RX RR sc0 sc1 sf0 sf1
    go_wp2
    exact bodyPost_ret (v:= .tuple #[.int .i64 c.no, .agg #[.int .i64 (x+ox), .int .i64 (y+oy)], .int .i64 (gn:Int), .bool true]) (by simp [results,Try.results4,go_sem, *]) rfl ⟨HFI.out,BX⟩
end Go.Proofs.Ytaadknpjbogkbaa
namespace Go.Proofs.Ytaadknpjbogkbaa
open Go.RowKit Go.Maps
set_option linter.unusedVariables false
def liveS:Ms:=meshOf 10 [(0,0)] [oneT,twoT]
theorem liveS0:MsOk (meshOf 10 [] []) 0:=MsOk.new 10 (by decide)
theorem liveS1:MsOk (meshOf 10 [(0,0)] []) 1:=by
 have h:=liveS0.addV (x:=0) (y:=0) (id:=0) (by decide) (by decide)
 exact cast (congrArg (fun S=>MsOk S 1) (mesh_addV 10 [] (0,0))) h
theorem liveS2:MsOk (meshOf 10 [(0,0)] [oneT]) 2:=by
 have h:=liveS1.addF (t:=oneT) (by decide) (tr64_all oneT64)
 exact cast (congrArg (fun S=>MsOk S 2) (mesh_addF 10 [(0,0)] [] oneT)) h
theorem liveS3:MsOk liveS 3:=by
 have h:=liveS2.addF (t:=twoT) (by decide) (tr64_all twoT64)
 exact cast (congrArg (fun S=>MsOk S 3) (mesh_addF 10 [(0,0)] [oneT] twoT)) h
theorem live_f1:findW liveS 0 2 3 9=⟨0,0,0,0,true⟩:=by rfl
theorem live_f2:findW liveS 0 8 9 9=⟨1,0,0,1,true⟩:=by rfl
set_option maxRecDepth 100000 in
set_option maxHeartbeats 4000000 in
theorem aOne16{MP:MeShape}(HSp:MeSp MP)(w:World):
  Calls Try.prog 15 #[] w fun e w'=> ∃ (pp base:Nat) (F:Nat→Prop),e= .returned (.tuple #[ptR pp, .bool true])∧MP base pp liveS F w'∧Below w.heap.size w w':=by
 have own0:OwnS (w.alloc (.cells #[.int .i64 0, .int .i64 0] 23)) w.heap.size 23 2 (some ⟨w.heap.size,0,none⟩) 1 1 (flat ptC [(0,0)]):=World.ownsRow_lit w #[.int .i64 0, .int .i64 0] 1 (Nat.le_refl _) (by decide) (by simp)
 obtain⟨W,hW⟩: ∃ W,W=w.alloc (.cells #[.int .i64 0, .int .i64 0] 23):=⟨_,rfl⟩
 have bW:Below w.heap.size w W:=by rw [hW];exact(Below.refl _ _).alloc (Nat.le_refl _) _
 have zW:W.heap.size=w.heap.size+1:=by rw [hW];simp
 rw [←hW]at own0
 have own1:OwnS (W.alloc (.cells #[.int .i64 0, .int .i64 0, .int .i64 0, .int .i64 0, .int .i64 0, .int .i64 1, .int .i64 0, .int .i64 0, .int .i64 1, .int .i64 0, .int .i64 0, .int .i64 0, .int .i64 1, .int .i64 0, .int .i64 1, .int .i64 1, .int .i64 0, .int .i64 1] 65)) W.heap.size 65 9 (some ⟨W.heap.size,0,none⟩) 2 2 (flat trC [oneT,twoT]):=World.ownsRow_lit W #[.int .i64 0, .int .i64 0, .int .i64 0, .int .i64 0, .int .i64 0, .int .i64 1, .int .i64 0, .int .i64 0, .int .i64 1, .int .i64 0, .int .i64 0, .int .i64 0, .int .i64 1, .int .i64 0, .int .i64 1, .int .i64 1, .int .i64 0, .int .i64 1] 2 (Nat.le_refl _) (by decide) (by simp)
 obtain⟨V,hV⟩: ∃ V,V=W.alloc (.cells #[.int .i64 0, .int .i64 0, .int .i64 0, .int .i64 0, .int .i64 0, .int .i64 1, .int .i64 0, .int .i64 0, .int .i64 1, .int .i64 0, .int .i64 0, .int .i64 0, .int .i64 1, .int .i64 0, .int .i64 1, .int .i64 1, .int .i64 0, .int .i64 1] 65):=⟨_,rfl⟩
 rw [←hV]at own1
 have bV:Below W.heap.size W V:=by rw [hV];exact(Below.refl _ _).alloc (Nat.le_refl _) _
 have BV:Below w.heap.size w V:=bW.trans (bV.mono (by omega))
 have CB:Hid (Calls Try.prog 25 #[.slice (some ⟨w.heap.size,0,none⟩) 1 1, .int .i64 10, .slice (some ⟨w.heap.size+1,0,none⟩) 2 2] V fun e w'=> ∃ pp:Nat,e= .returned (.tuple #[ptR pp, .bool true])∧Built MP pp liveS V w'):=by
  have:=aBuildG HSp (some ⟨w.heap.size,0,none⟩) (some ⟨W.heap.size,0,none⟩) _ _ 1 2 [(0,0)] [oneT,twoT] 10 V (OwnS.below own0 bV) own1 (by decide) (by decide) (by intro s hs;rw [List.mem_singleton]at hs;subst hs;decide) (by
   intro k hk
   have:k=0∨k=1:=by have:k≤1:=hk;omega
   rcases this with rfl|rfl
   ·exact liveS0
   ·exact liveS1) (by
   intro k t ht
   have:k=0∨k=1:=by have:=(List.getElem?_eq_some_iff.1 ht).1;have:k<2:=this;omega
   rcases this with rfl|rfl
   ·cases ht
    exact⟨liveS1,by decide,oneT64⟩
   ·cases ht
    exact⟨liveS2,by decide,twoT64⟩) (by decide)
  rw [zW]at this
  exact this
 have HW:w.alloc (.cells #[.int .i64 0, .int .i64 0] 23)=W:=hW.symm
 have HV:W.alloc (.cells #[.int .i64 0, .int .i64 0, .int .i64 0, .int .i64 0, .int .i64 0, .int .i64 1, .int .i64 0, .int .i64 0, .int .i64 1, .int .i64 0, .int .i64 0, .int .i64 0, .int .i64 1, .int .i64 0, .int .i64 1, .int .i64 1, .int .i64 0, .int .i64 1] 65)=V:=hV.symm
 clear own0 own1 hW hV
 go_enter Try.func15,Try.ntmps15
 go_wp2_with (go_at_call 25;fail)
 refine Calls.mono CB.out ?_
 rintro e w3 ⟨pp,rfl,hb⟩
 obtain⟨F,mp,_⟩:=hb.ex
 have B3:Below w.heap.size w w3:=BV.trans (hb.be.mono BV.size)
 have HMP:Hid _:=mp
 clear CB hb mp
 go_wp2
 exact bodyPost_ret (v:= .tuple #[ptR pp, .bool true]) (by simp [results,Try.results15,go_sem]) rfl ⟨pp,V.heap.size,F,rfl,HMP.out,B3⟩
set_option maxRecDepth 100000 in
set_option maxHeartbeats 4000000 in
theorem aLives16{MP:MeShape}(HSp:MeSp MP)(HGo:GoSpec MP)(w:World):
  Calls Try.prog 7 #[] w fun e w'=>e= .returned (.bool true)∧Below w.heap.size w w':=by
 have C1:Hid _:=aOne16 HSp w
 have HF:Hid (∀ (w':World) (base pp:Nat) (F:Nat→Prop),MP base pp liveS F w'→ ∀ p1 p2:Int,In64 p1→In64 p2→Calls Try.prog 4 #[ptR pp, .int .i64 0, .agg #[.int .i64 p1, .int .i64 p2], .int .i64 9] w' fun e w''=>FindIs (findW liveS 0 p1 p2 9) e∧Below w'.heap.size w' w''):=fun w' base pp F mp p1 p2 h1 h2=>wFind HSp base pp liveS 3 F w' mp liveS3 (by decide) HGo 0 p1 p2 9 ⟨by omega,by omega⟩ h1 h2 ⟨by omega,by omega⟩
 have HSS:Hid _:=HSp
 clear HSp HGo
 go_enter Try.func7,Try.ntmps7
 go_wp2_with (go_at_call 15;fail)
 refine Calls.mono C1.out ?_
 rintro e w1 ⟨pp,base,F,rfl,mp,b1⟩
 have HMP:Hid _:=mp
 have CA:Hid _:=HF.out w1 base pp F mp 2 3 ⟨by omega,by omega⟩ ⟨by omega,by omega⟩
 rw [live_f1]at CA
 unfold FindIs at CA
 clear C1 mp
 go_wp2_with (go_at_call 4;fail)
 refine Calls.mono CA.out ?_
 rintro e w2 ⟨rfl,b2⟩
 obtain⟨w3,hw3⟩: ∃ w3,w3=w2.alloc (.cells #[.int .i64 0, .int .i64 0] 27):=⟨_,rfl⟩
 have k3:Below w1.heap.size w1 w3:=by rw [hw3];exact b2.alloc b2.size _
 have R3:Row w3 w2.heap.size [.int .i64 0, .int .i64 0]:=by rw [hw3];exact Row.new w2 [.int .i64 0, .int .i64 0] _
 have l3:w2.heap.size<w3.heap.size:=by rw [hw3];simp
 have B3:Below w.heap.size w w3:=b1.trans (k3.mono b1.size)
 have CB:Hid _:=HF.out w3 base pp F (HSS.out.below HMP.out k3) 8 9 ⟨by omega,by omega⟩ ⟨by omega,by omega⟩
 rw [live_f2]at CB
 unfold FindIs at CB
 have H3:Hid _:=hw3.symm
 clear CA HF hw3
 go_wp2_with (go_at_call 4;fail)
 rw [H3.out]
 refine Calls.mono CB.out ?_
 rintro e w4 ⟨rfl,b4⟩
 have R4:=R3.below b4 l3
 have B4:Below w.heap.size w w4:=B3.trans (b4.mono B3.size)
 have k5:Below w4.heap.size w4 (w4.alloc (.cells #[.int .i64 0, .int .i64 0] 27)):=(Below.refl _ _).alloc (Nat.le_refl _) _
 have B5:=B4.trans (k5.mono B4.size)
 have R5:=R4.below k5 (by have:=b4.size;omega)
 have c0:=R5.cell 0 _ rfl
 have c1:=R5.cell 1 _ rfl
 clear CB H3
 go_wp2
 go_ret
 exact⟨rfl,B5⟩
end Go.Proofs.Ytaadknpjbogkbaa
namespace Go.Proofs.Ytaadknpjbogkbaa
open Go.RowKit
set_option linter.unusedVariables false
def StepIs(r:Option (Ce×Int×Int))(x y:Int)(e:Ending):Prop:=match r with
 |none=>e= .returned (.tuple #[.agg #[.int .i64 0, .int .i64 0, .int .i64 0], .bool false])
 |some q=>e= .returned (.tuple #[.agg #[.int .i64 q.1.no, .int .i64 (x+q.2.1), .int .i64 (y+q.2.2)], .bool true])
theorem cross_of{S:Ms}{m:Nat}(O:MsOk S m){c:Ce}(hc:c∈S.C){i:Nat}(hi:i<3):crossed S c.no (i:Int)=match acr c.t (nx i) S.C with|none=>none|some r=>some (c.t,r):=by
 have e:corner (i:Int)=i:=by unfold corner;omega
 unfold crossed
 rw [(wgFace O hc).2,e]
 rfl
set_option maxRecDepth 100000 in
set_option maxHeartbeats 4000000 in
theorem wAcross{MP:MeShape}(HSp:MeSp MP)(base pp:Nat)(S:Ms)(m:Nat)(F:Nat→Prop)(w:World)(HP:MP base pp S F w)(O:MsOk S m)(hm:m≤1000)(c:Ce)(hc:c∈S.C)(x y q1 q2:Int)(i:Nat)(hi:i<3)(hx: -4398046511104≤x∧x≤4398046511104)(hy: -4398046511104≤y∧y≤4398046511104):
  Calls Try.prog 23 #[.agg #[ptR pp, .int .i64 q1, .int .i64 q2], .agg #[.int .i64 c.no, .int .i64 x, .int .i64 y], .int .i64 (i:Int)] w fun e w'=>StepIs (stepC S c i) x y e∧Below w.heap.size w w':=by
 have hf:=(wg64 O hm hc).1
 have HX:=cross_of O hc hi
 have hs:=fun r h=>stepC_small O hc hi (r:=r) h
 have ei:corner (i:Int)=i:=by unfold corner;omega
 unfold stepC at hs ⊢
 obtain⟨I,hI⟩: ∃ I:Int,I=(i:Int):=⟨_,rfl⟩
 rw [←hI]at HX ei ⊢
 obtain⟨f,hff⟩: ∃ f,f=c.no:=⟨_,rfl⟩
 rw [←hff]at HX hf ⊢
 obtain⟨W,hW⟩: ∃ W,W=(((w.alloc (.cells #[ptR pp, .int .i64 q1, .int .i64 q2] 39)).alloc (.cells #[.int .i64 f, .int .i64 x, .int .i64 y] 43)).alloc (.cells #[.int .i64 0, .int .i64 0, .int .i64 0] 43)):=⟨_,rfl⟩
 have bW:Below w.heap.size w W:=by rw [hW];exact((((Below.refl _ _).alloc (Nat.le_refl _) _).alloc (by simp<;>omega) _).alloc (by simp<;>omega) _)
 have zW:W.heap.size=w.heap.size+3:=by rw [hW];simp
 have Rw:Row W (w.heap.size) [ptR pp, .int .i64 q1, .int .i64 q2]:=by
  have h0:=Row.new w [ptR pp, .int .i64 q1, .int .i64 q2] 39
  rw [hW];exact((h0.alloc _ (by simp<;>omega)).alloc _ (by simp<;>omega))
 have lw:w.heap.size<W.heap.size:=by omega
 have Rh:Row W (w.heap.size+1) [.int .i64 f, .int .i64 x, .int .i64 y]:=by
  have h0:=Row.new (w.alloc (.cells #[ptR pp, .int .i64 q1, .int .i64 q2] 39)) [.int .i64 f, .int .i64 x, .int .i64 y] 43
  simp only [World.size_alloc]at h0
  rw [hW];exact(h0.alloc _ (by simp<;>omega))
 have lh:w.heap.size+1<W.heap.size:=by omega
 have Rr:Row W (w.heap.size+2) [.int .i64 0, .int .i64 0, .int .i64 0]:=by
  have h0:=Row.new ((w.alloc (.cells #[ptR pp, .int .i64 q1, .int .i64 q2] 39)).alloc (.cells #[.int .i64 f, .int .i64 x, .int .i64 y] 43)) [.int .i64 0, .int .i64 0, .int .i64 0] 43
  simp only [World.size_alloc]at h0
  rw [hW];exact h0
 have lr:w.heap.size+2<W.heap.size:=by omega
 have HW:(((w.alloc (.cells #[ptR pp, .int .i64 q1, .int .i64 q2] 39)).alloc (.cells #[.int .i64 f, .int .i64 x, .int .i64 y] 43)).alloc (.cells #[.int .i64 0, .int .i64 0, .int .i64 0] 43))=W:=hW.symm
 clear hW
 have HC:Hid _:=HSp.across base pp S m F W (HSp.below HP bW) O hm f I hf ⟨by omega,by omega⟩
 rw [HX]at HC
 have c0:=Rh.cell 0 _ rfl
 have p0:=Rw.cell 0 _ rfl
 cases ha:acr c.t (nx i) S.C with
 |none=>
  rw [ha]at HC
  simp only at HC
  clear HP HX ha hs hff hI ei hi hc hf O hm hx hy
  go_enter Try.func23,Try.ntmps23
  go_wp2_with (go_at_call 35;fail)
  refine Calls.mono HC.out ?_
  rintro e w2 ⟨he,b2⟩
  have he:e=_:=he
  subst he
  have z2:=b2.size
  obtain⟨w3,hw3⟩: ∃ w3,w3=w2.alloc (.cells #[.int .i64 0, .int .i64 0] 27):=⟨_,rfl⟩
  have q3:Below W.heap.size W w3:=by rw [hw3];exact b2.alloc z2 _
  have B3:Below w.heap.size w w3:=bW.trans (q3.mono (by omega))
  have R3:=Rr.below q3 (by omega)
  have o0:=R3.cell 0 _ rfl
  have f0:=R3.free 0 (by simp)
  have o1:=R3.cell 1 _ rfl
  have f1:=R3.free 1 (by simp)
  have o2:=R3.cell 2 _ rfl
  have f2:=R3.free 2 (by simp)
  have RX:=(((R3.set 0 (.int .i64 0) (by simp)).set 1 (.int .i64 0) (by simp)).set 2 (.int .i64 0) (by simp))
  have BZ:=(((B3.setCell (p:=⟨w.heap.size+2,0,none⟩) (by simp) (.int .i64 0)).setCell (p:=⟨w.heap.size+2,1,none⟩) (by simp) (.int .i64 0)).setCell (p:=⟨w.heap.size+2,2,none⟩) (by simp) (.int .i64 0))
  have n0:=RX.cell 0 _ rfl
  have n1:=RX.cell 1 _ rfl
  have n2:=RX.cell 2 _ rfl
  clear RX R3
  rw [hw3]at o0 o1 o2 f0 f1 f2 n0 n1 n2 BZ
  clear HC c0 p0 q3 B3 hw3
  go_wp2
  exact bodyPost_ret (v:= .tuple #[.agg #[.int .i64 0, .int .i64 0, .int .i64 0], .bool false]) (by simp [results,Try.results23,go_sem, *]) rfl ⟨rfl,BZ⟩
 |some r=>
  obtain⟨d,k⟩:=r
  rw [ha]at HC
  have h64:=(hs (d,c.t.x (nx (nx i))- d.t.x k,c.t.y (nx (nx i))- d.t.y k) (by rw [ha])).2
  unfold CrossIs at HC
  simp only at HC h64
  rw [ei]at HC
  obtain⟨g,hg⟩: ∃ g,g=d.no:=⟨_,rfl⟩
  obtain⟨dx,hdx⟩: ∃ u,u=c.t.x (nx (nx i))- d.t.x k:=⟨_,rfl⟩
  obtain⟨dy,hdy⟩: ∃ u,u=c.t.y (nx (nx i))- d.t.y k:=⟨_,rfl⟩
  obtain⟨kk,hkk⟩: ∃ u:Int,u=(((k+2) % 3:Nat):Int):=⟨_,rfl⟩
  rw [←hg,←hdx,←hdy,←hkk]at HC
  rw [←hdx,←hdy]at h64
  show Calls Try.prog _ _ w fun e w'=>e= .returned (.tuple #[.agg #[.int .i64 d.no, .int .i64 (x+(c.t.x (nx (nx i))- d.t.x k)), .int .i64 (y+(c.t.y (nx (nx i))- d.t.y k))], .bool true])∧Below w.heap.size w w'
  rw [←hg,←hdx,←hdy]
  obtain⟨X,hX⟩: ∃ X,X=x+dx:=⟨_,rfl⟩
  obtain⟨Y,hY⟩: ∃ Y,Y=y+dy:=⟨_,rfl⟩
  rw [←hX,←hY]
  have XX:Hid (X=wrap64 (x+dx)):=by unfold Hid;rw [←hX];exact(wrap_in (by omega) (by omega)).symm
  have YY:Hid (Y=wrap64 (y+dy)):=by unfold Hid;rw [←hY];exact(wrap_in (by omega) (by omega)).symm
  clear HP HX ha hs hff hg hdx hdy hkk hX hY h64 hI ei hi hc hf O hm hx hy
  go_enter Try.func23,Try.ntmps23
  go_wp2_with (go_at_call 35;fail)
  refine Calls.mono HC.out ?_
  rintro e w2 ⟨he,b2⟩
  have he:e=_:=he
  subst he
  have z2:=b2.size
  obtain⟨w3,hw3⟩: ∃ w3,w3=w2.alloc (.cells #[.int .i64 dx, .int .i64 dy] 27):=⟨_,rfl⟩
  have q3:Below W.heap.size W w3:=by rw [hw3];exact b2.alloc z2 _
  have B3:Below w.heap.size w w3:=bW.trans (q3.mono (by omega))
  have R3:=Rr.below q3 (by omega)
  have RO:Row w3 w2.heap.size [.int .i64 dx, .int .i64 dy]:=by rw [hw3];exact Row.new w2 [.int .i64 dx, .int .i64 dy] _
  have d0:=RO.cell 0 _ rfl
  have d1:=RO.cell 1 _ rfl
  have Rh3:=Rh.below q3 (by omega)
  have e1:=Rh3.cell 1 _ rfl
  have e2:=Rh3.cell 2 _ rfl
  rw [hw3]at d0 d1 e1 e2
  have H3:Hid _:=hw3.symm
  clear HC c0 p0 hw3
  go_wp2_with (go_at_call 13;fail)
  rw [H3.out]
  refine(lSum x y dx dy w3 XX.out YY.out).mono ?_
  rintro e w4 ⟨rfl,b4⟩
  have q4:Below W.heap.size W w4:=q3.trans (b4.mono (by have:=q3.size;omega))
  have R4:=Rr.below q4 (by omega)
  have B4:Below w.heap.size w w4:=bW.trans (q4.mono (by omega))
  have o0:=R4.cell 0 _ rfl
  have f0:=R4.free 0 (by simp)
  have o1:=R4.cell 1 _ rfl
  have f1:=R4.free 1 (by simp)
  have o2:=R4.cell 2 _ rfl
  have f2:=R4.free 2 (by simp)
  have RX:=(((R4.set 0 (.int .i64 g) (by simp)).set 1 (.int .i64 X) (by simp)).set 2 (.int .i64 Y) (by simp))
  have BZ:=(((B4.setCell (p:=⟨w.heap.size+2,0,none⟩) (by simp) (.int .i64 g)).setCell (p:=⟨w.heap.size+2,1,none⟩) (by simp) (.int .i64 X)).setCell (p:=⟨w.heap.size+2,2,none⟩) (by simp) (.int .i64 Y))
  have n0:=RX.cell 0 _ rfl
  have n1:=RX.cell 1 _ rfl
  have n2:=RX.cell 2 _ rfl
  clear RX R4
  clear d0 d1 e1 e2
  go_wp2
  exact bodyPost_ret (v:= .tuple #[.agg #[.int .i64 g, .int .i64 X, .int .i64 Y], .bool true]) (by simp [results,Try.results23,go_sem, *]) rfl ⟨rfl,BZ⟩
end Go.Proofs.Ytaadknpjbogkbaa
