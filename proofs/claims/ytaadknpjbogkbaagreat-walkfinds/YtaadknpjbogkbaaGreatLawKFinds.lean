/-
  WalkFinds: in which face of any mesh any point lies, from any face on, with any fuel.
-/
import Derived.Test.YtaadknpjbogkbaaGreatP1
import Derived.Test.YtaadknpjbogkbaaGreatP2
import Derived.Test.YtaadknpjbogkbaaGreatP3
import Derived.Test.YtaadknpjbogkbaaGreatP4
import Derived.Test.YtaadknpjbogkbaaGreatP5
import Derived.Test.YtaadknpjbogkbaaGreatP6
import Derived.Test.YtaadknpjbogkbaaGreatP7
import Derived.Test.YtaadknpjbogkbaaGreatP8
import Derived.Test.YtaadknpjbogkbaaGreatP9
import Derived.Test.YtaadknpjbogkbaaGreatP10
import Derived.Test.YtaadknpjbogkbaaGreatP11
import Derived.Test.YtaadknpjbogkbaaGreatP12
import Derived.Test.YtaadknpjbogkbaaGreatP13
import Derived.Test.YtaadknpjbogkbaaGreatP14
import Derived.Test.YtaadknpjbogkbaaGreatP15
import Derived.Test.YtaadknpjbogkbaaGreatP16
import Derived.Test.YtaadknpjbogkbaaGreatP17
import Derived.Test.YtaadknpjbogkbaaGreatP18
import Derived.Test.YtaadknpjbogkbaaGreatP19
import Derived.Test.YtaadknpjbogkbaaGreatP20
import Derived.Test.YtaadknpjbogkbaaGreatP21
import Derived.Test.YtaadknpjbogkbaaGreatP22
import Derived.Test.YtaadknpjbogkbaaGreatChecked
import Derived.Test.YtaadknpjbogkbaaGreatRows
import Derived.Deep.CutRange
namespace Go.Proofs.YtaadknpjbogkbaaGreat
open Go.RowKit
set_option linter.unusedVariables false

namespace kfinds
open Go.ChangeShapes Go.WideShapes Go.ChangeAt Go.Joins
theorem bd_i64{x:Int}(h:(Lit.int .i64 x).wf=true): -9223372036854775808≤x∧x≤9223372036854775807:=bd_act h
set_option maxRecDepth 100000 in
set_option maxHeartbeats 8000000 in
theorem walk(side:Int)(h1: -9223372036854775808≤side)(h2:side≤9223372036854775807)(a1:Option Addr)(l1 c1:Nat)(L1:List Act)(f fu p1 p2:Int)(hf:In64 f)(hfu:In64 fu)(hp1:In64 p1)(hp2:In64 p2)(w:World)(hL:ActsAt w a1 l1 c1 L1):
    Calls Tryz.prog 3 #[.int .i64 side, .slice a1 l1 c1, .agg #[.int .i64 f, .int .i64 fu, .int .i64 p1, .int .i64 p2]] w fun e w'=>e= .returned (.bool true)∧Below w.heap.size w w':=by
  have HL:Hid _:=hL
  have HF:Hid _:=hf
  have HP1:Hid _:=hp1
  have HP2:Hid _:=hp2
  obtain⟨g,hg⟩: ∃ g:Int,g=if side<1∨17179869184<side then 12 else side:=⟨_,rfl⟩
  have hgr:1≤g∧g≤17179869184:=by rw [hg];split<;>omega
  have HG:Hid _:=hg
  have HGR:Hid _:=hgr
  obtain⟨fl,hfl⟩: ∃ fl:Int,fl=if 40<fu then 40 else fu:=⟨_,rfl⟩
  have hflr:fl≤1000∧In64 fl:=by
    obtain⟨b1,b2⟩:=hfu
    rw [hfl]
    split
    · exact⟨by decide,by decide,by decide⟩
    · exact⟨by omega,b1,b2⟩
  have HFL:Hid _:=hfl
  have HFR:Hid _:=hflr
  obtain⟨W,hW⟩: ∃ W,W=w.alloc (.cells ([.int .i64 f, .int .i64 fu, .int .i64 p1, .int .i64 p2]:List Value).toArray 26):=⟨_,rfl⟩
  have BW:Below w.heap.size w W:=by rw [hW];exact(Below.refl _ _).alloc (Nat.le_refl _) _
  have zW:W.heap.size=w.heap.size+1:=by rw [hW];simp
  have R0:Row W w.heap.size [.int .i64 f, .int .i64 fu, .int .i64 p1, .int .i64 p2]:=by rw [hW];exact Row.new w _ _
  have hW':w.alloc (.cells #[.int .i64 f, .int .i64 fu, .int .i64 p1, .int .i64 p2] 26)=W:=hW.symm
  have lw:w.heap.size<W.heap.size:=by omega
  clear hW hL hf hfu hp1 hp2 hg hgr hfl hflr
  go_enter Tryz.func3,Tryz.ntmps3
  go_upto_region 1 with fail
  obtain⟨B,hB⟩: ∃ B,B=(decide (side<1)||decide (17179869184<side)):=⟨_,rfl⟩
  have HB:Hid _:=hB
  clear hB
  go_cut [23]from 18 to 23 (fun c wx=>c= .bool B∧W=wx)
  case first=>
    by_cases q1:side<1
    · have e:Hid (B=true):=by unfold Hid;rw [HB.out,decide_eq_true q1];rfl
      go_wp2
      go_meet
      case rel=>exact⟨by rw [e.out],rfl⟩
    · have e:Hid (B=decide (17179869184<side)):=by unfold Hid;rw [HB.out,decide_eq_false q1];rfl
      have q2:decide (side<1)=false:=decide_eq_false q1
      go_wp2
      go_meet
      case rel=>exact⟨by rw [e.out],rfl⟩
  case rest=>
  obtain⟨rfl,rfl⟩:=hcut
  have HBG:Hid ((B=true→g=12)∧(B=false→g=side)):=by
    have e1:=HG.out
    have e2:=HB.out
    by_cases q1:side<1∨17179869184<side
    · rw [if_pos q1]at e1
      refine⟨fun _=>e1,fun h=>?_⟩
      rw [h]at e2
      simp at e2
      omega
    · rw [if_neg q1]at e1
      refine⟨fun h=>?_,fun _=>e1⟩
      rw [h]at e2
      simp at e2
      omega
  go_upto_if 23 with fail
  go_cut [0]from 23 (fun c wx=>c= .int .i64 g∧W=wx)
  case first=>
    cases hb:B
    · have e:Hid (g=side):=HBG.out.2 hb
      go_wp2
      go_meet
      case rel=>exact⟨by rw [e.out],rfl⟩
    · have e:Hid (g=12):=HBG.out.1 hb
      go_wp2
      go_meet
      case rel=>exact⟨by rw [e.out],rfl⟩
  case rest=>
  obtain⟨rfl,rfl⟩:=hcut
  clear HBG HB HG h1 h2
  go_wp2_with (go_at_call 5;fail)
  refine(plays_of meSpec g HGR.out a1 l1 c1 L1 W (HL.out.below BW)).mono ?_
  rintro e w2 ⟨pm,px,S,rfl,hb,_,b2⟩
  have z2:=b2.size
  have B2:Below w.heap.size w w2:=BW.trans (b2.mono (by omega))
  have R2:=R0.below b2 lw
  obtain⟨⟨Fm,Fx,m1,m2,hd⟩,hk⟩:=hb
  have H1:Hid _:=m1
  have H2:Hid _:=m2
  have HK:Hid _:=hk
  have HFX:Hid (∀ k,Fm k→W.heap.size≤k∧k<w2.heap.size):=meSpec.ft m1
  have HMX:Hid (MeLook px S w2):=m2.look
  have r0:=R2.cell 0 _ rfl
  have r1:=R2.cell 1 _ rfl
  have r2:=R2.cell 2 _ rfl
  have r3:=R2.cell 3 _ rfl
  have f1:=R2.free 1 (by simp)
  have lw2:w.heap.size<w2.heap.size:=by omega
  clear m1 m2 hd hk b2 HL
  go_upto_if 35 with fail
  go_cut [36]from 36 (fun _ wx=>Hid (Row wx w.heap.size [.int .i64 f, .int .i64 fl, .int .i64 p1, .int .i64 p2])∧Hid (Keep (fun k=>k=w.heap.size) w2 wx))
  case first=>
    by_cases q:40<fu
    · have e:Hid (fl=40):=by unfold Hid;rw [HFL.out,if_pos q]
      have RR:=R2.set 1 (.int .i64 40) (by simp)
      have K2:=(Keep.refl (fun k=>k=w.heap.size) w2).set (p:=⟨w.heap.size,1,none⟩) (Or.inl rfl) (.int .i64 40)
      have HRR:Hid _:=RR
      have HKK:Hid _:=K2
      clear RR K2
      go_wp2
      go_meet
      case rel=>exact⟨by unfold Hid;rw [e.out];exact HRR.out,HKK.out⟩
    · have e:Hid (fl=fu):=by unfold Hid;rw [HFL.out,if_neg q]
      go_wp2
      go_meet
      case rel=>exact⟨by unfold Hid;rw [e.out];exact R2,Keep.refl _ _⟩
  case rest=>
  obtain⟨HR3,HK3⟩:=hcut
  clear R2 r0 r1 r2 r3 f1
  have z3:=HK3.out.size
  have B3:Below w.heap.size w wc:=B2.trans (HK3.out.below (B:=w.heap.size) (by omega) (fun k e=>by omega))
  have M3:Hid (MeP W.heap.size pm S Fm wc):=H1.out.keep HK3.out (fun k h e=>by have:=(meSpec.ft H1.out k h).1;omega)
  have X3:Hid (MeLook px S wc):=(H2.out.keep HK3.out (fun k h e=>by have:=H2.out.ft k h;omega)).look
  obtain⟨r,hr⟩: ∃ r,r=findW S f p1 p2 fl:=⟨_,rfl⟩
  have CA:Hid (∀ w',Below wc.heap.size wc w'→Calls Tryz.prog 6 #[ptR pm, .int .i64 f, .agg #[.int .i64 p1, .int .i64 p2], .int .i64 fl] w' fun e w''=>FindIs r e∧Below w'.heap.size w' w''):=fun w' hb=>by rw [hr];exact wFind meSp W.heap.size pm S 40 Fm w' (meSp.below M3.out hb) HK.out (by decide) (wGo meSp) f p1 p2 fl HF.out HP1.out HP2.out HFR.out.2
  have CB:Hid (∀ w',Below wc.heap.size wc w'→Calls Tryz.prog 7 #[ptR px, .int .i64 f, .agg #[.int .i64 p1, .int .i64 p2], .int .i64 fl] w' fun e w''=>FindIs r e∧Below w'.heap.size w' w''):=fun w' hb=>by rw [hr];exact wrFind px S 40 HK.out (by decide) w' (X3.out.below hb) f p1 p2 fl HF.out HP1.out HP2.out HFR.out.1 HFR.out.2
  have CL:Hid (∀ w',Calls Tryz.prog 8 #[] w' fun e w''=>e= .returned (.bool true)∧Below w'.heap.size w' w''):=fun w'=>aLives16 meSp (wGo meSp) w'
  obtain⟨rf,rx,ry,rn,rk⟩:=r
  unfold FindIs at CA CB
  simp only at CA CB
  have r0:=HR3.out.cell 0 _ rfl
  have r1:=HR3.out.cell 1 _ rfl
  have r2:=HR3.out.cell 2 _ rfl
  have r3:=HR3.out.cell 3 _ rfl
  have lwc:w.heap.size<wc.heap.size:=by omega
  have HRW:Hid _:=HR3.out
  clear hr M3 X3 HK3 H1 H2 HMX HFX HK HFR HFL
  go_wp2_with (go_at_call 6;fail)
  refine Calls.mono (CA.out wc (Below.refl _ _)) ?_
  rintro e w4 ⟨rfl,b4⟩
  obtain⟨w5,hw5⟩: ∃ w5,w5=w4.alloc (.cells #[.int .i64 rx, .int .i64 ry] 32):=⟨_,rfl⟩
  have k5:Below wc.heap.size wc w5:=by rw [hw5];exact b4.alloc b4.size _
  have R5:Row w5 w4.heap.size [.int .i64 rx, .int .i64 ry]:=by rw [hw5];exact Row.new w4 [.int .i64 rx, .int .i64 ry] _
  have l5:w4.heap.size<w5.heap.size:=by rw [hw5];simp
  have B5:=B3.trans (k5.mono (by omega))
  have RW5:Row w5 w.heap.size [.int .i64 f, .int .i64 fl, .int .i64 p1, .int .i64 p2]:=Row.below HRW.out k5 lwc
  have r0:=RW5.cell 0 _ rfl
  have r1:=RW5.cell 1 _ rfl
  have r2:=RW5.cell 2 _ rfl
  have r3:=RW5.cell 3 _ rfl
  have H5:Hid _:=hw5.symm
  rw [hw5]at r0 r1 r2 r3
  clear CA hw5
  go_wp2_with (go_at_call 7;fail)
  rw [H5.out]
  refine Calls.mono (CB.out w5 k5) ?_
  rintro e w6 ⟨rfl,b6⟩
  obtain⟨w7,hw7⟩: ∃ w7,w7=w6.alloc (.cells #[.int .i64 rx, .int .i64 ry] 32):=⟨_,rfl⟩
  have k7:Below w5.heap.size w5 w7:=by rw [hw7];exact b6.alloc b6.size _
  have R7:Row w7 w6.heap.size [.int .i64 rx, .int .i64 ry]:=by rw [hw7];exact Row.new w6 [.int .i64 rx, .int .i64 ry] _
  have R57:=R5.below k7 l5
  have B7:=B5.trans (k7.mono B5.size)
  have x0:=R7.cell 0 _ rfl
  have x1:=R7.cell 1 _ rfl
  have y0:=R57.cell 0 _ rfl
  have y1:=R57.cell 1 _ rfl
  have H7:Hid _:=hw7.symm
  rw [hw7]at x0 x1 y0 y1
  clear CB hw7 H5 r0 r1 r2 r3 RW5 R5 R7 R57
  go_wp2_with (go_at_call 8;fail)
  rw [H7.out]
  refine Calls.mono (CL.out w7) ?_
  rintro e w8 ⟨rfl,b8⟩
  have B8:=B7.trans (b8.mono B7.size)
  clear CL x0 x1 y0 y1
  go_wp2
  go_ret
  exact⟨rfl,B8⟩
theorem own:ownKnob Tryz.prog.godebug=none:=by kernel_rfl
set_option maxRecDepth 100000 in
theorem lifted(os:Os)(started:os.Started)(H:Type)(enc:TypeId×Value→H):
    ReturnsInHanded {} Tryz.checked os 3 .any (Rows.walkFindsSpec.pre6 enc Tryz.prog Tryz.f3 Rows.walkFindsRow.domain false) (Rows.walkFindsSpec.post enc Tryz.prog Tryz.f3 false true false false):=by
  refine returnsInHanded_of_change (C:=Tryz.checked) own started (by kernel_rfl) Tryz.func3
    (ChangeSpec.witness6 (enc:=enc) (C:=Tryz.checked) false ⟨#[], #[.int .i64 0, .slice none 0 0, .agg #[.int .i64 0, .int .i64 0, .int .i64 0, .int .i64 0]], []⟩ 8 (by kernel_rfl) (by kernel_rfl) (by kernel_rfl) (by kernel_rfl)) ?_
  intro W base args ds gs before hval0 hW hcnd _
  have hval: ∀ (j:Nat) t v,Tryz.f3.params[j]? =some t→args[j]? =some v→Value.okWide Tryz.prog W .any base t v:=hval0
  have hW':=hW
  obtain⟨p,q,hA0,hV,rfl,hfz,hnd⟩:=hW
  have hA:DataW.TrodAll enc Tryz.prog W 0 (fun _=>true) true Tryz.f3.params.toList args.toList ds p:=hA0
  rw [Tryz.params3]at hA hval
  obtain⟨v0,vs0,d0,ds0,p0,q0,hargs,rfl,rfl,h0,r0⟩:=trodAll_cons hA
  obtain⟨v1,vs1,d1,ds1,p1,q1,rfl,rfl,rfl,h1,r1⟩:=trodAll_cons r0
  obtain⟨v2,vs2,d2,ds2,p2,q2,rfl,rfl,rfl,h2,r2⟩:=trodAll_cons r1
  obtain⟨rfl,rfl,rfl⟩:=trodAll_nil r2
  obtain rfl:args= #[v0,v1,v2]:=by cases args;simp_all
  obtain⟨rfl,rfl⟩:=trodVars_none hV
  have hlt: ∀ x∈p0++p1++p2,x.block<W.heap.size:=fun x hx=>by simpa using hW'.lt x (by simpa using hx)
  obtain⟨a0,rfl,rfl,rfl,w0⟩:=open_int Tryz.underlying2 (hval 0 2 v0 rfl rfl) h0
  obtain⟨a1,l1,c1,rfl⟩:=okWide_slice Tryz.underlying22 (hval 1 22 v1 rfl rfl)
  have h1k:=h1
  obtain⟨f1,hf1⟩:=h1
  obtain⟨L1,hL1⟩:=acts_view hf1 (fun b o h=>hfz b o (by simp [h])) (fun x hx=>hlt x (by simp [hx]))
  obtain⟨a2_0,a2_1,a2_2,a2_3,rfl,rfl,rfl,w2_0,w2_1,w2_2,w2_3⟩:=open_way (hval 2 26 v2 rfl rfl) h2
  clear hA0 hval0
  have hwalk:=walk a0 (bd_i64 w0).1 (bd_i64 w0).2 a1 l1 c1 L1 a2_0 a2_1 a2_2 a2_3 (bd_i64 w2_0) (bd_i64 w2_1) (bd_i64 w2_2) (bd_i64 w2_3) W hL1
  refine hwalk.mono fun e W' ⟨he,bel⟩=>?_
  subst he
  exact⟨_,rfl,_,_,_, [],_, [],hW',trodAll_mk1 (shut_bool Tryz.underlying4 _),(trodAll_cons_mk (shut_int Tryz.underlying2 w0) (trodAll_cons_mk (Below.trod laidOutA (by kernel_rfl) (of_decide_eq_true (by kernel_rfl)) h1k bel (fun x hx=>hlt x (by simp [hx]))) (trodAll_cons_mk (shut_way w2_0 w2_1 w2_2 w2_3) trodAll_mk0))),rfl,bel.frame _,fun h=>by cases h⟩

/-- The statement. -/
theorem proved:Rows.WalkFindsSaid:=
  OpenClaim.holds_of_wide 3 Tryz.f3 rfl rfl rfl rfl rfl rfl rfl ⟨rfl,rfl,rfl,rfl,rfl⟩ rfl rfl rfl rfl rfl (by kernel_rfl) Tryz.func3 (by kernel_rfl)
    (of_decide_eq_true (by kernel_rfl)) (by unfold Func.isWrapper;first|(rw [if_pos (by decide+kernel)];kernel_rfl)|(rw [if_neg (by decide+kernel)];exact⟨rfl,rfl⟩))
    (fun os started H enc _=>lifted os started H enc)
#print axioms proved
end kfinds
end Go.Proofs.YtaadknpjbogkbaaGreat
