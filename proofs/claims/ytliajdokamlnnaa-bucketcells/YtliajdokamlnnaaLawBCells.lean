/-
  BucketCells: any point's cell.
-/
import Derived.Test.YtliajdokamlnnaaP1
import Derived.Test.YtliajdokamlnnaaP2
import Derived.Test.YtliajdokamlnnaaP3
import Derived.Test.YtliajdokamlnnaaP4
import Derived.Test.YtliajdokamlnnaaP5
import Derived.Test.YtliajdokamlnnaaChecked
import Derived.Test.YtliajdokamlnnaaRows
import Derived.Deep.RegionHeld3
import Derived.ProofKit
import Derived.OpenShut
import Derived.Lib.SmallJoins
namespace Go.Proofs.Ytliajdokamlnnaa
open Go.RowKit
set_option linter.unusedVariables false

namespace bcells
open Go.ChangeShapes Go.WideShapes Go.ChangeAt Go.Joins
theorem bd_i64{x:Int}(h:(Lit.int .i64 x).wf=true): -9223372036854775808≤x∧x≤9223372036854775807:=by
  simp [Lit.wf,IntKind.min,IntKind.max,IntKind.signed,IntKind.bits]at h
  exact⟨by omega,by omega⟩
theorem bd_u8{x:Int}(h:(Lit.int .u8 x).wf=true):0≤x∧x≤255:=by
  simp [Lit.wf,IntKind.min,IntKind.max,IntKind.signed,IntKind.bits]at h
  exact⟨by omega,by omega⟩
theorem bd_u16{x:Int}(h:(Lit.int .u16 x).wf=true):0≤x∧x≤65535:=by
  simp [Lit.wf,IntKind.min,IntKind.max,IntKind.signed,IntKind.bits]at h
  exact⟨by omega,by omega⟩
set_option maxRecDepth 100000 in
set_option maxHeartbeats 4000000 in
theorem walk(s0:Int)(hs1: -9223372036854775808≤s0)(hs2:s0≤9223372036854775807)(n0:Int)(hn1:0≤n0)(hn2:n0≤255)(x y:Int)(hx1: -9223372036854775808≤x)(hx2:x≤9223372036854775807)(hy1: -9223372036854775808≤y)(hy2:y≤9223372036854775807)(w:World):
    Calls Try.prog 3 #[.int .i64 s0, .int .u8 n0, .agg #[.int .i64 x, .int .i64 y]] w fun e w'=>e= .returned (.bool true)∧Below w.heap.size w w':=by
  obtain⟨W,hW⟩: ∃ W,W=w.alloc (.cells #[.int .i64 x, .int .i64 y] 23):=⟨_,rfl⟩
  have bW:Below w.heap.size w W:=by rw [hW];exact(Below.refl _ _).alloc (Nat.le_refl _) _
  have zW:W.heap.size=w.heap.size+1:=by rw [hW];simp
  have RW:Row W w.heap.size [.int .i64 x, .int .i64 y]:=by rw [hW];exact Row.new w _ _
  have r0:=RW.cell 0 _ rfl
  have r1:=RW.cell 1 _ rfl
  obtain⟨u,hu⟩: ∃ u,u=n0 % 64:=⟨_,rfl⟩
  obtain⟨n,hn⟩: ∃ n:Nat,(n:Int)=1+u:=⟨(1+u).toNat,by omega⟩
  have t1:n0.tmod 64=u:=by rw [hu];exact Int.tmod_eq_emod_of_nonneg hn1
  have t2:wrap64 u=u:=wrap_in (by omega) (by omega)
  have t3:wrap64 (1+u)=(n:Int):=by rw [hn];exact wrap_in (by clear t2;omega) (by clear t2;omega)
  have gi:=goodS_in s0
  obtain⟨s,hs⟩: ∃ s,s=goodS s0:=⟨_,rfl⟩
  have OK:Hid (GrOk s n):=⟨by rw [hs];exact gi.1,by rw [hs];exact gi.2,by clear t1 t2 t3;omega,by clear t1 t2 t3;omega⟩
  have CG:Hid (Calls Try.prog 7 #[.int .i64 s0] W fun e w'=>e= .returned (.int .i64 s)∧w'=W):=by rw [hs];exact bkGood s0 W
  obtain⟨a,b,hab⟩: ∃ a b,(a,b)=cellC x y s n:=⟨_,_,rfl⟩
  have HAB:Hid _:=hab
  have BX:Hid (-9223372036854775808≤x∧x≤9223372036854775807):=⟨hx1,hx2⟩
  have BY:Hid (-9223372036854775808≤y∧y≤9223372036854775807):=⟨hy1,hy2⟩
  clear hab hs gi hn hu hs1 hs2 hn1 hn2 hx1 hx2 hy1 hy2
  go_enter Try.func3,Try.ntmps3
  go_wp2_with (go_at_call 7;fail)
  rw [←hW]
  clear hW
  refine Calls.mono CG.out ?_
  rintro e w1 ⟨rfl,hw1⟩
  subst hw1
  clear CG
  have hwl:w.heap.size<w1.heap.size:=by clear t1 t2 t3;omega
  have hwe:w.heap.size≤w1.heap.size:=by clear t1 t2 t3;omega
  clear zW
  have CN:Hid (∀ w',Below w1.heap.size w1 w'→Calls Try.prog 8 #[.int .i64 s, .int .i64 (n:Int)] w' (GotNew w'.heap.size s n w')):=fun w' hb=>bkNew w'.heap.size s n n w' OK.out rfl (Nat.le_refl _)
  go_wp2

  have HSc:Hid (∀ w',Below (w1.heap.size) w1 w'→(fun w'=>w'.cell? ⟨w.heap.size,0,none⟩=some (.int .i64 x)∧w'.cell? ⟨w.heap.size,1,none⟩=some (.int .i64 y)∧Below (w1.heap.size) w1 w') w'):=by
    unfold Hid
    intro w' hb
    exact⟨(hb.cell (p:=⟨w.heap.size,0,none⟩) hwl).trans r0,(hb.cell (p:=⟨w.heap.size,1,none⟩) hwl).trans r1,hb⟩
  refine wp_region_held_drew (S:=fun w'=>w'.cell? ⟨w.heap.size,0,none⟩=some (.int .i64 x)∧w'.cell? ⟨w.heap.size,1,none⟩=some (.int .i64 y)∧Below (w1.heap.size) w1 w') (by kernel_rfl) ?_ (fun hHeld=>?_)
  · exact HSc.out _ ((Below.refl _ _).drew)
  refine take_yes (i:=0) (v:=?vc0) rfl (by kernel_rfl) (by kernel_rfl) (by kernel_rfl) (fun _ _ _ h=>h) (by rfl) (by assumption) ?hyc0 ?restc0
  case hyc0=>(intro w hSw;(try dsimp only at hSw);first|(go_simp;done)|(go_simp;with_reducible rfl))
  simp only [Act.put,List.setIfInBounds_toArray,List.set_cons_zero,List.set_cons_succ]
  refine take_yes (i:=1) (v:=?vc1) rfl (by kernel_rfl) (by kernel_rfl) (by kernel_rfl) (fun _ _ _ h=>h) (by rfl) (by assumption) ?hyc1 ?restc1
  case hyc1=>(intro w hSw;(try dsimp only at hSw);first|(go_simp;done)|(go_simp;with_reducible rfl))
  simp only [Act.put,List.setIfInBounds_toArray,List.set_cons_zero,List.set_cons_succ]
  refine take_yes (i:=3) (v:=?vc3) rfl (by kernel_rfl) (by kernel_rfl) (by kernel_rfl) (fun _ _ _ h=>h) (by rfl) (by assumption) ?hyc3 ?restc3
  case hyc3=>(intro w hSw;(try dsimp only at hSw);first|(go_simp;done)|(go_simp;with_reducible rfl))
  simp only [Act.put,List.setIfInBounds_toArray,List.set_cons_zero,List.set_cons_succ]
  refine tcl 2 fun Kc hK=>?_
  go_simp
  (go_at_call 8;refine(CN.out _ hHeld.2.2).mono ?_;rintro e w2 ⟨g,F,rfl,H2,hF2,bo2⟩)
  refine hK.out _ _ ?_ (fun hHeld=>?_)
  · exact HSc.out _ (hHeld.2.2.trans (bo2.mono hHeld.2.2.size))
  clear hK Kc
  obtain⟨vv,hrow⟩: ∃ vv,Row w2 g (grR s n vv 0):=(by obtain⟨⟨vv,A,hO,_⟩,_⟩:=H2;exact⟨vv,hO.row⟩)
  clear H2
  refine tcl 4 fun Kc hK=>?_
  go_simp
  (go_at_call 9;refine(bkCell g vv n s 0 x y _ hrow OK.out HAB.out).mono ?_;rintro e w3 ⟨rfl,bo3⟩)
  refine hK.out _ _ ?_ (fun hHeld=>?_)
  · exact HSc.out _ (hHeld.2.2.trans (bo3.mono hHeld.2.2.size))
  clear hK Kc
  refine take_yes (i:=5) (v:=?vc5) rfl (by kernel_rfl) (by kernel_rfl) (by kernel_rfl) (fun _ _ _ h=>h) (by rfl) (by assumption) ?hyc5 ?restc5
  case hyc5=>(intro w hSw;(try dsimp only at hSw);first|(go_simp;done)|(go_simp;with_reducible rfl))
  simp only [Act.put,List.setIfInBounds_toArray,List.set_cons_zero,List.set_cons_succ]
  refine take_yes (i:=6) (v:=?vc6) rfl (by kernel_rfl) (by kernel_rfl) (by kernel_rfl) (fun _ _ _ h=>h) (by rfl) (by assumption) ?hyc6 ?restc6
  case hyc6=>(intro w hSw;(try dsimp only at hSw);first|(go_simp;done)|(go_simp;with_reducible rfl))
  simp only [Act.put,List.setIfInBounds_toArray,List.set_cons_zero,List.set_cons_succ]
  refine take_yes (i:=7) (v:=?vc7) rfl (by kernel_rfl) (by kernel_rfl) (by kernel_rfl) (fun _ _ _ h=>h) (by rfl) (by assumption) ?hyc7 ?restc7
  case hyc7=>(intro w hSw;(try dsimp only at hSw);first|(go_simp;done)|(go_simp;with_reducible rfl))
  simp only [Act.put,List.setIfInBounds_toArray,List.set_cons_zero,List.set_cons_succ]
  refine take_yes (i:=8) (v:=?vc8) rfl (by kernel_rfl) (by kernel_rfl) (by kernel_rfl) (fun _ _ _ h=>h) (by rfl) (by assumption) ?hyc8 ?restc8
  case hyc8=>(intro w hSw;(try dsimp only at hSw);first|(go_simp;done)|(go_simp;with_reducible rfl))
  simp only [Act.put,List.setIfInBounds_toArray,List.set_cons_zero,List.set_cons_succ]
  refine take_yes (i:=9) (v:=?vc9) rfl (by kernel_rfl) (by kernel_rfl) (by kernel_rfl) (fun _ _ _ h=>h) (by rfl) (by assumption) ?hyc9 ?restc9
  case hyc9=>(intro w hSw;(try dsimp only at hSw);first|(go_simp;done)|(go_simp;with_reducible rfl))
  simp only [Act.put,List.setIfInBounds_toArray,List.set_cons_zero,List.set_cons_succ]
  refine wpAnyH_done (by kernel_rfl) ?_ _
  have b3:=hHeld.2.2
  have q0:=hHeld.1
  have q1:=hHeld.2.1
  have b03:=bW.trans (b3.mono hwe)
  have CR:Hid (Calls Try.prog 10 #[.agg #[.int .i64 x, .int .i64 y], .int .i64 s, .int .i64 (n:Int)] w3 fun e w'=>e= .returned (.tuple #[.int .i64 a, .int .i64 b])∧Below w3.heap.size w3 w'):=rkCell n s x y w3 BX.out BY.out OK.out HAB.out
  clear hrow hHeld CN
  go_wp2_with (go_at_call 10;fail)
  refine Calls.mono CR.out ?_
  rintro e w4 ⟨rfl,b4⟩
  clear CR
  have b04:=below_to b03 b4
  go_wp2_with (go_at_call 11;fail)
  refine(bkLives w4).mono ?_
  rintro e w5 ⟨rfl,b5⟩
  go_wp2
  go_ret
  exact⟨rfl,below_to b04 b5⟩
theorem own:ownKnob Try.prog.godebug=none:=by kernel_rfl
theorem cells_pt:Try.prog.cellsOf 23=2:=by kernel_rfl
theorem reads_pt{H:Type}(enc:TypeId×Value→H)(W:World)(bs:Nat)(sp:Nat→Bool)(hd:Bool){a b:Int}(wa:(Lit.int .i64 a).wf=true)(wb:(Lit.int .i64 b).wf=true):DataW.Trod enc Try.prog W bs sp hd 23 (.agg #[.int .i64 a, .int .i64 b]) (.agg [.lit (.int .i64 a), .lit (.int .i64 b)]) []:=
  shut_agg2 (y0:=(.lit (.int .i64 a), [])) (y1:=(.lit (.int .i64 b), [])) Try.underlying23 (by kernel_rfl) cells_pt ⟨1,by simp [DataW.trod,Try.underlying2,wa]⟩ ⟨1,by simp [DataW.trod,Try.underlying2,wb]⟩
set_option maxRecDepth 100000 in
theorem lifted(os:Os)(started:os.Started)(H:Type)(enc:TypeId×Value→H):
    ReturnsInHanded {} Try.checked os 3 .any (Rows.bucketCellsSpec.pre6 enc Try.prog Try.f3 Rows.bucketCellsRow.domain false) (Rows.bucketCellsSpec.post enc Try.prog Try.f3 false true false false):=by
  refine returnsInHanded_of_change (C:=Try.checked) own started (by kernel_rfl) Try.func3
    (ChangeSpec.witness6 (enc:=enc) (C:=Try.checked) false ⟨#[], #[.int .i64 0, .int .u8 0, .agg #[.int .i64 0, .int .i64 0]], []⟩ 8 (by kernel_rfl) (by kernel_rfl) (by kernel_rfl) (by kernel_rfl)) ?_
  intro W base args ds gs before hval0 hW hcnd _
  have hval: ∀ (j:Nat) t v,Try.f3.params[j]? =some t→args[j]? =some v→Value.okWide Try.prog W .any base t v:=hval0
  have hW':=hW
  obtain⟨p,q,hA0,hV,rfl,hfz,hnd⟩:=hW
  have hA:DataW.TrodAll enc Try.prog W 0 (fun _=>true) true Try.f3.params.toList args.toList ds p:=hA0
  rw [Try.params3]at hA hval
  obtain⟨v0,vs0,d0,ds0,p0,q0,hargs,rfl,rfl,h0,r0⟩:=trodAll_cons hA
  obtain⟨v1,vs1,d1,ds1,p1,q1,rfl,rfl,rfl,h1,r1⟩:=trodAll_cons r0
  obtain⟨v2,vs2,d2,ds2,p2,q2,rfl,rfl,rfl,h2,r2⟩:=trodAll_cons r1
  obtain⟨rfl,rfl,rfl⟩:=trodAll_nil r2
  obtain rfl:args= #[v0,v1,v2]:=by cases args;simp_all
  obtain⟨rfl,rfl⟩:=trodVars_none hV
  obtain⟨a0,rfl,rfl,rfl,w0⟩:=open_int Try.underlying2 (hval 0 2 v0 rfl rfl) h0
  obtain⟨a1,rfl,rfl,rfl,w1⟩:=open_int Try.underlying5 (hval 1 5 v1 rfl rfl) h1
  obtain⟨x2,y2,g2,k2,m2,rfl,rfl,rfl,hx2,hy2⟩:=open_agg2 Try.underlying23 (by kernel_rfl) cells_pt (hval 2 23 v2 rfl rfl) h2
  obtain⟨a2,ex2,rfl,wa2⟩:=DataW.trod_int Try.underlying2 hx2
  obtain⟨b2,ey2,rfl,wb2⟩:=DataW.trod_int Try.underlying2 hy2
  simp at ex2 ey2
  subst ex2 ey2
  clear hA0 hval0
  have hwalk:=walk a0 (bd_i64 w0).1 (bd_i64 w0).2 a1 (bd_u8 w1).1 (bd_u8 w1).2 a2 b2 (bd_i64 wa2).1 (bd_i64 wa2).2 (bd_i64 wb2).1 (bd_i64 wb2).2 W
  refine hwalk.mono fun e W' ⟨he,bel⟩=>?_
  subst he
  exact⟨_,rfl,_,_,_, [],_, [],hW',trodAll_mk1 (shut_bool Try.underlying4 _),(trodAll_cons_mk (shut_int Try.underlying2 w0) (trodAll_cons_mk (shut_int Try.underlying5 w1) (trodAll_cons_mk (reads_pt enc _ _ _ _ wa2 wb2) trodAll_mk0))),rfl,bel.frame _,fun h=>by cases h⟩

/-- The statement. -/
theorem proved:Rows.BucketCellsSaid:=
  OpenClaim.holds_of_wide 3 Try.f3 rfl rfl rfl rfl rfl rfl rfl ⟨rfl,rfl,rfl,rfl,rfl⟩ rfl rfl rfl rfl rfl (by kernel_rfl) Try.func3 (by kernel_rfl)
    (of_decide_eq_true (by kernel_rfl)) (by unfold Func.isWrapper;first|(rw [if_pos (by decide+kernel)];kernel_rfl)|(rw [if_neg (by decide+kernel)];exact⟨rfl,rfl⟩))
    (fun os started H enc _=>lifted os started H enc)
#print axioms proved
end bcells
end Go.Proofs.Ytliajdokamlnnaa
