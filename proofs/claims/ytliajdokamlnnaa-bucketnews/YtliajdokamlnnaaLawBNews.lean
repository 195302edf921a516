/-
  BucketNews: which grids there are, and what is told of one that there is none of.
-/
import Derived.Test.YtliajdokamlnnaaP1
import Derived.Test.YtliajdokamlnnaaP2
import Derived.Test.YtliajdokamlnnaaChecked
import Derived.Test.YtliajdokamlnnaaRows
import Derived.Deep.RegionHeld3
import Derived.ProofKit
import Derived.OpenShut
import Derived.Lib.SmallJoins
namespace Go.Proofs.Ytliajdokamlnnaa
open Go.RowKit
set_option linter.unusedVariables false

namespace bnews
open Go.ChangeShapes Go.WideShapes Go.ChangeAt Go.Joins
theorem bd_i64{x:Int}(h:(Lit.int .i64 x).wf=true): -9223372036854775808≤x∧x≤9223372036854775807:=by
  simp [Lit.wf,IntKind.min,IntKind.max,IntKind.signed,IntKind.bits]at h
  exact⟨by omega,by omega⟩
theorem bd_u8{x:Int}(h:(Lit.int .u8 x).wf=true):0≤x∧x≤255:=by
  simp [Lit.wf,IntKind.min,IntKind.max,IntKind.signed,IntKind.bits]at h
  exact⟨by omega,by omega⟩
theorem bd_u16{x:Int}(h:(Lit.int .u16 x).wf=true):0≤x∧x≤65535:=by
  simp [Lit.wf,IntKind.min,IntKind.max,IntKind.signed,IntKind.bits]at h
  exact⟨by omega,by omega⟩
set_option maxRecDepth 100000 in
set_option maxHeartbeats 4000000 in
theorem walk(s:Int)(hs1: -9223372036854775808≤s)(hs2:s≤9223372036854775807)(c:Int)(hc1: -9223372036854775808≤c)(hc2:c≤9223372036854775807)(x y:Int)(hx1: -9223372036854775808≤x)(hx2:x≤9223372036854775807)(hy1: -9223372036854775808≤y)(hy2:y≤9223372036854775807)(w:World):
    Calls Try.prog 6 #[.int .i64 s, .int .i64 c, .agg #[.int .i64 x, .int .i64 y]] w fun e w'=>e= .returned (.bool true)∧Below w.heap.size w w':=by
  obtain⟨W,hW⟩: ∃ W,W=w.alloc (.cells #[.int .i64 x, .int .i64 y] 23):=⟨_,rfl⟩
  have bW:Below w.heap.size w W:=by rw [hW];exact(Below.refl _ _).alloc (Nat.le_refl _) _
  have zW:W.heap.size=w.heap.size+1:=by rw [hW];simp
  have RW:Row W w.heap.size [.int .i64 x, .int .i64 y]:=by rw [hW];exact Row.new w _ _
  have r0:=RW.cell 0 _ rfl
  have r1:=RW.cell 1 _ rfl
  by_cases hok:1≤s∧s≤17179869184∧1≤c∧c≤64
  · obtain⟨e1,e2,e3,e4⟩:=hok
    obtain⟨n,rfl⟩: ∃ n:Nat,c=(n:Int):=⟨c.toNat,by omega⟩
    have ok:GrOk s n:=⟨e1,e2,by omega,by omega⟩
    have OK:Hid _:=ok
    have hnr:Hid (-1=nearR (fun _=> []) x y s n):=by
      unfold Hid nearR
      split
      · unfold nearV
        rw [find_none (fun i hi=>rfl)]
        rfl
      · rfl
    clear ok hs1 hs2 hc1 hc2 hx1 hx2 hy1 hy2
    go_enter Try.func6,Try.ntmps6
    go_wp2_with (go_at_call 8;fail)
    rw [←hW]
    clear hW
    refine(bkNew W.heap.size s n n W OK.out rfl (Nat.le_refl _)).mono ?_
    rintro e w1 ⟨g,F,rfl,H1,hF1,b1⟩
    have z1:=b1.size
    have R1:=RW.below b1 (by omega)
    have q0:=R1.cell 0 _ rfl
    have q1:=R1.cell 1 _ rfl
    have b01:=below_to bW b1
    clear r0 r1
    have C3:Hid (Calls Try.prog 17 #[.pointer (some ⟨g,0,none⟩), .agg #[.int .i64 x, .int .i64 y]] w1 fun e w'=>e= .returned (.int .i64 (-1))∧Below w1.heap.size w1 w'):=bkNear W.heap.size g n s 0 x y _ F w1 H1 OK.out hnr.out
    go_wp2_with (go_at_call 17;fail)
    refine Calls.mono C3.out ?_
    rintro e w4 ⟨rfl,b4⟩
    clear C3
    have H4:=H1.below b4
    have b04:=below_to b01 b4
    have C4:Hid (Calls Try.prog 16 #[.pointer (some ⟨g,0,none⟩)] w4 fun e w'=>e= .returned (.int .i64 0)∧Below w4.heap.size w4 w'):=by
      obtain⟨⟨vv,A,hO,_⟩,_⟩:=H4
      exact bkLen g vv n s 0 w4 hO.row
    go_wp2_with (go_at_call 16;fail)
    refine Calls.mono C4.out ?_
    rintro e w5 ⟨rfl,b5⟩
    clear C4
    have b05:=below_to b04 b5
    go_wp2_with (go_at_call 11;fail)
    refine(bkLives w5).mono ?_
    rintro e w6 ⟨rfl,b6⟩
    go_wp2
    go_ret
    exact⟨rfl,below_to b05 b6⟩
  · have hno:(1≤s→s≤17179869184→1≤c→ ¬c≤64):=fun a b d e=>hok ⟨a,b,d,e⟩
    have HNO:Hid _:=hok
    clear hok hs1 hs2 hc1 hc2 hx1 hx2 hy1 hy2
    have cond:Hid ((¬1≤s)∨(1≤s∧ ¬s≤17179869184)∨(1≤s∧s≤17179869184∧ ¬1≤c)∨(1≤s∧s≤17179869184∧1≤c∧ ¬c≤64)):=by
      unfold Hid
      by_cases e1:1≤s
      · by_cases e2:s≤17179869184
        · by_cases e3:1≤c
          · exact Or.inr (Or.inr (Or.inr ⟨e1,e2,e3,hno e1 e2 e3⟩))
          · exact Or.inr (Or.inr (Or.inl ⟨e1,e2,e3⟩))
        · exact Or.inr (Or.inl ⟨e1,e2⟩)
      · exact Or.inl e1
    clear hno
    go_enter Try.func6,Try.ntmps6
    go_wp2_with (go_at_call 8;fail)
    rw [←hW]
    clear hW
    refine(bkNew0 s c W HNO.out).mono ?_
    rintro e w1 ⟨rfl,b1⟩
    have z1:=b1.size
    have R1:=RW.below b1 (by omega)
    have b01:=below_to bW b1
    clear r0 r1
    rcases cond.out with e1|⟨e1,e2⟩|⟨e1,e2,e3⟩|⟨e1,e2,e3,e4⟩
    all_goals
      have q0:=R1.cell 0 _ rfl
      have q1:=R1.cell 1 _ rfl
      clear cond HNO
      go_wp2_with (go_at_call 9;fail)
      refine(bkCell0 _ x y w1 rfl).mono ?_
      rintro e w2 ⟨rfl,b2⟩
      have z2:=b2.size
      have R2:=R1.below b2 (by omega)
      have q2:=R2.cell 0 _ rfl
      have q3:=R2.cell 1 _ rfl
      have b02:=below_to b01 b2
      go_wp2_with (go_at_call 14;fail)
      refine(bkPut0 1 x y w2).mono ?_
      rintro e w3 ⟨rfl,b3⟩
      have z3:=b3.size
      have R3:=R2.below b3 (by omega)
      have q4:=R3.cell 0 _ rfl
      have q5:=R3.cell 1 _ rfl
      have b03:=below_to b02 b3
      go_wp2_with (go_at_call 12;fail)
      refine(bkDrop0 1 x y w3).mono ?_
      rintro e w4 ⟨rfl,b4⟩
      have z4:=b4.size
      have R4:=R3.below b4 (by omega)
      have q6:=R4.cell 0 _ rfl
      have q7:=R4.cell 1 _ rfl
      have b04:=below_to b03 b4
      go_wp2_with (go_at_call 17;fail)
      refine(bkNear0 x y w4).mono ?_
      rintro e w5 ⟨rfl,b5⟩
      have b05:=below_to b04 b5
      go_wp2_with (go_at_call 16;fail)
      refine(bkLen0 w5).mono ?_
      rintro e w6 ⟨rfl,b6⟩
      have b06:=below_to b05 b6
      go_wp2_with (go_at_call 11;fail)
      refine(bkLives w6).mono ?_
      rintro e w7 ⟨rfl,b7⟩
      go_wp2
      go_ret
      exact⟨rfl,below_to b06 b7⟩
theorem own:ownKnob Try.prog.godebug=none:=by kernel_rfl
theorem cells_pt:Try.prog.cellsOf 23=2:=by kernel_rfl
theorem reads_pt{H:Type}(enc:TypeId×Value→H)(W:World)(bs:Nat)(sp:Nat→Bool)(hd:Bool){a b:Int}(wa:(Lit.int .i64 a).wf=true)(wb:(Lit.int .i64 b).wf=true):DataW.Trod enc Try.prog W bs sp hd 23 (.agg #[.int .i64 a, .int .i64 b]) (.agg [.lit (.int .i64 a), .lit (.int .i64 b)]) []:=
  shut_agg2 (y0:=(.lit (.int .i64 a), [])) (y1:=(.lit (.int .i64 b), [])) Try.underlying23 (by kernel_rfl) cells_pt ⟨1,by simp [DataW.trod,Try.underlying2,wa]⟩ ⟨1,by simp [DataW.trod,Try.underlying2,wb]⟩
set_option maxRecDepth 100000 in
theorem lifted(os:Os)(started:os.Started)(H:Type)(enc:TypeId×Value→H):
    ReturnsInHanded {} Try.checked os 6 .any (Rows.bucketNewsSpec.pre6 enc Try.prog Try.f6 Rows.bucketNewsRow.domain false) (Rows.bucketNewsSpec.post enc Try.prog Try.f6 false true false false):=by
  refine returnsInHanded_of_change (C:=Try.checked) own started (by kernel_rfl) Try.func6
    (ChangeSpec.witness6 (enc:=enc) (C:=Try.checked) false ⟨#[], #[.int .i64 0, .int .i64 0, .agg #[.int .i64 0, .int .i64 0]], []⟩ 8 (by kernel_rfl) (by kernel_rfl) (by kernel_rfl) (by kernel_rfl)) ?_
  intro W base args ds gs before hval0 hW hcnd _
  have hval: ∀ (j:Nat) t v,Try.f6.params[j]? =some t→args[j]? =some v→Value.okWide Try.prog W .any base t v:=hval0
  have hW':=hW
  obtain⟨p,q,hA0,hV,rfl,hfz,hnd⟩:=hW
  have hA:DataW.TrodAll enc Try.prog W 0 (fun _=>true) true Try.f6.params.toList args.toList ds p:=hA0
  rw [Try.params6]at hA hval
  obtain⟨v0,vs0,d0,ds0,p0,q0,hargs,rfl,rfl,h0,r0⟩:=trodAll_cons hA
  obtain⟨v1,vs1,d1,ds1,p1,q1,rfl,rfl,rfl,h1,r1⟩:=trodAll_cons r0
  obtain⟨v2,vs2,d2,ds2,p2,q2,rfl,rfl,rfl,h2,r2⟩:=trodAll_cons r1
  obtain⟨rfl,rfl,rfl⟩:=trodAll_nil r2
  obtain rfl:args= #[v0,v1,v2]:=by cases args;simp_all
  obtain⟨rfl,rfl⟩:=trodVars_none hV
  obtain⟨a0,rfl,rfl,rfl,w0⟩:=open_int Try.underlying2 (hval 0 2 v0 rfl rfl) h0
  obtain⟨a1,rfl,rfl,rfl,w1⟩:=open_int Try.underlying3 (hval 1 3 v1 rfl rfl) h1
  obtain⟨x2,y2,g2,k2,m2,rfl,rfl,rfl,hx2,hy2⟩:=open_agg2 Try.underlying23 (by kernel_rfl) cells_pt (hval 2 23 v2 rfl rfl) h2
  obtain⟨a2,ex2,rfl,wa2⟩:=DataW.trod_int Try.underlying2 hx2
  obtain⟨b2,ey2,rfl,wb2⟩:=DataW.trod_int Try.underlying2 hy2
  simp at ex2 ey2
  subst ex2 ey2
  clear hA0 hval0
  have hwalk:=walk a0 (bd_i64 w0).1 (bd_i64 w0).2 a1 (bd_i64 w1).1 (bd_i64 w1).2 a2 b2 (bd_i64 wa2).1 (bd_i64 wa2).2 (bd_i64 wb2).1 (bd_i64 wb2).2 W
  refine hwalk.mono fun e W' ⟨he,bel⟩=>?_
  subst he
  exact⟨_,rfl,_,_,_, [],_, [],hW',trodAll_mk1 (shut_bool Try.underlying4 _),(trodAll_cons_mk (shut_int Try.underlying2 w0) (trodAll_cons_mk (shut_int Try.underlying3 w1) (trodAll_cons_mk (reads_pt enc _ _ _ _ wa2 wb2) trodAll_mk0))),rfl,bel.frame _,fun h=>by cases h⟩

/-- The statement. -/
theorem proved:Rows.BucketNewsSaid:=
  OpenClaim.holds_of_wide 6 Try.f6 rfl rfl rfl rfl rfl rfl rfl ⟨rfl,rfl,rfl,rfl,rfl⟩ rfl rfl rfl rfl rfl (by kernel_rfl) Try.func6 (by kernel_rfl)
    (of_decide_eq_true (by kernel_rfl)) (by unfold Func.isWrapper;first|(rw [if_pos (by decide+kernel)];kernel_rfl)|(rw [if_neg (by decide+kernel)];exact⟨rfl,rfl⟩))
    (fun os started H enc _=>lifted os started H enc)
#print axioms proved
end bnews
end Go.Proofs.Ytliajdokamlnnaa
