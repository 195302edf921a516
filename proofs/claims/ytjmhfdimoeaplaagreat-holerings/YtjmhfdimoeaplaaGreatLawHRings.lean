/-
  HoleRings: what stands about any vertex of any mesh, turning left, for every side, every list of acts and every number.
-/
import Derived.Test.YtjmhfdimoeaplaaGreatP1
import Derived.Test.YtjmhfdimoeaplaaGreatP2
import Derived.Test.YtjmhfdimoeaplaaGreatP3
import Derived.Test.YtjmhfdimoeaplaaGreatP4
import Derived.Test.YtjmhfdimoeaplaaGreatP5
import Derived.Test.YtjmhfdimoeaplaaGreatP6
import Derived.Test.YtjmhfdimoeaplaaGreatP7
import Derived.Test.YtjmhfdimoeaplaaGreatP8
import Derived.Test.YtjmhfdimoeaplaaGreatP9
import Derived.Test.YtjmhfdimoeaplaaGreatP10
import Derived.Test.YtjmhfdimoeaplaaGreatP11
import Derived.Test.YtjmhfdimoeaplaaGreatP12
import Derived.Test.YtjmhfdimoeaplaaGreatP13
import Derived.Test.YtjmhfdimoeaplaaGreatP14
import Derived.Test.YtjmhfdimoeaplaaGreatP15
import Derived.Test.YtjmhfdimoeaplaaGreatP16
import Derived.Test.YtjmhfdimoeaplaaGreatP17
import Derived.Test.YtjmhfdimoeaplaaGreatP18
import Derived.Test.YtjmhfdimoeaplaaGreatP19
import Derived.Test.YtjmhfdimoeaplaaGreatP20
import Derived.Test.YtjmhfdimoeaplaaGreatQHRings1
import Derived.Test.YtjmhfdimoeaplaaGreatQHRings2
import Derived.Test.YtjmhfdimoeaplaaGreatQHRings3
import Derived.Test.YtjmhfdimoeaplaaGreatChecked
import Derived.Test.YtjmhfdimoeaplaaGreatRows
namespace Go.Proofs.YtjmhfdimoeaplaaGreat
open Go.RowKit
set_option linter.unusedVariables false

namespace hrings
open Go.ChangeShapes Go.WideShapes Go.ChangeAt Go.Joins
theorem bd_i64{x:Int}(h:(Lit.int .i64 x).wf=true): -9223372036854775808≤x∧x≤9223372036854775807:=bd_act h
theorem walk(side:Int)(h1: -9223372036854775808≤side)(h2:side≤9223372036854775807)(a1:Option Addr)(l1 c1:Nat)(L1:List Act)(v:Int)(h3: -9223372036854775808≤v)(h4:v≤9223372036854775807)(w:World)(hL:ActsAt w a1 l1 c1 L1):
    Calls Tryz.prog 7 #[.int .i64 side, .slice a1 l1 c1, .int .i64 v] w fun e w'=>e= .returned (.bool true)∧Below w.heap.size w w':=hrings_of side a1 l1 c1 L1 v w hL ⟨h3,h4⟩
theorem own:ownKnob Tryz.prog.godebug=none:=by kernel_rfl
set_option maxRecDepth 100000 in
theorem lifted(os:Os)(started:os.Started)(H:Type)(enc:TypeId×Value→H):
    ReturnsInHanded {} Tryz.checked os 7 .any (Rows.holeRingsSpec.pre6 enc Tryz.prog Tryz.f7 Rows.holeRingsRow.domain false) (Rows.holeRingsSpec.post enc Tryz.prog Tryz.f7 false true false false):=by
  refine returnsInHanded_of_change (C:=Tryz.checked) own started (by kernel_rfl) Tryz.func7
    (ChangeSpec.witness6 (enc:=enc) (C:=Tryz.checked) false ⟨#[], #[.int .i64 0, .slice none 0 0, .int .i64 0], []⟩ 8 (by kernel_rfl) (by kernel_rfl) (by kernel_rfl) (by kernel_rfl)) ?_
  intro W base args ds gs before hval0 hW hcnd _
  have hval: ∀ (j:Nat) t v,Tryz.f7.params[j]? =some t→args[j]? =some v→Value.okWide Tryz.prog W .any base t v:=hval0
  have hW':=hW
  obtain⟨p,q,hA0,hV,rfl,hfz,hnd⟩:=hW
  have hA:DataW.TrodAll enc Tryz.prog W 0 (fun _=>true) true Tryz.f7.params.toList args.toList ds p:=hA0
  rw [Tryz.params7]at hA hval
  obtain⟨v0,vs0,d0,ds0,p0,q0,hargs,rfl,rfl,h0,r0⟩:=trodAll_cons hA
  obtain⟨v1,vs1,d1,ds1,p1,q1,rfl,rfl,rfl,h1,r1⟩:=trodAll_cons r0
  obtain⟨v2,vs2,d2,ds2,p2,q2,rfl,rfl,rfl,h2,r2⟩:=trodAll_cons r1
  obtain⟨rfl,rfl,rfl⟩:=trodAll_nil r2
  obtain rfl:args= #[v0,v1,v2]:=by cases args;simp_all
  obtain⟨rfl,rfl⟩:=trodVars_none hV
  have hlt: ∀ x∈p0++p1++p2,x.block<W.heap.size:=fun x hx=>by simpa using hW'.lt x (by simpa using hx)
  obtain⟨a0,rfl,rfl,rfl,w0⟩:=open_int Tryz.underlying2 (hval 0 2 v0 rfl rfl) h0
  obtain⟨a1,l1,c1,rfl⟩:=okWide_slice Tryz.underlying74 (hval 1 74 v1 rfl rfl)
  have h1k:=h1
  obtain⟨f1,hf1⟩:=h1
  obtain⟨L1,hL1⟩:=acts_view hf1 (fun b o h=>hfz b o (by simp [h])) (fun x hx=>hlt x (by simp [hx]))
  obtain⟨a2,rfl,rfl,rfl,w2⟩:=open_int Tryz.underlying3 (hval 2 3 v2 rfl rfl) h2
  clear hA0 hval0
  have hwalk:=walk a0 (bd_i64 w0).1 (bd_i64 w0).2 a1 l1 c1 L1 a2 (bd_i64 w2).1 (bd_i64 w2).2 W hL1
  refine hwalk.mono fun e W' ⟨he,bel⟩=>?_
  subst he
  exact⟨_,rfl,_,_,_, [],_, [],hW',trodAll_mk1 (shut_bool Tryz.underlying4 _),(trodAll_cons_mk (shut_int Tryz.underlying2 w0) (trodAll_cons_mk (Below.trod laidOutA (by kernel_rfl) (of_decide_eq_true (by kernel_rfl)) h1k bel (fun x hx=>hlt x (by simp [hx]))) (trodAll_cons_mk (shut_int Tryz.underlying3 w2) trodAll_mk0))),rfl,bel.frame _,fun h=>by cases h⟩

/-- The statement. -/
theorem proved:Rows.HoleRingsSaid:=
  OpenClaim.holds_of_wide 7 Tryz.f7 rfl rfl rfl rfl rfl rfl rfl ⟨rfl,rfl,rfl,rfl,rfl⟩ rfl rfl rfl rfl rfl (by kernel_rfl) Tryz.func7 (by kernel_rfl)
    (of_decide_eq_true (by kernel_rfl)) (by unfold Func.isWrapper;first|(rw [if_pos (by decide+kernel)];kernel_rfl)|(rw [if_neg (by decide+kernel)];exact⟨rfl,rfl⟩))
    (fun os started H enc _=>lifted os started H enc)
#print axioms proved
end hrings
end Go.Proofs.YtjmhfdimoeaplaaGreat
