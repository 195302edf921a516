/-
  BucketFinds: a vertex is found, if there is any, and one of the point's own cell, if that has one.
-/
import Derived.Test.YtliajdokamlnnaaP1
import Derived.Test.YtliajdokamlnnaaP2
import Derived.Test.YtliajdokamlnnaaP3
import Derived.Test.YtliajdokamlnnaaP4
import Derived.Test.YtliajdokamlnnaaP5
import Derived.Test.YtliajdokamlnnaaChecked
import Derived.Test.YtliajdokamlnnaaRows
import Derived.Deep.RegionHeld3
import Derived.ProofKit
import Derived.OpenShut
import Derived.Lib.SmallJoins
namespace Go.Proofs.Ytliajdokamlnnaa
open Go.RowKit
set_option linter.unusedVariables false

namespace bfinds
open Go.ChangeShapes Go.WideShapes Go.ChangeAt Go.Joins
theorem bd_i64{x:Int}(h:(Lit.int .i64 x).wf=true): -9223372036854775808≤x∧x≤9223372036854775807:=by
  simp [Lit.wf,IntKind.min,IntKind.max,IntKind.signed,IntKind.bits]at h
  exact⟨by omega,by omega⟩
theorem bd_u8{x:Int}(h:(Lit.int .u8 x).wf=true):0≤x∧x≤255:=by
  simp [Lit.wf,IntKind.min,IntKind.max,IntKind.signed,IntKind.bits]at h
  exact⟨by omega,by omega⟩
theorem bd_u16{x:Int}(h:(Lit.int .u16 x).wf=true):0≤x∧x≤65535:=by
  simp [Lit.wf,IntKind.min,IntKind.max,IntKind.signed,IntKind.bits]at h
  exact⟨by omega,by omega⟩
set_option maxRecDepth 100000 in
set_option maxHeartbeats 8000000 in
theorem walk(n0:Int)(hn1:0≤n0)(hn2:n0≤255)(v:Int)(hv1:0≤v)(hv2:v≤65535)(p0 p1:Int)(hx1: -9223372036854775808≤p0)(hx2:p0≤9223372036854775807)(hy1: -9223372036854775808≤p1)(hy2:p1≤9223372036854775807)(p2 p3:Int)(hz1: -9223372036854775808≤p2)(hz2:p2≤9223372036854775807)(ht1: -9223372036854775808≤p3)(ht2:p3≤9223372036854775807)(w:World):
    Calls Try.prog 5 #[.int .u8 n0, .int .u16 v, .agg #[.int .i64 p0, .int .i64 p1, .int .i64 p2, .int .i64 p3]] w fun e w'=>e= .returned (.bool true)∧Below w.heap.size w w':=by
  obtain⟨W,hW⟩: ∃ W,W=w.alloc (.cells #[.int .i64 p0, .int .i64 p1, .int .i64 p2, .int .i64 p3] 43):=⟨_,rfl⟩
  have bW:Below w.heap.size w W:=by rw [hW];exact(Below.refl _ _).alloc (Nat.le_refl _) _
  have zW:W.heap.size=w.heap.size+1:=by rw [hW];simp
  have RW:Row W w.heap.size [.int .i64 p0, .int .i64 p1, .int .i64 p2, .int .i64 p3]:=by rw [hW];exact Row.new w _ _
  obtain⟨u,hu⟩: ∃ u,u=n0 % 64:=⟨_,rfl⟩
  obtain⟨n,hn⟩: ∃ n:Nat,(n:Int)=1+u:=⟨(1+u).toNat,by omega⟩
  have OK:Hid (GrOk 1000 n):=⟨by omega,by omega,by omega,by omega⟩
  have HV:Hid (0≤v∧v≤65535):=⟨hv1,hv2⟩
  have TV:Hid (wrap64 v=v):=wrap_in (by omega) (by omega)
  have t1:n0.tmod 64=u:=by rw [hu];exact Int.tmod_eq_emod_of_nonneg hn1
  have t2:wrap64 u=u:=wrap_in (by omega) (by omega)
  have t3:wrap64 (1+u)=(n:Int):=by rw [hn];exact wrap_in (by clear t2;omega) (by clear t2;omega)
  have B0:Hid (-9223372036854775808≤p0∧p0≤9223372036854775807):=⟨hx1,hx2⟩
  have B1:Hid (-9223372036854775808≤p1∧p1≤9223372036854775807):=⟨hy1,hy2⟩
  have B2:Hid (-9223372036854775808≤p2∧p2≤9223372036854775807):=⟨hz1,hz2⟩
  have B3:Hid (-9223372036854775808≤p3∧p3≤9223372036854775807):=⟨ht1,ht2⟩
  have hwl:w.heap.size<W.heap.size:=by clear t1 t2 t3;omega
  have hwe:w.heap.size≤W.heap.size:=by clear t1 t2 t3;omega
  clear hn hu hn1 hn2 hx1 hx2 hy1 hy2 hz1 hz2 ht1 ht2 hv1 hv2 zW
  go_enter Try.func5,Try.ntmps5
  go_wp2_with (go_at_call 8;fail)
  rw [←hW]
  clear hW
  refine(bkNew W.heap.size 1000 n n W OK.out rfl (Nat.le_refl _)).mono ?_
  rintro e w1 ⟨g,F,rfl,H1,hF1,b1⟩
  simp only [t3]
  clear t1 t2 t3
  have R1:=RW.below b1 hwl
  have q0:=R1.cell 0 _ rfl
  have q1:=R1.cell 1 _ rfl
  have q2:=R1.cell 2 _ rfl
  have q3:=R1.cell 3 _ rfl
  obtain⟨a,b,hab⟩: ∃ a b,(a,b)=cellC p0 p1 1000 n:=⟨_,_,rfl⟩
  obtain⟨c,d,hcd⟩: ∃ c d,(c,d)=cellC p2 p3 1000 n:=⟨_,_,rfl⟩
  have HAB:Hid _:=hab
  have HCD:Hid _:=hcd
  clear hab hcd
  have CR:Hid (Calls Try.prog 10 #[.agg #[.int .i64 p0, .int .i64 p1], .int .i64 1000, .int .i64 (n:Int)] w1 fun e w'=>e= .returned (.tuple #[.int .i64 a, .int .i64 b])∧Below w1.heap.size w1 w'):=rkCell n 1000 p0 p1 w1 B0.out B1.out OK.out HAB.out
  go_wp2_with (go_at_call 10;fail)
  refine Calls.mono CR.out ?_
  rintro e w2 ⟨rfl,b2⟩
  clear CR q0 q1 q2 q3
  have bW2:Below W.heap.size W w2:=below_to b1 b2
  have R2:=RW.below bW2 hwl
  have q0:=R2.cell 0 _ rfl
  have q1:=R2.cell 1 _ rfl
  have q2:=R2.cell 2 _ rfl
  have q3:=R2.cell 3 _ rfl
  have CR:Hid (Calls Try.prog 10 #[.agg #[.int .i64 p2, .int .i64 p3], .int .i64 1000, .int .i64 (n:Int)] w2 fun e w'=>e= .returned (.tuple #[.int .i64 c, .int .i64 d])∧Below w2.heap.size w2 w'):=rkCell n 1000 p2 p3 w2 B2.out B3.out OK.out HCD.out
  go_wp2_with (go_at_call 10;fail)
  refine Calls.mono CR.out ?_
  rintro e w3 ⟨rfl,b3⟩
  clear CR q0 q1 q2 q3
  have bW3:Below W.heap.size W w3:=bW2.trans (b3.mono bW2.size)
  have R3:=RW.below bW3 hwl
  have q0:=R3.cell 0 _ rfl
  have q1:=R3.cell 1 _ rfl
  have q2:=R3.cell 2 _ rfl
  have q3:=R3.cell 3 _ rfl
  have H3:=(H1.below b2).below b3
  clear H1 b1 b2 b3 R1 R2 bW2
  by_cases hno:a<0∨c<0
  · have CN:Hid (Calls Try.prog 17 #[.pointer (some ⟨g,0,none⟩), .agg #[.int .i64 p0, .int .i64 p1]] w3 fun e w'=>e= .returned (.int .i64 (-1))∧Below w3.heap.size w3 w'):=bkNear W.heap.size g n 1000 0 p0 p1 _ F w3 H3 OK.out (near_empty p0 p1 1000 n)
    have cond:a<0∨(¬a<0∧c<0):=by omega
    clear hno H3 hF1
    rcases cond with c1|⟨c1,c2⟩
    all_goals
      go_wp2_with (go_at_call 17;fail)
      refine Calls.mono CN.out ?_
      rintro e w4 ⟨rfl,b4⟩
      clear CN
      have bW4:Below W.heap.size W w4:=bW3.trans (b4.mono bW3.size)
      go_wp2_with (go_at_call 11;fail)
      refine(bkLives w4).mono ?_
      rintro e w5 ⟨rfl,b5⟩
      go_wp2
      go_ret
      exact⟨rfl,bW.trans ((bW4.trans (b5.mono bW4.size)).mono hwe)⟩
  · obtain⟨i,j,hc1,hi,hj,hh1⟩: ∃ i j:Nat,cellC p0 p1 1000 n=((i:Int),(j:Int))∧i<n∧j<n∧homeC p0 p1 1000=true:=by
      rcases cell_dec p0 p1 1000 n OK.out with⟨hc,hh⟩|h
      · have e:=HAB.out;rw [hc]at e;simp at e;omega
      · exact h
    obtain⟨k,l,hc2,hk,hl,hh2⟩: ∃ i j:Nat,cellC p2 p3 1000 n=((i:Int),(j:Int))∧i<n∧j<n∧homeC p2 p3 1000=true:=by
      rcases cell_dec p2 p3 1000 n OK.out with⟨hc,hh⟩|h
      · have e:=HCD.out;rw [hc]at e;simp at e;omega
      · exact h
    obtain⟨rfl,rfl⟩:a=(i:Int)∧b=(j:Int):=by have e:=HAB.out;rw [hc1]at e;simpa using e
    obtain⟨rfl,rfl⟩:c=(k:Int)∧d=(l:Int):=by have e:=HCD.out;rw [hc2]at e;simpa using e
    have l1:=lst_yes hc1 hh1
    have l2:=lst_yes hc2 hh2
    obtain⟨L1,hL1⟩: ∃ L1,L1=upd (fun _=> []) (i*n+j) [v]:=⟨_,rfl⟩
    have e1:putL (fun _=> []) (some (i*n+j)) v=L1:=by rw [hL1];rfl
    have s1: ∀ q,(L1 q).Pairwise (· ≤ ·):=fun q=>by rw [hL1];unfold upd;split<;>simp
    have n1: ∀ q,(L1 q).length≤1000:=fun q=>by rw [hL1];unfold upd;split<;>simp
    have r1:v=nearR L1 p2 p3 1000 n:=by rw [near_yes hc2 hh2,hL1,near_one hi hj hk hl]
    obtain⟨r,hr⟩: ∃ r,r=nearR (upd L1 (k*n+l) (insL (L1 (k*n+l)) 70000)) p2 p3 1000 n:=⟨_,rfl⟩
    have r2:(i=k∧j=l∧r=v)∨r=70000:=by rw [hr,near_yes hc2 hh2,hL1];exact near_two hi hj hk hl HV.out.2
    have a0: ¬(i:Int)<0:=by omega
    have a1: ¬(k:Int)<0:=by omega
    have C1:Hid (Calls Try.prog 14 #[.pointer (some ⟨g,0,none⟩), .int .i64 v, .agg #[.int .i64 p0, .int .i64 p1]] w3 fun e w'=>e= .returned (.tuple #[])∧LeftB (GrP W.heap.size g 1000 n L1 1) F w3 w'):=by
      have:=bkPut W.heap.size g n 1000 0 v p0 p1 _ F w3 H3 OK.out (fun _=>by simp) (fun _=>List.Pairwise.nil) ⟨by omega,by omega⟩
      rw [l1,e1]at this
      exact this
    have HX:Hid ((∀ q,(L1 q).Pairwise (· ≤ ·))∧(∀ q,(L1 q).length≤1000)∧v=nearR L1 p2 p3 1000 n∧r=nearR (upd L1 (k*n+l) (insL (L1 (k*n+l)) 70000)) p2 p3 1000 n∧((i=k∧j=l∧r=v)∨r=70000)∧lstC p2 p3 1000 n=some (k*n+l)):=⟨s1,n1,r1,hr,r2,l2⟩
    clear s1 n1 r1 hr r2 hL1 e1 l1 l2 hc1 hc2 hh1 hh2 hno H3 HAB HCD
    have tv:=TV.out
    go_wp2_with (go_at_call 14;fail)
    refine Calls.mono C1.out ?_
    rintro e w4 ⟨rfl,lf⟩
    clear C1 q0 q1 q2 q3
    obtain⟨F4,H4,hF4,bW4⟩:=lf.below bW3 hF1
    clear lf bW3 hF1
    have R4:=RW.below bW4 hwl
    have q2:=R4.cell 2 _ rfl
    have q3:=R4.cell 3 _ rfl
    have C2:Hid (Calls Try.prog 17 #[.pointer (some ⟨g,0,none⟩), .agg #[.int .i64 p2, .int .i64 p3]] w4 fun e w'=>e= .returned (.int .i64 v)∧Below w4.heap.size w4 w'):=bkNear W.heap.size g n 1000 1 p2 p3 L1 F4 w4 H4 OK.out HX.out.2.2.1
    go_wp2_with (go_at_call 17;fail)
    refine Calls.mono C2.out ?_
    rintro e w5 ⟨rfl,b5⟩
    clear C2 q2 q3
    have bW5:Below W.heap.size W w5:=bW4.trans (b5.mono bW4.size)
    have H5:=H4.below b5
    have R5:=RW.below bW5 hwl
    have q2:=R5.cell 2 _ rfl
    have q3:=R5.cell 3 _ rfl
    have C3:Hid (Calls Try.prog 14 #[.pointer (some ⟨g,0,none⟩), .int .i64 70000, .agg #[.int .i64 p2, .int .i64 p3]] w5 fun e w'=>e= .returned (.tuple #[])∧LeftB (GrP W.heap.size g 1000 n (upd L1 (k*n+l) (insL (L1 (k*n+l)) 70000)) 2) F4 w5 w'):=by
      have:=bkPut W.heap.size g n 1000 1 70000 p2 p3 L1 F4 w5 H5 OK.out HX.out.2.1 HX.out.1 ⟨by omega,by omega⟩
      rw [HX.out.2.2.2.2.2]at this
      exact this
    clear H4 R4 bW4
    go_wp2_with (go_at_call 14;fail)
    refine Calls.mono C3.out ?_
    rintro e w6 ⟨rfl,lf⟩
    clear C3 q2 q3
    obtain⟨F6,H6,hF6,bW6⟩:=lf.below bW5 hF4
    clear lf bW5 hF4 H5 R5
    have R6:=RW.below bW6 hwl
    have q2:=R6.cell 2 _ rfl
    have q3:=R6.cell 3 _ rfl
    have C4:Hid (Calls Try.prog 17 #[.pointer (some ⟨g,0,none⟩), .agg #[.int .i64 p2, .int .i64 p3]] w6 fun e w'=>e= .returned (.int .i64 r)∧Below w6.heap.size w6 w'):=bkNear W.heap.size g n 1000 2 p2 p3 _ F6 w6 H6 OK.out HX.out.2.2.2.1
    go_wp2_with (go_at_call 17;fail)
    refine Calls.mono C4.out ?_
    rintro e w7 ⟨rfl,b7⟩
    clear C4 q2 q3
    have bW7:Below W.heap.size W w7:=bW6.trans (b7.mono bW6.size)
    have H7:=H6.below b7
    have C5:Hid (Calls Try.prog 16 #[.pointer (some ⟨g,0,none⟩)] w7 fun e w'=>e= .returned (.int .i64 2)∧Below w7.heap.size w7 w'):=by
      obtain⟨⟨vv,A,hOO,_⟩,_⟩:=H7
      exact bkLen g vv n 1000 2 w7 hOO.row
    clear H6 R6 bW6 H7
    by_cases hr7:r=70000
    · subst hr7
      clear HX
      go_wp2_with (go_at_call 16;fail)
      refine Calls.mono C5.out ?_
      rintro e w8 ⟨rfl,b8⟩
      have bW8:Below W.heap.size W w8:=bW7.trans (b8.mono bW7.size)
      go_wp2_with (go_at_call 11;fail)
      refine(bkLives w8).mono ?_
      rintro e w9 ⟨rfl,b9⟩
      go_wp2
      go_ret
      exact⟨rfl,bW.trans ((bW8.trans (b9.mono bW8.size)).mono hwe)⟩
    · obtain⟨rfl,rfl,rfl⟩:i=k∧j=l∧r=v:=by rcases HX.out.2.2.2.2.1 with h|h;exact h;exact absurd h hr7
      clear HX
      go_wp2_with (go_at_call 16;fail)
      refine Calls.mono C5.out ?_
      rintro e w8 ⟨rfl,b8⟩
      have bW8:Below W.heap.size W w8:=bW7.trans (b8.mono bW7.size)
      go_wp2_with (go_at_call 11;fail)
      refine(bkLives w8).mono ?_
      rintro e w9 ⟨rfl,b9⟩
      go_wp2
      go_ret
      exact⟨rfl,bW.trans ((bW8.trans (b9.mono bW8.size)).mono hwe)⟩
theorem own:ownKnob Try.prog.godebug=none:=by kernel_rfl
set_option maxRecDepth 100000 in
theorem lifted(os:Os)(started:os.Started)(H:Type)(enc:TypeId×Value→H):
    ReturnsInHanded {} Try.checked os 5 .any (Rows.bucketFindsSpec.pre6 enc Try.prog Try.f5 Rows.bucketFindsRow.domain false) (Rows.bucketFindsSpec.post enc Try.prog Try.f5 false true false false):=by
  refine returnsInHanded_of_change (C:=Try.checked) own started (by kernel_rfl) Try.func5
    (ChangeSpec.witness6 (enc:=enc) (C:=Try.checked) false ⟨#[], #[.int .u8 0, .int .u16 0, .agg #[.int .i64 0, .int .i64 0, .int .i64 0, .int .i64 0]], []⟩ 8 (by kernel_rfl) (by kernel_rfl) (by kernel_rfl) (by kernel_rfl)) ?_
  intro W base args ds gs before hval0 hW hcnd _
  have hval: ∀ (j:Nat) t v,Try.f5.params[j]? =some t→args[j]? =some v→Value.okWide Try.prog W .any base t v:=hval0
  have hW':=hW
  obtain⟨p,q,hA0,hV,rfl,hfz,hnd⟩:=hW
  have hA:DataW.TrodAll enc Try.prog W 0 (fun _=>true) true Try.f5.params.toList args.toList ds p:=hA0
  rw [Try.params5]at hA hval
  obtain⟨v0,vs0,d0,ds0,p0,q0,hargs,rfl,rfl,h0,r0⟩:=trodAll_cons hA
  obtain⟨v1,vs1,d1,ds1,p1,q1,rfl,rfl,rfl,h1,r1⟩:=trodAll_cons r0
  obtain⟨v2,vs2,d2,ds2,p2,q2,rfl,rfl,rfl,h2,r2⟩:=trodAll_cons r1
  obtain⟨rfl,rfl,rfl⟩:=trodAll_nil r2
  obtain rfl:args= #[v0,v1,v2]:=by cases args;simp_all
  obtain⟨rfl,rfl⟩:=trodVars_none hV
  obtain⟨a0,rfl,rfl,rfl,w0⟩:=open_int Try.underlying5 (hval 0 5 v0 rfl rfl) h0
  obtain⟨a1,rfl,rfl,rfl,w1⟩:=open_int Try.underlying42 (hval 1 42 v1 rfl rfl) h1
  obtain⟨a2_0,a2_1,a2_2,a2_3,rfl,rfl,rfl,w2_0,w2_1,w2_2,w2_3⟩:=open_pt2 (hval 2 43 v2 rfl rfl) h2
  clear hA0 hval0
  have hwalk:=walk a0 (bd_u8 w0).1 (bd_u8 w0).2 a1 (bd_u16 w1).1 (bd_u16 w1).2 a2_0 a2_1 (bd_i64 w2_0).1 (bd_i64 w2_0).2 (bd_i64 w2_1).1 (bd_i64 w2_1).2 a2_2 a2_3 (bd_i64 w2_2).1 (bd_i64 w2_2).2 (bd_i64 w2_3).1 (bd_i64 w2_3).2 W
  refine hwalk.mono fun e W' ⟨he,bel⟩=>?_
  subst he
  exact⟨_,rfl,_,_,_, [],_, [],hW',trodAll_mk1 (shut_bool Try.underlying4 _),(trodAll_cons_mk (shut_int Try.underlying5 w0) (trodAll_cons_mk (shut_int Try.underlying42 w1) (trodAll_cons_mk (shut_pt2 w2_0 w2_1 w2_2 w2_3) trodAll_mk0))),rfl,bel.frame _,fun h=>by cases h⟩

/-- The statement. -/
theorem proved:Rows.BucketFindsSaid:=
  OpenClaim.holds_of_wide 5 Try.f5 rfl rfl rfl rfl rfl rfl rfl ⟨rfl,rfl,rfl,rfl,rfl⟩ rfl rfl rfl rfl rfl (by kernel_rfl) Try.func5 (by kernel_rfl)
    (of_decide_eq_true (by kernel_rfl)) (by unfold Func.isWrapper;first|(rw [if_pos (by decide+kernel)];kernel_rfl)|(rw [if_neg (by decide+kernel)];exact⟨rfl,rfl⟩))
    (fun os started H enc _=>lifted os started H enc)
#print axioms proved
end bfinds
end Go.Proofs.Ytliajdokamlnnaa
