/-
  Joined texts, part 18:
  What package pred's InCircle answers.
  What does away with what, as it is told: of points that may not be; which one of a list go
  Blocks of six cells: what they hold. It imports nothing of the program.
-/
import Derived.Test.YtjmhfdimoeaplaaGreatP17
import Derived.Test.YtjmhfdimoeaplaaGreatP6
import Derived.Test.YtjmhfdimoeaplaaGreatP7
import Derived.Test.YtjmhfdimoeaplaaGreatP11
import Derived.Test.YtjmhfdimoeaplaaGreatP15
import Derived.Test.YtjmhfdimoeaplaaGreatP2
namespace Go.Proofs.YtjmhfdimoeaplaaGreat
open Go.RowKit
set_option linter.unusedVariables false
def ciP(a1 a2 b1 b2 c1 c2 d1 d2:Int):Int:=if canAll [(a1,a2),(b1,b2),(c1,c2),(d1,d2)]then(detP a1 a2 b1 b2 c1 c2 d1 d2).sign else 0
theorem det_sum(a1 a2 b1 b2 c1 c2 d1 d2:Int):detP a1 a2 b1 b2 c1 c2 d1 d2=distP a1 a2 d1 d2*areaP d1 d2 b1 b2 c1 c2+distP b1 b2 d1 d2*areaP d1 d2 c1 c2 a1 a2+distP c1 c2 d1 d2*areaP d1 d2 a1 a2 b1 b2:=by
 rw [det_areas]
 have e:areaP d1 d2 c1 c2 a1 a2= -areaP d1 d2 a1 a2 c1 c2:=by unfold areaP;grind
 rw [e,Int.mul_neg]
 omega
theorem det_small{a1 a2 b1 b2 c1 c2 d1 d2:Int}(ha:canC a1 a2=true)(hb:canC b1 b2=true)(hc:canC c1 c2=true)(hd:canC d1 d2=true): -57896044618658097711785492504343953926634992332820282019728792003956564819968≤detP a1 a2 b1 b2 c1 c2 d1 d2∧detP a1 a2 b1 b2 c1 c2 d1 d2<57896044618658097711785492504343953926634992332820282019728792003956564819968:=by
 have h:=det_abs (D:=2199023255552) (can_diff (canC_true.1 ha).1 (canC_true.1 hd).1) (can_diff (canC_true.1 ha).2 (canC_true.1 hd).2) (can_diff (canC_true.1 hb).1 (canC_true.1 hd).1) (can_diff (canC_true.1 hb).2 (canC_true.1 hd).2) (can_diff (canC_true.1 hc).1 (canC_true.1 hd).1) (can_diff (canC_true.1 hc).2 (canC_true.1 hd).2)
 have e:3*(2*(2199023255552*2199023255552)*(2*(2199023255552*2199023255552)))=280608314367533360295107487881526339773939048251392:=by decide
 rw [e]at h
 omega
theorem qmulW{ah al bh bl:Int}(a b:Int)(ha:ah=lw.hi a)(hal:al=lw.lo a)(hb:bh=lw.hi b)(hbl:bl=lw.lo b)(ra: -10000000000000000000000000≤a∧a≤10000000000000000000000000)(rb: -10000000000000000000000000≤b∧b≤10000000000000000000000000)(w:World){q0 q1 q2 q3:Int}(hq:lq.Wd (a*b) q0 q1 q2 q3):
  Calls Tryz.prog 211 #[.agg #[.int .i64 ah, .int .u64 al], .agg #[.int .i64 bh, .int .u64 bl]] w fun e w'=>e= .returned (.agg #[.int .u64 q0, .int .u64 q1, .int .u64 q2, .int .u64 q3])∧Below w.heap.size w w':=by
 obtain⟨rfl,rfl,rfl,rfl⟩:=hq
 exact lq.qmul_any a b ha hal hb hbl (by omega) (by omega) (by omega) (by omega) w
theorem qaddW{a0 a1 a2 a3 b0 b1 b2 b3:Int}(a b:Int)(ha:lq.Wd a a0 a1 a2 a3)(hb:lq.Wd b b0 b1 b2 b3)(w:World){q0 q1 q2 q3:Int}(hq:lq.Wd (a+b) q0 q1 q2 q3):
  Calls Tryz.prog 213 #[.agg #[.int .u64 a0, .int .u64 a1, .int .u64 a2, .int .u64 a3], .agg #[.int .u64 b0, .int .u64 b1, .int .u64 b2, .int .u64 b3]] w fun e w'=>e= .returned (.agg #[.int .u64 q0, .int .u64 q1, .int .u64 q2, .int .u64 q3])∧Below w.heap.size w w':=by
 obtain⟨rfl,rfl,rfl,rfl⟩:=hq
 exact lq.qadd_any a b ha hb w
def SpC(m0 m1 m2 m3 s1 t1 u1 v1:Int):Nat→Value→(World→Prop)→(Nat→Prop)→Prop
 |0=>ValIs (.agg #[.int .i64 u1, .int .u64 v1])
 |1=>ValIs (.agg #[.int .i64 s1, .int .u64 t1])
 |2=>ValIs (.agg #[.int .u64 m0, .int .u64 m1, .int .u64 m2, .int .u64 m3])
 |_=>ValIs undef
theorem SpC_good(m0 m1 m2 m3 s1 t1 u1 v1:Int):GoodSp (SpC m0 m1 m2 m3 s1 t1 u1 v1):=fun j x R A h=>match j with
 |0=>valIs_good h
 |1=>valIs_good h
 |2=>valIs_good h
 |k+3=>valIs_good h
def SpCZ:Nat→List Value
 |0=> [.int .u64 0, .int .u64 0, .int .u64 0, .int .u64 0]
 |_=> []
theorem fuel_SpC_b0{bD eD:Nat→Bool}{f:Nat}(hf:f=1+(nb (bD 0)+nb (bD 1)+nb (bD 2)+nb (eD 0)))(h:bD 0=false):f- 1=1+(nb (upd bD 0 true 0)+nb (upd bD 0 true 1)+nb (upd bD 0 true 2)+nb (eD 0)):=by
 have h1:nb (bD 0)=1:=by rw [h];rfl
 have h2:nb (upd bD 0 true 0)=0:=rfl
 have q1:nb (upd bD 0 true 1)=nb (bD 1):=rfl
 have q2:nb (upd bD 0 true 2)=nb (bD 2):=rfl
 omega
theorem fuel_SpC_b1{bD eD:Nat→Bool}{f:Nat}(hf:f=1+(nb (bD 0)+nb (bD 1)+nb (bD 2)+nb (eD 0)))(h:bD 1=false):f- 1=1+(nb (upd bD 1 true 0)+nb (upd bD 1 true 1)+nb (upd bD 1 true 2)+nb (eD 0)):=by
 have h1:nb (bD 1)=1:=by rw [h];rfl
 have h2:nb (upd bD 1 true 1)=0:=rfl
 have q0:nb (upd bD 1 true 0)=nb (bD 0):=rfl
 have q2:nb (upd bD 1 true 2)=nb (bD 2):=rfl
 omega
theorem fuel_SpC_b2{bD eD:Nat→Bool}{f:Nat}(hf:f=1+(nb (bD 0)+nb (bD 1)+nb (bD 2)+nb (eD 0)))(h:bD 2=false):f- 1=1+(nb (upd bD 2 true 0)+nb (upd bD 2 true 1)+nb (upd bD 2 true 2)+nb (eD 0)):=by
 have h1:nb (bD 2)=1:=by rw [h];rfl
 have h2:nb (upd bD 2 true 2)=0:=rfl
 have q0:nb (upd bD 2 true 0)=nb (bD 0):=rfl
 have q1:nb (upd bD 2 true 1)=nb (bD 1):=rfl
 omega
theorem fuel_SpC_e0{bD eD:Nat→Bool}{f:Nat}(hf:f=1+(nb (bD 0)+nb (bD 1)+nb (bD 2)+nb (eD 0)))(h:eD 0=false):f- 1=1+(nb (bD 0)+nb (bD 1)+nb (bD 2)+nb (upd eD 0 true 0)):=by
 have h1:nb (eD 0)=1:=by rw [h];rfl
 have h2:nb (upd eD 0 true 0)=0:=rfl
 omega
set_option maxRecDepth 100000 in
set_option maxHeartbeats 8000000 in
theorem pCircle(a1 a2 b1 b2 c1 c2 d1 d2:Int)(w:World){g:Int}(hg:g=ciP a1 a2 b1 b2 c1 c2 d1 d2):
  Calls Tryz.prog 165 #[.agg #[.int .i64 a1, .int .i64 a2], .agg #[.int .i64 b1, .int .i64 b2], .agg #[.int .i64 c1, .int .i64 c2], .agg #[.int .i64 d1, .int .i64 d2]] w fun e w'=>e= .returned (.int .i64 g)∧Below w.heap.size w w':=by
 cases hq:canAll [(a1,a2),(b1,b2),(c1,c2),(d1,d2)]
 ·skip
  obtain rfl:g=0:=by rw [hg];unfold ciP;rw [hq];rfl
  clear hg
  have HQ:Hid _:=hq
  clear hq
  obtain⟨W,hW,bW,x_a,x_b,x_c,x_d,sW⟩:=bs_2222 w (.int .i64 a1) (.int .i64 a2) (.int .i64 b1) (.int .i64 b2) (.int .i64 c1) (.int .i64 c2) (.int .i64 d1) (.int .i64 d2) 24 24 24 24
  have zbW:=bW.size
  have BB:=bW
  go_enter Tryz.func165,Tryz.ntmps165
  go_wp2_with (go_at_call 197;fail)
  have eV:W.heap.size=w.heap.size+1+1+1+1:=by rw [hW];simp
  rw [←hW]
  clear hW
  obtain⟨V,hV⟩: ∃ V,V=(W.alloc (.cells #[.int .i64 a1, .int .i64 a2, .int .i64 b1, .int .i64 b2, .int .i64 c1, .int .i64 c2, .int .i64 d1, .int .i64 d2] 24)):=⟨_,rfl⟩
  rw [←hV]
  have bV:Below W.heap.size W V:=by rw [hV];exact(Below.refl _ _).alloc (Nat.le_refl _) _
  have rV:Row V W.heap.size [.int .i64 a1, .int .i64 a2, .int .i64 b1, .int .i64 b2, .int .i64 c1, .int .i64 c2, .int .i64 d1, .int .i64 d2]:=by rw [hV];exact Row.new _ _ _
  have lV:W.heap.size<V.heap.size:=by rw [hV];simp
  clear hV
  rw [eV]at rV lV
  have zbV:=bV.size
  replace BB:=also BB bV
  replace x_a:=x_a.on bV
  replace x_b:=x_b.on bV
  replace x_c:=x_c.on bV
  replace x_d:=x_d.on bV
  refine(pcan [(a1,a2),(b1,b2),(c1,c2),(d1,d2)] 4 _ V rfl (by decide) rV lV HQ.out.symm).mono ?_
  rintro e w1 ⟨rfl,bw1⟩
  have zbw1:=bw1.size
  replace BB:=also BB bw1
  replace x_a:=x_a.on bw1
  replace x_b:=x_b.on bw1
  replace x_c:=x_c.on bw1
  replace x_d:=x_d.on bw1
  have⟨x_a_0,x_a_1,x_a_2,x_a_3⟩:=x_a
  have⟨x_b_0,x_b_1,x_b_2,x_b_3⟩:=x_b
  have⟨x_c_0,x_c_1,x_c_2,x_c_3⟩:=x_c
  have⟨x_d_0,x_d_1,x_d_2,x_d_3⟩:=x_d
  go_wp2
  go_ret
  exact⟨rfl,BB⟩
 ·skip
  obtain⟨ha,hb,hc,hd⟩:=can4.1 hq
  replace hg:g=(detP a1 a2 b1 b2 c1 c2 d1 d2).sign:=by rw [hg];unfold ciP;rw [hq];rfl
  have HB:Hid _:=det_small ha hb hc hd
  rw [det_sum]at hg HB
  rw [←lw_sign]at hg
  have HD1:Hid _:=dist_wide ha hd
  have HA1:Hid _:=area_wide hd hb hc
  obtain⟨D1,eD1⟩: ∃ D,D=distP a1 a2 d1 d2:=⟨_,rfl⟩
  obtain⟨A1,eA1⟩: ∃ A,A=areaP d1 d2 b1 b2 c1 c2:=⟨_,rfl⟩
  rw [←eD1]at hg HB HD1
  rw [←eA1]at hg HB HA1
  obtain⟨u1,hu1⟩: ∃ x,x=lw.hi D1:=⟨_,rfl⟩
  have Eu1:Hid (u1=lw.hi (distP a1 a2 d1 d2)):=by unfold Hid;rw [←eD1];exact hu1
  have Hu1:Hid _:=hu1
  clear hu1
  obtain⟨v1,hv1⟩: ∃ x,x=lw.lo D1:=⟨_,rfl⟩
  have Ev1:Hid (v1=lw.lo (distP a1 a2 d1 d2)):=by unfold Hid;rw [←eD1];exact hv1
  have Hv1:Hid _:=hv1
  clear hv1
  obtain⟨s1,hs1⟩: ∃ x,x=lw.hi A1:=⟨_,rfl⟩
  have Es1:Hid (s1=lw.hi (areaP d1 d2 b1 b2 c1 c2)):=by unfold Hid;rw [←eA1];exact hs1
  have Hs1:Hid _:=hs1
  clear hs1
  obtain⟨t1,ht1⟩: ∃ x,x=lw.lo A1:=⟨_,rfl⟩
  have Et1:Hid (t1=lw.lo (areaP d1 d2 b1 b2 c1 c2)):=by unfold Hid;rw [←eA1];exact ht1
  have Ht1:Hid _:=ht1
  clear ht1
  clear eD1 eA1
  have HD2:Hid _:=dist_wide hb hd
  have HA2:Hid _:=area_wide hd hc ha
  obtain⟨D2,eD2⟩: ∃ D,D=distP b1 b2 d1 d2:=⟨_,rfl⟩
  obtain⟨A2,eA2⟩: ∃ A,A=areaP d1 d2 c1 c2 a1 a2:=⟨_,rfl⟩
  rw [←eD2]at hg HB HD2
  rw [←eA2]at hg HB HA2
  obtain⟨u2,hu2⟩: ∃ x,x=lw.hi D2:=⟨_,rfl⟩
  have Eu2:Hid (u2=lw.hi (distP b1 b2 d1 d2)):=by unfold Hid;rw [←eD2];exact hu2
  have Hu2:Hid _:=hu2
  clear hu2
  obtain⟨v2,hv2⟩: ∃ x,x=lw.lo D2:=⟨_,rfl⟩
  have Ev2:Hid (v2=lw.lo (distP b1 b2 d1 d2)):=by unfold Hid;rw [←eD2];exact hv2
  have Hv2:Hid _:=hv2
  clear hv2
  obtain⟨s2,hs2⟩: ∃ x,x=lw.hi A2:=⟨_,rfl⟩
  have Es2:Hid (s2=lw.hi (areaP d1 d2 c1 c2 a1 a2)):=by unfold Hid;rw [←eA2];exact hs2
  have Hs2:Hid _:=hs2
  clear hs2
  obtain⟨t2,ht2⟩: ∃ x,x=lw.lo A2:=⟨_,rfl⟩
  have Et2:Hid (t2=lw.lo (areaP d1 d2 c1 c2 a1 a2)):=by unfold Hid;rw [←eA2];exact ht2
  have Ht2:Hid _:=ht2
  clear ht2
  clear eD2 eA2
  have HD3:Hid _:=dist_wide hc hd
  have HA3:Hid _:=area_wide hd ha hb
  obtain⟨D3,eD3⟩: ∃ D,D=distP c1 c2 d1 d2:=⟨_,rfl⟩
  obtain⟨A3,eA3⟩: ∃ A,A=areaP d1 d2 a1 a2 b1 b2:=⟨_,rfl⟩
  rw [←eD3]at hg HB HD3
  rw [←eA3]at hg HB HA3
  obtain⟨u3,hu3⟩: ∃ x,x=lw.hi D3:=⟨_,rfl⟩
  have Eu3:Hid (u3=lw.hi (distP c1 c2 d1 d2)):=by unfold Hid;rw [←eD3];exact hu3
  have Hu3:Hid _:=hu3
  clear hu3
  obtain⟨v3,hv3⟩: ∃ x,x=lw.lo D3:=⟨_,rfl⟩
  have Ev3:Hid (v3=lw.lo (distP c1 c2 d1 d2)):=by unfold Hid;rw [←eD3];exact hv3
  have Hv3:Hid _:=hv3
  clear hv3
  obtain⟨s3,hs3⟩: ∃ x,x=lw.hi A3:=⟨_,rfl⟩
  have Es3:Hid (s3=lw.hi (areaP d1 d2 a1 a2 b1 b2)):=by unfold Hid;rw [←eA3];exact hs3
  have Hs3:Hid _:=hs3
  clear hs3
  obtain⟨t3,ht3⟩: ∃ x,x=lw.lo A3:=⟨_,rfl⟩
  have Et3:Hid (t3=lw.lo (areaP d1 d2 a1 a2 b1 b2)):=by unfold Hid;rw [←eA3];exact ht3
  have Ht3:Hid _:=ht3
  clear ht3
  clear eD3 eA3
  obtain⟨m0,m1,m2,m3,hm⟩: ∃ q0 q1 q2 q3,lq.Wd (D1*A1) q0 q1 q2 q3:=⟨_,_,_,_,lq.wd_self _⟩
  have Hm:Hid _:=hm
  clear hm
  obtain⟨n0,n1,n2,n3,hn⟩: ∃ q0 q1 q2 q3,lq.Wd (D2*A2) q0 q1 q2 q3:=⟨_,_,_,_,lq.wd_self _⟩
  have Hn:Hid _:=hn
  clear hn
  obtain⟨x0,x1,x2,x3,hx⟩: ∃ q0 q1 q2 q3,lq.Wd (D1*A1+D2*A2) q0 q1 q2 q3:=⟨_,_,_,_,lq.wd_self _⟩
  have Hx:Hid _:=hx
  clear hx
  obtain⟨y0,y1,y2,y3,hy⟩: ∃ q0 q1 q2 q3,lq.Wd (D3*A3) q0 q1 q2 q3:=⟨_,_,_,_,lq.wd_self _⟩
  have Hy:Hid _:=hy
  clear hy
  obtain⟨z0,z1,z2,z3,hz⟩: ∃ q0 q1 q2 q3,lq.Wd (D1*A1+D2*A2+D3*A3) q0 q1 q2 q3:=⟨_,_,_,_,lq.wd_self _⟩
  have Hz:Hid _:=hz
  clear hz
  have HG:Hid _:=hg
  clear hg
  have HQ:Hid _:=hq
  clear hq
  obtain⟨W,hW,bW,x_a,x_b,x_c,x_d,sW⟩:=bs_2222 w (.int .i64 a1) (.int .i64 a2) (.int .i64 b1) (.int .i64 b2) (.int .i64 c1) (.int .i64 c2) (.int .i64 d1) (.int .i64 d2) 24 24 24 24
  have zbW:=bW.size
  have BB:=bW
  go_enter Tryz.func165,Tryz.ntmps165
  go_wp2_with (go_at_call 197;fail)
  have eV:W.heap.size=w.heap.size+1+1+1+1:=by rw [hW];simp
  rw [←hW]
  clear hW
  obtain⟨V,hV⟩: ∃ V,V=(W.alloc (.cells #[.int .i64 a1, .int .i64 a2, .int .i64 b1, .int .i64 b2, .int .i64 c1, .int .i64 c2, .int .i64 d1, .int .i64 d2] 24)):=⟨_,rfl⟩
  rw [←hV]
  have bV:Below W.heap.size W V:=by rw [hV];exact(Below.refl _ _).alloc (Nat.le_refl _) _
  have rV:Row V W.heap.size [.int .i64 a1, .int .i64 a2, .int .i64 b1, .int .i64 b2, .int .i64 c1, .int .i64 c2, .int .i64 d1, .int .i64 d2]:=by rw [hV];exact Row.new _ _ _
  have lV:W.heap.size<V.heap.size:=by rw [hV];simp
  clear hV
  rw [eV]at rV lV
  have zbV:=bV.size
  replace BB:=also BB bV
  replace x_a:=x_a.on bV
  replace x_b:=x_b.on bV
  replace x_c:=x_c.on bV
  replace x_d:=x_d.on bV
  refine(pcan [(a1,a2),(b1,b2),(c1,c2),(d1,d2)] 4 _ V rfl (by decide) rV lV HQ.out.symm).mono ?_
  rintro e w1 ⟨rfl,bw1⟩
  have zbw1:=bw1.size
  replace BB:=also BB bw1
  replace x_a:=x_a.on bw1
  replace x_b:=x_b.on bw1
  replace x_c:=x_c.on bw1
  replace x_d:=x_d.on bw1
  have⟨x_a_0,x_a_1,x_a_2,x_a_3⟩:=x_a
  have⟨x_b_0,x_b_1,x_b_2,x_b_3⟩:=x_b
  have⟨x_c_0,x_c_1,x_c_2,x_c_3⟩:=x_c
  have⟨x_d_0,x_d_1,x_d_2,x_d_3⟩:=x_d
  go_wp2
  clear x_a_0 x_a_1 x_a_2 x_a_3 x_b_0 x_b_1 x_b_2 x_b_3 x_c_0 x_c_1 x_c_2 x_c_3 x_d_0 x_d_1 x_d_2 x_d_3
  obtain⟨QQ,hQQ⟩: ∃ QQ:Exit→Go.Act→World→Prop,QQ=fun e act wr=>e= .normal∧ ∃ (pma0:Nat),act=⟨#[.agg #[.int .i64 a1, .int .i64 a2], .agg #[.int .i64 b1, .int .i64 b2], .agg #[.int .i64 c1, .int .i64 c2], .agg #[.int .i64 d1, .int .i64 d2], .pointer (some ⟨w.heap.size,0,none⟩), .pointer (some ⟨w.heap.size+1,0,none⟩), .pointer (some ⟨w.heap.size+1+1,0,none⟩), .pointer (some ⟨w.heap.size+1+1+1,0,none⟩), .int .i64 0, .pointer (some ⟨pma0,0,none⟩), .agg #[.int .i64 a1, .int .i64 a2], .agg #[.int .i64 b1, .int .i64 b2], .agg #[.int .i64 c1, .int .i64 c2], .agg #[.int .i64 d1, .int .i64 d2], .slice (some ⟨w.heap.size+1+1+1+1,0,none⟩) 4 4, .bool true, .bool false, .agg #[.int .i64 a1, .int .i64 a2], .agg #[.int .i64 d1, .int .i64 d2], .agg #[.int .i64 u1, .int .u64 v1], .agg #[.int .i64 d1, .int .i64 d2], .agg #[.int .i64 b1, .int .i64 b2], .agg #[.int .i64 c1, .int .i64 c2], .agg #[.int .i64 s1, .int .u64 t1], .agg #[.int .u64 m0, .int .u64 m1, .int .u64 m2, .int .u64 m3],undef,undef,undef,undef,undef,undef,undef,undef,undef,undef,undef,undef,undef,undef,undef,undef,undef,undef,undef,undef,undef,undef], []⟩∧Bx wr (w.heap.size) (.int .i64 a1) (.int .i64 a2)∧Bx wr (w.heap.size+1) (.int .i64 b1) (.int .i64 b2)∧Bx wr (w.heap.size+1+1) (.int .i64 c1) (.int .i64 c2)∧Bx wr (w.heap.size+1+1+1) (.int .i64 d1) (.int .i64 d2)∧B4 wr pma0 (.int .u64 m0) (.int .u64 m1) (.int .u64 m2) (.int .u64 m3)∧Below w.heap.size w wr∧w1.heap.size≤wr.heap.size∧(w1.heap.size≤pma0∧pma0<wr.heap.size):=⟨_,rfl⟩
  have HQQ:Hid _:=hQQ
  clear hQQ
  refine wp_mono (Q:=QQ) ?_ ?_
  ·refine wp_region_held_drew (S:=(fun w'=>w'.cell? ⟨w.heap.size,0,none⟩=some (.int .i64 a1)∧w'.cell? ⟨w.heap.size,1,none⟩=some (.int .i64 a2)∧w'.cell? ⟨w.heap.size+1,0,none⟩=some (.int .i64 b1)∧w'.cell? ⟨w.heap.size+1,1,none⟩=some (.int .i64 b2)∧w'.cell? ⟨w.heap.size+1+1,0,none⟩=some (.int .i64 c1)∧w'.cell? ⟨w.heap.size+1+1,1,none⟩=some (.int .i64 c2)∧w'.cell? ⟨w.heap.size+1+1+1,0,none⟩=some (.int .i64 d1)∧w'.cell? ⟨w.heap.size+1+1+1,1,none⟩=some (.int .i64 d2)∧Below w.heap.size w w')) (by kernel_rfl) ?_ (fun hHeld=>?_)
   ·exact⟨x_a.c0,x_a.c1,x_b.c0,x_b.c1,x_c.c0,x_c.c1,x_d.c0,x_d.c1,BB.drew⟩
   refine tQ 0 ?_
   simp only [Go.Act.put,ps1,ps2,ps3]
   refine tQ 1 ?_
   simp only [Go.Act.put,ps1,ps2,ps3]
   refine tQ 3 ?_
   simp only [Go.Act.put,ps1,ps2,ps3]
   refine tQ 4 ?_
   simp only [Go.Act.put,ps1,ps2,ps3]
   refine tQ 5 ?_
   simp only [Go.Act.put,ps1,ps2,ps3]
   clear hHeld
   obtain⟨INV,hINV⟩: ∃ INV:Nat→Array Bool→Go.Act→World→Prop,INV=fun f L act wr=> ∃ (bD eD:Nat→Bool) (pD:Nat→Nat) (RD:Nat→World→Prop) (AD:Nat→Nat→Prop) (uD vD:Nat→Value),f=1+(nb (bD 0)+nb (bD 1)+nb (bD 2)+nb (eD 0))∧L= #[true,true,bD 0,true,true,true,bD 1,bD 2,eD 0,false]∧act=⟨#[.agg #[.int .i64 a1, .int .i64 a2], .agg #[.int .i64 b1, .int .i64 b2], .agg #[.int .i64 c1, .int .i64 c2], .agg #[.int .i64 d1, .int .i64 d2], .pointer (some ⟨w.heap.size,0,none⟩), .pointer (some ⟨w.heap.size+1,0,none⟩), .pointer (some ⟨w.heap.size+1+1,0,none⟩), .pointer (some ⟨w.heap.size+1+1+1,0,none⟩), .int .i64 0,vD 0, .agg #[.int .i64 a1, .int .i64 a2], .agg #[.int .i64 b1, .int .i64 b2], .agg #[.int .i64 c1, .int .i64 c2], .agg #[.int .i64 d1, .int .i64 d2], .slice (some ⟨w.heap.size+1+1+1+1,0,none⟩) 4 4, .bool true, .bool false, .agg #[.int .i64 a1, .int .i64 a2], .agg #[.int .i64 d1, .int .i64 d2],uD 0, .agg #[.int .i64 d1, .int .i64 d2], .agg #[.int .i64 b1, .int .i64 b2], .agg #[.int .i64 c1, .int .i64 c2],uD 1,uD 2,undef,undef,undef,undef,undef,undef,undef,undef,undef,undef,undef,undef,undef,undef,undef,undef,undef,undef,undef,undef,undef,undef], []⟩∧(bD 1=true→bD 0=true)∧(bD 2=true→bD 1=true)∧Mk w1 SpCZ (SpC m0 m1 m2 m3 s1 t1 u1 v1) bD eD pD RD AD uD vD wr:=⟨_,rfl⟩
   have HINV:Hid _:=hINV
   clear hINV
   refine phase INV ?stepma _ _ _ _ ?initma
   case initma=>rw [HINV.out];exact⟨fun _=>false,fun _=>false,fun _=>0,fun _ _=>True,fun _ _=>True,fun _=>undef,fun _=>undef,rfl,rfl,rfl,fun h=>Bool.noConfusion h,fun h=>Bool.noConfusion h,Mk.start _ _ _ (Below.refl _ _).drew⟩
   intro f L act wr hinv
   rw [HINV.out]at hinv
   obtain⟨bD,eD,pD,RD,AD,uD,vD,hf,rfl,rfl,ch0,ch1,hm⟩:=hinv
   by_cases hall:bD 2=true∧eD 0=true
   ·refine Or.inl ?_
    obtain⟨hb2,he0⟩:=hall
    have hb1:=ch1 hb2
    have hb0:=ch0 hb1
    simp only [hb0,hb1,hb2,he0,nb]at hf
    subst hf
    rw [hb0,hb1,hb2,he0,hm.ptr 0 he0]
    obtain⟨hu0,_,_⟩:ValIs _ _ _ _:=hm.spec 0 hb0
    rw [hu0]
    obtain⟨hu1,_,_⟩:ValIs _ _ _ _:=hm.spec 1 hb1
    rw [hu1]
    obtain⟨hu2,_,_⟩:ValIs _ _ _ _:=hm.spec 2 hb2
    rw [hu2]
    have y_pma0:B4 wr (pD 0) (.int .u64 0) (.int .u64 0) (.int .u64 0) (.int .u64 0):=b4_row (hm.blk 0 he0)
    have gpma0:=hm.old 0 he0
    have ltpma0:=hm.lt 0 he0
    have BU:=hm.bel
    replace x_a:=x_a.on BU
    replace x_b:=x_b.on BU
    replace x_c:=x_c.on BU
    replace x_d:=x_d.on BU
    replace BB:=also BB BU
    have hHeld:((fun w'=>w'.cell? ⟨w.heap.size,0,none⟩=some (.int .i64 a1)∧w'.cell? ⟨w.heap.size,1,none⟩=some (.int .i64 a2)∧w'.cell? ⟨w.heap.size+1,0,none⟩=some (.int .i64 b1)∧w'.cell? ⟨w.heap.size+1,1,none⟩=some (.int .i64 b2)∧w'.cell? ⟨w.heap.size+1+1,0,none⟩=some (.int .i64 c1)∧w'.cell? ⟨w.heap.size+1+1,1,none⟩=some (.int .i64 c2)∧w'.cell? ⟨w.heap.size+1+1+1,0,none⟩=some (.int .i64 d1)∧w'.cell? ⟨w.heap.size+1+1+1,1,none⟩=some (.int .i64 d2)∧Below w.heap.size w w')) wr:=⟨x_a.c0,x_a.c1,x_b.c0,x_b.c1,x_c.c0,x_c.c1,x_d.c0,x_d.c1,BB⟩
    clear hm HINV INV ch0 ch1
    generalize pD 0=pma0 at*
    dsimp only at hHeld
    have⟨c_pma0_0,c_pma0_1,c_pma0_2,c_pma0_3,c_pma0_4,c_pma0_5,c_pma0_6,c_pma0_7⟩:B4 wr pma0 (.int .u64 0) (.int .u64 0) (.int .u64 0) (.int .u64 0):=y_pma0
    refine tcl 9 fun Kc hK=>?_
    go_simp
    refine hK.out _ _ ⟨cell_put4 hHeld.1 (by omega) _ _ _ _,cell_put4 hHeld.2.1 (by omega) _ _ _ _,cell_put4 hHeld.2.2.1 (by omega) _ _ _ _,cell_put4 hHeld.2.2.2.1 (by omega) _ _ _ _,cell_put4 hHeld.2.2.2.2.1 (by omega) _ _ _ _,cell_put4 hHeld.2.2.2.2.2.1 (by omega) _ _ _ _,cell_put4 hHeld.2.2.2.2.2.2.1 (by omega) _ _ _ _,cell_put4 hHeld.2.2.2.2.2.2.2.1 (by omega) _ _ _ _,below_put4 hHeld.2.2.2.2.2.2.2.2 (by omega) _ _ _ _⟩ (fun hHeld=>?_)
    clear hK Kc
    refine wpAnyH_done (by kernel_rfl) ?_ _
    rw [HQQ.out]
    exact⟨rfl,pma0,rfl,((((x_a.put (by omega)).put (by omega)).put (by omega)).put (by omega)),((((x_b.put (by omega)).put (by omega)).put (by omega)).put (by omega)),((((x_c.put (by omega)).put (by omega)).put (by omega)).put (by omega)),((((x_d.put (by omega)).put (by omega)).put (by omega)).put (by omega)),y_pma0.set,(below_put4 BB (by omega) _ _ _ _),by have:=BU.size;simp only [World.size_setCell];omega,⟨gpma0,by simp only [World.size_setCell];omega⟩⟩
   ·refine Or.inr ⟨f- 1,by omega,?nema,?opsma⟩
    case nema=>
     cases he0:eD 0
     ·exact ready_ne (i:=8) (by decide) (by kernel_rfl)
     cases hb0:bD 0
     ·exact ready_ne (i:=2) (by decide) (by kernel_rfl)
     cases hb1:bD 1
     ·exact ready_ne (i:=6) (by decide) (by kernel_rfl)
     cases hb2:bD 2
     ·exact ready_ne (i:=7) (by decide) (by kernel_rfl)
     exact absurd ⟨hb2,he0⟩ hall
    case opsma=>
     intro i hi
     obtain⟨hlt,hnot,hdep⟩:=ready_at hi
     replace hlt:i<10:=hlt
     obtain rfl|rfl|rfl|rfl|rfl|rfl|rfl|rfl|rfl|rfl:i=0∨i=1∨i=2∨i=3∨i=4∨i=5∨i=6∨i=7∨i=8∨i=9:=by omega
     ·skip
      exact Bool.noConfusion (show true=false from hnot)
     ·skip
      exact Bool.noConfusion (show true=false from hnot)
     ·skip
      have hbj:bD 0=false:=hnot
      refine⟨_,rfl,fun K' hK=>?_⟩
      go_simp
      (go_at_call 212;refine(pdist a1 a2 d1 d2 _ ha hd Eu1.out Ev1.out).mono ?_;rintro e' X ⟨rfl,bX⟩)
      have hm':=hm.call (SpC_good m0 m1 m2 m3 s1 t1 u1 v1) 0 bX (.agg #[.int .i64 u1, .int .u64 v1]) (fun _=>True) (fun _=>True) ⟨rfl,rfl,rfl⟩ trivial (fun i hi=>trivial)
      refine hK.out _ _ ⟨cell_on hm'.bel x_a.c0,cell_on hm'.bel x_a.c1,cell_on hm'.bel x_b.c0,cell_on hm'.bel x_b.c1,cell_on hm'.bel x_c.c0,cell_on hm'.bel x_c.c1,cell_on hm'.bel x_d.c0,cell_on hm'.bel x_d.c1,also BB hm'.bel⟩ ?_
      rw [HINV.out]
      exact⟨upd bD 0 true,eD,pD,upd RD 0 (fun _=>True),upd AD 0 (fun _=>True),upd uD 0 (.agg #[.int .i64 u1, .int .u64 v1]),vD,fuel_SpC_b0 hf hbj,rfl,rfl,fun _=>rfl,ch1,hm'⟩
     ·skip
      exact Bool.noConfusion (show true=false from hnot)
     ·skip
      exact Bool.noConfusion (show true=false from hnot)
     ·skip
      exact Bool.noConfusion (show true=false from hnot)
     ·skip
      have hbj:bD 1=false:=hnot
      have hprev:bD 0=true:=hdep _ rfl 3 _ rfl rfl
      refine⟨_,rfl,fun K' hK=>?_⟩
      go_simp
      (go_at_call 198;refine(parea d1 d2 b1 b2 c1 c2 _ hd hb hc Es1.out Et1.out).mono ?_;rintro e' X ⟨rfl,bX⟩)
      have hm':=hm.call (SpC_good m0 m1 m2 m3 s1 t1 u1 v1) 1 bX (.agg #[.int .i64 s1, .int .u64 t1]) (fun _=>True) (fun _=>True) ⟨rfl,rfl,rfl⟩ trivial (fun i hi=>trivial)
      refine hK.out _ _ ⟨cell_on hm'.bel x_a.c0,cell_on hm'.bel x_a.c1,cell_on hm'.bel x_b.c0,cell_on hm'.bel x_b.c1,cell_on hm'.bel x_c.c0,cell_on hm'.bel x_c.c1,cell_on hm'.bel x_d.c0,cell_on hm'.bel x_d.c1,also BB hm'.bel⟩ ?_
      rw [HINV.out]
      exact⟨upd bD 1 true,eD,pD,upd RD 1 (fun _=>True),upd AD 1 (fun _=>True),upd uD 1 (.agg #[.int .i64 s1, .int .u64 t1]),vD,fuel_SpC_b1 hf hbj,rfl,rfl,fun _=>hprev,fun _=>rfl,hm'⟩
     ·skip
      have hbj:bD 2=false:=hnot
      have hprev:bD 1=true:=hdep _ rfl 2 _ rfl rfl
      have hq0:bD 0=true:=ch0 hprev
      refine⟨_,rfl,fun K' hK=>?_⟩
      obtain⟨hu0,_,_⟩:ValIs _ _ _ _:=hm.spec 0 hq0
      rw [hu0]
      obtain⟨hu1,_,_⟩:ValIs _ _ _ _:=hm.spec 1 hprev
      rw [hu1]
      go_simp
      (go_at_call 211;refine(qmulW D1 A1 Hu1.out Hv1.out Hs1.out Ht1.out ⟨Int.le_trans (by decide) HD1.out.1,HD1.out.2⟩ HA1.out _ Hm.out).mono ?_;rintro e' X ⟨rfl,bX⟩)
      have hm':=hm.call (SpC_good m0 m1 m2 m3 s1 t1 u1 v1) 2 bX (.agg #[.int .u64 m0, .int .u64 m1, .int .u64 m2, .int .u64 m3]) (fun _=>True) (fun _=>True) ⟨rfl,rfl,rfl⟩ trivial (fun i hi=>trivial)
      refine hK.out _ _ ⟨cell_on hm'.bel x_a.c0,cell_on hm'.bel x_a.c1,cell_on hm'.bel x_b.c0,cell_on hm'.bel x_b.c1,cell_on hm'.bel x_c.c0,cell_on hm'.bel x_c.c1,cell_on hm'.bel x_d.c0,cell_on hm'.bel x_d.c1,also BB hm'.bel⟩ ?_
      rw [HINV.out]
      exact⟨upd bD 2 true,eD,pD,upd RD 2 (fun _=>True),upd AD 2 (fun _=>True),upd uD 2 (.agg #[.int .u64 m0, .int .u64 m1, .int .u64 m2, .int .u64 m3]),vD,fuel_SpC_b2 hf hbj,rfl,(by rw [show upd uD 2 (.agg #[.int .u64 m0, .int .u64 m1, .int .u64 m2, .int .u64 m3]) 0= .agg #[.int .i64 u1, .int .u64 v1]from hu0,show upd uD 2 (.agg #[.int .u64 m0, .int .u64 m1, .int .u64 m2, .int .u64 m3]) 1= .agg #[.int .i64 s1, .int .u64 t1]from hu1]<;>rfl),ch0,fun _=>hprev,hm'⟩
     ·skip
      have hei:eD 0=false:=hnot
      refine⟨_,rfl,fun K' hK=>?_⟩
      go_simp
      have hm':=hm.alloc (SpC_good m0 m1 m2 m3 s1 t1 u1 v1) 0 286 hei
      refine hK.out _ _ ⟨cell_on hm'.bel x_a.c0,cell_on hm'.bel x_a.c1,cell_on hm'.bel x_b.c0,cell_on hm'.bel x_b.c1,cell_on hm'.bel x_c.c0,cell_on hm'.bel x_c.c1,cell_on hm'.bel x_d.c0,cell_on hm'.bel x_d.c1,also BB hm'.bel⟩ ?_
      rw [HINV.out]
      exact⟨bD,upd eD 0 true,upd pD 0 wr.heap.size,RD,AD,uD,upd vD 0 (.pointer (some ⟨wr.heap.size,0,none⟩)),fuel_SpC_e0 hf hei,rfl,rfl,ch0,ch1,hm'⟩
     ·skip
      exact absurd ⟨hdep _ rfl 1 _ rfl rfl,hdep _ rfl 0 _ rfl rfl⟩ hall
  rw [HQQ.out]
  rintro e act Y1 ⟨rfl,pma0,rfl,x_a,x_b,x_c,x_d,x_m,BB,z_Y1,z_Y1_pma0⟩
  clear HQQ QQ
  try dsimp only
  go_wp2
  have dd1:Below Y1.heap.size Y1 Y1.drew:=(Below.refl _ _).drew
  have zdd1:=dd1.size
  replace BB:=also BB dd1
  replace x_a:=x_a.on dd1
  replace x_b:=x_b.on dd1
  replace x_c:=x_c.on dd1
  replace x_d:=x_d.on dd1
  replace x_m:=x_m.on dd1
  refine regionL 10 (S:=(fun w'=>w'.cell? ⟨w.heap.size,0,none⟩=some (.int .i64 a1)∧w'.cell? ⟨w.heap.size,1,none⟩=some (.int .i64 a2)∧w'.cell? ⟨w.heap.size+1,0,none⟩=some (.int .i64 b1)∧w'.cell? ⟨w.heap.size+1,1,none⟩=some (.int .i64 b2)∧w'.cell? ⟨w.heap.size+1+1,0,none⟩=some (.int .i64 c1)∧w'.cell? ⟨w.heap.size+1+1,1,none⟩=some (.int .i64 c2)∧w'.cell? ⟨w.heap.size+1+1+1,0,none⟩=some (.int .i64 d1)∧w'.cell? ⟨w.heap.size+1+1+1,1,none⟩=some (.int .i64 d2)∧w'.cell? ⟨pma0,0,none⟩=some (.int .u64 m0)∧w'.cell? ⟨pma0,1,none⟩=some (.int .u64 m1)∧w'.cell? ⟨pma0,2,none⟩=some (.int .u64 m2)∧w'.cell? ⟨pma0,3,none⟩=some (.int .u64 m3)∧Below w.heap.size w w')) (by kernel_rfl) ?_ (fun hHeld=>?_)
  ·exact⟨x_a.c0,x_a.c1,x_b.c0,x_b.c1,x_c.c0,x_c.c1,x_d.c0,x_d.c1,x_m.c0,x_m.c1,x_m.c2,x_m.c3,BB⟩
  refine tyL (i:=0) (v:=?vsa0) rfl ?hysa0 ?_
  case hysa0=>(intro w hSw;(try dsimp only at hSw);go_simp<;>with_reducible rfl)
  simp only [Go.Act.put,ps1,ps2,ps3]
  refine tyL (i:=1) (v:=?vsa1) rfl ?hysa1 ?_
  case hysa1=>(intro w hSw;(try dsimp only at hSw);go_simp<;>with_reducible rfl)
  simp only [Go.Act.put,ps1,ps2,ps3]
  refine tyL (i:=2) (v:=?vsa2) rfl ?hysa2 ?_
  case hysa2=>(intro w hSw;(try dsimp only at hSw);go_simp<;>with_reducible rfl)
  simp only [Go.Act.put,ps1,ps2,ps3]
  refine tyL (i:=4) (v:=?vsa4) rfl ?hysa4 ?_
  case hysa4=>(intro w hSw;(try dsimp only at hSw);go_simp<;>with_reducible rfl)
  simp only [Go.Act.put,ps1,ps2,ps3]
  refine tyL (i:=5) (v:=?vsa5) rfl ?hysa5 ?_
  case hysa5=>(intro w hSw;(try dsimp only at hSw);go_simp<;>with_reducible rfl)
  simp only [Go.Act.put,ps1,ps2,ps3]
  refine tyL (i:=6) (v:=?vsa6) rfl ?hysa6 ?_
  case hysa6=>(intro w hSw;(try dsimp only at hSw);go_simp<;>with_reducible rfl)
  simp only [Go.Act.put,ps1,ps2,ps3]
  refine takeL_call (i:=3) rfl (by kernel_rfl) (fun Kc hK=>?_)
  go_simp
  (go_at_call 212;refine(pdist b1 b2 d1 d2 _ hb hd Eu2.out Ev2.out).mono ?_;rintro e waa ⟨rfl,bwaa⟩)
  refine hK.out _ _ ?_ (fun hHeld=>?_)
  ·exact⟨cell_on bwaa hHeld.1,cell_on bwaa hHeld.2.1,cell_on bwaa hHeld.2.2.1,cell_on bwaa hHeld.2.2.2.1,cell_on bwaa hHeld.2.2.2.2.1,cell_on bwaa hHeld.2.2.2.2.2.1,cell_on bwaa hHeld.2.2.2.2.2.2.1,cell_on bwaa hHeld.2.2.2.2.2.2.2.1,cell_on bwaa hHeld.2.2.2.2.2.2.2.2.1,cell_on bwaa hHeld.2.2.2.2.2.2.2.2.2.1,cell_on bwaa hHeld.2.2.2.2.2.2.2.2.2.2.1,cell_on bwaa hHeld.2.2.2.2.2.2.2.2.2.2.2.1,also hHeld.2.2.2.2.2.2.2.2.2.2.2.2 bwaa⟩
  clear hK Kc
  have zbwaa:=bwaa.size
  replace BB:=also BB bwaa
  replace x_a:=x_a.on bwaa
  replace x_b:=x_b.on bwaa
  replace x_c:=x_c.on bwaa
  replace x_d:=x_d.on bwaa
  replace x_m:=x_m.on bwaa
  refine takeL_call (i:=7) rfl (by kernel_rfl) (fun Kc hK=>?_)
  go_simp
  (go_at_call 198;refine(parea d1 d2 c1 c2 a1 a2 _ hd hc ha Es2.out Et2.out).mono ?_;rintro e wab ⟨rfl,bwab⟩)
  refine hK.out _ _ ?_ (fun hHeld=>?_)
  ·exact⟨cell_on bwab hHeld.1,cell_on bwab hHeld.2.1,cell_on bwab hHeld.2.2.1,cell_on bwab hHeld.2.2.2.1,cell_on bwab hHeld.2.2.2.2.1,cell_on bwab hHeld.2.2.2.2.2.1,cell_on bwab hHeld.2.2.2.2.2.2.1,cell_on bwab hHeld.2.2.2.2.2.2.2.1,cell_on bwab hHeld.2.2.2.2.2.2.2.2.1,cell_on bwab hHeld.2.2.2.2.2.2.2.2.2.1,cell_on bwab hHeld.2.2.2.2.2.2.2.2.2.2.1,cell_on bwab hHeld.2.2.2.2.2.2.2.2.2.2.2.1,also hHeld.2.2.2.2.2.2.2.2.2.2.2.2 bwab⟩
  clear hK Kc
  have zbwab:=bwab.size
  replace BB:=also BB bwab
  replace x_a:=x_a.on bwab
  replace x_b:=x_b.on bwab
  replace x_c:=x_c.on bwab
  replace x_d:=x_d.on bwab
  replace x_m:=x_m.on bwab
  refine takeL_call (i:=8) rfl (by kernel_rfl) (fun Kc hK=>?_)
  go_simp
  (go_at_call 211;refine(qmulW D2 A2 Hu2.out Hv2.out Hs2.out Ht2.out ⟨Int.le_trans (by decide) HD2.out.1,HD2.out.2⟩ HA2.out _ Hn.out).mono ?_;rintro e wac ⟨rfl,bwac⟩)
  refine hK.out _ _ ?_ (fun hHeld=>?_)
  ·exact⟨cell_on bwac hHeld.1,cell_on bwac hHeld.2.1,cell_on bwac hHeld.2.2.1,cell_on bwac hHeld.2.2.2.1,cell_on bwac hHeld.2.2.2.2.1,cell_on bwac hHeld.2.2.2.2.2.1,cell_on bwac hHeld.2.2.2.2.2.2.1,cell_on bwac hHeld.2.2.2.2.2.2.2.1,cell_on bwac hHeld.2.2.2.2.2.2.2.2.1,cell_on bwac hHeld.2.2.2.2.2.2.2.2.2.1,cell_on bwac hHeld.2.2.2.2.2.2.2.2.2.2.1,cell_on bwac hHeld.2.2.2.2.2.2.2.2.2.2.2.1,also hHeld.2.2.2.2.2.2.2.2.2.2.2.2 bwac⟩
  clear hK Kc
  have zbwac:=bwac.size
  replace BB:=also BB bwac
  replace x_a:=x_a.on bwac
  replace x_b:=x_b.on bwac
  replace x_c:=x_c.on bwac
  replace x_d:=x_d.on bwac
  replace x_m:=x_m.on bwac
  refine takeL_call (i:=9) rfl (by kernel_rfl) (fun Kc hK=>?_)
  go_simp
  (go_at_call 213;refine(qaddW _ _ Hm.out Hn.out _ Hx.out).mono ?_;rintro e wad ⟨rfl,bwad⟩)
  refine hK.out _ _ ?_ (fun hHeld=>?_)
  ·exact⟨cell_on bwad hHeld.1,cell_on bwad hHeld.2.1,cell_on bwad hHeld.2.2.1,cell_on bwad hHeld.2.2.2.1,cell_on bwad hHeld.2.2.2.2.1,cell_on bwad hHeld.2.2.2.2.2.1,cell_on bwad hHeld.2.2.2.2.2.2.1,cell_on bwad hHeld.2.2.2.2.2.2.2.1,cell_on bwad hHeld.2.2.2.2.2.2.2.2.1,cell_on bwad hHeld.2.2.2.2.2.2.2.2.2.1,cell_on bwad hHeld.2.2.2.2.2.2.2.2.2.2.1,cell_on bwad hHeld.2.2.2.2.2.2.2.2.2.2.2.1,also hHeld.2.2.2.2.2.2.2.2.2.2.2.2 bwad⟩
  clear hK Kc
  have zbwad:=bwad.size
  replace BB:=also BB bwad
  replace x_a:=x_a.on bwad
  replace x_b:=x_b.on bwad
  replace x_c:=x_c.on bwad
  replace x_d:=x_d.on bwad
  replace x_m:=x_m.on bwad
  have⟨x_m_0,x_m_1,x_m_2,x_m_3,x_m_4,x_m_5,x_m_6,x_m_7⟩:=x_m
  refine takeL_last rfl (by kernel_rfl) (fun Kc hK=>?_)
  go_simp
  refine hK.out _ _ ?_
  clear hK Kc
  refine anyL_done (by kernel_rfl) ?_ _
  clear x_m_0 x_m_1 x_m_2 x_m_3 x_m_4 x_m_5 x_m_6 x_m_7
  obtain⟨Y2,hY2⟩: ∃ Y2,Y2=((((wad.setCell ⟨pma0,0,none⟩ (.int .u64 x0)).setCell ⟨pma0,1,none⟩ (.int .u64 x1)).setCell ⟨pma0,2,none⟩ (.int .u64 x2)).setCell ⟨pma0,3,none⟩ (.int .u64 x3)):=⟨_,rfl⟩
  have zY2:Y2.heap.size=wad.heap.size:=by rw [hY2];simp
  replace BB:Below w.heap.size w Y2:=by rw [hY2];exact below_put4 BB (by omega) _ _ _ _
  replace x_a:Bx Y2 (w.heap.size) (.int .i64 a1) (.int .i64 a2):=by rw [hY2];exact((((x_a.put (by omega)).put (by omega)).put (by omega)).put (by omega))
  replace x_b:Bx Y2 (w.heap.size+1) (.int .i64 b1) (.int .i64 b2):=by rw [hY2];exact((((x_b.put (by omega)).put (by omega)).put (by omega)).put (by omega))
  replace x_c:Bx Y2 (w.heap.size+1+1) (.int .i64 c1) (.int .i64 c2):=by rw [hY2];exact((((x_c.put (by omega)).put (by omega)).put (by omega)).put (by omega))
  replace x_d:Bx Y2 (w.heap.size+1+1+1) (.int .i64 d1) (.int .i64 d2):=by rw [hY2];exact((((x_d.put (by omega)).put (by omega)).put (by omega)).put (by omega))
  replace x_m:B4 Y2 (pma0) (.int .u64 x0) (.int .u64 x1) (.int .u64 x2) (.int .u64 x3):=by rw [hY2];exact x_m.set
  rw [←hY2]
  clear hY2
  go_wp2
  have dd2:Below Y2.heap.size Y2 Y2.drew:=(Below.refl _ _).drew
  have zdd2:=dd2.size
  replace BB:=also BB dd2
  replace x_a:=x_a.on dd2
  replace x_b:=x_b.on dd2
  replace x_c:=x_c.on dd2
  replace x_d:=x_d.on dd2
  replace x_m:=x_m.on dd2
  refine regionL 10 (S:=(fun w'=>w'.cell? ⟨w.heap.size,0,none⟩=some (.int .i64 a1)∧w'.cell? ⟨w.heap.size,1,none⟩=some (.int .i64 a2)∧w'.cell? ⟨w.heap.size+1,0,none⟩=some (.int .i64 b1)∧w'.cell? ⟨w.heap.size+1,1,none⟩=some (.int .i64 b2)∧w'.cell? ⟨w.heap.size+1+1,0,none⟩=some (.int .i64 c1)∧w'.cell? ⟨w.heap.size+1+1,1,none⟩=some (.int .i64 c2)∧w'.cell? ⟨w.heap.size+1+1+1,0,none⟩=some (.int .i64 d1)∧w'.cell? ⟨w.heap.size+1+1+1,1,none⟩=some (.int .i64 d2)∧w'.cell? ⟨pma0,0,none⟩=some (.int .u64 x0)∧w'.cell? ⟨pma0,1,none⟩=some (.int .u64 x1)∧w'.cell? ⟨pma0,2,none⟩=some (.int .u64 x2)∧w'.cell? ⟨pma0,3,none⟩=some (.int .u64 x3)∧Below w.heap.size w w')) (by kernel_rfl) ?_ (fun hHeld=>?_)
  ·exact⟨x_a.c0,x_a.c1,x_b.c0,x_b.c1,x_c.c0,x_c.c1,x_d.c0,x_d.c1,x_m.c0,x_m.c1,x_m.c2,x_m.c3,BB⟩
  refine tyL (i:=0) (v:=?vsb0) rfl ?hysb0 ?_
  case hysb0=>(intro w hSw;(try dsimp only at hSw);go_simp<;>with_reducible rfl)
  simp only [Go.Act.put,ps1,ps2,ps3]
  refine tyL (i:=1) (v:=?vsb1) rfl ?hysb1 ?_
  case hysb1=>(intro w hSw;(try dsimp only at hSw);go_simp<;>with_reducible rfl)
  simp only [Go.Act.put,ps1,ps2,ps3]
  refine tyL (i:=2) (v:=?vsb2) rfl ?hysb2 ?_
  case hysb2=>(intro w hSw;(try dsimp only at hSw);go_simp<;>with_reducible rfl)
  simp only [Go.Act.put,ps1,ps2,ps3]
  refine tyL (i:=4) (v:=?vsb4) rfl ?hysb4 ?_
  case hysb4=>(intro w hSw;(try dsimp only at hSw);go_simp<;>with_reducible rfl)
  simp only [Go.Act.put,ps1,ps2,ps3]
  refine tyL (i:=5) (v:=?vsb5) rfl ?hysb5 ?_
  case hysb5=>(intro w hSw;(try dsimp only at hSw);go_simp<;>with_reducible rfl)
  simp only [Go.Act.put,ps1,ps2,ps3]
  refine tyL (i:=6) (v:=?vsb6) rfl ?hysb6 ?_
  case hysb6=>(intro w hSw;(try dsimp only at hSw);go_simp<;>with_reducible rfl)
  simp only [Go.Act.put,ps1,ps2,ps3]
  refine takeL_call (i:=3) rfl (by kernel_rfl) (fun Kc hK=>?_)
  go_simp
  (go_at_call 212;refine(pdist c1 c2 d1 d2 _ hc hd Eu3.out Ev3.out).mono ?_;rintro e wba ⟨rfl,bwba⟩)
  refine hK.out _ _ ?_ (fun hHeld=>?_)
  ·exact⟨cell_on bwba hHeld.1,cell_on bwba hHeld.2.1,cell_on bwba hHeld.2.2.1,cell_on bwba hHeld.2.2.2.1,cell_on bwba hHeld.2.2.2.2.1,cell_on bwba hHeld.2.2.2.2.2.1,cell_on bwba hHeld.2.2.2.2.2.2.1,cell_on bwba hHeld.2.2.2.2.2.2.2.1,cell_on bwba hHeld.2.2.2.2.2.2.2.2.1,cell_on bwba hHeld.2.2.2.2.2.2.2.2.2.1,cell_on bwba hHeld.2.2.2.2.2.2.2.2.2.2.1,cell_on bwba hHeld.2.2.2.2.2.2.2.2.2.2.2.1,also hHeld.2.2.2.2.2.2.2.2.2.2.2.2 bwba⟩
  clear hK Kc
  have zbwba:=bwba.size
  replace BB:=also BB bwba
  replace x_a:=x_a.on bwba
  replace x_b:=x_b.on bwba
  replace x_c:=x_c.on bwba
  replace x_d:=x_d.on bwba
  replace x_m:=x_m.on bwba
  refine takeL_call (i:=7) rfl (by kernel_rfl) (fun Kc hK=>?_)
  go_simp
  (go_at_call 198;refine(parea d1 d2 a1 a2 b1 b2 _ hd ha hb Es3.out Et3.out).mono ?_;rintro e wbb ⟨rfl,bwbb⟩)
  refine hK.out _ _ ?_ (fun hHeld=>?_)
  ·exact⟨cell_on bwbb hHeld.1,cell_on bwbb hHeld.2.1,cell_on bwbb hHeld.2.2.1,cell_on bwbb hHeld.2.2.2.1,cell_on bwbb hHeld.2.2.2.2.1,cell_on bwbb hHeld.2.2.2.2.2.1,cell_on bwbb hHeld.2.2.2.2.2.2.1,cell_on bwbb hHeld.2.2.2.2.2.2.2.1,cell_on bwbb hHeld.2.2.2.2.2.2.2.2.1,cell_on bwbb hHeld.2.2.2.2.2.2.2.2.2.1,cell_on bwbb hHeld.2.2.2.2.2.2.2.2.2.2.1,cell_on bwbb hHeld.2.2.2.2.2.2.2.2.2.2.2.1,also hHeld.2.2.2.2.2.2.2.2.2.2.2.2 bwbb⟩
  clear hK Kc
  have zbwbb:=bwbb.size
  replace BB:=also BB bwbb
  replace x_a:=x_a.on bwbb
  replace x_b:=x_b.on bwbb
  replace x_c:=x_c.on bwbb
  replace x_d:=x_d.on bwbb
  replace x_m:=x_m.on bwbb
  refine takeL_call (i:=8) rfl (by kernel_rfl) (fun Kc hK=>?_)
  go_simp
  (go_at_call 211;refine(qmulW D3 A3 Hu3.out Hv3.out Hs3.out Ht3.out ⟨Int.le_trans (by decide) HD3.out.1,HD3.out.2⟩ HA3.out _ Hy.out).mono ?_;rintro e wbc ⟨rfl,bwbc⟩)
  refine hK.out _ _ ?_ (fun hHeld=>?_)
  ·exact⟨cell_on bwbc hHeld.1,cell_on bwbc hHeld.2.1,cell_on bwbc hHeld.2.2.1,cell_on bwbc hHeld.2.2.2.1,cell_on bwbc hHeld.2.2.2.2.1,cell_on bwbc hHeld.2.2.2.2.2.1,cell_on bwbc hHeld.2.2.2.2.2.2.1,cell_on bwbc hHeld.2.2.2.2.2.2.2.1,cell_on bwbc hHeld.2.2.2.2.2.2.2.2.1,cell_on bwbc hHeld.2.2.2.2.2.2.2.2.2.1,cell_on bwbc hHeld.2.2.2.2.2.2.2.2.2.2.1,cell_on bwbc hHeld.2.2.2.2.2.2.2.2.2.2.2.1,also hHeld.2.2.2.2.2.2.2.2.2.2.2.2 bwbc⟩
  clear hK Kc
  have zbwbc:=bwbc.size
  replace BB:=also BB bwbc
  replace x_a:=x_a.on bwbc
  replace x_b:=x_b.on bwbc
  replace x_c:=x_c.on bwbc
  replace x_d:=x_d.on bwbc
  replace x_m:=x_m.on bwbc
  refine takeL_call (i:=9) rfl (by kernel_rfl) (fun Kc hK=>?_)
  go_simp
  (go_at_call 213;refine(qaddW _ _ Hx.out Hy.out _ Hz.out).mono ?_;rintro e wbd ⟨rfl,bwbd⟩)
  refine hK.out _ _ ?_ (fun hHeld=>?_)
  ·exact⟨cell_on bwbd hHeld.1,cell_on bwbd hHeld.2.1,cell_on bwbd hHeld.2.2.1,cell_on bwbd hHeld.2.2.2.1,cell_on bwbd hHeld.2.2.2.2.1,cell_on bwbd hHeld.2.2.2.2.2.1,cell_on bwbd hHeld.2.2.2.2.2.2.1,cell_on bwbd hHeld.2.2.2.2.2.2.2.1,cell_on bwbd hHeld.2.2.2.2.2.2.2.2.1,cell_on bwbd hHeld.2.2.2.2.2.2.2.2.2.1,cell_on bwbd hHeld.2.2.2.2.2.2.2.2.2.2.1,cell_on bwbd hHeld.2.2.2.2.2.2.2.2.2.2.2.1,also hHeld.2.2.2.2.2.2.2.2.2.2.2.2 bwbd⟩
  clear hK Kc
  have zbwbd:=bwbd.size
  replace BB:=also BB bwbd
  replace x_a:=x_a.on bwbd
  replace x_b:=x_b.on bwbd
  replace x_c:=x_c.on bwbd
  replace x_d:=x_d.on bwbd
  replace x_m:=x_m.on bwbd
  have⟨x_m_0,x_m_1,x_m_2,x_m_3,x_m_4,x_m_5,x_m_6,x_m_7⟩:=x_m
  refine takeL_last rfl (by kernel_rfl) (fun Kc hK=>?_)
  go_simp
  refine hK.out _ _ ?_
  clear hK Kc
  refine anyL_done (by kernel_rfl) ?_ _
  clear x_m_0 x_m_1 x_m_2 x_m_3 x_m_4 x_m_5 x_m_6 x_m_7
  obtain⟨Y3,hY3⟩: ∃ Y3,Y3=((((wbd.setCell ⟨pma0,0,none⟩ (.int .u64 z0)).setCell ⟨pma0,1,none⟩ (.int .u64 z1)).setCell ⟨pma0,2,none⟩ (.int .u64 z2)).setCell ⟨pma0,3,none⟩ (.int .u64 z3)):=⟨_,rfl⟩
  have zY3:Y3.heap.size=wbd.heap.size:=by rw [hY3];simp
  replace BB:Below w.heap.size w Y3:=by rw [hY3];exact below_put4 BB (by omega) _ _ _ _
  replace x_a:Bx Y3 (w.heap.size) (.int .i64 a1) (.int .i64 a2):=by rw [hY3];exact((((x_a.put (by omega)).put (by omega)).put (by omega)).put (by omega))
  replace x_b:Bx Y3 (w.heap.size+1) (.int .i64 b1) (.int .i64 b2):=by rw [hY3];exact((((x_b.put (by omega)).put (by omega)).put (by omega)).put (by omega))
  replace x_c:Bx Y3 (w.heap.size+1+1) (.int .i64 c1) (.int .i64 c2):=by rw [hY3];exact((((x_c.put (by omega)).put (by omega)).put (by omega)).put (by omega))
  replace x_d:Bx Y3 (w.heap.size+1+1+1) (.int .i64 d1) (.int .i64 d2):=by rw [hY3];exact((((x_d.put (by omega)).put (by omega)).put (by omega)).put (by omega))
  replace x_m:B4 Y3 (pma0) (.int .u64 z0) (.int .u64 z1) (.int .u64 z2) (.int .u64 z3):=by rw [hY3];exact x_m.set
  rw [←hY3]
  clear hY3
  have⟨x_m_0,x_m_1,x_m_2,x_m_3,x_m_4,x_m_5,x_m_6,x_m_7⟩:=x_m
  go_wp2_with (go_at_call 214;fail)
  refine(lq.qsign_any _ Hz.out HB.out.1 HB.out.2 Y3).mono ?_
  rintro e w9 ⟨rfl,bw9⟩
  clear x_m_0 x_m_1 x_m_2 x_m_3 x_m_4 x_m_5 x_m_6 x_m_7
  have zbw9:=bw9.size
  replace BB:=also BB bw9
  replace x_a:=x_a.on bw9
  replace x_b:=x_b.on bw9
  replace x_c:=x_c.on bw9
  replace x_d:=x_d.on bw9
  replace x_m:=x_m.on bw9
  go_wp2
  go_ret
  exact⟨by rw [HG.out];rfl,BB⟩
def leftQ(a b c:Pt):Bool:=decide ((arP a.1 a.2 b.1 b.2 c.1 c.2).sign=1)
def cfQ(a b c d:Pt):Bool:=if canC d.1 d.2=true∧leftQ a b c=true∧d≠a∧d≠b∧d≠c then cirQ a b c d else false
theorem left_iff{a b c:Pt}:leftQ a b c=true↔(canC a.1 a.2=true∧canC b.1 b.2=true∧canC c.1 c.2=true∧0<arQ a b c):=by
 unfold leftQ
 rw [decide_eq_true_iff]
 constructor
 ·intro h
  cases hq:canAll [(a.1,a.2),(b.1,b.2),(c.1,c.2)]
  ·unfold arP at h;rw [hq]at h;cases h
  ·obtain⟨h1,h2,h3⟩:=can3.1 hq
   unfold arP at h
   rw [hq]at h
   exact⟨h1,h2,h3,Int.sign_eq_one_iff_pos.1 h⟩
 ·rintro⟨h1,h2,h3,h4⟩
  unfold arP
  rw [can3.2 ⟨h1,h2,h3⟩]
  exact Int.sign_eq_one_iff_pos.2 h4
theorem left_can{a b c:Pt}(h1:canC a.1 a.2=true)(h2:canC b.1 b.2=true)(h3:canC c.1 c.2=true):leftQ a b c=decide (0<arQ a b c):=by
 rw [Bool.eq_iff_iff,left_iff,decide_eq_true_iff]
 exact⟨fun h=>h.2.2.2,fun h=>⟨h1,h2,h3,h⟩⟩
theorem cf_yes{a b c d:Pt}(h1:canC d.1 d.2=true)(h2:leftQ a b c=true)(h3:d≠a)(h4:d≠b)(h5:d≠c):cfQ a b c d=cirQ a b c d:=by
 unfold cfQ;exact if_pos ⟨h1,h2,h3,h4,h5⟩
theorem cf_no{a b c d:Pt}(h: ¬(canC d.1 d.2=true∧leftQ a b c=true∧d≠a∧d≠b∧d≠c)):cfQ a b c d=false:=by
 unfold cfQ;exact if_neg h
def ocQ(a b c d:Pt):Bool:=
 if ltQ (if ltQ a b then b else a) c then(if ltQ c d then false else leftQ a b d)
 else if ltQ a b then(if ltQ b d then false else leftQ a d c)else(if ltQ a d then false else leftQ d b c)
theorem oc_tie{a b c d:Pt}(ha:canC a.1 a.2=true)(hb:canC b.1 b.2=true)(hc:canC c.1 c.2=true)(hd:canC d.1 d.2=true)(h:0<arQ a b c)(da:d≠a)(db:d≠b)(dc:d≠c):ocQ a b c d=tieQ a b c d:=by
 obtain⟨ab,ac,bc⟩:=ar_ne h
 unfold ocQ tieQ lastQ
 rw [left_can ha hb hd,left_can ha hd hc,left_can hd hb hc]
 rcases one_last ab ac bc da db dc with⟨h1,h2,h3,h4,h5,h6⟩|⟨h1,h2,h3,h4,h5,h6⟩|⟨h1,h2,h3,h4,h5,h6⟩|⟨h1,h2,h3,h4,h5,h6⟩<;>rcases lt_tri ab with⟨k1,k2⟩|⟨k1,k2⟩<;>simp_all
def bstQ(a b:Pt)(L:List Pt):Nat→Int
 |0=> -1
 |k+1=>if leftQ a b (L.getD k (0,0)) && (decide (bstQ a b L k<0)||cfQ a b (L.getD (bstQ a b L k).toNat (0,0)) (L.getD k (0,0)))then(k:Int)else bstQ a b L k
theorem bst_range(a b:Pt)(L:List Pt): ∀ k, -1≤bstQ a b L k∧bstQ a b L k<(k:Int)∨bstQ a b L k= -1
 |0=>Or.inr rfl
 |k+1=>by
  unfold bstQ
  split
  ·left;omega
  ·rcases bst_range a b L k with h|h
   ·left;omega
   ·right;exact h
structure B6(w:World)(b:Nat)(x0 x1 x2 x3 x4 x5:Value):Prop where
 c0:w.cell? ⟨b,0,none⟩=some x0
 c1:w.cell? ⟨b,1,none⟩=some x1
 c2:w.cell? ⟨b,2,none⟩=some x2
 c3:w.cell? ⟨b,3,none⟩=some x3
 c4:w.cell? ⟨b,4,none⟩=some x4
 c5:w.cell? ⟨b,5,none⟩=some x5
 f0:w.frozen? ⟨b,0,none⟩=false
 f1:w.frozen? ⟨b,1,none⟩=false
 f2:w.frozen? ⟨b,2,none⟩=false
 f3:w.frozen? ⟨b,3,none⟩=false
 f4:w.frozen? ⟨b,4,none⟩=false
 f5:w.frozen? ⟨b,5,none⟩=false
theorem B6.on{w w':World}{b:Nat}{x0 x1 x2 x3 x4 x5:Value}(h:B6 w b x0 x1 x2 x3 x4 x5)(hb:Below w.heap.size w w'):B6 w' b x0 x1 x2 x3 x4 x5:=⟨cell_on hb h.c0,cell_on hb h.c1,cell_on hb h.c2,cell_on hb h.c3,cell_on hb h.c4,cell_on hb h.c5,free_on hb h.c0 h.f0,free_on hb h.c1 h.f1,free_on hb h.c2 h.f2,free_on hb h.c3 h.f3,free_on hb h.c4 h.f4,free_on hb h.c5 h.f5⟩
theorem b6_new(w:World)(x0 x1 x2 x3 x4 x5:Value)(t:TypeId):B6 (w.alloc (.cells #[x0,x1,x2,x3,x4,x5] t)) w.heap.size x0 x1 x2 x3 x4 x5:=by
 have h:=Row.new w [x0,x1,x2,x3,x4,x5] t
 exact⟨h.cell 0 _ rfl,h.cell 1 _ rfl,h.cell 2 _ rfl,h.cell 3 _ rfl,h.cell 4 _ rfl,h.cell 5 _ rfl,h.free 0 (by simp),h.free 1 (by simp),h.free 2 (by simp),h.free 3 (by simp),h.free 4 (by simp),h.free 5 (by simp)⟩
theorem b6_lt{w:World}{b:Nat}{x0 x1 x2 x3 x4 x5:Value}(h:B6 w b x0 x1 x2 x3 x4 x5):b<w.heap.size:=cell_lt h.c0
theorem bs_62(w:World)(x00 x01 x02 x03 x04 x05 x10 x11:Value)(t0 t1:TypeId): ∃ W,W=((w.alloc (.cells #[x00,x01,x02,x03,x04,x05] t0)).alloc (.cells #[x10,x11] t1))∧Below w.heap.size w W∧B6 W (w.heap.size) x00 x01 x02 x03 x04 x05∧Bx W (w.heap.size+1) x10 x11∧w.heap.size+1<W.heap.size:=by
 have e0:Below w.heap.size w (w.alloc (.cells #[x00,x01,x02,x03,x04,x05] t0)):=(Below.refl _ _).alloc (Nat.le_refl _) _
 have h0:=b6_new w x00 x01 x02 x03 x04 x05 t0
 have e1:Below (w.alloc (.cells #[x00,x01,x02,x03,x04,x05] t0)).heap.size (w.alloc (.cells #[x00,x01,x02,x03,x04,x05] t0)) ((w.alloc (.cells #[x00,x01,x02,x03,x04,x05] t0)).alloc (.cells #[x10,x11] t1)):=(Below.refl _ _).alloc (Nat.le_refl _) _
 have h1:=bx_new (w.alloc (.cells #[x00,x01,x02,x03,x04,x05] t0)) x10 x11 t1
 rw [World.size_alloc]at h1
 exact⟨_,rfl,also (e0) e1,(h0.on e1),h1,by simp⟩
end Go.Proofs.YtjmhfdimoeaplaaGreat
