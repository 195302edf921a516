/-
  Joined texts, part 16:
  What hole's firstWedge, follower and leftOf answer, over what the mesh must do.
  What hole's Ring answers.
  Numbers as digits to the base 256: which digits a sum, a difference, a product has. It imp
  Numbers as digits to the base 18446744073709551616: which digits a sum, a difference, a pr
  The arithmetic of a product, digit by digit. It imports nothing of the program.
  Plain arithmetic of numbers of two words: what word a sum, a difference and a product have
-/
import Derived.Test.YtjmhfdimoeaplaaGreatP15
import Derived.WalkKit
import Derived.Laws.Bits64b
namespace Go.Proofs.YtjmhfdimoeaplaaGreat
open Go.RowKit Go.Maps
set_option linter.unusedVariables false
abbrev wgV(a:Wg):Value:= .agg #[.int .i64 a.1.no, .int .i64 (a.2:Int)]
abbrev wgC(a:Wg):List Value:= [.int .i64 a.1.no, .int .i64 (a.2:Int)]
theorem faceOf_of{S:Ms}{m:Nat}(O:MsOk S m){c:Ce}(hc:c∈S.C):faceOf S c.no=c.t∧S.C.find? (fun d=>decide (d.no=c.no))=some c:=by
 have key: ∀ L:List Ce,L.Pairwise (fun a b=>a.no<b.no)→c∈L→L.find? (fun d=>decide (d.no=c.no))=some c:=by
  intro L
  induction L with
  |nil=>intro _ h;cases h
  |cons d L ih=>
   intro hp hc
   rw [List.find?_cons]
   rcases List.mem_cons.1 hc with q|q
   ·rw [←q,decide_eq_true rfl]
   ·have:=(List.pairwise_cons.1 hp).1 c q
    rw [decide_eq_false (by omega)]
    exact ih (List.pairwise_cons.1 hp).2 q
 have k:=key S.C O.fs hc
 exact⟨by unfold faceOf;rw [k],k⟩
theorem wg64{S:Ms}{m:Nat}(O:MsOk S m)(hm:m≤1000){c:Ce}(hc:c∈S.C):In64 c.no∧0≤c.no:=by
 have:=O.fmem hc
 have:=O.ft
 exact⟨⟨by omega,by omega⟩,by omega⟩
theorem wgOffs{S:Ms}{m:Nat}(O:MsOk S m){c:Ce}(hc:c∈S.C): ∀ i,(-4611686018427387904<c.t.x i∧c.t.x i<4611686018427387904)∧(-4611686018427387904<c.t.y i∧c.t.y i<4611686018427387904):=O.offs (O.fi c hc) (O.fo c hc)
theorem crossed_step{S:Ms}{m:Nat}(O:MsOk S m){a:Wg}(ha:a.1∈S.C)(hi:a.2<3):crossed S a.1.no ((a.2:Int)+1)=match stepW S.C a with|none=>none|some r=>some (a.1.t,r):=by
 unfold crossed stepW
 rw [(faceOf_of O ha).2]
 have:corner ((a.2:Int)+1)=nx a.2:=by unfold corner nx;omega
 simp only [this]
 cases acr a.1.t (nx (nx a.2)) S.C<;>rfl
set_option maxRecDepth 100000 in
set_option maxHeartbeats 4000000 in
theorem hIdx(v x0 x1 x2:Int)(b:Nat)(w:World)(c0:w.cell? ⟨b,0,none⟩=some (.int .i64 x0))(c1:w.cell? ⟨b,1,none⟩=some (.int .i64 x1))(c2:w.cell? ⟨b,2,none⟩=some (.int .i64 x2)){r:Int}(hr:r=if x0=v then 0 else if x1=v then 1 else 2)(hv:x0=v∨x1=v∨x2=v):
  Calls Tryz.prog 150 #[.slice (some ⟨b,0,none⟩) 3 3, .int .i64 v] w fun e w'=>e= .returned (.int .i64 r)∧Below w.heap.size w w':=by
 have HR:Hid _:=hr
 have HV:Hid _:=hv
 clear hr hv
 go_enter Tryz.func150,Tryz.ntmps150
 go_wp2
 go_loopw [8] (fun i wr=>(i= .int .i64 0∨(i= .int .i64 1∧Hid (x0≠v))∨(i= .int .i64 2∧Hid (x0≠v)∧Hid (x1≠v)))∧wr=w) (fun i _=>3- (Go.RowKit.intOf i).toNat)
 case atStart=>exact⟨Or.inl rfl,rfl⟩
 case round=>
  obtain⟨hi,hwr⟩:=hrel
  rw [hwr]
  rcases hi with rfl|⟨rfl,h0⟩|⟨rfl,h0,h1⟩
  ·by_cases e:v=x0
   ·have e':(v==x0)=true:=by simpa using e
    have r0:Hid (r=0):=by unfold Hid;rw [HR.out,if_pos e.symm]
    clear HR HV e
    go_wp2
    exact bodyPost_ret (v:= .int .i64 0) (by simp [results,Tryz.results150,go_sem, *]) rfl ⟨by rw [r0.out],Below.refl _ _⟩
   ·have e':(v==x0)=false:=by simpa using e
    have h0:Hid (x0≠v):=fun q=>e q.symm
    clear e
    go_wp2
    go_roundw
    case rel=>exact⟨Or.inr (Or.inl ⟨by simp,h0⟩),by first|rfl|trivial⟩
    case measure=>simp [Go.RowKit.intOf]
  ·by_cases e:v=x1
   ·have e':(v==x1)=true:=by simpa using e
    have r0:Hid (r=1):=by unfold Hid;rw [HR.out,if_neg h0.out,if_pos e.symm]
    clear HR HV e
    go_wp2
    exact bodyPost_ret (v:= .int .i64 1) (by simp [results,Tryz.results150,go_sem, *]) rfl ⟨by rw [r0.out],Below.refl _ _⟩
   ·have e':(v==x1)=false:=by simpa using e
    have h1:Hid (x1≠v):=fun q=>e q.symm
    clear e
    go_wp2
    go_roundw
    case rel=>exact⟨Or.inr (Or.inr ⟨by simp,h0,h1⟩),by first|rfl|trivial⟩
    case measure=>simp [Go.RowKit.intOf]
  ·have e:v=x2:=by rcases HV.out with q|q|q;exact absurd q h0.out;exact absurd q h1.out;exact q.symm
   have e':(v==x2)=true:=by simpa using e
   have r0:Hid (r=2):=by unfold Hid;rw [HR.out,if_neg h0.out,if_neg h1.out]
   clear HR HV e
   go_wp2
   exact bodyPost_ret (v:= .int .i64 2) (by simp [results,Tryz.results150,go_sem, *]) rfl ⟨by rw [r0.out],Below.refl _ _⟩
set_option maxRecDepth 100000 in
set_option maxHeartbeats 4000000 in
theorem hLeft{MP:MeShape}(HSp:MeSp MP)(base pp:Nat)(S:Ms)(m:Nat)(F:Nat→Prop)(w:World)(HP:MP base pp S F w)(O:MsOk S m)(hm:m≤1000)(a:Wg)(ha:a.1∈S.C)(hi:a.2<3):
  Calls Tryz.prog 81 #[ptR pp,wgV a] w fun e w'=>(match stepW S.C a with|none=> ∃ x y:Int,e= .returned (.tuple #[.agg #[.int .i64 x, .int .i64 y], .bool false])|some b=>e= .returned (.tuple #[wgV b, .bool true]))∧Below w.heap.size w w':=by
 obtain⟨f,hf⟩: ∃ f,f=a.1.no:=⟨_,rfl⟩
 obtain⟨q,hq⟩: ∃ q:Int,q=(a.2:Int):=⟨_,rfl⟩
 have hq3:0≤q∧q<3:=by omega
 have h64:=(wg64 O hm ha).1
 rw [←hf]at h64
 show Calls Tryz.prog 81 #[ptR pp, .agg #[.int .i64 a.1.no, .int .i64 (a.2:Int)]] w _
 have hx:=crossed_step O ha hi
 rw [←hf,←hq]at hx
 rw [←hf,←hq]
 obtain⟨W,hW⟩: ∃ W,W=((w.alloc (.cells #[.int .i64 f, .int .i64 q] 158)).alloc (.cells #[.int .i64 0, .int .i64 0] 158)):=⟨_,rfl⟩
 have bW:Below w.heap.size w W:=by rw [hW];exact(((Below.refl _ _).alloc (Nat.le_refl _) _).alloc (by simp<;>omega) _)
 have zW:W.heap.size=w.heap.size+2:=by rw [hW];simp
 have Rh:Row W (w.heap.size) [.int .i64 f, .int .i64 q]:=by
  have h0:=Row.new w [.int .i64 f, .int .i64 q] 158
  rw [hW];exact(h0.alloc _ (by simp<;>omega))
 have lh:w.heap.size<W.heap.size:=by omega
 have Rr:Row W (w.heap.size+1) [.int .i64 0, .int .i64 0]:=by
  have h0:=Row.new (w.alloc (.cells #[.int .i64 f, .int .i64 q] 158)) [.int .i64 0, .int .i64 0] 158
  simp only [World.size_alloc]at h0
  rw [hW];exact h0
 have lr:w.heap.size+1<W.heap.size:=by omega
 have HW:((w.alloc (.cells #[.int .i64 f, .int .i64 q] 158)).alloc (.cells #[.int .i64 0, .int .i64 0] 158))=W:=hW.symm
 clear hW
 have HC:Hid _:=HSp.across base pp S m F W (HSp.below HP bW) O hm f (q+1) h64 ⟨by omega,by omega⟩
 have c0:=Rh.cell 0 _ rfl
 have c1:=Rh.cell 1 _ rfl
 have w1:wrap64 (q+1)=q+1:=wrap_in (by omega) (by omega)
 rw [hx]at HC
 clear HP hx hf hq
 cases hs:stepW S.C a with
 |none=>
  rw [hs]at HC
  simp only at HC
  have wk:wrap64 (q+1)=q+1:=w1
  clear w1 hs
  go_enter Tryz.func81,Tryz.ntmps81
  go_wp2_with (go_at_call 113;fail)
  refine Calls.mono HC.out ?_
  rintro e w2 ⟨he,b2⟩
  have he:e=_:=he
  subst he
  have z2:=b2.size
  obtain⟨w3,hw3⟩: ∃ w3,w3=w2.alloc (.cells #[.int .i64 0, .int .i64 0] 28):=⟨_,rfl⟩
  have q3:Below W.heap.size W w3:=by rw [hw3];exact b2.alloc z2 _
  have B3:Below w.heap.size w w3:=bW.trans (q3.mono (by omega))
  have R3:=Rr.below q3 (by omega)
  have s0:=R3.cell 0 _ rfl
  have s1:=R3.cell 1 _ rfl
  have f0:=R3.free 0 (by simp)
  have f1:=R3.free 1 (by simp)
  have R4:=(R3.set 0 (.int .i64 (-1)) (by simp)).set 1 (.int .i64 1) (by simp)
  have B4:Below w.heap.size w ((w3.setCell ⟨w.heap.size+1,0,none⟩ (.int .i64 (-1))).setCell ⟨w.heap.size+1,1,none⟩ (.int .i64 1)):=(B3.setCell (by simp) _).setCell (by simp) _
  have t0:=R4.cell 0 _ rfl
  have t1:=R4.cell 1 _ rfl
  rw [hw3]at s0 s1 f0 f1 t0 t1 B4
  clear HC c0 c1 R3 R4 q3 B3 hw3
  go_wp2
  exact bodyPost_ret (v:= .tuple #[.agg #[.int .i64 (-1), .int .i64 1], .bool false]) (by simp [results,Tryz.results81,go_sem, *]) rfl ⟨⟨_,_,rfl⟩,B4⟩
 |some b=>
  obtain⟨c,k⟩:=b
  have hk:k<3:=(step_to ⟨ha,hi,rfl⟩ hs).1.i
  rw [hs]at HC
  simp only at HC
  unfold CrossIs at HC
  simp only at HC
  obtain⟨g,hg⟩: ∃ g,g=c.no:=⟨_,rfl⟩
  obtain⟨dx,hdx⟩: ∃ d,d=a.1.t.x (nx (nx (corner (q+1))))- c.t.x k:=⟨_,rfl⟩
  obtain⟨dy,hdy⟩: ∃ d,d=a.1.t.y (nx (nx (corner (q+1))))- c.t.y k:=⟨_,rfl⟩
  obtain⟨kk,hkk⟩: ∃ d:Int,d=(((k+2) % 3:Nat):Int):=⟨_,rfl⟩
  rw [←hg,←hdx,←hdy,←hkk]at HC
  show Calls Tryz.prog 81 _ w fun e w'=>e= .returned (.tuple #[.agg #[.int .i64 c.no, .int .i64 (k:Int)], .bool true])∧Below w.heap.size w w'
  rw [←hg]
  have e1:(kk+1).tmod 3=(k:Int):=by rw [hkk];rcases lt3 hk with rfl|rfl|rfl<;>decide
  have hkr:0≤kk∧kk<3:=by omega
  obtain⟨k',hk'⟩: ∃ z:Int,z=(k:Int):=⟨_,rfl⟩
  rw [←hk']at e1 ⊢
  have wk:wrap64 (q+1)=q+1:=w1
  have wk2:wrap64 (kk+1)=kk+1:=wrap_in (by omega) (by omega)
  have wk3:wrap64 k'=k':=wrap_in (by omega) (by omega)
  clear w1 hs hg hdx hdy hkk hk'
  go_enter Tryz.func81,Tryz.ntmps81
  go_wp2_with (go_at_call 113;fail)
  refine Calls.mono HC.out ?_
  rintro e w2 ⟨he,b2⟩
  have he:e=_:=he
  subst he
  have z2:=b2.size
  obtain⟨w3,hw3⟩: ∃ w3,w3=w2.alloc (.cells #[.int .i64 dx, .int .i64 dy] 28):=⟨_,rfl⟩
  have q3:Below W.heap.size W w3:=by rw [hw3];exact b2.alloc z2 _
  have B3:Below w.heap.size w w3:=bW.trans (q3.mono (by omega))
  have R3:=Rr.below q3 (by omega)
  have s0:=R3.cell 0 _ rfl
  have s1:=R3.cell 1 _ rfl
  have f0:=R3.free 0 (by simp)
  have f1:=R3.free 1 (by simp)
  have R4:=(R3.set 0 (.int .i64 g) (by simp)).set 1 (.int .i64 k') (by simp)
  have B4:Below w.heap.size w ((w3.setCell ⟨w.heap.size+1,0,none⟩ (.int .i64 g)).setCell ⟨w.heap.size+1,1,none⟩ (.int .i64 k')):=(B3.setCell (by simp) _).setCell (by simp) _
  have t0:=R4.cell 0 _ rfl
  have t1:=R4.cell 1 _ rfl
  rw [hw3]at s0 s1 f0 f1 t0 t1 B4
  clear HC c0 c1 R3 R4 q3 B3 hw3
  go_wp2
  exact bodyPost_ret (v:= .tuple #[.agg #[.int .i64 g, .int .i64 k'], .bool true]) (by simp [results,Tryz.results81,go_sem, *]) rfl ⟨rfl,B4⟩
set_option maxRecDepth 100000 in
set_option maxHeartbeats 4000000 in
theorem hFol0{MP:MeShape}(HSp:MeSp MP)(base pp:Nat)(S:Ms)(m:Nat)(F:Nat→Prop)(w:World)(HP:MP base pp S F w)(O:MsOk S m)(hm:m≤1000)(c:Ce)(hc:c∈S.C):
  Calls Tryz.prog 80 #[ptR pp, .agg #[.int .i64 c.no, .int .i64 0]] w fun e w'=>e= .returned (.agg #[.int .i64 c.t.v1, .int .i64 (c.t.x1- c.t.x0), .int .i64 (c.t.y1- c.t.y0)])∧Below w.heap.size w w':=by
 have h64:=(wg64 O hm hc).1
 have ho:=wgOffs O hc
 have hX:c.t.x1- c.t.x0=wrap64 (c.t.x1- c.t.x0):=by
  have h1:_∧_:=(ho 1).1
  have h2:_∧_:=(ho 0).1
  simp [Tr.x]at h1 h2
  exact(wrap_in (by omega) (by omega)).symm
 have hY:c.t.y1- c.t.y0=wrap64 (c.t.y1- c.t.y0):=by
  have h1:_∧_:=(ho 1).2
  have h2:_∧_:=(ho 0).2
  simp [Tr.y]at h1 h2
  exact(wrap_in (by omega) (by omega)).symm
 have hfo:=(faceOf_of O hc).1
 obtain⟨t,ht⟩: ∃ t,t=c.t:=⟨_,rfl⟩
 rw [←ht]at hX hY hfo
 rw [←ht]
 obtain⟨f,hf⟩: ∃ f,f=c.no:=⟨_,rfl⟩
 rw [←hf]at hfo h64
 rw [←hf]
 obtain⟨X,hX0⟩: ∃ X,X=t.x1- t.x0:=⟨_,rfl⟩
 obtain⟨Y,hY0⟩: ∃ Y,Y=t.y1- t.y0:=⟨_,rfl⟩
 have HX:Hid (X=wrap64 (t.x1- t.x0)):=hX0.trans hX
 have HY:Hid (Y=wrap64 (t.y1- t.y0)):=hY0.trans hY
 rw [←hX0,←hY0]
 obtain⟨W,hW⟩: ∃ W,W=((w.alloc (.cells #[.int .i64 f, .int .i64 0] 158)).alloc (.cells #[.int .i64 0, .int .i64 0, .int .i64 0] 122)):=⟨_,rfl⟩
 have bW:Below w.heap.size w W:=by rw [hW];exact(((Below.refl _ _).alloc (Nat.le_refl _) _).alloc (by simp<;>omega) _)
 have zW:W.heap.size=w.heap.size+2:=by rw [hW];simp
 have Rh:Row W (w.heap.size) [.int .i64 f, .int .i64 0]:=by
  have h0:=Row.new w [.int .i64 f, .int .i64 0] 158
  rw [hW];exact(h0.alloc _ (by simp<;>omega))
 have lh:w.heap.size<W.heap.size:=by omega
 have Rr:Row W (w.heap.size+1) [.int .i64 0, .int .i64 0, .int .i64 0]:=by
  have h0:=Row.new (w.alloc (.cells #[.int .i64 f, .int .i64 0] 158)) [.int .i64 0, .int .i64 0, .int .i64 0] 122
  simp only [World.size_alloc]at h0
  rw [hW];exact h0
 have lr:w.heap.size+1<W.heap.size:=by omega
 have HW:((w.alloc (.cells #[.int .i64 f, .int .i64 0] 158)).alloc (.cells #[.int .i64 0, .int .i64 0, .int .i64 0] 122))=W:=hW.symm
 clear hW
 obtain⟨isf,hisf⟩: ∃ u,u=isF S f:=⟨_,rfl⟩
 have CF:Hid _:=HSp.face base pp S m F W (HSp.below HP bW) O hm f h64
 rw [hfo,←hisf]at CF
 have c0:=Rh.cell 0 _ rfl
 clear HP hf ht hfo hX hY hX0 hY0 ho hc hisf h64
 go_enter Tryz.func80,Tryz.ntmps80
 go_wp2_with (go_at_call 56;fail)
 refine Calls.mono CF.out ?_
 rintro e w2 ⟨rfl,b2⟩
 have z2:=b2.size
 obtain⟨w3,hw3⟩: ∃ w3,w3=w2.alloc (.cells #[.int .i64 t.v0, .int .i64 t.v1, .int .i64 t.v2, .int .i64 t.x0, .int .i64 t.y0, .int .i64 t.x1, .int .i64 t.y1, .int .i64 t.x2, .int .i64 t.y2] 54):=⟨_,rfl⟩
 have q3:Below W.heap.size W w3:=by rw [hw3];exact b2.alloc z2 _
 have z3:w3.heap.size=w2.heap.size+1:=by rw [hw3];simp
 have B3:Below w.heap.size w w3:=bW.trans (q3.mono (by omega))
 have R3:Row w3 w2.heap.size [.int .i64 t.v0, .int .i64 t.v1, .int .i64 t.v2, .int .i64 t.x0, .int .i64 t.y0, .int .i64 t.x1, .int .i64 t.y1, .int .i64 t.x2, .int .i64 t.y2]:=by rw [hw3];exact Row.new w2 [.int .i64 t.v0, .int .i64 t.v1, .int .i64 t.v2, .int .i64 t.x0, .int .i64 t.y0, .int .i64 t.x1, .int .i64 t.y1, .int .i64 t.x2, .int .i64 t.y2] _
 have Rh3:=Rh.below q3 (by omega)
 have Rr:=Rr.below q3 (by omega)
 have d0:=R3.cell 1 _ rfl
 have d1:=R3.cell 5 _ rfl
 have d2:=R3.cell 6 _ rfl
 have d3:=R3.cell 3 _ rfl
 have d4:=R3.cell 4 _ rfl
 have e1:=Rh3.cell 1 _ rfl
 have l2:w2.heap.size<w3.heap.size:=by omega
 have l0:w.heap.size<w3.heap.size:=by omega
 have lr:w.heap.size+1<w3.heap.size:=by omega
 have n2: ¬(w2.heap.size=w.heap.size+1):=by omega
 have n0: ¬(w.heap.size=w.heap.size+1):=by omega
 have e1':=e1
 rw [hw3]at e1'
 have H3:Hid _:=hw3.symm
 clear CF c0 hw3 HW R3 Rh3
 go_wp2
 rw [H3.out]
 clear e1'
 have HSs:Hid (∀ w',Keep (fun k=>k=w.heap.size+1) w3 w'→(fun w'=>w'.cell? ⟨w2.heap.size,1,none⟩=some (.int .i64 t.v1)∧w'.cell? ⟨w2.heap.size,5,none⟩=some (.int .i64 t.x1)∧w'.cell? ⟨w2.heap.size,6,none⟩=some (.int .i64 t.y1)∧w'.cell? ⟨w2.heap.size,3,none⟩=some (.int .i64 t.x0)∧w'.cell? ⟨w2.heap.size,4,none⟩=some (.int .i64 t.y0)∧w'.cell? ⟨w.heap.size,1,none⟩=some (.int .i64 0)∧Keep (fun k=>k=w.heap.size+1) w3 w') w'):=by
  unfold Hid
  intro w' hb
  exact⟨(hb.cell (p:=⟨w2.heap.size,1,none⟩) l2 n2).trans d0,(hb.cell (p:=⟨w2.heap.size,5,none⟩) l2 n2).trans d1,(hb.cell (p:=⟨w2.heap.size,6,none⟩) l2 n2).trans d2,(hb.cell (p:=⟨w2.heap.size,3,none⟩) l2 n2).trans d3,(hb.cell (p:=⟨w2.heap.size,4,none⟩) l2 n2).trans d4,(hb.cell (p:=⟨w.heap.size,1,none⟩) l0 n0).trans e1,hb⟩
 refine wp_region_held_drew (S:=fun w'=>w'.cell? ⟨w2.heap.size,1,none⟩=some (.int .i64 t.v1)∧w'.cell? ⟨w2.heap.size,5,none⟩=some (.int .i64 t.x1)∧w'.cell? ⟨w2.heap.size,6,none⟩=some (.int .i64 t.y1)∧w'.cell? ⟨w2.heap.size,3,none⟩=some (.int .i64 t.x0)∧w'.cell? ⟨w2.heap.size,4,none⟩=some (.int .i64 t.y0)∧w'.cell? ⟨w.heap.size,1,none⟩=some (.int .i64 0)∧Keep (fun k=>k=w.heap.size+1) w3 w') (by kernel_rfl) ?_ (fun hHeld=>?_)
 ·exact HSs.out _ ((Keep.refl _ _).drew)
 refine tn 0 ?_;refine tn 1 ?_;refine tn 2 ?_;refine tn 3 ?_;refine tn 4 ?_;refine tn 5 ?_;refine tn 6 ?_;refine tn 7 ?_;refine tn 8 ?_;refine tn 9 ?_;refine tn 10 ?_;refine tn 11 ?_;refine tn 12 ?_
 simp only [Act.put,ps1,ps2,ps3]
 refine tcl 13 fun Kc hK=>?_
 go_simp
 (go_at_call 151;refine(lLess t.x1 t.y1 t.x0 t.y0 _ HX.out HY.out).mono ?_;rintro e w4 ⟨rfl,b4⟩)
 refine hK.out _ _ ?_ (fun hHeld=>?_)
 ·exact HSs.out _ (hHeld.2.2.2.2.2.2.to b4)
 clear hK Kc
 replace Rr:=Rr.drew.below b4 lr
 refine tz (i:=14) rfl ?_
 simp only [Act.put,ps1,ps2,ps3]
 have sc0:=Rr.cell 0 _ rfl
 have sf0:=Rr.free 0 (by simp)
 have sc1:=Rr.cell 1 _ rfl
 have sf1:=Rr.free 1 (by simp)
 have sc2:=Rr.cell 2 _ rfl
 have sf2:=Rr.free 2 (by simp)
 refine tcl 15 fun Kc hK=>?_
 go_simp
 refine hK.out _ _ ?_ (fun hHeld=>?_)
 ·exact HSs.out _ (((hHeld.2.2.2.2.2.2.set (Or.inl rfl) _).set (Or.inl rfl) _).set (Or.inl rfl) _)
 clear hK Kc
 refine wpAnyH_done (by kernel_rfl) ?_ _
 have kxx:=hHeld.2.2.2.2.2.2
 have R2:=((Rr.set 0 (.int .i64 t.v1) (by simp)).set 1 (.int .i64 X) (by simp)).set 2 (.int .i64 Y) (by simp)
 have BX:=B3.trans (kxx.below (B:=w.heap.size) (by omega) (fun k e=>by omega))
 have e0:=R2.cell 0 _ rfl
 have e1:=R2.cell 1 _ rfl
 have e2:=R2.cell 2 _ rfl
 clear hHeld HSs kxx Rr
 try go_wp2
 exact bodyPost_ret (v:= .agg #[.int .i64 t.v1, .int .i64 X, .int .i64 Y]) (by simp [results,Tryz.results80,go_sem, *]) rfl ⟨rfl,BX⟩
set_option maxRecDepth 100000 in
set_option maxHeartbeats 4000000 in
theorem hFol1{MP:MeShape}(HSp:MeSp MP)(base pp:Nat)(S:Ms)(m:Nat)(F:Nat→Prop)(w:World)(HP:MP base pp S F w)(O:MsOk S m)(hm:m≤1000)(c:Ce)(hc:c∈S.C):
  Calls Tryz.prog 80 #[ptR pp, .agg #[.int .i64 c.no, .int .i64 1]] w fun e w'=>e= .returned (.agg #[.int .i64 c.t.v2, .int .i64 (c.t.x2- c.t.x1), .int .i64 (c.t.y2- c.t.y1)])∧Below w.heap.size w w':=by
 have h64:=(wg64 O hm hc).1
 have ho:=wgOffs O hc
 have hX:c.t.x2- c.t.x1=wrap64 (c.t.x2- c.t.x1):=by
  have h1:_∧_:=(ho 2).1
  have h2:_∧_:=(ho 1).1
  simp [Tr.x]at h1 h2
  exact(wrap_in (by omega) (by omega)).symm
 have hY:c.t.y2- c.t.y1=wrap64 (c.t.y2- c.t.y1):=by
  have h1:_∧_:=(ho 2).2
  have h2:_∧_:=(ho 1).2
  simp [Tr.y]at h1 h2
  exact(wrap_in (by omega) (by omega)).symm
 have hfo:=(faceOf_of O hc).1
 obtain⟨t,ht⟩: ∃ t,t=c.t:=⟨_,rfl⟩
 rw [←ht]at hX hY hfo
 rw [←ht]
 obtain⟨f,hf⟩: ∃ f,f=c.no:=⟨_,rfl⟩
 rw [←hf]at hfo h64
 rw [←hf]
 obtain⟨X,hX0⟩: ∃ X,X=t.x2- t.x1:=⟨_,rfl⟩
 obtain⟨Y,hY0⟩: ∃ Y,Y=t.y2- t.y1:=⟨_,rfl⟩
 have HX:Hid (X=wrap64 (t.x2- t.x1)):=hX0.trans hX
 have HY:Hid (Y=wrap64 (t.y2- t.y1)):=hY0.trans hY
 rw [←hX0,←hY0]
 obtain⟨W,hW⟩: ∃ W,W=((w.alloc (.cells #[.int .i64 f, .int .i64 1] 158)).alloc (.cells #[.int .i64 0, .int .i64 0, .int .i64 0] 122)):=⟨_,rfl⟩
 have bW:Below w.heap.size w W:=by rw [hW];exact(((Below.refl _ _).alloc (Nat.le_refl _) _).alloc (by simp<;>omega) _)
 have zW:W.heap.size=w.heap.size+2:=by rw [hW];simp
 have Rh:Row W (w.heap.size) [.int .i64 f, .int .i64 1]:=by
  have h0:=Row.new w [.int .i64 f, .int .i64 1] 158
  rw [hW];exact(h0.alloc _ (by simp<;>omega))
 have lh:w.heap.size<W.heap.size:=by omega
 have Rr:Row W (w.heap.size+1) [.int .i64 0, .int .i64 0, .int .i64 0]:=by
  have h0:=Row.new (w.alloc (.cells #[.int .i64 f, .int .i64 1] 158)) [.int .i64 0, .int .i64 0, .int .i64 0] 122
  simp only [World.size_alloc]at h0
  rw [hW];exact h0
 have lr:w.heap.size+1<W.heap.size:=by omega
 have HW:((w.alloc (.cells #[.int .i64 f, .int .i64 1] 158)).alloc (.cells #[.int .i64 0, .int .i64 0, .int .i64 0] 122))=W:=hW.symm
 clear hW
 obtain⟨isf,hisf⟩: ∃ u,u=isF S f:=⟨_,rfl⟩
 have CF:Hid _:=HSp.face base pp S m F W (HSp.below HP bW) O hm f h64
 rw [hfo,←hisf]at CF
 have c0:=Rh.cell 0 _ rfl
 clear HP hf ht hfo hX hY hX0 hY0 ho hc hisf h64
 go_enter Tryz.func80,Tryz.ntmps80
 go_wp2_with (go_at_call 56;fail)
 refine Calls.mono CF.out ?_
 rintro e w2 ⟨rfl,b2⟩
 have z2:=b2.size
 obtain⟨w3,hw3⟩: ∃ w3,w3=w2.alloc (.cells #[.int .i64 t.v0, .int .i64 t.v1, .int .i64 t.v2, .int .i64 t.x0, .int .i64 t.y0, .int .i64 t.x1, .int .i64 t.y1, .int .i64 t.x2, .int .i64 t.y2] 54):=⟨_,rfl⟩
 have q3:Below W.heap.size W w3:=by rw [hw3];exact b2.alloc z2 _
 have z3:w3.heap.size=w2.heap.size+1:=by rw [hw3];simp
 have B3:Below w.heap.size w w3:=bW.trans (q3.mono (by omega))
 have R3:Row w3 w2.heap.size [.int .i64 t.v0, .int .i64 t.v1, .int .i64 t.v2, .int .i64 t.x0, .int .i64 t.y0, .int .i64 t.x1, .int .i64 t.y1, .int .i64 t.x2, .int .i64 t.y2]:=by rw [hw3];exact Row.new w2 [.int .i64 t.v0, .int .i64 t.v1, .int .i64 t.v2, .int .i64 t.x0, .int .i64 t.y0, .int .i64 t.x1, .int .i64 t.y1, .int .i64 t.x2, .int .i64 t.y2] _
 have Rh3:=Rh.below q3 (by omega)
 have Rr:=Rr.below q3 (by omega)
 have d0:=R3.cell 2 _ rfl
 have d1:=R3.cell 7 _ rfl
 have d2:=R3.cell 8 _ rfl
 have d3:=R3.cell 5 _ rfl
 have d4:=R3.cell 6 _ rfl
 have e1:=Rh3.cell 1 _ rfl
 have l2:w2.heap.size<w3.heap.size:=by omega
 have l0:w.heap.size<w3.heap.size:=by omega
 have lr:w.heap.size+1<w3.heap.size:=by omega
 have n2: ¬(w2.heap.size=w.heap.size+1):=by omega
 have n0: ¬(w.heap.size=w.heap.size+1):=by omega
 have e1':=e1
 rw [hw3]at e1'
 have H3:Hid _:=hw3.symm
 clear CF c0 hw3 HW R3 Rh3
 go_wp2
 rw [H3.out]
 clear e1'
 have HSs:Hid (∀ w',Keep (fun k=>k=w.heap.size+1) w3 w'→(fun w'=>w'.cell? ⟨w2.heap.size,2,none⟩=some (.int .i64 t.v2)∧w'.cell? ⟨w2.heap.size,7,none⟩=some (.int .i64 t.x2)∧w'.cell? ⟨w2.heap.size,8,none⟩=some (.int .i64 t.y2)∧w'.cell? ⟨w2.heap.size,5,none⟩=some (.int .i64 t.x1)∧w'.cell? ⟨w2.heap.size,6,none⟩=some (.int .i64 t.y1)∧w'.cell? ⟨w.heap.size,1,none⟩=some (.int .i64 1)∧Keep (fun k=>k=w.heap.size+1) w3 w') w'):=by
  unfold Hid
  intro w' hb
  exact⟨(hb.cell (p:=⟨w2.heap.size,2,none⟩) l2 n2).trans d0,(hb.cell (p:=⟨w2.heap.size,7,none⟩) l2 n2).trans d1,(hb.cell (p:=⟨w2.heap.size,8,none⟩) l2 n2).trans d2,(hb.cell (p:=⟨w2.heap.size,5,none⟩) l2 n2).trans d3,(hb.cell (p:=⟨w2.heap.size,6,none⟩) l2 n2).trans d4,(hb.cell (p:=⟨w.heap.size,1,none⟩) l0 n0).trans e1,hb⟩
 refine wp_region_held_drew (S:=fun w'=>w'.cell? ⟨w2.heap.size,2,none⟩=some (.int .i64 t.v2)∧w'.cell? ⟨w2.heap.size,7,none⟩=some (.int .i64 t.x2)∧w'.cell? ⟨w2.heap.size,8,none⟩=some (.int .i64 t.y2)∧w'.cell? ⟨w2.heap.size,5,none⟩=some (.int .i64 t.x1)∧w'.cell? ⟨w2.heap.size,6,none⟩=some (.int .i64 t.y1)∧w'.cell? ⟨w.heap.size,1,none⟩=some (.int .i64 1)∧Keep (fun k=>k=w.heap.size+1) w3 w') (by kernel_rfl) ?_ (fun hHeld=>?_)
 ·exact HSs.out _ ((Keep.refl _ _).drew)
 refine tn 0 ?_;refine tn 1 ?_;refine tn 2 ?_;refine tn 3 ?_;refine tn 4 ?_;refine tn 5 ?_;refine tn 6 ?_;refine tn 7 ?_;refine tn 8 ?_;refine tn 9 ?_;refine tn 10 ?_;refine tn 11 ?_;refine tn 12 ?_
 simp only [Act.put,ps1,ps2,ps3]
 refine tcl 13 fun Kc hK=>?_
 go_simp
 (go_at_call 151;refine(lLess t.x2 t.y2 t.x1 t.y1 _ HX.out HY.out).mono ?_;rintro e w4 ⟨rfl,b4⟩)
 refine hK.out _ _ ?_ (fun hHeld=>?_)
 ·exact HSs.out _ (hHeld.2.2.2.2.2.2.to b4)
 clear hK Kc
 replace Rr:=Rr.drew.below b4 lr
 refine tz (i:=14) rfl ?_
 simp only [Act.put,ps1,ps2,ps3]
 have sc0:=Rr.cell 0 _ rfl
 have sf0:=Rr.free 0 (by simp)
 have sc1:=Rr.cell 1 _ rfl
 have sf1:=Rr.free 1 (by simp)
 have sc2:=Rr.cell 2 _ rfl
 have sf2:=Rr.free 2 (by simp)
 refine tcl 15 fun Kc hK=>?_
 go_simp
 refine hK.out _ _ ?_ (fun hHeld=>?_)
 ·exact HSs.out _ (((hHeld.2.2.2.2.2.2.set (Or.inl rfl) _).set (Or.inl rfl) _).set (Or.inl rfl) _)
 clear hK Kc
 refine wpAnyH_done (by kernel_rfl) ?_ _
 have kxx:=hHeld.2.2.2.2.2.2
 have R2:=((Rr.set 0 (.int .i64 t.v2) (by simp)).set 1 (.int .i64 X) (by simp)).set 2 (.int .i64 Y) (by simp)
 have BX:=B3.trans (kxx.below (B:=w.heap.size) (by omega) (fun k e=>by omega))
 have e0:=R2.cell 0 _ rfl
 have e1:=R2.cell 1 _ rfl
 have e2:=R2.cell 2 _ rfl
 clear hHeld HSs kxx Rr
 try go_wp2
 exact bodyPost_ret (v:= .agg #[.int .i64 t.v2, .int .i64 X, .int .i64 Y]) (by simp [results,Tryz.results80,go_sem, *]) rfl ⟨rfl,BX⟩
set_option maxRecDepth 100000 in
set_option maxHeartbeats 4000000 in
theorem hFol2{MP:MeShape}(HSp:MeSp MP)(base pp:Nat)(S:Ms)(m:Nat)(F:Nat→Prop)(w:World)(HP:MP base pp S F w)(O:MsOk S m)(hm:m≤1000)(c:Ce)(hc:c∈S.C):
  Calls Tryz.prog 80 #[ptR pp, .agg #[.int .i64 c.no, .int .i64 2]] w fun e w'=>e= .returned (.agg #[.int .i64 c.t.v0, .int .i64 (c.t.x0- c.t.x2), .int .i64 (c.t.y0- c.t.y2)])∧Below w.heap.size w w':=by
 have h64:=(wg64 O hm hc).1
 have ho:=wgOffs O hc
 have hX:c.t.x0- c.t.x2=wrap64 (c.t.x0- c.t.x2):=by
  have h1:_∧_:=(ho 0).1
  have h2:_∧_:=(ho 2).1
  simp [Tr.x]at h1 h2
  exact(wrap_in (by omega) (by omega)).symm
 have hY:c.t.y0- c.t.y2=wrap64 (c.t.y0- c.t.y2):=by
  have h1:_∧_:=(ho 0).2
  have h2:_∧_:=(ho 2).2
  simp [Tr.y]at h1 h2
  exact(wrap_in (by omega) (by omega)).symm
 have hfo:=(faceOf_of O hc).1
 obtain⟨t,ht⟩: ∃ t,t=c.t:=⟨_,rfl⟩
 rw [←ht]at hX hY hfo
 rw [←ht]
 obtain⟨f,hf⟩: ∃ f,f=c.no:=⟨_,rfl⟩
 rw [←hf]at hfo h64
 rw [←hf]
 obtain⟨X,hX0⟩: ∃ X,X=t.x0- t.x2:=⟨_,rfl⟩
 obtain⟨Y,hY0⟩: ∃ Y,Y=t.y0- t.y2:=⟨_,rfl⟩
 have HX:Hid (X=wrap64 (t.x0- t.x2)):=hX0.trans hX
 have HY:Hid (Y=wrap64 (t.y0- t.y2)):=hY0.trans hY
 rw [←hX0,←hY0]
 obtain⟨W,hW⟩: ∃ W,W=((w.alloc (.cells #[.int .i64 f, .int .i64 2] 158)).alloc (.cells #[.int .i64 0, .int .i64 0, .int .i64 0] 122)):=⟨_,rfl⟩
 have bW:Below w.heap.size w W:=by rw [hW];exact(((Below.refl _ _).alloc (Nat.le_refl _) _).alloc (by simp<;>omega) _)
 have zW:W.heap.size=w.heap.size+2:=by rw [hW];simp
 have Rh:Row W (w.heap.size) [.int .i64 f, .int .i64 2]:=by
  have h0:=Row.new w [.int .i64 f, .int .i64 2] 158
  rw [hW];exact(h0.alloc _ (by simp<;>omega))
 have lh:w.heap.size<W.heap.size:=by omega
 have Rr:Row W (w.heap.size+1) [.int .i64 0, .int .i64 0, .int .i64 0]:=by
  have h0:=Row.new (w.alloc (.cells #[.int .i64 f, .int .i64 2] 158)) [.int .i64 0, .int .i64 0, .int .i64 0] 122
  simp only [World.size_alloc]at h0
  rw [hW];exact h0
 have lr:w.heap.size+1<W.heap.size:=by omega
 have HW:((w.alloc (.cells #[.int .i64 f, .int .i64 2] 158)).alloc (.cells #[.int .i64 0, .int .i64 0, .int .i64 0] 122))=W:=hW.symm
 clear hW
 obtain⟨isf,hisf⟩: ∃ u,u=isF S f:=⟨_,rfl⟩
 have CF:Hid _:=HSp.face base pp S m F W (HSp.below HP bW) O hm f h64
 rw [hfo,←hisf]at CF
 have c0:=Rh.cell 0 _ rfl
 clear HP hf ht hfo hX hY hX0 hY0 ho hc hisf h64
 go_enter Tryz.func80,Tryz.ntmps80
 go_wp2_with (go_at_call 56;fail)
 refine Calls.mono CF.out ?_
 rintro e w2 ⟨rfl,b2⟩
 have z2:=b2.size
 obtain⟨w3,hw3⟩: ∃ w3,w3=w2.alloc (.cells #[.int .i64 t.v0, .int .i64 t.v1, .int .i64 t.v2, .int .i64 t.x0, .int .i64 t.y0, .int .i64 t.x1, .int .i64 t.y1, .int .i64 t.x2, .int .i64 t.y2] 54):=⟨_,rfl⟩
 have q3:Below W.heap.size W w3:=by rw [hw3];exact b2.alloc z2 _
 have z3:w3.heap.size=w2.heap.size+1:=by rw [hw3];simp
 have B3:Below w.heap.size w w3:=bW.trans (q3.mono (by omega))
 have R3:Row w3 w2.heap.size [.int .i64 t.v0, .int .i64 t.v1, .int .i64 t.v2, .int .i64 t.x0, .int .i64 t.y0, .int .i64 t.x1, .int .i64 t.y1, .int .i64 t.x2, .int .i64 t.y2]:=by rw [hw3];exact Row.new w2 [.int .i64 t.v0, .int .i64 t.v1, .int .i64 t.v2, .int .i64 t.x0, .int .i64 t.y0, .int .i64 t.x1, .int .i64 t.y1, .int .i64 t.x2, .int .i64 t.y2] _
 have Rh3:=Rh.below q3 (by omega)
 have Rr:=Rr.below q3 (by omega)
 have d0:=R3.cell 0 _ rfl
 have d1:=R3.cell 3 _ rfl
 have d2:=R3.cell 4 _ rfl
 have d3:=R3.cell 7 _ rfl
 have d4:=R3.cell 8 _ rfl
 have e1:=Rh3.cell 1 _ rfl
 have l2:w2.heap.size<w3.heap.size:=by omega
 have l0:w.heap.size<w3.heap.size:=by omega
 have lr:w.heap.size+1<w3.heap.size:=by omega
 have n2: ¬(w2.heap.size=w.heap.size+1):=by omega
 have n0: ¬(w.heap.size=w.heap.size+1):=by omega
 have e1':=e1
 rw [hw3]at e1'
 have H3:Hid _:=hw3.symm
 clear CF c0 hw3 HW R3 Rh3
 go_wp2
 rw [H3.out]
 clear e1'
 have HSs:Hid (∀ w',Keep (fun k=>k=w.heap.size+1) w3 w'→(fun w'=>w'.cell? ⟨w2.heap.size,0,none⟩=some (.int .i64 t.v0)∧w'.cell? ⟨w2.heap.size,3,none⟩=some (.int .i64 t.x0)∧w'.cell? ⟨w2.heap.size,4,none⟩=some (.int .i64 t.y0)∧w'.cell? ⟨w2.heap.size,7,none⟩=some (.int .i64 t.x2)∧w'.cell? ⟨w2.heap.size,8,none⟩=some (.int .i64 t.y2)∧w'.cell? ⟨w.heap.size,1,none⟩=some (.int .i64 2)∧Keep (fun k=>k=w.heap.size+1) w3 w') w'):=by
  unfold Hid
  intro w' hb
  exact⟨(hb.cell (p:=⟨w2.heap.size,0,none⟩) l2 n2).trans d0,(hb.cell (p:=⟨w2.heap.size,3,none⟩) l2 n2).trans d1,(hb.cell (p:=⟨w2.heap.size,4,none⟩) l2 n2).trans d2,(hb.cell (p:=⟨w2.heap.size,7,none⟩) l2 n2).trans d3,(hb.cell (p:=⟨w2.heap.size,8,none⟩) l2 n2).trans d4,(hb.cell (p:=⟨w.heap.size,1,none⟩) l0 n0).trans e1,hb⟩
 refine wp_region_held_drew (S:=fun w'=>w'.cell? ⟨w2.heap.size,0,none⟩=some (.int .i64 t.v0)∧w'.cell? ⟨w2.heap.size,3,none⟩=some (.int .i64 t.x0)∧w'.cell? ⟨w2.heap.size,4,none⟩=some (.int .i64 t.y0)∧w'.cell? ⟨w2.heap.size,7,none⟩=some (.int .i64 t.x2)∧w'.cell? ⟨w2.heap.size,8,none⟩=some (.int .i64 t.y2)∧w'.cell? ⟨w.heap.size,1,none⟩=some (.int .i64 2)∧Keep (fun k=>k=w.heap.size+1) w3 w') (by kernel_rfl) ?_ (fun hHeld=>?_)
 ·exact HSs.out _ ((Keep.refl _ _).drew)
 refine tn 0 ?_;refine tn 1 ?_;refine tn 2 ?_;refine tn 3 ?_;refine tn 4 ?_;refine tn 5 ?_;refine tn 6 ?_;refine tn 7 ?_;refine tn 8 ?_;refine tn 9 ?_;refine tn 10 ?_;refine tn 11 ?_;refine tn 12 ?_
 simp only [Act.put,ps1,ps2,ps3]
 refine tcl 13 fun Kc hK=>?_
 go_simp
 (go_at_call 151;refine(lLess t.x0 t.y0 t.x2 t.y2 _ HX.out HY.out).mono ?_;rintro e w4 ⟨rfl,b4⟩)
 refine hK.out _ _ ?_ (fun hHeld=>?_)
 ·exact HSs.out _ (hHeld.2.2.2.2.2.2.to b4)
 clear hK Kc
 replace Rr:=Rr.drew.below b4 lr
 refine tz (i:=14) rfl ?_
 simp only [Act.put,ps1,ps2,ps3]
 have sc0:=Rr.cell 0 _ rfl
 have sf0:=Rr.free 0 (by simp)
 have sc1:=Rr.cell 1 _ rfl
 have sf1:=Rr.free 1 (by simp)
 have sc2:=Rr.cell 2 _ rfl
 have sf2:=Rr.free 2 (by simp)
 refine tcl 15 fun Kc hK=>?_
 go_simp
 refine hK.out _ _ ?_ (fun hHeld=>?_)
 ·exact HSs.out _ (((hHeld.2.2.2.2.2.2.set (Or.inl rfl) _).set (Or.inl rfl) _).set (Or.inl rfl) _)
 clear hK Kc
 refine wpAnyH_done (by kernel_rfl) ?_ _
 have kxx:=hHeld.2.2.2.2.2.2
 have R2:=((Rr.set 0 (.int .i64 t.v0) (by simp)).set 1 (.int .i64 X) (by simp)).set 2 (.int .i64 Y) (by simp)
 have BX:=B3.trans (kxx.below (B:=w.heap.size) (by omega) (fun k e=>by omega))
 have e0:=R2.cell 0 _ rfl
 have e1:=R2.cell 1 _ rfl
 have e2:=R2.cell 2 _ rfl
 clear hHeld HSs kxx Rr
 try go_wp2
 exact bodyPost_ret (v:= .agg #[.int .i64 t.v0, .int .i64 X, .int .i64 Y]) (by simp [results,Tryz.results80,go_sem, *]) rfl ⟨rfl,BX⟩
set_option maxRecDepth 100000 in
set_option maxHeartbeats 4000000 in
theorem hFirst0{MP:MeShape}(HSp:MeSp MP)(base pp:Nat)(S:Ms)(m:Nat)(F:Nat→Prop)(w:World)(HP:MP base pp S F w)(O:MsOk S m)(hm:m≤1000)(v:Int)(hv:In64 v)(h0:around S.C v= []):
  Calls Tryz.prog 79 #[ptR pp, .int .i64 v] w fun e w'=>e= .returned (.tuple #[.agg #[.int .i64 0, .int .i64 0], .bool false])∧Below w.heap.size w w':=by
 obtain⟨W,hW⟩: ∃ W,W=(w.alloc (.cells #[.int .i64 0, .int .i64 0] 158)):=⟨_,rfl⟩
 have bW:Below w.heap.size w W:=by rw [hW];exact((Below.refl _ _).alloc (Nat.le_refl _) _)
 have zW:W.heap.size=w.heap.size+1:=by rw [hW];simp
 have Rr:Row W (w.heap.size) [.int .i64 0, .int .i64 0]:=by
  have h0:=Row.new w [.int .i64 0, .int .i64 0] 158
  rw [hW];exact h0
 have lr:w.heap.size<W.heap.size:=by omega
 have HW:(w.alloc (.cells #[.int .i64 0, .int .i64 0] 158))=W:=hW.symm
 clear hW
 have CA:Hid _:=HSp.around base pp S m F W (HSp.below HP bW) O hm v hv [] h0.symm
 clear HP h0
 go_enter Tryz.func79,Tryz.ntmps79
 go_wp2_with (go_at_call 149;fail)
 try rw [HW]
 refine Calls.mono CA.out ?_
 rintro e w2 ⟨a,c,rfl,ow,b2⟩
 have z2:=b2.size
 have B3:Below w.heap.size w w2:=bW.trans (b2.mono (by omega))
 have R3:=Rr.below b2 (by omega)
 have s0:=R3.cell 0 _ rfl
 have s1:=R3.cell 1 _ rfl
 have f0:=R3.free 0 (by simp)
 have f1:=R3.free 1 (by simp)
 have R4:=(R3.set 0 (.int .i64 0) (by simp)).set 1 (.int .i64 0) (by simp)
 have B4:Below w.heap.size w ((w2.setCell ⟨w.heap.size,0,none⟩ (.int .i64 0)).setCell ⟨w.heap.size,1,none⟩ (.int .i64 0)):=(B3.setCell (by simp) _).setCell (by simp) _
 have t0:=R4.cell 0 _ rfl
 have t1:=R4.cell 1 _ rfl
 simp only [List.length_nil]at ow
 clear CA ow R3 R4 HW
 simp only [List.length_nil]
 go_wp2
 exact bodyPost_ret (v:= .tuple #[.agg #[.int .i64 0, .int .i64 0], .bool false]) (by simp [results,Tryz.results79,go_sem, *]) rfl ⟨rfl,B4⟩
set_option maxRecDepth 100000 in
set_option maxHeartbeats 4000000 in
theorem hFirst1{MP:MeShape}(HSp:MeSp MP)(base pp:Nat)(S:Ms)(m:Nat)(F:Nat→Prop)(w:World)(HP:MP base pp S F w)(O:MsOk S m)(hm:m≤1000)(v:Int)(hv:In64 v)(a:Wg)(ha:firstW S.C v=some a):
  Calls Tryz.prog 79 #[ptR pp, .int .i64 v] w fun e w'=>e= .returned (.tuple #[wgV a, .bool true])∧Below w.heap.size w w':=by
 have hw:=first_is ha
 obtain⟨R,hR⟩:=first_around ha
 have hfo:=(faceOf_of O hw.c).1
 have h64:=(wg64 O hm hw.c).1
 obtain⟨c,i⟩:=a
 have hi:i=cornV c.t v:=by
  unfold firstW at ha
  split at ha
  ·cases ha
  ·cases ha;rfl
 have hhas:c.t.v0=v∨c.t.v1=v∨c.t.v2=v:=by
  have h3:i<3:=hw.i
  have h4:c.t.v i=v:=hw.v
  rcases lt3 h3 with q|q|q<;>rw [q]at h4<;>simp [Tr.v]at h4
  ·exact Or.inl h4
  ·exact Or.inr (Or.inl h4)
  ·exact Or.inr (Or.inr h4)
 show Calls Tryz.prog 79 #[ptR pp, .int .i64 v] w fun e w'=>e= .returned (.tuple #[.agg #[.int .i64 c.no, .int .i64 (i:Int)], .bool true])∧Below w.heap.size w w'
 simp only at hR hfo h64
 obtain⟨t,ht⟩: ∃ t,t=c.t:=⟨_,rfl⟩
 rw [←ht]at hhas hfo hi
 obtain⟨f,hf⟩: ∃ f,f=c.no:=⟨_,rfl⟩
 rw [←hf]at hfo h64 hR
 rw [←hf]
 obtain⟨r,hr⟩: ∃ r:Int,r=(i:Int):=⟨_,rfl⟩
 have HR:Hid (r=if t.v0=v then 0 else if t.v1=v then 1 else 2):=by
  unfold Hid
  rw [hr,hi]
  unfold cornV
  split
  ·rfl
  ·split<;>rfl
 have HH:Hid _:=hhas
 rw [←hr]
 obtain⟨W,hW⟩: ∃ W,W=(w.alloc (.cells #[.int .i64 0, .int .i64 0] 158)):=⟨_,rfl⟩
 have bW:Below w.heap.size w W:=by rw [hW];exact((Below.refl _ _).alloc (Nat.le_refl _) _)
 have zW:W.heap.size=w.heap.size+1:=by rw [hW];simp
 have Rr:Row W (w.heap.size) [.int .i64 0, .int .i64 0]:=by
  have h0:=Row.new w [.int .i64 0, .int .i64 0] 158
  rw [hW];exact h0
 have lr:w.heap.size<W.heap.size:=by omega
 have HW:(w.alloc (.cells #[.int .i64 0, .int .i64 0] 158))=W:=hW.symm
 clear hW
 have CA:Hid _:=HSp.around base pp S m F W (HSp.below HP bW) O hm v hv (f::R) hR.symm
 obtain⟨isf,hisf⟩: ∃ u,u=isF S f:=⟨_,rfl⟩
 have CF:Hid (∀ w',Below w.heap.size w w'→Calls Tryz.prog 56 #[ptR pp, .int .i64 f] w' fun e w''=>e= .returned (.tuple #[trV t, .bool isf])∧Below w'.heap.size w' w''):=by
  intro w' hb'
  have:=HSp.face base pp S m F w' (HSp.below HP hb') O hm f h64
  rw [hfo,←hisf]at this
  exact this
 clear HP ha hw hR hfo hi hhas ht hf hr hisf
 go_enter Tryz.func79,Tryz.ntmps79
 go_wp2_with (go_at_call 149;fail)
 try rw [HW]
 refine Calls.mono CA.out ?_
 rintro e w2 ⟨a,ca,rfl,ow,b2⟩
 have z2:=b2.size
 have B2:Below w.heap.size w w2:=bW.trans (b2.mono (by omega))
 obtain⟨n,hn⟩: ∃ n,n=(f::R).length:=⟨_,rfl⟩
 have hn1:0<n:=by rw [hn];simp
 have hroom:=OwnS.room ow
 rw [←hn]at ow hroom ⊢
 obtain⟨g,rfl,hg,hg2,_⟩:=Own.at ow (by omega)
 have g0:w2.cell? ⟨g,0,none⟩=some (.int .i64 f):=Own.cell ow 0 _ rfl
 have hn0:((n:Int)==0)=false:=by simp;omega
 have hn2:(0:Int)<(n:Int):=by omega
 have Rr2:=Rr.below b2 (by omega)
 clear CA HW hn
 go_wp2_with (go_at_call 56;fail)
 refine Calls.mono (CF.out w2 B2) ?_
 rintro e w3 ⟨rfl,b3⟩
 have z3:=b3.size
 obtain⟨w4,hw4⟩: ∃ w4,w4=w3.alloc (.cells #[.int .i64 t.v0, .int .i64 t.v1, .int .i64 t.v2, .int .i64 t.x0, .int .i64 t.y0, .int .i64 t.x1, .int .i64 t.y1, .int .i64 t.x2, .int .i64 t.y2] 54):=⟨_,rfl⟩
 have q4:Below w2.heap.size w2 w4:=by rw [hw4];exact b3.alloc z3 _
 have z4:w4.heap.size=w3.heap.size+1:=by rw [hw4];simp
 have B4:Below w.heap.size w w4:=B2.trans (q4.mono (by omega))
 have R4:Row w4 w3.heap.size [.int .i64 t.v0, .int .i64 t.v1, .int .i64 t.v2, .int .i64 t.x0, .int .i64 t.y0, .int .i64 t.x1, .int .i64 t.y1, .int .i64 t.x2, .int .i64 t.y2]:=by rw [hw4];exact Row.new w3 [.int .i64 t.v0, .int .i64 t.v1, .int .i64 t.v2, .int .i64 t.x0, .int .i64 t.y0, .int .i64 t.x1, .int .i64 t.y1, .int .i64 t.x2, .int .i64 t.y2] _
 have Rr:=Rr2.below q4 (by omega)
 have d0:=R4.cell 0 _ rfl
 have d1:=R4.cell 1 _ rfl
 have d2:=R4.cell 2 _ rfl
 have g4:w4.cell? ⟨g,0,none⟩=some (.int .i64 f):=(q4.cell (p:=⟨g,0,none⟩) hg).trans g0
 have l3:w3.heap.size<w4.heap.size:=by omega
 have lg:g<w4.heap.size:=by omega
 have lr:w.heap.size<w4.heap.size:=by omega
 have n3: ¬(w3.heap.size=w.heap.size):=by omega
 have ng: ¬(g=w.heap.size):=by omega
 have H4:Hid _:=hw4.symm
 clear CF g0 hw4 R4 Rr2 ow
 go_wp2
 rw [H4.out]
 have HSs:Hid (∀ w',Keep (fun k=>k=w.heap.size) w4 w'→(fun w'=>w'.cell? ⟨g,0,none⟩=some (.int .i64 f)∧w'.cell? ⟨w3.heap.size,0,none⟩=some (.int .i64 t.v0)∧w'.cell? ⟨w3.heap.size,1,none⟩=some (.int .i64 t.v1)∧w'.cell? ⟨w3.heap.size,2,none⟩=some (.int .i64 t.v2)∧Keep (fun k=>k=w.heap.size) w4 w') w'):=by
  unfold Hid
  intro w' hb
  exact⟨(hb.cell (p:=⟨g,0,none⟩) lg ng).trans g4,(hb.cell (p:=⟨w3.heap.size,0,none⟩) l3 n3).trans d0,(hb.cell (p:=⟨w3.heap.size,1,none⟩) l3 n3).trans d1,(hb.cell (p:=⟨w3.heap.size,2,none⟩) l3 n3).trans d2,hb⟩
 refine wp_region_held_drew (S:=fun w'=>w'.cell? ⟨g,0,none⟩=some (.int .i64 f)∧w'.cell? ⟨w3.heap.size,0,none⟩=some (.int .i64 t.v0)∧w'.cell? ⟨w3.heap.size,1,none⟩=some (.int .i64 t.v1)∧w'.cell? ⟨w3.heap.size,2,none⟩=some (.int .i64 t.v2)∧Keep (fun k=>k=w.heap.size) w4 w') (by kernel_rfl) ?_ (fun hHeld=>?_)
 ·exact HSs.out _ ((Keep.refl _ _).drew)
 refine tn 0 ?_;refine tn 1 ?_;refine tn 2 ?_;refine tn 3 ?_;refine tn 4 ?_;refine tn 5 ?_
 simp only [Act.put,ps1,ps2,ps3]
 refine tcl 6 fun Kc hK=>?_
 go_simp
 (go_at_call 150;refine(hIdx v t.v0 t.v1 t.v2 _ _ hHeld.2.1 hHeld.2.2.1 hHeld.2.2.2.1 HR.out HH.out).mono ?_;rintro e w5 ⟨rfl,b5⟩)
 refine hK.out _ _ ?_ (fun hHeld=>?_)
 ·exact HSs.out _ (hHeld.2.2.2.2.to b5)
 clear hK Kc
 replace Rr:=Rr.drew.below b5 lr
 refine tz (i:=7) rfl ?_
 simp only [Act.put,ps1,ps2,ps3]
 have sc0:=Rr.cell 0 _ rfl
 have sf0:=Rr.free 0 (by simp)
 have sc1:=Rr.cell 1 _ rfl
 have sf1:=Rr.free 1 (by simp)
 refine tcl 8 fun Kc hK=>?_
 go_simp
 refine hK.out _ _ ?_ (fun hHeld=>?_)
 ·exact HSs.out _ ((hHeld.2.2.2.2.set (Or.inl rfl) _).set (Or.inl rfl) _)
 clear hK Kc
 refine tz (i:=9) rfl ?_
 simp only [Act.put,ps1,ps2,ps3]
 refine wpAnyH_done (by kernel_rfl) ?_ _
 have kxx:=hHeld.2.2.2.2
 have R2:=(Rr.set 0 (.int .i64 f) (by simp)).set 1 (.int .i64 r) (by simp)
 have BX:=B4.trans (kxx.below (B:=w.heap.size) (by omega) (fun k e=>by omega))
 have e0:=R2.cell 0 _ rfl
 have e1:=R2.cell 1 _ rfl
 clear hHeld HSs kxx Rr
 try go_wp2
 exact bodyPost_ret (v:= .tuple #[.agg #[.int .i64 f, .int .i64 r], .bool true]) (by simp [results,Tryz.results79,go_sem, *]) rfl ⟨rfl,BX⟩
theorem hFol{MP:MeShape}(HSp:MeSp MP)(base pp:Nat)(S:Ms)(m:Nat)(F:Nat→Prop)(w:World)(HP:MP base pp S F w)(O:MsOk S m)(hm:m≤1000)(a:Wg)(ha:a.1∈S.C)(hi:a.2<3):
  Calls Tryz.prog 80 #[ptR pp,wgV a] w fun e w'=>e= .returned (.agg #[.int .i64 (folK a.1.t a.2).1, .int .i64 (folK a.1.t a.2).2.1, .int .i64 (folK a.1.t a.2).2.2])∧Below w.heap.size w w':=by
 obtain⟨c,i⟩:=a
 have h3:i<3:=hi
 rcases lt3 h3 with rfl|rfl|rfl
 ·exact hFol0 HSp base pp S m F w HP O hm c ha
 ·exact hFol1 HSp base pp S m F w HP O hm c ha
 ·have e:folK c.t 2=(c.t.v0,c.t.x0- c.t.x2,c.t.y0- c.t.y2):=by simp [folK,nx,Tr.v,Tr.x,Tr.y]
  show Calls Tryz.prog 80 #[ptR pp, .agg #[.int .i64 c.no, .int .i64 2]] w fun e w'=>e= .returned (.agg #[.int .i64 (folK c.t 2).1, .int .i64 (folK c.t 2).2.1, .int .i64 (folK c.t 2).2.2])∧Below w.heap.size w w'
  rw [e]
  exact hFol2 HSp base pp S m F w HP O hm c ha
abbrev rkC(a:Wg):List Value:= [.int .i64 (folK a.1.t a.2).1, .int .i64 (folK a.1.t a.2).2.1, .int .i64 (folK a.1.t a.2).2.2]
abbrev rfC(a:Wg):List Value:= [.int .i64 a.1.no]
theorem rkC_one(a:Wg): ∀ u∈rkC a,u.oneCell'=true:=by intro u hu;simp [rkC]at hu;rcases hu with rfl|rfl|rfl<;>rfl
theorem infoKnR:(Tryz.prog.info? 122).map (fun i=>(i.zero,i.size,i.bytes))=some (some (.agg #[.int .i64 0, .int .i64 0, .int .i64 0]),3,24):=by kernel_rfl
theorem infoIntR:(Tryz.prog.info? 3).map (fun i=>(i.zero,i.size,i.bytes))=some (some (.int .i64 0),1,8):=by kernel_rfl
theorem eq_wedge(a b c d:Int)(w:World):(Op.equalIn 10000 158 (.agg #[.int .i64 a, .int .i64 b]) (.agg #[.int .i64 c, .int .i64 d])).run Tryz.prog w= .ok (a==c && b==d) w:=by
 by_cases e0:a=c<;>by_cases e1:b=d<;>simp [go_sem,Tryz.underlying158,Tryz.underlying3,e0,e1]
def slLen:Value→Nat
 | .slice _ n _=>n
 |_=>0
def RingTold(B:Nat)(r:Option (List Wg))(e:Ending)(w':World):Prop:=match r with
 |none=>e= .returned (.tuple #[.slice none 0 0, .slice none 0 0, .bool false])
 |some W=> ∃ (ka fa:Option Addr) (kc fc:Nat),e= .returned (.tuple #[.slice ka W.length kc, .slice fa W.length fc, .bool true])∧OwnS w' B 122 3 ka W.length kc (flat rkC W)∧OwnS w' B 3 1 fa W.length fc (flat rfC W)
structure RgSt(MP:MeShape)(base pp:Nat)(S:Ms)(F:Nat→Prop)(v:Int)(f:Wg)(B b7 bH:Nat)(a:Wg)(W:List Wg)(n:Nat)(ka fa:Option Addr)(kc fc:Nat)(w:World):Prop where
 me:MP base pp S F w
 r7:Row w b7 (wgC f)
 rH:Row w bH (wgC a)
 ok:OwnS w B 122 3 ka n kc (flat rkC W)
 of:OwnS w B 3 1 fa n fc (flat rfC W)
 ap: ∀ k,Slot ka k→ ¬Slot fa k
 nk: ∀ k,Slot ka k→k≠b7∧k≠bH
 nf: ∀ k,Slot fa k→k≠b7∧k≠bH
 lo:B≤b7∧B≤bH∧b7≠bH
 hi:b7<w.heap.size∧bH<w.heap.size
 fb: ∀ k,F k→k<B
 len:n=W.length
 pa:PathW S.C v f (W++ [a])
 go:ringQ S.C v=ringR S.C f (3*S.C.length+1- W.length) a W
theorem RgSt.below{MP:MeShape}(HSp:MeSp MP){base pp:Nat}{S:Ms}{F:Nat→Prop}{v:Int}{f:Wg}{B b7 bH:Nat}{a:Wg}{W:List Wg}{n:Nat}{ka fa:Option Addr}{kc fc:Nat}{w w':World}(h:RgSt MP base pp S F v f B b7 bH a W n ka fa kc fc w)(hb:Below w.heap.size w w'):RgSt MP base pp S F v f B b7 bH a W n ka fa kc fc w':=
 ⟨HSp.below h.me hb,h.r7.below hb h.hi.1,h.rH.below hb h.hi.2,h.ok.below hb,h.of.below hb,h.ap,h.nk,h.nf,h.lo,⟨Nat.lt_of_lt_of_le h.hi.1 hb.size,Nat.lt_of_lt_of_le h.hi.2 hb.size⟩,h.fb,h.len,h.pa,h.go⟩
set_option maxRecDepth 100000 in
set_option maxHeartbeats 8000000 in
theorem hRing{MP:MeShape}(HSp:MeSp MP)(base pp:Nat)(S:Ms)(m:Nat)(F:Nat→Prop)(w:World)(HP:MP base pp S F w)(O:MsOk S m)(hm:m≤1000)(v:Int)(hv:In64 v):
  Calls Tryz.prog 31 #[ptR pp, .int .i64 v] w fun e w'=>RingTold w.heap.size (ringQ S.C v) e w'∧Below w.heap.size w w':=by
 cases hf:firstW S.C v with
 |none=>
  have CA:Hid _:=hFirst0 HSp base pp S m F w HP O hm v hv (first_no hf)
  rw [ringQ_no hf]
  clear HP hf
  go_enter Tryz.func31,Tryz.ntmps31
  go_wp2_with (go_at_call 79;fail)
  refine Calls.mono CA.out ?_
  rintro e w2 ⟨rfl,b2⟩
  have B3:Below w.heap.size w (w2.alloc (.cells #[.int .i64 0, .int .i64 0] 158)):=b2.alloc b2.size _
  clear CA
  go_wp2
  exact bodyPost_ret (v:= .tuple #[.slice none 0 0, .slice none 0 0, .bool false]) (by simp [results,Tryz.results31,go_sem, *]) rfl ⟨rfl,B3⟩
 |some f=>
  have CA:Hid _:=hFirst1 HSp base pp S m F w HP O hm v hv f hf
  have hw:=first_is hf
  have HQ:Hid _:=ringQ_of hf
  have hfb:Hid (∀ k,F k→k<w.heap.size):=fun k h=>(HSp.ft HP k h).2
  have HPP:Hid _:=HP
  have U:Hid (EdgU S.C):=O.fe
  have hO:Hid _:=O
  have HS:Hid _:=HSp
  have HWg:Hid _:=hw
  have hC:=O.lens.2.1
  obtain⟨B,hB⟩: ∃ B,B=w.heap.size:=⟨_,rfl⟩
  clear HP hf hw
  go_enter Tryz.func31,Tryz.ntmps31
  go_wp2_with (go_at_call 79;fail)
  refine Calls.mono CA.out ?_
  rintro e w2 ⟨rfl,b2⟩
  have z2:=b2.size
  obtain⟨x0,hx0⟩: ∃ x,x=f.1.no:=⟨_,rfl⟩
  obtain⟨x1,hx1⟩: ∃ x:Int,x=(f.2:Int):=⟨_,rfl⟩
  have st0:RgSt MP base pp S F v f w.heap.size w2.heap.size (w2.heap.size+1) f [] 0 none none 0 0 ((w2.alloc (.cells #[.int .i64 x0, .int .i64 x1] 158)).alloc (.cells #[.int .i64 x0, .int .i64 x1] 158)):=by
   rw [hx0,hx1]
   have bA:Below w2.heap.size w2 ((w2.alloc (.cells #[.int .i64 f.1.no, .int .i64 (f.2:Int)] 158)).alloc (.cells #[.int .i64 f.1.no, .int .i64 (f.2:Int)] 158)):=((Below.refl _ _).alloc (Nat.le_refl _) _).alloc (by simp) _
   refine⟨HS.out.below (HS.out.below HPP.out b2) bA,(Row.new w2 (wgC f) 158).alloc _ (by simp),?_,ownS_none _ _ _ _,ownS_none _ _ _ _,?_,?_,?_,⟨z2,by omega,by omega⟩,⟨by simp;omega,by simp⟩,hfb.out,rfl,PathW.one HWg.out,HQ.out⟩
   ·have h0:=Row.new (w2.alloc (.cells #[.int .i64 f.1.no, .int .i64 (f.2:Int)] 158)) (wgC f) 158
    simp only [World.size_alloc]at h0
    exact h0
   all_goals (rintro k ⟨q,hq⟩;cases hq)
  have BB0:Below w.heap.size w ((w2.alloc (.cells #[.int .i64 x0, .int .i64 x1] 158)).alloc (.cells #[.int .i64 x0, .int .i64 x1] 158)):=(b2.alloc z2 _).alloc (by simp;omega) _
  obtain⟨w3,hw3⟩: ∃ w3,w3=((w2.alloc (.cells #[.int .i64 x0, .int .i64 x1] 158)).alloc (.cells #[.int .i64 x0, .int .i64 x1] 158)):=⟨_,rfl⟩
  rw [←hw3]at st0 BB0
  have HST0:Hid _:=st0
  have HBB0:Hid _:=BB0
  have H3:Hid _:=hw3.symm
  have XE0:Hid _:=hx0
  have XE1:Hid _:=hx1
  have e0:=hx0.symm
  have e1:=hx1.symm
  clear CA st0 BB0 hw3 hx0 hx1
  go_wp2
  rw [H3.out]
  clear H3 b2
  obtain⟨b7,hb7⟩: ∃ b,b=w2.heap.size:=⟨_,rfl⟩
  rw [←hb7]at HST0 ⊢
  obtain⟨B,hB⟩: ∃ B,B=w.heap.size:=⟨_,rfl⟩
  have hBw:Hid (B=w.heap.size):=hB
  rw [←hB]at HST0
  clear hb7 e0 e1 z2 hfb HPP
  go_loopw [9,10] (fun kv fv wr=> ∃ (W:List Wg) (a:Wg) (n:Nat) (ka fa:Option Addr) (kc fc:Nat),kv= .slice ka n kc∧fv= .slice fa n fc∧Hid (RgSt MP base pp S F v f B b7 (b7+1) a W n ka fa kc fc wr)∧Hid (Below w.heap.size w wr)) (fun _ fv _=>3*S.C.length+1- slLen fv)
  case atStart=>exact⟨[],f,0,none,none,0,0,rfl,rfl,HST0,HBB0⟩
  case round=>
   clear HST0 HBB0
   obtain⟨W,a,n,ka,fa,kc,fc,rfl,rfl,hst,hbb⟩:=hrel
   have st:=hst.out
   have bb:=hbb.out
   have few:=st.pa.few U.out
   rw [List.length_append,←st.len]at few
   simp only [List.length_singleton]at few
   have hC:=hO.out.lens.2.1
   have hlt:(n:Int)<100000:=by omega
   have ha:=st.pa.wg a (by simp)
   have CF:Hid _:=hFol HSp base pp S m F wr st.me O hm a ha.c ha.i
   have c0:=st.rH.cell 0 _ rfl
   have c1:=st.rH.cell 1 _ rfl
   have hbz:=bb.size
   have HA:Hid _:=ha
   have HFEW:Hid _:=few
   obtain⟨y0,hy0⟩: ∃ x,x=a.1.no:=⟨_,rfl⟩
   obtain⟨y1,hy1⟩: ∃ x:Int,x=(a.2:Int):=⟨_,rfl⟩
   obtain⟨k0,hk0⟩: ∃ x,x=(folK a.1.t a.2).1:=⟨_,rfl⟩
   obtain⟨k1,hk1⟩: ∃ x,x=(folK a.1.t a.2).2.1:=⟨_,rfl⟩
   obtain⟨k2,hk2⟩: ∃ x,x=(folK a.1.t a.2).2.2:=⟨_,rfl⟩
   have HK:Hid (rkC a= [.int .i64 k0, .int .i64 k1, .int .i64 k2]):=by unfold Hid;rw [hk0,hk1,hk2]
   rw [←hk0,←hk1,←hk2]at CF
   replace CF:Hid (Calls Tryz.prog 80 #[ptR pp, .agg #[.int .i64 y0, .int .i64 y1]] wr fun e w'=>e= .returned (.agg #[.int .i64 k0, .int .i64 k1, .int .i64 k2])∧Below wr.heap.size wr w'):=by rw [hy0,hy1];exact CF
   rw [←hy0]at c0
   rw [←hy1]at c1
   have E0:Hid _:=hy0
   have E1:Hid _:=hy1
   clear st bb ha few hy0 hy1 hk0 hk1 hk2
   go_wp2_with (go_at_call 80;fail)
   refine Calls.mono CF.out ?_
   rintro e w4 ⟨rfl,b4⟩
   have st4:=hst.out.below HSp b4
   have z4:=b4.size
   obtain⟨i0,hi0,hz0,hz1,hz2⟩:=info_of infoKnR
   obtain⟨j0,hj0,hy0,hy1,hy2⟩:=info_of infoIntR
   have b5:Below w4.heap.size w4 (w4.alloc (.cells #[.int .i64 k0, .int .i64 k1, .int .i64 k2] 122)):=(Below.refl _ _).alloc (Nat.le_refl _) _
   have owX:=OwnS.below st4.ok b5
   have NW:=news_new w4 [.int .i64 k0, .int .i64 k1, .int .i64 k2] 122
   have hl:=st4.lo
   have hh:=st4.hi
   have hB4:B≤w4.heap.size:=by omega
   have HST4:Hid _:=st4
   have one3: ∀ u∈([.int .i64 k0, .int .i64 k1, .int .i64 k2]:List Value),u.oneCell'=true:=by rw [←HK.out];exact rkC_one _
   have one1: ∀ u∈([.int .i64 y0]:List Value),u.oneCell'=true:=by intro u hu;simp at hu;subst hu;rfl
   have hmax:n+1≤maxLen:=by unfold maxLen;omega
   clear CF c0 c1 st4
   go_wp2_with (first
    |(at_builtin;refine app_atS _ rfl (.tmp 24) (.tmp 28) 78 rfl B 122 i0 _ 3 24 Tryz.underlying78 hi0 hz0 hz1 hz2 rfl (by decide) ka n kc _ rfl owX ⟨w4.heap.size,0,none⟩ 1 1 [.int .i64 k0, .int .i64 k1, .int .i64 k2] rfl rfl NW one3 hmax (by omega) (by simp;omega) ?_;intro a6 c6 w6 h6 g6 s6;have k6:Keep (fun k=>Slot ka k) w4 w6:=(Keep.of (F:=fun k=>Slot ka k) b5).grown g6 (fun k e=>Or.inl (owX.slot e));have z6:=k6.size;have rH6:Row w6 (b7+1) [.int .i64 y0, .int .i64 y1]:=by{ rw [E0.out,E1.out];exact HST4.out.rH.keep k6 hh.2 (fun s=>(HST4.out.nk _ s).2 rfl) };have d0:=rH6.cell 0 _ rfl;have of6:=HST4.out.of.keep k6 (fun k h q=>HST4.out.ap k q h);have b7':Below w6.heap.size w6 (w6.alloc (.cells #[.int .i64 y0] 3)):=(Below.refl _ _).alloc (Nat.le_refl _) _;have owY:=OwnS.below of6 b7';have NW2:=news_new w6 [.int .i64 y0] 3;have hB6:B≤w6.heap.size:=by omega)
    |(at_builtin;refine app_atS _ rfl (.tmp 30) (.tmp 33) 60 rfl B 3 j0 _ 1 8 Tryz.underlying60 hj0 hy0 hy1 hy2 rfl (by decide) fa n fc _ rfl owY ⟨w6.heap.size,0,none⟩ 1 1 [.int .i64 y0] rfl rfl NW2 one1 hmax (by omega) (by simp;omega) ?_;intro a8 c8 w8 h8 g8 s8;have k8:Keep (fun k=>Slot fa k) w6 w8:=(Keep.of (F:=fun k=>Slot fa k) b7').grown g8 (fun k e=>Or.inl (owY.slot e));have z8:=k8.size;have rH8:=rH6.keep k8 (by omega) (fun s=>(HST4.out.nf _ s).2 rfl);have f0:=rH8.cell 0 _ rfl;have f1:=rH8.cell 1 _ rfl)
    |(go_at_call 81;fail))
   have s4:=HST4.out
   have me8:MP base pp S F w8:=HSp.keep (HSp.keep s4.me k6 (fun k q s=>by have:=s4.fb k q;have:=(OwnS.lt s4.ok s).2;omega)) k8 (fun k q s=>by have:=s4.fb k q;have:=(OwnS.lt s4.of s).2;omega)
   have a68: ∀ k,Slot a6 k→ ¬Slot fa k:=by
    intro k s q
    rcases s6 k s with h|h
    ·exact s4.ap k h q
    ·have:=(OwnS.lt s4.of q).1
     simp at h
     omega
   have ap8: ∀ k,Slot a6 k→ ¬Slot a8 k:=by
    intro k s q
    rcases s8 k q with h|h
    ·exact a68 k s h
    ·have:=(OwnS.lt h6 s).1
     simp at h
     omega
   have nk8: ∀ k,Slot a6 k→k≠b7∧k≠b7+1:=by
    intro k s
    rcases s6 k s with h|h
    ·exact s4.nk k h
    ·simp at h
     exact⟨by omega,by omega⟩
   have nf8: ∀ k,Slot a8 k→k≠b7∧k≠b7+1:=by
    intro k s
    rcases s8 k s with h|h
    ·exact s4.nf k h
    ·simp at h
     exact⟨by omega,by omega⟩
   have ok8:OwnS w8 B 122 3 a6 (n+1) c6 (flat rkC (W++ [a])):=by
    rw [flat_append]
    have:=h6.keep k8 a68
    rw [←HK.out]at this
    simpa [flat]using this
   have of8:OwnS w8 B 3 1 a8 (n+1) c8 (flat rfC (W++ [a])):=by
    rw [flat_append]
    have:=h8
    rw [E0.out]at this
    simpa [flat]using this
   have r78:Row w8 b7 (wgC f):=(s4.r7.keep k6 hh.1 (fun s=>(s4.nk _ s).1 rfl)).keep k8 (by omega) (fun s=>(s4.nf _ s).1 rfl)
   have B8:Below w.heap.size w w8:=by
    have h1:=hbb.out
    refine((h1.trans (b4.mono hbz)).trans (k6.below (by omega) (fun k s=>?_))).trans (k8.below (by omega) (fun k s=>?_))
    ·have:=(OwnS.lt s4.ok s).2;have:=hBw.out;omega
    ·have:=(OwnS.lt s4.of s).2;have:=hBw.out;omega
   have CL:Hid _:=hLeft HSp base pp S m F w8 me8 O hm a HA.out.c HA.out.i
   replace CL:Hid (Calls Tryz.prog 81 #[ptR pp, .agg #[.int .i64 y0, .int .i64 y1]] w8 fun e w'=>(match stepW S.C a with|none=> ∃ x y:Int,e= .returned (.tuple #[.agg #[.int .i64 x, .int .i64 y], .bool false])|some b=>e= .returned (.tuple #[wgV b, .bool true]))∧Below w8.heap.size w8 w'):=by rw [E0.out,E1.out];exact CL
   have l11:w4.heap.size≤w8.heap.size:=by omega
   have HGO:Hid (ringQ S.C v=ringR S.C f (3*S.C.length- n+1) a W):=by
    have:=s4.go
    rw [←s4.len]at this
    have e:3*S.C.length+1- n=3*S.C.length- n+1:=by have:=HFEW.out;omega
    rw [e]at this
    exact this
   have HPA:Hid _:=s4.pa
   have HLEN:Hid _:=s4.len
   have HFB:Hid _:=s4.fb
   have Hok:Hid _:=ok8
   have Hof:Hid _:=of8
   have Hap:Hid _:=ap8
   have Hnk:Hid _:=nk8
   have Hnf:Hid _:=nf8
   have Hme:Hid _:=me8
   clear s4 me8 a68 ap8 nk8 nf8 ok8 of8 h6 h8 s6 s8 owX owY NW NW2 of6 rH6 d0 f0 f1 hst HST4
   cases hs:stepW S.C a with
   |none=>
    rw [hs]at CL
    simp only at CL
    have HR:Hid (ringQ S.C v=none):=HGO.out.trans (ring_out hs)
    clear hs
    refine Calls.mono CL.out ?_
    rintro e w9 ⟨⟨x,y,rfl⟩,b9⟩
    have R9:=rH8.below b9 (by omega)
    have t0:=R9.cell 0 _ rfl
    have t1:=R9.cell 1 _ rfl
    have v0:=R9.free 0 (by simp)
    have v1:=R9.free 1 (by simp)
    have B9:Below w.heap.size w ((w9.setCell ⟨b7+1,0,none⟩ (.int .i64 x)).setCell ⟨b7+1,1,none⟩ (.int .i64 y)):=((B8.trans (b9.mono (by have:=hBw.out;omega))).setCell (by have:=hBw.out;simp;omega) _).setCell (by have:=hBw.out;simp;omega) _
    clear CL
    go_wp2
    exact bodyPost_ret (v:= .tuple #[.slice none 0 0, .slice none 0 0, .bool false]) (by simp [results,Tryz.results31,go_sem, *]) rfl ⟨by rw [HR.out];rfl,B9⟩
   |some b=>
    rw [hs]at CL
    simp only at CL
    have hb:=(step_to HA.out hs).1
    obtain⟨g0,hg0⟩: ∃ x,x=b.1.no:=⟨_,rfl⟩
    obtain⟨g1,hg1⟩: ∃ x:Int,x=(b.2:Int):=⟨_,rfl⟩
    replace CL:Hid (Calls Tryz.prog 81 #[ptR pp, .agg #[.int .i64 y0, .int .i64 y1]] w8 fun e w'=>e= .returned (.tuple #[.agg #[.int .i64 g0, .int .i64 g1], .bool true])∧Below w8.heap.size w8 w'):=by rw [hg0,hg1];exact CL
    have HSB:Hid _:=hs
    have HG0:Hid _:=hg0
    have HG1:Hid _:=hg1
    have HBW:Hid _:=hb
    clear hs hb hg0 hg1
    refine Calls.mono CL.out ?_
    rintro e w9 ⟨rfl,b9⟩
    have z9:=b9.size
    have R9:=rH8.below b9 (by omega)
    have t0:=R9.cell 0 _ rfl
    have t1:=R9.cell 1 _ rfl
    have v0:=R9.free 0 (by simp)
    have v1:=R9.free 1 (by simp)
    obtain⟨V,hV⟩: ∃ V,V=(w9.setCell ⟨b7+1,0,none⟩ (.int .i64 g0)).setCell ⟨b7+1,1,none⟩ (.int .i64 g1):=⟨_,rfl⟩
    have kV:Keep (fun k=>k=b7+1) w9 V:=by rw [hV];exact((Keep.refl (fun k=>k=b7+1) w9).set (Or.inl rfl) _).set (Or.inl rfl) _
    have zV:=kV.size
    have R10:Row V (b7+1) [.int .i64 g0, .int .i64 g1]:=by rw [hV];exact(R9.set 0 (.int .i64 g0) (by simp)).set 1 (.int .i64 g1) (by simp)
    have R7:Row V b7 [.int .i64 x0, .int .i64 x1]:=by
     have:=(r78.below b9 (by omega)).keep kV (by omega) (by omega)
     simp only [wgC]at this
     rw [XE0.out,XE1.out]
     exact this
    have B10:Below w.heap.size w V:=(B8.trans (b9.mono (by have:=hBw.out;omega))).trans (kV.below (by have:=hBw.out;omega) (fun k e=>by have:=hBw.out;omega))
    have u0:=R10.cell 0 _ rfl
    have u1:=R10.cell 1 _ rfl
    have u2:=R7.cell 0 _ rfl
    have u3:=R7.cell 1 _ rfl
    have okV:OwnS V B 122 3 a6 (n+1) c6 (flat rkC (W++ [a])):=OwnS.keep (OwnS.below Hok.out b9) kV (fun k s e=>(Hnk.out k s).2 e)
    have ofV:OwnS V B 3 1 a8 (n+1) c8 (flat rfC (W++ [a])):=OwnS.keep (OwnS.below Hof.out b9) kV (fun k s e=>(Hnf.out k s).2 e)
    have HokV:Hid _:=okV
    have HofV:Hid _:=ofV
    obtain⟨r,hr⟩: ∃ r:Bool,r=(g0==x0 && g1==x1):=⟨_,rfl⟩
    have heq: ∀ w',(Op.equalIn 10000 158 (.agg #[.int .i64 g0, .int .i64 g1]) (.agg #[.int .i64 x0, .int .i64 x1])).run Tryz.prog w'= .ok r w':=fun w'=>by rw [hr];exact eq_wedge _ _ _ _ _
    have HRR:Hid (r=true↔(b.1.no=f.1.no∧b.2=f.2)):=by
     unfold Hid
     rw [hr,HG0.out,HG1.out,XE0.out,XE1.out]
     simp
     intro _
     omega
    have HV:Hid _:=hV
    rw [hV]at u0 u1 u2 u3
    have HR10:Hid _:=R10
    have Hr78:Hid _:=r78
    clear CL okV ofV R9 R10 R7 hr r78 hV
    cases r with
    |true=>
     have HR:Hid (ringQ S.C v=some (W++ [a])):=HGO.out.trans (ring_shut HSB.out (HRR.out.1 rfl))
     go_wp2
     refine bodyPost_ret (v:= .tuple #[.slice a6 (n+1) c6, .slice a8 (n+1) c8, .bool true]) (by simp [results,Tryz.results31,go_sem, *]) rfl ?_
     rw [←HV.out,HR.out]
     have e:(W++ [a]).length=n+1:=by rw [List.length_append,←HLEN.out];rfl
     refine⟨⟨a6,a8,c6,c8,?_,?_,?_⟩,B10⟩
     ·rw [e]
     ·rw [e,←hBw.out];exact HokV.out
     ·rw [e,←hBw.out];exact HofV.out
    |false=>
     have hn: ¬(b.1.no=f.1.no∧b.2=f.2):=fun q=>by have:=HRR.out.2 q;cases this
     have HR:Hid (ringQ S.C v=ringR S.C f (3*S.C.length- n) b (W++ [a])):=HGO.out.trans (ring_on HSB.out hn)
     have HPN:Hid (PathW S.C v f (W++ [a]++ [b])):=HPA.out.more HSB.out (fun e=>hn (by rw [e];exact⟨rfl,rfl⟩))
     have stV:Hid (RgSt MP base pp S F v f B b7 (b7+1) b (W++ [a]) (n+1) a6 a8 c6 c8 V):=by
      have e:(W++ [a]).length=n+1:=by rw [List.length_append,←HLEN.out];rfl
      refine⟨HSp.keep (HSp.below Hme.out b9) kV (fun k q e=>by have:=HFB.out k q;omega),?_,?_,HokV.out,HofV.out,Hap.out,Hnk.out,Hnf.out,hl,⟨by omega,by omega⟩,HFB.out,e.symm,HPN.out,?_⟩
      ·exact Row.keep (Row.below Hr78.out b9 (by omega)) kV (by omega) (by omega)
      ·have h1:=HR10.out
       rw [HG0.out,HG1.out]at h1
       exact h1
      ·rw [e,HR.out]
       congr 1
       omega
     clear hn
     go_wp2
     go_roundw
     case rel=>exact⟨W++ [a],b,n+1,a6,a8,c6,c8,rfl,rfl,by rw [←HV.out];exact stV,by rw [←HV.out];exact B10⟩
     case measure=>have:=HFEW.out;simp [slLen];omega
end Go.Proofs.YtjmhfdimoeaplaaGreat
namespace Go.Proofs.YtjmhfdimoeaplaaGreat.lq
open Go.RowKit
def dg(v:Int)(i:Nat):Int:=v/256^i % 256
theorem dg_range(v:Int)(i:Nat):0≤dg v i∧dg v i<256:=by unfold dg;omega
theorem p256(i:Nat):(0:Int)<256^i:=Int.pow_pos (by decide)
def fill(n:Nat)(p:Nat→Bool)(u v:Int):List Value:=(List.range n).map fun j=> .int .i64 (if p j then dg u j else dg v j)
def dcells(n:Nat)(v:Int):List Value:=(List.range n).map fun j=> .int .i64 (dg v j)
def mix(n i:Nat)(u v:Int):List Value:=fill n (fun j=>decide (j<i)) u v
theorem fill_length(n:Nat)(p:Nat→Bool)(u v:Int):(fill n p u v).length=n:=by simp [fill]
theorem mix_length(n i:Nat)(u v:Int):(mix n i u v).length=n:=fill_length _ _ _ _
theorem dcells_at(n:Nat)(v:Int)(i:Nat)(h:i<n):(dcells n v)[i]? =some (.int .i64 (dg v i)):=by simp [dcells,h]
theorem fill_at(n:Nat)(p:Nat→Bool)(u v:Int)(i:Nat)(h:i<n):(fill n p u v)[i]? =some (.int .i64 (if p i then dg u i else dg v i)):=by simp [fill,h]
theorem mix_at(n k:Nat)(u v:Int)(i:Nat)(h:i<n)(hk:k≤i):(mix n k u v)[i]? =some (.int .i64 (dg v i)):=by
 rw [mix,fill_at _ _ _ _ _ h];simp;omega
theorem fill_congr{n:Nat}{p q:Nat→Bool}{u v u' v':Int}(h: ∀ j,j<n→(if p j then dg u j else dg v j)=(if q j then dg u' j else dg v' j)):fill n p u v=fill n q u' v':=by
 unfold fill
 refine List.map_congr_left fun j hj=>?_
 rw [h j (by simpa using hj)]
theorem fill_set(n:Nat)(p:Nat→Bool)(u v:Int)(i:Nat):(fill n p u v).set i (.int .i64 (dg u i))=fill n (fun j=>p j||j==i) u v:=by
 refine List.ext_getElem? fun j=>?_
 rw [List.getElem?_set]
 by_cases e:i=j
 ·subst e
  by_cases h:i<n
  ·rw [if_pos rfl,if_pos (by rw [fill_length];exact h),fill_at _ _ _ _ _ h];simp
  ·rw [if_pos rfl,if_neg (by rw [fill_length];exact h),List.getElem?_eq_none (by rw [fill_length];omega)]
 ·by_cases h:j<n
  ·rw [if_neg e,fill_at _ _ _ _ _ h,fill_at _ _ _ _ _ h]
   have e':(j==i)=false:=by simp;omega
   simp [e']
  ·rw [if_neg e,List.getElem?_eq_none (by simp [fill_length];omega),List.getElem?_eq_none (by simp [fill_length];omega)]
theorem mix_set(n i:Nat)(u v:Int):(mix n i u v).set i (.int .i64 (dg u i))=mix n (i+1) u v:=by
 unfold mix
 rw [fill_set]
 refine fill_congr fun j _=>?_
 have:(decide (j<i)||j==i)=decide (j<i+1):=by rw [Bool.eq_iff_iff];simp;omega
 rw [this]
theorem mix_zero(n:Nat)(u v:Int):mix n 0 u v=dcells n v:=by unfold mix fill dcells;simp
theorem mix_full(n:Nat)(u v:Int):mix n n u v=dcells n u:=by
 unfold mix fill dcells
 refine List.map_congr_left fun j hj=>?_
 have:j<n:=by simpa using hj
 simp [this]
theorem dg_congr{u v:Int}{i j:Nat}(t:Int)(h:u=v+t*256^i)(hj:j<i):dg u j=dg v j:=by
 unfold dg
 obtain⟨d,rfl⟩: ∃ d,i=j+1+d:=⟨i- (j+1),by omega⟩
 have e:t*(256:Int)^(j+1+d)=(256*(t*256^d))*256^j:=by
  rw [show j+1+d=d+1+j by omega,Int.pow_add,Int.pow_succ,←Int.mul_assoc,←Int.mul_assoc,Int.mul_comm (t*256^d) 256]
 rw [h,e,Int.add_mul_ediv_right _ _ (Int.ne_of_gt (p256 j))]
 omega
def carry(x y:Int)(i:Nat):Int:=(x % 256^i+y % 256^i)/256^i
theorem carry_zero(x y:Int):carry x y 0=0:=by simp [carry]
theorem emod_succ(x:Int)(i:Nat):x % 256^(i+1)=dg x i*256^i+x % 256^i:=by
 unfold dg
 have hp:=p256 i
 have h1:=Int.mul_ediv_add_emod x (256^i)
 have h2:=Int.mul_ediv_add_emod (x/256^i) 256
 have b:=Int.emod_nonneg x (Int.ne_of_gt hp)
 have b':=Int.emod_lt_of_pos x hp
 have c:=Int.emod_nonneg (x/256^i) (show(256:Int)≠0 by decide)
 have c':=Int.emod_lt_of_pos (x/256^i) (show(0:Int)<256 by decide)
 have e:x=(x/256^i % 256*256^i+x % 256^i)+(x/256^i/256)*256^(i+1):=by
  have:(x/256^i/256)*(256:Int)^(i+1)=(256*(x/256^i/256))*256^i:=by rw [Int.pow_succ,Int.mul_comm ((256:Int)^i) 256,←Int.mul_assoc,Int.mul_comm _ 256]
  rw [this]
  have h3:(256*(x/256^i/256))*(256:Int)^i+x/256^i % 256*256^i=x/256^i*256^i:=by rw [←Int.add_mul,h2]
  have h4:x/256^i*(256:Int)^i=256^i*(x/256^i):=Int.mul_comm _ _
  omega
 have l0:0≤x/256^i % 256*256^i+x % 256^i:=Int.add_nonneg (Int.mul_nonneg c (Int.le_of_lt hp)) b
 have l1:x/256^i % 256*256^i+x % 256^i<256^(i+1):=by
  have:x/256^i % 256*(256:Int)^i≤255*256^i:=Int.mul_le_mul_of_nonneg_right (by omega) (Int.le_of_lt hp)
  rw [Int.pow_succ]
  omega
 have key:x % 256^(i+1)=(x/256^i % 256*256^i+x % 256^i) % 256^(i+1):=by
  have:=congrArg (· % (256:Int)^(i+1)) e
  simpa [Int.add_mul_emod_self_right]using this
 rw [key,Int.emod_eq_of_lt l0 l1]
theorem carry_sum(x y:Int)(i:Nat):(x % 256^(i+1)+y % 256^(i+1))/256^i=carry x y i+dg x i+dg y i:=by
 rw [emod_succ,emod_succ]
 unfold carry
 have e:dg x i*256^i+x % 256^i+(dg y i*256^i+y % 256^i)=(x % 256^i+y % 256^i)+(dg x i+dg y i)*256^i:=by rw [Int.add_mul];omega
 rw [e,Int.add_mul_ediv_right _ _ (Int.ne_of_gt (p256 i))]
 omega
theorem carry_succ(x y:Int)(i:Nat):carry x y (i+1)=(carry x y i+dg x i+dg y i)/256:=by
 rw [←carry_sum]
 show(x % 256^(i+1)+y % 256^(i+1))/256^(i+1)=_
 have hp:=p256 i
 rw [Int.pow_succ,Int.ediv_ediv,if_neg (by omega)]
 omega
theorem add_digit(x y:Int)(i:Nat):(carry x y i+dg x i+dg y i) % 256=dg (x+y) i:=by
 unfold dg carry
 have hp:=p256 i
 have h1:=Int.mul_ediv_add_emod x (256^i)
 have h2:=Int.mul_ediv_add_emod y (256^i)
 have e:x+y=(x % 256^i+y % 256^i)+(x/256^i+y/256^i)*256^i:=by
  have a1:x/256^i*(256:Int)^i=256^i*(x/256^i):=Int.mul_comm _ _
  have a2:y/256^i*(256:Int)^i=256^i*(y/256^i):=Int.mul_comm _ _
  rw [Int.add_mul];omega
 have e2:(x+y)/256^i=(x % 256^i+y % 256^i)/256^i+(x/256^i+y/256^i):=by
  conv=>lhs;rw [e]
  exact Int.add_mul_ediv_right _ _ (Int.ne_of_gt hp)
 rw [e2]
 omega
theorem carry_range(x y:Int)(i:Nat):0≤carry x y i∧carry x y i≤1:=by
 unfold carry
 have hp:=p256 i
 have a:=Int.emod_nonneg x (Int.ne_of_gt hp)
 have a':=Int.emod_lt_of_pos x hp
 have b:=Int.emod_nonneg y (Int.ne_of_gt hp)
 have b':=Int.emod_lt_of_pos y hp
 refine⟨Int.ediv_nonneg (by omega) (by omega),?_⟩
 have:(x % 256^i+y % 256^i)/256^i<2:=Int.ediv_lt_of_lt_mul hp (by omega)
 omega
end Go.Proofs.YtjmhfdimoeaplaaGreat.lq
namespace Go.Proofs.YtjmhfdimoeaplaaGreat.lq.q
open Go.RowKit
def dg(v:Int)(i:Nat):Int:=v/18446744073709551616^i % 18446744073709551616
theorem dg_range(v:Int)(i:Nat):0≤dg v i∧dg v i<18446744073709551616:=by unfold dg;omega
theorem p256(i:Nat):(0:Int)<18446744073709551616^i:=Int.pow_pos (by decide)
def fill(n:Nat)(p:Nat→Bool)(u v:Int):List Value:=(List.range n).map fun j=> .int .u64 (if p j then dg u j else dg v j)
def dcells(n:Nat)(v:Int):List Value:=(List.range n).map fun j=> .int .u64 (dg v j)
def mix(n i:Nat)(u v:Int):List Value:=fill n (fun j=>decide (j<i)) u v
theorem fill_length(n:Nat)(p:Nat→Bool)(u v:Int):(fill n p u v).length=n:=by simp [fill]
theorem mix_length(n i:Nat)(u v:Int):(mix n i u v).length=n:=fill_length _ _ _ _
theorem dcells_at(n:Nat)(v:Int)(i:Nat)(h:i<n):(dcells n v)[i]? =some (.int .u64 (dg v i)):=by simp [dcells,h]
theorem fill_at(n:Nat)(p:Nat→Bool)(u v:Int)(i:Nat)(h:i<n):(fill n p u v)[i]? =some (.int .u64 (if p i then dg u i else dg v i)):=by simp [fill,h]
theorem mix_at(n k:Nat)(u v:Int)(i:Nat)(h:i<n)(hk:k≤i):(mix n k u v)[i]? =some (.int .u64 (dg v i)):=by
 rw [mix,fill_at _ _ _ _ _ h];simp;omega
theorem fill_congr{n:Nat}{p q:Nat→Bool}{u v u' v':Int}(h: ∀ j,j<n→(if p j then dg u j else dg v j)=(if q j then dg u' j else dg v' j)):fill n p u v=fill n q u' v':=by
 unfold fill
 refine List.map_congr_left fun j hj=>?_
 rw [h j (by simpa using hj)]
theorem fill_set(n:Nat)(p:Nat→Bool)(u v:Int)(i:Nat):(fill n p u v).set i (.int .u64 (dg u i))=fill n (fun j=>p j||j==i) u v:=by
 refine List.ext_getElem? fun j=>?_
 rw [List.getElem?_set]
 by_cases e:i=j
 ·subst e
  by_cases h:i<n
  ·rw [if_pos rfl,if_pos (by rw [fill_length];exact h),fill_at _ _ _ _ _ h];simp
  ·rw [if_pos rfl,if_neg (by rw [fill_length];exact h),List.getElem?_eq_none (by rw [fill_length];omega)]
 ·by_cases h:j<n
  ·rw [if_neg e,fill_at _ _ _ _ _ h,fill_at _ _ _ _ _ h]
   have e':(j==i)=false:=by simp;omega
   simp [e']
  ·rw [if_neg e,List.getElem?_eq_none (by simp [fill_length];omega),List.getElem?_eq_none (by simp [fill_length];omega)]
theorem mix_set(n i:Nat)(u v:Int):(mix n i u v).set i (.int .u64 (dg u i))=mix n (i+1) u v:=by
 unfold mix
 rw [fill_set]
 refine fill_congr fun j _=>?_
 have:(decide (j<i)||j==i)=decide (j<i+1):=by rw [Bool.eq_iff_iff];simp;omega
 rw [this]
theorem mix_zero(n:Nat)(u v:Int):mix n 0 u v=dcells n v:=by unfold mix fill dcells;simp
theorem mix_full(n:Nat)(u v:Int):mix n n u v=dcells n u:=by
 unfold mix fill dcells
 refine List.map_congr_left fun j hj=>?_
 have:j<n:=by simpa using hj
 simp [this]
theorem dg_congr{u v:Int}{i j:Nat}(t:Int)(h:u=v+t*18446744073709551616^i)(hj:j<i):dg u j=dg v j:=by
 unfold dg
 obtain⟨d,rfl⟩: ∃ d,i=j+1+d:=⟨i- (j+1),by omega⟩
 have e:t*(18446744073709551616:Int)^(j+1+d)=(18446744073709551616*(t*18446744073709551616^d))*18446744073709551616^j:=by
  rw [show j+1+d=d+1+j by omega,Int.pow_add,Int.pow_succ,←Int.mul_assoc,←Int.mul_assoc,Int.mul_comm (t*18446744073709551616^d) 18446744073709551616]
 rw [h,e,Int.add_mul_ediv_right _ _ (Int.ne_of_gt (p256 j))]
 omega
def carry(x y:Int)(i:Nat):Int:=(x % 18446744073709551616^i+y % 18446744073709551616^i)/18446744073709551616^i
theorem carry_zero(x y:Int):carry x y 0=0:=by simp [carry]
theorem emod_succ(x:Int)(i:Nat):x % 18446744073709551616^(i+1)=dg x i*18446744073709551616^i+x % 18446744073709551616^i:=by
 unfold dg
 have hp:=p256 i
 have h1:=Int.mul_ediv_add_emod x (18446744073709551616^i)
 have h2:=Int.mul_ediv_add_emod (x/18446744073709551616^i) 18446744073709551616
 have b:=Int.emod_nonneg x (Int.ne_of_gt hp)
 have b':=Int.emod_lt_of_pos x hp
 have c:=Int.emod_nonneg (x/18446744073709551616^i) (show(18446744073709551616:Int)≠0 by decide)
 have c':=Int.emod_lt_of_pos (x/18446744073709551616^i) (show(0:Int)<18446744073709551616 by decide)
 have e:x=(x/18446744073709551616^i % 18446744073709551616*18446744073709551616^i+x % 18446744073709551616^i)+(x/18446744073709551616^i/18446744073709551616)*18446744073709551616^(i+1):=by
  have:(x/18446744073709551616^i/18446744073709551616)*(18446744073709551616:Int)^(i+1)=(18446744073709551616*(x/18446744073709551616^i/18446744073709551616))*18446744073709551616^i:=by rw [Int.pow_succ,Int.mul_comm ((18446744073709551616:Int)^i) 18446744073709551616,←Int.mul_assoc,Int.mul_comm _ 18446744073709551616]
  rw [this]
  have h3:(18446744073709551616*(x/18446744073709551616^i/18446744073709551616))*(18446744073709551616:Int)^i+x/18446744073709551616^i % 18446744073709551616*18446744073709551616^i=x/18446744073709551616^i*18446744073709551616^i:=by rw [←Int.add_mul,h2]
  have h4:x/18446744073709551616^i*(18446744073709551616:Int)^i=18446744073709551616^i*(x/18446744073709551616^i):=Int.mul_comm _ _
  omega
 have l0:0≤x/18446744073709551616^i % 18446744073709551616*18446744073709551616^i+x % 18446744073709551616^i:=Int.add_nonneg (Int.mul_nonneg c (Int.le_of_lt hp)) b
 have l1:x/18446744073709551616^i % 18446744073709551616*18446744073709551616^i+x % 18446744073709551616^i<18446744073709551616^(i+1):=by
  have:x/18446744073709551616^i % 18446744073709551616*(18446744073709551616:Int)^i≤18446744073709551615*18446744073709551616^i:=Int.mul_le_mul_of_nonneg_right (by omega) (Int.le_of_lt hp)
  rw [Int.pow_succ]
  omega
 have key:x % 18446744073709551616^(i+1)=(x/18446744073709551616^i % 18446744073709551616*18446744073709551616^i+x % 18446744073709551616^i) % 18446744073709551616^(i+1):=by
  have:=congrArg (· % (18446744073709551616:Int)^(i+1)) e
  simpa [Int.add_mul_emod_self_right]using this
 rw [key,Int.emod_eq_of_lt l0 l1]
theorem carry_sum(x y:Int)(i:Nat):(x % 18446744073709551616^(i+1)+y % 18446744073709551616^(i+1))/18446744073709551616^i=carry x y i+dg x i+dg y i:=by
 rw [emod_succ,emod_succ]
 unfold carry
 have e:dg x i*18446744073709551616^i+x % 18446744073709551616^i+(dg y i*18446744073709551616^i+y % 18446744073709551616^i)=(x % 18446744073709551616^i+y % 18446744073709551616^i)+(dg x i+dg y i)*18446744073709551616^i:=by rw [Int.add_mul];omega
 rw [e,Int.add_mul_ediv_right _ _ (Int.ne_of_gt (p256 i))]
 omega
theorem carry_succ(x y:Int)(i:Nat):carry x y (i+1)=(carry x y i+dg x i+dg y i)/18446744073709551616:=by
 rw [←carry_sum]
 show(x % 18446744073709551616^(i+1)+y % 18446744073709551616^(i+1))/18446744073709551616^(i+1)=_
 have hp:=p256 i
 rw [Int.pow_succ,Int.ediv_ediv,if_neg (by omega)]
 omega
theorem add_digit(x y:Int)(i:Nat):(carry x y i+dg x i+dg y i) % 18446744073709551616=dg (x+y) i:=by
 unfold dg carry
 have hp:=p256 i
 have h1:=Int.mul_ediv_add_emod x (18446744073709551616^i)
 have h2:=Int.mul_ediv_add_emod y (18446744073709551616^i)
 have e:x+y=(x % 18446744073709551616^i+y % 18446744073709551616^i)+(x/18446744073709551616^i+y/18446744073709551616^i)*18446744073709551616^i:=by
  have a1:x/18446744073709551616^i*(18446744073709551616:Int)^i=18446744073709551616^i*(x/18446744073709551616^i):=Int.mul_comm _ _
  have a2:y/18446744073709551616^i*(18446744073709551616:Int)^i=18446744073709551616^i*(y/18446744073709551616^i):=Int.mul_comm _ _
  rw [Int.add_mul];omega
 have e2:(x+y)/18446744073709551616^i=(x % 18446744073709551616^i+y % 18446744073709551616^i)/18446744073709551616^i+(x/18446744073709551616^i+y/18446744073709551616^i):=by
  conv=>lhs;rw [e]
  exact Int.add_mul_ediv_right _ _ (Int.ne_of_gt hp)
 rw [e2]
 omega
theorem carry_range(x y:Int)(i:Nat):0≤carry x y i∧carry x y i≤1:=by
 unfold carry
 have hp:=p256 i
 have a:=Int.emod_nonneg x (Int.ne_of_gt hp)
 have a':=Int.emod_lt_of_pos x hp
 have b:=Int.emod_nonneg y (Int.ne_of_gt hp)
 have b':=Int.emod_lt_of_pos y hp
 refine⟨Int.ediv_nonneg (by omega) (by omega),?_⟩
 have:(x % 18446744073709551616^i+y % 18446744073709551616^i)/18446744073709551616^i<2:=Int.ediv_lt_of_lt_mul hp (by omega)
 omega
end Go.Proofs.YtjmhfdimoeaplaaGreat.lq.q
namespace Go.Proofs.YtjmhfdimoeaplaaGreat.lq.q
set_option linter.unusedVariables false
def tk(O xi y:Int)(i k:Nat):Int:=O % 18446744073709551616^(i+k)+xi*18446744073709551616^i*(y % 18446744073709551616^k)
def cy(O xi y:Int)(i k:Nat):Int:=tk O xi y i k/18446744073709551616^(i+k)
theorem pow_ik(i k:Nat):(18446744073709551616:Int)^(i+k)=18446744073709551616^i*18446744073709551616^k:=Int.pow_add _ _ _
theorem tk_succ(O xi y:Int)(i k:Nat):tk O xi y i (k+1)=tk O xi y i k+(dg O (i+k)+xi*dg y k)*18446744073709551616^(i+k):=by
 unfold tk
 rw [←Nat.add_assoc,emod_succ,emod_succ,Int.add_mul,Int.mul_add,pow_ik]
 have e:xi*18446744073709551616^i*(dg y k*18446744073709551616^k)=xi*dg y k*(18446744073709551616^i*18446744073709551616^k):=by
  rw [Int.mul_assoc xi,Int.mul_left_comm (18446744073709551616^i) (dg y k),Int.mul_assoc xi (dg y k)]
 rw [e];omega
theorem cy_sum(O xi y:Int)(i k:Nat):tk O xi y i (k+1)/18446744073709551616^(i+k)=cy O xi y i k+dg O (i+k)+xi*dg y k:=by
 rw [tk_succ,Int.add_mul_ediv_right _ _ (Int.ne_of_gt (p256 _))];unfold cy;omega
theorem cy_succ(O xi y:Int)(i k:Nat):cy O xi y i (k+1)=(cy O xi y i k+dg O (i+k)+xi*dg y k)/18446744073709551616:=by
 rw [←cy_sum]
 show tk O xi y i (k+1)/18446744073709551616^(i+k+1)=_
 have hp:=p256 (i+k)
 rw [Int.pow_succ,Int.ediv_ediv,if_neg (by omega)];omega
theorem mul_digit(O xi y:Int)(i k:Nat):(cy O xi y i k+dg O (i+k)+xi*dg y k) % 18446744073709551616=dg (O+xi*18446744073709551616^i*y) (i+k):=by
 rw [←cy_sum]
 show dg (tk O xi y i (k+1)) (i+k)=_
 refine(dg_congr (i:=i+k+1) (O/18446744073709551616^(i+k+1)+xi*(y/18446744073709551616^(k+1))) ?_ (by omega)).symm
 unfold tk
 have h1:=Int.mul_ediv_add_emod O (18446744073709551616^(i+k+1))
 have h2:=Int.mul_ediv_add_emod y (18446744073709551616^(k+1))
 have e0:i+(k+1)=i+k+1:=by omega
 rw [e0,Int.add_mul]
 have e1:O/18446744073709551616^(i+k+1)*(18446744073709551616:Int)^(i+k+1)=18446744073709551616^(i+k+1)*(O/18446744073709551616^(i+k+1)):=Int.mul_comm _ _
 have e2:xi*(y/18446744073709551616^(k+1))*(18446744073709551616:Int)^(i+k+1)=xi*18446744073709551616^i*(18446744073709551616^(k+1)*(y/18446744073709551616^(k+1))):=by
  rw [←e0,pow_ik i (k+1)]
  generalize (18446744073709551616:Int)^(k+1)=K
  rw [Int.mul_assoc xi,Int.mul_assoc xi,Int.mul_left_comm (y/K) (18446744073709551616^i) K,Int.mul_comm (y/K) K]
 have e3:xi*18446744073709551616^i*y=xi*18446744073709551616^i*(18446744073709551616^(k+1)*(y/18446744073709551616^(k+1)))+xi*18446744073709551616^i*(y % 18446744073709551616^(k+1)):=by rw [←Int.mul_add,h2]
 rw [e1,e2,e3];omega
theorem cy_zero(O xi y:Int)(i:Nat):cy O xi y i 0=0:=by
 unfold cy tk
 have hp:=p256 i
 have a:=Int.emod_nonneg O (Int.ne_of_gt hp)
 have a':=Int.emod_lt_of_pos O hp
 have e:y % (18446744073709551616:Int)^0=0:=by simp [Int.emod_one]
 rw [e]
 simp only [Nat.add_zero,Int.mul_zero,Int.add_zero]
 exact Int.ediv_eq_zero_of_lt a a'
theorem cy_range(O xi y:Int)(i k:Nat)(h0:0≤xi)(h1:xi<18446744073709551616):0≤cy O xi y i k∧cy O xi y i k≤18446744073709551615:=by
 unfold cy tk
 have hp:=p256 (i+k)
 have hi:=p256 i
 have hk:=p256 k
 have a:=Int.emod_nonneg O (Int.ne_of_gt hp)
 have a':=Int.emod_lt_of_pos O hp
 have b:=Int.emod_nonneg y (Int.ne_of_gt hk)
 have b':=Int.emod_lt_of_pos y hk
 have c:0≤xi*18446744073709551616^i*(y % 18446744073709551616^k):=Int.mul_nonneg (Int.mul_nonneg h0 (Int.le_of_lt hi)) b
 have c':xi*18446744073709551616^i*(y % 18446744073709551616^k)≤18446744073709551615*18446744073709551616^(i+k):=by
  rw [pow_ik,←Int.mul_assoc]
  exact Int.mul_le_mul (Int.mul_le_mul_of_nonneg_right (by omega) (Int.le_of_lt hi)) (by omega) b (Int.mul_nonneg (by decide) (Int.le_of_lt hi))
 refine⟨Int.ediv_nonneg (by omega) (by omega),?_⟩
 have:(O % 18446744073709551616^(i+k)+xi*18446744073709551616^i*(y % 18446744073709551616^k))/18446744073709551616^(i+k)<18446744073709551616:=Int.ediv_lt_of_lt_mul hp (by omega)
 omega
theorem mul_next(x y:Int)(i:Nat):x % 18446744073709551616^i*y+dg x i*18446744073709551616^i*y=x % 18446744073709551616^(i+1)*y:=by rw [emod_succ,Int.add_mul];omega
theorem mix_start(n i:Nat)(O xi y:Int):mix n i (O+xi*18446744073709551616^i*y) O=dcells n O:=by
 rw [←mix_zero n O O]
 refine fill_congr fun j _=>?_
 by_cases h:j<i
 ·have e:dg (O+xi*18446744073709551616^i*y) j=dg O j:=dg_congr (i:=i) (xi*y) (by rw [Int.mul_assoc,Int.mul_comm (18446744073709551616^i) y,←Int.mul_assoc]) h
  simp [h,e]
 ·simp [h]
end Go.Proofs.YtjmhfdimoeaplaaGreat.lq.q
namespace Go.Proofs.YtjmhfdimoeaplaaGreat.lq
open Go.RowKit
def hi(v:Int):Int:=(v/18446744073709551616+9223372036854775808) % 18446744073709551616- 9223372036854775808
def lo(v:Int):Int:=v % 18446744073709551616
def bor(x y:Int):Int:=if x<y then 1 else 0
theorem mask32(x:Int)(h0:0≤x)(h1:x<18446744073709551616):bits .and .u64 x 4294967295=x % 4294967296:=by
 obtain⟨n,rfl⟩:=Int.eq_ofNat_of_zero_le h0
 have h:=bits_and_u64_nat n 4294967295 (by omega) (by omega)
 have e:n &&& 4294967295=n % 4294967296:=Nat.and_two_pow_sub_one_eq_mod n 32
 rw [e]at h
 exact h.trans (by omega)
theorem half_mul(a b:Int)(a0:0≤a)(a1:a<4294967296)(b0:0≤b)(b1:b<4294967296):0≤a*b∧a*b≤18446744065119617025:=by
 refine⟨Int.mul_nonneg a0 b0,?_⟩
 have:=Int.mul_le_mul (show a≤4294967295 by omega) (show b≤4294967295 by omega) b0 (by decide)
 omega
theorem school(a b c d:Int):(a*4294967296+b)*(c*4294967296+d)=a*c*18446744073709551616+a*d*4294967296+b*c*4294967296+b*d:=by
 have h1:a*4294967296*(c*4294967296)=a*c*(4294967296*4294967296):=by rw [Int.mul_assoc a,Int.mul_left_comm 4294967296 c,←Int.mul_assoc]
 have h2:a*4294967296*d=a*d*4294967296:=by rw [Int.mul_assoc a,Int.mul_comm 4294967296 d,←Int.mul_assoc]
 have h3:b*(c*4294967296)=b*c*4294967296:=(Int.mul_assoc b c _).symm
 rw [Int.add_mul,Int.mul_add,Int.mul_add,h1,h2,h3]
 omega
theorem mul64_hi(x y:Int)(x0:0≤x)(x1:x<18446744073709551616)(y0:0≤y)(y1:y<18446744073709551616):
  IntKind.u64.wrap (IntKind.u64.wrap (IntKind.u64.wrap (x/4294967296*(y/4294967296))+IntKind.u64.wrap (IntKind.u64.wrap (x/4294967296*bits .and .u64 y 4294967295)+IntKind.u64.wrap (bits .and .u64 x 4294967295*bits .and .u64 y 4294967295)/4294967296)/4294967296)+
   IntKind.u64.wrap (bits .and .u64 (IntKind.u64.wrap (IntKind.u64.wrap (x/4294967296*bits .and .u64 y 4294967295)+IntKind.u64.wrap (bits .and .u64 x 4294967295*bits .and .u64 y 4294967295)/4294967296)) 4294967295+IntKind.u64.wrap (bits .and .u64 x 4294967295*(y/4294967296)))/4294967296)=x*y/18446744073709551616:=by
 rw [mask32 x x0 x1,mask32 y y0 y1,mask32 (IntKind.u64.wrap _) (wrap_u64_nonneg _) (by rw [IntKind.wrap_u64];omega)]
 have e:=school (x/4294967296) (x % 4294967296) (y/4294967296) (y % 4294967296)
 have ex:x/4294967296*4294967296+x % 4294967296=x:=by omega
 have ey:y/4294967296*4294967296+y % 4294967296=y:=by omega
 rw [ex,ey]at e
 rw [e]
 have b1:=half_mul (x/4294967296) (y/4294967296) (by omega) (by omega) (by omega) (by omega)
 have b2:=half_mul (x/4294967296) (y % 4294967296) (by omega) (by omega) (by omega) (by omega)
 have b3:=half_mul (x % 4294967296) (y/4294967296) (by omega) (by omega) (by omega) (by omega)
 have b4:=half_mul (x % 4294967296) (y % 4294967296) (by omega) (by omega) (by omega) (by omega)
 clear e ex ey
 generalize x/4294967296*(y/4294967296)=p1 at*
 generalize x/4294967296*(y % 4294967296)=p2 at*
 generalize x % 4294967296*(y/4294967296)=p3 at*
 generalize x % 4294967296*(y % 4294967296)=p4 at*
 simp only [IntKind.wrap_u64]
 omega
theorem ret_tup2{k l:IntKind}{a b c d:Int}(h:a=c)(h':b=d):Ending.returned (.tuple #[.int k a, .int l b])= .returned (.tuple #[.int k c, .int l d]):=by rw [h,h']
def cmpI(x y:Int):Int:=if x<y then -1 else if y<x then 1 else 0
end Go.Proofs.YtjmhfdimoeaplaaGreat.lq
