/-
  Joined texts, part 3:
  The landed mesh's small functions: third, canCoord, hasVert, edgeFrom, turned.
  The landed mesh's hasEdge, place.
  The landed mesh's every: what is asked of each corner, by whatever function.
  Plain arithmetic of numbers of two words: what word a sum, a difference and a product have
  What package wide's smallest functions answer: a sum, a difference, a number with the othe
  wide.Mul, Cmp, Sign, and the product whose text every law of this layer looks at.
  What package pred's can, area2, dist2, turn, Area2, Orient and Dist2 answer.
  What package pred's turn, Area2, Orient and Dist2 answer.
-/
import Derived.Test.YtaadknpjbogkbaaP2
import Derived.Shelf.Abstract
import Derived.WalkKit
import Derived.Laws.Bits64b
import Derived.Test.YtaadknpjbogkbaaP1
import Derived.Test.YtaadknpjbogkbaaRows
import Derived.WalkSpells
import Derived.StillTactics
import Derived.Laws.Pointers
import Derived.Laws.Externs
import Derived.Shelf.Spec.BitsCarry
import Derived.RowKit3
import Derived.Laws.BytesArg
import Derived.WalkSmall
import Derived.Deep.QuietTactic
import Derived.BigQuiet
namespace Go.Proofs.Ytaadknpjbogkbaa
open Go.RowKit Go.Maps
set_option linter.unusedVariables false
theorem third_eq{i r:Int}(hr:r=i % 3):(i.tmod 3+3).tmod 3=r:=by
 have h1:(-3:Int)<i.tmod 3:=by have:=Int.lt_tmod_of_pos i (show(0:Int)<3 by decide);omega
 rw [Int.tmod_eq_emod_of_nonneg (by omega)]
 have h2:=Int.tmod_add_mul_tdiv i 3
 omega
theorem mThird(i:Int)(w:World){r:Int}(hr:r=i % 3):Calls Try.prog 44 #[.int .i64 i] w fun e w'=>e= .returned (.int .i64 r)∧Below w.heap.size w w':=by
 have h1:(-3:Int)<i.tmod 3:=by have:=Int.lt_tmod_of_pos i (show(0:Int)<3 by decide);omega
 have h2:i.tmod 3<3:=Int.tmod_lt_of_pos i (by decide)
 have h3:=third_eq hr
 obtain⟨q,hq⟩: ∃ q,q=i.tmod 3:=⟨_,rfl⟩
 rw [←hq]at h1 h2 h3
 have HR:Hid _:=hr
 have hq':i.tmod 3=q:=hq.symm
 clear hr hq
 go_enter Try.func44,Try.ntmps44
 go_wp2
 go_ret
 exact⟨rfl,Below.refl _ _⟩
theorem mCan(base p:Nat)(X:Mx)(F:Nat→Prop)(w:World)(h:MeI base p X F w)(c:Int){r:Bool}(hr:r=decide (0≤c∧c<X.n)):Calls Try.prog 51 #[ptR p, .int .i64 c] w fun e w'=>e= .returned (.bool r)∧Below w.heap.size w w':=by
 have q0:=h.row.cell 0 _ rfl
 obtain⟨n,hn⟩: ∃ n,n=X.n:=⟨_,rfl⟩
 rw [←hn]at q0 hr
 have HR:Hid _:=hr
 clear h hr hn
 by_cases h0:0≤c
 ·by_cases h1:c<n
  ·obtain rfl:r=true:=HR.out.trans (decide_eq_true ⟨h0,h1⟩)
   go_enter Try.func51,Try.ntmps51
   go_wp2
   go_ret
   exact⟨rfl,Below.refl _ _⟩
  ·obtain rfl:r=false:=HR.out.trans (decide_eq_false (fun e=>h1 e.2))
   go_enter Try.func51,Try.ntmps51
   go_wp2
   go_ret
   exact⟨rfl,Below.refl _ _⟩
 ·obtain rfl:r=false:=HR.out.trans (decide_eq_false (fun e=>h0 e.1))
  go_enter Try.func51,Try.ntmps51
  go_wp2
  go_ret
  exact⟨rfl,Below.refl _ _⟩
theorem mHasV(base p:Nat)(X:Mx)(F:Nat→Prop)(w:World)(h:MeI base p X F w)(hT:X.av.T≤1000)(v:Int)(hv:In64 v){r:Bool}(hr:r=decide (v∈X.av.L)):Calls Try.prog 56 #[ptR p, .int .i64 v] w fun e w'=>e= .returned (.bool r)∧Below w.heap.size w w':=by
 have q1:=h.row.cell 1 _ rfl
 have HA:Hid _:=h.arv
 have HR:Hid _:=hr
 obtain⟨pv,hpv⟩: ∃ pv,pv=X.pv:=⟨_,rfl⟩
 rw [←hpv]at q1 HA
 clear h hr hpv
 go_enter Try.func56,Try.ntmps56
 go_wp2_with (go_at_call 27;fail)
 refine(arLive HA.out hT v hv HR.out).mono ?_
 rintro e w1 ⟨rfl,b1⟩
 go_wp2
 go_ret
 exact⟨rfl,b1⟩
theorem mHasV0(v:Int)(w:World):Calls Try.prog 56 #[.pointer none, .int .i64 v] w fun e w'=>e= .returned (.bool false)∧Below w.heap.size w w':=by
 go_enter Try.func56,Try.ntmps56
 go_wp2
 go_ret
 exact⟨rfl,Below.refl _ _⟩
def egW(t:Tr)(i:Nat):Eg:=⟨t.v i,t.v (nx i),wrap64 (t.x (nx i)- t.x i),wrap64 (t.y (nx i)- t.y i)⟩
def egT(e:Eg):Eg:=⟨e.t,e.f,wrap64 (0- e.x),wrap64 (0- e.y)⟩
theorem trC_v(t:Tr){j:Nat}(hj:j<3):(trC t)[j]? =some (.int .i64 (t.v j)):=by
 rcases(by omega:j=0∨j=1∨j=2)with rfl|rfl|rfl<;>rfl
theorem trC_x(t:Tr){j:Nat}(hj:j<3):(trC t)[3+j*2]? =some (.int .i64 (t.x j)):=by
 rcases(by omega:j=0∨j=1∨j=2)with rfl|rfl|rfl<;>rfl
theorem trC_y(t:Tr){j:Nat}(hj:j<3):(trC t)[3+j*2+1]? =some (.int .i64 (t.y j)):=by
 rcases(by omega:j=0∨j=1∨j=2)with rfl|rfl|rfl<;>rfl
set_option maxRecDepth 100000 in
theorem mEdge(t:Tr)(i:Nat)(w:World)(hi:i<3):Calls Try.prog 49 #[trV t, .int .i64 (i:Int)] w fun e w'=>e= .returned (egV (egW t i))∧Below w.heap.size w w':=by
 obtain⟨W,hW⟩: ∃ W,W=(w.alloc (.cells (trC t).toArray 65)).alloc (.cells #[.int .i64 0, .int .i64 0, .int .i64 0, .int .i64 0] 122):=⟨_,rfl⟩
 have BW:Below w.heap.size w W:=by rw [hW];exact((Below.refl _ _).alloc (Nat.le_refl _) _).alloc (by simp) _
 have zW:W.heap.size=w.heap.size+2:=by rw [hW];simp
 have R0:Row W w.heap.size (trC t):=by rw [hW];exact(Row.new w _ _).alloc _ (by simp)
 have R1:Row W (w.heap.size+1) [.int .i64 0, .int .i64 0, .int .i64 0, .int .i64 0]:=by rw [hW];have:=Row.new (w.alloc (.cells (trC t).toArray 65)) [.int .i64 0, .int .i64 0, .int .i64 0, .int .i64 0] 122;simpa using this
 have hW':(w.alloc (.cells #[.int .i64 t.v0, .int .i64 t.v1, .int .i64 t.v2, .int .i64 t.x0, .int .i64 t.y0, .int .i64 t.x1, .int .i64 t.y1, .int .i64 t.x2, .int .i64 t.y2] 65)).alloc (.cells #[.int .i64 0, .int .i64 0, .int .i64 0, .int .i64 0] 122)=W:=hW.symm
 obtain⟨k,hk⟩: ∃ k,k=nx i:=⟨_,rfl⟩
 have hk3:k<3:=by rw [hk];unfold nx;omega
 have HK:Hid ((k:Int)=((i:Int)+1) % 3):=by unfold Hid;rw [hk];unfold nx;omega
 have HE:Hid (egW t i=⟨t.v i,t.v k,wrap64 (t.x k- t.x i),wrap64 (t.y k- t.y i)⟩):=by unfold Hid;rw [hk];rfl
 clear hW hk
 go_enter Try.func49,Try.ntmps49
 go_wp2_with (go_at_call 44;fail)
 refine(mThird ((i:Int)+1) W HK.out).mono ?_
 rintro e w1 ⟨rfl,b1⟩
 clear hW'
 have z1:=b1.size
 have B1:Below w.heap.size w w1:=BW.trans (b1.mono (by omega))
 replace R0:=R0.below b1 (by omega)
 replace R1:=R1.below b1 (by omega)
 have ci:=R0.cell i _ (trC_v t hi)
 have ck:=R0.cell k _ (trC_v t hk3)
 have xi:=R0.cell (3+i*2) _ (trC_x t hi)
 have yi:=R0.cell (3+i*2+1) _ (trC_y t hi)
 have xk:=R0.cell (3+k*2) _ (trC_x t hk3)
 have yk:=R0.cell (3+k*2+1) _ (trC_y t hk3)
 obtain⟨vi,hvi⟩: ∃ v,v=t.v i:=⟨_,rfl⟩
 obtain⟨vk,hvk⟩: ∃ v,v=t.v k:=⟨_,rfl⟩
 obtain⟨a,ha⟩: ∃ v,v=t.x i:=⟨_,rfl⟩
 obtain⟨b,hb⟩: ∃ v,v=t.y i:=⟨_,rfl⟩
 obtain⟨c,hc⟩: ∃ v,v=t.x k:=⟨_,rfl⟩
 obtain⟨d,hd⟩: ∃ v,v=t.y k:=⟨_,rfl⟩
 rw [←hvi]at ci
 rw [←hvk]at ck
 rw [←ha]at xi
 rw [←hb]at yi
 rw [←hc]at xk
 rw [←hd]at yk
 obtain⟨u,HU⟩: ∃ u,Hid (u=wrap64 (c- a)):=⟨_,rfl⟩
 obtain⟨v,HV⟩: ∃ v,Hid (v=wrap64 (d- b)):=⟨_,rfl⟩
 have HE2:Hid (egW t i=⟨vi,vk,u,v⟩):=by unfold Hid;rw [HE.out,HU.out,HV.out,hvi,hvk,ha,hb,hc,hd]
 clear hvi hvk ha hb hc hd HE
 have hi':(i:Int)<3:=by omega
 have hk':(k:Int)<3:=by omega
 go_wp2
 refine regionL 18 (S:=fun w'=>w'.cell? ⟨w.heap.size,i,none⟩=some (.int .i64 vi)∧w'.cell? ⟨w.heap.size,k,none⟩=some (.int .i64 vk)∧w'.cell? ⟨w.heap.size,3+i*2,none⟩=some (.int .i64 a)∧w'.cell? ⟨w.heap.size,3+i*2+1,none⟩=some (.int .i64 b)∧w'.cell? ⟨w.heap.size,3+k*2,none⟩=some (.int .i64 c)∧w'.cell? ⟨w.heap.size,3+k*2+1,none⟩=some (.int .i64 d)) (by kernel_rfl) ?_ (fun hHeld=>?_)
 ·exact⟨ci,ck,xi,yi,xk,yk⟩
 refine tyL (i:=0) (v:=?vef0) rfl ?hyef0 ?_
 case hyef0=>(intro w hSw;(try dsimp only at hSw);go_simp<;>with_reducible rfl)
 simp only [Act.put,ps1,ps2,ps3]
 refine tyL (i:=1) (v:=?vef1) rfl ?hyef1 ?_
 case hyef1=>(intro w hSw;(try dsimp only at hSw);go_simp<;>with_reducible rfl)
 simp only [Act.put,ps1,ps2,ps3]
 refine tyL (i:=2) (v:=?vef2) rfl ?hyef2 ?_
 case hyef2=>(intro w hSw;(try dsimp only at hSw);go_simp<;>with_reducible rfl)
 simp only [Act.put,ps1,ps2,ps3]
 refine tyL (i:=3) (v:=?vef3) rfl ?hyef3 ?_
 case hyef3=>(intro w hSw;(try dsimp only at hSw);go_simp<;>with_reducible rfl)
 simp only [Act.put,ps1,ps2,ps3]
 refine tyL (i:=4) (v:=?vef4) rfl ?hyef4 ?_
 case hyef4=>(intro w hSw;(try dsimp only at hSw);go_simp<;>with_reducible rfl)
 simp only [Act.put,ps1,ps2,ps3]
 refine tyL (i:=5) (v:=?vef5) rfl ?hyef5 ?_
 case hyef5=>(intro w hSw;(try dsimp only at hSw);go_simp<;>with_reducible rfl)
 simp only [Act.put,ps1,ps2,ps3]
 refine tyL (i:=6) (v:=?vef6) rfl ?hyef6 ?_
 case hyef6=>(intro w hSw;(try dsimp only at hSw);go_simp<;>with_reducible rfl)
 simp only [Act.put,ps1,ps2,ps3]
 refine tyL (i:=7) (v:=?vef7) rfl ?hyef7 ?_
 case hyef7=>(intro w hSw;(try dsimp only at hSw);go_simp<;>with_reducible rfl)
 simp only [Act.put,ps1,ps2,ps3]
 refine tyL (i:=8) (v:=?vef8) rfl ?hyef8 ?_
 case hyef8=>(intro w hSw;(try dsimp only at hSw);go_simp<;>with_reducible rfl)
 simp only [Act.put,ps1,ps2,ps3]
 refine tyL (i:=9) (v:=?vef9) rfl ?hyef9 ?_
 case hyef9=>(intro w hSw;(try dsimp only at hSw);go_simp<;>with_reducible rfl)
 simp only [Act.put,ps1,ps2,ps3]
 refine tyL (i:=10) (v:=?vef10) rfl ?hyef10 ?_
 case hyef10=>(intro w hSw;(try dsimp only at hSw);go_simp<;>with_reducible rfl)
 simp only [Act.put,ps1,ps2,ps3]
 refine tyL (i:=11) (v:=?vef11) rfl ?hyef11 ?_
 case hyef11=>(intro w hSw;(try dsimp only at hSw);go_simp<;>with_reducible rfl)
 simp only [Act.put,ps1,ps2,ps3]
 refine tyL (i:=12) (v:=?vef12) rfl ?hyef12 ?_
 case hyef12=>(intro w hSw;(try dsimp only at hSw);go_simp<;>with_reducible rfl)
 simp only [Act.put,ps1,ps2,ps3]
 refine tyL (i:=13) (v:=?vef13) rfl ?hyef13 ?_
 case hyef13=>(intro w hSw;(try dsimp only at hSw);go_simp<;>with_reducible rfl)
 simp only [Act.put,ps1,ps2,ps3]
 refine tyL (i:=14) (v:=?vef14) rfl ?hyef14 ?_
 case hyef14=>(intro w hSw;(try dsimp only at hSw);go_simp<;>with_reducible rfl)
 simp only [Act.put,ps1,ps2,ps3]
 refine tyL (i:=15) (v:=?vef15) rfl ?hyef15 ?_
 case hyef15=>(intro w hSw;(try dsimp only at hSw);go_simp<;>with_reducible rfl)
 simp only [Act.put,ps1,ps2,ps3]
 refine takeL_call (i:=16) rfl (by kernel_rfl) (fun Kc hK=>?_)
 go_simp
 (go_at_call 36;refine(lLess c d a b _ HU.out HV.out).mono ?_;rintro e w2 ⟨rfl,b2⟩)
 refine hK.out _ _ ?_ (fun hHeld=>?_)
 ·exact⟨(b2.cell (p:=⟨w.heap.size,i,none⟩) (by simp;omega)).trans ci,(b2.cell (p:=⟨w.heap.size,k,none⟩) (by simp;omega)).trans ck,(b2.cell (p:=⟨w.heap.size,3+i*2,none⟩) (by simp;omega)).trans xi,(b2.cell (p:=⟨w.heap.size,3+i*2+1,none⟩) (by simp;omega)).trans yi,(b2.cell (p:=⟨w.heap.size,3+k*2,none⟩) (by simp;omega)).trans xk,(b2.cell (p:=⟨w.heap.size,3+k*2+1,none⟩) (by simp;omega)).trans yk⟩
 clear hK Kc
 refine tyL (i:=17) (v:=?vef17) rfl ?hyef17 ?_
 case hyef17=>(intro w hSw;(try dsimp only at hSw);go_simp<;>with_reducible rfl)
 simp only [Act.put,ps1,ps2,ps3]
 have z2:w1.heap.size≤w2.heap.size:=b2.size
 replace R1:=(show Row w1.drew (w.heap.size+1) [.int .i64 0, .int .i64 0, .int .i64 0, .int .i64 0]from R1).below b2 (by simp;omega)
 have f0:=R1.free 0 (by simp)
 have f1:=R1.free 1 (by simp)
 have f2:=R1.free 2 (by simp)
 have f3:=R1.free 3 (by simp)
 have g0:=R1.cell 0 _ rfl
 have g1:=R1.cell 1 _ rfl
 have g2:=R1.cell 2 _ rfl
 have g3:=R1.cell 3 _ rfl
 refine takeL_last rfl (by kernel_rfl) (fun Kc hK=>?_)
 go_simp
 refine hK.out _ _ ?_
 clear hK Kc
 refine anyL_done (by kernel_rfl) ?_ _
 have R2:=(((R1.set 0 (.int .i64 vi) (by simp)).set 1 (.int .i64 vk) (by simp)).set 2 (.int .i64 u) (by simp)).set 3 (.int .i64 v) (by simp)
 have h0:=R2.cell 0 _ rfl
 have h1:=R2.cell 1 _ rfl
 have h2:=R2.cell 2 _ rfl
 have h3:=R2.cell 3 _ rfl
 have B2:Below w.heap.size w w2:=B1.trans ((⟨b2.os,b2.tape,b2.output,b2.size,b2.block⟩:Below w1.heap.size w1 w2).mono (by omega))
 have BF:Below w.heap.size w ((((w2.setCell ⟨w.heap.size+1,0,none⟩ (.int .i64 vi)).setCell ⟨w.heap.size+1,1,none⟩ (.int .i64 vk)).setCell ⟨w.heap.size+1,2,none⟩ (.int .i64 u)).setCell ⟨w.heap.size+1,3,none⟩ (.int .i64 v)):=(((B2.setCell (by simp) _).setCell (by simp) _).setCell (by simp) _).setCell (by simp) _
 go_wp2
 refine bodyPost_ret (v:= .agg #[.int .i64 vi, .int .i64 vk, .int .i64 u, .int .i64 v]) (by simp [results,Try.results49,go_sem, *]) rfl ?_
 rw [HE2.out]
 exact⟨rfl,BF⟩
set_option maxRecDepth 100000 in
theorem mTurned(f t x y:Int)(w:World):Calls Try.prog 48 #[egV ⟨f,t,x,y⟩] w fun e w'=>e= .returned (egV (egT ⟨f,t,x,y⟩))∧Below w.heap.size w w':=by
 obtain⟨W,hW⟩: ∃ W,W=(w.alloc (.cells #[.int .i64 f, .int .i64 t, .int .i64 x, .int .i64 y] 122)).alloc (.cells #[.int .i64 0, .int .i64 0, .int .i64 0, .int .i64 0] 122):=⟨_,rfl⟩
 have BW:Below w.heap.size w W:=by rw [hW];exact((Below.refl _ _).alloc (Nat.le_refl _) _).alloc (by simp) _
 have zW:W.heap.size=w.heap.size+2:=by rw [hW];simp
 have R0:Row W w.heap.size [.int .i64 f, .int .i64 t, .int .i64 x, .int .i64 y]:=by rw [hW];exact(Row.new w [.int .i64 f, .int .i64 t, .int .i64 x, .int .i64 y] _).alloc _ (by simp)
 have R1:Row W (w.heap.size+1) [.int .i64 0, .int .i64 0, .int .i64 0, .int .i64 0]:=by rw [hW];have:=Row.new (w.alloc (.cells #[.int .i64 f, .int .i64 t, .int .i64 x, .int .i64 y] 122)) [.int .i64 0, .int .i64 0, .int .i64 0, .int .i64 0] 122;simpa using this
 have hW':=hW.symm
 obtain⟨u,HU⟩: ∃ u,Hid (u=wrap64 (0- x)):=⟨_,rfl⟩
 obtain⟨v,HV⟩: ∃ v,Hid (v=wrap64 (0- y)):=⟨_,rfl⟩
 have HE2:Hid (egT ⟨f,t,x,y⟩=⟨t,f,u,v⟩):=by unfold Hid;rw [HU.out,HV.out];rfl
 have c0:=R0.cell 0 _ rfl
 have c1:=R0.cell 1 _ rfl
 have c2:=R0.cell 2 _ rfl
 have c3:=R0.cell 3 _ rfl
 clear hW
 go_enter Try.func48,Try.ntmps48
 go_wp2
 clear hW'
 refine regionL 9 (S:=fun w'=>w'.cell? ⟨w.heap.size,0,none⟩=some (.int .i64 f)∧w'.cell? ⟨w.heap.size,1,none⟩=some (.int .i64 t)∧w'.cell? ⟨w.heap.size,2,none⟩=some (.int .i64 x)∧w'.cell? ⟨w.heap.size,3,none⟩=some (.int .i64 y)) (by kernel_rfl) ?_ (fun hHeld=>?_)
 ·exact⟨c0,c1,c2,c3⟩
 refine tyL (i:=0) (v:=?vtu0) rfl ?hytu0 ?_
 case hytu0=>(intro w hSw;(try dsimp only at hSw);go_simp<;>with_reducible rfl)
 simp only [Act.put,ps1,ps2,ps3]
 refine tyL (i:=1) (v:=?vtu1) rfl ?hytu1 ?_
 case hytu1=>(intro w hSw;(try dsimp only at hSw);go_simp<;>with_reducible rfl)
 simp only [Act.put,ps1,ps2,ps3]
 refine tyL (i:=2) (v:=?vtu2) rfl ?hytu2 ?_
 case hytu2=>(intro w hSw;(try dsimp only at hSw);go_simp<;>with_reducible rfl)
 simp only [Act.put,ps1,ps2,ps3]
 refine tyL (i:=3) (v:=?vtu3) rfl ?hytu3 ?_
 case hytu3=>(intro w hSw;(try dsimp only at hSw);go_simp<;>with_reducible rfl)
 simp only [Act.put,ps1,ps2,ps3]
 refine tyL (i:=4) (v:=?vtu4) rfl ?hytu4 ?_
 case hytu4=>(intro w hSw;(try dsimp only at hSw);go_simp<;>with_reducible rfl)
 simp only [Act.put,ps1,ps2,ps3]
 refine tyL (i:=5) (v:=?vtu5) rfl ?hytu5 ?_
 case hytu5=>(intro w hSw;(try dsimp only at hSw);go_simp<;>with_reducible rfl)
 simp only [Act.put,ps1,ps2,ps3]
 refine tyL (i:=6) (v:=?vtu6) rfl ?hytu6 ?_
 case hytu6=>(intro w hSw;(try dsimp only at hSw);go_simp<;>with_reducible rfl)
 simp only [Act.put,ps1,ps2,ps3]
 refine takeL_call (i:=7) rfl (by kernel_rfl) (fun Kc hK=>?_)
 go_simp
 (go_at_call 36;refine(lLess 0 0 x y _ HU.out HV.out).mono ?_;rintro e w2 ⟨rfl,b2⟩)
 refine hK.out _ _ ?_ (fun hHeld=>?_)
 ·exact⟨(b2.cell (p:=⟨w.heap.size,0,none⟩) (by simp;omega)).trans c0,(b2.cell (p:=⟨w.heap.size,1,none⟩) (by simp;omega)).trans c1,(b2.cell (p:=⟨w.heap.size,2,none⟩) (by simp;omega)).trans c2,(b2.cell (p:=⟨w.heap.size,3,none⟩) (by simp;omega)).trans c3⟩
 clear hK Kc
 refine tyL (i:=8) (v:=?vtu8) rfl ?hytu8 ?_
 case hytu8=>(intro w hSw;(try dsimp only at hSw);go_simp<;>with_reducible rfl)
 simp only [Act.put,ps1,ps2,ps3]
 have z2:W.heap.size≤w2.heap.size:=b2.size
 replace R1:=(show Row W.drew (w.heap.size+1) [.int .i64 0, .int .i64 0, .int .i64 0, .int .i64 0]from R1).below b2 (by simp;omega)
 have f0:=R1.free 0 (by simp)
 have f1:=R1.free 1 (by simp)
 have f2:=R1.free 2 (by simp)
 have f3:=R1.free 3 (by simp)
 have g0:=R1.cell 0 _ rfl
 have g1:=R1.cell 1 _ rfl
 have g2:=R1.cell 2 _ rfl
 have g3:=R1.cell 3 _ rfl
 refine takeL_last rfl (by kernel_rfl) (fun Kc hK=>?_)
 go_simp
 refine hK.out _ _ ?_
 clear hK Kc
 refine anyL_done (by kernel_rfl) ?_ _
 have R2:=(((R1.set 0 (.int .i64 t) (by simp)).set 1 (.int .i64 f) (by simp)).set 2 (.int .i64 u) (by simp)).set 3 (.int .i64 v) (by simp)
 have h0:=R2.cell 0 _ rfl
 have h1:=R2.cell 1 _ rfl
 have h2:=R2.cell 2 _ rfl
 have h3:=R2.cell 3 _ rfl
 have B2:Below w.heap.size w w2:=BW.trans ((⟨b2.os,b2.tape,b2.output,b2.size,b2.block⟩:Below W.heap.size W w2).mono (by omega))
 have BF:Below w.heap.size w ((((w2.setCell ⟨w.heap.size+1,0,none⟩ (.int .i64 t)).setCell ⟨w.heap.size+1,1,none⟩ (.int .i64 f)).setCell ⟨w.heap.size+1,2,none⟩ (.int .i64 u)).setCell ⟨w.heap.size+1,3,none⟩ (.int .i64 v)):=(((B2.setCell (by simp) _).setCell (by simp) _).setCell (by simp) _).setCell (by simp) _
 go_wp2
 refine bodyPost_ret (v:= .agg #[.int .i64 t, .int .i64 f, .int .i64 u, .int .i64 v]) (by simp [results,Try.results48,go_sem, *]) rfl ?_
 rw [HE2.out]
 exact⟨rfl,BF⟩
theorem zeroStart(w:World):(zeroValue 119).run Try.prog w= .ok (.agg #[.int .i64 0, .int .i64 0]) w:=by kernel_rfl
def Starts(g:Eg→Option Value):Prop:= ∀ e v,g e=some v→ ∃ f i:Int,v=stV f i
theorem Starts.get{g:Eg→Option Value}(h:Starts g)(e:Eg): ∃ f i:Int,(g e).getD (.agg #[.int .i64 0, .int .i64 0])=stV f i∧((g e).isSome=true→g e=some (stV f i)):=by
 cases hg:g e with
 |none=>exact⟨0,0,rfl,fun h=>by cases h⟩
 |some v=>
  obtain⟨f,i,rfl⟩:=h e v hg
  exact⟨f,i,rfl,fun _=>rfl⟩
set_option maxRecDepth 100000 in
theorem mHasE(base p:Nat)(X:Mx)(F:Nat→Prop)(w:World)(h:MeI base p X F w)(hst:Starts X.ge)(f t x y:Int)(he:Eg.ok ⟨f,t,x,y⟩){r:Bool}(hr:r=(X.ge ⟨f,t,x,y⟩).isSome):Calls Try.prog 59 #[ptR p,egV ⟨f,t,x,y⟩] w fun e w'=>e= .returned (.bool r)∧Below w.heap.size w w':=by
 obtain⟨kl,hkl⟩:=egKey he
 obtain⟨sf,si,hs,_⟩:=hst.get ⟨f,t,x,y⟩
 have hpl:=h.row.lt
 have LK: ∀ w',Below w.heap.size w w'→(Instr.lookup 51 (.map (some X.be)) (.agg #[.int .i64 f, .int .i64 t, .int .i64 x, .int .i64 y]) true).run Try.prog w'= .ok (.tuple #[.agg #[.int .i64 sf, .int .i64 si], .bool r]) w':=by
  intro w' hb
  have:=(h.below hb).edg.look egL Try.underlying51 hkl (zeroStart w')
  rw [hs,←hr]at this
  exact this
 obtain⟨W,hW⟩: ∃ W,W=w.alloc (.cells #[.int .i64 f, .int .i64 t, .int .i64 x, .int .i64 y] 122):=⟨_,rfl⟩
 have BW:Below w.heap.size w W:=by rw [hW];exact(Below.refl _ _).alloc (Nat.le_refl _) _
 have zW:W.heap.size=w.heap.size+1:=by rw [hW];simp
 have R0:Row W w.heap.size [.int .i64 f, .int .i64 t, .int .i64 x, .int .i64 y]:=by rw [hW];exact Row.new w [.int .i64 f, .int .i64 t, .int .i64 x, .int .i64 y] _
 have q5:=(h.below BW).row.cell 5 _ rfl
 have hW':=hW.symm
 obtain⟨be,hbe⟩: ∃ be,be=X.be:=⟨_,rfl⟩
 rw [←hbe]at q5 LK
 have HL:Hid _:=LK
 have c0:=R0.cell 0 _ rfl
 have c1:=R0.cell 1 _ rfl
 have c2:=R0.cell 2 _ rfl
 have c3:=R0.cell 3 _ rfl
 have lA:w.heap.size<W.heap.size:=by omega
 have lp:p<W.heap.size:=by omega
 clear hW hbe hkl h hst he hr hs LK
 go_enter Try.func59,Try.ntmps59
 go_wp2
 clear hW'
 have HShe:Hid (∀ w',Below (W.heap.size) W w'→(fun w'=>w'.cell? ⟨w.heap.size,0,none⟩=some (.int .i64 f)∧w'.cell? ⟨w.heap.size,1,none⟩=some (.int .i64 t)∧w'.cell? ⟨w.heap.size,2,none⟩=some (.int .i64 x)∧w'.cell? ⟨w.heap.size,3,none⟩=some (.int .i64 y)∧w'.cell? ⟨p,5,none⟩=some (.map (some be))∧(Instr.lookup 51 (.map (some be)) (.agg #[.int .i64 f, .int .i64 t, .int .i64 x, .int .i64 y]) true).run Try.prog w'= .ok (.tuple #[.agg #[.int .i64 sf, .int .i64 si], .bool r]) w'∧Below (W.heap.size) W w') w'):=by
  unfold Hid
  intro w' hb
  exact⟨(hb.cell (p:=⟨w.heap.size,0,none⟩) lA).trans c0,(hb.cell (p:=⟨w.heap.size,1,none⟩) lA).trans c1,(hb.cell (p:=⟨w.heap.size,2,none⟩) lA).trans c2,(hb.cell (p:=⟨w.heap.size,3,none⟩) lA).trans c3,(hb.cell (p:=⟨p,5,none⟩) lp).trans q5,HL.out _ (BW.trans (hb.mono (by omega))),hb⟩
 refine wp_region_held_drew (S:=fun w'=>w'.cell? ⟨w.heap.size,0,none⟩=some (.int .i64 f)∧w'.cell? ⟨w.heap.size,1,none⟩=some (.int .i64 t)∧w'.cell? ⟨w.heap.size,2,none⟩=some (.int .i64 x)∧w'.cell? ⟨w.heap.size,3,none⟩=some (.int .i64 y)∧w'.cell? ⟨p,5,none⟩=some (.map (some be))∧(Instr.lookup 51 (.map (some be)) (.agg #[.int .i64 f, .int .i64 t, .int .i64 x, .int .i64 y]) true).run Try.prog w'= .ok (.tuple #[.agg #[.int .i64 sf, .int .i64 si], .bool r]) w'∧Below (W.heap.size) W w') (by kernel_rfl) ?_ (fun hHeld=>?_)
 ·exact HShe.out _ ((Below.refl _ _).drew)
 refine tn 0 ?_;refine tn 1 ?_;refine tn 2 ?_;refine tn 3 ?_;refine tn 4 ?_;refine tn 5 ?_;refine tn 6 ?_;refine tn 7 ?_;refine tn 8 ?_
 simp only [Act.put,ps1,ps2,ps3]
 refine tcl 9 fun Kc hK=>?_
 go_simp
 refine hK.out _ _ ?_ (fun hHeld=>?_)
 ·exact HShe.out _ (hHeld.2.2.2.2.2.2.alloc hHeld.2.2.2.2.2.2.size _)
 clear hK Kc
 refine tcl 10 fun Kc hK=>?_
 go_simp
 refine hK.out _ _ ?_ (fun hHeld=>?_)
 ·exact HShe.out _ (((Below.refl _ _).alloc (Nat.le_refl _) _).drew)
 clear hK Kc
 refine tz (i:=11) rfl ?_
 simp only [Act.put,ps1,ps2,ps3]
 refine wpAnyH_done (by kernel_rfl) ?_ _
 have BF:=hHeld.2.2.2.2.2.2
 go_wp2
 go_ret
 exact⟨rfl,BW.trans (BF.mono (by omega))⟩
theorem MeI.vcell{base p:Nat}{X:Mx}{F:Nat→Prop}{w:World}{S:Ms}{m:Nat}(h:MeI base p X F w)(hS:MeOk X S)(hk:MsOk S m){a:Vt}(ha:a∈S.V): ∃ (g k:Nat),X.a=some ⟨g,0,none⟩∧g<w.heap.size∧a.no=(k:Int)∧k<X.nv∧X.nv≤X.ca∧ ∀ j u,(vxC a (X.M a.no))[j]? =some u→w.cell? ⟨g,k*5+j,none⟩=some u∧w.frozen? ⟨g,k*5+j,none⟩=false:=by
 obtain⟨_,h0,h1⟩:=hk.vmem ha
 have hnv:a.no.toNat<X.nv:=by rw [hS.nv];omega
 obtain⟨g,hg,hlt,_,hseg⟩:=h.own.at (by omega)
 refine⟨g,a.no.toNat,hg,hlt,by omega,hnv,h.own.room.1,fun j u hu=>?_⟩
 have:=hseg _ u (hS.vs a ha j u hu)
 rw [Nat.zero_add]at this
 exact this
theorem MeI.fcell{base p:Nat}{X:Mx}{F:Nat→Prop}{w:World}{S:Ms}{m:Nat}(h:MeI base p X F w)(hS:MeOk X S)(hk:MsOk S m){c:Ce}(hc:c∈S.C): ∃ (g k:Nat),X.b=some ⟨g,0,none⟩∧g<w.heap.size∧c.no=(k:Int)∧k<X.nf∧X.nf≤X.cb∧ ∀ j u,(trC c.t)[j]? =some u→w.cell? ⟨g,k*9+j,none⟩=some u∧w.frozen? ⟨g,k*9+j,none⟩=false:=by
 obtain⟨_,h0,h1⟩:=hk.fmem hc
 have hnv:c.no.toNat<X.nf:=by rw [hS.nf];omega
 obtain⟨g,hg,hlt,_,hseg⟩:=h.onf.at (by omega)
 refine⟨g,c.no.toNat,hg,hlt,by omega,hnv,h.onf.room.1,fun j u hu=>?_⟩
 have:=hseg _ u (hS.fs c hc j u hu)
 rw [Nat.zero_add]at this
 exact this
set_option maxRecDepth 100000 in
theorem mPlace(base p:Nat)(X:Mx)(S:Ms)(m:Nat)(F:Nat→Prop)(w:World)(h:MeI base p X F w)(hS:MeOk X S)(hk:MsOk S m)(t:Tr)(i:Nat)(hi:i<3)(hv:isV S (t.v i)=true):
  Calls Try.prog 43 #[ptR p,trV t, .int .i64 (i:Int)] w fun e w'=>e= .returned (.tuple #[.agg #[.int .i64 (plX S t i), .int .i64 (plY S t i)], .bool (plOk S t i)])∧Below w.heap.size w w':=by
 obtain⟨a,ha,hav⟩:=isV_iff.1 hv
 obtain⟨g,k,hXa,hg,hak,hkn,hcap,hc⟩:=h.vcell hS hk ha
 have hpos:=pos_of hk.vs ha
 rw [hav]at hpos
 obtain⟨b,hb⟩: ∃ b,b=plOk S t i:=⟨_,rfl⟩
 obtain⟨u,hu⟩: ∃ u,u=plX S t i:=⟨_,rfl⟩
 obtain⟨v,hv'⟩: ∃ v,v=plY S t i:=⟨_,rfl⟩
 rw [←hb,←hu,←hv']
 have HB:Hid (b=atC a.x a.y (t.x i) (t.y i) X.n):=by unfold Hid;rw [hb];unfold plOk;rw [hpos,hS.n]
 have HU:Hid (u=if b then a.x+t.x i*X.n else 0):=by unfold Hid;rw [hu,hb];unfold plX;rw [hpos,hS.n]
 have HV:Hid (v=if b then a.y+t.y i*X.n else 0):=by unfold Hid;rw [hv',hb];unfold plY;rw [hpos,hS.n]
 have hpl:=h.row.lt
 obtain⟨W,hW⟩: ∃ W,W=(w.alloc (.cells (trC t).toArray 65)).alloc (.cells #[.int .i64 0, .int .i64 0] 23):=⟨_,rfl⟩
 have BW:Below w.heap.size w W:=by rw [hW];exact((Below.refl _ _).alloc (Nat.le_refl _) _).alloc (by simp) _
 have zW:W.heap.size=w.heap.size+2:=by rw [hW];simp
 have R0:Row W w.heap.size (trC t):=by rw [hW];exact(Row.new w _ _).alloc _ (by simp)
 have R1:Row W (w.heap.size+1) [.int .i64 0, .int .i64 0]:=by rw [hW];have:=Row.new (w.alloc (.cells (trC t).toArray 65)) [.int .i64 0, .int .i64 0] 23;simpa using this
 have hW':(w.alloc (.cells #[.int .i64 t.v0, .int .i64 t.v1, .int .i64 t.v2, .int .i64 t.x0, .int .i64 t.y0, .int .i64 t.x1, .int .i64 t.y1, .int .i64 t.x2, .int .i64 t.y2] 65)).alloc (.cells #[.int .i64 0, .int .i64 0] 23)=W:=hW.symm
 have q0:=(h.below BW).row.cell 0 _ rfl
 have q3:=(h.below BW).row.cell 3 _ rfl
 have ci:=R0.cell i _ (trC_v t hi)
 have xi:=R0.cell (3+i*2) _ (trC_x t hi)
 have yi:=R0.cell (3+i*2+1) _ (trC_y t hi)
 rw [←hav,hak]at ci
 rw [hXa]at q3
 have v1:=(BW.cell (p:=⟨g,k*5+1,none⟩) hg).trans (hc 1 _ rfl).1
 have v2:=(BW.cell (p:=⟨g,k*5+2,none⟩) hg).trans (hc 2 _ rfl).1
 obtain⟨ax,hax⟩: ∃ v,v=a.x:=⟨_,rfl⟩
 obtain⟨ay,hay⟩: ∃ v,v=a.y:=⟨_,rfl⟩
 obtain⟨tx,htx⟩: ∃ v,v=t.x i:=⟨_,rfl⟩
 obtain⟨ty0,hty⟩: ∃ v,v=t.y i:=⟨_,rfl⟩
 obtain⟨n,hn⟩: ∃ v,v=X.n:=⟨_,rfl⟩
 obtain⟨nv,hnv⟩: ∃ v,v=X.nv:=⟨_,rfl⟩
 obtain⟨ca,hca⟩: ∃ v,v=X.ca:=⟨_,rfl⟩
 rw [←hax]at v1
 rw [←hay]at v2
 rw [←htx]at xi
 rw [←hty]at yi
 rw [←hn]at q0
 rw [←hnv,←hca]at q3
 rw [←hnv]at hkn
 rw [←hax,←hay,←htx,←hty,←hn]at HB
 rw [←hax,←htx,←hn]at HU
 rw [←hay,←hty,←hn]at HV
 have hi':(i:Int)<3:=by omega
 have hk':(k:Int)<(nv:Int):=by omega
 have lA:w.heap.size<w.heap.size+1:=by omega
 have lp:p<w.heap.size+1:=by omega
 have lg:g<w.heap.size+1:=by omega
 clear hW h hS hk hv ha hav hXa hak hcap hc hpos hb hu hv' hax hay htx hty hn hnv hca
 go_enter Try.func43,Try.ntmps43
 go_wp2
 clear hW'
 have HSpl:Hid (∀ w',Below (w.heap.size+1) W w'→(fun w'=>w'.cell? ⟨w.heap.size,i,none⟩=some (.int .i64 (k:Int))∧w'.cell? ⟨w.heap.size,3+i*2,none⟩=some (.int .i64 tx)∧w'.cell? ⟨w.heap.size,3+i*2+1,none⟩=some (.int .i64 ty0)∧w'.cell? ⟨p,0,none⟩=some (.int .i64 n)∧w'.cell? ⟨p,3,none⟩=some (.slice (some ⟨g,0,none⟩) nv ca)∧w'.cell? ⟨g,k*5+1,none⟩=some (.int .i64 ax)∧w'.cell? ⟨g,k*5+2,none⟩=some (.int .i64 ay)∧Below (w.heap.size+1) W w') w'):=by
  unfold Hid
  intro w' hb
  exact⟨(hb.cell (p:=⟨w.heap.size,i,none⟩) lA).trans ci,(hb.cell (p:=⟨w.heap.size,3+i*2,none⟩) lA).trans xi,(hb.cell (p:=⟨w.heap.size,3+i*2+1,none⟩) lA).trans yi,(hb.cell (p:=⟨p,0,none⟩) lp).trans q0,(hb.cell (p:=⟨p,3,none⟩) lp).trans q3,(hb.cell (p:=⟨g,k*5+1,none⟩) lg).trans v1,(hb.cell (p:=⟨g,k*5+2,none⟩) lg).trans v2,hb⟩
 refine wp_region_held_drew (S:=fun w'=>w'.cell? ⟨w.heap.size,i,none⟩=some (.int .i64 (k:Int))∧w'.cell? ⟨w.heap.size,3+i*2,none⟩=some (.int .i64 tx)∧w'.cell? ⟨w.heap.size,3+i*2+1,none⟩=some (.int .i64 ty0)∧w'.cell? ⟨p,0,none⟩=some (.int .i64 n)∧w'.cell? ⟨p,3,none⟩=some (.slice (some ⟨g,0,none⟩) nv ca)∧w'.cell? ⟨g,k*5+1,none⟩=some (.int .i64 ax)∧w'.cell? ⟨g,k*5+2,none⟩=some (.int .i64 ay)∧Below (w.heap.size+1) W w') (by kernel_rfl) ?_ (fun hHeld=>?_)
 ·exact HSpl.out _ ((Below.refl _ _).drew)
 refine tn 0 ?_;refine tn 1 ?_;refine tn 2 ?_;refine tn 3 ?_;refine tn 4 ?_;refine tn 5 ?_;refine tn 6 ?_;refine tn 7 ?_;refine tn 8 ?_;refine tn 9 ?_;refine tn 10 ?_;refine tn 11 ?_;refine tn 12 ?_;refine tn 13 ?_;refine tn 14 ?_;refine tn 15 ?_;refine tn 16 ?_;refine tn 17 ?_;refine tn 18 ?_;refine tn 19 ?_
 simp only [Act.put,ps1,ps2,ps3]
 refine tcl 20 fun Kc hK=>?_
 go_simp
 (go_at_call 33;refine(lAt ax ay tx ty0 n _ HB.out HU.out HV.out).mono ?_;rintro e w2 ⟨rfl,b2⟩)
 refine hK.out _ _ ?_ (fun hHeld=>?_)
 ·exact HSpl.out _ (hHeld.2.2.2.2.2.2.2.trans (b2.mono (Nat.le_trans (by omega) hHeld.2.2.2.2.2.2.2.size)))
 clear hK Kc
 refine tn 21 ?_;refine tn 22 ?_
 simp only [Act.put,ps1,ps2,ps3]
 have z2:W.heap.size≤w2.heap.size:=b2.size
 replace R1:=(show Row W.drew (w.heap.size+1) [.int .i64 0, .int .i64 0]from R1).below b2 (by simp;omega)
 have f0:=R1.free 0 (by simp)
 have f1:=R1.free 1 (by simp)
 have g0:=R1.cell 0 _ rfl
 have g1:=R1.cell 1 _ rfl
 refine tcl 23 fun Kc hK=>?_
 go_simp
 refine hK.out _ _ ?_ (fun hHeld=>?_)
 ·exact HSpl.out _ (((hHeld.2.2.2.2.2.2.2.setCell (by simp;try omega) _).setCell (by simp;try omega) _))
 clear hK Kc
 refine tz (i:=24) rfl ?_
 simp only [Act.put,ps1,ps2,ps3]
 refine wpAnyH_done (by kernel_rfl) ?_ _
 have BF:=hHeld.2.2.2.2.2.2.2
 have R2:=(R1.set 0 (.int .i64 u) (by simp)).set 1 (.int .i64 v) (by simp)
 have h0:=R2.cell 0 _ rfl
 have h1:=R2.cell 1 _ rfl
 go_wp2
 refine bodyPost_ret (v:= .tuple #[.agg #[.int .i64 u, .int .i64 v], .bool b]) (by simp [results,Try.results43,go_sem, *]) rfl ?_
 exact⟨rfl,BW.trans (BF.mono (by omega))⟩
def iv:Value→Int
 | .int _ q=>q
 |_=>0
def EveryPost(J N:Nat→World→Prop)(e:Ending)(w':World):Prop:=(e= .returned (.bool true)∧J 3 w')∨(e= .returned (.bool false)∧ ∃ i,i<3∧N i w')
def AskPost(J N:Nat→World→Prop)(i:Nat)(e:Ending)(w':World):Prop:=(e= .returned (.bool true)∧J (i+1) w')∨(e= .returned (.bool false)∧N i w')
set_option maxRecDepth 100000 in
theorem mEvery(g:Nat)(cb:Array Value)(eg: ∀ args w,(callFunc g args).run Try.prog w= .ok (.enter g args) w)(J N:Nat→World→Prop)(w:World)(h0:J 0 w)
  (hq: ∀ i w,i<3→J i w→Calls Try.prog g (#[.int .i64 (i:Int)]++cb) w (AskPost J N i)):Calls Try.prog 54 #[.func (.func g) #[] cb] w (EveryPost J N):=by
 have HQ:Hid _:=hq
 clear hq
 go_enter Try.func54,Try.ntmps54
 go_wp2
 go_loopw [4] (fun i wr=> ∃ k:Nat,k≤3∧i= .int .i64 (k:Int)∧J k wr) (fun i _=>3- (iv i).toNat)
 case atStart=>exact⟨0,by omega,rfl,h0⟩
 case round=>
  obtain⟨k,hk,rfl,hJ⟩:=hrel
  by_cases hlt:k<3
  ·have hlt':(k:Int)<3:=by omega
   go_wp2_with (go_at_fn g;refine(HQ.out k _ hlt hJ).mono ?_;rintro e w1 (⟨rfl,hj⟩|⟨rfl,hn⟩))
   ·go_wp2
    go_roundw
    case rel=>exact⟨k+1,by omega,by simp,hj⟩
    case measure=>simp [iv];omega
   ·go_wp2
    go_ret
    exact Or.inr ⟨rfl,k,hlt,hn⟩
  ·obtain rfl:k=3:=by omega
   go_wp2
   go_ret
   exact Or.inl ⟨rfl,hJ⟩
end Go.Proofs.Ytaadknpjbogkbaa
namespace Go.Proofs.Ytaadknpjbogkbaa.lw
open Go.RowKit
def hi(v:Int):Int:=(v/18446744073709551616+9223372036854775808) % 18446744073709551616- 9223372036854775808
def lo(v:Int):Int:=v % 18446744073709551616
theorem lo_range(v:Int):0≤lo v∧lo v<18446744073709551616:=by unfold lo;omega
def bor(x y:Int):Int:=if x<y then 1 else 0
theorem bor_range(x y:Int):0≤bor x y∧bor x y≤1:=by unfold bor;split<;>decide
theorem hi_0:(0:Int)=hi 0:=by decide
theorem lo_0:(0:Int)=lo 0:=by decide
theorem sub_lo(a b:Int):(lo a- lo b) % 18446744073709551616=lo (a- b):=by unfold lo;omega
theorem sub_hi(a b:Int):wrap64 ((IntKind.u64.wrap (hi a)- IntKind.u64.wrap (hi b)- bor (lo a) (lo b)) % 18446744073709551616)=hi (a- b):=by
 rw [IntKind.wrap_u64,IntKind.wrap_u64];unfold bor wrap64;split<;>(simp only [hi,lo]at*;omega)
theorem mask32(x:Int)(h0:0≤x)(h1:x<18446744073709551616):bits .and .u64 x 4294967295=x % 4294967296:=by
 obtain⟨n,rfl⟩:=Int.eq_ofNat_of_zero_le h0
 have h:=bits_and_u64_nat n 4294967295 (by omega) (by omega)
 have e:n &&& 4294967295=n % 4294967296:=Nat.and_two_pow_sub_one_eq_mod n 32
 rw [e]at h
 exact h.trans (by omega)
theorem half_mul(a b:Int)(a0:0≤a)(a1:a<4294967296)(b0:0≤b)(b1:b<4294967296):0≤a*b∧a*b≤18446744065119617025:=by
 refine⟨Int.mul_nonneg a0 b0,?_⟩
 have:=Int.mul_le_mul (show a≤4294967295 by omega) (show b≤4294967295 by omega) b0 (by decide)
 omega
theorem school(a b c d:Int):(a*4294967296+b)*(c*4294967296+d)=a*c*18446744073709551616+a*d*4294967296+b*c*4294967296+b*d:=by
 have h1:a*4294967296*(c*4294967296)=a*c*(4294967296*4294967296):=by rw [Int.mul_assoc a,Int.mul_left_comm 4294967296 c,←Int.mul_assoc]
 have h2:a*4294967296*d=a*d*4294967296:=by rw [Int.mul_assoc a,Int.mul_comm 4294967296 d,←Int.mul_assoc]
 have h3:b*(c*4294967296)=b*c*4294967296:=(Int.mul_assoc b c _).symm
 rw [Int.add_mul,Int.mul_add,Int.mul_add,h1,h2,h3]
 omega
theorem mul64_hi(x y:Int)(x0:0≤x)(x1:x<18446744073709551616)(y0:0≤y)(y1:y<18446744073709551616):
  IntKind.u64.wrap (IntKind.u64.wrap (IntKind.u64.wrap (x/4294967296*(y/4294967296))+IntKind.u64.wrap (IntKind.u64.wrap (x/4294967296*bits .and .u64 y 4294967295)+IntKind.u64.wrap (bits .and .u64 x 4294967295*bits .and .u64 y 4294967295)/4294967296)/4294967296)+
   IntKind.u64.wrap (bits .and .u64 (IntKind.u64.wrap (IntKind.u64.wrap (x/4294967296*bits .and .u64 y 4294967295)+IntKind.u64.wrap (bits .and .u64 x 4294967295*bits .and .u64 y 4294967295)/4294967296)) 4294967295+IntKind.u64.wrap (bits .and .u64 x 4294967295*(y/4294967296)))/4294967296)=x*y/18446744073709551616:=by
 rw [mask32 x x0 x1,mask32 y y0 y1,mask32 (IntKind.u64.wrap _) (wrap_u64_nonneg _) (by rw [IntKind.wrap_u64];omega)]
 have e:=school (x/4294967296) (x % 4294967296) (y/4294967296) (y % 4294967296)
 have ex:x/4294967296*4294967296+x % 4294967296=x:=by omega
 have ey:y/4294967296*4294967296+y % 4294967296=y:=by omega
 rw [ex,ey]at e
 rw [e]
 have b1:=half_mul (x/4294967296) (y/4294967296) (by omega) (by omega) (by omega) (by omega)
 have b2:=half_mul (x/4294967296) (y % 4294967296) (by omega) (by omega) (by omega) (by omega)
 have b3:=half_mul (x % 4294967296) (y/4294967296) (by omega) (by omega) (by omega) (by omega)
 have b4:=half_mul (x % 4294967296) (y % 4294967296) (by omega) (by omega) (by omega) (by omega)
 clear e ex ey
 generalize x/4294967296*(y/4294967296)=p1 at*
 generalize x/4294967296*(y % 4294967296)=p2 at*
 generalize x % 4294967296*(y/4294967296)=p3 at*
 generalize x % 4294967296*(y % 4294967296)=p4 at*
 simp only [IntKind.wrap_u64]
 omega
theorem mul_lo(a b:Int):IntKind.u64.wrap a*IntKind.u64.wrap b % 18446744073709551616=lo (a*b):=by
 rw [IntKind.wrap_u64,IntKind.wrap_u64];unfold lo;exact(Int.mul_emod a b _).symm
theorem ret_tup2{k l:IntKind}{a b c d:Int}(h:a=c)(h':b=d):Ending.returned (.tuple #[.int k a, .int l b])= .returned (.tuple #[.int k c, .int l d]):=by rw [h,h']
theorem ret_int{k:IntKind}{a b:Int}(h:a=b):Ending.returned (.int k a)= .returned (.int k b):=by rw [h]
def cmpI(x y:Int):Int:=if x<y then -1 else if y<x then 1 else 0
theorem sub64(x y b:Int)(hx:0≤x)(hy:0≤y)(hy':y<18446744073709551616)(hb0:0≤b)(hb:b≤1)(w:World):(callFunc 74 #[.int .u64 x, .int .u64 y, .int .u64 b]).run Try.prog w=
  .ok (.value (.tuple #[.int .u64 ((x- y- b) % 18446744073709551616), .int .u64 (bor x (y+b))])) w:=by
 obtain⟨x,rfl⟩:=Int.eq_ofNat_of_zero_le hx
 obtain⟨y,rfl⟩:=Int.eq_ofNat_of_zero_le hy
 obtain⟨b,rfl⟩:=Int.eq_ofNat_of_zero_le hb0
 have e1:(((x+18446744073709551616- y- b) % 18446744073709551616:Nat):Int)=((x:Int)- y- b) % 18446744073709551616:=by omega
 have e2:((if x<y+b then 1 else 0:Nat):Int)=bor x (y+b):=by unfold bor;split<;>split<;>omega
 rw [←e1,←e2,run_callFunc_extern Try.func74 (by kernel_rfl) (by kernel_rfl) (by kernel_rfl) (e:=sub64Entry) (by kernel_rfl),run_sub64 x y b (by omega)]
 rfl
theorem sub64_0(x y:Int)(hx:0≤x)(hy:0≤y)(hy':y<18446744073709551616)(w:World):(callFunc 74 #[.int .u64 x, .int .u64 y, .int .u64 0]).run Try.prog w=
  .ok (.value (.tuple #[.int .u64 ((x- y) % 18446744073709551616), .int .u64 (bor x y)])) w:=by
 simpa using sub64 x y 0 hx hy hy' (Int.le_refl 0) (by decide) w
theorem sub_any{ah al bh bl:Int}(a b:Int)(ha:ah=hi a)(hl:al=lo a)(hb:bh=hi b)(hm:bl=lo b)(w:World):
  Calls Try.prog 69 #[.agg #[.int .i64 ah, .int .u64 al], .agg #[.int .i64 bh, .int .u64 bl]] w fun e w'=>
   e= .returned (.agg #[.int .i64 (hi (a- b)), .int .u64 (lo (a- b))])∧Below w.heap.size w w':=by
 subst ha hl hb hm
 obtain⟨a1,a2⟩:=lo_range a;obtain⟨b1,b2⟩:=lo_range b
 obtain⟨k0,k1⟩:=bor_range (lo a) (lo b)
 have k2:=wrap_u64_nonneg (hi a)
 have k3:=wrap_u64_nonneg (hi b)
 have k4:IntKind.u64.wrap (hi b)<18446744073709551616:=by rw [IntKind.wrap_u64];omega
 go_enter Try.func69,Try.ntmps69
 go_wp2_with (first|simp only [sub64_0 (lo a) (lo b) a1 b1 b2]|simp only [sub64 _ _ _ k2 k3 k4 k0 k1])
 refine bodyPost_ret (v:= .agg #[.int .i64 (hi (a- b)), .int .u64 (lo (a- b))]) (by simp [results,Try.results69,go_sem,sub_lo,sub_hi]) rfl ⟨rfl,?_⟩
 exact(((Below.refl _ _).alloc (Nat.le_refl _) _).alloc (by simp) _).alloc (by simp;omega) _
theorem mul64_any(x y:Int)(x0:0≤x)(x1:x<18446744073709551616)(y0:0≤y)(y1:y<18446744073709551616)(w:World):
  Calls Try.prog 75 #[.int .u64 x, .int .u64 y] w fun e w'=>e= .returned (.tuple #[.int .u64 (x*y/18446744073709551616), .int .u64 (x*y % 18446744073709551616)])∧w'=w:=by
 go_enter Try.func75,Try.ntmps75
 go_wp2
 go_ret2
 exact⟨ret_tup2 (mul64_hi x y x0 x1 y0 y1) (IntKind.wrap_u64 _),rfl⟩
theorem cmpI64_any(x y:Int)(w:World):
  Calls Try.prog 67 #[.int .i64 x, .int .i64 y] w fun e w'=>e= .returned (.int .i64 (cmpI x y))∧w'=w:=by
 unfold cmpI
 go_enter Try.func67,Try.ntmps67
 go_wp2
 all_goals (go_ret;exact⟨rfl,rfl⟩)
theorem cmpU64_any(x y:Int)(w:World):
  Calls Try.prog 68 #[.int .u64 x, .int .u64 y] w fun e w'=>e= .returned (.int .i64 (cmpI x y))∧w'=w:=by
 unfold cmpI
 go_enter Try.func68,Try.ntmps68
 go_wp2
 all_goals (go_ret;exact⟨rfl,rfl⟩)
end Go.Proofs.Ytaadknpjbogkbaa.lw
namespace Go.Proofs.Ytaadknpjbogkbaa.lw
open Go.RowKit
set_option linter.unusedVariables false
set_option maxRecDepth 100000
theorem u_neg(a:Int)(h0:a<0)(h1: -9223372036854775808≤a):IntKind.u64.wrap a=a+18446744073709551616:=by rw [IntKind.wrap_u64];omega
theorem mul_pp(a b:Int):wrap64 (a*b/18446744073709551616)=hi (a*b):=by unfold wrap64 hi;omega
theorem mul_np(a b:Int)(a0:a<0)(a1: -9223372036854775808≤a):wrap64 (IntKind.u64.wrap (IntKind.u64.wrap a*b/18446744073709551616- b))=hi (a*b):=by
 rw [u_neg a a0 a1,Int.add_mul,IntKind.wrap_u64];unfold wrap64 hi;omega
theorem mul_pn(a b:Int)(b0:b<0)(b1: -9223372036854775808≤b):wrap64 (IntKind.u64.wrap (a*IntKind.u64.wrap b/18446744073709551616- a))=hi (a*b):=by
 rw [u_neg b b0 b1,Int.mul_add,IntKind.wrap_u64];unfold wrap64 hi;omega
theorem mul_nn(a b:Int)(a0:a<0)(a1: -9223372036854775808≤a)(b0:b<0)(b1: -9223372036854775808≤b):wrap64 (IntKind.u64.wrap (IntKind.u64.wrap (IntKind.u64.wrap a*IntKind.u64.wrap b/18446744073709551616- IntKind.u64.wrap b)- IntKind.u64.wrap a))=hi (a*b):=by
 rw [u_neg a a0 a1,u_neg b b0 b1,Int.add_mul,Int.mul_add,Int.mul_add,IntKind.wrap_u64,IntKind.wrap_u64];unfold wrap64 hi;omega
theorem lo_pp(a b:Int):a*b % 18446744073709551616=lo (a*b):=rfl
theorem lo_np(a b:Int):IntKind.u64.wrap a*b % 18446744073709551616=lo (a*b):=by rw [IntKind.wrap_u64];unfold lo;rw [Int.mul_emod,Int.emod_emod,←Int.mul_emod]
theorem lo_pn(a b:Int):a*IntKind.u64.wrap b % 18446744073709551616=lo (a*b):=by rw [IntKind.wrap_u64];unfold lo;rw [Int.mul_emod,Int.emod_emod,←Int.mul_emod]
theorem mul_any_pp(a b:Int)(a0: -9223372036854775808≤a)(a1:a≤9223372036854775807)(b0: -9223372036854775808≤b)(b1:b≤9223372036854775807)(ha:0≤a)(hb:0≤b)(w:World):
  Calls Try.prog 70 #[.int .i64 a, .int .i64 b] w fun e w'=>e= .returned (.agg #[.int .i64 (hi (a*b)), .int .u64 (lo (a*b))])∧Below w.heap.size w w':=by
 have va:IntKind.u64.wrap a<18446744073709551616:=by rw [IntKind.wrap_u64];omega
 have vb:IntKind.u64.wrap b<18446744073709551616:=by rw [IntKind.wrap_u64];omega
 go_enter Try.func70,Try.ntmps70
 go_wp2_with (go_at_call 75;refine(mul64_any _ _ ha (by omega) hb (by omega) _).mono ?_;rintro e w' ⟨rfl,rfl⟩)
 exact bodyPost_ret (v:= .agg #[.int .i64 (hi (a*b)), .int .u64 (lo (a*b))]) (by simp [results,Try.results70,go_sem,lo_pp,mul_pp]) rfl ⟨rfl,(Below.refl _ _).alloc (Nat.le_refl _) _⟩
theorem mul_any_np(a b:Int)(a0: -9223372036854775808≤a)(a1:a≤9223372036854775807)(b0: -9223372036854775808≤b)(b1:b≤9223372036854775807)(ha:a<0)(hb:0≤b)(w:World):
  Calls Try.prog 70 #[.int .i64 a, .int .i64 b] w fun e w'=>e= .returned (.agg #[.int .i64 (hi (a*b)), .int .u64 (lo (a*b))])∧Below w.heap.size w w':=by
 have va:IntKind.u64.wrap a<18446744073709551616:=by rw [IntKind.wrap_u64];omega
 have vb:IntKind.u64.wrap b<18446744073709551616:=by rw [IntKind.wrap_u64];omega
 go_enter Try.func70,Try.ntmps70
 go_wp2_with (go_at_call 75;refine(mul64_any _ _ (wrap_u64_nonneg a) va hb (by omega) _).mono ?_;rintro e w' ⟨rfl,rfl⟩)
 exact bodyPost_ret (v:= .agg #[.int .i64 (hi (a*b)), .int .u64 (lo (a*b))]) (by simp [results,Try.results70,go_sem,lo_np,mul_np a b ha a0]) rfl ⟨rfl,(Below.refl _ _).alloc (Nat.le_refl _) _⟩
theorem mul_any_pn(a b:Int)(a0: -9223372036854775808≤a)(a1:a≤9223372036854775807)(b0: -9223372036854775808≤b)(b1:b≤9223372036854775807)(ha:0≤a)(hb:b<0)(w:World):
  Calls Try.prog 70 #[.int .i64 a, .int .i64 b] w fun e w'=>e= .returned (.agg #[.int .i64 (hi (a*b)), .int .u64 (lo (a*b))])∧Below w.heap.size w w':=by
 have va:IntKind.u64.wrap a<18446744073709551616:=by rw [IntKind.wrap_u64];omega
 have vb:IntKind.u64.wrap b<18446744073709551616:=by rw [IntKind.wrap_u64];omega
 go_enter Try.func70,Try.ntmps70
 go_wp2_with (go_at_call 75;refine(mul64_any _ _ ha (by omega) (wrap_u64_nonneg b) vb _).mono ?_;rintro e w' ⟨rfl,rfl⟩)
 exact bodyPost_ret (v:= .agg #[.int .i64 (hi (a*b)), .int .u64 (lo (a*b))]) (by simp [results,Try.results70,go_sem,lo_pn,mul_pn a b hb b0]) rfl ⟨rfl,(Below.refl _ _).alloc (Nat.le_refl _) _⟩
theorem mul_any_nn(a b:Int)(a0: -9223372036854775808≤a)(a1:a≤9223372036854775807)(b0: -9223372036854775808≤b)(b1:b≤9223372036854775807)(ha:a<0)(hb:b<0)(w:World):
  Calls Try.prog 70 #[.int .i64 a, .int .i64 b] w fun e w'=>e= .returned (.agg #[.int .i64 (hi (a*b)), .int .u64 (lo (a*b))])∧Below w.heap.size w w':=by
 have va:IntKind.u64.wrap a<18446744073709551616:=by rw [IntKind.wrap_u64];omega
 have vb:IntKind.u64.wrap b<18446744073709551616:=by rw [IntKind.wrap_u64];omega
 go_enter Try.func70,Try.ntmps70
 go_wp2_with (go_at_call 75;refine(mul64_any _ _ (wrap_u64_nonneg a) va (wrap_u64_nonneg b) vb _).mono ?_;rintro e w' ⟨rfl,rfl⟩)
 exact bodyPost_ret (v:= .agg #[.int .i64 (hi (a*b)), .int .u64 (lo (a*b))]) (by simp [results,Try.results70,go_sem,mul_lo,mul_nn a b ha a0 hb b0]) rfl ⟨rfl,(Below.refl _ _).alloc (Nat.le_refl _) _⟩
theorem mul_any(a b:Int)(a0: -9223372036854775808≤a)(a1:a≤9223372036854775807)(b0: -9223372036854775808≤b)(b1:b≤9223372036854775807)(w:World):
  Calls Try.prog 70 #[.int .i64 a, .int .i64 b] w fun e w'=>e= .returned (.agg #[.int .i64 (hi (a*b)), .int .u64 (lo (a*b))])∧Below w.heap.size w w':=by
 rcases Int.lt_or_le a 0 with ha|ha<;>rcases Int.lt_or_le b 0 with hb|hb
 ·exact mul_any_nn a b a0 a1 b0 b1 ha hb w
 ·exact mul_any_np a b a0 a1 b0 b1 ha hb w
 ·exact mul_any_pn a b a0 a1 b0 b1 ha hb w
 ·exact mul_any_pp a b a0 a1 b0 b1 ha hb w
theorem cmp_hi(a b:Int)(a0: -170141183460469231731687303715884105728≤a)(a1:a<170141183460469231731687303715884105728)(b0: -170141183460469231731687303715884105728≤b)(b1:b<170141183460469231731687303715884105728)(h:hi a≠hi b):cmpI (hi a) (hi b)=cmpI a b:=by
 have e:hi a=a/18446744073709551616:=by unfold hi;omega
 have e':hi b=b/18446744073709551616:=by unfold hi;omega
 rw [e,e']at h ⊢;unfold cmpI;split<;>split<;>(try split)<;>(try split)<;>omega
theorem cmp_lo(a b:Int)(a0: -170141183460469231731687303715884105728≤a)(a1:a<170141183460469231731687303715884105728)(b0: -170141183460469231731687303715884105728≤b)(b1:b<170141183460469231731687303715884105728)(h:hi a=hi b):cmpI (lo a) (lo b)=cmpI a b:=by
 have e:hi a=a/18446744073709551616:=by unfold hi;omega
 have e':hi b=b/18446744073709551616:=by unfold hi;omega
 rw [e,e']at h;unfold cmpI lo;split<;>split<;>(try split)<;>(try split)<;>omega
theorem cmp_any{ah al bh bl:Int}(a b:Int)(ha:ah=hi a)(hl:al=lo a)(hb:bh=hi b)(hm:bl=lo b)(a0: -170141183460469231731687303715884105728≤a)(a1:a<170141183460469231731687303715884105728)(b0: -170141183460469231731687303715884105728≤b)(b1:b<170141183460469231731687303715884105728)(w:World):
  Calls Try.prog 61 #[.agg #[.int .i64 ah, .int .u64 al], .agg #[.int .i64 bh, .int .u64 bl]] w fun e w'=>e= .returned (.int .i64 (cmpI a b))∧Below w.heap.size w w':=by
 subst ha hl hb hm
 by_cases g:hi a=hi b
 ·have E:Hid _:=cmp_lo a b a0 a1 b0 b1 g
  have g':(hi a==hi b)=true:=by simpa using g
  clear g
  go_enter Try.func61,Try.ntmps61
  go_wp2_with (go_at_call 68;refine(cmpU64_any _ _ _).mono ?_;rintro e w' ⟨rfl,rfl⟩)
  go_ret
  exact⟨ret_int E.out,((Below.refl _ _).alloc (Nat.le_refl _) _).alloc (by simp) _⟩
 ·have E:Hid _:=cmp_hi a b a0 a1 b0 b1 g
  have g':(hi a==hi b)=false:=by simpa using g
  clear g
  go_enter Try.func61,Try.ntmps61
  go_wp2_with (go_at_call 67;refine(cmpI64_any _ _ _).mono ?_;rintro e w' ⟨rfl,rfl⟩)
  go_ret
  exact⟨ret_int E.out,((Below.refl _ _).alloc (Nat.le_refl _) _).alloc (by simp) _⟩
theorem sign_any{ah al:Int}(a:Int)(ha:ah=hi a)(hl:al=lo a)(a0: -170141183460469231731687303715884105728≤a)(a1:a<170141183460469231731687303715884105728)(w:World):
  Calls Try.prog 46 #[.agg #[.int .i64 ah, .int .u64 al]] w fun e w'=>e= .returned (.int .i64 (cmpI a 0))∧Below w.heap.size w w':=by
 subst ha hl
 go_enter Try.func46,Try.ntmps46
 go_wp2_with (go_at_call 61;refine(cmp_any a 0 rfl rfl hi_0 lo_0 a0 a1 (by decide) (by decide) _).mono ?_;rintro e w' ⟨rfl,hb⟩)
 go_ret
 exact⟨rfl,((Below.refl _ _).alloc (Nat.le_refl _) _).trans (hb.mono (by simp))⟩
end Go.Proofs.Ytaadknpjbogkbaa.lw
namespace Go.Proofs.Ytaadknpjbogkbaa
open Go.RowKit
set_option linter.unusedVariables false
def pcells:List (Int×Int)→List Value
 | []=> []
 |p::l=> .int .i64 p.1:: .int .i64 p.2::pcells l
theorem pcells_at: ∀ (L:List (Int×Int)) (k:Nat) (x y:Int),L[k]? =some (x,y)→(pcells L)[k*2]? =some (.int .i64 x)∧(pcells L)[k*2+1]? =some (.int .i64 y)
 | [],k,x,y,h=>by simp at h
 |p::l,0,x,y,h=>by simp at h;subst h;exact⟨rfl,rfl⟩
 |p::l,k+1,x,y,h=>by
  have h':l[k]? =some (x,y):=by simpa using h
  have:=pcells_at l k x y h'
  have e1:(k+1)*2=k*2+1+1:=by omega
  rw [e1]
  exact⟨this.1,this.2⟩
def canAll(L:List (Int×Int)):Bool:=L.all fun p=>canC p.1 p.2
theorem canAll_cons(p:Int×Int)(L:List (Int×Int)):canAll (p::L)=(canC p.1 p.2 && canAll L):=rfl
theorem canAll_drop{L:List (Int×Int)}{k:Nat}{x y:Int}(h:L[k]? =some (x,y)):canAll (L.drop k)=(canC x y && canAll (L.drop (k+1))):=by
 obtain⟨hk,he⟩:=List.getElem?_eq_some_iff.1 h
 rw [List.drop_eq_getElem_cons hk,he]
 rfl
theorem lw_sign(x:Int):lw.cmpI x 0=x.sign:=cmp_sign x
set_option maxRecDepth 100000 in
theorem pcan(L:List (Int×Int))(n b:Nat)(w:World)(hn:n=L.length)(hs:n≤1000)(hr:Row w b (pcells L))(hb:b<w.heap.size){r:Bool}(hres:r=canAll L):Calls Try.prog 62 #[.slice (some ⟨b,0,none⟩) n n] w fun e w'=>e= .returned (.bool r)∧Below w.heap.size w w':=by
 subst hn
 have HR:Hid _:=hres
 clear hres
 go_enter Try.func62,Try.ntmps62
 go_wp2
 go_loopw [7] (fun i wr=> ∃ k:Nat,k≤L.length∧i= .int .i64 (k:Int)∧canAll L=canAll (L.drop k)∧Below w.heap.size w wr) (fun i _=>L.length- (RowKit.intOf i).toNat)
 case atStart=>exact⟨0,by omega,rfl,rfl,Below.refl _ _⟩
 case round=>
  obtain⟨k,hk,rfl,hd,bel⟩:=hrel
  by_cases hlt:k<L.length
  ·obtain⟨x,y,hxy⟩: ∃ x y,L[k]? =some (x,y):=⟨L[k].1,L[k].2,by rw [List.getElem?_eq_getElem hlt]⟩
   obtain⟨c1,c2⟩:=pcells_at L k x y hxy
   have hr':=hr.below bel hb
   have q1:=hr'.cell _ _ c1
   have q2:=hr'.cell _ _ c2
   rw [canAll_drop hxy]at hd
   have HD:Hid _:=hd
   clear hr hr' hxy c1 c2 hd
   obtain⟨V,hV,bV,x_p,sV⟩:=bs_2 wr (.int .i64 x) (.int .i64 y) 23
   cases hc:canC x y
   ·go_wp2_with (go_at_call 16;fail)
    rw [←hV]
    clear hV
    refine(lCan x y V hc.symm).mono ?_
    rintro e w1 ⟨rfl,b1⟩
    go_wp2
    go_ret
    exact⟨by rw [HR.out,HD.out,hc];rfl,also (also bel bV) b1⟩
   ·go_wp2_with (go_at_call 16;fail)
    rw [←hV]
    clear hV
    refine(lCan x y V hc.symm).mono ?_
    rintro e w1 ⟨rfl,b1⟩
    have hw:wrap64 ((k:Int)+1)=(k:Int)+1:=wrap_in (by omega) (by omega)
    go_wp2
    go_roundw
    case rel=>exact⟨k+1,by omega,by simp,by rw [HD.out,hc];rfl,also (also bel bV) b1⟩
    case measure=>simp [RowKit.intOf];omega
  ·obtain rfl:k=L.length:=by omega
   go_wp2
   go_ret
   exact⟨by rw [HR.out,hd,List.drop_length];rfl,bel⟩
theorem can3{a1 a2 b1 b2 c1 c2:Int}:canAll [(a1,a2),(b1,b2),(c1,c2)]=true↔(canC a1 a2=true∧canC b1 b2=true∧canC c1 c2=true):=by simp [canAll]
theorem can_sub{x y:Int}(hx:inC x=true)(hy:inC y=true):wrap64 (x- y)=x- y∧ -9223372036854775808≤x- y∧x- y≤9223372036854775807:=by
 have h:=can_diff hx hy
 exact⟨wrap_in (by omega) (by omega),by omega,by omega⟩
def arP(a1 a2 b1 b2 c1 c2:Int):Int:=if canAll [(a1,a2),(b1,b2),(c1,c2)]then areaP a1 a2 b1 b2 c1 c2 else 0
theorem area_wide{a1 a2 b1 b2 c1 c2:Int}(ha:canC a1 a2=true)(hb:canC b1 b2=true)(hc:canC c1 c2=true): -10000000000000000000000000≤areaP a1 a2 b1 b2 c1 c2∧areaP a1 a2 b1 b2 c1 c2≤10000000000000000000000000:=by
 have h:=area_abs (D:=2199023255552) (can_diff (canC_true.1 hb).1 (canC_true.1 ha).1) (can_diff (canC_true.1 hb).2 (canC_true.1 ha).2) (can_diff (canC_true.1 hc).1 (canC_true.1 ha).1) (can_diff (canC_true.1 hc).2 (canC_true.1 ha).2)
 omega
theorem ar_wide(a1 a2 b1 b2 c1 c2:Int): -10000000000000000000000000≤arP a1 a2 b1 b2 c1 c2∧arP a1 a2 b1 b2 c1 c2≤10000000000000000000000000:=by
 unfold arP
 cases h:canAll [(a1,a2),(b1,b2),(c1,c2)]
 ·exact⟨by simp,by simp⟩
 ·obtain⟨h1,h2,h3⟩:=can3.1 h
  exact area_wide h1 h2 h3
set_option maxRecDepth 100000 in
set_option maxHeartbeats 4000000 in
theorem parea(a1 a2 b1 b2 c1 c2:Int)(w:World)(ha:canC a1 a2=true)(hb:canC b1 b2=true)(hc:canC c1 c2=true){u v:Int}(hu:u=lw.hi (areaP a1 a2 b1 b2 c1 c2))(hv:v=lw.lo (areaP a1 a2 b1 b2 c1 c2)):
  Calls Try.prog 63 #[.agg #[.int .i64 a1, .int .i64 a2], .agg #[.int .i64 b1, .int .i64 b2], .agg #[.int .i64 c1, .int .i64 c2]] w fun e w'=>e= .returned (.agg #[.int .i64 u, .int .u64 v])∧Below w.heap.size w w':=by
 obtain⟨x,hx⟩: ∃ x,x=b1- a1:=⟨_,rfl⟩
 have c_x:=can_sub (canC_true.1 hb).1 (canC_true.1 ha).1
 rw [←hx]at c_x
 have w_x:wrap64 (b1- a1)=x:=by rw [←hx];exact c_x.1
 have v_x:IntKind.i64.wrap (b1- a1)=x:=(wrap_i64 _).trans w_x
 have R_x:Hid _:=c_x.2
 have E_x:Hid _:=hx
 clear c_x hx
 obtain⟨y,hy⟩: ∃ y,y=c2- a2:=⟨_,rfl⟩
 have c_y:=can_sub (canC_true.1 hc).2 (canC_true.1 ha).2
 rw [←hy]at c_y
 have w_y:wrap64 (c2- a2)=y:=by rw [←hy];exact c_y.1
 have v_y:IntKind.i64.wrap (c2- a2)=y:=(wrap_i64 _).trans w_y
 have R_y:Hid _:=c_y.2
 have E_y:Hid _:=hy
 clear c_y hy
 obtain⟨z,hz⟩: ∃ z,z=b2- a2:=⟨_,rfl⟩
 have c_z:=can_sub (canC_true.1 hb).2 (canC_true.1 ha).2
 rw [←hz]at c_z
 have w_z:wrap64 (b2- a2)=z:=by rw [←hz];exact c_z.1
 have v_z:IntKind.i64.wrap (b2- a2)=z:=(wrap_i64 _).trans w_z
 have R_z:Hid _:=c_z.2
 have E_z:Hid _:=hz
 clear c_z hz
 obtain⟨t,ht⟩: ∃ t,t=c1- a1:=⟨_,rfl⟩
 have c_t:=can_sub (canC_true.1 hc).1 (canC_true.1 ha).1
 rw [←ht]at c_t
 have w_t:wrap64 (c1- a1)=t:=by rw [←ht];exact c_t.1
 have v_t:IntKind.i64.wrap (c1- a1)=t:=(wrap_i64 _).trans w_t
 have R_t:Hid _:=c_t.2
 have E_t:Hid _:=ht
 clear c_t ht
 have HU:Hid (u=lw.hi (x*y- z*t)):=by unfold Hid;rw [hu,E_x.out,E_y.out,E_z.out,E_t.out];rfl
 have HV:Hid (v=lw.lo (x*y- z*t)):=by unfold Hid;rw [hv,E_x.out,E_y.out,E_z.out,E_t.out];rfl
 clear hu hv ha hb hc
 obtain⟨W,hW,bW,x_a,x_b,x_c,x_r,sW⟩:=bs_2222 w (.int .i64 a1) (.int .i64 a2) (.int .i64 b1) (.int .i64 b2) (.int .i64 c1) (.int .i64 c2) (.int .i64 0) (.int .u64 0) 23 23 23 116
 have zbW:=bW.size
 have BB:=bW
 go_enter Try.func63,Try.ntmps63
 go_wp2
 rw [←hW]
 clear hW
 have dd1:Below W.heap.size W W.drew:=(Below.refl _ _).drew
 have zdd1:=dd1.size
 replace BB:=also BB dd1
 replace x_a:=x_a.on dd1
 replace x_b:=x_b.on dd1
 replace x_c:=x_c.on dd1
 replace x_r:=x_r.on dd1
 refine wp_region_held_drew (S:=(fun w'=>w'.cell? ⟨w.heap.size,0,none⟩=some (.int .i64 a1)∧w'.cell? ⟨w.heap.size,1,none⟩=some (.int .i64 a2)∧w'.cell? ⟨w.heap.size+1,0,none⟩=some (.int .i64 b1)∧w'.cell? ⟨w.heap.size+1,1,none⟩=some (.int .i64 b2)∧w'.cell? ⟨w.heap.size+1+1,0,none⟩=some (.int .i64 c1)∧w'.cell? ⟨w.heap.size+1+1,1,none⟩=some (.int .i64 c2)∧Below w.heap.size w w')) (by kernel_rfl) ?_ (fun hHeld=>?_)
 ·exact⟨x_a.c0,x_a.c1,x_b.c0,x_b.c1,x_c.c0,x_c.c1,BB⟩
 refine tn 0 ?_;refine tn 1 ?_;refine tn 2 ?_;refine tn 3 ?_;refine tn 4 ?_;refine tn 5 ?_;refine tn 6 ?_;refine tn 7 ?_;refine tn 8 ?_;refine tn 9 ?_;refine tn 11 ?_;refine tn 12 ?_;refine tn 13 ?_;refine tn 14 ?_;refine tn 15 ?_;refine tn 16 ?_;refine tn 17 ?_;refine tn 18 ?_;refine tn 19 ?_;refine tn 20 ?_
 simp only [Act.put,ps1,ps2,ps3]
 refine tcl 10 fun Kc hK=>?_
 go_simp
 (go_at_call 70;refine(lw.mul_any x y R_x.out.1 R_x.out.2 R_y.out.1 R_y.out.2 _).mono ?_;rintro e w1 ⟨rfl,bw1⟩)
 refine hK.out _ _ ?_ (fun hHeld=>?_)
 ·exact⟨cell_on bw1 hHeld.1,cell_on bw1 hHeld.2.1,cell_on bw1 hHeld.2.2.1,cell_on bw1 hHeld.2.2.2.1,cell_on bw1 hHeld.2.2.2.2.1,cell_on bw1 hHeld.2.2.2.2.2.1,also hHeld.2.2.2.2.2.2 bw1⟩
 clear hK Kc
 have zbw1:=bw1.size
 replace BB:=also BB bw1
 replace x_a:=x_a.on bw1
 replace x_b:=x_b.on bw1
 replace x_c:=x_c.on bw1
 replace x_r:=x_r.on bw1
 refine tcl 21 fun Kc hK=>?_
 go_simp
 (go_at_call 70;refine(lw.mul_any z t R_z.out.1 R_z.out.2 R_t.out.1 R_t.out.2 _).mono ?_;rintro e w2 ⟨rfl,bw2⟩)
 refine hK.out _ _ ?_ (fun hHeld=>?_)
 ·exact⟨cell_on bw2 hHeld.1,cell_on bw2 hHeld.2.1,cell_on bw2 hHeld.2.2.1,cell_on bw2 hHeld.2.2.2.1,cell_on bw2 hHeld.2.2.2.2.1,cell_on bw2 hHeld.2.2.2.2.2.1,also hHeld.2.2.2.2.2.2 bw2⟩
 clear hK Kc
 have zbw2:=bw2.size
 replace BB:=also BB bw2
 replace x_a:=x_a.on bw2
 replace x_b:=x_b.on bw2
 replace x_c:=x_c.on bw2
 replace x_r:=x_r.on bw2
 refine tcl 22 fun Kc hK=>?_
 go_simp
 (go_at_call 69;refine(lw.sub_any (x*y) (z*t) rfl rfl rfl rfl _).mono ?_;rintro e w3 ⟨rfl,bw3⟩)
 refine hK.out _ _ ?_ (fun hHeld=>?_)
 ·exact⟨cell_on bw3 hHeld.1,cell_on bw3 hHeld.2.1,cell_on bw3 hHeld.2.2.1,cell_on bw3 hHeld.2.2.2.1,cell_on bw3 hHeld.2.2.2.2.1,cell_on bw3 hHeld.2.2.2.2.2.1,also hHeld.2.2.2.2.2.2 bw3⟩
 clear hK Kc
 have zbw3:=bw3.size
 replace BB:=also BB bw3
 replace x_a:=x_a.on bw3
 replace x_b:=x_b.on bw3
 replace x_c:=x_c.on bw3
 replace x_r:=x_r.on bw3
 have⟨x_r_0,x_r_1,x_r_2,x_r_3⟩:=x_r
 refine tcl 23 fun Kc hK=>?_
 go_simp
 refine hK.out _ _ ?_ (fun hHeld=>?_)
 ·first|exact⟨cell_put2 hHeld.1 (by omega) _ _,cell_put2 hHeld.2.1 (by omega) _ _,cell_put2 hHeld.2.2.1 (by omega) _ _,cell_put2 hHeld.2.2.2.1 (by omega) _ _,cell_put2 hHeld.2.2.2.2.1 (by omega) _ _,cell_put2 hHeld.2.2.2.2.2.1 (by omega) _ _,below_put2 hHeld.2.2.2.2.2.2 (by omega) _ _⟩|exact⟨x_a.c0,x_a.c1,x_b.c0,x_b.c1,x_c.c0,x_c.c1,BB⟩
 clear hK Kc
 refine wpAnyH_done (by kernel_rfl) ?_ _
 go_wp2
 exact bodyPost_ret (v:= .agg #[.int .i64 (lw.hi (x*y- z*t)), .int .u64 (lw.lo (x*y- z*t))]) (by simp [results,Try.results63,go_sem, *]) rfl (⟨by rw [HU.out,HV.out],below_put2 BB (by omega) _ _⟩)
set_option maxRecDepth 100000 in
set_option maxHeartbeats 4000000 in
theorem pArea(a1 a2 b1 b2 c1 c2:Int)(w:World){u v:Int}(hu:u=lw.hi (arP a1 a2 b1 b2 c1 c2))(hv:v=lw.lo (arP a1 a2 b1 b2 c1 c2)):
  Calls Try.prog 47 #[.agg #[.int .i64 a1, .int .i64 a2], .agg #[.int .i64 b1, .int .i64 b2], .agg #[.int .i64 c1, .int .i64 c2]] w fun e w'=>e= .returned (.agg #[.int .i64 u, .int .u64 v])∧Below w.heap.size w w':=by
 cases hq:canAll [(a1,a2),(b1,b2),(c1,c2)]
 ·skip
  obtain rfl:u=0:=by rw [hu];unfold arP;rw [hq];rfl
  obtain rfl:v=0:=by rw [hv];unfold arP;rw [hq];rfl
  clear hu hv
  have HQ:Hid _:=hq
  clear hq
  obtain⟨W,hW,bW,x_a,x_b,x_c,x_r,sW⟩:=bs_2222 w (.int .i64 a1) (.int .i64 a2) (.int .i64 b1) (.int .i64 b2) (.int .i64 c1) (.int .i64 c2) (.int .i64 0) (.int .u64 0) 23 23 23 116
  have zbW:=bW.size
  have BB:=bW
  go_enter Try.func47,Try.ntmps47
  go_wp2_with (go_at_call 62;fail)
  have eV:W.heap.size=w.heap.size+1+1+1+1:=by rw [hW];simp
  rw [←hW]
  clear hW
  obtain⟨V,hV⟩: ∃ V,V=(W.alloc (.cells #[.int .i64 a1, .int .i64 a2, .int .i64 b1, .int .i64 b2, .int .i64 c1, .int .i64 c2] 23)):=⟨_,rfl⟩
  rw [←hV]
  have bV:Below W.heap.size W V:=by rw [hV];exact(Below.refl _ _).alloc (Nat.le_refl _) _
  have rV:Row V W.heap.size [.int .i64 a1, .int .i64 a2, .int .i64 b1, .int .i64 b2, .int .i64 c1, .int .i64 c2]:=by rw [hV];exact Row.new _ _ _
  have lV:W.heap.size<V.heap.size:=by rw [hV];simp
  clear hV
  rw [eV]at rV lV
  have zbV:=bV.size
  replace BB:=also BB bV
  replace x_a:=x_a.on bV
  replace x_b:=x_b.on bV
  replace x_c:=x_c.on bV
  replace x_r:=x_r.on bV
  refine(pcan [(a1,a2),(b1,b2),(c1,c2)] 3 _ V rfl (by decide) rV lV HQ.out.symm).mono ?_
  rintro e w1 ⟨rfl,bw1⟩
  have zbw1:=bw1.size
  replace BB:=also BB bw1
  replace x_a:=x_a.on bw1
  replace x_b:=x_b.on bw1
  replace x_c:=x_c.on bw1
  replace x_r:=x_r.on bw1
  have⟨x_a_0,x_a_1,x_a_2,x_a_3⟩:=x_a
  have⟨x_b_0,x_b_1,x_b_2,x_b_3⟩:=x_b
  have⟨x_c_0,x_c_1,x_c_2,x_c_3⟩:=x_c
  have⟨x_r_0,x_r_1,x_r_2,x_r_3⟩:=x_r
  go_wp2
  exact bodyPost_ret (v:= .agg #[.int .i64 0, .int .u64 0]) (by simp [results,Try.results47,go_sem, *]) rfl (⟨rfl,below_put2 BB (by omega) _ _⟩)
 ·skip
  obtain⟨ha,hb,hc⟩:=can3.1 hq
  have HU:Hid (u=lw.hi (areaP a1 a2 b1 b2 c1 c2)):=by unfold Hid;rw [hu];unfold arP;rw [hq];rfl
  have HV:Hid (v=lw.lo (areaP a1 a2 b1 b2 c1 c2)):=by unfold Hid;rw [hv];unfold arP;rw [hq];rfl
  clear hu hv
  have HQ:Hid _:=hq
  clear hq
  obtain⟨W,hW,bW,x_a,x_b,x_c,x_r,sW⟩:=bs_2222 w (.int .i64 a1) (.int .i64 a2) (.int .i64 b1) (.int .i64 b2) (.int .i64 c1) (.int .i64 c2) (.int .i64 0) (.int .u64 0) 23 23 23 116
  have zbW:=bW.size
  have BB:=bW
  go_enter Try.func47,Try.ntmps47
  go_wp2_with (go_at_call 62;fail)
  have eV:W.heap.size=w.heap.size+1+1+1+1:=by rw [hW];simp
  rw [←hW]
  clear hW
  obtain⟨V,hV⟩: ∃ V,V=(W.alloc (.cells #[.int .i64 a1, .int .i64 a2, .int .i64 b1, .int .i64 b2, .int .i64 c1, .int .i64 c2] 23)):=⟨_,rfl⟩
  rw [←hV]
  have bV:Below W.heap.size W V:=by rw [hV];exact(Below.refl _ _).alloc (Nat.le_refl _) _
  have rV:Row V W.heap.size [.int .i64 a1, .int .i64 a2, .int .i64 b1, .int .i64 b2, .int .i64 c1, .int .i64 c2]:=by rw [hV];exact Row.new _ _ _
  have lV:W.heap.size<V.heap.size:=by rw [hV];simp
  clear hV
  rw [eV]at rV lV
  have zbV:=bV.size
  replace BB:=also BB bV
  replace x_a:=x_a.on bV
  replace x_b:=x_b.on bV
  replace x_c:=x_c.on bV
  replace x_r:=x_r.on bV
  refine(pcan [(a1,a2),(b1,b2),(c1,c2)] 3 _ V rfl (by decide) rV lV HQ.out.symm).mono ?_
  rintro e w1 ⟨rfl,bw1⟩
  have zbw1:=bw1.size
  replace BB:=also BB bw1
  replace x_a:=x_a.on bw1
  replace x_b:=x_b.on bw1
  replace x_c:=x_c.on bw1
  replace x_r:=x_r.on bw1
  have⟨x_a_0,x_a_1,x_a_2,x_a_3⟩:=x_a
  have⟨x_b_0,x_b_1,x_b_2,x_b_3⟩:=x_b
  have⟨x_c_0,x_c_1,x_c_2,x_c_3⟩:=x_c
  have⟨x_r_0,x_r_1,x_r_2,x_r_3⟩:=x_r
  go_wp2_with (go_at_call 63;fail)
  refine(parea a1 a2 b1 b2 c1 c2 w1 ha hb hc HU.out HV.out).mono ?_
  rintro e w2 ⟨rfl,bw2⟩
  clear x_a_0 x_a_1 x_a_2 x_a_3 x_b_0 x_b_1 x_b_2 x_b_3 x_c_0 x_c_1 x_c_2 x_c_3 x_r_0 x_r_1 x_r_2 x_r_3
  have zbw2:=bw2.size
  replace BB:=also BB bw2
  replace x_a:=x_a.on bw2
  replace x_b:=x_b.on bw2
  replace x_c:=x_c.on bw2
  replace x_r:=x_r.on bw2
  have⟨x_r_0,x_r_1,x_r_2,x_r_3⟩:=x_r
  go_wp2
  exact bodyPost_ret (v:= .agg #[.int .i64 u, .int .u64 v]) (by simp [results,Try.results47,go_sem, *]) rfl (⟨rfl,below_put2 BB (by omega) _ _⟩)
set_option maxRecDepth 100000 in
set_option maxHeartbeats 4000000 in
theorem pturn(a1 a2 b1 b2 c1 c2:Int)(w:World)(ha:canC a1 a2=true)(hb:canC b1 b2=true)(hc:canC c1 c2=true){g:Int}(hg:g=(areaP a1 a2 b1 b2 c1 c2).sign):
  Calls Try.prog 64 #[.agg #[.int .i64 a1, .int .i64 a2], .agg #[.int .i64 b1, .int .i64 b2], .agg #[.int .i64 c1, .int .i64 c2]] w fun e w'=>e= .returned (.int .i64 g)∧Below w.heap.size w w':=by
 have hw:=area_wide ha hb hc
 have HW:Hid (-170141183460469231731687303715884105728≤areaP a1 a2 b1 b2 c1 c2∧areaP a1 a2 b1 b2 c1 c2<170141183460469231731687303715884105728):=⟨by omega,by omega⟩
 clear hw
 rw [←lw_sign]at hg
 have HG:Hid _:=hg
 clear hg
 obtain⟨u,hu⟩: ∃ u,u=lw.hi (areaP a1 a2 b1 b2 c1 c2):=⟨_,rfl⟩
 obtain⟨v,hv⟩: ∃ v,v=lw.lo (areaP a1 a2 b1 b2 c1 c2):=⟨_,rfl⟩
 have HU:Hid _:=hu
 have HV:Hid _:=hv
 clear hu hv
 obtain⟨W,hW,bW,x_a,x_b,x_c,sW⟩:=bs_222 w (.int .i64 a1) (.int .i64 a2) (.int .i64 b1) (.int .i64 b2) (.int .i64 c1) (.int .i64 c2) 23 23 23
 have zbW:=bW.size
 have BB:=bW
 go_enter Try.func64,Try.ntmps64
 go_wp2_with (go_at_call 63;fail)
 rw [←hW]
 clear hW
 refine(parea a1 a2 b1 b2 c1 c2 W ha hb hc HU.out HV.out).mono ?_
 rintro e w1 ⟨rfl,bw1⟩
 have zbw1:=bw1.size
 replace BB:=also BB bw1
 replace x_a:=x_a.on bw1
 replace x_b:=x_b.on bw1
 replace x_c:=x_c.on bw1
 go_wp2_with (go_at_call 46;fail)
 refine(lw.sign_any (areaP a1 a2 b1 b2 c1 c2) HU.out HV.out HW.out.1 HW.out.2 w1).mono ?_
 rintro e w2 ⟨rfl,bw2⟩
 have zbw2:=bw2.size
 replace BB:=also BB bw2
 replace x_a:=x_a.on bw2
 replace x_b:=x_b.on bw2
 replace x_c:=x_c.on bw2
 go_wp2
 go_ret
 exact⟨by rw [HG.out];rfl,BB⟩
set_option maxRecDepth 100000 in
set_option maxHeartbeats 4000000 in
theorem pOrient(a1 a2 b1 b2 c1 c2:Int)(w:World){g:Int}(hg:g=(arP a1 a2 b1 b2 c1 c2).sign):
  Calls Try.prog 34 #[.agg #[.int .i64 a1, .int .i64 a2], .agg #[.int .i64 b1, .int .i64 b2], .agg #[.int .i64 c1, .int .i64 c2]] w fun e w'=>e= .returned (.int .i64 g)∧Below w.heap.size w w':=by
 have hw:=ar_wide a1 a2 b1 b2 c1 c2
 have HW:Hid (-170141183460469231731687303715884105728≤arP a1 a2 b1 b2 c1 c2∧arP a1 a2 b1 b2 c1 c2<170141183460469231731687303715884105728):=⟨by omega,by omega⟩
 clear hw
 rw [←lw_sign]at hg
 have HG:Hid _:=hg
 clear hg
 obtain⟨u,hu⟩: ∃ u,u=lw.hi (arP a1 a2 b1 b2 c1 c2):=⟨_,rfl⟩
 obtain⟨v,hv⟩: ∃ v,v=lw.lo (arP a1 a2 b1 b2 c1 c2):=⟨_,rfl⟩
 have HU:Hid _:=hu
 have HV:Hid _:=hv
 clear hu hv
 obtain⟨W,hW,bW,x_a,x_b,x_c,sW⟩:=bs_222 w (.int .i64 a1) (.int .i64 a2) (.int .i64 b1) (.int .i64 b2) (.int .i64 c1) (.int .i64 c2) 23 23 23
 have zbW:=bW.size
 have BB:=bW
 go_enter Try.func34,Try.ntmps34
 go_wp2_with (go_at_call 47;fail)
 rw [←hW]
 clear hW
 refine(pArea a1 a2 b1 b2 c1 c2 W HU.out HV.out).mono ?_
 rintro e w1 ⟨rfl,bw1⟩
 have zbw1:=bw1.size
 replace BB:=also BB bw1
 replace x_a:=x_a.on bw1
 replace x_b:=x_b.on bw1
 replace x_c:=x_c.on bw1
 go_wp2_with (go_at_call 46;fail)
 refine(lw.sign_any (arP a1 a2 b1 b2 c1 c2) HU.out HV.out HW.out.1 HW.out.2 w1).mono ?_
 rintro e w2 ⟨rfl,bw2⟩
 have zbw2:=bw2.size
 replace BB:=also BB bw2
 replace x_a:=x_a.on bw2
 replace x_b:=x_b.on bw2
 replace x_c:=x_c.on bw2
 go_wp2
 go_ret
 exact⟨by rw [HG.out];rfl,BB⟩
end Go.Proofs.Ytaadknpjbogkbaa
