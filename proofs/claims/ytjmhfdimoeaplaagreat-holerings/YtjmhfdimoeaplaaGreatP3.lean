/-
  Joined texts, part 3:
  What package whole's Small answers.
  What package lift's Can, Sum, Less, Cmp answer, and what they call.
  What package lift's At and Home answer, and the laws' own look.
  What zelligeref03's Cmp, Add and Sub answer.
  What zelligeref03's Mul answers.
  What zelligeref03 answers, with letters for the lengths.
  What zelligeref03 answers, with letters for the lengths, apart from all that was there bef
  What zelligeref04's Of, Same, make1, Neg, Add, Sub, Mul and Cmp answer.
  What zelligeref04's Long and Floor answer.
-/
import Derived.Test.YtjmhfdimoeaplaaGreatP1
import Derived.Test.YtjmhfdimoeaplaaGreatP2
import Derived.Shelf.Small.Bits
import Derived.Shelf.Abstract
import Derived.Lib.ItoaNum
import Derived.WalkKit
set_option maxRecDepth 100000
set_option maxHeartbeats 20000000
namespace Go.Proofs.YtjmhfdimoeaplaaGreat
open Go.RowKit
set_option linter.unusedVariables false
def smOk(z:Int):Bool:=decide (-9223372036854775808≤z∧z≤9223372036854775807)
def smV(z:Int):Int:=if smOk z then z else 0
theorem cmpLong_any(x y:Int)(w:World):
  Calls Tryz.prog 138 #[.int .i64 x, .int .i64 y] w fun e w'=>e= .returned (.int .i64 (cmpI x y))∧w=w':=by
 unfold cmpI
 go_enter Tryz.func138,Tryz.ntmps138
 go_wp2
 all_goals (go_ret;exact⟨rfl,rfl⟩)
theorem lCoord(c:Int)(w:World){b:Bool}(hb:b=inC c):Calls Tryz.prog 187 #[.int .i64 c] w fun e w'=>e= .returned (.bool b)∧Below w.heap.size w w':=by
 subst hb
 unfold inC
 go_enter Tryz.func187,Tryz.ntmps187
 go_wp2
 all_goals (go_ret;exact⟨by simp;omega,Below.refl _ _⟩)
theorem lSide(c:Int)(w:World){b:Bool}(hb:b=sideC c):Calls Tryz.prog 130 #[.int .i64 c] w fun e w'=>e= .returned (.bool b)∧Below w.heap.size w w':=by
 subst hb
 unfold sideC
 go_enter Tryz.func130,Tryz.ntmps130
 go_wp2
 all_goals (go_ret;exact⟨by simp;omega,Below.refl _ _⟩)
theorem lReach(i s:Int)(w:World)(hs:sideC s=true){b:Bool}(hb:b=reachC i s):Calls Tryz.prog 164 #[.int .i64 i, .int .i64 s] w fun e w'=>e= .returned (.bool b)∧Below w.heap.size w w':=by
 subst hb
 obtain⟨s1,s2⟩:=sideC_true.1 hs
 have hq:(2199023255552:Int).tdiv s=2199023255552/s:=tdiv_big (by omega)
 have q1:(0:Int)≤2199023255552/s:=Int.ediv_nonneg (by decide) (by omega)
 have q2:(2199023255552:Int)/s≤2199023255552:=Int.ediv_le_self _ (by decide)
 have hs0: ¬s=0:=by omega
 clear hs
 unfold reachC
 generalize (2199023255552:Int)/s=m at hq q1 q2 ⊢
 have hw1:wrap64 m=m:=wrap_in (by omega) (by omega)
 have hw2:wrap64 (-m)= -m:=wrap_in (by omega) (by omega)
 go_enter Tryz.func164,Tryz.ntmps164
 go_wp2
 all_goals (go_ret;exact⟨by simp;omega,Below.refl _ _⟩)
theorem lSum(x y z t:Int)(w:World){u v:Int}(hu:u=wrap64 (x+z))(hv:v=wrap64 (y+t)):Calls Tryz.prog 114 #[.agg #[.int .i64 x, .int .i64 y], .agg #[.int .i64 z, .int .i64 t]] w fun e w'=>e= .returned (.agg #[.int .i64 u, .int .i64 v])∧Below w.heap.size w w':=by
 subst hu hv
 go_enter Tryz.func114,Tryz.ntmps114
 go_wp2
 exact bodyPost_ret (v:= .agg #[.int .i64 (wrap64 (x+z)), .int .i64 (wrap64 (y+t))]) (by simp [results,Tryz.results114,go_sem]) rfl ⟨rfl,(((Below.refl _ _).alloc (Nat.le_refl _) _).alloc (by simp) _).alloc (by simp;omega) _⟩
theorem lLess(x y z t:Int)(w:World){u v:Int}(hu:u=wrap64 (x- z))(hv:v=wrap64 (y- t)):Calls Tryz.prog 151 #[.agg #[.int .i64 x, .int .i64 y], .agg #[.int .i64 z, .int .i64 t]] w fun e w'=>e= .returned (.agg #[.int .i64 u, .int .i64 v])∧Below w.heap.size w w':=by
 subst hu hv
 go_enter Tryz.func151,Tryz.ntmps151
 go_wp2
 exact bodyPost_ret (v:= .agg #[.int .i64 (wrap64 (x- z)), .int .i64 (wrap64 (y- t))]) (by simp [results,Tryz.results151,go_sem]) rfl ⟨rfl,(((Below.refl _ _).alloc (Nat.le_refl _) _).alloc (by simp) _).alloc (by simp;omega) _⟩
theorem lCmp(x y z t:Int)(w:World){g:Int}(hg:g=cmpP x y z t):Calls Tryz.prog 215 #[.agg #[.int .i64 x, .int .i64 y], .agg #[.int .i64 z, .int .i64 t]] w fun e w'=>e= .returned (.int .i64 g)∧Below w.heap.size w w':=by
 subst hg
 unfold cmpP
 by_cases g:x=z
 ·have g':(x==z)=true:=by simpa using g
  rw [if_pos g]
  clear g
  go_enter Tryz.func215,Tryz.ntmps215
  go_wp2_with (go_at_call 138;refine(cmpLong_any y t _).mono ?_;rintro e w' ⟨rfl,hw⟩;subst hw)
  go_ret
  exact⟨rfl,((Below.refl _ _).alloc (Nat.le_refl _) _).alloc (by simp) _⟩
 ·have g':(x==z)=false:=by simpa using g
  rw [if_neg g]
  clear g
  go_enter Tryz.func215,Tryz.ntmps215
  go_wp2_with (go_at_call 138;refine(cmpLong_any x z _).mono ?_;rintro e w' ⟨rfl,hw⟩;subst hw)
  go_ret
  exact⟨rfl,((Below.refl _ _).alloc (Nat.le_refl _) _).alloc (by simp) _⟩
theorem lCan(x y:Int)(w:World){b:Bool}(hb:b=canC x y):Calls Tryz.prog 129 #[.agg #[.int .i64 x, .int .i64 y]] w fun e w'=>e= .returned (.bool b)∧Below w.heap.size w w':=by
 subst hb
 unfold canC
 cases hx:inC x
 ·skip
  obtain⟨W,hW,bW,x_p,sW⟩:=bs_2 w (.int .i64 x) (.int .i64 y) 24
  have zbW:=bW.size
  have BB:=bW
  go_enter Tryz.func129,Tryz.ntmps129
  go_wp2_with (go_at_call 187;fail)
  rw [←hW]
  clear hW
  refine(lCoord x W hx.symm).mono ?_
  rintro e w1 ⟨rfl,bw1⟩
  have zbw1:=bw1.size
  replace BB:=also BB bw1
  replace x_p:=x_p.on bw1
  have⟨x_p_0,x_p_1,x_p_2,x_p_3⟩:=x_p
  go_wp2
  go_ret
  exact⟨by simp,BB⟩
 ·skip
  obtain⟨W,hW,bW,x_p,sW⟩:=bs_2 w (.int .i64 x) (.int .i64 y) 24
  have zbW:=bW.size
  have BB:=bW
  go_enter Tryz.func129,Tryz.ntmps129
  go_wp2_with (go_at_call 187;fail)
  rw [←hW]
  clear hW
  refine(lCoord x W hx.symm).mono ?_
  rintro e w1 ⟨rfl,bw1⟩
  have zbw1:=bw1.size
  replace BB:=also BB bw1
  replace x_p:=x_p.on bw1
  have⟨x_p_0,x_p_1,x_p_2,x_p_3⟩:=x_p
  go_wp2_with (go_at_call 187;fail)
  refine(lCoord y w1 rfl).mono ?_
  rintro e w2 ⟨rfl,bw2⟩
  clear x_p_0 x_p_1 x_p_2 x_p_3
  have zbw2:=bw2.size
  replace BB:=also BB bw2
  replace x_p:=x_p.on bw2
  go_wp2
  go_ret
  exact⟨by simp,BB⟩
theorem at_no_can{x y i k s:Int}(h:canC x y=false):atC x y i k s=false:=by unfold atC;rw [h];simp
theorem at_no_side{x y i k s:Int}(h:sideC s=false):atC x y i k s=false:=by unfold atC;rw [h];rfl
theorem at_no_right{x y i k s:Int}(hs:sideC s=true)(hr:reachC i s=false):atC x y i k s=false:=by
 cases h:atC x y i k s
 ·rfl
 ·obtain⟨_,q1,q2,_⟩:=atC_true.1 h
  have:=reach_in hs (canC_true.1 q1).1 q2
  rw [hr]at this;cases this
theorem at_no_up{x y i k s:Int}(hs:sideC s=true)(hr:reachC k s=false):atC x y i k s=false:=by
 cases h:atC x y i k s
 ·rfl
 ·obtain⟨_,q1,_,q2⟩:=atC_true.1 h
  have:=reach_in hs (canC_true.1 q1).2 q2
  rw [hr]at this;cases this
theorem at_no_there{x y i k s:Int}(h:canC (x+i*s) (y+k*s)=false):atC x y i k s=false:=by unfold atC;unfold canC at h ⊢;rw [h];simp
theorem at_yes{x y i k s:Int}(h1:canC x y=true)(h2:sideC s=true)(h:canC (x+i*s) (y+k*s)=true):atC x y i k s=true:=by unfold atC;unfold canC at h h1 ⊢;rw [h,h1,h2];rfl
theorem lAt(x y i k s:Int)(w:World){u v:Int}{b:Bool}(hb:b=atC x y i k s)(hu:u=if b then x+i*s else 0)(hv:v=if b then y+k*s else 0):
  Calls Tryz.prog 111 #[.agg #[.int .i64 x, .int .i64 y], .agg #[.int .i64 i, .int .i64 k], .int .i64 s] w fun e w'=>e= .returned (.tuple #[.agg #[.int .i64 u, .int .i64 v], .bool b])∧Below w.heap.size w w':=by
 cases hc:canC x y
 ·skip
  have h0:=@at_no_can x y i k s hc
  obtain rfl:b=false:=by rw [hb,h0]
  obtain rfl:u=0:=hu
  obtain rfl:v=0:=hv
  clear hb h0
  obtain⟨W,hW,bW,x_p,x_o,x_z,sW⟩:=bs_222 w (.int .i64 x) (.int .i64 y) (.int .i64 i) (.int .i64 k) (.int .i64 0) (.int .i64 0) 24 28 24
  have zbW:=bW.size
  have BB:=bW
  go_enter Tryz.func111,Tryz.ntmps111
  go_wp2_with (go_at_call 129;fail)
  rw [←hW]
  clear hW
  refine(lCan x y W hc.symm).mono ?_
  rintro e w1 ⟨rfl,bw1⟩
  have zbw1:=bw1.size
  replace BB:=also BB bw1
  replace x_p:=x_p.on bw1
  replace x_o:=x_o.on bw1
  replace x_z:=x_z.on bw1
  have⟨x_p_0,x_p_1,x_p_2,x_p_3⟩:=x_p
  have⟨x_o_0,x_o_1,x_o_2,x_o_3⟩:=x_o
  have⟨x_z_0,x_z_1,x_z_2,x_z_3⟩:=x_z
  go_wp2
  exact bodyPost_ret (v:= .tuple #[.agg #[.int .i64 0, .int .i64 0], .bool false]) (by simp [results,Tryz.results111,go_sem, *]) rfl (⟨rfl,below_put2 BB (by omega) _ _⟩)
 ·skip
  cases hs:sideC s
  ·skip
   have h0:=@at_no_side x y i k s hs
   obtain rfl:b=false:=by rw [hb,h0]
   obtain rfl:u=0:=hu
   obtain rfl:v=0:=hv
   clear hb h0
   obtain⟨W,hW,bW,x_p,x_o,x_z,sW⟩:=bs_222 w (.int .i64 x) (.int .i64 y) (.int .i64 i) (.int .i64 k) (.int .i64 0) (.int .i64 0) 24 28 24
   have zbW:=bW.size
   have BB:=bW
   go_enter Tryz.func111,Tryz.ntmps111
   go_wp2_with (go_at_call 129;fail)
   rw [←hW]
   clear hW
   refine(lCan x y W hc.symm).mono ?_
   rintro e w1 ⟨rfl,bw1⟩
   have zbw1:=bw1.size
   replace BB:=also BB bw1
   replace x_p:=x_p.on bw1
   replace x_o:=x_o.on bw1
   replace x_z:=x_z.on bw1
   have⟨x_p_0,x_p_1,x_p_2,x_p_3⟩:=x_p
   have⟨x_o_0,x_o_1,x_o_2,x_o_3⟩:=x_o
   have⟨x_z_0,x_z_1,x_z_2,x_z_3⟩:=x_z
   go_wp2_with (go_at_call 130;fail)
   refine(lSide s w1 hs.symm).mono ?_
   rintro e w2 ⟨rfl,bw2⟩
   clear x_p_0 x_p_1 x_p_2 x_p_3 x_o_0 x_o_1 x_o_2 x_o_3 x_z_0 x_z_1 x_z_2 x_z_3
   have zbw2:=bw2.size
   replace BB:=also BB bw2
   replace x_p:=x_p.on bw2
   replace x_o:=x_o.on bw2
   replace x_z:=x_z.on bw2
   have⟨x_p_0,x_p_1,x_p_2,x_p_3⟩:=x_p
   have⟨x_o_0,x_o_1,x_o_2,x_o_3⟩:=x_o
   have⟨x_z_0,x_z_1,x_z_2,x_z_3⟩:=x_z
   go_wp2
   exact bodyPost_ret (v:= .tuple #[.agg #[.int .i64 0, .int .i64 0], .bool false]) (by simp [results,Tryz.results111,go_sem, *]) rfl (⟨rfl,below_put2 BB (by omega) _ _⟩)
  ·skip
   cases hr:reachC i s
   ·skip
    have h0:=@at_no_right x y i k s hs hr
    obtain rfl:b=false:=by rw [hb,h0]
    obtain rfl:u=0:=hu
    obtain rfl:v=0:=hv
    clear hb h0
    obtain⟨W,hW,bW,x_p,x_o,x_z,sW⟩:=bs_222 w (.int .i64 x) (.int .i64 y) (.int .i64 i) (.int .i64 k) (.int .i64 0) (.int .i64 0) 24 28 24
    have zbW:=bW.size
    have BB:=bW
    go_enter Tryz.func111,Tryz.ntmps111
    go_wp2_with (go_at_call 129;fail)
    rw [←hW]
    clear hW
    refine(lCan x y W hc.symm).mono ?_
    rintro e w1 ⟨rfl,bw1⟩
    have zbw1:=bw1.size
    replace BB:=also BB bw1
    replace x_p:=x_p.on bw1
    replace x_o:=x_o.on bw1
    replace x_z:=x_z.on bw1
    have⟨x_p_0,x_p_1,x_p_2,x_p_3⟩:=x_p
    have⟨x_o_0,x_o_1,x_o_2,x_o_3⟩:=x_o
    have⟨x_z_0,x_z_1,x_z_2,x_z_3⟩:=x_z
    go_wp2_with (go_at_call 130;fail)
    refine(lSide s w1 hs.symm).mono ?_
    rintro e w2 ⟨rfl,bw2⟩
    clear x_p_0 x_p_1 x_p_2 x_p_3 x_o_0 x_o_1 x_o_2 x_o_3 x_z_0 x_z_1 x_z_2 x_z_3
    have zbw2:=bw2.size
    replace BB:=also BB bw2
    replace x_p:=x_p.on bw2
    replace x_o:=x_o.on bw2
    replace x_z:=x_z.on bw2
    have⟨x_p_0,x_p_1,x_p_2,x_p_3⟩:=x_p
    have⟨x_o_0,x_o_1,x_o_2,x_o_3⟩:=x_o
    have⟨x_z_0,x_z_1,x_z_2,x_z_3⟩:=x_z
    go_wp2_with (go_at_call 164;fail)
    refine(lReach i s w2 hs hr.symm).mono ?_
    rintro e w3 ⟨rfl,bw3⟩
    clear x_p_0 x_p_1 x_p_2 x_p_3 x_o_0 x_o_1 x_o_2 x_o_3 x_z_0 x_z_1 x_z_2 x_z_3
    have zbw3:=bw3.size
    replace BB:=also BB bw3
    replace x_p:=x_p.on bw3
    replace x_o:=x_o.on bw3
    replace x_z:=x_z.on bw3
    have⟨x_p_0,x_p_1,x_p_2,x_p_3⟩:=x_p
    have⟨x_o_0,x_o_1,x_o_2,x_o_3⟩:=x_o
    have⟨x_z_0,x_z_1,x_z_2,x_z_3⟩:=x_z
    go_wp2
    exact bodyPost_ret (v:= .tuple #[.agg #[.int .i64 0, .int .i64 0], .bool false]) (by simp [results,Tryz.results111,go_sem, *]) rfl (⟨rfl,below_put2 BB (by omega) _ _⟩)
   ·skip
    cases ht:reachC k s
    ·skip
     have h0:=@at_no_up x y i k s hs ht
     obtain rfl:b=false:=by rw [hb,h0]
     obtain rfl:u=0:=hu
     obtain rfl:v=0:=hv
     clear hb h0
     obtain⟨W,hW,bW,x_p,x_o,x_z,sW⟩:=bs_222 w (.int .i64 x) (.int .i64 y) (.int .i64 i) (.int .i64 k) (.int .i64 0) (.int .i64 0) 24 28 24
     have zbW:=bW.size
     have BB:=bW
     go_enter Tryz.func111,Tryz.ntmps111
     go_wp2_with (go_at_call 129;fail)
     rw [←hW]
     clear hW
     refine(lCan x y W hc.symm).mono ?_
     rintro e w1 ⟨rfl,bw1⟩
     have zbw1:=bw1.size
     replace BB:=also BB bw1
     replace x_p:=x_p.on bw1
     replace x_o:=x_o.on bw1
     replace x_z:=x_z.on bw1
     have⟨x_p_0,x_p_1,x_p_2,x_p_3⟩:=x_p
     have⟨x_o_0,x_o_1,x_o_2,x_o_3⟩:=x_o
     have⟨x_z_0,x_z_1,x_z_2,x_z_3⟩:=x_z
     go_wp2_with (go_at_call 130;fail)
     refine(lSide s w1 hs.symm).mono ?_
     rintro e w2 ⟨rfl,bw2⟩
     clear x_p_0 x_p_1 x_p_2 x_p_3 x_o_0 x_o_1 x_o_2 x_o_3 x_z_0 x_z_1 x_z_2 x_z_3
     have zbw2:=bw2.size
     replace BB:=also BB bw2
     replace x_p:=x_p.on bw2
     replace x_o:=x_o.on bw2
     replace x_z:=x_z.on bw2
     have⟨x_p_0,x_p_1,x_p_2,x_p_3⟩:=x_p
     have⟨x_o_0,x_o_1,x_o_2,x_o_3⟩:=x_o
     have⟨x_z_0,x_z_1,x_z_2,x_z_3⟩:=x_z
     go_wp2_with (go_at_call 164;fail)
     refine(lReach i s w2 hs hr.symm).mono ?_
     rintro e w3 ⟨rfl,bw3⟩
     clear x_p_0 x_p_1 x_p_2 x_p_3 x_o_0 x_o_1 x_o_2 x_o_3 x_z_0 x_z_1 x_z_2 x_z_3
     have zbw3:=bw3.size
     replace BB:=also BB bw3
     replace x_p:=x_p.on bw3
     replace x_o:=x_o.on bw3
     replace x_z:=x_z.on bw3
     have⟨x_p_0,x_p_1,x_p_2,x_p_3⟩:=x_p
     have⟨x_o_0,x_o_1,x_o_2,x_o_3⟩:=x_o
     have⟨x_z_0,x_z_1,x_z_2,x_z_3⟩:=x_z
     go_wp2_with (go_at_call 164;fail)
     refine(lReach k s w3 hs ht.symm).mono ?_
     rintro e w4 ⟨rfl,bw4⟩
     clear x_p_0 x_p_1 x_p_2 x_p_3 x_o_0 x_o_1 x_o_2 x_o_3 x_z_0 x_z_1 x_z_2 x_z_3
     have zbw4:=bw4.size
     replace BB:=also BB bw4
     replace x_p:=x_p.on bw4
     replace x_o:=x_o.on bw4
     replace x_z:=x_z.on bw4
     have⟨x_p_0,x_p_1,x_p_2,x_p_3⟩:=x_p
     have⟨x_o_0,x_o_1,x_o_2,x_o_3⟩:=x_o
     have⟨x_z_0,x_z_1,x_z_2,x_z_3⟩:=x_z
     go_wp2
     exact bodyPost_ret (v:= .tuple #[.agg #[.int .i64 0, .int .i64 0], .bool false]) (by simp [results,Tryz.results111,go_sem, *]) rfl (⟨rfl,below_put2 BB (by omega) _ _⟩)
    ·skip
     cases hq:canC (x+i*s) (y+k*s)
     ·skip
      have h0:=@at_no_there x y i k s hq
      obtain rfl:b=false:=by rw [hb,h0]
      obtain rfl:u=0:=hu
      obtain rfl:v=0:=hv
      clear hb h0
      obtain⟨p1,p2⟩:=reach_prod hs hr
      obtain⟨p3,p4⟩:=reach_prod hs ht
      obtain⟨c1,c2⟩:=inC_true.1 (canC_true.1 hc).1
      obtain⟨c3,c4⟩:=inC_true.1 (canC_true.1 hc).2
      obtain⟨u,hu⟩: ∃ u,u=x+i*s:=⟨_,rfl⟩
      obtain⟨v,hv⟩: ∃ v,v=y+k*s:=⟨_,rfl⟩
      rw [←hu,←hv]at hq
      obtain⟨P,hP⟩: ∃ P,P=i*s:=⟨_,rfl⟩
      obtain⟨R,hR⟩: ∃ R,R=k*s:=⟨_,rfl⟩
      rw [←hP]at p1 p2 hu
      rw [←hR]at p3 p4 hv
      have hw1:wrap64 (i*s)=P:=by rw [←hP];exact wrap_in (by omega) (by omega)
      have hw2:wrap64 (k*s)=R:=by rw [←hR];exact wrap_in (by omega) (by omega)
      have hw3:wrap64 (x+P)=u:=by rw [hu];exact wrap_in (by omega) (by omega)
      have hw4:wrap64 (y+R)=v:=by rw [hv];exact wrap_in (by omega) (by omega)
      clear hP hR hu hv p1 p2 p3 p4 c1 c2 c3 c4
      obtain⟨W,hW,bW,x_p,x_o,x_z,sW⟩:=bs_222 w (.int .i64 x) (.int .i64 y) (.int .i64 i) (.int .i64 k) (.int .i64 0) (.int .i64 0) 24 28 24
      have zbW:=bW.size
      have BB:=bW
      go_enter Tryz.func111,Tryz.ntmps111
      go_wp2_with (go_at_call 129;fail)
      rw [←hW]
      clear hW
      refine(lCan x y W hc.symm).mono ?_
      rintro e w1 ⟨rfl,bw1⟩
      have zbw1:=bw1.size
      replace BB:=also BB bw1
      replace x_p:=x_p.on bw1
      replace x_o:=x_o.on bw1
      replace x_z:=x_z.on bw1
      have⟨x_p_0,x_p_1,x_p_2,x_p_3⟩:=x_p
      have⟨x_o_0,x_o_1,x_o_2,x_o_3⟩:=x_o
      have⟨x_z_0,x_z_1,x_z_2,x_z_3⟩:=x_z
      go_wp2_with (go_at_call 130;fail)
      refine(lSide s w1 hs.symm).mono ?_
      rintro e w2 ⟨rfl,bw2⟩
      clear x_p_0 x_p_1 x_p_2 x_p_3 x_o_0 x_o_1 x_o_2 x_o_3 x_z_0 x_z_1 x_z_2 x_z_3
      have zbw2:=bw2.size
      replace BB:=also BB bw2
      replace x_p:=x_p.on bw2
      replace x_o:=x_o.on bw2
      replace x_z:=x_z.on bw2
      have⟨x_p_0,x_p_1,x_p_2,x_p_3⟩:=x_p
      have⟨x_o_0,x_o_1,x_o_2,x_o_3⟩:=x_o
      have⟨x_z_0,x_z_1,x_z_2,x_z_3⟩:=x_z
      go_wp2_with (go_at_call 164;fail)
      refine(lReach i s w2 hs hr.symm).mono ?_
      rintro e w3 ⟨rfl,bw3⟩
      clear x_p_0 x_p_1 x_p_2 x_p_3 x_o_0 x_o_1 x_o_2 x_o_3 x_z_0 x_z_1 x_z_2 x_z_3
      have zbw3:=bw3.size
      replace BB:=also BB bw3
      replace x_p:=x_p.on bw3
      replace x_o:=x_o.on bw3
      replace x_z:=x_z.on bw3
      have⟨x_p_0,x_p_1,x_p_2,x_p_3⟩:=x_p
      have⟨x_o_0,x_o_1,x_o_2,x_o_3⟩:=x_o
      have⟨x_z_0,x_z_1,x_z_2,x_z_3⟩:=x_z
      go_wp2_with (go_at_call 164;fail)
      refine(lReach k s w3 hs ht.symm).mono ?_
      rintro e w4 ⟨rfl,bw4⟩
      clear x_p_0 x_p_1 x_p_2 x_p_3 x_o_0 x_o_1 x_o_2 x_o_3 x_z_0 x_z_1 x_z_2 x_z_3
      have zbw4:=bw4.size
      replace BB:=also BB bw4
      replace x_p:=x_p.on bw4
      replace x_o:=x_o.on bw4
      replace x_z:=x_z.on bw4
      have⟨x_p_0,x_p_1,x_p_2,x_p_3⟩:=x_p
      have⟨x_o_0,x_o_1,x_o_2,x_o_3⟩:=x_o
      have⟨x_z_0,x_z_1,x_z_2,x_z_3⟩:=x_z
      obtain⟨V,hV,bV,x_q,sV⟩:=bs_2 w4 (.int .i64 u) (.int .i64 v) 24
      have zbV:=bV.size
      replace BB:=also BB bV
      replace x_p:=x_p.on bV
      replace x_o:=x_o.on bV
      replace x_z:=x_z.on bV
      go_wp2_with (go_at_call 129;fail)
      rw [←hV]
      clear hV
      refine(lCan u v V hq.symm).mono ?_
      rintro e w5 ⟨rfl,bw5⟩
      clear x_p_0 x_p_1 x_p_2 x_p_3 x_o_0 x_o_1 x_o_2 x_o_3 x_z_0 x_z_1 x_z_2 x_z_3
      have zbw5:=bw5.size
      replace BB:=also BB bw5
      replace x_p:=x_p.on bw5
      replace x_o:=x_o.on bw5
      replace x_z:=x_z.on bw5
      replace x_q:=x_q.on bw5
      have⟨x_z_0,x_z_1,x_z_2,x_z_3⟩:=x_z
      have⟨x_q_0,x_q_1,x_q_2,x_q_3⟩:=x_q
      go_wp2
      exact bodyPost_ret (v:= .tuple #[.agg #[.int .i64 0, .int .i64 0], .bool false]) (by simp [results,Tryz.results111,go_sem, *]) rfl (⟨rfl,below_put2 BB (by omega) _ _⟩)
     ·skip
      have h0:=@at_yes x y i k s hc hs hq
      obtain rfl:b=true:=by rw [hb,h0]
      replace hu:u=x+i*s:=hu
      replace hv:v=y+k*s:=hv
      clear hb h0
      obtain⟨p1,p2⟩:=reach_prod hs hr
      obtain⟨p3,p4⟩:=reach_prod hs ht
      obtain⟨c1,c2⟩:=inC_true.1 (canC_true.1 hc).1
      obtain⟨c3,c4⟩:=inC_true.1 (canC_true.1 hc).2
      rw [←hu,←hv]at hq
      obtain⟨P,hP⟩: ∃ P,P=i*s:=⟨_,rfl⟩
      obtain⟨R,hR⟩: ∃ R,R=k*s:=⟨_,rfl⟩
      rw [←hP]at p1 p2 hu
      rw [←hR]at p3 p4 hv
      have hw1:wrap64 (i*s)=P:=by rw [←hP];exact wrap_in (by omega) (by omega)
      have hw2:wrap64 (k*s)=R:=by rw [←hR];exact wrap_in (by omega) (by omega)
      have hw3:wrap64 (x+P)=u:=by rw [hu];exact wrap_in (by omega) (by omega)
      have hw4:wrap64 (y+R)=v:=by rw [hv];exact wrap_in (by omega) (by omega)
      clear hP hR hu hv p1 p2 p3 p4 c1 c2 c3 c4
      obtain⟨W,hW,bW,x_p,x_o,x_z,sW⟩:=bs_222 w (.int .i64 x) (.int .i64 y) (.int .i64 i) (.int .i64 k) (.int .i64 0) (.int .i64 0) 24 28 24
      have zbW:=bW.size
      have BB:=bW
      go_enter Tryz.func111,Tryz.ntmps111
      go_wp2_with (go_at_call 129;fail)
      rw [←hW]
      clear hW
      refine(lCan x y W hc.symm).mono ?_
      rintro e w1 ⟨rfl,bw1⟩
      have zbw1:=bw1.size
      replace BB:=also BB bw1
      replace x_p:=x_p.on bw1
      replace x_o:=x_o.on bw1
      replace x_z:=x_z.on bw1
      have⟨x_p_0,x_p_1,x_p_2,x_p_3⟩:=x_p
      have⟨x_o_0,x_o_1,x_o_2,x_o_3⟩:=x_o
      have⟨x_z_0,x_z_1,x_z_2,x_z_3⟩:=x_z
      go_wp2_with (go_at_call 130;fail)
      refine(lSide s w1 hs.symm).mono ?_
      rintro e w2 ⟨rfl,bw2⟩
      clear x_p_0 x_p_1 x_p_2 x_p_3 x_o_0 x_o_1 x_o_2 x_o_3 x_z_0 x_z_1 x_z_2 x_z_3
      have zbw2:=bw2.size
      replace BB:=also BB bw2
      replace x_p:=x_p.on bw2
      replace x_o:=x_o.on bw2
      replace x_z:=x_z.on bw2
      have⟨x_p_0,x_p_1,x_p_2,x_p_3⟩:=x_p
      have⟨x_o_0,x_o_1,x_o_2,x_o_3⟩:=x_o
      have⟨x_z_0,x_z_1,x_z_2,x_z_3⟩:=x_z
      go_wp2_with (go_at_call 164;fail)
      refine(lReach i s w2 hs hr.symm).mono ?_
      rintro e w3 ⟨rfl,bw3⟩
      clear x_p_0 x_p_1 x_p_2 x_p_3 x_o_0 x_o_1 x_o_2 x_o_3 x_z_0 x_z_1 x_z_2 x_z_3
      have zbw3:=bw3.size
      replace BB:=also BB bw3
      replace x_p:=x_p.on bw3
      replace x_o:=x_o.on bw3
      replace x_z:=x_z.on bw3
      have⟨x_p_0,x_p_1,x_p_2,x_p_3⟩:=x_p
      have⟨x_o_0,x_o_1,x_o_2,x_o_3⟩:=x_o
      have⟨x_z_0,x_z_1,x_z_2,x_z_3⟩:=x_z
      go_wp2_with (go_at_call 164;fail)
      refine(lReach k s w3 hs ht.symm).mono ?_
      rintro e w4 ⟨rfl,bw4⟩
      clear x_p_0 x_p_1 x_p_2 x_p_3 x_o_0 x_o_1 x_o_2 x_o_3 x_z_0 x_z_1 x_z_2 x_z_3
      have zbw4:=bw4.size
      replace BB:=also BB bw4
      replace x_p:=x_p.on bw4
      replace x_o:=x_o.on bw4
      replace x_z:=x_z.on bw4
      have⟨x_p_0,x_p_1,x_p_2,x_p_3⟩:=x_p
      have⟨x_o_0,x_o_1,x_o_2,x_o_3⟩:=x_o
      have⟨x_z_0,x_z_1,x_z_2,x_z_3⟩:=x_z
      obtain⟨V,hV,bV,x_q,sV⟩:=bs_2 w4 (.int .i64 u) (.int .i64 v) 24
      have zbV:=bV.size
      replace BB:=also BB bV
      replace x_p:=x_p.on bV
      replace x_o:=x_o.on bV
      replace x_z:=x_z.on bV
      go_wp2_with (go_at_call 129;fail)
      rw [←hV]
      clear hV
      refine(lCan u v V hq.symm).mono ?_
      rintro e w5 ⟨rfl,bw5⟩
      clear x_p_0 x_p_1 x_p_2 x_p_3 x_o_0 x_o_1 x_o_2 x_o_3 x_z_0 x_z_1 x_z_2 x_z_3
      have zbw5:=bw5.size
      replace BB:=also BB bw5
      replace x_p:=x_p.on bw5
      replace x_o:=x_o.on bw5
      replace x_z:=x_z.on bw5
      replace x_q:=x_q.on bw5
      have⟨x_z_0,x_z_1,x_z_2,x_z_3⟩:=x_z
      have⟨x_q_0,x_q_1,x_q_2,x_q_3⟩:=x_q
      go_wp2
      exact bodyPost_ret (v:= .tuple #[.agg #[.int .i64 u, .int .i64 v], .bool true]) (by simp [results,Tryz.results111,go_sem, *]) rfl (⟨rfl,below_put2 BB (by omega) _ _⟩)
theorem hf_top_eq{u v m k:Nat}(hk:k≤m)(hu:u<65536^m)(hv:v<65536^m)(h: ∀ j,k≤j→j<m→hf.dg (u:Int) j=hf.dg (v:Int) j):u/65536^k=v/65536^k:=by
 have hlt: ∀ x:Nat,x<65536^m→x/65536^k<65536^(m- k):=fun x hx=>by
  refine Nat.div_lt_of_lt_mul ?_
  rw [←Nat.pow_add,show k+(m- k)=m by omega]
  exact hx
 refine hf.eq_of_dcells (m- k) _ _ (hlt u hu) (hlt v hv) fun j hj=>?_
 rw [Int.natCast_ediv,Int.natCast_ediv,hf.pow_cast,hf.dg_div,hf.dg_div]
 exact h _ (by omega) (by omega)
theorem cmpI_lt{x y:Int}(h:x<y):cmpI x y= -1:=by unfold cmpI;rw [if_pos h]
theorem cmpI_gt{x y:Int}(h:y<x):cmpI x y=1:=by unfold cmpI;rw [if_neg (by omega),if_pos h]
theorem rcmp_any(a b:Option Addr)(ca cb u v:Nat)(w:World)(ha:Sl w a (hf.nlen u) ca (hf.dcells (hf.nlen u) (u:Int)))(hb:Sl w b (hf.nlen v) cb (hf.dcells (hf.nlen v) (v:Int))):
  Calls Tryz.prog 154 #[.slice a (hf.nlen u) ca, .slice b (hf.nlen v) cb] w fun e w'=>e= .returned (.int .i64 (cmpI u v))∧Below w.heap.size w w':=by
 have k1:=ha.big
 have k2:=ha.room
 have k3:=hb.big
 have k4:=hb.room
 unfold maxLen at k1 k3
 rcases Nat.lt_trichotomy (hf.nlen u) (hf.nlen v)with h|h|h
 ·have HC:Hid (cmpI u v= -1):=cmpI_lt (by have:=hf.lt_of_nlen h;omega)
  go_enter Tryz.func154,Tryz.ntmps154
  go_wp2
  go_ret
  exact⟨by rw [HC.out];rfl,(by first|exact Below.refl _ _|exact below_drewN (Below.refl _ _) _|exact below_drewN (below_drewN (Below.refl _ _) _) _|exact below_drewN (below_drewN (below_drewN (Below.refl _ _) _) _) _)⟩
 ·obtain⟨m,hm⟩: ∃ m,hf.nlen u=m:=⟨_,rfl⟩
  have hv:=hf.nlen_lt v
  have hu:=hf.nlen_lt u
  rw [←h]at hb hv k4 ⊢
  rw [hm]at ha hb hu hv k2 k4 ⊢
  have HU:Hid _:=hu
  have HV:Hid _:=hv
  clear hm hu hv h
  go_enter Tryz.func154,Tryz.ntmps154
  go_wp2
  go_loopw [5] (fun i wr=> ∃ r:Nat,r≤m∧i= .int .i64 ((r:Int)- 1)∧Hid (∀ j,r≤j→j<m→hf.dg (u:Int) j=hf.dg (v:Int) j)∧ ∃ n,wr=w.drewN n) (fun i _=>(intOf i+1).toNat)
  case atStart=>exact⟨m,Nat.le_refl _,rfl,fun j h1 h2=>absurd h1 (by omega),0,rfl⟩
  case round=>
   obtain⟨r,hr,rfl,HR,n,rfl⟩:=hrel
   rcases r with _|q
   ·have HE:Hid (cmpI u v=0):=by
     obtain rfl:u=v:=hf.eq_of_dcells m u v HU.out HV.out (fun j hj=>HR.out j (Nat.zero_le _) hj)
     exact cmpI_self _
    go_wp2
    go_ret
    exact⟨by rw [HE.out];rfl,(by first|exact Below.refl _ _|exact below_drewN (Below.refl _ _) _|exact below_drewN (below_drewN (Below.refl _ _) _) _|exact below_drewN (below_drewN (below_drewN (Below.refl _ _) _) _) _)⟩
   ·obtain⟨ba,oa,rfl,hba,hsa⟩:=ha.at (by omega)
    obtain⟨bb,ob,rfl,hbb,hsb⟩:=hb.at (by omega)
    have c1:w.cell? ⟨ba,oa+q,none⟩=some (.int .i64 (hf.dg u q)):=hsa.cell q _ (hf.dcells_at _ _ _ (by omega))
    have c2:w.cell? ⟨bb,ob+q,none⟩=some (.int .i64 (hf.dg v q)):=hsb.cell q _ (hf.dcells_at _ _ _ (by omega))
    have HT:Hid (u/65536^(q+1)=v/65536^(q+1)):=hf_top_eq (by omega) HU.out HV.out HR.out
    have e1:((q+1:Nat):Int)- 1=(q:Int):=by omega
    obtain⟨X,hX⟩: ∃ X,hf.dg (u:Int) q=X:=⟨_,rfl⟩
    obtain⟨Y,hY⟩: ∃ Y,hf.dg (v:Int) q=Y:=⟨_,rfl⟩
    rcases Int.lt_trichotomy X Y with l|l|l
    ·have HC:Hid (cmpI u v= -1):=cmpI_lt (by have:=hf.lt_of_top HT.out (by rw [hX,hY];exact l);omega)
     rw [hX]at c1
     rw [hY]at c2
     clear hX hY
     go_wp2
     go_quiet (fail)
     go_wp2
     go_ret
     exact⟨by rw [HC.out];rfl,(by first|exact Below.refl _ _|exact below_drewN (Below.refl _ _) _|exact below_drewN (below_drewN (Below.refl _ _) _) _|exact below_drewN (below_drewN (below_drewN (Below.refl _ _) _) _) _)⟩
    ·have HQ:Hid (∀ j,q≤j→j<m→hf.dg (u:Int) j=hf.dg (v:Int) j):=fun j h1 h2=>by
      rcases Nat.lt_or_ge q j with h3|h3
      ·exact HR.out j h3 h2
      ·obtain rfl:j=q:=by omega
       rw [hX,hY,l]
     have l1: ¬X<Y:=by omega
     have l2: ¬Y<X:=by omega
     rw [hX]at c1
     rw [hY]at c2
     clear hX hY l
     go_wp2
     go_quiet (fail)
     go_wp2
     go_quiet (fail)
     go_wp2
     go_roundw
     case rel=>exact⟨q,by omega,by go_num,HQ.out,_,rfl⟩
     case measure=>simp [intOf]
    ·have HC:Hid (cmpI u v=1):=cmpI_gt (by have:=hf.lt_of_top HT.out.symm (by rw [hX,hY];exact l);omega)
     have l1: ¬X<Y:=by omega
     rw [hX]at c1
     rw [hY]at c2
     clear hX hY
     go_wp2
     go_quiet (fail)
     go_wp2
     go_quiet (fail)
     go_wp2
     go_ret
     exact⟨by rw [HC.out];rfl,(by first|exact Below.refl _ _|exact below_drewN (Below.refl _ _) _|exact below_drewN (below_drewN (Below.refl _ _) _) _|exact below_drewN (below_drewN (below_drewN (Below.refl _ _) _) _) _)⟩
 ·have HC:Hid (cmpI u v=1):=cmpI_gt (by have:=hf.lt_of_nlen h;omega)
  have h': ¬(hf.nlen u:Int)<hf.nlen v:=by omega
  go_enter Tryz.func154,Tryz.ntmps154
  go_wp2
  go_ret
  exact⟨by rw [HC.out];rfl,(by first|exact Below.refl _ _|exact below_drewN (Below.refl _ _) _|exact below_drewN (below_drewN (Below.refl _ _) _) _|exact below_drewN (below_drewN (below_drewN (Below.refl _ _) _) _) _)⟩
theorem push_next{w wr w2 w4:World}{k cap cap' g':Nat}{a:Option Addr}{V x:Int}(hx:x=hf.dg V k)(hown:Own wr w.heap.size 3 a k cap (hf.dcells k V))(hbel:Below w.heap.size w wr)
  (h4:w4.ownsRow w.heap.size 3 1 (.slice (some ⟨g',0,none⟩) (k+1) cap') (k+1) (hf.dcells k V++ [.int .i64 x]))
  (h2:Below wr.heap.size wr w2) (hgr:w2.grownBy w4 (Value.slice a k cap).ownBlock):Own w4 w.heap.size 3 (some ⟨g',0,none⟩) (k+1) cap' (hf.dcells (k+1) V)∧Below w.heap.size w w4:=by
 have hs:=hbel.size
 refine⟨?_,(hbel.trans (h2.mono hs)).grown hgr (by have:=h2.size;omega) (fun k' hk'=>(World.ownsRow.lt hown k' hk').1)⟩
 rw [hf.dcells_succ,←hx]
 exact h4
def RAddRel(w:World)(u v l:Nat)(o c i:Value)(wr:World):Prop:= ∃ (k cap:Nat) (ao:Option Addr),k≤l∧i= .int .i64 (k:Int)∧c= .int .i64 (hf.carry u v k)∧o= .slice ao k cap∧Own wr w.heap.size 3 ao k cap (hf.dcells k ((u:Int)+v))∧Below w.heap.size w wr
theorem radd_next{w wr w2 w4:World}{u v l k cap cap' g':Nat}{ao:Option Addr}{x:Int}(hk:k<l)(hx:x=hf.carry u v k+hf.dg u k+hf.dg v k)(hown:Own wr w.heap.size 3 ao k cap (hf.dcells k ((u:Int)+v)))(hbel:Below w.heap.size w wr)
  (h4:w4.ownsRow w.heap.size 3 1 (.slice (some ⟨g',0,none⟩) (k+1) cap') (k+1) (hf.dcells k ((u:Int)+v)++ [.int .i64 (x % 65536)]))
  (h2:Below wr.heap.size wr w2) (hgr:w2.grownBy w4 (Value.slice ao k cap).ownBlock):RAddRel w u v l (.slice (some ⟨g',0,none⟩) (k+1) cap') (.int .i64 (x/65536)) (.int .i64 ((k:Int)+1)) w4:=by
 obtain⟨h5,h6⟩:=push_next (x:=x % 65536) (by rw [hx,hf.add_digit]) hown hbel h4 h2 hgr
 exact⟨k+1,cap',_,hk,by simp,by rw [hf.carry_succ,hx],rfl,h5,h6⟩
theorem radd_any(a b:Option Addr)(ca cb u v:Nat)(w:World)(ha:Sl w a (hf.nlen u) ca (hf.dcells (hf.nlen u) (u:Int)))(hb:Sl w b (hf.nlen v) cb (hf.dcells (hf.nlen v) (v:Int)))(hlu:hf.nlen u≤1000000000)(hlv:hf.nlen v≤1000000000):
  Calls Tryz.prog 153 #[.slice a (hf.nlen u) ca, .slice b (hf.nlen v) cb] w fun e w'=> ∃ a' cap',e= .returned (.slice a' (hf.nlen (u+v)) cap')∧Own w' w.heap.size 3 a' (hf.nlen (u+v)) cap' (hf.dcells (hf.nlen (u+v)) ((u+v:Nat):Int))∧Below w.heap.size w w':=by
 obtain⟨i0,hi0,hz0,hz1,hz2⟩:=info_parts infoInt
 have hown0:=own_empty w w.heap.size 3 (Nat.le_refl _)
 have hu:=hf.nlen_lt u
 have hv:=hf.nlen_lt v
 obtain⟨lu,hlu'⟩: ∃ l,hf.nlen u=l:=⟨_,rfl⟩
 obtain⟨lv,hlv'⟩: ∃ l,hf.nlen v=l:=⟨_,rfl⟩
 rw [hlu']at ha hlu hu ⊢
 rw [hlv']at hb hlv hv ⊢
 obtain⟨L,hL1,hL2,hL3⟩: ∃ L,lu≤L∧lv≤L∧(L≤lu∨L≤lv):=⟨max lu lv,by omega,by omega,by omega⟩
 have HU:Hid (∀ k,lu≤k→hf.dg (u:Int) k=0):=fun k hk=>hf.dg_over (Nat.lt_of_lt_of_le hu (Nat.pow_le_pow_right (by decide) hk))
 have HV:Hid (∀ k,lv≤k→hf.dg (v:Int) k=0):=fun k hk=>hf.dg_over (Nat.lt_of_lt_of_le hv (Nat.pow_le_pow_right (by decide) hk))
 have HS:Hid (u+v<65536^(L+1)):=by
  have h1:=Nat.pow_le_pow_right (n:=65536) (by decide) hL1
  have h2:=Nat.pow_le_pow_right (n:=65536) (by decide) hL2
  unfold Hid
  rw [Nat.pow_succ];omega
 have HE:Hid ((u:Int)+v=((u+v:Nat):Int)):=by unfold Hid;omega
 clear hu hv hlu' hlv'
 go_enter Tryz.func153,Tryz.ntmps153
 go_wp2
 go_loopw [5,6,7] (fun o c i wr=>RAddRel w u v L o c i wr) (fun _ _ i _=>L- (intOf i).toNat)
 case atStart=>exact⟨0,0,_,by omega,rfl,by rw [hf.carry_zero],rfl,hown0,(Below.refl _ _).alloc (Nat.le_refl _) _⟩
 case round=>
  clear hown0
  obtain⟨k,cap,ao,hk,rfl,rfl,rfl,hown,hbel⟩:=hrel
  have hsz:=hbel.size
  obtain⟨f0,f1⟩:=hf.carry_range u v k
  obtain⟨d0,d1⟩:=hf.dg_range u k
  obtain⟨e0,e1⟩:=hf.dg_range v k
  obtain⟨C,hC⟩: ∃ C,hf.carry (u:Int) v k=C:=⟨_,rfl⟩
  obtain⟨X,hX⟩: ∃ X,hf.dg (u:Int) k=X:=⟨_,rfl⟩
  obtain⟨Y,hY⟩: ∃ Y,hf.dg (v:Int) k=Y:=⟨_,rfl⟩
  rw [hC]at f0 f1
  rw [hX]at d0 d1
  rw [hY]at e0 e1
  by_cases h1:k<lu
  ·obtain⟨ba,oa,rfl,hba,hsa⟩:=ha.at (by omega)
   have r1:=ha.room
   have c1:wr.cell? ⟨ba,oa+k,none⟩=some (.int .i64 X):=(hbel.cell (p:=⟨ba,oa+k,none⟩) hba).trans (by rw [←hX];exact hsa.cell k _ (hf.dcells_at _ _ _ h1))
   by_cases h2:k<lv
   ·obtain⟨bb,ob,rfl,hbb,hsb⟩:=hb.at (by omega)
    have r2:=hb.room
    have c2:wr.cell? ⟨bb,ob+k,none⟩=some (.int .i64 Y):=(hbel.cell (p:=⟨bb,ob+k,none⟩) hbb).trans (by rw [←hY];exact hsb.cell k _ (hf.dcells_at _ _ _ h2))
    have HN:Hid _:=fun w2 w4 g' cap'=>radd_next (l:=L) (x:=C+X+Y) (w2:=w2) (w4:=w4) (g':=g') (cap':=cap') (by omega) (by rw [hC,hX,hY]) hown hbel
    rw [hC]
    clear hC hX hY
    go_wp2_with (at_builtin;refine wpList_append_lies _ rfl (.tmp 41) (.tmp 44) 60 rfl w.heap.size 3 i0 (.int .i64 0) 1 8 Tryz.underlying60 hi0 hz0 hz1 hz2 rfl (by decide) (.slice ao k cap) (k) (hf.dcells k ((u:Int)+v)) rfl (World.ownsRow.alloc hown _) ⟨wr.heap.size,0,none⟩ 1 1 [.int .i64 ((C+X+Y) % 65536)] rfl rfl (cell_one_new _ _ _) (ints_oneCell .i64 [(C+X+Y) % 65536]) (by decide) (by unfold maxLen;omega) (by omega) (by simp;omega) _ rfl ?_;intro g' cap' w4 hown4 hgrow4 hat4 hlt4)
    go_roundw
    case rel=>exact HN.out _ w4 g' cap' hown4 ((Below.refl _ _).alloc (Nat.le_refl _) _) hgrow4
    case measure=>simp [intOf];omega
   ·have HN:Hid _:=fun w2 w4 g' cap'=>radd_next (l:=L) (x:=C+X) (w2:=w2) (w4:=w4) (g':=g') (cap':=cap') (by omega) (by rw [hC,hX,HV.out k (by omega)];omega) hown hbel
    have h2': ¬(k:Int)<lv:=by omega
    rw [hC]
    clear hC hX hY
    go_wp2_with (at_builtin;refine wpList_append_lies _ rfl (.tmp 41) (.tmp 44) 60 rfl w.heap.size 3 i0 (.int .i64 0) 1 8 Tryz.underlying60 hi0 hz0 hz1 hz2 rfl (by decide) (.slice ao k cap) (k) (hf.dcells k ((u:Int)+v)) rfl (World.ownsRow.alloc hown _) ⟨wr.heap.size,0,none⟩ 1 1 [.int .i64 ((C+X) % 65536)] rfl rfl (cell_one_new _ _ _) (ints_oneCell .i64 [(C+X) % 65536]) (by decide) (by unfold maxLen;omega) (by omega) (by simp;omega) _ rfl ?_;intro g' cap' w4 hown4 hgrow4 hat4 hlt4)
    go_roundw
    case rel=>exact HN.out _ w4 g' cap' hown4 ((Below.refl _ _).alloc (Nat.le_refl _) _) hgrow4
    case measure=>simp [intOf];omega
  ·by_cases h2:k<lv
   ·obtain⟨bb,ob,rfl,hbb,hsb⟩:=hb.at (by omega)
    have r2:=hb.room
    have c2:wr.cell? ⟨bb,ob+k,none⟩=some (.int .i64 Y):=(hbel.cell (p:=⟨bb,ob+k,none⟩) hbb).trans (by rw [←hY];exact hsb.cell k _ (hf.dcells_at _ _ _ h2))
    have HN:Hid _:=fun w2 w4 g' cap'=>radd_next (l:=L) (x:=C+Y) (w2:=w2) (w4:=w4) (g':=g') (cap':=cap') (by omega) (by rw [hC,hY,HU.out k (by omega)];omega) hown hbel
    have h1': ¬(k:Int)<lu:=by omega
    rw [hC]
    clear hC hX hY
    go_wp2_with (at_builtin;refine wpList_append_lies _ rfl (.tmp 41) (.tmp 44) 60 rfl w.heap.size 3 i0 (.int .i64 0) 1 8 Tryz.underlying60 hi0 hz0 hz1 hz2 rfl (by decide) (.slice ao k cap) (k) (hf.dcells k ((u:Int)+v)) rfl (World.ownsRow.alloc hown _) ⟨wr.heap.size,0,none⟩ 1 1 [.int .i64 ((C+Y) % 65536)] rfl rfl (cell_one_new _ _ _) (ints_oneCell .i64 [(C+Y) % 65536]) (by decide) (by unfold maxLen;omega) (by omega) (by simp;omega) _ rfl ?_;intro g' cap' w4 hown4 hgrow4 hat4 hlt4)
    go_roundw
    case rel=>exact HN.out _ w4 g' cap' hown4 ((Below.refl _ _).alloc (Nat.le_refl _) _) hgrow4
    case measure=>simp [intOf];omega
   ·obtain rfl:k=L:=by omega
    have HC2:Hid (C=hf.dg ((u:Int)+v) k):=by
     have h:=hf.add_digit u v k
     rw [hC,hX,hY]at h
     have hx0:=HU.out k (by omega)
     have hy0:=HV.out k (by omega)
     rw [hX]at hx0
     rw [hY]at hy0
     unfold Hid
     omega
    have h1': ¬(k:Int)<lu:=by omega
    have h2': ¬(k:Int)<lv:=by omega
    have HN:Hid _:=fun w2 w4 g' cap'=>push_next (x:=C) (w2:=w2) (w4:=w4) (g':=g') (cap':=cap') HC2.out hown hbel
    rw [hC]
    clear hC hX hY
    go_wp2_with (first
     |(at_builtin;refine wpList_append_lies _ rfl (.tmp 48) (.tmp 50) 60 rfl w.heap.size 3 i0 (.int .i64 0) 1 8 Tryz.underlying60 hi0 hz0 hz1 hz2 rfl (by decide) (.slice ao k cap) (k) (hf.dcells k ((u:Int)+v)) rfl (World.ownsRow.alloc hown _) ⟨wr.heap.size,0,none⟩ 1 1 [.int .i64 (C)] rfl rfl (cell_one_new _ _ _) (ints_oneCell .i64 [C]) (by decide) (by unfold maxLen;omega) (by omega) (by simp;omega) _ rfl ?_;intro g' cap' w4 hown4 hgrow4 hat4 hlt4)
     |(go_at_call 156;have hnx:=HN.out _ w4 g' cap' hown4 ((Below.refl _ _).alloc (Nat.le_refl _) _) hgrow4;rw [HE.out]at hnx;refine(rtrim_own _ _ _ (u+v) _ _ hnx.1 HS.out).mono ?_;rintro e w' ⟨rfl,hw,hown5⟩;subst hw))
    go_ret
    exact⟨_,cap',rfl,hown5,hnx.2⟩
def RSubRel(w:World)(u v l:Nat)(o c i:Value)(wr:World):Prop:= ∃ (k cap:Nat) (ao:Option Addr),k≤l∧i= .int .i64 (k:Int)∧c= .int .i64 (hf.bw u v k)∧o= .slice ao k cap∧Own wr w.heap.size 3 ao k cap (hf.dcells k ((u:Int)- v))∧Below w.heap.size w wr
theorem rsub_next{w wr w2 w4:World}{u v l k cap cap' g':Nat}{ao:Option Addr}{x c:Int}(hk:k<l)(hx:(x=hf.dg u k- hf.dg v k- hf.bw u v k∧0≤x∧c=0)∨(x=hf.dg u k- hf.dg v k- hf.bw u v k+65536∧x<65536∧c=1))(hown:Own wr w.heap.size 3 ao k cap (hf.dcells k ((u:Int)- v)))(hbel:Below w.heap.size w wr)
  (h4:w4.ownsRow w.heap.size 3 1 (.slice (some ⟨g',0,none⟩) (k+1) cap') (k+1) (hf.dcells k ((u:Int)- v)++ [.int .i64 x]))
  (h2:Below wr.heap.size wr w2) (hgr:w2.grownBy w4 (Value.slice ao k cap).ownBlock):RSubRel w u v l (.slice (some ⟨g',0,none⟩) (k+1) cap') (.int .i64 c) (.int .i64 ((k:Int)+1)) w4:=by
 have d:=hf.dg_range u k
 have e:=hf.dg_range v k
 have f:=hf.bw_range u v k
 have hd:=hf.sub_digit u v k
 have hb:=hf.bw_succ u v k
 obtain⟨h5,h6⟩:=push_next (x:=x) (by rw [←hd];omega) hown hbel h4 h2 hgr
 refine⟨k+1,cap',_,hk,by simp,?_,rfl,h5,h6⟩
 rw [←hb]
 unfold hf.bor
 rcases hx with⟨h,h0,rfl⟩|⟨h,h0,rfl⟩
 ·rw [if_neg (by omega)]
 ·rw [if_pos (by omega)]
theorem rsub_any(a b:Option Addr)(ca cb u v:Nat)(w:World)(ha:Sl w a (hf.nlen u) ca (hf.dcells (hf.nlen u) (u:Int)))(hb:Sl w b (hf.nlen v) cb (hf.dcells (hf.nlen v) (v:Int)))(hlu:hf.nlen u≤1000000000)(hlv:hf.nlen v≤1000000000)(hle:v≤u):
  Calls Tryz.prog 155 #[.slice a (hf.nlen u) ca, .slice b (hf.nlen v) cb] w fun e w'=> ∃ a' cap',e= .returned (.slice a' (hf.nlen (u- v)) cap')∧Own w' w.heap.size 3 a' (hf.nlen (u- v)) cap' (hf.dcells (hf.nlen (u- v)) ((u- v:Nat):Int))∧Below w.heap.size w w':=by
 obtain⟨i0,hi0,hz0,hz1,hz2⟩:=info_parts infoInt
 have hown0:=own_empty w w.heap.size 3 (Nat.le_refl _)
 have hu:=hf.nlen_lt u
 have hv:=hf.nlen_lt v
 obtain⟨lu,hlu'⟩: ∃ l,hf.nlen u=l:=⟨_,rfl⟩
 obtain⟨lv,hlv'⟩: ∃ l,hf.nlen v=l:=⟨_,rfl⟩
 rw [hlu']at ha hlu hu ⊢
 rw [hlv']at hb hlv hv ⊢
 have HV:Hid (∀ k,lv≤k→hf.dg (v:Int) k=0):=fun k hk=>hf.dg_over (Nat.lt_of_lt_of_le hv (Nat.pow_le_pow_right (by decide) hk))
 have HS:Hid (u- v<65536^lu):=by unfold Hid;omega
 have HE:Hid ((u:Int)- v=((u- v:Nat):Int)):=by unfold Hid;omega
 clear hu hv hlu' hlv' hle
 go_enter Tryz.func155,Tryz.ntmps155
 go_wp2
 go_loopw [5,6,7] (fun o c i wr=>RSubRel w u v lu o c i wr) (fun _ _ i _=>lu- (intOf i).toNat)
 case atStart=>exact⟨0,0,_,by omega,rfl,by rw [hf.bw_zero],rfl,hown0,(Below.refl _ _).alloc (Nat.le_refl _) _⟩
 case round=>
  clear hown0
  obtain⟨k,cap,ao,hk,rfl,rfl,rfl,hown,hbel⟩:=hrel
  have hsz:=hbel.size
  obtain⟨f0,f1⟩:=hf.bw_range u v k
  obtain⟨d0,d1⟩:=hf.dg_range u k
  obtain⟨e0,e1⟩:=hf.dg_range v k
  obtain⟨C,hC⟩: ∃ C,hf.bw (u:Int) v k=C:=⟨_,rfl⟩
  obtain⟨X,hX⟩: ∃ X,hf.dg (u:Int) k=X:=⟨_,rfl⟩
  obtain⟨Y,hY⟩: ∃ Y,hf.dg (v:Int) k=Y:=⟨_,rfl⟩
  rw [hC]at f0 f1
  rw [hX]at d0 d1
  rw [hY]at e0 e1
  by_cases h1:k<lu
  ·obtain⟨ba,oa,rfl,hba,hsa⟩:=ha.at (by omega)
   have r1:=ha.room
   have c1:wr.cell? ⟨ba,oa+k,none⟩=some (.int .i64 X):=(hbel.cell (p:=⟨ba,oa+k,none⟩) hba).trans (by rw [←hX];exact hsa.cell k _ (hf.dcells_at _ _ _ h1))
   by_cases h2:k<lv
   ·obtain⟨bb,ob,rfl,hbb,hsb⟩:=hb.at (by omega)
    have r2:=hb.room
    have c2:wr.cell? ⟨bb,ob+k,none⟩=some (.int .i64 Y):=(hbel.cell (p:=⟨bb,ob+k,none⟩) hbb).trans (by rw [←hY];exact hsb.cell k _ (hf.dcells_at _ _ _ h2))
    by_cases hn:X- C- Y<0
    ·have HN:Hid _:=fun w2 w4 g' cap'=>rsub_next (l:=lu) (c:=1) (x:=X- C- Y+65536) (w2:=w2) (w4:=w4) (g':=g') (cap':=cap') (by omega) (Or.inr ⟨by rw [hC,hX,hY];omega,by omega,rfl⟩) hown hbel
     rw [hC]
     clear hC hX hY
     go_wp2_with (at_builtin;refine wpList_append_lies _ rfl (.tmp 36) (.tmp 38) 60 rfl w.heap.size 3 i0 (.int .i64 0) 1 8 Tryz.underlying60 hi0 hz0 hz1 hz2 rfl (by decide) (.slice ao k cap) (k) (hf.dcells k ((u:Int)- v)) rfl (World.ownsRow.alloc hown _) ⟨wr.heap.size,0,none⟩ 1 1 [.int .i64 (X- C- Y+65536)] rfl rfl (cell_one_new _ _ _) (ints_oneCell .i64 [X- C- Y+65536]) (by decide) (by unfold maxLen;omega) (by omega) (by simp;omega) _ rfl ?_;intro g' cap' w4 hown4 hgrow4 hat4 hlt4)
     go_roundw
     case rel=>exact HN.out _ w4 g' cap' hown4 ((Below.refl _ _).alloc (Nat.le_refl _) _) hgrow4
     case measure=>simp [intOf];omega
    ·have HN:Hid _:=fun w2 w4 g' cap'=>rsub_next (l:=lu) (c:=0) (x:=X- C- Y) (w2:=w2) (w4:=w4) (g':=g') (cap':=cap') (by omega) (Or.inl ⟨by rw [hC,hX,hY];omega,by omega,rfl⟩) hown hbel
     rw [hC]
     clear hC hX hY
     go_wp2_with (at_builtin;refine wpList_append_lies _ rfl (.tmp 36) (.tmp 38) 60 rfl w.heap.size 3 i0 (.int .i64 0) 1 8 Tryz.underlying60 hi0 hz0 hz1 hz2 rfl (by decide) (.slice ao k cap) (k) (hf.dcells k ((u:Int)- v)) rfl (World.ownsRow.alloc hown _) ⟨wr.heap.size,0,none⟩ 1 1 [.int .i64 (X- C- Y)] rfl rfl (cell_one_new _ _ _) (ints_oneCell .i64 [X- C- Y]) (by decide) (by unfold maxLen;omega) (by omega) (by simp;omega) _ rfl ?_;intro g' cap' w4 hown4 hgrow4 hat4 hlt4)
     go_roundw
     case rel=>exact HN.out _ w4 g' cap' hown4 ((Below.refl _ _).alloc (Nat.le_refl _) _) hgrow4
     case measure=>simp [intOf];omega
   ·have h2': ¬(k:Int)<lv:=by omega
    have hY0:=HV.out k (by omega)
    by_cases hn:X- C<0
    ·have HN:Hid _:=fun w2 w4 g' cap'=>rsub_next (l:=lu) (c:=1) (x:=X- C+65536) (w2:=w2) (w4:=w4) (g':=g') (cap':=cap') (by omega) (Or.inr ⟨by rw [hC,hX,hY0];omega,by omega,rfl⟩) hown hbel
     rw [hC]
     clear hC hX hY hY0
     go_wp2_with (at_builtin;refine wpList_append_lies _ rfl (.tmp 36) (.tmp 38) 60 rfl w.heap.size 3 i0 (.int .i64 0) 1 8 Tryz.underlying60 hi0 hz0 hz1 hz2 rfl (by decide) (.slice ao k cap) (k) (hf.dcells k ((u:Int)- v)) rfl (World.ownsRow.alloc hown _) ⟨wr.heap.size,0,none⟩ 1 1 [.int .i64 (X- C+65536)] rfl rfl (cell_one_new _ _ _) (ints_oneCell .i64 [X- C+65536]) (by decide) (by unfold maxLen;omega) (by omega) (by simp;omega) _ rfl ?_;intro g' cap' w4 hown4 hgrow4 hat4 hlt4)
     go_roundw
     case rel=>exact HN.out _ w4 g' cap' hown4 ((Below.refl _ _).alloc (Nat.le_refl _) _) hgrow4
     case measure=>simp [intOf];omega
    ·have HN:Hid _:=fun w2 w4 g' cap'=>rsub_next (l:=lu) (c:=0) (x:=X- C) (w2:=w2) (w4:=w4) (g':=g') (cap':=cap') (by omega) (Or.inl ⟨by rw [hC,hX,hY0];omega,by omega,rfl⟩) hown hbel
     rw [hC]
     clear hC hX hY hY0
     go_wp2_with (at_builtin;refine wpList_append_lies _ rfl (.tmp 36) (.tmp 38) 60 rfl w.heap.size 3 i0 (.int .i64 0) 1 8 Tryz.underlying60 hi0 hz0 hz1 hz2 rfl (by decide) (.slice ao k cap) (k) (hf.dcells k ((u:Int)- v)) rfl (World.ownsRow.alloc hown _) ⟨wr.heap.size,0,none⟩ 1 1 [.int .i64 (X- C)] rfl rfl (cell_one_new _ _ _) (ints_oneCell .i64 [X- C]) (by decide) (by unfold maxLen;omega) (by omega) (by simp;omega) _ rfl ?_;intro g' cap' w4 hown4 hgrow4 hat4 hlt4)
     go_roundw
     case rel=>exact HN.out _ w4 g' cap' hown4 ((Below.refl _ _).alloc (Nat.le_refl _) _) hgrow4
     case measure=>simp [intOf];omega
  ·obtain rfl:k=lu:=by omega
   rw [HE.out]at hown
   clear hC hX hY
   go_wp2_with (go_at_call 156;refine(rtrim_own _ _ _ (u- v) _ _ hown HS.out).mono ?_;rintro e w' ⟨rfl,hw,hown5⟩;subst hw)
   go_ret
   exact⟨_,cap,rfl,hown5,hbel⟩
def RMulIn(w:World)(b N lv i:Nat)(O x v:Int)(c kv:Value)(wr:World):Prop:= ∃ k:Nat,k≤lv∧kv= .int .i64 (k:Int)∧c= .int .i64 (hf.cy O x v i k)∧Own wr w.heap.size 3 (some ⟨b,0,none⟩) N N (hf.mix N (i+k) (O+x*65536^i*v) O)∧Below w.heap.size w wr
theorem rmul_next{w wr:World}{b N lv i k n:Nat}{O x v t:Int}(hk:k<lv)(hN:i+lv≤N)(ht:t=hf.cy O x v i k+hf.dg O (i+k)+x*hf.dg v k)(hown:Own wr w.heap.size 3 (some ⟨b,0,none⟩) N N (hf.mix N (i+k) (O+x*65536^i*v) O))(hbel:Below w.heap.size w wr):
  RMulIn w b N lv i O x v (.int .i64 (t/65536)) (.int .i64 ((k:Int)+1)) ((wr.drewN n).setCell ⟨b,i+k,none⟩ (.int .i64 (t % 65536))):=by
 have hown':Own (wr.drewN n) w.heap.size 3 (some ⟨b,0,none⟩) N N (hf.mix N (i+k) (O+x*65536^i*v) O):=hown
 refine⟨k+1,hk,by simp,by rw [ht,hf.cy_succ],?_,(below_drewN hbel n).setCell (seg_of_own hown).2.2 _⟩
 rw [ht,hf.mul_digit,←Nat.add_assoc,←hf.mix_set]
 exact Own.set hown' _ (by omega)
def RMulOut(w:World)(b lu lv u v:Nat)(iv:Value)(wr:World):Prop:= ∃ i:Nat,i≤lu∧iv= .int .i64 (i:Int)∧Own wr w.heap.size 3 (some ⟨b,0,none⟩) (lu+lv) (lu+lv) (hf.dcells (lu+lv) ((u % 65536^i*v:Nat):Int))∧Below w.heap.size w wr
theorem hpart_lt{u v k lb:Nat}(hv:v<65536^lb):u % 65536^k*v<65536^(k+lb):=by
 rw [Nat.pow_add]
 exact Nat.mul_lt_mul_of_lt_of_le (Nat.mod_lt _ (hf.pow_nat k)) (Nat.le_of_lt hv) (hf.pow_nat lb)
theorem hpart_next(u v k:Nat):((u % 65536^k*v:Nat):Int)+hf.dg u k*65536^k*v=((u % 65536^(k+1)*v:Nat):Int):=by
 rw [Int.natCast_mul,Int.natCast_mul,Int.natCast_emod,Int.natCast_emod,hf.pow_cast,hf.pow_cast]
 exact hf.mul_next u v k
theorem rmul_last{w wr:World}{b lu lv u v i:Nat}{c O X:Int}(hO:O=((u % 65536^i*v:Nat):Int))(hX:X=hf.dg (u:Int) i)(hi:i<lu)(hv:v<65536^lv)(hc:c=hf.cy O X v i lv)
  (hown:Own wr w.heap.size 3 (some ⟨b,0,none⟩) (lu+lv) (lu+lv) (hf.mix (lu+lv) (i+lv) (O+X*65536^i*v) O)) (hbel:Below w.heap.size w wr):
  RMulOut w b lu lv u v (.int .i64 ((i:Int)+1)) (wr.setCell ⟨b,i+lv,none⟩ (.int .i64 c)):=by
 subst hO hX
 refine⟨i+1,hi,by simp,?_,hbel.setCell (seg_of_own hown).2.2 _⟩
 have hd:=hf.mul_digit ((u % 65536^i*v:Nat):Int) (hf.dg u i) v i lv
 have h0:hf.dg ((u % 65536^i*v:Nat):Int) (i+lv)=0:=hf.dg_over (hpart_lt hv)
 have h1:hf.dg (v:Int) lv=0:=hf.dg_over hv
 have hr:=hf.cy_range ((u % 65536^i*v:Nat):Int) (hf.dg u i) v i lv (hf.dg_range u i).1 (hf.dg_range u i).2
 rw [h0,h1,←hc,Int.mul_zero]at hd
 rw [←hc]at hr
 have hc2:c=hf.dg (((u % 65536^i*v:Nat):Int)+hf.dg u i*65536^i*v) (i+lv):=by rw [←hd];omega
 have:=Own.set hown (i:=i+lv) (.int .i64 c) (by omega)
 rw [hc2,hf.mix_set]at this
 rw [hc2]
 have e:hf.mix (lu+lv) (i+lv+1) (((u % 65536^i*v:Nat):Int)+hf.dg u i*65536^i*v) ((u % 65536^i*v:Nat):Int)=hf.dcells (lu+lv) ((u % 65536^(i+1)*v:Nat):Int):=by
  rw [←hpart_next,←hf.mix_full (lu+lv) (((u % 65536^i*v:Nat):Int)+hf.dg u i*65536^i*v) ((u % 65536^i*v:Nat):Int)]
  refine hf.fill_congr fun j hj=>?_
  by_cases h:j<i+lv+1
  ·simp [h,hj]
  ·have z1:hf.dg ((u % 65536^i*v:Nat):Int) j=0:=hf.dg_over (Nat.lt_of_lt_of_le (hpart_lt hv) (Nat.pow_le_pow_right (by decide) (by omega)))
   have z2:hf.dg (((u % 65536^i*v:Nat):Int)+hf.dg u i*65536^i*v) j=0:=by
    rw [hpart_next]
    exact hf.dg_over (Nat.lt_of_lt_of_le (hpart_lt hv) (Nat.pow_le_pow_right (by decide) (by omega)))
   rw [z1,z2];simp
 rw [←e]
 exact this
theorem rmul_any(a b:Option Addr)(ca cb u v:Nat)(w:World)(ha:Sl w a (hf.nlen u) ca (hf.dcells (hf.nlen u) (u:Int)))(hb:Sl w b (hf.nlen v) cb (hf.dcells (hf.nlen v) (v:Int)))(hlu:hf.nlen u≤1000000000)(hlv:hf.nlen v≤1000000000):
  Calls Tryz.prog 159 #[.slice a (hf.nlen u) ca, .slice b (hf.nlen v) cb] w fun e w'=> ∃ a' cap',e= .returned (.slice a' (hf.nlen (u*v)) cap')∧Own w' w.heap.size 3 a' (hf.nlen (u*v)) cap' (hf.dcells (hf.nlen (u*v)) ((u*v:Nat):Int))∧Below w.heap.size w w':=by
 obtain⟨i0,hi0,hz0,hz1,hz2⟩:=info_parts infoInt
 have hu:=hf.nlen_lt u
 have hv:=hf.nlen_lt v
 obtain⟨lu,hlu'⟩: ∃ l,hf.nlen u=l:=⟨_,rfl⟩
 obtain⟨lv,hlv'⟩: ∃ l,hf.nlen v=l:=⟨_,rfl⟩
 rw [hlu']at ha hlu hu ⊢
 rw [hlv']at hb hlv hv ⊢
 have HM:Hid (u % 65536^lu=u):=Nat.mod_eq_of_lt hu
 have HV:Hid _:=hv
 have HS:Hid (u*v<65536^(lu+lv)):=by have:=hpart_lt (u:=u) (k:=lu) hv;rwa [HM.out]at this
 have hz0':hf.dcells (lu+lv) 0=List.replicate (lu+lv) (.int .i64 0):=hf.dcells_zero _
 have HZ:Hid _:=hz0'
 have hmax:lu+lv≤maxLen:=by unfold maxLen;omega
 clear hu hv hlu' hlv' hz0'
 go_enter Tryz.func159,Tryz.ntmps159
 go_wp2_with (at_make;refine make_any _ rfl (.tmp 13) (.tmp 13) 60 rfl w.heap.size 3 i0 (.int .i64 0) Tryz.underlying60 hi0 hz0 hz1 rfl .i64 .i64 _ _ (lu+lv) rfl rfl (by simp) (by simp) (by rw [hz2];omega) (by omega) (Nat.le_refl _) ?_;intro w1 hown hbel)
 rw [←HZ.out]at hown
 go_loopw [6] (fun iv wr=>RMulOut w w.heap.size lu lv u v iv wr) (fun iv _=>lu- (intOf iv).toNat)
 case atStart=>exact⟨0,by omega,rfl,by rw [Nat.pow_zero,Nat.mod_one,Nat.zero_mul];exact hown,hbel⟩
 case round=>
  clear hown hbel
  obtain⟨i,hi,rfl,hown,hbel⟩:=hrel
  by_cases hlt:i<lu
  ·obtain⟨ba,oa,rfl,hba,hsa⟩:=ha.at (by omega)
   have r1:=ha.room
   obtain⟨X,hX⟩: ∃ X,X=hf.dg (u:Int) i:=⟨_,rfl⟩
   obtain⟨O,hO⟩: ∃ O,O=((u % 65536^i*v:Nat):Int):=⟨_,rfl⟩
   obtain⟨x0,x1⟩:=hf.dg_range u i
   have c0:w.cell? ⟨ba,oa+i,none⟩=some (.int .i64 X):=by rw [hX];exact hsa.cell i _ (hf.dcells_at _ _ _ hlt)
   rw [←hX]at x0 x1
   have HI:Hid (RMulIn w w.heap.size (lu+lv) lv i O X v (.int .i64 0) (.int .i64 0) wr):=⟨0,by omega,rfl,by rw [hf.cy_zero],by rw [Nat.add_zero,hf.mix_start,hO];exact hown,hbel⟩
   have HL:Hid _:=fun(wr:World) (c:Int)=>rmul_last (w:=w) (wr:=wr) (b:=w.heap.size) (c:=c) hO hX hlt HV.out
   clear hown hbel hX hO
   go_wp2
   go_loopw [7,8] (fun c kv wr=>RMulIn w w.heap.size (lu+lv) lv i O X v c kv wr) (fun _ kv _=>lv- (intOf kv).toNat)
   case atStart=>exact HI.out
   case round=>
    obtain⟨k,hk,rfl,rfl,hown,hbel⟩:=hrel
    obtain⟨f0,f1⟩:=hf.cy_range O X v i k x0 x1
    by_cases hlk:k<lv
    ·obtain⟨bb,ob,rfl,hbb,hsb⟩:=hb.at (by omega)
     have r2:=hb.room
     have c1:wr.cell? ⟨ba,oa+i,none⟩=some (.int .i64 X):=(hbel.cell (p:=⟨ba,oa+i,none⟩) hba).trans c0
     have c2:wr.cell? ⟨bb,ob+k,none⟩=some (.int .i64 (hf.dg v k)):=(hbel.cell (p:=⟨bb,ob+k,none⟩) hbb).trans (hsb.cell k _ (hf.dcells_at _ _ _ hlk))
     have c3:wr.cell? ⟨w.heap.size,i+k,none⟩=some (.int .i64 (hf.dg O (i+k))):=Own.cell hown _ _ (hf.mix_at _ _ _ _ _ (by omega) (Nat.le_refl _))
     have c4:wr.frozen? ⟨w.heap.size,i+k,none⟩=false:=Own.free hown _ (by omega)
     obtain⟨d0,d1⟩:=hf.dg_range v k
     obtain⟨e0,e1⟩:=hf.dg_range O (i+k)
     have HN:Hid _:=fun n=>rmul_next (n:=n) hlk (by omega) rfl hown hbel
     obtain⟨C,hC⟩: ∃ C,hf.cy O X v i k=C:=⟨_,rfl⟩
     obtain⟨Y,hY⟩: ∃ Y,hf.dg (v:Int) k=Y:=⟨_,rfl⟩
     obtain⟨D,hD⟩: ∃ D,hf.dg O (i+k)=D:=⟨_,rfl⟩
     rw [hC]at f0 f1 HN ⊢
     rw [hY]at c2 d0 d1 HN
     rw [hD]at c3 e0 e1 HN
     have m0:0≤X*Y:=Int.mul_nonneg x0 d0
     have m1:X*Y≤4294836225:=by have:=Int.mul_le_mul (show X≤65535 by omega) (show Y≤65535 by omega) d0 (by decide);omega
     clear hown hC hY hD
     go_wp2
     go_quiet (fail)
     go_wp2
     go_roundw
     case rel=>exact HN.out _
     case measure=>simp [intOf];omega
    ·obtain rfl:k=lv:=by omega
     have c3:wr.cell? ⟨w.heap.size,i+k,none⟩=some (.int .i64 (hf.dg O (i+k))):=Own.cell hown _ _ (hf.mix_at _ _ _ _ _ (by omega) (Nat.le_refl _))
     have c4:wr.frozen? ⟨w.heap.size,i+k,none⟩=false:=Own.free hown _ (by omega)
     have HN:Hid _:=HL.out wr _ rfl hown hbel
     clear hown
     go_wp2
     go_roundw
     case rel=>exact HN.out
     case measure=>simp [intOf];omega
  ·obtain rfl:i=lu:=by omega
   rw [HM.out]at hown
   go_wp2_with (go_at_call 156;refine(rtrim_own _ _ _ (u*v) _ _ hown HS.out).mono ?_;rintro e w' ⟨rfl,hw,hown5⟩;subst hw)
   go_ret
   exact⟨_,_,rfl,hown5,hbel⟩
structure HD(w:World)(a:Option Addr)(l c u:Nat):Prop where
 sl:Sl w a l c (hf.dcells l (u:Int))
 len:l=hf.nlen u
theorem HD.below{w w':World}{a:Option Addr}{l c u:Nat}(h:HD w a l c u)(hb:Below w.heap.size w w'):HD w' a l c u:=⟨h.sl.below hb,h.len⟩
theorem hd_nil(w:World):HD w none 0 0 0:=⟨sl_nil w,hf.nlen_zero.symm⟩
theorem hfew{u K:Nat}(hu:u<4294967296^K)(hK:K≤500000):hf.nlen u≤1000000:=by
 have:hf.nlen u≤2*K:=hf.nlen_le (by rw [pow_halves];exact hu)
 omega
theorem hCmp(a b:Option Addr)(la lb ca cb u v:Nat)(w:World)(ha:HD w a la ca u)(hb:HD w b lb cb v){c:Int}(hc:c=cmpI u v):Calls Tryz.prog 154 #[.slice a la ca, .slice b lb cb] w fun e w'=>e= .returned (.int .i64 c)∧Below w.heap.size w w':=by
 obtain⟨ha,rfl⟩:=ha
 obtain⟨hb,rfl⟩:=hb
 subst hc
 exact rcmp_any a b ca cb u v w ha hb
theorem HD.put{w:World}{a:Option Addr}{l c u b:Nat}(h:HD w a l c u)(hn:NA b a l)(i:Nat)(v:Value):HD (w.setCell ⟨b,i,none⟩ v) a l c u:=⟨h.sl.put hn i v,h.len⟩
def GotHF(w:World)(u:Nat)(e:Ending)(w':World):Prop:= ∃ a l c,e= .returned (.slice a l c)∧HD w' a l c u∧Far w.heap.size a l∧Below w.heap.size w w'
theorem gotHF{w w':World}{u:Nat}{e:Ending}(h: ∃ a' cap',e= .returned (.slice a' (hf.nlen u) cap')∧Own w' w.heap.size 3 a' (hf.nlen u) cap' (hf.dcells (hf.nlen u) (u:Int))∧Below w.heap.size w w'):GotHF w u e w':=by
 obtain⟨a,c,he,ho,hb⟩:=h
 exact⟨a,_,c,he,⟨Own.sl ho,rfl⟩,Own.far ho,hb⟩
theorem hfOf(a:Option Addr)(l c u:Nat)(w:World)(h:NI w a l c u):Calls Tryz.prog 91 #[.slice a l c] w (GotHF w u):=
 (rof_any a l c u w h.sl h.lt (by have:=h.few;omega)).mono fun _ _ h=>gotHF h
theorem hfAdd(a b:Option Addr)(la lb ca cb u v:Nat)(w:World)(ha:HD w a la ca u)(hb:HD w b lb cb v)(fu:hf.nlen u≤1000000)(fv:hf.nlen v≤1000000):Calls Tryz.prog 153 #[.slice a la ca, .slice b lb cb] w (GotHF w (u+v)):=by
 obtain⟨ha,rfl⟩:=ha
 obtain⟨hb,rfl⟩:=hb
 exact(radd_any a b ca cb u v w ha hb (by omega) (by omega)).mono fun _ _ h=>gotHF h
theorem hfSub(a b:Option Addr)(la lb ca cb u v:Nat)(w:World)(ha:HD w a la ca u)(hb:HD w b lb cb v)(fu:hf.nlen u≤1000000)(fv:hf.nlen v≤1000000)(hle:v≤u):Calls Tryz.prog 155 #[.slice a la ca, .slice b lb cb] w (GotHF w (u- v)):=by
 obtain⟨ha,rfl⟩:=ha
 obtain⟨hb,rfl⟩:=hb
 exact(rsub_any a b ca cb u v w ha hb (by omega) (by omega) hle).mono fun _ _ h=>gotHF h
theorem hfMul(a b:Option Addr)(la lb ca cb u v:Nat)(w:World)(ha:HD w a la ca u)(hb:HD w b lb cb v)(fu:hf.nlen u≤1000000)(fv:hf.nlen v≤1000000):Calls Tryz.prog 159 #[.slice a la ca, .slice b lb cb] w (GotHF w (u*v)):=by
 obtain⟨ha,rfl⟩:=ha
 obtain⟨hb,rfl⟩:=hb
 exact(rmul_any a b ca cb u v w ha hb (by omega) (by omega)).mono fun _ _ h=>gotHF h
structure RN(w:World)(s:Int)(d:Option Addr)(l c:Nat)(z:Int):Prop where
 hd:HD w d l c z.natAbs
 sg:s=z.sign
theorem RN.below{w w':World}{s:Int}{d:Option Addr}{l c:Nat}{z:Int}(h:RN w s d l c z)(hb:Below w.heap.size w w'):RN w' s d l c z:=⟨h.hd.below hb,h.sg⟩
theorem RN.put{w:World}{s:Int}{d:Option Addr}{l c b:Nat}{z:Int}(h:RN w s d l c z)(hn:NA b d l)(i:Nat)(v:Value):RN (w.setCell ⟨b,i,none⟩ v) s d l c z:=⟨h.hd.put hn i v,h.sg⟩
theorem RN.put2{w:World}{s:Int}{d:Option Addr}{l c b:Nat}{z:Int}(h:RN w s d l c z)(hn:NA b d l)(u v:Value):RN ((w.setCell ⟨b,0,none⟩ u).setCell ⟨b,1,none⟩ v) s d l c z:=(h.put hn 0 u).put hn 1 v
def GotR(w:World)(P:Nat→Prop)(z:Int)(e:Ending)(w':World):Prop:= ∃ (s:Int) (d:Option Addr) (l c:Nat),e= .returned (.agg #[.int .i64 s, .slice d l c])∧RN w' s d l c z∧(∀ k,k<w.heap.size→P k→NA k d l)∧Below w.heap.size w w'
theorem endR{w w2:World}{s:Int}{d:Option Addr}{l c:Nat}{z:Int}{P:Nat→Prop}(k:Nat)(hk:w.heap.size≤k)(B:Below w.heap.size w w2)(h:RN w2 s d l c z)(hn:NA k d l)(hf: ∀ j,j<w.heap.size→P j→NA j d l)(u v:Value):
  GotR w P z (.returned (.agg #[.int .i64 s, .slice d l c])) ((w2.setCell ⟨k,0,none⟩ u).setCell ⟨k,1,none⟩ v):=
 ⟨s,d,l,c,rfl,h.put2 hn u v,hf,below_put2 B hk u v⟩
theorem rn_zero(w:World)(c:Nat):RN w 0 none 0 0 0:=⟨hd_nil w,rfl⟩
theorem HD.pos{w:World}{d:Option Addr}{l c u:Nat}(h:HD w d l c u):l=0↔u=0:=by
 rw [h.len]
 constructor
 ·intro e
  rcases Nat.eq_zero_or_pos u with z|z
  ·exact z
  ·have:=hf.nlen_pos z;omega
 ·rintro rfl;exact hf.nlen_zero
theorem sign_pos{x:Int}(h:0<x):x.sign=1:=Int.sign_eq_one_of_pos h
theorem sign_neg{x:Int}(h:x<0):x.sign= -1:=Int.sign_eq_neg_one_of_neg h
theorem sign_nul{x:Int}:x.sign=0↔x=0:=Int.sign_eq_zero_iff_zero
theorem sign_cases(x:Int):(x<0∧x.sign= -1)∨(x=0∧x.sign=0)∨(0<x∧x.sign=1):=by
 rcases Int.lt_trichotomy x 0 with h|h|h
 ·exact Or.inl ⟨h,sign_neg h⟩
 ·exact Or.inr (Or.inl ⟨h,sign_nul.2 h⟩)
 ·exact Or.inr (Or.inr ⟨h,sign_pos h⟩)
theorem rwMake(s:Int)(d:Option Addr)(l c u:Nat)(z:Int)(w:World)(hd:HD w d l c u)(hu:u=z.natAbs)(hs:z≠0→s=z.sign):
  Calls Tryz.prog 88 #[.int .i64 s, .slice d l c] w (GotR w (fun k=>NA k d l) z):=by
 subst hu
 have B0:Below w.heap.size w (w.alloc (.cells #[.int .i64 0, .slice none 0 0] 94)):=(Below.refl _ _).alloc (Nat.le_refl _) _
 have h0:=hd.below B0
 by_cases hz:z=0
 ·obtain rfl:l=0:=hd.pos.2 (by rw [hz];rfl)
  subst hz
  go_enter Tryz.func88,Tryz.ntmps88
  go_wp2
  exact bodyPost_ret (v:= .agg #[.int .i64 0, .slice none 0 0]) (by simp [results,Tryz.results88,go_sem, *]) rfl ⟨0,none,0,0,rfl,rn_zero _ 0,fun _ _ _=>Or.inl rfl,(Below.refl _ _).alloc (Nat.le_refl _) _⟩
 ·have hl: ¬(l:Int)=0:=by have:=hd.pos;omega
  have hsz:=hs hz
  go_enter Tryz.func88,Tryz.ntmps88
  have HS:Hid _:=hsz
  clear hs hsz
  go_wp2
  have B1:Below w.heap.size w (w.alloc (.cells #[.int .i64 s, .slice d l c] 94)):=(Below.refl _ _).alloc (Nat.le_refl _) _
  exact bodyPost_ret (v:= .agg #[.int .i64 s, .slice d l c]) (by simp [results,Tryz.results88,go_sem, *]) rfl ⟨s,d,l,c,rfl,⟨hd.below B1,HS.out⟩,fun _ _ h=>h,B1⟩
theorem rwNeg(s:Int)(d:Option Addr)(l c:Nat)(x z:Int)(w:World)(hd:RN w s d l c x)(hz:z= -x):
  Calls Tryz.prog 158 #[.agg #[.int .i64 s, .slice d l c]] w (GotR w (fun k=>NA k d l) z):=by
 have hs:=hd.sg
 obtain⟨t,ht⟩: ∃ t,t=0- s:=⟨_,rfl⟩
 have hb: -1≤s∧s≤1:=by rcases sign_cases x with⟨_,e⟩|⟨_,e⟩|⟨_,e⟩<;>omega
 obtain⟨hb1,hb2⟩:=hb
 have hh:HD w d l c z.natAbs:=by rw [hz,Int.natAbs_neg];exact hd.hd
 have HT:Hid (0- s=z.sign):=by unfold Hid;rw [hz,Int.sign_neg,hs];omega
 have B1:Below w.heap.size w ((w.alloc (.cells #[.int .i64 s, .slice d l c] 94)).alloc (.cells #[.int .i64 (-s), .slice d l c] 94)):=((Below.refl _ _).alloc (Nat.le_refl _) _).alloc (by simp) _
 clear ht hs
 go_enter Tryz.func158,Tryz.ntmps158
 go_wp2
 exact bodyPost_ret (v:= .agg #[.int .i64 (-s), .slice d l c]) (by simp [results,Tryz.results158,go_sem, *]) rfl ⟨-s,d,l,c,rfl,⟨hh.below B1,by have:=HT.out;omega⟩,fun _ _ h=>h,B1⟩
theorem rwAdd(s t:Int)(d e:Option Addr)(l c m k:Nat)(x y z:Int)(w:World)(hx:RN w s d l c x)(hy:RN w t e m k y)(fx:hf.nlen x.natAbs≤1000000)(fy:hf.nlen y.natAbs≤1000000)(hz:z=x+y):Calls Tryz.prog 157 #[.agg #[.int .i64 s, .slice d l c], .agg #[.int .i64 t, .slice e m k]] w (GotR w (fun k'=>NA k' d l∧NA k' e m) z):=by
 obtain⟨B0,xa,xb,xz,hs⟩:=box2 w (.int .i64 s) (.slice d l c) (.int .i64 t) (.slice e m k) (.int .i64 0) (.slice none 0 0) 94 94 94
 have es:=hx.sg
 have et:=hy.sg
 by_cases h1:x=0
 ·obtain rfl:s=0:=by rw [es,h1];rfl
  obtain rfl:z=y:=by omega
  clear es et
  obtain⟨k0,k1,k2,k3⟩:=xz
  go_enter Tryz.func157,Tryz.ntmps157
  go_wp2
  obtain⟨B9,_,_,_,_⟩:=box2 w (.int .i64 0) (.slice d l c) (.int .i64 t) (.slice e m k) (.int .i64 t) (.slice e m k) 94 94 94
  exact bodyPost_ret (v:= .agg #[.int .i64 t, .slice e m k]) (by simp [results,Tryz.results157,go_sem, *]) rfl ⟨t,e,m,k,rfl,hy.below B9,fun _ _ h=>h.2,B9⟩
 have s0: ¬s=0:=by rw [es,sign_nul];exact h1
 by_cases h2:y=0
 ·obtain rfl:t=0:=by rw [et,h2];rfl
  obtain rfl:z=x:=by omega
  clear es et
  obtain⟨k0,k1,k2,k3⟩:=xz
  go_enter Tryz.func157,Tryz.ntmps157
  go_wp2
  obtain⟨B9,_,_,_,_⟩:=box2 w (.int .i64 s) (.slice d l c) (.int .i64 0) (.slice e m k) (.int .i64 s) (.slice d l c) 94 94 94
  exact bodyPost_ret (v:= .agg #[.int .i64 s, .slice d l c]) (by simp [results,Tryz.results157,go_sem, *]) rfl ⟨s,d,l,c,rfl,hx.below B9,fun _ _ h=>h.1,B9⟩
 have t0: ¬t=0:=by rw [et,sign_nul];exact h2
 by_cases h3:s=t
 ·have HU:Hid (x.natAbs+y.natAbs=z.natAbs):=by
   unfold Hid
   rcases sign_cases x with⟨a,b⟩|⟨a,b⟩|⟨a,b⟩<;>rcases sign_cases y with⟨a',b'⟩|⟨a',b'⟩|⟨a',b'⟩<;>omega
  have HS:Hid (s=z.sign):=by
   unfold Hid
   rcases sign_cases x with⟨a,b⟩|⟨a,b⟩|⟨a,b⟩<;>rcases sign_cases y with⟨a',b'⟩|⟨a',b'⟩|⟨a',b'⟩<;>rcases sign_cases z with⟨a2,b2⟩|⟨a2,b2⟩|⟨a2,b2⟩<;>omega
  clear es et hz
  subst h3
  replace B0:=B0.drew
  replace xa:=xa.drew
  replace xb:=xb.drew
  replace xz:=xz.drew
  go_enter Tryz.func157,Tryz.ntmps157
  go_wp2
  refine wp_region_held_drew (S:=(fun w'=>w'.cell? ⟨w.heap.size,0,none⟩=some (.int .i64 s)∧w'.cell? ⟨w.heap.size,1,none⟩=some (.slice d l c)∧w'.cell? ⟨w.heap.size+1,0,none⟩=some (.int .i64 s)∧w'.cell? ⟨w.heap.size+1,1,none⟩=some (.slice e m k)∧Below w.heap.size w w')) (by kernel_rfl) ?_ (fun hHeld=>?_)
  ·first|exact keepB2 hHeld b2|exact keepB2 hHeld b1|exact⟨xa.c0,xa.c1,xb.c0,xb.c1,B0⟩|exact keepS2 hHeld (by omega) (by omega) _ _
  refine tn 0 ?_;refine tn 1 ?_;refine tn 2 ?_;refine tn 3 ?_;refine tn 4 ?_;refine tn 5 ?_
  simp only [Act.put,ps1,ps2,ps3]
  refine take_call (i:=6) rfl (by kernel_rfl) (fun K hK=>?_)
  go_simp
  first
   |(go_at_call 153;refine(hfAdd d e l m c k _ _ _ (hx.hd.below hHeld.2.2.2.2) (hy.hd.below hHeld.2.2.2.2) fx fy).mono ?_;rintro e' w1 ⟨a1,l1,c1,rfl,h1,f1,b1⟩)
  refine hK.out _ _ ?_ (fun hHeld=>?_)
  ·first|exact keepB2 hHeld b2|exact keepB2 hHeld b1|exact⟨xa.c0,xa.c1,xb.c0,xb.c1,B0⟩|exact keepS2 hHeld (by omega) (by omega) _ _
  clear hK K
  refine tz (i:=7) rfl ?_
  simp only [Act.put,ps1,ps2,ps3]
  obtain⟨k0,k1,k2,k3⟩:=xz.on b1
  refine take_call (i:=8) rfl (by kernel_rfl) (fun K hK=>?_)
  go_simp
  refine hK.out _ _ ?_ (fun hHeld=>?_)
  ·first|exact keepB2 hHeld b2|exact keepB2 hHeld b1|exact⟨xa.c0,xa.c1,xb.c0,xb.c1,B0⟩|exact keepS2 hHeld (by omega) (by omega) _ _
  clear hK K
  refine wpAnyH_done (by kernel_rfl) ?_ _
  go_wp2
  rw [HU.out]at h1
  exact bodyPost_ret (v:= .agg #[.int .i64 s, .slice a1 l1 c1]) (by simp [results,Tryz.results157,go_sem, *]) rfl (endR _ (by omega) (also B0 b1) ⟨h1,HS.out⟩ (f1 _ hs) (fun j hj _=>f1 j (Nat.lt_of_lt_of_le hj B0.size)) _ _)
 ·have h3':(s==t)=false:=by simpa using h3
  have HC: ∃ c',c'=cmpI (x.natAbs:Int) y.natAbs:=⟨_,rfl⟩
  obtain⟨g,hg⟩:=HC
  have HG:Hid _:=hg
  by_cases hle:y.natAbs≤x.natAbs
  ·have g0:0≤g:=by rw [hg];unfold cmpI;rw [if_neg (by omega)];split<;>decide
   have HU:Hid (x.natAbs- y.natAbs=z.natAbs):=by
    unfold Hid
    rcases sign_cases x with⟨a,b⟩|⟨a,b⟩|⟨a,b⟩<;>rcases sign_cases y with⟨a',b'⟩|⟨a',b'⟩|⟨a',b'⟩<;>omega
   have HS:Hid (z≠0→s=z.sign):=fun hz0=>by
    rcases sign_cases x with⟨a,b⟩|⟨a,b⟩|⟨a,b⟩<;>rcases sign_cases y with⟨a',b'⟩|⟨a',b'⟩|⟨a',b'⟩<;>rcases sign_cases z with⟨a2,b2⟩|⟨a2,b2⟩|⟨a2,b2⟩<;>omega
   clear es et hz hg h3
   go_enter Tryz.func157,Tryz.ntmps157
   go_wp2_with (go_at_call 154;fail)
   refine(hCmp d e l m c k _ _ _ (hx.hd.below B0) (hy.hd.below B0) HG.out).mono ?_
   rintro e' w1 ⟨rfl,b1⟩
   replace B0:=(also B0 b1).drew
   replace xa:=(xa.on b1).drew
   replace xb:=(xb.on b1).drew
   replace xz:=(xz.on b1).drew
   obtain⟨k0,k1,k2,k3⟩:=xa
   obtain⟨j0,j1,j2,j3⟩:=xb
   have xa:Bx _ _ _ _:=⟨k0,k1,k2,k3⟩
   have xb:Bx _ _ _ _:=⟨j0,j1,j2,j3⟩
   go_wp2
   refine wp_region_held_drew (S:=(fun w'=>w'.cell? ⟨w.heap.size,0,none⟩=some (.int .i64 s)∧w'.cell? ⟨w.heap.size,1,none⟩=some (.slice d l c)∧w'.cell? ⟨w.heap.size+1,0,none⟩=some (.int .i64 t)∧w'.cell? ⟨w.heap.size+1,1,none⟩=some (.slice e m k)∧Below w.heap.size w w')) (by kernel_rfl) ?_ (fun hHeld=>?_)
   ·first|exact keepB2 hHeld b3|exact keepB2 hHeld b2|exact keepB2 hHeld b1|exact⟨xa.c0,xa.c1,xb.c0,xb.c1,B0⟩|exact keepS2 hHeld (by omega) (by omega) _ _
   refine tn 0 ?_;refine tn 1 ?_;refine tn 2 ?_;refine tn 3 ?_;refine tn 4 ?_;refine tn 5 ?_
   simp only [Act.put,ps1,ps2,ps3]
   refine take_call (i:=6) rfl (by kernel_rfl) (fun K hK=>?_)
   go_simp
   first
   |(go_at_call 155;refine(hfSub d e l m c k _ _ _ (hx.hd.below hHeld.2.2.2.2) (hy.hd.below hHeld.2.2.2.2) fx fy hle).mono ?_;rintro e' w2 ⟨a1,l1,c1,rfl,h1,f1,b2⟩)
   |(go_at_call 88;refine(rwMake s a1 l1 c1 _ z _ h1 HU.out HS.out).mono ?_;rintro e' w3 ⟨s3,a3,l3,c3,rfl,h3,f3,b3⟩)
   refine hK.out _ _ ?_ (fun hHeld=>?_)
   ·first|exact keepB2 hHeld b3|exact keepB2 hHeld b2|exact keepB2 hHeld b1|exact⟨xa.c0,xa.c1,xb.c0,xb.c1,B0⟩|exact keepS2 hHeld (by omega) (by omega) _ _
   clear hK K
   refine take_call (i:=7) rfl (by kernel_rfl) (fun K hK=>?_)
   go_simp
   first
   |(go_at_call 155;refine(hfSub d e l m c k _ _ _ (hx.hd.below hHeld.2.2.2.2) (hy.hd.below hHeld.2.2.2.2) fx fy hle).mono ?_;rintro e' w2 ⟨a1,l1,c1,rfl,h1,f1,b2⟩)
   |(go_at_call 88;refine(rwMake s a1 l1 c1 _ z _ h1 HU.out HS.out).mono ?_;rintro e' w3 ⟨s3,a3,l3,c3,rfl,h3,f3,b3⟩)
   refine hK.out _ _ ?_ (fun hHeld=>?_)
   ·first|exact keepB2 hHeld b3|exact keepB2 hHeld b2|exact keepB2 hHeld b1|exact⟨xa.c0,xa.c1,xb.c0,xb.c1,B0⟩|exact keepS2 hHeld (by omega) (by omega) _ _
   clear hK K
   obtain⟨k0,k1,k2,k3⟩:=(xz.on b2).on b3
   refine take_call (i:=8) rfl (by kernel_rfl) (fun K hK=>?_)
   go_simp
   refine hK.out _ _ ?_ (fun hHeld=>?_)
   ·first|exact keepB2 hHeld b3|exact keepB2 hHeld b2|exact keepB2 hHeld b1|exact⟨xa.c0,xa.c1,xb.c0,xb.c1,B0⟩|exact keepS2 hHeld (by omega) (by omega) _ _
   clear hK K
   refine wpAnyH_done (by kernel_rfl) ?_ _
   go_wp2
   exact bodyPost_ret (v:= .agg #[.int .i64 s3, .slice a3 l3 c3]) (by simp [results,Tryz.results157,go_sem, *]) rfl (endR _ (by omega) (also (also B0 b2) b3) h3 (f3 _ (Nat.lt_of_lt_of_le (Nat.lt_of_lt_of_le hs b1.size) b2.size) (f1 _ (Nat.lt_of_lt_of_le hs b1.size))) (fun j hj _=>f3 j (Nat.lt_of_lt_of_le hj (Nat.le_trans B0.size b2.size)) (f1 j (Nat.lt_of_lt_of_le hj B0.size))) _ _)
  ·have hlt:x.natAbs<y.natAbs:=by omega
   replace hle:x.natAbs≤y.natAbs:=by omega
   have g0: ¬0≤g:=by rw [hg];unfold cmpI;rw [if_pos (by omega)];decide
   have HU:Hid (y.natAbs- x.natAbs=z.natAbs):=by
    unfold Hid
    rcases sign_cases x with⟨a,b⟩|⟨a,b⟩|⟨a,b⟩<;>rcases sign_cases y with⟨a',b'⟩|⟨a',b'⟩|⟨a',b'⟩<;>omega
   have HS:Hid (z≠0→t=z.sign):=fun hz0=>by
    rcases sign_cases x with⟨a,b⟩|⟨a,b⟩|⟨a,b⟩<;>rcases sign_cases y with⟨a',b'⟩|⟨a',b'⟩|⟨a',b'⟩<;>rcases sign_cases z with⟨a2,b2⟩|⟨a2,b2⟩|⟨a2,b2⟩<;>omega
   clear es et hz hg h3
   go_enter Tryz.func157,Tryz.ntmps157
   go_wp2_with (go_at_call 154;fail)
   refine(hCmp d e l m c k _ _ _ (hx.hd.below B0) (hy.hd.below B0) HG.out).mono ?_
   rintro e' w1 ⟨rfl,b1⟩
   replace B0:=(also B0 b1).drew
   replace xa:=(xa.on b1).drew
   replace xb:=(xb.on b1).drew
   replace xz:=(xz.on b1).drew
   obtain⟨k0,k1,k2,k3⟩:=xa
   obtain⟨j0,j1,j2,j3⟩:=xb
   have xa:Bx _ _ _ _:=⟨k0,k1,k2,k3⟩
   have xb:Bx _ _ _ _:=⟨j0,j1,j2,j3⟩
   go_wp2
   refine wp_region_held_drew (S:=(fun w'=>w'.cell? ⟨w.heap.size,0,none⟩=some (.int .i64 s)∧w'.cell? ⟨w.heap.size,1,none⟩=some (.slice d l c)∧w'.cell? ⟨w.heap.size+1,0,none⟩=some (.int .i64 t)∧w'.cell? ⟨w.heap.size+1,1,none⟩=some (.slice e m k)∧Below w.heap.size w w')) (by kernel_rfl) ?_ (fun hHeld=>?_)
   ·first|exact keepB2 hHeld b3|exact keepB2 hHeld b2|exact keepB2 hHeld b1|exact⟨xa.c0,xa.c1,xb.c0,xb.c1,B0⟩|exact keepS2 hHeld (by omega) (by omega) _ _
   refine tn 0 ?_;refine tn 1 ?_;refine tn 2 ?_;refine tn 3 ?_;refine tn 4 ?_;refine tn 5 ?_
   simp only [Act.put,ps1,ps2,ps3]
   refine take_call (i:=6) rfl (by kernel_rfl) (fun K hK=>?_)
   go_simp
   first
   |(go_at_call 155;refine(hfSub e d m l k c _ _ _ (hy.hd.below hHeld.2.2.2.2) (hx.hd.below hHeld.2.2.2.2) fy fx hle).mono ?_;rintro e' w2 ⟨a1,l1,c1,rfl,h1,f1,b2⟩)
   |(go_at_call 88;refine(rwMake t a1 l1 c1 _ z _ h1 HU.out HS.out).mono ?_;rintro e' w3 ⟨s3,a3,l3,c3,rfl,h3,f3,b3⟩)
   refine hK.out _ _ ?_ (fun hHeld=>?_)
   ·first|exact keepB2 hHeld b3|exact keepB2 hHeld b2|exact keepB2 hHeld b1|exact⟨xa.c0,xa.c1,xb.c0,xb.c1,B0⟩|exact keepS2 hHeld (by omega) (by omega) _ _
   clear hK K
   refine take_call (i:=7) rfl (by kernel_rfl) (fun K hK=>?_)
   go_simp
   first
   |(go_at_call 155;refine(hfSub e d m l k c _ _ _ (hy.hd.below hHeld.2.2.2.2) (hx.hd.below hHeld.2.2.2.2) fy fx hle).mono ?_;rintro e' w2 ⟨a1,l1,c1,rfl,h1,f1,b2⟩)
   |(go_at_call 88;refine(rwMake t a1 l1 c1 _ z _ h1 HU.out HS.out).mono ?_;rintro e' w3 ⟨s3,a3,l3,c3,rfl,h3,f3,b3⟩)
   refine hK.out _ _ ?_ (fun hHeld=>?_)
   ·first|exact keepB2 hHeld b3|exact keepB2 hHeld b2|exact keepB2 hHeld b1|exact⟨xa.c0,xa.c1,xb.c0,xb.c1,B0⟩|exact keepS2 hHeld (by omega) (by omega) _ _
   clear hK K
   obtain⟨k0,k1,k2,k3⟩:=(xz.on b2).on b3
   refine take_call (i:=8) rfl (by kernel_rfl) (fun K hK=>?_)
   go_simp
   refine hK.out _ _ ?_ (fun hHeld=>?_)
   ·first|exact keepB2 hHeld b3|exact keepB2 hHeld b2|exact keepB2 hHeld b1|exact⟨xa.c0,xa.c1,xb.c0,xb.c1,B0⟩|exact keepS2 hHeld (by omega) (by omega) _ _
   clear hK K
   refine wpAnyH_done (by kernel_rfl) ?_ _
   go_wp2
   exact bodyPost_ret (v:= .agg #[.int .i64 s3, .slice a3 l3 c3]) (by simp [results,Tryz.results157,go_sem, *]) rfl (endR _ (by omega) (also (also B0 b2) b3) h3 (f3 _ (Nat.lt_of_lt_of_le (Nat.lt_of_lt_of_le hs b1.size) b2.size) (f1 _ (Nat.lt_of_lt_of_le hs b1.size))) (fun j hj _=>f3 j (Nat.lt_of_lt_of_le hj (Nat.le_trans B0.size b2.size)) (f1 j (Nat.lt_of_lt_of_le hj B0.size))) _ _)
theorem rwSub(s t:Int)(d e:Option Addr)(l c m k:Nat)(x y z:Int)(w:World)(hx:RN w s d l c x)(hy:RN w t e m k y)(fx:hf.nlen x.natAbs≤1000000)(fy:hf.nlen y.natAbs≤1000000)(hz:z=x- y):Calls Tryz.prog 89 #[.agg #[.int .i64 s, .slice d l c], .agg #[.int .i64 t, .slice e m k]] w (GotR w (fun k'=>NA k' d l∧NA k' e m) z):=by
 obtain⟨B0,xa,xb,xz,hs⟩:=box2 w (.int .i64 s) (.slice d l c) (.int .i64 t) (.slice e m k) (.int .i64 0) (.slice none 0 0) 94 94 94
 have HZ:Hid (z=x+ -y):=by unfold Hid;omega
 clear hz
 replace B0:=B0.drew
 replace xa:=xa.drew
 replace xb:=xb.drew
 replace xz:=xz.drew
 go_enter Tryz.func89,Tryz.ntmps89
 go_wp2
 refine wp_region_held_drew (S:=(fun w'=>w'.cell? ⟨w.heap.size,0,none⟩=some (.int .i64 s)∧w'.cell? ⟨w.heap.size,1,none⟩=some (.slice d l c)∧w'.cell? ⟨w.heap.size+1,0,none⟩=some (.int .i64 t)∧w'.cell? ⟨w.heap.size+1,1,none⟩=some (.slice e m k)∧Below w.heap.size w w')) (by kernel_rfl) ?_ (fun hHeld=>?_)
 ·first|exact keepB2 hHeld b2|exact keepB2 hHeld b1|exact⟨xa.c0,xa.c1,xb.c0,xb.c1,B0⟩|exact keepS2 hHeld (by omega) (by omega) _ _
 refine tn 0 ?_;refine tn 1 ?_
 simp only [Act.put,ps1,ps2,ps3]
 refine take_call (i:=2) rfl (by kernel_rfl) (fun K hK=>?_)
 go_simp
 first
   |(go_at_call 158;refine(rwNeg t e m k y (-y) _ (hy.below hHeld.2.2.2.2) rfl).mono ?_;rintro e' w1 ⟨s1,a1,l1,c1,rfl,h1,f1,b1⟩)
   |(go_at_call 157;refine(rwAdd s s1 d a1 l c l1 c1 x (-y) z _ (hx.below hHeld.2.2.2.2) h1 fx (by rw [Int.natAbs_neg];exact fy) HZ.out).mono ?_;rintro e' w2 ⟨s2,a2,l2,c2,rfl,h2,f2,b2⟩)
 refine hK.out _ _ ?_ (fun hHeld=>?_)
 ·first|exact keepB2 hHeld b2|exact keepB2 hHeld b1|exact⟨xa.c0,xa.c1,xb.c0,xb.c1,B0⟩|exact keepS2 hHeld (by omega) (by omega) _ _
 clear hK K
 refine take_call (i:=3) rfl (by kernel_rfl) (fun K hK=>?_)
 go_simp
 first
   |(go_at_call 158;refine(rwNeg t e m k y (-y) _ (hy.below hHeld.2.2.2.2) rfl).mono ?_;rintro e' w1 ⟨s1,a1,l1,c1,rfl,h1,f1,b1⟩)
   |(go_at_call 157;refine(rwAdd s s1 d a1 l c l1 c1 x (-y) z _ (hx.below hHeld.2.2.2.2) h1 fx (by rw [Int.natAbs_neg];exact fy) HZ.out).mono ?_;rintro e' w2 ⟨s2,a2,l2,c2,rfl,h2,f2,b2⟩)
 refine hK.out _ _ ?_ (fun hHeld=>?_)
 ·first|exact keepB2 hHeld b2|exact keepB2 hHeld b1|exact⟨xa.c0,xa.c1,xb.c0,xb.c1,B0⟩|exact keepS2 hHeld (by omega) (by omega) _ _
 clear hK K
 obtain⟨k0,k1,k2,k3⟩:=(xz.on b1).on b2
 refine take_call (i:=4) rfl (by kernel_rfl) (fun K hK=>?_)
 go_simp
 refine hK.out _ _ ?_ (fun hHeld=>?_)
 ·first|exact keepB2 hHeld b2|exact keepB2 hHeld b1|exact⟨xa.c0,xa.c1,xb.c0,xb.c1,B0⟩|exact keepS2 hHeld (by omega) (by omega) _ _
 clear hK K
 refine wpAnyH_done (by kernel_rfl) ?_ _
 go_wp2
 have nd:NA (w.heap.size+1+1) d l:=hx.hd.sl.na (by omega)
 have ne:NA (w.heap.size+1+1) e m:=hy.hd.sl.na (by omega)
 exact bodyPost_ret (v:= .agg #[.int .i64 s2, .slice a2 l2 c2]) (by simp [results,Tryz.results89,go_sem, *]) rfl (endR _ (by omega) (also (also B0 b1) b2) h2 (f2 _ (Nat.lt_of_lt_of_le hs b1.size) ⟨nd,f1 _ hs ne⟩) (fun j hj hp=>f2 j (Nat.lt_of_lt_of_le hj (Nat.le_trans B0.size b1.size)) ⟨hp.1,f1 j (Nat.lt_of_lt_of_le hj B0.size) hp.2⟩) _ _)
theorem rwMul(s t:Int)(d e:Option Addr)(l c m k:Nat)(x y z:Int)(w:World)(hx:RN w s d l c x)(hy:RN w t e m k y)(fx:hf.nlen x.natAbs≤1000000)(fy:hf.nlen y.natAbs≤1000000)(hz:z=x*y):Calls Tryz.prog 90 #[.agg #[.int .i64 s, .slice d l c], .agg #[.int .i64 t, .slice e m k]] w (GotR w (fun _=>True) z):=by
 obtain⟨B0,xa,xb,xz,hs⟩:=box2 w (.int .i64 s) (.slice d l c) (.int .i64 t) (.slice e m k) (.int .i64 0) (.slice none 0 0) 94 94 94
 have HU:Hid (x.natAbs*y.natAbs=z.natAbs):=by unfold Hid;rw [hz,Int.natAbs_mul]
 have HS:Hid (z≠0→s*t=z.sign):=fun _=>by rw [hz,Int.sign_mul,hx.sg,hy.sg]
 have es: -1≤s∧s≤1:=by rw [hx.sg];rcases sign_cases x with⟨_,e⟩|⟨_,e⟩|⟨_,e⟩<;>omega
 have et:t= -1∨t=0∨t=1:=by rw [hy.sg];rcases sign_cases y with⟨_,e⟩|⟨_,e⟩|⟨_,e⟩<;>omega
 have ew:IntKind.i64.wrap (s*t)=s*t:=by
  rw [IntKind.wrap_i64]
  rcases et with e|e|e<;>rw [e]<;>omega
 have ew':wrap64 (s*t)=s*t:=by
  unfold wrap64
  rcases et with e|e|e<;>rw [e]<;>omega
 clear hz es et
 replace B0:=B0.drew
 replace xa:=xa.drew
 replace xb:=xb.drew
 replace xz:=xz.drew
 go_enter Tryz.func90,Tryz.ntmps90
 go_wp2
 refine wp_region_held_drew (S:=(fun w'=>w'.cell? ⟨w.heap.size,0,none⟩=some (.int .i64 s)∧w'.cell? ⟨w.heap.size,1,none⟩=some (.slice d l c)∧w'.cell? ⟨w.heap.size+1,0,none⟩=some (.int .i64 t)∧w'.cell? ⟨w.heap.size+1,1,none⟩=some (.slice e m k)∧Below w.heap.size w w')) (by kernel_rfl) ?_ (fun hHeld=>?_)
 ·first|exact keepB2 hHeld b2|exact keepB2 hHeld b1|exact⟨xa.c0,xa.c1,xb.c0,xb.c1,B0⟩|exact keepS2 hHeld (by omega) (by omega) _ _
 refine tn 0 ?_;refine tn 1 ?_;refine tn 2 ?_;refine tn 3 ?_;refine tn 4 ?_;refine tn 5 ?_;refine tn 6 ?_;refine tn 7 ?_;refine tn 8 ?_
 simp only [Act.put,ps1,ps2,ps3]
 refine take_call (i:=9) rfl (by kernel_rfl) (fun K hK=>?_)
 go_simp
 first
   |(go_at_call 159;refine(hfMul d e l m c k _ _ _ (hx.hd.below hHeld.2.2.2.2) (hy.hd.below hHeld.2.2.2.2) fx fy).mono ?_;rintro e' w1 ⟨a1,l1,c1,rfl,h1,f1,b1⟩)
   |(go_at_call 88;refine(rwMake _ a1 l1 c1 _ z _ h1 HU.out HS.out).mono ?_;rintro e' w2 ⟨s2,a2,l2,c2,rfl,h2,f2,b2⟩)
 refine hK.out _ _ ?_ (fun hHeld=>?_)
 ·first|exact keepB2 hHeld b2|exact keepB2 hHeld b1|exact⟨xa.c0,xa.c1,xb.c0,xb.c1,B0⟩|exact keepS2 hHeld (by omega) (by omega) _ _
 clear hK K
 refine take_call (i:=10) rfl (by kernel_rfl) (fun K hK=>?_)
 go_simp
 first
   |(go_at_call 159;refine(hfMul d e l m c k _ _ _ (hx.hd.below hHeld.2.2.2.2) (hy.hd.below hHeld.2.2.2.2) fx fy).mono ?_;rintro e' w1 ⟨a1,l1,c1,rfl,h1,f1,b1⟩)
   |(go_at_call 88;refine(rwMake _ a1 l1 c1 _ z _ h1 HU.out HS.out).mono ?_;rintro e' w2 ⟨s2,a2,l2,c2,rfl,h2,f2,b2⟩)
 refine hK.out _ _ ?_ (fun hHeld=>?_)
 ·first|exact keepB2 hHeld b2|exact keepB2 hHeld b1|exact⟨xa.c0,xa.c1,xb.c0,xb.c1,B0⟩|exact keepS2 hHeld (by omega) (by omega) _ _
 clear hK K
 obtain⟨k0,k1,k2,k3⟩:=(xz.on b1).on b2
 refine take_call (i:=11) rfl (by kernel_rfl) (fun K hK=>?_)
 go_simp
 refine hK.out _ _ ?_ (fun hHeld=>?_)
 ·first|exact keepB2 hHeld b2|exact keepB2 hHeld b1|exact⟨xa.c0,xa.c1,xb.c0,xb.c1,B0⟩|exact keepS2 hHeld (by omega) (by omega) _ _
 clear hK K
 refine wpAnyH_done (by kernel_rfl) ?_ _
 go_wp2
 exact bodyPost_ret (v:= .agg #[.int .i64 s2, .slice a2 l2 c2]) (by simp [results,Tryz.results90,go_sem, *]) rfl (endR _ (by omega) (also (also B0 b1) b2) h2 (f2 _ (Nat.lt_of_lt_of_le hs b1.size) (f1 _ hs)) (fun j hj _=>f2 j (Nat.lt_of_lt_of_le hj (Nat.le_trans B0.size b1.size)) (f1 j (Nat.lt_of_lt_of_le hj B0.size))) _ _)
theorem field_int(s:Int)(d:Option Addr)(l c:Nat)(w:World):(Instr.field 94 (.agg #[.int .i64 s, .slice d l c]) 0).run Tryz.prog w= .ok (.int .i64 s) w:=by show _=_;kernel_rfl
theorem rwCmp(s t:Int)(d e:Option Addr)(l c m k:Nat)(x y:Int)(w:World)(hx:RN w s d l c x)(hy:RN w t e m k y)(fx:hf.nlen x.natAbs≤1000000)(fy:hf.nlen y.natAbs≤1000000){g:Int}(hg:g=(x- y).sign):Calls Tryz.prog 92 #[.agg #[.int .i64 s, .slice d l c], .agg #[.int .i64 t, .slice e m k]] w fun e' w'=>e'= .returned (.int .i64 g)∧Below w.heap.size w w':=by
 obtain⟨B0,xa,xb,hs⟩:=box1 w (.int .i64 s) (.slice d l c) (.int .i64 t) (.slice e m k) 94 94
 have HG:Hid _:=hg
 clear hg
 go_enter Tryz.func92,Tryz.ntmps92
 go_wp2_with (go_at_call 89;fail)
 refine(rwSub s t d e l c m k x y (x- y) _ (hx.below B0) (hy.below B0) fx fy rfl).mono ?_
 rintro e' w1 ⟨s1,a1,l1,c1,rfl,h1,f1,b1⟩
 obtain rfl:s1=g:=by rw [h1.sg];exact HG.out.symm
 have EF:=field_int s1 a1 l1 c1
 go_wp2
 go_ret
 exact⟨rfl,also B0 b1⟩
theorem rwLong(x:Int)(w:World)(h1: -9223372036854775808≤x)(h2:x≤9223372036854775807):Calls Tryz.prog 40 #[.int .i64 x] w (GotR w (fun _=>True) x):=by
 by_cases hx:x=0
 ·subst hx
  go_enter Tryz.func40,Tryz.ntmps40
  go_wp2
  exact bodyPost_ret (v:= .agg #[.int .i64 0, .slice none 0 0]) (by simp [results,Tryz.results40,go_sem, *]) rfl ⟨0,none,0,0,rfl,rn_zero _ 0,fun _ _ _=>Or.inl rfl,(Below.refl _ _).alloc (Nat.le_refl _) _⟩
 have B0:Below w.heap.size w (w.alloc (.cells #[.int .i64 0, .slice none 0 0] 94)):=(Below.refl _ _).alloc (Nat.le_refl _) _
 have x0:=bx_new w (.int .i64 0) (.slice none 0 0) 94
 obtain⟨u,hu⟩: ∃ u,u=x.natAbs:=⟨_,rfl⟩
 have hul:u<18446744073709551616:=by omega
 have ho:=own_two (w.alloc (.cells #[.int .i64 0, .slice none 0 0] 94)) u hul
 have hb1:Below (w.alloc (.cells #[.int .i64 0, .slice none 0 0] 94)).heap.size (w.alloc (.cells #[.int .i64 0, .slice none 0 0] 94)) ((w.alloc (.cells #[.int .i64 0, .slice none 0 0] 94)).alloc (.cells #[.int .u32 ((u:Int) % 4294967296), .int .u32 ((u:Int)/4294967296)] 174)):=(Below.refl _ _).alloc (Nat.le_refl _) _
 have hni:NI _ _ 2 2 u:=⟨Own.sl ho,by omega,by decide⟩
 rw [World.size_alloc]at hni
 have x1:=x0.on hb1
 have E2:(u:Int)/4294967296 % 4294967296=(u:Int)/4294967296:=by omega
 by_cases hn:x<0
 ·have E:IntKind.u64.wrap (-IntKind.u64.wrap x)=(u:Int):=by rw [IntKind.wrap_u64,IntKind.wrap_u64];omega
  have HR:Hid ((-1:Int)=x.sign):=(sign_neg hn).symm
  have HU:Hid _:=hu
  clear hu ho
  go_enter Tryz.func40,Tryz.ntmps40
  go_wp2_with (go_at_call 91;fail)
  refine(hfOf _ 2 2 u _ hni).mono ?_
  rintro e w2 ⟨d,l,c,rfl,hd,fd,b2⟩
  obtain⟨k0,k1,k2,k3⟩:=x1.on b2
  go_wp2
  exact bodyPost_ret (v:= .agg #[.int .i64 (-1), .slice d l c]) (by simp [results,Tryz.results40,go_sem, *]) rfl (endR _ (by omega) (also (also B0 hb1) b2) ⟨HU.out▸hd,HR.out⟩ (fd _ (by simp;omega)) (fun j hj _=>fd j (by simp;omega)) _ _)
 ·obtain⟨y,rfl⟩:=Int.eq_ofNat_of_zero_le (show 0≤x by omega)
  obtain rfl:u=y:=by omega
  have HR:Hid ((1:Int)=((u:Nat):Int).sign):=(sign_pos (by omega)).symm
  have HU:Hid (u=((u:Nat):Int).natAbs):=hu
  clear hu ho
  go_enter Tryz.func40,Tryz.ntmps40
  go_wp2_with (go_at_call 91;fail)
  refine(hfOf _ 2 2 u _ hni).mono ?_
  rintro e w2 ⟨d,l,c,rfl,hd,fd,b2⟩
  obtain⟨k0,k1,k2,k3⟩:=x1.on b2
  go_wp2
  exact bodyPost_ret (v:= .agg #[.int .i64 (1), .slice d l c]) (by simp [results,Tryz.results40,go_sem, *]) rfl (endR _ (by omega) (also (also B0 hb1) b2) ⟨HU.out▸hd,HR.out⟩ (fd _ (by simp;omega)) (fun j hj _=>fd j (by simp;omega)) _ _)
end Go.Proofs.YtjmhfdimoeaplaaGreat
