/-
  Joined texts, part 3:
  What package lift's Can, Sum, Less, Cmp answer, and what they call.
  What package lift's At and Home answer, and the laws' own look.
  What zelligeref03's Cmp, Add and Sub answer.
  What zelligeref03's Mul answers.
  What zelligeref03 answers, with letters for the lengths.
  What zelligeref03 answers, with letters for the lengths, apart from all that was there bef
-/
import Derived.Test.YtaadknpjbogkbaaGreatP2
import Derived.Test.YtaadknpjbogkbaaGreatP1
import Derived.Shelf.Abstract
import Derived.Lib.ItoaNum
import Derived.WalkKit
namespace Go.Proofs.YtaadknpjbogkbaaGreat
open Go.RowKit
set_option linter.unusedVariables false
theorem lCoord(c:Int)(w:World){b:Bool}(hb:b=inC c):Calls Tryz.prog 98 #[.int .i64 c] w fun e w'=>e= .returned (.bool b)∧Below w.heap.size w w':=by
 subst hb
 unfold inC
 go_enter Tryz.func98,Tryz.ntmps98
 go_wp2
 all_goals (go_ret;exact⟨by simp;omega,Below.refl _ _⟩)
theorem lSide(c:Int)(w:World){b:Bool}(hb:b=sideC c):Calls Tryz.prog 54 #[.int .i64 c] w fun e w'=>e= .returned (.bool b)∧Below w.heap.size w w':=by
 subst hb
 unfold sideC
 go_enter Tryz.func54,Tryz.ntmps54
 go_wp2
 all_goals (go_ret;exact⟨by simp;omega,Below.refl _ _⟩)
theorem lReach(i s:Int)(w:World)(hs:sideC s=true){b:Bool}(hb:b=reachC i s):Calls Tryz.prog 124 #[.int .i64 i, .int .i64 s] w fun e w'=>e= .returned (.bool b)∧Below w.heap.size w w':=by
 subst hb
 obtain⟨s1,s2⟩:=sideC_true.1 hs
 have hq:(2199023255552:Int).tdiv s=2199023255552/s:=tdiv_big (by omega)
 have q1:(0:Int)≤2199023255552/s:=Int.ediv_nonneg (by decide) (by omega)
 have q2:(2199023255552:Int)/s≤2199023255552:=Int.ediv_le_self _ (by decide)
 have hs0: ¬s=0:=by omega
 clear hs
 unfold reachC
 generalize (2199023255552:Int)/s=m at hq q1 q2 ⊢
 have hw1:wrap64 m=m:=wrap_in (by omega) (by omega)
 have hw2:wrap64 (-m)= -m:=wrap_in (by omega) (by omega)
 go_enter Tryz.func124,Tryz.ntmps124
 go_wp2
 all_goals (go_ret;exact⟨by simp;omega,Below.refl _ _⟩)
theorem lSum(x y z t:Int)(w:World){u v:Int}(hu:u=wrap64 (x+z))(hv:v=wrap64 (y+t)):Calls Tryz.prog 25 #[.agg #[.int .i64 x, .int .i64 y], .agg #[.int .i64 z, .int .i64 t]] w fun e w'=>e= .returned (.agg #[.int .i64 u, .int .i64 v])∧Below w.heap.size w w':=by
 subst hu hv
 go_enter Tryz.func25,Tryz.ntmps25
 go_wp2
 exact bodyPost_ret (v:= .agg #[.int .i64 (wrap64 (x+z)), .int .i64 (wrap64 (y+t))]) (by simp [results,Tryz.results25,go_sem]) rfl ⟨rfl,(((Below.refl _ _).alloc (Nat.le_refl _) _).alloc (by simp) _).alloc (by simp;omega) _⟩
theorem lLess(x y z t:Int)(w:World){u v:Int}(hu:u=wrap64 (x- z))(hv:v=wrap64 (y- t)):Calls Tryz.prog 107 #[.agg #[.int .i64 x, .int .i64 y], .agg #[.int .i64 z, .int .i64 t]] w fun e w'=>e= .returned (.agg #[.int .i64 u, .int .i64 v])∧Below w.heap.size w w':=by
 subst hu hv
 go_enter Tryz.func107,Tryz.ntmps107
 go_wp2
 exact bodyPost_ret (v:= .agg #[.int .i64 (wrap64 (x- z)), .int .i64 (wrap64 (y- t))]) (by simp [results,Tryz.results107,go_sem]) rfl ⟨rfl,(((Below.refl _ _).alloc (Nat.le_refl _) _).alloc (by simp) _).alloc (by simp;omega) _⟩
theorem fold_bound{c s:Int}(hs:sideC s=true)(hc:inC c=true): -1099511627776≤c/s∧c/s≤1099511627776∧0≤c % s∧c % s<s∧s≤1099511627776:=by
 obtain⟨s1,s2⟩:=sideC_true.1 hs
 obtain⟨c1,c2⟩:=inC_true.1 hc
 refine⟨(Int.le_ediv_iff_mul_le (by omega)).2 (by omega),?_,Int.emod_nonneg _ (by omega),Int.emod_lt_of_pos _ (by omega),s2⟩
 have:c/s<1099511627777:=(Int.ediv_lt_iff_lt_mul (by omega)).2 (by omega)
 omega
theorem lFold(c s:Int)(w:World)(hs:sideC s=true)(hc:inC c=true){u v:Int}(hu:u=c % s)(hv:v=c/s):Calls Tryz.prog 55 #[.int .i64 c, .int .i64 s] w fun e w'=>e= .returned (.tuple #[.int .i64 u, .int .i64 v])∧Below w.heap.size w w':=by
 obtain⟨d1,d2,m1,m2,s2⟩:=fold_bound hs hc
 obtain⟨s1,_⟩:=sideC_true.1 hs
 have hs0: ¬s=0:=by omega
 rw [←hu]at m1 m2
 rw [←hv]at d1 d2
 by_cases h:c.tmod s<0
 ·obtain⟨e1,e2⟩:=fold_neg (by omega) h
  rw [←hu]at e1
  rw [←hv]at e2
  clear hu hv hs hc
  generalize hm:c.tmod s=m at h e1
  generalize hq:c.tdiv s=q at e2
  have hw1:wrap64 q=q:=wrap_in (by omega) (by omega)
  have hw2:wrap64 (m+s)=u:=by rw [wrap_in (by omega) (by omega)];exact e1
  have hw3:wrap64 (q- 1)=v:=by rw [wrap_in (by omega) (by omega)];exact e2
  clear e1 e2 m1 m2 d1 d2
  go_enter Tryz.func55,Tryz.ntmps55
  go_wp2
  go_region
  go_wp2
  exact bodyPost_ret (v:= .tuple #[.int .i64 u, .int .i64 v]) (by simp [results,Tryz.results55,go_sem, *]) rfl ⟨rfl,(Below.refl _ _).drew⟩
 ·obtain⟨e1,e2⟩:=fold_pos (by omega) h
  rw [←hu]at e1
  rw [←hv]at e2
  clear hu hv hs hc
  rw [e1]at h
  have hw1:wrap64 v=v:=wrap_in (by omega) (by omega)
  clear m1 m2 d1 d2
  go_enter Tryz.func55,Tryz.ntmps55
  go_wp2
  go_region
  go_wp2
  exact bodyPost_ret (v:= .tuple #[.int .i64 u, .int .i64 v]) (by simp [results,Tryz.results55,go_sem, *]) rfl ⟨rfl,(Below.refl _ _).drew⟩
set_option maxRecDepth 100000 in
theorem lCan(x y:Int)(w:World){b:Bool}(hb:b=canC x y):Calls Tryz.prog 53 #[.agg #[.int .i64 x, .int .i64 y]] w fun e w'=>e= .returned (.bool b)∧Below w.heap.size w w':=by
 subst hb
 unfold canC
 cases hx:inC x
 ·skip
  obtain⟨W,hW,bW,x_p,sW⟩:=bs_2 w (.int .i64 x) (.int .i64 y) 24
  have zbW:=bW.size
  have BB:=bW
  go_enter Tryz.func53,Tryz.ntmps53
  go_wp2_with (go_at_call 98;fail)
  rw [←hW]
  clear hW
  refine(lCoord x W hx.symm).mono ?_
  rintro e w1 ⟨rfl,bw1⟩
  have zbw1:=bw1.size
  replace BB:=also BB bw1
  replace x_p:=x_p.on bw1
  have⟨x_p_0,x_p_1,x_p_2,x_p_3⟩:=x_p
  go_wp2
  go_ret
  exact⟨by simp,BB⟩
 ·skip
  obtain⟨W,hW,bW,x_p,sW⟩:=bs_2 w (.int .i64 x) (.int .i64 y) 24
  have zbW:=bW.size
  have BB:=bW
  go_enter Tryz.func53,Tryz.ntmps53
  go_wp2_with (go_at_call 98;fail)
  rw [←hW]
  clear hW
  refine(lCoord x W hx.symm).mono ?_
  rintro e w1 ⟨rfl,bw1⟩
  have zbw1:=bw1.size
  replace BB:=also BB bw1
  replace x_p:=x_p.on bw1
  have⟨x_p_0,x_p_1,x_p_2,x_p_3⟩:=x_p
  go_wp2_with (go_at_call 98;fail)
  refine(lCoord y w1 rfl).mono ?_
  rintro e w2 ⟨rfl,bw2⟩
  clear x_p_0 x_p_1 x_p_2 x_p_3
  have zbw2:=bw2.size
  replace BB:=also BB bw2
  replace x_p:=x_p.on bw2
  go_wp2
  go_ret
  exact⟨by simp,BB⟩
theorem at_no_can{x y i k s:Int}(h:canC x y=false):atC x y i k s=false:=by unfold atC;rw [h];simp
theorem at_no_side{x y i k s:Int}(h:sideC s=false):atC x y i k s=false:=by unfold atC;rw [h];rfl
theorem at_no_right{x y i k s:Int}(hs:sideC s=true)(hr:reachC i s=false):atC x y i k s=false:=by
 cases h:atC x y i k s
 ·rfl
 ·obtain⟨_,q1,q2,_⟩:=atC_true.1 h
  have:=reach_in hs (canC_true.1 q1).1 q2
  rw [hr]at this;cases this
theorem at_no_up{x y i k s:Int}(hs:sideC s=true)(hr:reachC k s=false):atC x y i k s=false:=by
 cases h:atC x y i k s
 ·rfl
 ·obtain⟨_,q1,_,q2⟩:=atC_true.1 h
  have:=reach_in hs (canC_true.1 q1).2 q2
  rw [hr]at this;cases this
theorem at_no_there{x y i k s:Int}(h:canC (x+i*s) (y+k*s)=false):atC x y i k s=false:=by unfold atC;unfold canC at h ⊢;rw [h];simp
theorem at_yes{x y i k s:Int}(h1:canC x y=true)(h2:sideC s=true)(h:canC (x+i*s) (y+k*s)=true):atC x y i k s=true:=by unfold atC;unfold canC at h h1 ⊢;rw [h,h1,h2];rfl
theorem home_no_can{x y s:Int}(h:canC x y=false):homeC x y s=false:=by unfold homeC;rw [h];simp
theorem home_no_side{x y s:Int}(h:sideC s=false):homeC x y s=false:=by unfold homeC;rw [h];rfl
set_option maxRecDepth 100000 in
set_option maxHeartbeats 4000000 in
theorem lAt(x y i k s:Int)(w:World){u v:Int}{b:Bool}(hb:b=atC x y i k s)(hu:u=if b then x+i*s else 0)(hv:v=if b then y+k*s else 0):
  Calls Tryz.prog 104 #[.agg #[.int .i64 x, .int .i64 y], .agg #[.int .i64 i, .int .i64 k], .int .i64 s] w fun e w'=>e= .returned (.tuple #[.agg #[.int .i64 u, .int .i64 v], .bool b])∧Below w.heap.size w w':=by
 cases hc:canC x y
 ·skip
  have h0:=@at_no_can x y i k s hc
  obtain rfl:b=false:=by rw [hb,h0]
  obtain rfl:u=0:=hu
  obtain rfl:v=0:=hv
  clear hb h0
  obtain⟨W,hW,bW,x_p,x_o,x_z,sW⟩:=bs_222 w (.int .i64 x) (.int .i64 y) (.int .i64 i) (.int .i64 k) (.int .i64 0) (.int .i64 0) 24 32 24
  have zbW:=bW.size
  have BB:=bW
  go_enter Tryz.func104,Tryz.ntmps104
  go_wp2_with (go_at_call 53;fail)
  rw [←hW]
  clear hW
  refine(lCan x y W hc.symm).mono ?_
  rintro e w1 ⟨rfl,bw1⟩
  have zbw1:=bw1.size
  replace BB:=also BB bw1
  replace x_p:=x_p.on bw1
  replace x_o:=x_o.on bw1
  replace x_z:=x_z.on bw1
  have⟨x_p_0,x_p_1,x_p_2,x_p_3⟩:=x_p
  have⟨x_o_0,x_o_1,x_o_2,x_o_3⟩:=x_o
  have⟨x_z_0,x_z_1,x_z_2,x_z_3⟩:=x_z
  go_wp2
  exact bodyPost_ret (v:= .tuple #[.agg #[.int .i64 0, .int .i64 0], .bool false]) (by simp [results,Tryz.results104,go_sem, *]) rfl (⟨rfl,below_put2 BB (by omega) _ _⟩)
 ·skip
  cases hs:sideC s
  ·skip
   have h0:=@at_no_side x y i k s hs
   obtain rfl:b=false:=by rw [hb,h0]
   obtain rfl:u=0:=hu
   obtain rfl:v=0:=hv
   clear hb h0
   obtain⟨W,hW,bW,x_p,x_o,x_z,sW⟩:=bs_222 w (.int .i64 x) (.int .i64 y) (.int .i64 i) (.int .i64 k) (.int .i64 0) (.int .i64 0) 24 32 24
   have zbW:=bW.size
   have BB:=bW
   go_enter Tryz.func104,Tryz.ntmps104
   go_wp2_with (go_at_call 53;fail)
   rw [←hW]
   clear hW
   refine(lCan x y W hc.symm).mono ?_
   rintro e w1 ⟨rfl,bw1⟩
   have zbw1:=bw1.size
   replace BB:=also BB bw1
   replace x_p:=x_p.on bw1
   replace x_o:=x_o.on bw1
   replace x_z:=x_z.on bw1
   have⟨x_p_0,x_p_1,x_p_2,x_p_3⟩:=x_p
   have⟨x_o_0,x_o_1,x_o_2,x_o_3⟩:=x_o
   have⟨x_z_0,x_z_1,x_z_2,x_z_3⟩:=x_z
   go_wp2_with (go_at_call 54;fail)
   refine(lSide s w1 hs.symm).mono ?_
   rintro e w2 ⟨rfl,bw2⟩
   clear x_p_0 x_p_1 x_p_2 x_p_3 x_o_0 x_o_1 x_o_2 x_o_3 x_z_0 x_z_1 x_z_2 x_z_3
   have zbw2:=bw2.size
   replace BB:=also BB bw2
   replace x_p:=x_p.on bw2
   replace x_o:=x_o.on bw2
   replace x_z:=x_z.on bw2
   have⟨x_p_0,x_p_1,x_p_2,x_p_3⟩:=x_p
   have⟨x_o_0,x_o_1,x_o_2,x_o_3⟩:=x_o
   have⟨x_z_0,x_z_1,x_z_2,x_z_3⟩:=x_z
   go_wp2
   exact bodyPost_ret (v:= .tuple #[.agg #[.int .i64 0, .int .i64 0], .bool false]) (by simp [results,Tryz.results104,go_sem, *]) rfl (⟨rfl,below_put2 BB (by omega) _ _⟩)
  ·skip
   cases hr:reachC i s
   ·skip
    have h0:=@at_no_right x y i k s hs hr
    obtain rfl:b=false:=by rw [hb,h0]
    obtain rfl:u=0:=hu
    obtain rfl:v=0:=hv
    clear hb h0
    obtain⟨W,hW,bW,x_p,x_o,x_z,sW⟩:=bs_222 w (.int .i64 x) (.int .i64 y) (.int .i64 i) (.int .i64 k) (.int .i64 0) (.int .i64 0) 24 32 24
    have zbW:=bW.size
    have BB:=bW
    go_enter Tryz.func104,Tryz.ntmps104
    go_wp2_with (go_at_call 53;fail)
    rw [←hW]
    clear hW
    refine(lCan x y W hc.symm).mono ?_
    rintro e w1 ⟨rfl,bw1⟩
    have zbw1:=bw1.size
    replace BB:=also BB bw1
    replace x_p:=x_p.on bw1
    replace x_o:=x_o.on bw1
    replace x_z:=x_z.on bw1
    have⟨x_p_0,x_p_1,x_p_2,x_p_3⟩:=x_p
    have⟨x_o_0,x_o_1,x_o_2,x_o_3⟩:=x_o
    have⟨x_z_0,x_z_1,x_z_2,x_z_3⟩:=x_z
    go_wp2_with (go_at_call 54;fail)
    refine(lSide s w1 hs.symm).mono ?_
    rintro e w2 ⟨rfl,bw2⟩
    clear x_p_0 x_p_1 x_p_2 x_p_3 x_o_0 x_o_1 x_o_2 x_o_3 x_z_0 x_z_1 x_z_2 x_z_3
    have zbw2:=bw2.size
    replace BB:=also BB bw2
    replace x_p:=x_p.on bw2
    replace x_o:=x_o.on bw2
    replace x_z:=x_z.on bw2
    have⟨x_p_0,x_p_1,x_p_2,x_p_3⟩:=x_p
    have⟨x_o_0,x_o_1,x_o_2,x_o_3⟩:=x_o
    have⟨x_z_0,x_z_1,x_z_2,x_z_3⟩:=x_z
    go_wp2_with (go_at_call 124;fail)
    refine(lReach i s w2 hs hr.symm).mono ?_
    rintro e w3 ⟨rfl,bw3⟩
    clear x_p_0 x_p_1 x_p_2 x_p_3 x_o_0 x_o_1 x_o_2 x_o_3 x_z_0 x_z_1 x_z_2 x_z_3
    have zbw3:=bw3.size
    replace BB:=also BB bw3
    replace x_p:=x_p.on bw3
    replace x_o:=x_o.on bw3
    replace x_z:=x_z.on bw3
    have⟨x_p_0,x_p_1,x_p_2,x_p_3⟩:=x_p
    have⟨x_o_0,x_o_1,x_o_2,x_o_3⟩:=x_o
    have⟨x_z_0,x_z_1,x_z_2,x_z_3⟩:=x_z
    go_wp2
    exact bodyPost_ret (v:= .tuple #[.agg #[.int .i64 0, .int .i64 0], .bool false]) (by simp [results,Tryz.results104,go_sem, *]) rfl (⟨rfl,below_put2 BB (by omega) _ _⟩)
   ·skip
    cases ht:reachC k s
    ·skip
     have h0:=@at_no_up x y i k s hs ht
     obtain rfl:b=false:=by rw [hb,h0]
     obtain rfl:u=0:=hu
     obtain rfl:v=0:=hv
     clear hb h0
     obtain⟨W,hW,bW,x_p,x_o,x_z,sW⟩:=bs_222 w (.int .i64 x) (.int .i64 y) (.int .i64 i) (.int .i64 k) (.int .i64 0) (.int .i64 0) 24 32 24
     have zbW:=bW.size
     have BB:=bW
     go_enter Tryz.func104,Tryz.ntmps104
     go_wp2_with (go_at_call 53;fail)
     rw [←hW]
     clear hW
     refine(lCan x y W hc.symm).mono ?_
     rintro e w1 ⟨rfl,bw1⟩
     have zbw1:=bw1.size
     replace BB:=also BB bw1
     replace x_p:=x_p.on bw1
     replace x_o:=x_o.on bw1
     replace x_z:=x_z.on bw1
     have⟨x_p_0,x_p_1,x_p_2,x_p_3⟩:=x_p
     have⟨x_o_0,x_o_1,x_o_2,x_o_3⟩:=x_o
     have⟨x_z_0,x_z_1,x_z_2,x_z_3⟩:=x_z
     go_wp2_with (go_at_call 54;fail)
     refine(lSide s w1 hs.symm).mono ?_
     rintro e w2 ⟨rfl,bw2⟩
     clear x_p_0 x_p_1 x_p_2 x_p_3 x_o_0 x_o_1 x_o_2 x_o_3 x_z_0 x_z_1 x_z_2 x_z_3
     have zbw2:=bw2.size
     replace BB:=also BB bw2
     replace x_p:=x_p.on bw2
     replace x_o:=x_o.on bw2
     replace x_z:=x_z.on bw2
     have⟨x_p_0,x_p_1,x_p_2,x_p_3⟩:=x_p
     have⟨x_o_0,x_o_1,x_o_2,x_o_3⟩:=x_o
     have⟨x_z_0,x_z_1,x_z_2,x_z_3⟩:=x_z
     go_wp2_with (go_at_call 124;fail)
     refine(lReach i s w2 hs hr.symm).mono ?_
     rintro e w3 ⟨rfl,bw3⟩
     clear x_p_0 x_p_1 x_p_2 x_p_3 x_o_0 x_o_1 x_o_2 x_o_3 x_z_0 x_z_1 x_z_2 x_z_3
     have zbw3:=bw3.size
     replace BB:=also BB bw3
     replace x_p:=x_p.on bw3
     replace x_o:=x_o.on bw3
     replace x_z:=x_z.on bw3
     have⟨x_p_0,x_p_1,x_p_2,x_p_3⟩:=x_p
     have⟨x_o_0,x_o_1,x_o_2,x_o_3⟩:=x_o
     have⟨x_z_0,x_z_1,x_z_2,x_z_3⟩:=x_z
     go_wp2_with (go_at_call 124;fail)
     refine(lReach k s w3 hs ht.symm).mono ?_
     rintro e w4 ⟨rfl,bw4⟩
     clear x_p_0 x_p_1 x_p_2 x_p_3 x_o_0 x_o_1 x_o_2 x_o_3 x_z_0 x_z_1 x_z_2 x_z_3
     have zbw4:=bw4.size
     replace BB:=also BB bw4
     replace x_p:=x_p.on bw4
     replace x_o:=x_o.on bw4
     replace x_z:=x_z.on bw4
     have⟨x_p_0,x_p_1,x_p_2,x_p_3⟩:=x_p
     have⟨x_o_0,x_o_1,x_o_2,x_o_3⟩:=x_o
     have⟨x_z_0,x_z_1,x_z_2,x_z_3⟩:=x_z
     go_wp2
     exact bodyPost_ret (v:= .tuple #[.agg #[.int .i64 0, .int .i64 0], .bool false]) (by simp [results,Tryz.results104,go_sem, *]) rfl (⟨rfl,below_put2 BB (by omega) _ _⟩)
    ·skip
     cases hq:canC (x+i*s) (y+k*s)
     ·skip
      have h0:=@at_no_there x y i k s hq
      obtain rfl:b=false:=by rw [hb,h0]
      obtain rfl:u=0:=hu
      obtain rfl:v=0:=hv
      clear hb h0
      obtain⟨p1,p2⟩:=reach_prod hs hr
      obtain⟨p3,p4⟩:=reach_prod hs ht
      obtain⟨c1,c2⟩:=inC_true.1 (canC_true.1 hc).1
      obtain⟨c3,c4⟩:=inC_true.1 (canC_true.1 hc).2
      obtain⟨u,hu⟩: ∃ u,u=x+i*s:=⟨_,rfl⟩
      obtain⟨v,hv⟩: ∃ v,v=y+k*s:=⟨_,rfl⟩
      rw [←hu,←hv]at hq
      obtain⟨P,hP⟩: ∃ P,P=i*s:=⟨_,rfl⟩
      obtain⟨R,hR⟩: ∃ R,R=k*s:=⟨_,rfl⟩
      rw [←hP]at p1 p2 hu
      rw [←hR]at p3 p4 hv
      have hw1:wrap64 (i*s)=P:=by rw [←hP];exact wrap_in (by omega) (by omega)
      have hw2:wrap64 (k*s)=R:=by rw [←hR];exact wrap_in (by omega) (by omega)
      have hw3:wrap64 (x+P)=u:=by rw [hu];exact wrap_in (by omega) (by omega)
      have hw4:wrap64 (y+R)=v:=by rw [hv];exact wrap_in (by omega) (by omega)
      clear hP hR hu hv p1 p2 p3 p4 c1 c2 c3 c4
      obtain⟨W,hW,bW,x_p,x_o,x_z,sW⟩:=bs_222 w (.int .i64 x) (.int .i64 y) (.int .i64 i) (.int .i64 k) (.int .i64 0) (.int .i64 0) 24 32 24
      have zbW:=bW.size
      have BB:=bW
      go_enter Tryz.func104,Tryz.ntmps104
      go_wp2_with (go_at_call 53;fail)
      rw [←hW]
      clear hW
      refine(lCan x y W hc.symm).mono ?_
      rintro e w1 ⟨rfl,bw1⟩
      have zbw1:=bw1.size
      replace BB:=also BB bw1
      replace x_p:=x_p.on bw1
      replace x_o:=x_o.on bw1
      replace x_z:=x_z.on bw1
      have⟨x_p_0,x_p_1,x_p_2,x_p_3⟩:=x_p
      have⟨x_o_0,x_o_1,x_o_2,x_o_3⟩:=x_o
      have⟨x_z_0,x_z_1,x_z_2,x_z_3⟩:=x_z
      go_wp2_with (go_at_call 54;fail)
      refine(lSide s w1 hs.symm).mono ?_
      rintro e w2 ⟨rfl,bw2⟩
      clear x_p_0 x_p_1 x_p_2 x_p_3 x_o_0 x_o_1 x_o_2 x_o_3 x_z_0 x_z_1 x_z_2 x_z_3
      have zbw2:=bw2.size
      replace BB:=also BB bw2
      replace x_p:=x_p.on bw2
      replace x_o:=x_o.on bw2
      replace x_z:=x_z.on bw2
      have⟨x_p_0,x_p_1,x_p_2,x_p_3⟩:=x_p
      have⟨x_o_0,x_o_1,x_o_2,x_o_3⟩:=x_o
      have⟨x_z_0,x_z_1,x_z_2,x_z_3⟩:=x_z
      go_wp2_with (go_at_call 124;fail)
      refine(lReach i s w2 hs hr.symm).mono ?_
      rintro e w3 ⟨rfl,bw3⟩
      clear x_p_0 x_p_1 x_p_2 x_p_3 x_o_0 x_o_1 x_o_2 x_o_3 x_z_0 x_z_1 x_z_2 x_z_3
      have zbw3:=bw3.size
      replace BB:=also BB bw3
      replace x_p:=x_p.on bw3
      replace x_o:=x_o.on bw3
      replace x_z:=x_z.on bw3
      have⟨x_p_0,x_p_1,x_p_2,x_p_3⟩:=x_p
      have⟨x_o_0,x_o_1,x_o_2,x_o_3⟩:=x_o
      have⟨x_z_0,x_z_1,x_z_2,x_z_3⟩:=x_z
      go_wp2_with (go_at_call 124;fail)
      refine(lReach k s w3 hs ht.symm).mono ?_
      rintro e w4 ⟨rfl,bw4⟩
      clear x_p_0 x_p_1 x_p_2 x_p_3 x_o_0 x_o_1 x_o_2 x_o_3 x_z_0 x_z_1 x_z_2 x_z_3
      have zbw4:=bw4.size
      replace BB:=also BB bw4
      replace x_p:=x_p.on bw4
      replace x_o:=x_o.on bw4
      replace x_z:=x_z.on bw4
      have⟨x_p_0,x_p_1,x_p_2,x_p_3⟩:=x_p
      have⟨x_o_0,x_o_1,x_o_2,x_o_3⟩:=x_o
      have⟨x_z_0,x_z_1,x_z_2,x_z_3⟩:=x_z
      obtain⟨V,hV,bV,x_q,sV⟩:=bs_2 w4 (.int .i64 u) (.int .i64 v) 24
      have zbV:=bV.size
      replace BB:=also BB bV
      replace x_p:=x_p.on bV
      replace x_o:=x_o.on bV
      replace x_z:=x_z.on bV
      go_wp2_with (go_at_call 53;fail)
      rw [←hV]
      clear hV
      refine(lCan u v V hq.symm).mono ?_
      rintro e w5 ⟨rfl,bw5⟩
      clear x_p_0 x_p_1 x_p_2 x_p_3 x_o_0 x_o_1 x_o_2 x_o_3 x_z_0 x_z_1 x_z_2 x_z_3
      have zbw5:=bw5.size
      replace BB:=also BB bw5
      replace x_p:=x_p.on bw5
      replace x_o:=x_o.on bw5
      replace x_z:=x_z.on bw5
      replace x_q:=x_q.on bw5
      have⟨x_z_0,x_z_1,x_z_2,x_z_3⟩:=x_z
      have⟨x_q_0,x_q_1,x_q_2,x_q_3⟩:=x_q
      go_wp2
      exact bodyPost_ret (v:= .tuple #[.agg #[.int .i64 0, .int .i64 0], .bool false]) (by simp [results,Tryz.results104,go_sem, *]) rfl (⟨rfl,below_put2 BB (by omega) _ _⟩)
     ·skip
      have h0:=@at_yes x y i k s hc hs hq
      obtain rfl:b=true:=by rw [hb,h0]
      replace hu:u=x+i*s:=hu
      replace hv:v=y+k*s:=hv
      clear hb h0
      obtain⟨p1,p2⟩:=reach_prod hs hr
      obtain⟨p3,p4⟩:=reach_prod hs ht
      obtain⟨c1,c2⟩:=inC_true.1 (canC_true.1 hc).1
      obtain⟨c3,c4⟩:=inC_true.1 (canC_true.1 hc).2
      rw [←hu,←hv]at hq
      obtain⟨P,hP⟩: ∃ P,P=i*s:=⟨_,rfl⟩
      obtain⟨R,hR⟩: ∃ R,R=k*s:=⟨_,rfl⟩
      rw [←hP]at p1 p2 hu
      rw [←hR]at p3 p4 hv
      have hw1:wrap64 (i*s)=P:=by rw [←hP];exact wrap_in (by omega) (by omega)
      have hw2:wrap64 (k*s)=R:=by rw [←hR];exact wrap_in (by omega) (by omega)
      have hw3:wrap64 (x+P)=u:=by rw [hu];exact wrap_in (by omega) (by omega)
      have hw4:wrap64 (y+R)=v:=by rw [hv];exact wrap_in (by omega) (by omega)
      clear hP hR hu hv p1 p2 p3 p4 c1 c2 c3 c4
      obtain⟨W,hW,bW,x_p,x_o,x_z,sW⟩:=bs_222 w (.int .i64 x) (.int .i64 y) (.int .i64 i) (.int .i64 k) (.int .i64 0) (.int .i64 0) 24 32 24
      have zbW:=bW.size
      have BB:=bW
      go_enter Tryz.func104,Tryz.ntmps104
      go_wp2_with (go_at_call 53;fail)
      rw [←hW]
      clear hW
      refine(lCan x y W hc.symm).mono ?_
      rintro e w1 ⟨rfl,bw1⟩
      have zbw1:=bw1.size
      replace BB:=also BB bw1
      replace x_p:=x_p.on bw1
      replace x_o:=x_o.on bw1
      replace x_z:=x_z.on bw1
      have⟨x_p_0,x_p_1,x_p_2,x_p_3⟩:=x_p
      have⟨x_o_0,x_o_1,x_o_2,x_o_3⟩:=x_o
      have⟨x_z_0,x_z_1,x_z_2,x_z_3⟩:=x_z
      go_wp2_with (go_at_call 54;fail)
      refine(lSide s w1 hs.symm).mono ?_
      rintro e w2 ⟨rfl,bw2⟩
      clear x_p_0 x_p_1 x_p_2 x_p_3 x_o_0 x_o_1 x_o_2 x_o_3 x_z_0 x_z_1 x_z_2 x_z_3
      have zbw2:=bw2.size
      replace BB:=also BB bw2
      replace x_p:=x_p.on bw2
      replace x_o:=x_o.on bw2
      replace x_z:=x_z.on bw2
      have⟨x_p_0,x_p_1,x_p_2,x_p_3⟩:=x_p
      have⟨x_o_0,x_o_1,x_o_2,x_o_3⟩:=x_o
      have⟨x_z_0,x_z_1,x_z_2,x_z_3⟩:=x_z
      go_wp2_with (go_at_call 124;fail)
      refine(lReach i s w2 hs hr.symm).mono ?_
      rintro e w3 ⟨rfl,bw3⟩
      clear x_p_0 x_p_1 x_p_2 x_p_3 x_o_0 x_o_1 x_o_2 x_o_3 x_z_0 x_z_1 x_z_2 x_z_3
      have zbw3:=bw3.size
      replace BB:=also BB bw3
      replace x_p:=x_p.on bw3
      replace x_o:=x_o.on bw3
      replace x_z:=x_z.on bw3
      have⟨x_p_0,x_p_1,x_p_2,x_p_3⟩:=x_p
      have⟨x_o_0,x_o_1,x_o_2,x_o_3⟩:=x_o
      have⟨x_z_0,x_z_1,x_z_2,x_z_3⟩:=x_z
      go_wp2_with (go_at_call 124;fail)
      refine(lReach k s w3 hs ht.symm).mono ?_
      rintro e w4 ⟨rfl,bw4⟩
      clear x_p_0 x_p_1 x_p_2 x_p_3 x_o_0 x_o_1 x_o_2 x_o_3 x_z_0 x_z_1 x_z_2 x_z_3
      have zbw4:=bw4.size
      replace BB:=also BB bw4
      replace x_p:=x_p.on bw4
      replace x_o:=x_o.on bw4
      replace x_z:=x_z.on bw4
      have⟨x_p_0,x_p_1,x_p_2,x_p_3⟩:=x_p
      have⟨x_o_0,x_o_1,x_o_2,x_o_3⟩:=x_o
      have⟨x_z_0,x_z_1,x_z_2,x_z_3⟩:=x_z
      obtain⟨V,hV,bV,x_q,sV⟩:=bs_2 w4 (.int .i64 u) (.int .i64 v) 24
      have zbV:=bV.size
      replace BB:=also BB bV
      replace x_p:=x_p.on bV
      replace x_o:=x_o.on bV
      replace x_z:=x_z.on bV
      go_wp2_with (go_at_call 53;fail)
      rw [←hV]
      clear hV
      refine(lCan u v V hq.symm).mono ?_
      rintro e w5 ⟨rfl,bw5⟩
      clear x_p_0 x_p_1 x_p_2 x_p_3 x_o_0 x_o_1 x_o_2 x_o_3 x_z_0 x_z_1 x_z_2 x_z_3
      have zbw5:=bw5.size
      replace BB:=also BB bw5
      replace x_p:=x_p.on bw5
      replace x_o:=x_o.on bw5
      replace x_z:=x_z.on bw5
      replace x_q:=x_q.on bw5
      have⟨x_z_0,x_z_1,x_z_2,x_z_3⟩:=x_z
      have⟨x_q_0,x_q_1,x_q_2,x_q_3⟩:=x_q
      go_wp2
      exact bodyPost_ret (v:= .tuple #[.agg #[.int .i64 u, .int .i64 v], .bool true]) (by simp [results,Tryz.results104,go_sem, *]) rfl (⟨rfl,below_put2 BB (by omega) _ _⟩)
set_option maxRecDepth 100000 in
set_option maxHeartbeats 4000000 in
theorem lHome(x y s:Int)(w:World){a c p q:Int}{b:Bool}(hb:b=homeC x y s)(ha:a=if b then x % s else 0)(hc':c=if b then y % s else 0)(hp:p=if b then x/s else 0)(hq:q=if b then y/s else 0):
  Calls Tryz.prog 20 #[.agg #[.int .i64 x, .int .i64 y], .int .i64 s] w fun e w'=>e= .returned (.tuple #[.agg #[.int .i64 a, .int .i64 c], .agg #[.int .i64 p, .int .i64 q], .bool b])∧Below w.heap.size w w':=by
 cases hc:canC x y
 ·skip
  have h0:=@home_no_can x y s hc
  obtain rfl:b=false:=by rw [hb,h0]
  obtain rfl:a=0:=ha
  obtain rfl:c=0:=hc'
  obtain rfl:p=0:=hp
  obtain rfl:q=0:=hq
  clear hb h0
  obtain⟨W,hW,bW,x_p,x_z,x_t,sW⟩:=bs_222 w (.int .i64 x) (.int .i64 y) (.int .i64 0) (.int .i64 0) (.int .i64 0) (.int .i64 0) 24 24 32
  have zbW:=bW.size
  have BB:=bW
  go_enter Tryz.func20,Tryz.ntmps20
  go_wp2_with (go_at_call 53;fail)
  rw [←hW]
  clear hW
  refine(lCan x y W hc.symm).mono ?_
  rintro e w1 ⟨rfl,bw1⟩
  have zbw1:=bw1.size
  replace BB:=also BB bw1
  replace x_p:=x_p.on bw1
  replace x_z:=x_z.on bw1
  replace x_t:=x_t.on bw1
  have⟨x_p_0,x_p_1,x_p_2,x_p_3⟩:=x_p
  have⟨x_z_0,x_z_1,x_z_2,x_z_3⟩:=x_z
  have⟨x_t_0,x_t_1,x_t_2,x_t_3⟩:=x_t
  go_wp2
  exact bodyPost_ret (v:= .tuple #[.agg #[.int .i64 0, .int .i64 0], .agg #[.int .i64 0, .int .i64 0], .bool false]) (by simp [results,Tryz.results20,go_sem, *]) rfl (⟨rfl,below_put2 (below_put2 BB (by omega) _ _) (by omega) _ _⟩)
 ·skip
  cases hs:sideC s
  ·skip
   have h0:=@home_no_side x y s hs
   obtain rfl:b=false:=by rw [hb,h0]
   obtain rfl:a=0:=ha
   obtain rfl:c=0:=hc'
   obtain rfl:p=0:=hp
   obtain rfl:q=0:=hq
   clear hb h0
   obtain⟨W,hW,bW,x_p,x_z,x_t,sW⟩:=bs_222 w (.int .i64 x) (.int .i64 y) (.int .i64 0) (.int .i64 0) (.int .i64 0) (.int .i64 0) 24 24 32
   have zbW:=bW.size
   have BB:=bW
   go_enter Tryz.func20,Tryz.ntmps20
   go_wp2_with (go_at_call 53;fail)
   rw [←hW]
   clear hW
   refine(lCan x y W hc.symm).mono ?_
   rintro e w1 ⟨rfl,bw1⟩
   have zbw1:=bw1.size
   replace BB:=also BB bw1
   replace x_p:=x_p.on bw1
   replace x_z:=x_z.on bw1
   replace x_t:=x_t.on bw1
   have⟨x_p_0,x_p_1,x_p_2,x_p_3⟩:=x_p
   have⟨x_z_0,x_z_1,x_z_2,x_z_3⟩:=x_z
   have⟨x_t_0,x_t_1,x_t_2,x_t_3⟩:=x_t
   go_wp2_with (go_at_call 54;fail)
   refine(lSide s w1 hs.symm).mono ?_
   rintro e w2 ⟨rfl,bw2⟩
   clear x_p_0 x_p_1 x_p_2 x_p_3 x_z_0 x_z_1 x_z_2 x_z_3 x_t_0 x_t_1 x_t_2 x_t_3
   have zbw2:=bw2.size
   replace BB:=also BB bw2
   replace x_p:=x_p.on bw2
   replace x_z:=x_z.on bw2
   replace x_t:=x_t.on bw2
   have⟨x_p_0,x_p_1,x_p_2,x_p_3⟩:=x_p
   have⟨x_z_0,x_z_1,x_z_2,x_z_3⟩:=x_z
   have⟨x_t_0,x_t_1,x_t_2,x_t_3⟩:=x_t
   go_wp2
   exact bodyPost_ret (v:= .tuple #[.agg #[.int .i64 0, .int .i64 0], .agg #[.int .i64 0, .int .i64 0], .bool false]) (by simp [results,Tryz.results20,go_sem, *]) rfl (⟨rfl,below_put2 (below_put2 BB (by omega) _ _) (by omega) _ _⟩)
  ·skip
   obtain rfl:b=true:=by rw [hb];unfold homeC;rw [hs,hc];rfl
   have Ha:Hid (a=x % s):=ha
   have Hc:Hid (c=y % s):=hc'
   have Hp:Hid (p=x/s):=hp
   have Hq:Hid (q=y/s):=hq
   clear hb ha hc' hp hq
   have HC1:Hid (inC x=true):=(canC_true.1 hc).1
   have HC2:Hid (inC y=true):=(canC_true.1 hc).2
   obtain⟨W,hW,bW,x_p,x_z,x_t,sW⟩:=bs_222 w (.int .i64 x) (.int .i64 y) (.int .i64 0) (.int .i64 0) (.int .i64 0) (.int .i64 0) 24 24 32
   have zbW:=bW.size
   have BB:=bW
   go_enter Tryz.func20,Tryz.ntmps20
   go_wp2_with (go_at_call 53;fail)
   rw [←hW]
   clear hW
   refine(lCan x y W hc.symm).mono ?_
   rintro e w1 ⟨rfl,bw1⟩
   have zbw1:=bw1.size
   replace BB:=also BB bw1
   replace x_p:=x_p.on bw1
   replace x_z:=x_z.on bw1
   replace x_t:=x_t.on bw1
   have⟨x_p_0,x_p_1,x_p_2,x_p_3⟩:=x_p
   have⟨x_z_0,x_z_1,x_z_2,x_z_3⟩:=x_z
   have⟨x_t_0,x_t_1,x_t_2,x_t_3⟩:=x_t
   go_wp2_with (go_at_call 54;fail)
   refine(lSide s w1 hs.symm).mono ?_
   rintro e w2 ⟨rfl,bw2⟩
   clear x_p_0 x_p_1 x_p_2 x_p_3 x_z_0 x_z_1 x_z_2 x_z_3 x_t_0 x_t_1 x_t_2 x_t_3
   have zbw2:=bw2.size
   replace BB:=also BB bw2
   replace x_p:=x_p.on bw2
   replace x_z:=x_z.on bw2
   replace x_t:=x_t.on bw2
   have⟨x_p_0,x_p_1,x_p_2,x_p_3⟩:=x_p
   have⟨x_z_0,x_z_1,x_z_2,x_z_3⟩:=x_z
   have⟨x_t_0,x_t_1,x_t_2,x_t_3⟩:=x_t
   go_wp2_with (go_at_call 55;fail)
   refine(lFold x s w2 hs HC1.out Ha.out Hp.out).mono ?_
   rintro e w3 ⟨rfl,bw3⟩
   clear x_p_0 x_p_1 x_p_2 x_p_3 x_z_0 x_z_1 x_z_2 x_z_3 x_t_0 x_t_1 x_t_2 x_t_3
   have zbw3:=bw3.size
   replace BB:=also BB bw3
   replace x_p:=x_p.on bw3
   replace x_z:=x_z.on bw3
   replace x_t:=x_t.on bw3
   have⟨x_p_0,x_p_1,x_p_2,x_p_3⟩:=x_p
   have⟨x_z_0,x_z_1,x_z_2,x_z_3⟩:=x_z
   have⟨x_t_0,x_t_1,x_t_2,x_t_3⟩:=x_t
   go_wp2_with (go_at_call 55;fail)
   refine(lFold y s w3 hs HC2.out Hc.out Hq.out).mono ?_
   rintro e w4 ⟨rfl,bw4⟩
   clear x_p_0 x_p_1 x_p_2 x_p_3 x_z_0 x_z_1 x_z_2 x_z_3 x_t_0 x_t_1 x_t_2 x_t_3
   have zbw4:=bw4.size
   replace BB:=also BB bw4
   replace x_p:=x_p.on bw4
   replace x_z:=x_z.on bw4
   replace x_t:=x_t.on bw4
   have⟨x_p_0,x_p_1,x_p_2,x_p_3⟩:=x_p
   have⟨x_z_0,x_z_1,x_z_2,x_z_3⟩:=x_z
   have⟨x_t_0,x_t_1,x_t_2,x_t_3⟩:=x_t
   go_wp2
   exact bodyPost_ret (v:= .tuple #[.agg #[.int .i64 a, .int .i64 c], .agg #[.int .i64 p, .int .i64 q], .bool true]) (by simp [results,Tryz.results20,go_sem, *]) rfl (⟨rfl,below_put2 (below_put2 BB (by omega) _ _) (by omega) _ _⟩)
theorem hf_top_eq{u v m k:Nat}(hk:k≤m)(hu:u<65536^m)(hv:v<65536^m)(h: ∀ j,k≤j→j<m→hf.dg (u:Int) j=hf.dg (v:Int) j):u/65536^k=v/65536^k:=by
 have hlt: ∀ x:Nat,x<65536^m→x/65536^k<65536^(m- k):=fun x hx=>by
  refine Nat.div_lt_of_lt_mul ?_
  rw [←Nat.pow_add,show k+(m- k)=m by omega]
  exact hx
 refine hf.eq_of_dcells (m- k) _ _ (hlt u hu) (hlt v hv) fun j hj=>?_
 rw [Int.natCast_ediv,Int.natCast_ediv,hf.pow_cast,hf.dg_div,hf.dg_div]
 exact h _ (by omega) (by omega)
theorem cmpI_lt{x y:Int}(h:x<y):cmpI x y= -1:=by unfold cmpI;rw [if_pos h]
theorem cmpI_gt{x y:Int}(h:y<x):cmpI x y=1:=by unfold cmpI;rw [if_neg (by omega),if_pos h]
set_option maxRecDepth 100000 in
set_option maxHeartbeats 1000000 in
theorem rcmp_any(a b:Option Addr)(ca cb u v:Nat)(w:World)(ha:Sl w a (hf.nlen u) ca (hf.dcells (hf.nlen u) (u:Int)))(hb:Sl w b (hf.nlen v) cb (hf.dcells (hf.nlen v) (v:Int))):
  Calls Tryz.prog 85 #[.slice a (hf.nlen u) ca, .slice b (hf.nlen v) cb] w fun e w'=>e= .returned (.int .i64 (cmpI u v))∧Below w.heap.size w w':=by
 have k1:=ha.big
 have k2:=ha.room
 have k3:=hb.big
 have k4:=hb.room
 unfold maxLen at k1 k3
 rcases Nat.lt_trichotomy (hf.nlen u) (hf.nlen v)with h|h|h
 ·have HC:Hid (cmpI u v= -1):=cmpI_lt (by have:=hf.lt_of_nlen h;omega)
  go_enter Tryz.func85,Tryz.ntmps85
  go_wp2
  go_ret
  exact⟨by rw [HC.out];rfl,(by first|exact Below.refl _ _|exact below_drewN (Below.refl _ _) _|exact below_drewN (below_drewN (Below.refl _ _) _) _|exact below_drewN (below_drewN (below_drewN (Below.refl _ _) _) _) _)⟩
 ·obtain⟨m,hm⟩: ∃ m,hf.nlen u=m:=⟨_,rfl⟩
  have hv:=hf.nlen_lt v
  have hu:=hf.nlen_lt u
  rw [←h]at hb hv k4 ⊢
  rw [hm]at ha hb hu hv k2 k4 ⊢
  have HU:Hid _:=hu
  have HV:Hid _:=hv
  clear hm hu hv h
  go_enter Tryz.func85,Tryz.ntmps85
  go_wp2
  go_loopw [5] (fun i wr=> ∃ r:Nat,r≤m∧i= .int .i64 ((r:Int)- 1)∧Hid (∀ j,r≤j→j<m→hf.dg (u:Int) j=hf.dg (v:Int) j)∧ ∃ n,wr=w.drewN n) (fun i _=>(intOf i+1).toNat)
  case atStart=>exact⟨m,Nat.le_refl _,rfl,fun j h1 h2=>absurd h1 (by omega),0,rfl⟩
  case round=>
   obtain⟨r,hr,rfl,HR,n,rfl⟩:=hrel
   rcases r with _|q
   ·have HE:Hid (cmpI u v=0):=by
     obtain rfl:u=v:=hf.eq_of_dcells m u v HU.out HV.out (fun j hj=>HR.out j (Nat.zero_le _) hj)
     exact cmpI_self _
    go_wp2
    go_ret
    exact⟨by rw [HE.out];rfl,(by first|exact Below.refl _ _|exact below_drewN (Below.refl _ _) _|exact below_drewN (below_drewN (Below.refl _ _) _) _|exact below_drewN (below_drewN (below_drewN (Below.refl _ _) _) _) _)⟩
   ·obtain⟨ba,oa,rfl,hba,hsa⟩:=ha.at (by omega)
    obtain⟨bb,ob,rfl,hbb,hsb⟩:=hb.at (by omega)
    have c1:w.cell? ⟨ba,oa+q,none⟩=some (.int .i64 (hf.dg u q)):=hsa.cell q _ (hf.dcells_at _ _ _ (by omega))
    have c2:w.cell? ⟨bb,ob+q,none⟩=some (.int .i64 (hf.dg v q)):=hsb.cell q _ (hf.dcells_at _ _ _ (by omega))
    have HT:Hid (u/65536^(q+1)=v/65536^(q+1)):=hf_top_eq (by omega) HU.out HV.out HR.out
    have e1:((q+1:Nat):Int)- 1=(q:Int):=by omega
    obtain⟨X,hX⟩: ∃ X,hf.dg (u:Int) q=X:=⟨_,rfl⟩
    obtain⟨Y,hY⟩: ∃ Y,hf.dg (v:Int) q=Y:=⟨_,rfl⟩
    rcases Int.lt_trichotomy X Y with l|l|l
    ·have HC:Hid (cmpI u v= -1):=cmpI_lt (by have:=hf.lt_of_top HT.out (by rw [hX,hY];exact l);omega)
     rw [hX]at c1
     rw [hY]at c2
     clear hX hY
     go_wp2
     go_quiet (fail)
     go_wp2
     go_ret
     exact⟨by rw [HC.out];rfl,(by first|exact Below.refl _ _|exact below_drewN (Below.refl _ _) _|exact below_drewN (below_drewN (Below.refl _ _) _) _|exact below_drewN (below_drewN (below_drewN (Below.refl _ _) _) _) _)⟩
    ·have HQ:Hid (∀ j,q≤j→j<m→hf.dg (u:Int) j=hf.dg (v:Int) j):=fun j h1 h2=>by
      rcases Nat.lt_or_ge q j with h3|h3
      ·exact HR.out j h3 h2
      ·obtain rfl:j=q:=by omega
       rw [hX,hY,l]
     have l1: ¬X<Y:=by omega
     have l2: ¬Y<X:=by omega
     rw [hX]at c1
     rw [hY]at c2
     clear hX hY l
     go_wp2
     go_quiet (fail)
     go_wp2
     go_quiet (fail)
     go_wp2
     go_roundw
     case rel=>exact⟨q,by omega,by go_num,HQ.out,_,rfl⟩
     case measure=>simp [intOf]
    ·have HC:Hid (cmpI u v=1):=cmpI_gt (by have:=hf.lt_of_top HT.out.symm (by rw [hX,hY];exact l);omega)
     have l1: ¬X<Y:=by omega
     rw [hX]at c1
     rw [hY]at c2
     clear hX hY
     go_wp2
     go_quiet (fail)
     go_wp2
     go_quiet (fail)
     go_wp2
     go_ret
     exact⟨by rw [HC.out];rfl,(by first|exact Below.refl _ _|exact below_drewN (Below.refl _ _) _|exact below_drewN (below_drewN (Below.refl _ _) _) _|exact below_drewN (below_drewN (below_drewN (Below.refl _ _) _) _) _)⟩
 ·have HC:Hid (cmpI u v=1):=cmpI_gt (by have:=hf.lt_of_nlen h;omega)
  have h': ¬(hf.nlen u:Int)<hf.nlen v:=by omega
  go_enter Tryz.func85,Tryz.ntmps85
  go_wp2
  go_ret
  exact⟨by rw [HC.out];rfl,(by first|exact Below.refl _ _|exact below_drewN (Below.refl _ _) _|exact below_drewN (below_drewN (Below.refl _ _) _) _|exact below_drewN (below_drewN (below_drewN (Below.refl _ _) _) _) _)⟩
theorem push_next{w wr w2 w4:World}{k cap cap' g':Nat}{a:Option Addr}{V x:Int}(hx:x=hf.dg V k)(hown:Own wr w.heap.size 3 a k cap (hf.dcells k V))(hbel:Below w.heap.size w wr)
  (h4:w4.ownsRow w.heap.size 3 1 (.slice (some ⟨g',0,none⟩) (k+1) cap') (k+1) (hf.dcells k V++ [.int .i64 x]))
  (h2:Below wr.heap.size wr w2) (hgr:w2.grownBy w4 (Value.slice a k cap).ownBlock):Own w4 w.heap.size 3 (some ⟨g',0,none⟩) (k+1) cap' (hf.dcells (k+1) V)∧Below w.heap.size w w4:=by
 have hs:=hbel.size
 refine⟨?_,(hbel.trans (h2.mono hs)).grown hgr (by have:=h2.size;omega) (fun k' hk'=>(World.ownsRow.lt hown k' hk').1)⟩
 rw [hf.dcells_succ,←hx]
 exact h4
def RAddRel(w:World)(u v l:Nat)(o c i:Value)(wr:World):Prop:= ∃ (k cap:Nat) (ao:Option Addr),k≤l∧i= .int .i64 (k:Int)∧c= .int .i64 (hf.carry u v k)∧o= .slice ao k cap∧Own wr w.heap.size 3 ao k cap (hf.dcells k ((u:Int)+v))∧Below w.heap.size w wr
theorem radd_next{w wr w2 w4:World}{u v l k cap cap' g':Nat}{ao:Option Addr}{x:Int}(hk:k<l)(hx:x=hf.carry u v k+hf.dg u k+hf.dg v k)(hown:Own wr w.heap.size 3 ao k cap (hf.dcells k ((u:Int)+v)))(hbel:Below w.heap.size w wr)
  (h4:w4.ownsRow w.heap.size 3 1 (.slice (some ⟨g',0,none⟩) (k+1) cap') (k+1) (hf.dcells k ((u:Int)+v)++ [.int .i64 (x % 65536)]))
  (h2:Below wr.heap.size wr w2) (hgr:w2.grownBy w4 (Value.slice ao k cap).ownBlock):RAddRel w u v l (.slice (some ⟨g',0,none⟩) (k+1) cap') (.int .i64 (x/65536)) (.int .i64 ((k:Int)+1)) w4:=by
 obtain⟨h5,h6⟩:=push_next (x:=x % 65536) (by rw [hx,hf.add_digit]) hown hbel h4 h2 hgr
 exact⟨k+1,cap',_,hk,by simp,by rw [hf.carry_succ,hx],rfl,h5,h6⟩
set_option maxRecDepth 100000 in
set_option maxHeartbeats 2000000 in
theorem radd_any(a b:Option Addr)(ca cb u v:Nat)(w:World)(ha:Sl w a (hf.nlen u) ca (hf.dcells (hf.nlen u) (u:Int)))(hb:Sl w b (hf.nlen v) cb (hf.dcells (hf.nlen v) (v:Int)))(hlu:hf.nlen u≤1000000000)(hlv:hf.nlen v≤1000000000):
  Calls Tryz.prog 84 #[.slice a (hf.nlen u) ca, .slice b (hf.nlen v) cb] w fun e w'=> ∃ a' cap',e= .returned (.slice a' (hf.nlen (u+v)) cap')∧Own w' w.heap.size 3 a' (hf.nlen (u+v)) cap' (hf.dcells (hf.nlen (u+v)) ((u+v:Nat):Int))∧Below w.heap.size w w':=by
 obtain⟨i0,hi0,hz0,hz1,hz2⟩:=info_parts infoInt
 have hown0:=own_empty w w.heap.size 3 (Nat.le_refl _)
 have hu:=hf.nlen_lt u
 have hv:=hf.nlen_lt v
 obtain⟨lu,hlu'⟩: ∃ l,hf.nlen u=l:=⟨_,rfl⟩
 obtain⟨lv,hlv'⟩: ∃ l,hf.nlen v=l:=⟨_,rfl⟩
 rw [hlu']at ha hlu hu ⊢
 rw [hlv']at hb hlv hv ⊢
 obtain⟨L,hL1,hL2,hL3⟩: ∃ L,lu≤L∧lv≤L∧(L≤lu∨L≤lv):=⟨max lu lv,by omega,by omega,by omega⟩
 have HU:Hid (∀ k,lu≤k→hf.dg (u:Int) k=0):=fun k hk=>hf.dg_over (Nat.lt_of_lt_of_le hu (Nat.pow_le_pow_right (by decide) hk))
 have HV:Hid (∀ k,lv≤k→hf.dg (v:Int) k=0):=fun k hk=>hf.dg_over (Nat.lt_of_lt_of_le hv (Nat.pow_le_pow_right (by decide) hk))
 have HS:Hid (u+v<65536^(L+1)):=by
  have h1:=Nat.pow_le_pow_right (n:=65536) (by decide) hL1
  have h2:=Nat.pow_le_pow_right (n:=65536) (by decide) hL2
  unfold Hid
  rw [Nat.pow_succ];omega
 have HE:Hid ((u:Int)+v=((u+v:Nat):Int)):=by unfold Hid;omega
 clear hu hv hlu' hlv'
 go_enter Tryz.func84,Tryz.ntmps84
 go_wp2
 go_loopw [5,6,7] (fun o c i wr=>RAddRel w u v L o c i wr) (fun _ _ i _=>L- (intOf i).toNat)
 case atStart=>exact⟨0,0,_,by omega,rfl,by rw [hf.carry_zero],rfl,hown0,(Below.refl _ _).alloc (Nat.le_refl _) _⟩
 case round=>
  clear hown0
  obtain⟨k,cap,ao,hk,rfl,rfl,rfl,hown,hbel⟩:=hrel
  have hsz:=hbel.size
  obtain⟨f0,f1⟩:=hf.carry_range u v k
  obtain⟨d0,d1⟩:=hf.dg_range u k
  obtain⟨e0,e1⟩:=hf.dg_range v k
  obtain⟨C,hC⟩: ∃ C,hf.carry (u:Int) v k=C:=⟨_,rfl⟩
  obtain⟨X,hX⟩: ∃ X,hf.dg (u:Int) k=X:=⟨_,rfl⟩
  obtain⟨Y,hY⟩: ∃ Y,hf.dg (v:Int) k=Y:=⟨_,rfl⟩
  rw [hC]at f0 f1
  rw [hX]at d0 d1
  rw [hY]at e0 e1
  by_cases h1:k<lu
  ·obtain⟨ba,oa,rfl,hba,hsa⟩:=ha.at (by omega)
   have r1:=ha.room
   have c1:wr.cell? ⟨ba,oa+k,none⟩=some (.int .i64 X):=(hbel.cell (p:=⟨ba,oa+k,none⟩) hba).trans (by rw [←hX];exact hsa.cell k _ (hf.dcells_at _ _ _ h1))
   by_cases h2:k<lv
   ·obtain⟨bb,ob,rfl,hbb,hsb⟩:=hb.at (by omega)
    have r2:=hb.room
    have c2:wr.cell? ⟨bb,ob+k,none⟩=some (.int .i64 Y):=(hbel.cell (p:=⟨bb,ob+k,none⟩) hbb).trans (by rw [←hY];exact hsb.cell k _ (hf.dcells_at _ _ _ h2))
    have HN:Hid _:=fun w2 w4 g' cap'=>radd_next (l:=L) (x:=C+X+Y) (w2:=w2) (w4:=w4) (g':=g') (cap':=cap') (by omega) (by rw [hC,hX,hY]) hown hbel
    rw [hC]
    clear hC hX hY
    go_wp2_with (at_builtin;refine wpList_append_lies _ rfl (.tmp 41) (.tmp 44) 99 rfl w.heap.size 3 i0 (.int .i64 0) 1 8 Tryz.underlying99 hi0 hz0 hz1 hz2 rfl (by decide) (.slice ao k cap) (k) (hf.dcells k ((u:Int)+v)) rfl (World.ownsRow.alloc hown _) ⟨wr.heap.size,0,none⟩ 1 1 [.int .i64 ((C+X+Y) % 65536)] rfl rfl (cell_one_new _ _ _) (ints_oneCell .i64 [(C+X+Y) % 65536]) (by decide) (by unfold maxLen;omega) (by omega) (by simp;omega) _ rfl ?_;intro g' cap' w4 hown4 hgrow4 hat4 hlt4)
    go_roundw
    case rel=>exact HN.out _ w4 g' cap' hown4 ((Below.refl _ _).alloc (Nat.le_refl _) _) hgrow4
    case measure=>simp [intOf];omega
   ·have HN:Hid _:=fun w2 w4 g' cap'=>radd_next (l:=L) (x:=C+X) (w2:=w2) (w4:=w4) (g':=g') (cap':=cap') (by omega) (by rw [hC,hX,HV.out k (by omega)];omega) hown hbel
    have h2': ¬(k:Int)<lv:=by omega
    rw [hC]
    clear hC hX hY
    go_wp2_with (at_builtin;refine wpList_append_lies _ rfl (.tmp 41) (.tmp 44) 99 rfl w.heap.size 3 i0 (.int .i64 0) 1 8 Tryz.underlying99 hi0 hz0 hz1 hz2 rfl (by decide) (.slice ao k cap) (k) (hf.dcells k ((u:Int)+v)) rfl (World.ownsRow.alloc hown _) ⟨wr.heap.size,0,none⟩ 1 1 [.int .i64 ((C+X) % 65536)] rfl rfl (cell_one_new _ _ _) (ints_oneCell .i64 [(C+X) % 65536]) (by decide) (by unfold maxLen;omega) (by omega) (by simp;omega) _ rfl ?_;intro g' cap' w4 hown4 hgrow4 hat4 hlt4)
    go_roundw
    case rel=>exact HN.out _ w4 g' cap' hown4 ((Below.refl _ _).alloc (Nat.le_refl _) _) hgrow4
    case measure=>simp [intOf];omega
  ·by_cases h2:k<lv
   ·obtain⟨bb,ob,rfl,hbb,hsb⟩:=hb.at (by omega)
    have r2:=hb.room
    have c2:wr.cell? ⟨bb,ob+k,none⟩=some (.int .i64 Y):=(hbel.cell (p:=⟨bb,ob+k,none⟩) hbb).trans (by rw [←hY];exact hsb.cell k _ (hf.dcells_at _ _ _ h2))
    have HN:Hid _:=fun w2 w4 g' cap'=>radd_next (l:=L) (x:=C+Y) (w2:=w2) (w4:=w4) (g':=g') (cap':=cap') (by omega) (by rw [hC,hY,HU.out k (by omega)];omega) hown hbel
    have h1': ¬(k:Int)<lu:=by omega
    rw [hC]
    clear hC hX hY
    go_wp2_with (at_builtin;refine wpList_append_lies _ rfl (.tmp 41) (.tmp 44) 99 rfl w.heap.size 3 i0 (.int .i64 0) 1 8 Tryz.underlying99 hi0 hz0 hz1 hz2 rfl (by decide) (.slice ao k cap) (k) (hf.dcells k ((u:Int)+v)) rfl (World.ownsRow.alloc hown _) ⟨wr.heap.size,0,none⟩ 1 1 [.int .i64 ((C+Y) % 65536)] rfl rfl (cell_one_new _ _ _) (ints_oneCell .i64 [(C+Y) % 65536]) (by decide) (by unfold maxLen;omega) (by omega) (by simp;omega) _ rfl ?_;intro g' cap' w4 hown4 hgrow4 hat4 hlt4)
    go_roundw
    case rel=>exact HN.out _ w4 g' cap' hown4 ((Below.refl _ _).alloc (Nat.le_refl _) _) hgrow4
    case measure=>simp [intOf];omega
   ·obtain rfl:k=L:=by omega
    have HC2:Hid (C=hf.dg ((u:Int)+v) k):=by
     have h:=hf.add_digit u v k
     rw [hC,hX,hY]at h
     have hx0:=HU.out k (by omega)
     have hy0:=HV.out k (by omega)
     rw [hX]at hx0
     rw [hY]at hy0
     unfold Hid
     omega
    have h1': ¬(k:Int)<lu:=by omega
    have h2': ¬(k:Int)<lv:=by omega
    have HN:Hid _:=fun w2 w4 g' cap'=>push_next (x:=C) (w2:=w2) (w4:=w4) (g':=g') (cap':=cap') HC2.out hown hbel
    rw [hC]
    clear hC hX hY
    go_wp2_with (first
     |(at_builtin;refine wpList_append_lies _ rfl (.tmp 48) (.tmp 50) 99 rfl w.heap.size 3 i0 (.int .i64 0) 1 8 Tryz.underlying99 hi0 hz0 hz1 hz2 rfl (by decide) (.slice ao k cap) (k) (hf.dcells k ((u:Int)+v)) rfl (World.ownsRow.alloc hown _) ⟨wr.heap.size,0,none⟩ 1 1 [.int .i64 (C)] rfl rfl (cell_one_new _ _ _) (ints_oneCell .i64 [C]) (by decide) (by unfold maxLen;omega) (by omega) (by simp;omega) _ rfl ?_;intro g' cap' w4 hown4 hgrow4 hat4 hlt4)
     |(go_at_call 116;have hnx:=HN.out _ w4 g' cap' hown4 ((Below.refl _ _).alloc (Nat.le_refl _) _) hgrow4;rw [HE.out]at hnx;refine(rtrim_own _ _ _ (u+v) _ _ hnx.1 HS.out).mono ?_;rintro e w' ⟨rfl,hw,hown5⟩;subst hw))
    go_ret
    exact⟨_,cap',rfl,hown5,hnx.2⟩
def RSubRel(w:World)(u v l:Nat)(o c i:Value)(wr:World):Prop:= ∃ (k cap:Nat) (ao:Option Addr),k≤l∧i= .int .i64 (k:Int)∧c= .int .i64 (hf.bw u v k)∧o= .slice ao k cap∧Own wr w.heap.size 3 ao k cap (hf.dcells k ((u:Int)- v))∧Below w.heap.size w wr
theorem rsub_next{w wr w2 w4:World}{u v l k cap cap' g':Nat}{ao:Option Addr}{x c:Int}(hk:k<l)(hx:(x=hf.dg u k- hf.dg v k- hf.bw u v k∧0≤x∧c=0)∨(x=hf.dg u k- hf.dg v k- hf.bw u v k+65536∧x<65536∧c=1))(hown:Own wr w.heap.size 3 ao k cap (hf.dcells k ((u:Int)- v)))(hbel:Below w.heap.size w wr)
  (h4:w4.ownsRow w.heap.size 3 1 (.slice (some ⟨g',0,none⟩) (k+1) cap') (k+1) (hf.dcells k ((u:Int)- v)++ [.int .i64 x]))
  (h2:Below wr.heap.size wr w2) (hgr:w2.grownBy w4 (Value.slice ao k cap).ownBlock):RSubRel w u v l (.slice (some ⟨g',0,none⟩) (k+1) cap') (.int .i64 c) (.int .i64 ((k:Int)+1)) w4:=by
 have d:=hf.dg_range u k
 have e:=hf.dg_range v k
 have f:=hf.bw_range u v k
 have hd:=hf.sub_digit u v k
 have hb:=hf.bw_succ u v k
 obtain⟨h5,h6⟩:=push_next (x:=x) (by rw [←hd];omega) hown hbel h4 h2 hgr
 refine⟨k+1,cap',_,hk,by simp,?_,rfl,h5,h6⟩
 rw [←hb]
 unfold hf.bor
 rcases hx with⟨h,h0,rfl⟩|⟨h,h0,rfl⟩
 ·rw [if_neg (by omega)]
 ·rw [if_pos (by omega)]
set_option maxRecDepth 100000 in
set_option maxHeartbeats 2000000 in
theorem rsub_any(a b:Option Addr)(ca cb u v:Nat)(w:World)(ha:Sl w a (hf.nlen u) ca (hf.dcells (hf.nlen u) (u:Int)))(hb:Sl w b (hf.nlen v) cb (hf.dcells (hf.nlen v) (v:Int)))(hlu:hf.nlen u≤1000000000)(hlv:hf.nlen v≤1000000000)(hle:v≤u):
  Calls Tryz.prog 87 #[.slice a (hf.nlen u) ca, .slice b (hf.nlen v) cb] w fun e w'=> ∃ a' cap',e= .returned (.slice a' (hf.nlen (u- v)) cap')∧Own w' w.heap.size 3 a' (hf.nlen (u- v)) cap' (hf.dcells (hf.nlen (u- v)) ((u- v:Nat):Int))∧Below w.heap.size w w':=by
 obtain⟨i0,hi0,hz0,hz1,hz2⟩:=info_parts infoInt
 have hown0:=own_empty w w.heap.size 3 (Nat.le_refl _)
 have hu:=hf.nlen_lt u
 have hv:=hf.nlen_lt v
 obtain⟨lu,hlu'⟩: ∃ l,hf.nlen u=l:=⟨_,rfl⟩
 obtain⟨lv,hlv'⟩: ∃ l,hf.nlen v=l:=⟨_,rfl⟩
 rw [hlu']at ha hlu hu ⊢
 rw [hlv']at hb hlv hv ⊢
 have HV:Hid (∀ k,lv≤k→hf.dg (v:Int) k=0):=fun k hk=>hf.dg_over (Nat.lt_of_lt_of_le hv (Nat.pow_le_pow_right (by decide) hk))
 have HS:Hid (u- v<65536^lu):=by unfold Hid;omega
 have HE:Hid ((u:Int)- v=((u- v:Nat):Int)):=by unfold Hid;omega
 clear hu hv hlu' hlv' hle
 go_enter Tryz.func87,Tryz.ntmps87
 go_wp2
 go_loopw [5,6,7] (fun o c i wr=>RSubRel w u v lu o c i wr) (fun _ _ i _=>lu- (intOf i).toNat)
 case atStart=>exact⟨0,0,_,by omega,rfl,by rw [hf.bw_zero],rfl,hown0,(Below.refl _ _).alloc (Nat.le_refl _) _⟩
 case round=>
  clear hown0
  obtain⟨k,cap,ao,hk,rfl,rfl,rfl,hown,hbel⟩:=hrel
  have hsz:=hbel.size
  obtain⟨f0,f1⟩:=hf.bw_range u v k
  obtain⟨d0,d1⟩:=hf.dg_range u k
  obtain⟨e0,e1⟩:=hf.dg_range v k
  obtain⟨C,hC⟩: ∃ C,hf.bw (u:Int) v k=C:=⟨_,rfl⟩
  obtain⟨X,hX⟩: ∃ X,hf.dg (u:Int) k=X:=⟨_,rfl⟩
  obtain⟨Y,hY⟩: ∃ Y,hf.dg (v:Int) k=Y:=⟨_,rfl⟩
  rw [hC]at f0 f1
  rw [hX]at d0 d1
  rw [hY]at e0 e1
  by_cases h1:k<lu
  ·obtain⟨ba,oa,rfl,hba,hsa⟩:=ha.at (by omega)
   have r1:=ha.room
   have c1:wr.cell? ⟨ba,oa+k,none⟩=some (.int .i64 X):=(hbel.cell (p:=⟨ba,oa+k,none⟩) hba).trans (by rw [←hX];exact hsa.cell k _ (hf.dcells_at _ _ _ h1))
   by_cases h2:k<lv
   ·obtain⟨bb,ob,rfl,hbb,hsb⟩:=hb.at (by omega)
    have r2:=hb.room
    have c2:wr.cell? ⟨bb,ob+k,none⟩=some (.int .i64 Y):=(hbel.cell (p:=⟨bb,ob+k,none⟩) hbb).trans (by rw [←hY];exact hsb.cell k _ (hf.dcells_at _ _ _ h2))
    by_cases hn:X- C- Y<0
    ·have HN:Hid _:=fun w2 w4 g' cap'=>rsub_next (l:=lu) (c:=1) (x:=X- C- Y+65536) (w2:=w2) (w4:=w4) (g':=g') (cap':=cap') (by omega) (Or.inr ⟨by rw [hC,hX,hY];omega,by omega,rfl⟩) hown hbel
     rw [hC]
     clear hC hX hY
     go_wp2_with (at_builtin;refine wpList_append_lies _ rfl (.tmp 36) (.tmp 38) 99 rfl w.heap.size 3 i0 (.int .i64 0) 1 8 Tryz.underlying99 hi0 hz0 hz1 hz2 rfl (by decide) (.slice ao k cap) (k) (hf.dcells k ((u:Int)- v)) rfl (World.ownsRow.alloc hown _) ⟨wr.heap.size,0,none⟩ 1 1 [.int .i64 (X- C- Y+65536)] rfl rfl (cell_one_new _ _ _) (ints_oneCell .i64 [X- C- Y+65536]) (by decide) (by unfold maxLen;omega) (by omega) (by simp;omega) _ rfl ?_;intro g' cap' w4 hown4 hgrow4 hat4 hlt4)
     go_roundw
     case rel=>exact HN.out _ w4 g' cap' hown4 ((Below.refl _ _).alloc (Nat.le_refl _) _) hgrow4
     case measure=>simp [intOf];omega
    ·have HN:Hid _:=fun w2 w4 g' cap'=>rsub_next (l:=lu) (c:=0) (x:=X- C- Y) (w2:=w2) (w4:=w4) (g':=g') (cap':=cap') (by omega) (Or.inl ⟨by rw [hC,hX,hY];omega,by omega,rfl⟩) hown hbel
     rw [hC]
     clear hC hX hY
     go_wp2_with (at_builtin;refine wpList_append_lies _ rfl (.tmp 36) (.tmp 38) 99 rfl w.heap.size 3 i0 (.int .i64 0) 1 8 Tryz.underlying99 hi0 hz0 hz1 hz2 rfl (by decide) (.slice ao k cap) (k) (hf.dcells k ((u:Int)- v)) rfl (World.ownsRow.alloc hown _) ⟨wr.heap.size,0,none⟩ 1 1 [.int .i64 (X- C- Y)] rfl rfl (cell_one_new _ _ _) (ints_oneCell .i64 [X- C- Y]) (by decide) (by unfold maxLen;omega) (by omega) (by simp;omega) _ rfl ?_;intro g' cap' w4 hown4 hgrow4 hat4 hlt4)
     go_roundw
     case rel=>exact HN.out _ w4 g' cap' hown4 ((Below.refl _ _).alloc (Nat.le_refl _) _) hgrow4
     case measure=>simp [intOf];omega
   ·have h2': ¬(k:Int)<lv:=by omega
    have hY0:=HV.out k (by omega)
    by_cases hn:X- C<0
    ·have HN:Hid _:=fun w2 w4 g' cap'=>rsub_next (l:=lu) (c:=1) (x:=X- C+65536) (w2:=w2) (w4:=w4) (g':=g') (cap':=cap') (by omega) (Or.inr ⟨by rw [hC,hX,hY0];omega,by omega,rfl⟩) hown hbel
     rw [hC]
     clear hC hX hY hY0
     go_wp2_with (at_builtin;refine wpList_append_lies _ rfl (.tmp 36) (.tmp 38) 99 rfl w.heap.size 3 i0 (.int .i64 0) 1 8 Tryz.underlying99 hi0 hz0 hz1 hz2 rfl (by decide) (.slice ao k cap) (k) (hf.dcells k ((u:Int)- v)) rfl (World.ownsRow.alloc hown _) ⟨wr.heap.size,0,none⟩ 1 1 [.int .i64 (X- C+65536)] rfl rfl (cell_one_new _ _ _) (ints_oneCell .i64 [X- C+65536]) (by decide) (by unfold maxLen;omega) (by omega) (by simp;omega) _ rfl ?_;intro g' cap' w4 hown4 hgrow4 hat4 hlt4)
     go_roundw
     case rel=>exact HN.out _ w4 g' cap' hown4 ((Below.refl _ _).alloc (Nat.le_refl _) _) hgrow4
     case measure=>simp [intOf];omega
    ·have HN:Hid _:=fun w2 w4 g' cap'=>rsub_next (l:=lu) (c:=0) (x:=X- C) (w2:=w2) (w4:=w4) (g':=g') (cap':=cap') (by omega) (Or.inl ⟨by rw [hC,hX,hY0];omega,by omega,rfl⟩) hown hbel
     rw [hC]
     clear hC hX hY hY0
     go_wp2_with (at_builtin;refine wpList_append_lies _ rfl (.tmp 36) (.tmp 38) 99 rfl w.heap.size 3 i0 (.int .i64 0) 1 8 Tryz.underlying99 hi0 hz0 hz1 hz2 rfl (by decide) (.slice ao k cap) (k) (hf.dcells k ((u:Int)- v)) rfl (World.ownsRow.alloc hown _) ⟨wr.heap.size,0,none⟩ 1 1 [.int .i64 (X- C)] rfl rfl (cell_one_new _ _ _) (ints_oneCell .i64 [X- C]) (by decide) (by unfold maxLen;omega) (by omega) (by simp;omega) _ rfl ?_;intro g' cap' w4 hown4 hgrow4 hat4 hlt4)
     go_roundw
     case rel=>exact HN.out _ w4 g' cap' hown4 ((Below.refl _ _).alloc (Nat.le_refl _) _) hgrow4
     case measure=>simp [intOf];omega
  ·obtain rfl:k=lu:=by omega
   rw [HE.out]at hown
   clear hC hX hY
   go_wp2_with (go_at_call 116;refine(rtrim_own _ _ _ (u- v) _ _ hown HS.out).mono ?_;rintro e w' ⟨rfl,hw,hown5⟩;subst hw)
   go_ret
   exact⟨_,cap,rfl,hown5,hbel⟩
def RMulIn(w:World)(b N lv i:Nat)(O x v:Int)(c kv:Value)(wr:World):Prop:= ∃ k:Nat,k≤lv∧kv= .int .i64 (k:Int)∧c= .int .i64 (hf.cy O x v i k)∧Own wr w.heap.size 3 (some ⟨b,0,none⟩) N N (hf.mix N (i+k) (O+x*65536^i*v) O)∧Below w.heap.size w wr
theorem rmul_next{w wr:World}{b N lv i k n:Nat}{O x v t:Int}(hk:k<lv)(hN:i+lv≤N)(ht:t=hf.cy O x v i k+hf.dg O (i+k)+x*hf.dg v k)(hown:Own wr w.heap.size 3 (some ⟨b,0,none⟩) N N (hf.mix N (i+k) (O+x*65536^i*v) O))(hbel:Below w.heap.size w wr):
  RMulIn w b N lv i O x v (.int .i64 (t/65536)) (.int .i64 ((k:Int)+1)) ((wr.drewN n).setCell ⟨b,i+k,none⟩ (.int .i64 (t % 65536))):=by
 have hown':Own (wr.drewN n) w.heap.size 3 (some ⟨b,0,none⟩) N N (hf.mix N (i+k) (O+x*65536^i*v) O):=hown
 refine⟨k+1,hk,by simp,by rw [ht,hf.cy_succ],?_,(below_drewN hbel n).setCell (seg_of_own hown).2.2 _⟩
 rw [ht,hf.mul_digit,←Nat.add_assoc,←hf.mix_set]
 exact Own.set hown' _ (by omega)
def RMulOut(w:World)(b lu lv u v:Nat)(iv:Value)(wr:World):Prop:= ∃ i:Nat,i≤lu∧iv= .int .i64 (i:Int)∧Own wr w.heap.size 3 (some ⟨b,0,none⟩) (lu+lv) (lu+lv) (hf.dcells (lu+lv) ((u % 65536^i*v:Nat):Int))∧Below w.heap.size w wr
theorem hpart_lt{u v k lb:Nat}(hv:v<65536^lb):u % 65536^k*v<65536^(k+lb):=by
 rw [Nat.pow_add]
 exact Nat.mul_lt_mul_of_lt_of_le (Nat.mod_lt _ (hf.pow_nat k)) (Nat.le_of_lt hv) (hf.pow_nat lb)
theorem hpart_next(u v k:Nat):((u % 65536^k*v:Nat):Int)+hf.dg u k*65536^k*v=((u % 65536^(k+1)*v:Nat):Int):=by
 rw [Int.natCast_mul,Int.natCast_mul,Int.natCast_emod,Int.natCast_emod,hf.pow_cast,hf.pow_cast]
 exact hf.mul_next u v k
theorem rmul_last{w wr:World}{b lu lv u v i:Nat}{c O X:Int}(hO:O=((u % 65536^i*v:Nat):Int))(hX:X=hf.dg (u:Int) i)(hi:i<lu)(hv:v<65536^lv)(hc:c=hf.cy O X v i lv)
  (hown:Own wr w.heap.size 3 (some ⟨b,0,none⟩) (lu+lv) (lu+lv) (hf.mix (lu+lv) (i+lv) (O+X*65536^i*v) O)) (hbel:Below w.heap.size w wr):
  RMulOut w b lu lv u v (.int .i64 ((i:Int)+1)) (wr.setCell ⟨b,i+lv,none⟩ (.int .i64 c)):=by
 subst hO hX
 refine⟨i+1,hi,by simp,?_,hbel.setCell (seg_of_own hown).2.2 _⟩
 have hd:=hf.mul_digit ((u % 65536^i*v:Nat):Int) (hf.dg u i) v i lv
 have h0:hf.dg ((u % 65536^i*v:Nat):Int) (i+lv)=0:=hf.dg_over (hpart_lt hv)
 have h1:hf.dg (v:Int) lv=0:=hf.dg_over hv
 have hr:=hf.cy_range ((u % 65536^i*v:Nat):Int) (hf.dg u i) v i lv (hf.dg_range u i).1 (hf.dg_range u i).2
 rw [h0,h1,←hc,Int.mul_zero]at hd
 rw [←hc]at hr
 have hc2:c=hf.dg (((u % 65536^i*v:Nat):Int)+hf.dg u i*65536^i*v) (i+lv):=by rw [←hd];omega
 have:=Own.set hown (i:=i+lv) (.int .i64 c) (by omega)
 rw [hc2,hf.mix_set]at this
 rw [hc2]
 have e:hf.mix (lu+lv) (i+lv+1) (((u % 65536^i*v:Nat):Int)+hf.dg u i*65536^i*v) ((u % 65536^i*v:Nat):Int)=hf.dcells (lu+lv) ((u % 65536^(i+1)*v:Nat):Int):=by
  rw [←hpart_next,←hf.mix_full (lu+lv) (((u % 65536^i*v:Nat):Int)+hf.dg u i*65536^i*v) ((u % 65536^i*v:Nat):Int)]
  refine hf.fill_congr fun j hj=>?_
  by_cases h:j<i+lv+1
  ·simp [h,hj]
  ·have z1:hf.dg ((u % 65536^i*v:Nat):Int) j=0:=hf.dg_over (Nat.lt_of_lt_of_le (hpart_lt hv) (Nat.pow_le_pow_right (by decide) (by omega)))
   have z2:hf.dg (((u % 65536^i*v:Nat):Int)+hf.dg u i*65536^i*v) j=0:=by
    rw [hpart_next]
    exact hf.dg_over (Nat.lt_of_lt_of_le (hpart_lt hv) (Nat.pow_le_pow_right (by decide) (by omega)))
   rw [z1,z2];simp
 rw [←e]
 exact this
set_option maxRecDepth 100000 in
set_option maxHeartbeats 2000000 in
theorem rmul_any(a b:Option Addr)(ca cb u v:Nat)(w:World)(ha:Sl w a (hf.nlen u) ca (hf.dcells (hf.nlen u) (u:Int)))(hb:Sl w b (hf.nlen v) cb (hf.dcells (hf.nlen v) (v:Int)))(hlu:hf.nlen u≤1000000000)(hlv:hf.nlen v≤1000000000):
  Calls Tryz.prog 88 #[.slice a (hf.nlen u) ca, .slice b (hf.nlen v) cb] w fun e w'=> ∃ a' cap',e= .returned (.slice a' (hf.nlen (u*v)) cap')∧Own w' w.heap.size 3 a' (hf.nlen (u*v)) cap' (hf.dcells (hf.nlen (u*v)) ((u*v:Nat):Int))∧Below w.heap.size w w':=by
 obtain⟨i0,hi0,hz0,hz1,hz2⟩:=info_parts infoInt
 have hu:=hf.nlen_lt u
 have hv:=hf.nlen_lt v
 obtain⟨lu,hlu'⟩: ∃ l,hf.nlen u=l:=⟨_,rfl⟩
 obtain⟨lv,hlv'⟩: ∃ l,hf.nlen v=l:=⟨_,rfl⟩
 rw [hlu']at ha hlu hu ⊢
 rw [hlv']at hb hlv hv ⊢
 have HM:Hid (u % 65536^lu=u):=Nat.mod_eq_of_lt hu
 have HV:Hid _:=hv
 have HS:Hid (u*v<65536^(lu+lv)):=by have:=hpart_lt (u:=u) (k:=lu) hv;rwa [HM.out]at this
 have hz0':hf.dcells (lu+lv) 0=List.replicate (lu+lv) (.int .i64 0):=hf.dcells_zero _
 have HZ:Hid _:=hz0'
 have hmax:lu+lv≤maxLen:=by unfold maxLen;omega
 clear hu hv hlu' hlv' hz0'
 go_enter Tryz.func88,Tryz.ntmps88
 go_wp2_with (at_make;refine make_any _ rfl (.tmp 13) (.tmp 13) 99 rfl w.heap.size 3 i0 (.int .i64 0) Tryz.underlying99 hi0 hz0 hz1 rfl .i64 .i64 _ _ (lu+lv) rfl rfl (by simp) (by simp) (by rw [hz2];omega) (by omega) (Nat.le_refl _) ?_;intro w1 hown hbel)
 rw [←HZ.out]at hown
 go_loopw [6] (fun iv wr=>RMulOut w w.heap.size lu lv u v iv wr) (fun iv _=>lu- (intOf iv).toNat)
 case atStart=>exact⟨0,by omega,rfl,by rw [Nat.pow_zero,Nat.mod_one,Nat.zero_mul];exact hown,hbel⟩
 case round=>
  clear hown hbel
  obtain⟨i,hi,rfl,hown,hbel⟩:=hrel
  by_cases hlt:i<lu
  ·obtain⟨ba,oa,rfl,hba,hsa⟩:=ha.at (by omega)
   have r1:=ha.room
   obtain⟨X,hX⟩: ∃ X,X=hf.dg (u:Int) i:=⟨_,rfl⟩
   obtain⟨O,hO⟩: ∃ O,O=((u % 65536^i*v:Nat):Int):=⟨_,rfl⟩
   obtain⟨x0,x1⟩:=hf.dg_range u i
   have c0:w.cell? ⟨ba,oa+i,none⟩=some (.int .i64 X):=by rw [hX];exact hsa.cell i _ (hf.dcells_at _ _ _ hlt)
   rw [←hX]at x0 x1
   have HI:Hid (RMulIn w w.heap.size (lu+lv) lv i O X v (.int .i64 0) (.int .i64 0) wr):=⟨0,by omega,rfl,by rw [hf.cy_zero],by rw [Nat.add_zero,hf.mix_start,hO];exact hown,hbel⟩
   have HL:Hid _:=fun(wr:World) (c:Int)=>rmul_last (w:=w) (wr:=wr) (b:=w.heap.size) (c:=c) hO hX hlt HV.out
   clear hown hbel hX hO
   go_wp2
   go_loopw [7,8] (fun c kv wr=>RMulIn w w.heap.size (lu+lv) lv i O X v c kv wr) (fun _ kv _=>lv- (intOf kv).toNat)
   case atStart=>exact HI.out
   case round=>
    obtain⟨k,hk,rfl,rfl,hown,hbel⟩:=hrel
    obtain⟨f0,f1⟩:=hf.cy_range O X v i k x0 x1
    by_cases hlk:k<lv
    ·obtain⟨bb,ob,rfl,hbb,hsb⟩:=hb.at (by omega)
     have r2:=hb.room
     have c1:wr.cell? ⟨ba,oa+i,none⟩=some (.int .i64 X):=(hbel.cell (p:=⟨ba,oa+i,none⟩) hba).trans c0
     have c2:wr.cell? ⟨bb,ob+k,none⟩=some (.int .i64 (hf.dg v k)):=(hbel.cell (p:=⟨bb,ob+k,none⟩) hbb).trans (hsb.cell k _ (hf.dcells_at _ _ _ hlk))
     have c3:wr.cell? ⟨w.heap.size,i+k,none⟩=some (.int .i64 (hf.dg O (i+k))):=Own.cell hown _ _ (hf.mix_at _ _ _ _ _ (by omega) (Nat.le_refl _))
     have c4:wr.frozen? ⟨w.heap.size,i+k,none⟩=false:=Own.free hown _ (by omega)
     obtain⟨d0,d1⟩:=hf.dg_range v k
     obtain⟨e0,e1⟩:=hf.dg_range O (i+k)
     have HN:Hid _:=fun n=>rmul_next (n:=n) hlk (by omega) rfl hown hbel
     obtain⟨C,hC⟩: ∃ C,hf.cy O X v i k=C:=⟨_,rfl⟩
     obtain⟨Y,hY⟩: ∃ Y,hf.dg (v:Int) k=Y:=⟨_,rfl⟩
     obtain⟨D,hD⟩: ∃ D,hf.dg O (i+k)=D:=⟨_,rfl⟩
     rw [hC]at f0 f1 HN ⊢
     rw [hY]at c2 d0 d1 HN
     rw [hD]at c3 e0 e1 HN
     have m0:0≤X*Y:=Int.mul_nonneg x0 d0
     have m1:X*Y≤4294836225:=by have:=Int.mul_le_mul (show X≤65535 by omega) (show Y≤65535 by omega) d0 (by decide);omega
     clear hown hC hY hD
     go_wp2
     go_quiet (fail)
     go_wp2
     go_roundw
     case rel=>exact HN.out _
     case measure=>simp [intOf];omega
    ·obtain rfl:k=lv:=by omega
     have c3:wr.cell? ⟨w.heap.size,i+k,none⟩=some (.int .i64 (hf.dg O (i+k))):=Own.cell hown _ _ (hf.mix_at _ _ _ _ _ (by omega) (Nat.le_refl _))
     have c4:wr.frozen? ⟨w.heap.size,i+k,none⟩=false:=Own.free hown _ (by omega)
     have HN:Hid _:=HL.out wr _ rfl hown hbel
     clear hown
     go_wp2
     go_roundw
     case rel=>exact HN.out
     case measure=>simp [intOf];omega
  ·obtain rfl:i=lu:=by omega
   rw [HM.out]at hown
   go_wp2_with (go_at_call 116;refine(rtrim_own _ _ _ (u*v) _ _ hown HS.out).mono ?_;rintro e w' ⟨rfl,hw,hown5⟩;subst hw)
   go_ret
   exact⟨_,_,rfl,hown5,hbel⟩
structure HD(w:World)(a:Option Addr)(l c u:Nat):Prop where
 sl:Sl w a l c (hf.dcells l (u:Int))
 len:l=hf.nlen u
theorem HD.below{w w':World}{a:Option Addr}{l c u:Nat}(h:HD w a l c u)(hb:Below w.heap.size w w'):HD w' a l c u:=⟨h.sl.below hb,h.len⟩
theorem hd_nil(w:World):HD w none 0 0 0:=⟨sl_nil w,hf.nlen_zero.symm⟩
theorem hfew{u K:Nat}(hu:u<4294967296^K)(hK:K≤500000):hf.nlen u≤1000000:=by
 have:hf.nlen u≤2*K:=hf.nlen_le (by rw [pow_halves];exact hu)
 omega
theorem hCmp(a b:Option Addr)(la lb ca cb u v:Nat)(w:World)(ha:HD w a la ca u)(hb:HD w b lb cb v){c:Int}(hc:c=cmpI u v):Calls Tryz.prog 85 #[.slice a la ca, .slice b lb cb] w fun e w'=>e= .returned (.int .i64 c)∧Below w.heap.size w w':=by
 obtain⟨ha,rfl⟩:=ha
 obtain⟨hb,rfl⟩:=hb
 subst hc
 exact rcmp_any a b ca cb u v w ha hb
theorem HD.put{w:World}{a:Option Addr}{l c u b:Nat}(h:HD w a l c u)(hn:NA b a l)(i:Nat)(v:Value):HD (w.setCell ⟨b,i,none⟩ v) a l c u:=⟨h.sl.put hn i v,h.len⟩
def GotHF(w:World)(u:Nat)(e:Ending)(w':World):Prop:= ∃ a l c,e= .returned (.slice a l c)∧HD w' a l c u∧Far w.heap.size a l∧Below w.heap.size w w'
theorem gotHF{w w':World}{u:Nat}{e:Ending}(h: ∃ a' cap',e= .returned (.slice a' (hf.nlen u) cap')∧Own w' w.heap.size 3 a' (hf.nlen u) cap' (hf.dcells (hf.nlen u) (u:Int))∧Below w.heap.size w w'):GotHF w u e w':=by
 obtain⟨a,c,he,ho,hb⟩:=h
 exact⟨a,_,c,he,⟨Own.sl ho,rfl⟩,Own.far ho,hb⟩
theorem hfOf(a:Option Addr)(l c u:Nat)(w:World)(h:NI w a l c u):Calls Tryz.prog 82 #[.slice a l c] w (GotHF w u):=
 (rof_any a l c u w h.sl h.lt (by have:=h.few;omega)).mono fun _ _ h=>gotHF h
theorem hfAdd(a b:Option Addr)(la lb ca cb u v:Nat)(w:World)(ha:HD w a la ca u)(hb:HD w b lb cb v)(fu:hf.nlen u≤1000000)(fv:hf.nlen v≤1000000):Calls Tryz.prog 84 #[.slice a la ca, .slice b lb cb] w (GotHF w (u+v)):=by
 obtain⟨ha,rfl⟩:=ha
 obtain⟨hb,rfl⟩:=hb
 exact(radd_any a b ca cb u v w ha hb (by omega) (by omega)).mono fun _ _ h=>gotHF h
theorem hfSub(a b:Option Addr)(la lb ca cb u v:Nat)(w:World)(ha:HD w a la ca u)(hb:HD w b lb cb v)(fu:hf.nlen u≤1000000)(fv:hf.nlen v≤1000000)(hle:v≤u):Calls Tryz.prog 87 #[.slice a la ca, .slice b lb cb] w (GotHF w (u- v)):=by
 obtain⟨ha,rfl⟩:=ha
 obtain⟨hb,rfl⟩:=hb
 exact(rsub_any a b ca cb u v w ha hb (by omega) (by omega) hle).mono fun _ _ h=>gotHF h
theorem hfMul(a b:Option Addr)(la lb ca cb u v:Nat)(w:World)(ha:HD w a la ca u)(hb:HD w b lb cb v)(fu:hf.nlen u≤1000000)(fv:hf.nlen v≤1000000):Calls Tryz.prog 88 #[.slice a la ca, .slice b lb cb] w (GotHF w (u*v)):=by
 obtain⟨ha,rfl⟩:=ha
 obtain⟨hb,rfl⟩:=hb
 exact(rmul_any a b ca cb u v w ha hb (by omega) (by omega)).mono fun _ _ h=>gotHF h
end Go.Proofs.YtaadknpjbogkbaaGreat
