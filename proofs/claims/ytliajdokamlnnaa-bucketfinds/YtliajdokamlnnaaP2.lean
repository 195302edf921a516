/-
  Joined texts, part 2:
  Points over a torus: which can be, where they lie, in which order. It imports nothing of t
  Blocks of three and of four cells: what they hold, and that they can be written.
  Blocks of two to four cells, made one behind the other, and what they hold behind a store 
  What package whole's Small answers.
  What package lift's Can, Sum, Less, Cmp answer, and what they call.
  What package lift's At and Home answer, and the laws' own look.
  bucket's grid in memory, and what its part, at, Cell, list and Len answer.
  What bucket's Cell answers.
  What bucket's New, Put and Drop do.
  What bucket's Put and Drop do.
  The order in which bucket looks at cells: mathematics alone.
-/
import Derived.Test.YtliajdokamlnnaaP1
namespace Go.Proofs.Ytliajdokamlnnaa
open Go.RowKit
set_option linter.unusedVariables false
theorem bd_i64{x:Int}(h:(Lit.int .i64 x).wf=true): -9223372036854775808≤x∧x≤9223372036854775807:=by
 simp [Lit.wf,IntKind.min,IntKind.max,IntKind.signed,IntKind.bits]at h
 exact⟨by omega,by omega⟩
def inC(c:Int):Bool:=decide (-1099511627776≤c∧c≤1099511627776)
def sideC(s:Int):Bool:=decide (1≤s∧s≤1099511627776)
def canC(x y:Int):Bool:=inC x && inC y
def homeC(x y s:Int):Bool:=sideC s && canC x y
theorem inC_true{c:Int}:inC c=true↔(-1099511627776≤c∧c≤1099511627776):=by unfold inC;exact decide_eq_true_iff
theorem inC_false{c:Int}:inC c=false↔ ¬(-1099511627776≤c∧c≤1099511627776):=by unfold inC;exact decide_eq_false_iff_not
theorem sideC_true{s:Int}:sideC s=true↔(1≤s∧s≤1099511627776):=by unfold sideC;exact decide_eq_true_iff
theorem canC_true{x y:Int}:canC x y=true↔(inC x=true∧inC y=true):=by unfold canC;exact Bool.and_eq_true_iff
theorem wrap_in{x:Int}(h1: -9223372036854775808≤x)(h2:x≤9223372036854775807):wrap64 x=x:=by unfold wrap64;omega
theorem fold_neg{c s:Int}(hs:0<s)(h:c.tmod s<0):c.tmod s+s=c % s∧c.tdiv s- 1=c/s:=by
 have e:=Int.mul_tdiv_add_tmod c s
 have l:=Int.lt_tmod_of_pos c hs
 have u:(c.tdiv s- 1)=c/s:=by
  refine((Int.ediv_emod_unique hs (a:=c) (r:=c.tmod s+s) (q:=c.tdiv s- 1)).2 ⟨?_,by omega,by omega⟩).1.symm
  rw [Int.mul_sub,Int.mul_one];omega
 refine⟨?_,u⟩
 exact((Int.ediv_emod_unique hs (a:=c) (r:=c.tmod s+s) (q:=c.tdiv s- 1)).2 ⟨by rw [Int.mul_sub,Int.mul_one];omega,by omega,by omega⟩).2.symm
theorem fold_pos{c s:Int}(hs:0<s)(h: ¬c.tmod s<0):c.tmod s=c % s∧c.tdiv s=c/s:=by
 have e:=Int.mul_tdiv_add_tmod c s
 have l:=Int.tmod_lt_of_pos c hs
 have:=(Int.ediv_emod_unique hs (a:=c) (r:=c.tmod s) (q:=c.tdiv s)).2 ⟨by omega,by omega,by omega⟩
 exact⟨this.2.symm,this.1.symm⟩
theorem flQ_ediv(x s:Int)(hs:0<s):flQ x s=x/s∧flR x s=x % s:=by
 obtain⟨D,rfl⟩:=Int.eq_ofNat_of_zero_le (Int.le_of_lt hs)
 have hD:0<D:=by omega
 have key:flQ x D*D≤x∧x<flQ x D*D+D:=by
  have e:=Nat.div_add_mod x.natAbs D
  have hr:=Nat.mod_lt x.natAbs hD
  unfold flQ
  rw [Int.natAbs_natCast,Int.sign_natCast_of_ne_zero (by omega),Int.mul_one]
  generalize hq:x.natAbs/D=q at e ⊢
  generalize hm:x.natAbs % D=r at e hr ⊢
  have e2:(x.natAbs:Int)=(q:Int)*D+r:=by rw [←e,Nat.mul_comm];simp
  clear hq hm e
  generalize hp:(q:Int)*D=p at e2
  rcases Int.lt_trichotomy x 0 with h|h|h
  ·rw [Int.sign_eq_neg_one_of_neg h]
   by_cases h0:r=0
   ·rw [if_neg (by omega),Int.sub_zero,Int.neg_mul,Int.one_mul,Int.neg_mul,hp];omega
   ·rw [if_pos (by omega),Int.sub_mul,Int.one_mul,Int.neg_mul,Int.one_mul,Int.neg_mul,hp];omega
  ·subst h;rw [Int.sign_zero,if_neg (by omega),Int.sub_zero,Int.zero_mul,Int.zero_mul];omega
  ·rw [Int.sign_eq_one_of_pos h,if_neg (by omega),Int.sub_zero,Int.one_mul,hp];omega
 have:=(Int.ediv_emod_unique hs (a:=x) (r:=flR x D) (q:=flQ x D)).2 ⟨by unfold flR;rw [Int.mul_comm];omega,by unfold flR;omega,by unfold flR;omega⟩
 exact⟨this.1.symm,this.2.symm⟩
structure B3(w:World)(b:Nat)(x0 x1 x2:Value):Prop where
 c0:w.cell? ⟨b,0,none⟩=some x0
 c1:w.cell? ⟨b,1,none⟩=some x1
 c2:w.cell? ⟨b,2,none⟩=some x2
 f0:w.frozen? ⟨b,0,none⟩=false
 f1:w.frozen? ⟨b,1,none⟩=false
 f2:w.frozen? ⟨b,2,none⟩=false
theorem bs_22(w:World)(x00 x01 x10 x11:Value)(t0 t1:TypeId): ∃ W,W=((w.alloc (.cells #[x00,x01] t0)).alloc (.cells #[x10,x11] t1))∧Below w.heap.size w W∧Bx W (w.heap.size) x00 x01∧Bx W (w.heap.size+1) x10 x11∧w.heap.size+1<W.heap.size:=by
 have e0:Below w.heap.size w (w.alloc (.cells #[x00,x01] t0)):=(Below.refl _ _).alloc (Nat.le_refl _) _
 have h0:=bx_new w x00 x01 t0
 have e1:Below (w.alloc (.cells #[x00,x01] t0)).heap.size (w.alloc (.cells #[x00,x01] t0)) ((w.alloc (.cells #[x00,x01] t0)).alloc (.cells #[x10,x11] t1)):=(Below.refl _ _).alloc (Nat.le_refl _) _
 have h1:=bx_new (w.alloc (.cells #[x00,x01] t0)) x10 x11 t1
 rw [World.size_alloc]at h1
 exact⟨_,rfl,also (e0) e1,(h0.on e1),h1,by simp⟩
theorem bs_2(w:World)(x00 x01:Value)(t0:TypeId): ∃ W,W=(w.alloc (.cells #[x00,x01] t0))∧Below w.heap.size w W∧Bx W (w.heap.size) x00 x01∧w.heap.size<W.heap.size:=by
 have e0:Below w.heap.size w (w.alloc (.cells #[x00,x01] t0)):=(Below.refl _ _).alloc (Nat.le_refl _) _
 have h0:=bx_new w x00 x01 t0
 exact⟨_,rfl,e0,h0,by simp⟩
theorem bs_222(w:World)(x00 x01 x10 x11 x20 x21:Value)(t0 t1 t2:TypeId): ∃ W,W=(((w.alloc (.cells #[x00,x01] t0)).alloc (.cells #[x10,x11] t1)).alloc (.cells #[x20,x21] t2))∧Below w.heap.size w W∧Bx W (w.heap.size) x00 x01∧Bx W (w.heap.size+1) x10 x11∧Bx W (w.heap.size+1+1) x20 x21∧w.heap.size+1+1<W.heap.size:=by
 have e0:Below w.heap.size w (w.alloc (.cells #[x00,x01] t0)):=(Below.refl _ _).alloc (Nat.le_refl _) _
 have h0:=bx_new w x00 x01 t0
 have e1:Below (w.alloc (.cells #[x00,x01] t0)).heap.size (w.alloc (.cells #[x00,x01] t0)) ((w.alloc (.cells #[x00,x01] t0)).alloc (.cells #[x10,x11] t1)):=(Below.refl _ _).alloc (Nat.le_refl _) _
 have h1:=bx_new (w.alloc (.cells #[x00,x01] t0)) x10 x11 t1
 rw [World.size_alloc]at h1
 have e2:Below ((w.alloc (.cells #[x00,x01] t0)).alloc (.cells #[x10,x11] t1)).heap.size ((w.alloc (.cells #[x00,x01] t0)).alloc (.cells #[x10,x11] t1)) (((w.alloc (.cells #[x00,x01] t0)).alloc (.cells #[x10,x11] t1)).alloc (.cells #[x20,x21] t2)):=(Below.refl _ _).alloc (Nat.le_refl _) _
 have h2:=bx_new ((w.alloc (.cells #[x00,x01] t0)).alloc (.cells #[x10,x11] t1)) x20 x21 t2
 rw [World.size_alloc,World.size_alloc]at h2
 exact⟨_,rfl,also (also (e0) e1) e2,((h0.on e1).on e2),(h1.on e2),h2,by simp⟩
def smOk(z:Int):Bool:=decide (-9223372036854775808≤z∧z≤9223372036854775807)
def smV(z:Int):Int:=if smOk z then z else 0
theorem lCoord(c:Int)(w:World){b:Bool}(hb:b=inC c):Calls Try.prog 44 #[.int .i64 c] w fun e w'=>e= .returned (.bool b)∧Below w.heap.size w w':=by
 subst hb
 unfold inC
 go_enter Try.func44,Try.ntmps44
 go_wp2
 all_goals (go_ret;exact⟨by simp;omega,Below.refl _ _⟩)
theorem lSide(c:Int)(w:World){b:Bool}(hb:b=sideC c):Calls Try.prog 31 #[.int .i64 c] w fun e w'=>e= .returned (.bool b)∧Below w.heap.size w w':=by
 subst hb
 unfold sideC
 go_enter Try.func31,Try.ntmps31
 go_wp2
 all_goals (go_ret;exact⟨by simp;omega,Below.refl _ _⟩)
theorem fold_bound{c s:Int}(hs:sideC s=true)(hc:inC c=true): -1099511627776≤c/s∧c/s≤1099511627776∧0≤c % s∧c % s<s∧s≤1099511627776:=by
 obtain⟨s1,s2⟩:=sideC_true.1 hs
 obtain⟨c1,c2⟩:=inC_true.1 hc
 refine⟨(Int.le_ediv_iff_mul_le (by omega)).2 (by omega),?_,Int.emod_nonneg _ (by omega),Int.emod_lt_of_pos _ (by omega),s2⟩
 have:c/s<1099511627777:=(Int.ediv_lt_iff_lt_mul (by omega)).2 (by omega)
 omega
theorem lFold(c s:Int)(w:World)(hs:sideC s=true)(hc:inC c=true){u v:Int}(hu:u=c % s)(hv:v=c/s):Calls Try.prog 32 #[.int .i64 c, .int .i64 s] w fun e w'=>e= .returned (.tuple #[.int .i64 u, .int .i64 v])∧Below w.heap.size w w':=by
 obtain⟨d1,d2,m1,m2,s2⟩:=fold_bound hs hc
 obtain⟨s1,_⟩:=sideC_true.1 hs
 have hs0: ¬s=0:=by omega
 rw [←hu]at m1 m2
 rw [←hv]at d1 d2
 by_cases h:c.tmod s<0
 ·obtain⟨e1,e2⟩:=fold_neg (by omega) h
  rw [←hu]at e1
  rw [←hv]at e2
  clear hu hv hs hc
  generalize hm:c.tmod s=m at h e1
  generalize hq:c.tdiv s=q at e2
  have hw1:wrap64 q=q:=wrap_in (by omega) (by omega)
  have hw2:wrap64 (m+s)=u:=by rw [wrap_in (by omega) (by omega)];exact e1
  have hw3:wrap64 (q- 1)=v:=by rw [wrap_in (by omega) (by omega)];exact e2
  clear e1 e2 m1 m2 d1 d2
  go_enter Try.func32,Try.ntmps32
  go_wp2
  go_region
  go_wp2
  exact bodyPost_ret (v:= .tuple #[.int .i64 u, .int .i64 v]) (by simp [results,Try.results32,go_sem, *]) rfl ⟨rfl,(Below.refl _ _).drew⟩
 ·obtain⟨e1,e2⟩:=fold_pos (by omega) h
  rw [←hu]at e1
  rw [←hv]at e2
  clear hu hv hs hc
  rw [e1]at h
  have hw1:wrap64 v=v:=wrap_in (by omega) (by omega)
  clear m1 m2 d1 d2
  go_enter Try.func32,Try.ntmps32
  go_wp2
  go_region
  go_wp2
  exact bodyPost_ret (v:= .tuple #[.int .i64 u, .int .i64 v]) (by simp [results,Try.results32,go_sem, *]) rfl ⟨rfl,(Below.refl _ _).drew⟩
set_option maxRecDepth 100000 in
theorem lCan(x y:Int)(w:World){b:Bool}(hb:b=canC x y):Calls Try.prog 30 #[.agg #[.int .i64 x, .int .i64 y]] w fun e w'=>e= .returned (.bool b)∧Below w.heap.size w w':=by
 subst hb
 unfold canC
 cases hx:inC x
 ·skip
  obtain⟨W,hW,bW,x_p,sW⟩:=bs_2 w (.int .i64 x) (.int .i64 y) 23
  have zbW:=bW.size
  have BB:=bW
  go_enter Try.func30,Try.ntmps30
  go_wp2_with (go_at_call 44;fail)
  rw [←hW]
  clear hW
  refine(lCoord x W hx.symm).mono ?_
  rintro e w1 ⟨rfl,bw1⟩
  have zbw1:=bw1.size
  replace BB:=also BB bw1
  replace x_p:=x_p.on bw1
  have⟨x_p_0,x_p_1,x_p_2,x_p_3⟩:=x_p
  go_wp2
  go_ret
  exact⟨by simp,BB⟩
 ·skip
  obtain⟨W,hW,bW,x_p,sW⟩:=bs_2 w (.int .i64 x) (.int .i64 y) 23
  have zbW:=bW.size
  have BB:=bW
  go_enter Try.func30,Try.ntmps30
  go_wp2_with (go_at_call 44;fail)
  rw [←hW]
  clear hW
  refine(lCoord x W hx.symm).mono ?_
  rintro e w1 ⟨rfl,bw1⟩
  have zbw1:=bw1.size
  replace BB:=also BB bw1
  replace x_p:=x_p.on bw1
  have⟨x_p_0,x_p_1,x_p_2,x_p_3⟩:=x_p
  go_wp2_with (go_at_call 44;fail)
  refine(lCoord y w1 rfl).mono ?_
  rintro e w2 ⟨rfl,bw2⟩
  clear x_p_0 x_p_1 x_p_2 x_p_3
  have zbw2:=bw2.size
  replace BB:=also BB bw2
  replace x_p:=x_p.on bw2
  go_wp2
  go_ret
  exact⟨by simp,BB⟩
theorem home_no_can{x y s:Int}(h:canC x y=false):homeC x y s=false:=by unfold homeC;rw [h];simp
theorem home_no_side{x y s:Int}(h:sideC s=false):homeC x y s=false:=by unfold homeC;rw [h];rfl
set_option maxRecDepth 100000 in
set_option maxHeartbeats 4000000 in
theorem lHome(x y s:Int)(w:World){a c p q:Int}{b:Bool}(hb:b=homeC x y s)(ha:a=if b then x % s else 0)(hc':c=if b then y % s else 0)(hp:p=if b then x/s else 0)(hq:q=if b then y/s else 0):
  Calls Try.prog 19 #[.agg #[.int .i64 x, .int .i64 y], .int .i64 s] w fun e w'=>e= .returned (.tuple #[.agg #[.int .i64 a, .int .i64 c], .agg #[.int .i64 p, .int .i64 q], .bool b])∧Below w.heap.size w w':=by
 cases hc:canC x y
 ·skip
  have h0:=@home_no_can x y s hc
  obtain rfl:b=false:=by rw [hb,h0]
  obtain rfl:a=0:=ha
  obtain rfl:c=0:=hc'
  obtain rfl:p=0:=hp
  obtain rfl:q=0:=hq
  clear hb h0
  obtain⟨W,hW,bW,x_p,x_z,x_t,sW⟩:=bs_222 w (.int .i64 x) (.int .i64 y) (.int .i64 0) (.int .i64 0) (.int .i64 0) (.int .i64 0) 23 23 50
  have zbW:=bW.size
  have BB:=bW
  go_enter Try.func19,Try.ntmps19
  go_wp2_with (go_at_call 30;fail)
  rw [←hW]
  clear hW
  refine(lCan x y W hc.symm).mono ?_
  rintro e w1 ⟨rfl,bw1⟩
  have zbw1:=bw1.size
  replace BB:=also BB bw1
  replace x_p:=x_p.on bw1
  replace x_z:=x_z.on bw1
  replace x_t:=x_t.on bw1
  have⟨x_p_0,x_p_1,x_p_2,x_p_3⟩:=x_p
  have⟨x_z_0,x_z_1,x_z_2,x_z_3⟩:=x_z
  have⟨x_t_0,x_t_1,x_t_2,x_t_3⟩:=x_t
  go_wp2
  exact bodyPost_ret (v:= .tuple #[.agg #[.int .i64 0, .int .i64 0], .agg #[.int .i64 0, .int .i64 0], .bool false]) (by simp [results,Try.results19,go_sem, *]) rfl (⟨rfl,below_put2 (below_put2 BB (by omega) _ _) (by omega) _ _⟩)
 ·skip
  cases hs:sideC s
  ·skip
   have h0:=@home_no_side x y s hs
   obtain rfl:b=false:=by rw [hb,h0]
   obtain rfl:a=0:=ha
   obtain rfl:c=0:=hc'
   obtain rfl:p=0:=hp
   obtain rfl:q=0:=hq
   clear hb h0
   obtain⟨W,hW,bW,x_p,x_z,x_t,sW⟩:=bs_222 w (.int .i64 x) (.int .i64 y) (.int .i64 0) (.int .i64 0) (.int .i64 0) (.int .i64 0) 23 23 50
   have zbW:=bW.size
   have BB:=bW
   go_enter Try.func19,Try.ntmps19
   go_wp2_with (go_at_call 30;fail)
   rw [←hW]
   clear hW
   refine(lCan x y W hc.symm).mono ?_
   rintro e w1 ⟨rfl,bw1⟩
   have zbw1:=bw1.size
   replace BB:=also BB bw1
   replace x_p:=x_p.on bw1
   replace x_z:=x_z.on bw1
   replace x_t:=x_t.on bw1
   have⟨x_p_0,x_p_1,x_p_2,x_p_3⟩:=x_p
   have⟨x_z_0,x_z_1,x_z_2,x_z_3⟩:=x_z
   have⟨x_t_0,x_t_1,x_t_2,x_t_3⟩:=x_t
   go_wp2_with (go_at_call 31;fail)
   refine(lSide s w1 hs.symm).mono ?_
   rintro e w2 ⟨rfl,bw2⟩
   clear x_p_0 x_p_1 x_p_2 x_p_3 x_z_0 x_z_1 x_z_2 x_z_3 x_t_0 x_t_1 x_t_2 x_t_3
   have zbw2:=bw2.size
   replace BB:=also BB bw2
   replace x_p:=x_p.on bw2
   replace x_z:=x_z.on bw2
   replace x_t:=x_t.on bw2
   have⟨x_p_0,x_p_1,x_p_2,x_p_3⟩:=x_p
   have⟨x_z_0,x_z_1,x_z_2,x_z_3⟩:=x_z
   have⟨x_t_0,x_t_1,x_t_2,x_t_3⟩:=x_t
   go_wp2
   exact bodyPost_ret (v:= .tuple #[.agg #[.int .i64 0, .int .i64 0], .agg #[.int .i64 0, .int .i64 0], .bool false]) (by simp [results,Try.results19,go_sem, *]) rfl (⟨rfl,below_put2 (below_put2 BB (by omega) _ _) (by omega) _ _⟩)
  ·skip
   obtain rfl:b=true:=by rw [hb];unfold homeC;rw [hs,hc];rfl
   have Ha:Hid (a=x % s):=ha
   have Hc:Hid (c=y % s):=hc'
   have Hp:Hid (p=x/s):=hp
   have Hq:Hid (q=y/s):=hq
   clear hb ha hc' hp hq
   have HC1:Hid (inC x=true):=(canC_true.1 hc).1
   have HC2:Hid (inC y=true):=(canC_true.1 hc).2
   obtain⟨W,hW,bW,x_p,x_z,x_t,sW⟩:=bs_222 w (.int .i64 x) (.int .i64 y) (.int .i64 0) (.int .i64 0) (.int .i64 0) (.int .i64 0) 23 23 50
   have zbW:=bW.size
   have BB:=bW
   go_enter Try.func19,Try.ntmps19
   go_wp2_with (go_at_call 30;fail)
   rw [←hW]
   clear hW
   refine(lCan x y W hc.symm).mono ?_
   rintro e w1 ⟨rfl,bw1⟩
   have zbw1:=bw1.size
   replace BB:=also BB bw1
   replace x_p:=x_p.on bw1
   replace x_z:=x_z.on bw1
   replace x_t:=x_t.on bw1
   have⟨x_p_0,x_p_1,x_p_2,x_p_3⟩:=x_p
   have⟨x_z_0,x_z_1,x_z_2,x_z_3⟩:=x_z
   have⟨x_t_0,x_t_1,x_t_2,x_t_3⟩:=x_t
   go_wp2_with (go_at_call 31;fail)
   refine(lSide s w1 hs.symm).mono ?_
   rintro e w2 ⟨rfl,bw2⟩
   clear x_p_0 x_p_1 x_p_2 x_p_3 x_z_0 x_z_1 x_z_2 x_z_3 x_t_0 x_t_1 x_t_2 x_t_3
   have zbw2:=bw2.size
   replace BB:=also BB bw2
   replace x_p:=x_p.on bw2
   replace x_z:=x_z.on bw2
   replace x_t:=x_t.on bw2
   have⟨x_p_0,x_p_1,x_p_2,x_p_3⟩:=x_p
   have⟨x_z_0,x_z_1,x_z_2,x_z_3⟩:=x_z
   have⟨x_t_0,x_t_1,x_t_2,x_t_3⟩:=x_t
   go_wp2_with (go_at_call 32;fail)
   refine(lFold x s w2 hs HC1.out Ha.out Hp.out).mono ?_
   rintro e w3 ⟨rfl,bw3⟩
   clear x_p_0 x_p_1 x_p_2 x_p_3 x_z_0 x_z_1 x_z_2 x_z_3 x_t_0 x_t_1 x_t_2 x_t_3
   have zbw3:=bw3.size
   replace BB:=also BB bw3
   replace x_p:=x_p.on bw3
   replace x_z:=x_z.on bw3
   replace x_t:=x_t.on bw3
   have⟨x_p_0,x_p_1,x_p_2,x_p_3⟩:=x_p
   have⟨x_z_0,x_z_1,x_z_2,x_z_3⟩:=x_z
   have⟨x_t_0,x_t_1,x_t_2,x_t_3⟩:=x_t
   go_wp2_with (go_at_call 32;fail)
   refine(lFold y s w3 hs HC2.out Hc.out Hq.out).mono ?_
   rintro e w4 ⟨rfl,bw4⟩
   clear x_p_0 x_p_1 x_p_2 x_p_3 x_z_0 x_z_1 x_z_2 x_z_3 x_t_0 x_t_1 x_t_2 x_t_3
   have zbw4:=bw4.size
   replace BB:=also BB bw4
   replace x_p:=x_p.on bw4
   replace x_z:=x_z.on bw4
   replace x_t:=x_t.on bw4
   have⟨x_p_0,x_p_1,x_p_2,x_p_3⟩:=x_p
   have⟨x_z_0,x_z_1,x_z_2,x_z_3⟩:=x_z
   have⟨x_t_0,x_t_1,x_t_2,x_t_3⟩:=x_t
   go_wp2
   exact bodyPost_ret (v:= .tuple #[.agg #[.int .i64 a, .int .i64 c], .agg #[.int .i64 p, .int .i64 q], .bool true]) (by simp [results,Try.results19,go_sem, *]) rfl (⟨rfl,below_put2 (below_put2 BB (by omega) _ _) (by omega) _ _⟩)
theorem below_dn(B:Nat)(w:World)(q:Nat):Below B w (w.drewN q):=⟨rfl,rfl,rfl,Nat.le_refl _,fun _ _=>rfl⟩
def grR(s:Int)(n v:Nat)(m:Int):List Value:= [.int .i64 s, .int .i64 (n:Int), .slice (some ⟨v,0,none⟩) (n*n) (n*n), .int .i64 m]
structure GrO(w:World)(base g v:Nat)(s:Int)(n:Nat)(A:Nat→Option Addr×Nat)(L:Nat→List Int)(m:Int):Prop where
 row:Row w g (grR s n v m)
 ver: ∀ k,k<n*n→w.cell? ⟨v,k,none⟩=some (.slice (A k).1 (L k).length (A k).2)∧w.frozen? ⟨v,k,none⟩=false
 own: ∀ k,k<n*n→Own w base 3 (A k).1 (L k).length (A k).2 (ints (L k))
 ne:g≠v
 vl:v<w.heap.size
 off: ∀ k,k<n*n→ ∀ b,Slot (A k).1 b→b≠g∧b≠v
 apart: ∀ k j,k<n*n→j<n*n→k≠j→ ∀ b,Slot (A k).1 b→ ¬Slot (A j).1 b
def GrP(base g:Nat)(s:Int)(n:Nat)(L:Nat→List Int)(m:Int)(F:Nat→Prop)(w:World):Prop:=
 (∃ v A,GrO w base g v s n A L m∧F g∧F v∧ ∀ k,k<n*n→ ∀ b,Slot (A k).1 b→F b)∧ ∀ k,F k→base≤k∧k<w.heap.size
theorem GrO.keep{w w':World}{base g v n:Nat}{s m:Int}{A:Nat→Option Addr×Nat}{L:Nat→List Int}{F G:Nat→Prop}(h:GrO w base g v s n A L m)(hg:F g)(hv:F v)(hs: ∀ k,k<n*n→ ∀ b,Slot (A k).1 b→F b)(hk:Keep G w w')(hd: ∀ k,F k→ ¬G k):GrO w' base g v s n A L m:=by
 refine⟨h.row.keep hk h.row.lt (hd g hg),fun k hk'=>?_,fun k hk'=>(h.own k hk').keep hk (fun b sb=>hd b (hs k hk' b sb)),h.ne,Nat.lt_of_lt_of_le h.vl hk.size,h.off,h.apart⟩
 rw [World.cell?_of_block (w:=w) (a:=⟨v,k,none⟩) (hk.block v h.vl (hd v hv)),World.frozen?_of_block (w:=w) (a:=⟨v,k,none⟩) (hk.block v h.vl (hd v hv))]
 exact h.ver k hk'
theorem GrP.keep{base g n:Nat}{s m:Int}{L:Nat→List Int}{F G:Nat→Prop}{w w':World}(h:GrP base g s n L m F w)(hk:Keep G w w')(hd: ∀ k,F k→ ¬G k):GrP base g s n L m F w':=by
 obtain⟨⟨v,A,hO,hg,hv,hs⟩,hf⟩:=h
 exact⟨⟨v,A,hO.keep hg hv hs hk hd,hg,hv,hs⟩,fun k hF=>⟨(hf k hF).1,Nat.lt_of_lt_of_le (hf k hF).2 hk.size⟩⟩
theorem GrP.below{base g n:Nat}{s m:Int}{L:Nat→List Int}{F:Nat→Prop}{w w':World}(h:GrP base g s n L m F w)(hb:Below w.heap.size w w'):GrP base g s n L m F w':=h.keep (Keep.of (F:=fun _=>False) hb) (fun _ _ x=>x)
def GrOk(s:Int)(n:Nat):Prop:=1≤s∧s≤17179869184∧1≤n∧n≤64
def clX(x s:Int)(n:Nat):Int:=x % s*(n:Int)/s
theorem clX_in{x s:Int}{n:Nat}(h:GrOk s n):0≤clX x s n∧clX x s n<n:=by
 obtain⟨h1,h2,h3,h4⟩:=h
 have e1:=Int.emod_nonneg x (show s≠0 by omega)
 have e2:=Int.emod_lt_of_pos x (show 0<s by omega)
 unfold clX
 refine⟨Int.ediv_nonneg (Int.mul_nonneg e1 (by omega)) (by omega),?_⟩
 refine Int.ediv_lt_of_lt_mul (by omega) ?_
 rw [Int.mul_comm (n:Int) s]
 exact Int.mul_lt_mul_of_pos_right e2 (by omega)
theorem prod_lt{c s:Int}{n:Nat}(h:GrOk s n)(h0:0≤c)(h1:c<s):0≤c*(n:Int)∧c*(n:Int)≤1099511627776:=by
 obtain⟨a1,a2,a3,a4⟩:=h
 refine⟨Int.mul_nonneg h0 (by omega),?_⟩
 have:=Int.mul_le_mul (show c≤17179869184 by omega) (show(n:Int)≤64 by omega) (by omega) (by omega)
 omega
set_option maxRecDepth 100000 in
set_option maxHeartbeats 1000000 in
theorem bkPart(g v n:Nat)(s m c:Int)(w:World)(hrow:Row w g (grR s n v m))(h:GrOk s n)(h0:0≤c)(h1:c<s){r:Int}(hr:r=c*(n:Int)/s):
  Calls Try.prog 20 #[.pointer (some ⟨g,0,none⟩), .int .i64 c] w fun e w'=>e= .returned (.int .i64 r)∧Below w.heap.size w w':=by
 have q0:=hrow.cell 0 _ rfl
 have q1:=hrow.cell 1 _ rfl
 have hp:=prod_lt h h0 h1
 have e1:wrap64 (c*(n:Int))=c*(n:Int):=wrap_in (by omega) (by omega)
 have e2:(c*(n:Int)).tdiv s=r:=by rw [hr];exact Int.tdiv_eq_ediv_of_nonneg hp.1
 have e3:wrap64 r=r:=by
  have a1:0≤r:=by rw [hr];exact Int.ediv_nonneg hp.1 (by have:=h.1;omega)
  have a2:r≤1099511627776:=by rw [hr];exact Int.le_trans (Int.ediv_le_self _ hp.1) hp.2
  exact wrap_in (by omega) (by omega)
 have e4:(s==0)=false:=by have:=h.1;simp;omega
 have e5: ¬s=0:=by have:=h.1;omega
 clear hr hp
 go_enter Try.func20,Try.ntmps20
 go_wp2
 go_quiet (fail)
 go_wp2
 go_ret
 exact⟨by show Ending.returned (.int .i64 (wrap64 r))=_;rw [e3],below_dn _ _ _⟩
theorem mod_in{c:Int}{n:Nat}(h1:1≤n): ∃ k:Nat,(k:Int)=c % (n:Int)∧k<n:=
 ⟨(c % (n:Int)).toNat,Int.toNat_of_nonneg (Int.emod_nonneg _ (by omega)),by have:=Int.emod_lt_of_pos c (show(0:Int)<n by omega);have:=Int.emod_nonneg c (show(n:Int)≠0 by omega);omega⟩
theorem idx_in{n a b:Nat}(ha:a<n)(hb:b<n):a*n+b<n*n:=by
 have:=Nat.mul_le_mul_right n (show a+1≤n by omega)
 rw [Nat.add_mul]at this
 omega
set_option maxRecDepth 100000 in
set_option maxHeartbeats 1000000 in
theorem bkAt(g v n:Nat)(s m c r:Int)(w:World)(hrow:Row w g (grR s n v m))(h:GrOk s n)(hc: -(n:Int)≤c∧c≤1000)(hr: -(n:Int)≤r∧r≤1000)(a b:Nat)(ha:(a:Int)=c % (n:Int))(hb:(b:Int)=r % (n:Int)):
  Calls Try.prog 27 #[.pointer (some ⟨g,0,none⟩), .int .i64 c, .int .i64 r] w fun e w'=>e= .returned (.pointer (some ⟨v,a*n+b,none⟩))∧Below w.heap.size w w':=by
 obtain⟨a1,a2,a3,a4⟩:=h
 have q1:=hrow.cell 1 _ rfl
 have q2:=hrow.cell 2 _ rfl
 have an:a<n:=by have:=Int.emod_lt_of_pos c (show(0:Int)<n by omega);omega
 have bn:b<n:=by have:=Int.emod_lt_of_pos r (show(0:Int)<n by omega);omega
 have e1:wrap64 (c+(n:Int))=c+(n:Int):=wrap_in (by omega) (by omega)
 have e2:wrap64 (r+(n:Int))=r+(n:Int):=wrap_in (by omega) (by omega)
 have e3:(c+(n:Int)).tmod (n:Int)=(a:Int):=by rw [Int.tmod_eq_emod_of_nonneg (by omega),Int.add_emod_right,ha]
 have e4:(r+(n:Int)).tmod (n:Int)=(b:Int):=by rw [Int.tmod_eq_emod_of_nonneg (by omega),Int.add_emod_right,hb]
 have hi:=idx_in an bn
 have hnn:n*n≤64*64:=Nat.mul_le_mul a4 a4
 have e5:wrap64 ((a:Int)*(n:Int))=((a*n:Nat):Int):=by rw [←Int.natCast_mul];clear e1 e2 e3 e4 ha hb hc hr;exact wrap_in (by omega) (by omega)
 have e6:wrap64 (((a*n:Nat):Int)+(b:Int))=((a*n+b:Nat):Int):=by rw [←Int.natCast_add];clear e1 e2 e3 e4 ha hb hc hr e5;exact wrap_in (by omega) (by omega)
 have e7:((n:Int)==0)=false:=by simp;omega
 have e8: ¬(n:Int)=0:=by omega
 generalize hU:c+(n:Int)=U at e1 e3
 generalize hV:r+(n:Int)=V at e2 e4
 rw [←hU]at e1
 rw [←hV]at e2
 have HA:Hid (c+(n:Int)=U):=hU
 have HB:Hid (r+(n:Int)=V):=hV
 rw [HA.out]at e1
 have f1:wrap64 (c+(n:Int))=U:=by rw [HA.out];exact e1
 rw [HB.out]at e2
 have f2:wrap64 (r+(n:Int))=V:=by rw [HB.out];exact e2
 clear e1 e2 hU hV hc hr a1 a2 a3 a4
 generalize a*n+b=k at e6 hi ⊢
 generalize a*n=k' at e5 e6
 have e9:(k:Int)<((n*n:Nat):Int):=Int.ofNat_lt.2 hi
 generalize n*n=nn at q2 hi hnn e9
 clear ha hb
 go_enter Try.func27,Try.ntmps27
 go_wp2
 go_quiet (fail)
 go_wp2
 go_quiet (fail)
 go_wp2
 go_quiet (fail)
 go_wp2
 go_ret
 exact⟨rfl,((below_dn _ _ _).trans (below_dn _ _ _)).trans (below_dn _ _ _)⟩
def cellC(x y s:Int)(n:Nat):Int×Int:=if homeC x y s then(clX x s n,clX y s n)else(-1, -1)
set_option maxRecDepth 100000 in
set_option maxHeartbeats 4000000 in
theorem bkCell(g v n:Nat)(s m x y:Int)(w:World)(hrow:Row w g (grR s n v m))(h:GrOk s n){a b:Int}(hab:(a,b)=cellC x y s n):
  Calls Try.prog 9 #[.pointer (some ⟨g,0,none⟩), .agg #[.int .i64 x, .int .i64 y]] w fun e w'=>e= .returned (.tuple #[.int .i64 a, .int .i64 b])∧Below w.heap.size w w':=by
 have hgl:=hrow.lt
 obtain⟨W,hW⟩: ∃ W,W=w.alloc (.cells #[.int .i64 x, .int .i64 y] 23):=⟨_,rfl⟩
 have bW:Below w.heap.size w W:=by rw [hW];exact(Below.refl _ _).alloc (Nat.le_refl _) _
 have zW:W.heap.size=w.heap.size+1:=by rw [hW];simp
 have RB:Row W w.heap.size [.int .i64 x, .int .i64 y]:=by rw [hW];exact Row.new w [.int .i64 x, .int .i64 y] _
 have RG:Row W g (grR s n v m):=hrow.below bW hgl
 have q0:=RB.cell 0 _ rfl
 have q1:=RB.cell 1 _ rfl
 have q2:=RG.cell 0 _ rfl
 have hgW:g<W.heap.size:=by omega
 have hwW:w.heap.size<W.heap.size:=by omega
 obtain⟨X,hX⟩: ∃ X,X=if homeC x y s then x % s else 0:=⟨_,rfl⟩
 obtain⟨Y0,hY⟩: ∃ Y0,Y0=if homeC x y s then y % s else 0:=⟨_,rfl⟩
 obtain⟨U,hU⟩: ∃ U,U=if homeC x y s then x/s else 0:=⟨_,rfl⟩
 obtain⟨V,hV⟩: ∃ V,V=if homeC x y s then y/s else 0:=⟨_,rfl⟩
 obtain⟨ok,hok⟩: ∃ ok,ok=homeC x y s:=⟨_,rfl⟩
 have C:Hid (∀ w',Calls Try.prog 19 #[.agg #[.int .i64 x, .int .i64 y], .int .i64 s] w' fun e w''=>e= .returned (.tuple #[.agg #[.int .i64 X, .int .i64 Y0], .agg #[.int .i64 U, .int .i64 V], .bool ok])∧Below w'.heap.size w' w''):=fun w'=>by rw [←hok]at hX hY hU hV;exact lHome x y s w' hok hX hY hU hV
 have HX:Hid _:=hX
 have HY:Hid _:=hY
 have HO:Hid _:=hok
 have HAB:Hid _:=hab
 clear hX hY hU hV hok hab
 go_enter Try.func9,Try.ntmps9
 go_wp2
 rw [←hW]
 clear hW
 have HSf:Hid (∀ w',Below W.heap.size W w'→(fun w'=>w'.cell? ⟨w.heap.size,0,none⟩=some (.int .i64 x)∧w'.cell? ⟨w.heap.size,1,none⟩=some (.int .i64 y)∧w'.cell? ⟨g,0,none⟩=some (.int .i64 s)∧Below W.heap.size W w') w'):=by
  unfold Hid
  intro w' hb
  exact⟨(hb.cell (p:=⟨w.heap.size,0,none⟩) hwW).trans q0,(hb.cell (p:=⟨w.heap.size,1,none⟩) hwW).trans q1,(hb.cell (p:=⟨g,0,none⟩) hgW).trans q2,hb⟩
 obtain⟨QQ,hQQ⟩: ∃ QQ:Exit→Act→World→Prop,QQ=fun e act wr=>e= .normal∧ ∃ (pa pb:Nat),act=⟨#[.pointer (some ⟨g,0,none⟩), .agg #[.int .i64 x, .int .i64 y],undef, .pointer (some ⟨w.heap.size,0,none⟩), .int .i64 (0), .int .i64 (0), .pointer (some ⟨pa,0,none⟩), .pointer (some ⟨pb,0,none⟩), .bool ok, .pointer (some ⟨g,0,none⟩), .bool false, .tuple #[.agg #[.int .i64 X, .int .i64 Y0], .agg #[.int .i64 U, .int .i64 V], .bool ok], .agg #[.int .i64 x, .int .i64 y], .pointer (some ⟨g,0,none⟩), .pointer (some ⟨g,0,none⟩), .pointer (some ⟨g,0,none⟩), .int .i64 (s), .tuple #[.agg #[.int .i64 X, .int .i64 Y0], .agg #[.int .i64 U, .int .i64 V], .bool ok], .agg #[.int .i64 X, .int .i64 Y0], .agg #[.int .i64 U, .int .i64 V], .bool ok,undef,undef,undef,undef,undef,undef,undef,undef,undef,undef], []⟩∧Row wr pa [.int .i64 X, .int .i64 Y0]∧W.heap.size≤pa∧Below W.heap.size W wr:=⟨_,rfl⟩
 have HQQ:Hid _:=hQQ
 clear hQQ
 refine wp_mono (Q:=QQ) ?_ ?_
 ·refine wp_region_held_drew (S:=fun w'=>w'.cell? ⟨w.heap.size,0,none⟩=some (.int .i64 x)∧w'.cell? ⟨w.heap.size,1,none⟩=some (.int .i64 y)∧w'.cell? ⟨g,0,none⟩=some (.int .i64 s)∧Below W.heap.size W w') (by kernel_rfl) ?_ (fun hHeld=>?_)
  ·exact HSf.out _ (Below.refl _ _).drew
  refine tQ 0 ?_
  simp only [Act.put,ps1,ps2,ps3]
  refine tQ 1 ?_
  simp only [Act.put,ps1,ps2,ps3]
  refine tQ 2 ?_
  simp only [Act.put,ps1,ps2,ps3]
  refine tQ 3 ?_
  simp only [Act.put,ps1,ps2,ps3]
  refine tQ 4 ?_
  simp only [Act.put,ps1,ps2,ps3]
  have BX:=hHeld.2.2.2
  generalize W.drew=X0 at hHeld BX ⊢
  refine wpAnyH_ready (rs:= [5,10,11]) (by kernel_rfl) (by simp) (AllReadyH.cons (i:=5) rfl (fun Kc hK=>?_) (AllReadyH.cons (i:=10) rfl (fun Kc hK=>?_) (AllReadyH.cons (i:=11) rfl (fun Kc hK=>?_) AllReadyH.nil)))
  ·skip
   go_simp
   (go_at_call 19;refine(C.out _).mono ?_;rintro e X1 ⟨rfl,e1⟩)
   refine hK.out _ _ (HSf.out _ (hHeld.2.2.2.trans (e1.mono hHeld.2.2.2.size))) (fun hHeld=>?_)
   clear hK Kc
   clear e1
   refine tQ 6 ?_
   simp only [Act.put,ps1,ps2,ps3]
   refine tQ 7 ?_
   simp only [Act.put,ps1,ps2,ps3]
   refine tQ 8 ?_
   simp only [Act.put,ps1,ps2,ps3]
   refine tQ 9 ?_
   simp only [Act.put,ps1,ps2,ps3]
   refine wpAnyH_ready (rs:= [10,11]) (by kernel_rfl) (by simp) (AllReadyH.cons (i:=10) rfl (fun Kc hK=>?_) (AllReadyH.cons (i:=11) rfl (fun Kc hK=>?_) AllReadyH.nil))
   ·skip
    go_simp
    have gpa:W.heap.size≤X1.heap.size:=hHeld.2.2.2.size
    refine hK.out _ _ (HSf.out _ (hHeld.2.2.2.alloc hHeld.2.2.2.size _)) (fun hHeld=>?_)
    clear hK Kc
    have y_pa:=Row.new X1 [.int .i64 (0), .int .i64 (0)] 23;have lpa:X1.heap.size<(X1.alloc (.cells #[.int .i64 (0), .int .i64 (0)] 23)).heap.size:=by simp
    have e2:Below X1.heap.size X1 (X1.alloc (.cells #[.int .i64 (0), .int .i64 (0)] 23)):=(Below.refl _ _).alloc (Nat.le_refl _) _
    clear e2
    generalize X1.alloc (.cells #[.int .i64 (0), .int .i64 (0)] 23)=X2 at y_pa lpa hHeld ⊢
    generalize X1.heap.size=pa at y_pa lpa gpa ⊢
    refine tcl 11 fun Kc hK=>?_
    go_simp
    have gpb:W.heap.size≤X2.heap.size:=hHeld.2.2.2.size
    refine hK.out _ _ (HSf.out _ (hHeld.2.2.2.alloc hHeld.2.2.2.size _)) (fun hHeld=>?_)
    clear hK Kc
    have y_pb:=Row.new X2 [.int .i64 (0), .int .i64 (0)] 50;have lpb:X2.heap.size<(X2.alloc (.cells #[.int .i64 (0), .int .i64 (0)] 50)).heap.size:=by simp
    have e3:Below X2.heap.size X2 (X2.alloc (.cells #[.int .i64 (0), .int .i64 (0)] 50)):=(Below.refl _ _).alloc (Nat.le_refl _) _
    have y_pa:=y_pa.below e3 lpa;have pq:=Nat.ne_of_lt lpa;have lpa:=Nat.lt_of_lt_of_le lpa e3.size
    clear e3
    generalize X2.alloc (.cells #[.int .i64 (0), .int .i64 (0)] 50)=X3 at y_pb lpb y_pa lpa hHeld ⊢
    generalize X2.heap.size=pb at y_pb lpb gpb pq ⊢
    have c00:=y_pa.cell 0 _ rfl;have c01:=y_pa.cell 1 _ rfl;have d00:=y_pa.free 0 (by simp);have d01:=y_pa.free 1 (by simp)
    refine tcl 12 fun Kc hK=>?_
    go_simp
    refine hK.out _ _ (HSf.out _ ((hHeld.2.2.2.setCell (by omega) _).setCell (by omega) _)) (fun hHeld=>?_)
    clear hK Kc
    have y2:=(y_pb.other (i:=0) (.int .i64 (X)) pq).other (i:=1) (.int .i64 (Y0)) pq
    have c10:=y2.cell 0 _ rfl;have c11:=y2.cell 1 _ rfl;have d10:=y2.free 0 (by simp);have d11:=y2.free 1 (by simp)
    refine tcl 13 fun Kc hK=>?_
    go_simp
    refine hK.out _ _ (HSf.out _ ((hHeld.2.2.2.setCell (by omega) _).setCell (by omega) _)) (fun hHeld=>?_)
    clear hK Kc
    refine tQ 14 ?_
    simp only [Act.put,ps1,ps2,ps3]
    refine wpAnyH_done (by kernel_rfl) ?_ _
    rw [HQQ.out]
    exact⟨rfl,pa,pb,rfl,(((y_pa.set 0 (.int .i64 (X)) (by simp)).set 1 (.int .i64 (Y0)) (by simp)).other (.int .i64 (U)) (fun e=>pq e.symm)).other (.int .i64 (V)) (fun e=>pq e.symm),by omega,hHeld.2.2.2⟩
   ·skip
    go_simp
    have gpb:W.heap.size≤X1.heap.size:=hHeld.2.2.2.size
    refine hK.out _ _ (HSf.out _ (hHeld.2.2.2.alloc hHeld.2.2.2.size _)) (fun hHeld=>?_)
    clear hK Kc
    have y_pb:=Row.new X1 [.int .i64 (0), .int .i64 (0)] 50;have lpb:X1.heap.size<(X1.alloc (.cells #[.int .i64 (0), .int .i64 (0)] 50)).heap.size:=by simp
    have e4:Below X1.heap.size X1 (X1.alloc (.cells #[.int .i64 (0), .int .i64 (0)] 50)):=(Below.refl _ _).alloc (Nat.le_refl _) _
    clear e4
    generalize X1.alloc (.cells #[.int .i64 (0), .int .i64 (0)] 50)=X4 at y_pb lpb hHeld ⊢
    generalize X1.heap.size=pb at y_pb lpb gpb ⊢
    refine tcl 10 fun Kc hK=>?_
    go_simp
    have gpa:W.heap.size≤X4.heap.size:=hHeld.2.2.2.size
    refine hK.out _ _ (HSf.out _ (hHeld.2.2.2.alloc hHeld.2.2.2.size _)) (fun hHeld=>?_)
    clear hK Kc
    have y_pa:=Row.new X4 [.int .i64 (0), .int .i64 (0)] 23;have lpa:X4.heap.size<(X4.alloc (.cells #[.int .i64 (0), .int .i64 (0)] 23)).heap.size:=by simp
    have e5:Below X4.heap.size X4 (X4.alloc (.cells #[.int .i64 (0), .int .i64 (0)] 23)):=(Below.refl _ _).alloc (Nat.le_refl _) _
    have y_pb:=y_pb.below e5 lpb;have pq:=Nat.ne_of_gt lpb;have lpb:=Nat.lt_of_lt_of_le lpb e5.size
    clear e5
    generalize X4.alloc (.cells #[.int .i64 (0), .int .i64 (0)] 23)=X5 at y_pa lpa y_pb lpb hHeld ⊢
    generalize X4.heap.size=pa at y_pa lpa gpa pq ⊢
    have c00:=y_pa.cell 0 _ rfl;have c01:=y_pa.cell 1 _ rfl;have d00:=y_pa.free 0 (by simp);have d01:=y_pa.free 1 (by simp)
    refine tcl 12 fun Kc hK=>?_
    go_simp
    refine hK.out _ _ (HSf.out _ ((hHeld.2.2.2.setCell (by omega) _).setCell (by omega) _)) (fun hHeld=>?_)
    clear hK Kc
    have y2:=(y_pb.other (i:=0) (.int .i64 (X)) pq).other (i:=1) (.int .i64 (Y0)) pq
    have c10:=y2.cell 0 _ rfl;have c11:=y2.cell 1 _ rfl;have d10:=y2.free 0 (by simp);have d11:=y2.free 1 (by simp)
    refine tcl 13 fun Kc hK=>?_
    go_simp
    refine hK.out _ _ (HSf.out _ ((hHeld.2.2.2.setCell (by omega) _).setCell (by omega) _)) (fun hHeld=>?_)
    clear hK Kc
    refine tQ 14 ?_
    simp only [Act.put,ps1,ps2,ps3]
    refine wpAnyH_done (by kernel_rfl) ?_ _
    rw [HQQ.out]
    exact⟨rfl,pa,pb,rfl,(((y_pa.set 0 (.int .i64 (X)) (by simp)).set 1 (.int .i64 (Y0)) (by simp)).other (.int .i64 (U)) (fun e=>pq e.symm)).other (.int .i64 (V)) (fun e=>pq e.symm),by omega,hHeld.2.2.2⟩
  ·skip
   go_simp
   have gpa:W.heap.size≤X0.heap.size:=hHeld.2.2.2.size
   refine hK.out _ _ (HSf.out _ (hHeld.2.2.2.alloc hHeld.2.2.2.size _)) (fun hHeld=>?_)
   clear hK Kc
   have y_pa:=Row.new X0 [.int .i64 (0), .int .i64 (0)] 23;have lpa:X0.heap.size<(X0.alloc (.cells #[.int .i64 (0), .int .i64 (0)] 23)).heap.size:=by simp
   have e6:Below X0.heap.size X0 (X0.alloc (.cells #[.int .i64 (0), .int .i64 (0)] 23)):=(Below.refl _ _).alloc (Nat.le_refl _) _
   clear e6
   generalize X0.alloc (.cells #[.int .i64 (0), .int .i64 (0)] 23)=X6 at y_pa lpa hHeld ⊢
   generalize X0.heap.size=pa at y_pa lpa gpa ⊢
   refine wpAnyH_ready (rs:= [5,11]) (by kernel_rfl) (by simp) (AllReadyH.cons (i:=5) rfl (fun Kc hK=>?_) (AllReadyH.cons (i:=11) rfl (fun Kc hK=>?_) AllReadyH.nil))
   ·skip
    go_simp
    (go_at_call 19;refine(C.out _).mono ?_;rintro e X7 ⟨rfl,e7⟩)
    refine hK.out _ _ (HSf.out _ (hHeld.2.2.2.trans (e7.mono hHeld.2.2.2.size))) (fun hHeld=>?_)
    clear hK Kc
    have y_pa:=y_pa.below e7 lpa;have lpa:=Nat.lt_of_lt_of_le lpa e7.size
    clear e7
    refine tQ 6 ?_
    simp only [Act.put,ps1,ps2,ps3]
    refine tQ 7 ?_
    simp only [Act.put,ps1,ps2,ps3]
    refine tQ 8 ?_
    simp only [Act.put,ps1,ps2,ps3]
    refine tQ 9 ?_
    simp only [Act.put,ps1,ps2,ps3]
    refine tcl 11 fun Kc hK=>?_
    go_simp
    have gpb:W.heap.size≤X7.heap.size:=hHeld.2.2.2.size
    refine hK.out _ _ (HSf.out _ (hHeld.2.2.2.alloc hHeld.2.2.2.size _)) (fun hHeld=>?_)
    clear hK Kc
    have y_pb:=Row.new X7 [.int .i64 (0), .int .i64 (0)] 50;have lpb:X7.heap.size<(X7.alloc (.cells #[.int .i64 (0), .int .i64 (0)] 50)).heap.size:=by simp
    have e8:Below X7.heap.size X7 (X7.alloc (.cells #[.int .i64 (0), .int .i64 (0)] 50)):=(Below.refl _ _).alloc (Nat.le_refl _) _
    have y_pa:=y_pa.below e8 lpa;have pq:=Nat.ne_of_lt lpa;have lpa:=Nat.lt_of_lt_of_le lpa e8.size
    clear e8
    generalize X7.alloc (.cells #[.int .i64 (0), .int .i64 (0)] 50)=X8 at y_pb lpb y_pa lpa hHeld ⊢
    generalize X7.heap.size=pb at y_pb lpb gpb pq ⊢
    have c00:=y_pa.cell 0 _ rfl;have c01:=y_pa.cell 1 _ rfl;have d00:=y_pa.free 0 (by simp);have d01:=y_pa.free 1 (by simp)
    refine tcl 12 fun Kc hK=>?_
    go_simp
    refine hK.out _ _ (HSf.out _ ((hHeld.2.2.2.setCell (by omega) _).setCell (by omega) _)) (fun hHeld=>?_)
    clear hK Kc
    have y2:=(y_pb.other (i:=0) (.int .i64 (X)) pq).other (i:=1) (.int .i64 (Y0)) pq
    have c10:=y2.cell 0 _ rfl;have c11:=y2.cell 1 _ rfl;have d10:=y2.free 0 (by simp);have d11:=y2.free 1 (by simp)
    refine tcl 13 fun Kc hK=>?_
    go_simp
    refine hK.out _ _ (HSf.out _ ((hHeld.2.2.2.setCell (by omega) _).setCell (by omega) _)) (fun hHeld=>?_)
    clear hK Kc
    refine tQ 14 ?_
    simp only [Act.put,ps1,ps2,ps3]
    refine wpAnyH_done (by kernel_rfl) ?_ _
    rw [HQQ.out]
    exact⟨rfl,pa,pb,rfl,(((y_pa.set 0 (.int .i64 (X)) (by simp)).set 1 (.int .i64 (Y0)) (by simp)).other (.int .i64 (U)) (fun e=>pq e.symm)).other (.int .i64 (V)) (fun e=>pq e.symm),by omega,hHeld.2.2.2⟩
   ·skip
    go_simp
    have gpb:W.heap.size≤X6.heap.size:=hHeld.2.2.2.size
    refine hK.out _ _ (HSf.out _ (hHeld.2.2.2.alloc hHeld.2.2.2.size _)) (fun hHeld=>?_)
    clear hK Kc
    have y_pb:=Row.new X6 [.int .i64 (0), .int .i64 (0)] 50;have lpb:X6.heap.size<(X6.alloc (.cells #[.int .i64 (0), .int .i64 (0)] 50)).heap.size:=by simp
    have e9:Below X6.heap.size X6 (X6.alloc (.cells #[.int .i64 (0), .int .i64 (0)] 50)):=(Below.refl _ _).alloc (Nat.le_refl _) _
    have y_pa:=y_pa.below e9 lpa;have pq:=Nat.ne_of_lt lpa;have lpa:=Nat.lt_of_lt_of_le lpa e9.size
    clear e9
    generalize X6.alloc (.cells #[.int .i64 (0), .int .i64 (0)] 50)=X9 at y_pb lpb y_pa lpa hHeld ⊢
    generalize X6.heap.size=pb at y_pb lpb gpb pq ⊢
    refine tcl 5 fun Kc hK=>?_
    go_simp
    (go_at_call 19;refine(C.out _).mono ?_;rintro e X10 ⟨rfl,e10⟩)
    refine hK.out _ _ (HSf.out _ (hHeld.2.2.2.trans (e10.mono hHeld.2.2.2.size))) (fun hHeld=>?_)
    clear hK Kc
    have y_pa:=y_pa.below e10 lpa;have lpa:=Nat.lt_of_lt_of_le lpa e10.size
    have y_pb:=y_pb.below e10 lpb;have lpb:=Nat.lt_of_lt_of_le lpb e10.size
    clear e10
    refine tQ 6 ?_
    simp only [Act.put,ps1,ps2,ps3]
    refine tQ 7 ?_
    simp only [Act.put,ps1,ps2,ps3]
    refine tQ 8 ?_
    simp only [Act.put,ps1,ps2,ps3]
    refine tQ 9 ?_
    simp only [Act.put,ps1,ps2,ps3]
    have c00:=y_pa.cell 0 _ rfl;have c01:=y_pa.cell 1 _ rfl;have d00:=y_pa.free 0 (by simp);have d01:=y_pa.free 1 (by simp)
    refine tcl 12 fun Kc hK=>?_
    go_simp
    refine hK.out _ _ (HSf.out _ ((hHeld.2.2.2.setCell (by omega) _).setCell (by omega) _)) (fun hHeld=>?_)
    clear hK Kc
    have y2:=(y_pb.other (i:=0) (.int .i64 (X)) pq).other (i:=1) (.int .i64 (Y0)) pq
    have c10:=y2.cell 0 _ rfl;have c11:=y2.cell 1 _ rfl;have d10:=y2.free 0 (by simp);have d11:=y2.free 1 (by simp)
    refine tcl 13 fun Kc hK=>?_
    go_simp
    refine hK.out _ _ (HSf.out _ ((hHeld.2.2.2.setCell (by omega) _).setCell (by omega) _)) (fun hHeld=>?_)
    clear hK Kc
    refine tQ 14 ?_
    simp only [Act.put,ps1,ps2,ps3]
    refine wpAnyH_done (by kernel_rfl) ?_ _
    rw [HQQ.out]
    exact⟨rfl,pa,pb,rfl,(((y_pa.set 0 (.int .i64 (X)) (by simp)).set 1 (.int .i64 (Y0)) (by simp)).other (.int .i64 (U)) (fun e=>pq e.symm)).other (.int .i64 (V)) (fun e=>pq e.symm),by omega,hHeld.2.2.2⟩
  ·skip
   go_simp
   have gpb:W.heap.size≤X0.heap.size:=hHeld.2.2.2.size
   refine hK.out _ _ (HSf.out _ (hHeld.2.2.2.alloc hHeld.2.2.2.size _)) (fun hHeld=>?_)
   clear hK Kc
   have y_pb:=Row.new X0 [.int .i64 (0), .int .i64 (0)] 50;have lpb:X0.heap.size<(X0.alloc (.cells #[.int .i64 (0), .int .i64 (0)] 50)).heap.size:=by simp
   have e11:Below X0.heap.size X0 (X0.alloc (.cells #[.int .i64 (0), .int .i64 (0)] 50)):=(Below.refl _ _).alloc (Nat.le_refl _) _
   clear e11
   generalize X0.alloc (.cells #[.int .i64 (0), .int .i64 (0)] 50)=X11 at y_pb lpb hHeld ⊢
   generalize X0.heap.size=pb at y_pb lpb gpb ⊢
   refine wpAnyH_ready (rs:= [5,10]) (by kernel_rfl) (by simp) (AllReadyH.cons (i:=5) rfl (fun Kc hK=>?_) (AllReadyH.cons (i:=10) rfl (fun Kc hK=>?_) AllReadyH.nil))
   ·skip
    go_simp
    (go_at_call 19;refine(C.out _).mono ?_;rintro e X12 ⟨rfl,e12⟩)
    refine hK.out _ _ (HSf.out _ (hHeld.2.2.2.trans (e12.mono hHeld.2.2.2.size))) (fun hHeld=>?_)
    clear hK Kc
    have y_pb:=y_pb.below e12 lpb;have lpb:=Nat.lt_of_lt_of_le lpb e12.size
    clear e12
    refine tQ 6 ?_
    simp only [Act.put,ps1,ps2,ps3]
    refine tQ 7 ?_
    simp only [Act.put,ps1,ps2,ps3]
    refine tQ 8 ?_
    simp only [Act.put,ps1,ps2,ps3]
    refine tQ 9 ?_
    simp only [Act.put,ps1,ps2,ps3]
    refine tcl 10 fun Kc hK=>?_
    go_simp
    have gpa:W.heap.size≤X12.heap.size:=hHeld.2.2.2.size
    refine hK.out _ _ (HSf.out _ (hHeld.2.2.2.alloc hHeld.2.2.2.size _)) (fun hHeld=>?_)
    clear hK Kc
    have y_pa:=Row.new X12 [.int .i64 (0), .int .i64 (0)] 23;have lpa:X12.heap.size<(X12.alloc (.cells #[.int .i64 (0), .int .i64 (0)] 23)).heap.size:=by simp
    have e13:Below X12.heap.size X12 (X12.alloc (.cells #[.int .i64 (0), .int .i64 (0)] 23)):=(Below.refl _ _).alloc (Nat.le_refl _) _
    have y_pb:=y_pb.below e13 lpb;have pq:=Nat.ne_of_gt lpb;have lpb:=Nat.lt_of_lt_of_le lpb e13.size
    clear e13
    generalize X12.alloc (.cells #[.int .i64 (0), .int .i64 (0)] 23)=X13 at y_pa lpa y_pb lpb hHeld ⊢
    generalize X12.heap.size=pa at y_pa lpa gpa pq ⊢
    have c00:=y_pa.cell 0 _ rfl;have c01:=y_pa.cell 1 _ rfl;have d00:=y_pa.free 0 (by simp);have d01:=y_pa.free 1 (by simp)
    refine tcl 12 fun Kc hK=>?_
    go_simp
    refine hK.out _ _ (HSf.out _ ((hHeld.2.2.2.setCell (by omega) _).setCell (by omega) _)) (fun hHeld=>?_)
    clear hK Kc
    have y2:=(y_pb.other (i:=0) (.int .i64 (X)) pq).other (i:=1) (.int .i64 (Y0)) pq
    have c10:=y2.cell 0 _ rfl;have c11:=y2.cell 1 _ rfl;have d10:=y2.free 0 (by simp);have d11:=y2.free 1 (by simp)
    refine tcl 13 fun Kc hK=>?_
    go_simp
    refine hK.out _ _ (HSf.out _ ((hHeld.2.2.2.setCell (by omega) _).setCell (by omega) _)) (fun hHeld=>?_)
    clear hK Kc
    refine tQ 14 ?_
    simp only [Act.put,ps1,ps2,ps3]
    refine wpAnyH_done (by kernel_rfl) ?_ _
    rw [HQQ.out]
    exact⟨rfl,pa,pb,rfl,(((y_pa.set 0 (.int .i64 (X)) (by simp)).set 1 (.int .i64 (Y0)) (by simp)).other (.int .i64 (U)) (fun e=>pq e.symm)).other (.int .i64 (V)) (fun e=>pq e.symm),by omega,hHeld.2.2.2⟩
   ·skip
    go_simp
    have gpa:W.heap.size≤X11.heap.size:=hHeld.2.2.2.size
    refine hK.out _ _ (HSf.out _ (hHeld.2.2.2.alloc hHeld.2.2.2.size _)) (fun hHeld=>?_)
    clear hK Kc
    have y_pa:=Row.new X11 [.int .i64 (0), .int .i64 (0)] 23;have lpa:X11.heap.size<(X11.alloc (.cells #[.int .i64 (0), .int .i64 (0)] 23)).heap.size:=by simp
    have e14:Below X11.heap.size X11 (X11.alloc (.cells #[.int .i64 (0), .int .i64 (0)] 23)):=(Below.refl _ _).alloc (Nat.le_refl _) _
    have y_pb:=y_pb.below e14 lpb;have pq:=Nat.ne_of_gt lpb;have lpb:=Nat.lt_of_lt_of_le lpb e14.size
    clear e14
    generalize X11.alloc (.cells #[.int .i64 (0), .int .i64 (0)] 23)=X14 at y_pa lpa y_pb lpb hHeld ⊢
    generalize X11.heap.size=pa at y_pa lpa gpa pq ⊢
    refine tcl 5 fun Kc hK=>?_
    go_simp
    (go_at_call 19;refine(C.out _).mono ?_;rintro e X15 ⟨rfl,e15⟩)
    refine hK.out _ _ (HSf.out _ (hHeld.2.2.2.trans (e15.mono hHeld.2.2.2.size))) (fun hHeld=>?_)
    clear hK Kc
    have y_pb:=y_pb.below e15 lpb;have lpb:=Nat.lt_of_lt_of_le lpb e15.size
    have y_pa:=y_pa.below e15 lpa;have lpa:=Nat.lt_of_lt_of_le lpa e15.size
    clear e15
    refine tQ 6 ?_
    simp only [Act.put,ps1,ps2,ps3]
    refine tQ 7 ?_
    simp only [Act.put,ps1,ps2,ps3]
    refine tQ 8 ?_
    simp only [Act.put,ps1,ps2,ps3]
    refine tQ 9 ?_
    simp only [Act.put,ps1,ps2,ps3]
    have c00:=y_pa.cell 0 _ rfl;have c01:=y_pa.cell 1 _ rfl;have d00:=y_pa.free 0 (by simp);have d01:=y_pa.free 1 (by simp)
    refine tcl 12 fun Kc hK=>?_
    go_simp
    refine hK.out _ _ (HSf.out _ ((hHeld.2.2.2.setCell (by omega) _).setCell (by omega) _)) (fun hHeld=>?_)
    clear hK Kc
    have y2:=(y_pb.other (i:=0) (.int .i64 (X)) pq).other (i:=1) (.int .i64 (Y0)) pq
    have c10:=y2.cell 0 _ rfl;have c11:=y2.cell 1 _ rfl;have d10:=y2.free 0 (by simp);have d11:=y2.free 1 (by simp)
    refine tcl 13 fun Kc hK=>?_
    go_simp
    refine hK.out _ _ (HSf.out _ ((hHeld.2.2.2.setCell (by omega) _).setCell (by omega) _)) (fun hHeld=>?_)
    clear hK Kc
    refine tQ 14 ?_
    simp only [Act.put,ps1,ps2,ps3]
    refine wpAnyH_done (by kernel_rfl) ?_ _
    rw [HQQ.out]
    exact⟨rfl,pa,pb,rfl,(((y_pa.set 0 (.int .i64 (X)) (by simp)).set 1 (.int .i64 (Y0)) (by simp)).other (.int .i64 (U)) (fun e=>pq e.symm)).other (.int .i64 (V)) (fun e=>pq e.symm),by omega,hHeld.2.2.2⟩
 rw [HQQ.out]
 rintro e act Y ⟨rfl,pa,pb,rfl,RP,gP,bY⟩
 clear HQQ QQ HSf
 have zY:=bY.size
 have hpa:pa<Y.heap.size:=RP.lt
 have bwY:Below w.heap.size w Y:=bW.trans (bY.mono (by omega))
 have RGY:Row Y g (grR s n v m):=RG.below bY hgW
 have hB:=HO.out
 cases ok
 ·have e0:(a,b)=((-1:Int),(-1:Int)):=by have e:=HAB.out;unfold cellC at e;rw [←HO.out]at e;exact e
  obtain⟨rfl,rfl⟩:a= -1∧b= -1:=by simpa using e0
  clear e0 hB
  go_wp2
  exact bodyPost_ret (v:= .tuple #[.int .i64 (-1), .int .i64 (-1)]) (by simp [results,Try.results9,go_sem]) rfl ⟨rfl,bwY⟩
 ·have e0:(a,b)=(clX x s n,clX y s n):=by have e:=HAB.out;unfold cellC at e;rw [←HO.out]at e;exact e
  obtain⟨ha,hb⟩:a=clX x s n∧b=clX y s n:=by simpa using e0
  have eX:X=x % s:=by have e:=HX.out;rw [←HO.out]at e;exact e
  have eY:Y0=y % s:=by have e:=HY.out;rw [←HO.out]at e;exact e
  have s0:0<s:=by have:=h.1;omega
  have HA:Hid (a=X*(n:Int)/s):=by unfold Hid;rw [ha,eX];rfl
  have HBb:Hid (b=Y0*(n:Int)/s):=by unfold Hid;rw [hb,eY];rfl
  have bX:Hid (0≤X∧X<s):=by unfold Hid;rw [eX];exact⟨Int.emod_nonneg _ (by omega),Int.emod_lt_of_pos _ s0⟩
  have bY0:Hid (0≤Y0∧Y0<s):=by unfold Hid;rw [eY];exact⟨Int.emod_nonneg _ (by omega),Int.emod_lt_of_pos _ s0⟩
  have c0:=RP.cell 0 _ rfl
  have c1:=RP.cell 1 _ rfl
  have hgY:g<Y.heap.size:=by omega
  have CA:Hid (∀ w',Below Y.heap.size Y w'→Calls Try.prog 20 #[.pointer (some ⟨g,0,none⟩), .int .i64 X] w' fun e w''=>e= .returned (.int .i64 a)∧Below w'.heap.size w' w''):=fun w' hb=>bkPart g v n s m X w' (RGY.below hb hgY) h bX.out.1 bX.out.2 HA.out
  have CB:Hid (∀ w',Below Y.heap.size Y w'→Calls Try.prog 20 #[.pointer (some ⟨g,0,none⟩), .int .i64 Y0] w' fun e w''=>e= .returned (.int .i64 b)∧Below w'.heap.size w' w''):=fun w' hb=>bkPart g v n s m Y0 w' (RGY.below hb hgY) h bY0.out.1 bY0.out.2 HBb.out
  clear e0 hB ha hb eX eY
  go_wp2
  have HSi:Hid (∀ w',Below (Y.heap.size) Y w'→(fun w'=>w'.cell? ⟨pa,0,none⟩=some (.int .i64 (X))∧w'.cell? ⟨pa,1,none⟩=some (.int .i64 (Y0))∧Below (Y.heap.size) Y w') w'):=by
   unfold Hid
   intro w' hb
   exact⟨(hb.cell (p:=⟨pa,0,none⟩) hpa).trans c0,(hb.cell (p:=⟨pa,1,none⟩) hpa).trans c1,hb⟩
  refine wp_region_held_drew (S:=fun w'=>w'.cell? ⟨pa,0,none⟩=some (.int .i64 (X))∧w'.cell? ⟨pa,1,none⟩=some (.int .i64 (Y0))∧Below (Y.heap.size) Y w') (by kernel_rfl) ?_ (fun hHeld=>?_)
  ·exact HSi.out _ ((Below.refl _ _).drew)
  refine tn 0 ?_;refine tn 1 ?_;refine tn 2 ?_;refine tn 4 ?_;refine tn 5 ?_;refine tn 6 ?_
  simp only [Act.put,ps1,ps2,ps3]
  refine tcl 3 fun Kc hK=>?_
  go_simp
  (go_at_call 20;refine(CA.out _ hHeld.2.2).mono ?_;rintro e w8 ⟨rfl,bo8⟩)
  refine hK.out _ _ ?_ (fun hHeld=>?_)
  ·exact HSi.out _ (hHeld.2.2.trans (bo8.mono hHeld.2.2.size))
  clear hK Kc
  refine tcl 7 fun Kc hK=>?_
  go_simp
  (go_at_call 20;refine(CB.out _ hHeld.2.2).mono ?_;rintro e w9 ⟨rfl,bo9⟩)
  refine hK.out _ _ ?_ (fun hHeld=>?_)
  ·exact HSi.out _ (hHeld.2.2.trans (bo9.mono hHeld.2.2.size))
  clear hK Kc
  refine tn 8 ?_;refine tn 9 ?_
  simp only [Act.put,ps1,ps2,ps3]
  refine wpAnyH_done (by kernel_rfl) ?_ _
  have bF:=hHeld.2.2
  go_wp2
  exact bodyPost_ret (v:= .tuple #[.int .i64 a, .int .i64 b]) (by simp [results,Try.results9,go_sem]) rfl ⟨rfl,bwY.trans (bF.mono (by omega))⟩
theorem cell_dec(x y s:Int)(n:Nat)(h:GrOk s n):(cellC x y s n=(-1, -1)∧homeC x y s=false)∨ ∃ a b:Nat,cellC x y s n=((a:Int),(b:Int))∧a<n∧b<n∧homeC x y s=true:=by
 unfold cellC
 cases hh:homeC x y s
 ·exact Or.inl ⟨rfl,rfl⟩
 ·right
  have h1:=clX_in (x:=x) h
  have h2:=clX_in (x:=y) h
  exact⟨(clX x s n).toNat,(clX y s n).toNat,by simp only [if_true];rw [Int.toNat_of_nonneg h1.1,Int.toNat_of_nonneg h2.1],by omega,by omega,rfl⟩
def lstC(x y s:Int)(n:Nat):Option Nat:=if homeC x y s then some ((clX x s n).toNat*n+(clX y s n).toNat)else none
theorem lst_in{x y s:Int}{n k:Nat}(h:GrOk s n)(hk:lstC x y s n=some k):k<n*n:=by
 unfold lstC at hk
 have h1:=clX_in (x:=x) h
 have h2:=clX_in (x:=y) h
 split at hk
 ·cases hk;exact idx_in (by omega) (by omega)
 ·cases hk
set_option maxRecDepth 100000 in
set_option maxHeartbeats 1000000 in
theorem bkList(g v n:Nat)(s m x y:Int)(w:World)(hrow:Row w g (grR s n v m))(h:GrOk s n){r:Option Addr}(hr:r=(lstC x y s n).map fun k=>⟨v,k,none⟩):
  Calls Try.prog 22 #[.pointer (some ⟨g,0,none⟩), .agg #[.int .i64 x, .int .i64 y]] w fun e w'=>e= .returned (.pointer r)∧Below w.heap.size w w':=by
 have hgl:=hrow.lt
 obtain⟨W,hW⟩: ∃ W,W=w.alloc (.cells #[.int .i64 x, .int .i64 y] 23):=⟨_,rfl⟩
 have bW:Below w.heap.size w W:=by rw [hW];exact(Below.refl _ _).alloc (Nat.le_refl _) _
 have zW:W.heap.size=w.heap.size+1:=by rw [hW];simp
 have RG:Row W g (grR s n v m):=hrow.below bW hgl
 rcases cell_dec x y s n h with⟨hc,hh⟩|⟨a,b,hc,ha,hb,hh⟩
 ·obtain rfl:r=none:=by rw [hr];unfold lstC;rw [hh];rfl
  have HC:Hid _:=hc
  clear hc hh hr
  go_enter Try.func22,Try.ntmps22
  go_wp2_with (go_at_call 9;fail)
  rw [←hW]
  clear hW
  refine(bkCell g v n s m x y W RG h HC.out.symm).mono ?_
  rintro e w1 ⟨rfl,b1⟩
  go_wp2
  go_ret
  exact⟨rfl,bW.trans (b1.mono (by omega))⟩
 ·have e1:clX x s n=(a:Int)∧clX y s n=(b:Int):=by have e:=hc;unfold cellC at e;rw [hh]at e;simpa using e
  obtain rfl:r=some ⟨v,a*n+b,none⟩:=by rw [hr];unfold lstC;rw [hh,e1.1,e1.2];rfl
  have HC:Hid _:=hc
  have e2:(a:Int) % (n:Int)=a:=Int.emod_eq_of_lt (by omega) (by omega)
  have e3:(b:Int) % (n:Int)=b:=Int.emod_eq_of_lt (by omega) (by omega)
  have n4:=h.2.2.2
  have E:Hid (∀ w',Row w' g (grR s n v m)→Calls Try.prog 27 #[.pointer (some ⟨g,0,none⟩), .int .i64 (a:Int), .int .i64 (b:Int)] w' fun e w''=>e= .returned (.pointer (some ⟨v,a*n+b,none⟩))∧Below w'.heap.size w' w''):=
   fun w' hr'=>bkAt g v n s m a b w' hr' h ⟨by omega,by omega⟩ ⟨by omega,by omega⟩ a b e2.symm e3.symm
  clear hc hh hr e1 e2 e3
  go_enter Try.func22,Try.ntmps22
  go_wp2_with (go_at_call 9;fail)
  rw [←hW]
  clear hW
  refine(bkCell g v n s m x y W RG h HC.out.symm).mono ?_
  rintro e w1 ⟨rfl,b1⟩
  have hs1:=b1.size
  have a0: ¬(a:Int)<0:=by omega
  go_wp2_with (go_at_call 27;fail)
  refine(E.out _ (RG.below b1 (by omega))).mono ?_
  rintro e w2 ⟨rfl,b2⟩
  go_wp2
  go_ret
  exact⟨rfl,(bW.trans (b1.mono (by omega))).trans (b2.mono (by omega))⟩
set_option maxRecDepth 100000 in
theorem bkLen(g v n:Nat)(s m:Int)(w:World)(hrow:Row w g (grR s n v m)):Calls Try.prog 16 #[.pointer (some ⟨g,0,none⟩)] w fun e w'=>e= .returned (.int .i64 m)∧Below w.heap.size w w':=by
 have q:=hrow.cell 3 _ rfl
 go_enter Try.func16,Try.ntmps16
 go_wp2
 go_ret
 exact⟨rfl,Below.refl _ _⟩
theorem infoL:(Try.prog.info? 58).map (fun i=>(i.zero,i.size,i.bytes))=some (some (.slice none 0 0),1,24):=by kernel_rfl
def LeftB(Ob:(Nat→Prop)→World→Prop)(F:Nat→Prop)(w w':World):Prop:=Keep F w w'∧ ∃ F',Ob F' w'∧ ∀ k,F' k→F k∨w.heap.size≤k
def upd{α:Type}(f:Nat→α)(k:Nat)(x:α):Nat→α:=fun j=>if j=k then x else f j
theorem upd_same{α:Type}{f:Nat→α}{k:Nat}{x:α}:upd f k x k=x:=by unfold upd;rw [if_pos rfl]
theorem upd_other{α:Type}{f:Nat→α}{k j:Nat}{x:α}(h:j≠k):upd f k x j=f j:=by unfold upd;rw [if_neg h]
theorem GrO.turn{w w3:World}{base g v n k c':Nat}{s m m':Int}{A:Nat→Option Addr×Nat}{L:Nat→List Int}{a':Option Addr}{xs:List Int}(h:GrO w base g v s n A L m)(hk:k<n*n)
  (ow:Own w3 base 3 a' xs.length c' (ints xs)) (hK:Keep (Slot (A k).1) w w3) (hs: ∀ b,Slot a' b→Slot (A k).1 b∨w.heap.size≤b):
  GrO ((w3.setCell ⟨v,k,none⟩ (.slice a' xs.length c')).setCell ⟨g,3,none⟩ (.int .i64 m')) base g v s n (upd A k (a',c')) (upd L k xs) m':=by
 have hgl:=h.row.lt
 have hvl:=h.vl
 have ng: ¬Slot (A k).1 g:=fun e=>(h.off k hk g e).1 rfl
 have nv: ¬Slot (A k).1 v:=fun e=>(h.off k hk v e).2 rfl
 have ng': ¬Slot a' g:=fun e=>(hs g e).elim ng (fun e=>by omega)
 have nv': ¬Slot a' v:=fun e=>(hs v e).elim nv (fun e=>by omega)
 have row3:=h.row.keep hK hgl ng
 have ver3: ∀ j,j<n*n→w3.cell? ⟨v,j,none⟩=some (.slice (A j).1 (L j).length (A j).2)∧w3.frozen? ⟨v,j,none⟩=false:=by
  intro j hj
  rw [World.cell?_of_block (w:=w) (a:=⟨v,j,none⟩) (hK.block v hvl nv),World.frozen?_of_block (w:=w) (a:=⟨v,j,none⟩) (hK.block v hvl nv)]
  exact h.ver j hj
 have K5:Keep (fun b=>b=v∨b=g) w3 ((w3.setCell ⟨v,k,none⟩ (.slice a' xs.length c')).setCell ⟨g,3,none⟩ (.int .i64 m')):=((Keep.refl _ _).set (Or.inl (Or.inl rfl)) _).set (Or.inl (Or.inr rfl)) _
 refine⟨?_,?_,?_,h.ne,Nat.lt_of_lt_of_le hvl (Nat.le_trans hK.size K5.size),?_,?_⟩
 ·exact(row3.other (i:=k) (.slice a' xs.length c') (fun e=>h.ne e.symm)).set 3 (.int .i64 m') (by simp [grR])
 ·intro j hj
  rw [World.frozen?_setCell,World.frozen?_setCell,World.cell?_setCell_other _ _ _ _ (by intro q;simp only [Addr.mk.injEq]at q;exact h.ne q.1)]
  refine⟨?_,(ver3 j hj).2⟩
  by_cases e:j=k
  ·subst e
   rw [upd_same,upd_same]
   exact World.cell?_setCell_same _ _ _ (ver3 j hj).1
  ·rw [upd_other e,upd_other e,World.cell?_setCell_other _ _ _ _ (by intro q;simp only [Addr.mk.injEq]at q;omega)]
   exact(ver3 j hj).1
 ·intro j hj
  by_cases e:j=k
  ·subst e
   rw [upd_same,upd_same]
   exact ow.keep K5 (fun b sb e=>e.elim (fun e=>nv' (e▸sb)) (fun e=>ng' (e▸sb)))
  ·rw [upd_other e,upd_other e]
   exact((h.own j hj).keep hK (fun b sb=>h.apart j k hj hk e b sb)).keep K5 (fun b sb e=>e.elim (h.off j hj b sb).2 (h.off j hj b sb).1)
 ·intro j hj b sb
  by_cases e:j=k
  ·subst e
   rw [upd_same]at sb
   exact⟨fun e=>ng' (e▸sb),fun e=>nv' (e▸sb)⟩
  ·rw [upd_other e]at sb
   exact h.off j hj b sb
 ·intro i j hi hj hij b sb sb'
  by_cases e:i=k
  ·subst e
   rw [upd_same]at sb
   rw [upd_other (Ne.symm hij)]at sb'
   exact(hs b sb).elim (fun s1=>h.apart i j hi hj hij b s1 sb') (fun e=>by have:=((h.own j hj).lt sb').1;omega)
  ·rw [upd_other e]at sb
   by_cases e2:j=k
   ·subst e2
    rw [upd_same]at sb'
    exact(hs b sb').elim (fun s1=>h.apart i j hi hj hij b sb s1) (fun e=>by have:=((h.own i hi).lt sb).1;omega)
   ·rw [upd_other e2]at sb'
    exact h.apart i j hi hj hij b sb sb'
theorem GrO.turned{w w2 w3:World}{base g v n k c':Nat}{s m m':Int}{A:Nat→Option Addr×Nat}{L:Nat→List Int}{a':Option Addr}{xs:List Int}{F:Nat→Prop}(h:GrO w base g v s n A L m)(hFg:F g)(hFv:F v)(hF: ∀ k,k<n*n→ ∀ b,Slot (A k).1 b→F b)(hft: ∀ k,F k→base≤k∧k<w.heap.size)(hk:k<n*n)
  (b2:Below w.heap.size w w2) (ow:Own w3 base 3 a' xs.length c' (ints xs)) (hK:Keep (Slot (A k).1) w2 w3) (hs: ∀ b,Slot a' b→Slot (A k).1 b∨w2.heap.size≤b):
  LeftB (GrP base g s n (upd L k xs) m') F w ((w3.setCell ⟨v,k,none⟩ (.slice a' xs.length c')).setCell ⟨g,3,none⟩ (.int .i64 m')):=by
 have h2:=h.keep hFg hFv hF (Keep.of (F:=fun _=>False) b2) (fun _ _ x=>x)
 have hT:=h2.turn (m':=m') hk ow hK hs
 have k3:Keep F w w3:=(Keep.of b2).trans hK (fun b sb=>Or.inl (hF k hk b sb))
 have k5:Keep F w ((w3.setCell ⟨v,k,none⟩ (.slice a' xs.length c')).setCell ⟨g,3,none⟩ (.int .i64 m')):=(k3.set (Or.inl hFv) _).set (Or.inl hFg) _
 have hz:w.heap.size≤w2.heap.size:=b2.size
 refine⟨k5,fun b=>F b∨(w.heap.size≤b∧b<w3.heap.size),⟨⟨v,_,hT,Or.inl hFg,Or.inl hFv,?_⟩,?_⟩,fun b hb=>hb.imp id (fun e=>e.1)⟩
 ·intro j hj b sb
  by_cases e:j=k
  ·subst e
   rw [upd_same]at sb
   exact(hs b sb).imp (hF j hj b) (fun e=>⟨by omega,(ow.lt sb).1⟩)
  ·rw [upd_other e]at sb
   exact Or.inl (hF j hj b sb)
 ·rintro b (hb|⟨h1,h3⟩)
  ·exact⟨(hft b hb).1,Nat.lt_of_lt_of_le (hft b hb).2 k5.size⟩
  ·have hb:base≤w.heap.size:=by have:=hft g hFg;omega
   have:=k5.size
   exact⟨by omega,by simp only [World.size_setCell];exact h3⟩
theorem GrP.stays{base g n:Nat}{s m:Int}{L:Nat→List Int}{F:Nat→Prop}{w w':World}(h:GrP base g s n L m F w)(hb:Below w.heap.size w w'):LeftB (GrP base g s n L m) F w w':=⟨Keep.of hb,F,h.below hb,fun k hk=>Or.inl hk⟩
def GotNew(base:Nat)(s:Int)(n:Nat)(w:World)(e:Ending)(w':World):Prop:= ∃ g F,e= .returned (.pointer (some ⟨g,0,none⟩))∧GrP base g s n (fun _=> []) 0 F w'∧(∀ k,F k→w.heap.size≤k)∧Below w.heap.size w w'
set_option maxRecDepth 100000 in
set_option maxHeartbeats 1000000 in
theorem bkNew(base:Nat)(s c:Int)(n:Nat)(w:World)(h:GrOk s n)(hc:c=(n:Int))(hb:base≤w.heap.size):
  Calls Try.prog 8 #[.int .i64 s, .int .i64 c] w (GotNew base s n w):=by
 obtain⟨i0,hi0,hz0,hz1,hz2⟩:=info_of infoL
 have h':=h
 obtain⟨a1,a2,a3,a4⟩:=h
 have hnn:n*n≤64*64:=Nat.mul_le_mul a4 a4
 have e1:wrap64 (c*c)=((n*n:Nat):Int):=by rw [hc,←Int.natCast_mul];exact wrap_in (by omega) (by omega)
 have e2: ¬s<1:=by omega
 have e3: ¬17179869184<s:=by omega
 have e4: ¬c<1:=by omega
 have e5: ¬64<c:=by omega
 have HC:Hid _:=hc
 have HN:Hid (n*n≤64*64):=hnn
 obtain⟨q,hq⟩: ∃ q,q=n*n:=⟨_,rfl⟩
 rw [←hq]at e1 hnn
 have HQ:Hid _:=hq
 clear hq hc a1 a2 a3 a4
 go_enter Try.func8,Try.ntmps8
 go_wp2_with (at_make;refine make_any _ rfl _ _ 46 rfl w.heap.size 58 i0 _ Try.underlying46 hi0 hz0 hz1 rfl _ _ _ _ q rfl rfl (by first|rfl|assumption) (by first|rfl|assumption) (by rw [hz2];omega) (by unfold maxLen;omega) (Nat.le_refl _) ?_;intro w1 ow1 b1)
 go_ret
 have zs:=b1.size
 obtain⟨⟨f,hr,hf⟩,hbb,hn,hm,_⟩:=own_row ow1
 have R:=Row.new w1 (grR s n w.heap.size 0) 48
 have bb:Below w1.heap.size w1 (w1.alloc (.cells (grR s n w.heap.size 0).toArray 48)):=(Below.refl _ _).alloc (Nat.le_refl _) _
 have hlt:=hr.lt
 refine⟨w1.heap.size,fun k=>k=w.heap.size∨k=w1.heap.size,rfl,⟨⟨w.heap.size,fun _=>(none,0),⟨?_,?_,?_,by omega,by simp;omega,?_,?_⟩,Or.inr rfl,Or.inl rfl,?_⟩,?_⟩,?_,?_⟩
 ·rw [HQ.out,HC.out];exact R
 ·intro k hk
  rw [←HQ.out]at hk
  have hr2:=hr.alloc (.cells (grR s n w.heap.size 0).toArray 48)
  rw [HQ.out,HC.out]
  refine⟨(hr2.cell hk).trans ?_,hr2.frozen k⟩
  rw [hf k (.slice none 0 0) (by rw [List.getElem?_replicate,if_pos hk])]
  rfl
 ·intro k hk;exact own_none _ _ _
 ·intro k hk b sb;exact(slot_no sb).elim
 ·intro k j hk hj hkj b sb;exact(slot_no sb).elim
 ·intro k hk b sb;exact(slot_no sb).elim
 ·rintro k (rfl|rfl)
  ·exact⟨hb,by simp;omega⟩
  ·exact⟨by omega,by simp⟩
 ·rintro k (rfl|rfl)
  ·exact Nat.le_refl _
  ·exact zs
 ·rw [HQ.out,HC.out];exact b1.trans (bb.mono zs)
def putL(L:Nat→List Int)(o:Option Nat)(v:Int):Nat→List Int:=match o with|none=>L|some k=>upd L k (insL (L k) v)
def putM(m:Int)(o:Option Nat):Int:=match o with|none=>m|some _=>m+1
theorem one_row(w:World)(v:Int):(w.alloc (.cells #[.int .i64 v] 3)).rowIs w.heap.size 3 1 (fun _=> .int .i64 v):=World.rowIs_alloc w #[.int .i64 v] 3 (fun _=> .int .i64 v) (fun i hi=>by simp at hi;subst hi;rfl)
theorem below_to{a b c:World}(h:Below a.heap.size a b)(k:Below b.heap.size b c):Below a.heap.size a c:=h.trans (k.mono h.size)
set_option maxRecDepth 100000 in
set_option maxHeartbeats 2000000 in
theorem bkPut(base g n:Nat)(s m v x y:Int)(L:Nat→List Int)(F:Nat→Prop)(w:World)(H:GrP base g s n L m F w)(h:GrOk s n)(hl: ∀ k,(L k).length≤1000)(hs: ∀ k,(L k).Pairwise (· ≤ ·))(hm: -1000000≤m∧m≤1000000):
  Calls Try.prog 14 #[.pointer (some ⟨g,0,none⟩), .int .i64 v, .agg #[.int .i64 x, .int .i64 y]] w fun e w'=>e= .returned (.tuple #[])∧LeftB (GrP base g s n (putL L (lstC x y s n) v) (putM m (lstC x y s n))) F w w':=by
 have H':=H
 obtain⟨⟨vv,A,hO,hFg,hFv,hFA⟩,hft⟩:=H'
 have hgl:=hO.row.lt
 obtain⟨W,hW⟩: ∃ W,W=w.alloc (.cells #[.int .i64 x, .int .i64 y] 23):=⟨_,rfl⟩
 have bW:Below w.heap.size w W:=by rw [hW];exact(Below.refl _ _).alloc (Nat.le_refl _) _
 have hOW:=hO.keep hFg hFv hFA (Keep.of (F:=fun _=>False) bW) (fun _ _ x=>x)
 rcases ho:lstC x y s n with _|k
 ·have HO:Hid _:=ho
  clear ho
  go_enter Try.func14,Try.ntmps14
  go_wp2_with (go_at_call 22;fail)
  rw [←hW]
  clear hW
  refine(bkList g vv n s m x y W hOW.row h (r:=none) (by rw [HO.out];rfl)).mono ?_
  rintro e w1 ⟨rfl,b1⟩
  go_wp2
  refine bodyPost_ret (results_none rfl _ _ _) rfl ?_
  exact⟨rfl,H.stays (below_to bW b1)⟩
 ·have hk:=lst_in h ho
  have HO:Hid _:=ho
  clear ho
  go_enter Try.func14,Try.ntmps14
  go_wp2_with (go_at_call 22;fail)
  rw [←hW]
  clear hW
  refine(bkList g vv n s m x y W hOW.row h (r:=some ⟨vv,k,none⟩) (by rw [HO.out];rfl)).mono ?_
  rintro e w1 ⟨rfl,b1⟩
  have b01:=below_to bW b1
  have hO1:=hO.keep hFg hFv hFA (Keep.of (F:=fun _=>False) b01) (fun _ _ x=>x)
  have q1:=(hO1.ver k hk).1
  go_wp2_with (go_at_call 23;fail)
  refine(lbSearch base (A k).1 (A k).2 (L k) v w1 (hO1.own k hk) (hl k) (hs k)).mono ?_
  rintro e w2 ⟨rfl,q,rfl⟩
  have q2:(w1.drewN q).cell? ⟨vv,k,none⟩=some (.slice (A k).1 (L k).length (A k).2):=q1
  have bd:=below_dn w1.heap.size w1 q
  generalize hw2:w1.drewN q=w2 at q2 bd ⊢
  have b02:=below_to b01 bd
  clear q1 hw2
  obtain⟨X,hX⟩: ∃ X,X=w2.alloc (.cells #[.int .i64 v] 3):=⟨_,rfl⟩
  have bX:Below w2.heap.size w2 X:=by rw [hX];exact(Below.refl _ _).alloc (Nat.le_refl _) _
  have b0X:=below_to b02 bX
  have hOX:=hO.keep hFg hFv hFA (Keep.of (F:=fun _=>False) b0X) (fun _ _ x=>x)
  have rX:X.rowIs w2.heap.size 3 1 (fun _=> .int .i64 v):=by rw [hX];exact one_row w2 v
  have nS: ¬Slot (A k).1 w2.heap.size:=fun e=>by have:=(hFA k hk _ e);have:=(hft _ this).2;have:=b02.size;omega
  have hbX:base≤X.heap.size:=by have:=(hft g hFg).1;have:=b0X.size;omega
  have hbool: ∀ bb:Bool,bb=(L k).contains v→True:=fun _ _=>trivial
  generalize (L k).contains v=there
  go_wp2_with (go_at_call 25;fail)
  rw [←hX]
  clear hX
  refine(lbInsert base (A k).1 (A k).2 (plc (L k) v) w2.heap.size (L k) v X (hOX.own k hk) hbX (plc_le _ _) (hl k) rX nS).mono ?_
  rintro e w3 ⟨a',c',rfl,ow,hK,hsl⟩
  have hOi:(L k).take (plc (L k) v)++v::(L k).drop (plc (L k) v)=insL (L k) v:=rfl
  rw [hOi]at ow ⊢
  have ver3:w3.cell? ⟨vv,k,none⟩=some (.slice (A k).1 (L k).length (A k).2)∧w3.frozen? ⟨vv,k,none⟩=false:=by
   rw [World.cell?_of_block (w:=X) (a:=⟨vv,k,none⟩) (hK.block vv hOX.vl (fun e=>(hOX.off k hk vv e).2 rfl)),World.frozen?_of_block (w:=X) (a:=⟨vv,k,none⟩) (hK.block vv hOX.vl (fun e=>(hOX.off k hk vv e).2 rfl))]
   exact hOX.ver k hk
  obtain⟨c3,d3⟩:=ver3
  have row3:=(hOX.row.keep hK hOX.row.lt (fun e=>(hOX.off k hk g e).1 rfl)).other (i:=k) (.slice a' (insL (L k) v).length c') (fun e=>hOX.ne e.symm)
  have r3:=row3.cell 3 _ rfl
  have r4:=row3.free 3 (by simp [grR])
  have ew:wrap64 (m+1)=m+1:=wrap_in (by omega) (by omega)
  have HT:Hid _:=hO.turned (m':=m+1) hFg hFv hFA hft hk b0X ow hK hsl
  clear ow hK hsl hOX hO1 hOW rX nS row3
  go_wp2
  go_end0
  exact⟨rfl,HT.out⟩
def ups:Int→Nat→List Int
 |_,0=> []
 |a,n+1=>a::ups (a+1) n
theorem ups_mem{a:Int}{n:Nat}{x:Int}(h:x∈ups a n):a≤x∧x<a+n:=by
 induction n generalizing a with
 |zero=>cases h
 |succ n ih=>
  rcases List.mem_cons.1 h with rfl|h
  ·omega
  ·have:=ih h;omega
def colP(f:Nat)(r:Int):List (Int×Int):=if r= -(f:Int)∨r=(f:Int)then(ups (-(f:Int)) (2*f+1)).map fun k=>(r,k)else [(r, -(f:Int)),(r,(f:Int))]
def ringP(f:Nat):List (Int×Int):=(ups (-(f:Int)) (2*f+1)).flatMap (colP f)
def outP(n:Nat):List (Int×Int):=(ups 0 (n+1)).flatMap fun f=>ringP f.toNat
theorem col_in{f:Nat}{r:Int}{o:Int×Int}(h:o∈colP f r):o.1=r∧ -(f:Int)≤o.2∧o.2≤f:=by
 unfold colP at h
 split at h
 ·obtain⟨k,hk,rfl⟩:=List.mem_map.1 h
  have:=ups_mem hk
  exact⟨rfl,by dsimp only;omega,by dsimp only;omega⟩
 ·simp only [List.mem_cons,List.not_mem_nil,or_false]at h
  rcases h with rfl|rfl
  ·exact⟨rfl,by dsimp only;omega,by dsimp only;omega⟩
  ·exact⟨rfl,by dsimp only;omega,by dsimp only;omega⟩
theorem ring_in_r{f:Nat}{o:Int×Int}(h:o∈ringP f): -(f:Int)≤o.1∧o.1≤f∧ -(f:Int)≤o.2∧o.2≤f:=by
 unfold ringP at h
 obtain⟨r,hr,ho⟩:=List.mem_flatMap.1 h
 have:=ups_mem hr
 have:=col_in ho
 omega
theorem out_in{n:Nat}{o:Int×Int}(h:o∈outP n): -(n:Int)≤o.1∧o.1≤n∧ -(n:Int)≤o.2∧o.2≤n:=by
 unfold outP at h
 obtain⟨f,hf,ho⟩:=List.mem_flatMap.1 h
 have:=ups_mem hf
 have:=ring_in_r ho
 omega
def RemC(f:Nat)(st u:Int)(T:List Int):Prop:=(st=1∧u≤(f:Int)+1∧ -(f:Int)≤u∧T=ups u ((f:Int)+1- u).toNat)∨(st=2*(f:Int)∧1≤f∧((u= -(f:Int)∧T= [-(f:Int),(f:Int)])∨(u=(f:Int)∧T= [(f:Int)])∨(u=3*(f:Int)∧T= [])))
theorem RemC.go{f:Nat}{st u:Int}{T:List Int}(h:RemC f st u T)(hu:u≤f): ∃ T',T=u::T'∧RemC f st (u+st) T'∧1≤st∧ -(f:Int)≤u∧st≤2*(f:Int)+1:=by
 rcases h with⟨rfl,h1,h2,rfl⟩|⟨rfl,hf,h⟩
 ·have e:((f:Int)+1- u).toNat=((f:Int)+1- (u+1)).toNat+1:=by omega
  rw [e]
  exact⟨_,rfl,Or.inl ⟨rfl,by omega,by omega,rfl⟩,by omega,by omega,by omega⟩
 ·rcases h with⟨rfl,rfl⟩|⟨rfl,rfl⟩|⟨rfl,rfl⟩
  ·exact⟨_,rfl,Or.inr ⟨rfl,hf,Or.inr (Or.inl ⟨by omega,rfl⟩)⟩,by omega,by omega,by omega⟩
  ·exact⟨_,rfl,Or.inr ⟨rfl,hf,Or.inr (Or.inr ⟨by omega,rfl⟩)⟩,by omega,by omega,by omega⟩
  ·omega
theorem RemC.stop{f:Nat}{st u:Int}{T:List Int}(h:RemC f st u T)(hu: ¬u≤f):T= []:=by
 rcases h with⟨rfl,h1,h2,rfl⟩|⟨rfl,hf,h⟩
 ·rw [show((f:Int)+1- u).toNat=0 by omega];rfl
 ·rcases h with⟨rfl,rfl⟩|⟨rfl,rfl⟩|⟨rfl,rfl⟩
  ·omega
  ·omega
  ·rfl
theorem col_end{f:Nat}{r:Int}(h:r= -(f:Int)∨r=(f:Int)): ∃ T,colP f r=T.map (fun k=>(r,k))∧RemC f 1 (-(f:Int)) T:=by
 refine⟨ups (-(f:Int)) (2*f+1),by unfold colP;rw [if_pos h],Or.inl ⟨rfl,by omega,by omega,?_⟩⟩
 rw [show((f:Int)+1 - -(f:Int)).toNat=2*f+1 by omega]
theorem col_mid{f:Nat}{r:Int}(h: ¬(r= -(f:Int)∨r=(f:Int)))(h1: -(f:Int)≤r)(h2:r≤f): ∃ T,colP f r=T.map (fun k=>(r,k))∧RemC f (2*(f:Int)) (-(f:Int)) T:=
 ⟨[-(f:Int),(f:Int)],by unfold colP;rw [if_neg h];rfl,Or.inr ⟨rfl,by omega,Or.inl ⟨rfl,rfl⟩⟩⟩
def upF(m:Nat):Nat→List (Fin m)
 |0=> []
 |r+1=>if h:r<m then upF m r++ [⟨r,h⟩]else upF m r
theorem upF_next{m r:Nat}(h:r<m):upF m (r+1)=upF m r++ [⟨r,h⟩]:=by
 rw [upF,dif_pos h]
theorem upF_length{m r:Nat}(h:r≤m):(upF m r).length=r:=by
 induction r with
 |zero=>rfl
 |succ r ih=>rw [upF_next (by omega),List.length_append,ih (by omega)];rfl
theorem upF_mem{m r:Nat}(hr:r≤m)(x:Fin m):x∈upF m r↔x.1<r:=by
 induction r with
 |zero=>simp [upF]
 |succ r ih=>
  rw [upF_next (by omega),List.mem_append,ih (by omega)]
  simp only [List.mem_singleton,Fin.ext_iff]
  omega
def ixC(n:Nat)(a b:Int):Nat:=(a % (n:Int)).toNat*n+(b % (n:Int)).toNat
def hitC(L:Nat→List Int)(n:Nat)(a b:Int)(o:Int×Int):Option Int:=(L (ixC n (a+o.1) (b+o.2))).head?
def nearV(L:Nat→List Int)(n:Nat)(a b:Int):Int:=((outP n).findSome? (hitC L n a b)).getD (-1)
theorem find_none{α β:Type}{f:α→Option β}{Z:List α}(h: ∀ i (hi:i<Z.length),f Z[i]=none):Z.findSome? f=none:=by
 rw [List.findSome?_eq_none_iff]
 intro x hx
 obtain⟨i,hi,rfl⟩:=List.getElem_of_mem hx
 exact h i hi
theorem find_some{α β:Type}{f:α→Option β}{Z:List α}{r:Nat}{v:β}(hr:r<Z.length)(h: ∀ i (hi:i<r),f (Z[i]'(by omega))=none)(hv:f Z[r]=some v):Z.findSome? f=some v:=by
 induction Z generalizing r with
 |nil=>simp at hr
 |cons z Z ih=>
  cases r with
  |zero=>simp only [List.getElem_cons_zero]at hv;rw [List.findSome?_cons,hv]
  |succ r=>
   have h0:=h 0 (by omega)
   simp only [List.getElem_cons_zero]at h0
   rw [List.findSome?_cons,h0]
   exact ih (by simpa using hr) (fun i hi=>by have:=h (i+1) (by omega);simpa using this) (by simpa using hv)
theorem drop_cons{α:Type}{Z:List α}{r:Nat}{x:α}{T:List α}(h:Z.drop r=x::T): ∃ hr:r<Z.length,Z[r]=x∧Z.drop (r+1)=T:=by
 have hr:r<Z.length:=by
  refine Nat.lt_of_not_le fun e=>?_
  rw [List.drop_eq_nil_of_le e]at h
  cases h
 rw [List.drop_eq_getElem_cons hr]at h
 exact⟨hr,(List.cons.inj h).1,(List.cons.inj h).2⟩
theorem drop_len{α:Type}{Z A B:List α}{r q:Nat}(h:Z.drop r=A++B)(h':Z.drop q=B)(hr:r≤Z.length)(hq:q≤Z.length):q=r+A.length:=by
 have e1:=congrArg List.length h
 have e2:=congrArg List.length h'
 simp only [List.length_drop,List.length_append]at e1 e2
 omega
end Go.Proofs.Ytliajdokamlnnaa
