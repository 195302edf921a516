/-
  Joined texts, part 10:
  What package pred's can, area2, dist2, turn, Area2, Orient and Dist2 answer.
  A region whose order is open, with calls and blocks that are made at any time: what holds 
  What zelligeref07's diff, Area and Dist answer.
  What zelligeref07's near, sign, Orient and flat answer.
  What zelligeref11's AddFace answers where a vertex is not there, a corner can't be, or the
-/
import Derived.Test.YtaadknpjbogkbaaGreatP9
import Derived.Test.YtaadknpjbogkbaaGreatP3
import Derived.Test.YtaadknpjbogkbaaGreatP2
import Derived.Test.YtaadknpjbogkbaaGreatP1
import Derived.Test.YtaadknpjbogkbaaGreatP7
import Derived.Test.YtaadknpjbogkbaaGreatP4
import Derived.Test.YtaadknpjbogkbaaGreatP5
namespace Go.Proofs.YtaadknpjbogkbaaGreat
open Go.RowKit
set_option linter.unusedVariables false
def pcells:List (Int×Int)→List Value
 | []=> []
 |p::l=> .int .i64 p.1:: .int .i64 p.2::pcells l
theorem pcells_at: ∀ (L:List (Int×Int)) (k:Nat) (x y:Int),L[k]? =some (x,y)→(pcells L)[k*2]? =some (.int .i64 x)∧(pcells L)[k*2+1]? =some (.int .i64 y)
 | [],k,x,y,h=>by simp at h
 |p::l,0,x,y,h=>by simp at h;subst h;exact⟨rfl,rfl⟩
 |p::l,k+1,x,y,h=>by
  have h':l[k]? =some (x,y):=by simpa using h
  have:=pcells_at l k x y h'
  have e1:(k+1)*2=k*2+1+1:=by omega
  rw [e1]
  exact⟨this.1,this.2⟩
def canAll(L:List (Int×Int)):Bool:=L.all fun p=>canC p.1 p.2
theorem canAll_cons(p:Int×Int)(L:List (Int×Int)):canAll (p::L)=(canC p.1 p.2 && canAll L):=rfl
theorem canAll_drop{L:List (Int×Int)}{k:Nat}{x y:Int}(h:L[k]? =some (x,y)):canAll (L.drop k)=(canC x y && canAll (L.drop (k+1))):=by
 obtain⟨hk,he⟩:=List.getElem?_eq_some_iff.1 h
 rw [List.drop_eq_getElem_cons hk,he]
 rfl
theorem lw_sign(x:Int):lw.cmpI x 0=x.sign:=cmp_sign x
set_option maxRecDepth 100000 in
theorem pcan(L:List (Int×Int))(n b:Nat)(w:World)(hn:n=L.length)(hs:n≤1000)(hr:Row w b (pcells L))(hb:b<w.heap.size){r:Bool}(hres:r=canAll L):Calls Tryz.prog 137 #[.slice (some ⟨b,0,none⟩) n n] w fun e w'=>e= .returned (.bool r)∧Below w.heap.size w w':=by
 subst hn
 have HR:Hid _:=hres
 clear hres
 go_enter Tryz.func137,Tryz.ntmps137
 go_wp2
 go_loopw [7] (fun i wr=> ∃ k:Nat,k≤L.length∧i= .int .i64 (k:Int)∧canAll L=canAll (L.drop k)∧Below w.heap.size w wr) (fun i _=>L.length- (intOf i).toNat)
 case atStart=>exact⟨0,by omega,rfl,rfl,Below.refl _ _⟩
 case round=>
  obtain⟨k,hk,rfl,hd,bel⟩:=hrel
  by_cases hlt:k<L.length
  ·obtain⟨x,y,hxy⟩: ∃ x y,L[k]? =some (x,y):=⟨L[k].1,L[k].2,by rw [List.getElem?_eq_getElem hlt]⟩
   obtain⟨c1,c2⟩:=pcells_at L k x y hxy
   have hr':=hr.below bel hb
   have q1:=hr'.cell _ _ c1
   have q2:=hr'.cell _ _ c2
   rw [canAll_drop hxy]at hd
   have HD:Hid _:=hd
   clear hr hr' hxy c1 c2 hd
   obtain⟨V,hV,bV,x_p,sV⟩:=bs_2 wr (.int .i64 x) (.int .i64 y) 24
   cases hc:canC x y
   ·go_wp2_with (go_at_call 53;fail)
    rw [←hV]
    clear hV
    refine(lCan x y V hc.symm).mono ?_
    rintro e w1 ⟨rfl,b1⟩
    go_wp2
    go_ret
    exact⟨by rw [HR.out,HD.out,hc];rfl,also (also bel bV) b1⟩
   ·go_wp2_with (go_at_call 53;fail)
    rw [←hV]
    clear hV
    refine(lCan x y V hc.symm).mono ?_
    rintro e w1 ⟨rfl,b1⟩
    have hw:wrap64 ((k:Int)+1)=(k:Int)+1:=wrap_in (by omega) (by omega)
    go_wp2
    go_roundw
    case rel=>exact⟨k+1,by omega,by simp,by rw [HD.out,hc];rfl,also (also bel bV) b1⟩
    case measure=>simp [intOf];omega
  ·obtain rfl:k=L.length:=by omega
   go_wp2
   go_ret
   exact⟨by rw [HR.out,hd,List.drop_length];rfl,bel⟩
theorem can3{a1 a2 b1 b2 c1 c2:Int}:canAll [(a1,a2),(b1,b2),(c1,c2)]=true↔(canC a1 a2=true∧canC b1 b2=true∧canC c1 c2=true):=by simp [canAll]
theorem can_sub{x y:Int}(hx:inC x=true)(hy:inC y=true):wrap64 (x- y)=x- y∧ -9223372036854775808≤x- y∧x- y≤9223372036854775807:=by
 have h:=can_diff hx hy
 exact⟨wrap_in (by omega) (by omega),by omega,by omega⟩
def arP(a1 a2 b1 b2 c1 c2:Int):Int:=if canAll [(a1,a2),(b1,b2),(c1,c2)]then areaP a1 a2 b1 b2 c1 c2 else 0
theorem area_wide{a1 a2 b1 b2 c1 c2:Int}(ha:canC a1 a2=true)(hb:canC b1 b2=true)(hc:canC c1 c2=true): -10000000000000000000000000≤areaP a1 a2 b1 b2 c1 c2∧areaP a1 a2 b1 b2 c1 c2≤10000000000000000000000000:=by
 have h:=area_abs (D:=2199023255552) (can_diff (canC_true.1 hb).1 (canC_true.1 ha).1) (can_diff (canC_true.1 hb).2 (canC_true.1 ha).2) (can_diff (canC_true.1 hc).1 (canC_true.1 ha).1) (can_diff (canC_true.1 hc).2 (canC_true.1 ha).2)
 omega
theorem ar_wide(a1 a2 b1 b2 c1 c2:Int): -10000000000000000000000000≤arP a1 a2 b1 b2 c1 c2∧arP a1 a2 b1 b2 c1 c2≤10000000000000000000000000:=by
 unfold arP
 cases h:canAll [(a1,a2),(b1,b2),(c1,c2)]
 ·exact⟨by simp,by simp⟩
 ·obtain⟨h1,h2,h3⟩:=can3.1 h
  exact area_wide h1 h2 h3
set_option maxRecDepth 100000 in
set_option maxHeartbeats 4000000 in
theorem parea(a1 a2 b1 b2 c1 c2:Int)(w:World)(ha:canC a1 a2=true)(hb:canC b1 b2=true)(hc:canC c1 c2=true){u v:Int}(hu:u=lw.hi (areaP a1 a2 b1 b2 c1 c2))(hv:v=lw.lo (areaP a1 a2 b1 b2 c1 c2)):
  Calls Tryz.prog 138 #[.agg #[.int .i64 a1, .int .i64 a2], .agg #[.int .i64 b1, .int .i64 b2], .agg #[.int .i64 c1, .int .i64 c2]] w fun e w'=>e= .returned (.agg #[.int .i64 u, .int .u64 v])∧Below w.heap.size w w':=by
 obtain⟨x,hx⟩: ∃ x,x=b1- a1:=⟨_,rfl⟩
 have c_x:=can_sub (canC_true.1 hb).1 (canC_true.1 ha).1
 rw [←hx]at c_x
 have w_x:wrap64 (b1- a1)=x:=by rw [←hx];exact c_x.1
 have v_x:IntKind.i64.wrap (b1- a1)=x:=(wrap_i64 _).trans w_x
 have R_x:Hid _:=c_x.2
 have E_x:Hid _:=hx
 clear c_x hx
 obtain⟨y,hy⟩: ∃ y,y=c2- a2:=⟨_,rfl⟩
 have c_y:=can_sub (canC_true.1 hc).2 (canC_true.1 ha).2
 rw [←hy]at c_y
 have w_y:wrap64 (c2- a2)=y:=by rw [←hy];exact c_y.1
 have v_y:IntKind.i64.wrap (c2- a2)=y:=(wrap_i64 _).trans w_y
 have R_y:Hid _:=c_y.2
 have E_y:Hid _:=hy
 clear c_y hy
 obtain⟨z,hz⟩: ∃ z,z=b2- a2:=⟨_,rfl⟩
 have c_z:=can_sub (canC_true.1 hb).2 (canC_true.1 ha).2
 rw [←hz]at c_z
 have w_z:wrap64 (b2- a2)=z:=by rw [←hz];exact c_z.1
 have v_z:IntKind.i64.wrap (b2- a2)=z:=(wrap_i64 _).trans w_z
 have R_z:Hid _:=c_z.2
 have E_z:Hid _:=hz
 clear c_z hz
 obtain⟨t,ht⟩: ∃ t,t=c1- a1:=⟨_,rfl⟩
 have c_t:=can_sub (canC_true.1 hc).1 (canC_true.1 ha).1
 rw [←ht]at c_t
 have w_t:wrap64 (c1- a1)=t:=by rw [←ht];exact c_t.1
 have v_t:IntKind.i64.wrap (c1- a1)=t:=(wrap_i64 _).trans w_t
 have R_t:Hid _:=c_t.2
 have E_t:Hid _:=ht
 clear c_t ht
 have HU:Hid (u=lw.hi (x*y- z*t)):=by unfold Hid;rw [hu,E_x.out,E_y.out,E_z.out,E_t.out];rfl
 have HV:Hid (v=lw.lo (x*y- z*t)):=by unfold Hid;rw [hv,E_x.out,E_y.out,E_z.out,E_t.out];rfl
 clear hu hv ha hb hc
 obtain⟨W,hW,bW,x_a,x_b,x_c,x_r,sW⟩:=bs_2222 w (.int .i64 a1) (.int .i64 a2) (.int .i64 b1) (.int .i64 b2) (.int .i64 c1) (.int .i64 c2) (.int .i64 0) (.int .u64 0) 24 24 24 201
 have zbW:=bW.size
 have BB:=bW
 go_enter Tryz.func138,Tryz.ntmps138
 go_wp2
 rw [←hW]
 clear hW
 have dd1:Below W.heap.size W W.drew:=(Below.refl _ _).drew
 have zdd1:=dd1.size
 replace BB:=also BB dd1
 replace x_a:=x_a.on dd1
 replace x_b:=x_b.on dd1
 replace x_c:=x_c.on dd1
 replace x_r:=x_r.on dd1
 refine wp_region_held_drew (S:=(fun w'=>w'.cell? ⟨w.heap.size,0,none⟩=some (.int .i64 a1)∧w'.cell? ⟨w.heap.size,1,none⟩=some (.int .i64 a2)∧w'.cell? ⟨w.heap.size+1,0,none⟩=some (.int .i64 b1)∧w'.cell? ⟨w.heap.size+1,1,none⟩=some (.int .i64 b2)∧w'.cell? ⟨w.heap.size+1+1,0,none⟩=some (.int .i64 c1)∧w'.cell? ⟨w.heap.size+1+1,1,none⟩=some (.int .i64 c2)∧Below w.heap.size w w')) (by kernel_rfl) ?_ (fun hHeld=>?_)
 ·exact⟨x_a.c0,x_a.c1,x_b.c0,x_b.c1,x_c.c0,x_c.c1,BB⟩
 refine tn 0 ?_;refine tn 1 ?_;refine tn 2 ?_;refine tn 3 ?_;refine tn 4 ?_;refine tn 5 ?_;refine tn 6 ?_;refine tn 7 ?_;refine tn 8 ?_;refine tn 9 ?_;refine tn 11 ?_;refine tn 12 ?_;refine tn 13 ?_;refine tn 14 ?_;refine tn 15 ?_;refine tn 16 ?_;refine tn 17 ?_;refine tn 18 ?_;refine tn 19 ?_;refine tn 20 ?_
 simp only [Act.put,ps1,ps2,ps3]
 refine tcl 10 fun Kc hK=>?_
 go_simp
 (go_at_call 145;refine(lw.mul_any x y R_x.out.1 R_x.out.2 R_y.out.1 R_y.out.2 _).mono ?_;rintro e w1 ⟨rfl,bw1⟩)
 refine hK.out _ _ ?_ (fun hHeld=>?_)
 ·exact⟨cell_on bw1 hHeld.1,cell_on bw1 hHeld.2.1,cell_on bw1 hHeld.2.2.1,cell_on bw1 hHeld.2.2.2.1,cell_on bw1 hHeld.2.2.2.2.1,cell_on bw1 hHeld.2.2.2.2.2.1,also hHeld.2.2.2.2.2.2 bw1⟩
 clear hK Kc
 have zbw1:=bw1.size
 replace BB:=also BB bw1
 replace x_a:=x_a.on bw1
 replace x_b:=x_b.on bw1
 replace x_c:=x_c.on bw1
 replace x_r:=x_r.on bw1
 refine tcl 21 fun Kc hK=>?_
 go_simp
 (go_at_call 145;refine(lw.mul_any z t R_z.out.1 R_z.out.2 R_t.out.1 R_t.out.2 _).mono ?_;rintro e w2 ⟨rfl,bw2⟩)
 refine hK.out _ _ ?_ (fun hHeld=>?_)
 ·exact⟨cell_on bw2 hHeld.1,cell_on bw2 hHeld.2.1,cell_on bw2 hHeld.2.2.1,cell_on bw2 hHeld.2.2.2.1,cell_on bw2 hHeld.2.2.2.2.1,cell_on bw2 hHeld.2.2.2.2.2.1,also hHeld.2.2.2.2.2.2 bw2⟩
 clear hK Kc
 have zbw2:=bw2.size
 replace BB:=also BB bw2
 replace x_a:=x_a.on bw2
 replace x_b:=x_b.on bw2
 replace x_c:=x_c.on bw2
 replace x_r:=x_r.on bw2
 refine tcl 22 fun Kc hK=>?_
 go_simp
 (go_at_call 144;refine(lw.sub_any (x*y) (z*t) rfl rfl rfl rfl _).mono ?_;rintro e w3 ⟨rfl,bw3⟩)
 refine hK.out _ _ ?_ (fun hHeld=>?_)
 ·exact⟨cell_on bw3 hHeld.1,cell_on bw3 hHeld.2.1,cell_on bw3 hHeld.2.2.1,cell_on bw3 hHeld.2.2.2.1,cell_on bw3 hHeld.2.2.2.2.1,cell_on bw3 hHeld.2.2.2.2.2.1,also hHeld.2.2.2.2.2.2 bw3⟩
 clear hK Kc
 have zbw3:=bw3.size
 replace BB:=also BB bw3
 replace x_a:=x_a.on bw3
 replace x_b:=x_b.on bw3
 replace x_c:=x_c.on bw3
 replace x_r:=x_r.on bw3
 have⟨x_r_0,x_r_1,x_r_2,x_r_3⟩:=x_r
 refine tcl 23 fun Kc hK=>?_
 go_simp
 refine hK.out _ _ ?_ (fun hHeld=>?_)
 ·first|exact⟨cell_put2 hHeld.1 (by omega) _ _,cell_put2 hHeld.2.1 (by omega) _ _,cell_put2 hHeld.2.2.1 (by omega) _ _,cell_put2 hHeld.2.2.2.1 (by omega) _ _,cell_put2 hHeld.2.2.2.2.1 (by omega) _ _,cell_put2 hHeld.2.2.2.2.2.1 (by omega) _ _,below_put2 hHeld.2.2.2.2.2.2 (by omega) _ _⟩|exact⟨x_a.c0,x_a.c1,x_b.c0,x_b.c1,x_c.c0,x_c.c1,BB⟩
 clear hK Kc
 refine wpAnyH_done (by kernel_rfl) ?_ _
 go_wp2
 exact bodyPost_ret (v:= .agg #[.int .i64 (lw.hi (x*y- z*t)), .int .u64 (lw.lo (x*y- z*t))]) (by simp [results,Tryz.results138,go_sem, *]) rfl (⟨by rw [HU.out,HV.out],below_put2 BB (by omega) _ _⟩)
end Go.Proofs.YtaadknpjbogkbaaGreat
namespace Go.Proofs.YtaadknpjbogkbaaGreat
open Go.RowKit
set_option linter.unusedVariables false
def nb(x:Bool):Nat:=match x with|true=>0|false=>1
variable {U : World} {Z : Nat → List Value} {Sp : Nat → Value → (World → Prop) → (Nat → Prop) → Prop} {b e : Nat → Bool} {p : Nat → Nat} {R : Nat → World → Prop} {A : Nat → Nat → Prop} {u v : Nat → Value} {w w' : World}
variable {P : Program} {md : Region.Mode} {Q : Exit → Act → World → Prop} {S : World → Prop}
end Go.Proofs.YtaadknpjbogkbaaGreat
namespace Go.Proofs.YtaadknpjbogkbaaGreat
open Go.RowKit
set_option linter.unusedVariables false
theorem few_num{z:Int}(h:z.natAbs≤1000000000000000000000000000000000000000000000000000000000000):hf.nlen z.natAbs≤1000000:=hfew (K:=7) (Nat.lt_of_le_of_lt h (by decide)) (by decide)
theorem fieldS(s:Int)(d:Option Addr)(l c:Nat)(w:World):(Instr.field 102 (.agg #[.int .i64 s, .slice d l c]) 0).run Tryz.prog w= .ok (.int .i64 s) w:=by simp [Instr.field,go_sem,asAgg]
def R64(x:Int):Prop:= -9223372036854775808≤x∧x≤9223372036854775807
theorem in_64{x:Int}(h:inC x=true):R64 x:=by have:=inC_true.1 h;exact⟨by omega,by omega⟩
set_option maxRecDepth 100000 in
theorem rpDiff(a b:Int)(w:World)(ha:R64 a)(hb:R64 b){z:Int}(hz:z=b- a):Calls Tryz.prog 117 #[.int .i64 a, .int .i64 b] w (GotR w (fun _=>True) z):=by
 have FA:Hid _:=few_i64 ha
 have FB:Hid _:=few_i64 hb
 have HA:Hid _:=ha
 have HB:Hid _:=hb
 have HZ:Hid _:=hz
 clear ha hb hz
 obtain⟨W,hW,bW,x_r,sW⟩:=bs_2 w (.int .i64 0) (.slice none 0 0) 102
 have zbW:=bW.size
 have BB:=bW
 go_enter Tryz.func117,Tryz.ntmps117
 go_wp2_with (go_at_call 39;fail)
 rw [←hW]
 clear hW
 refine(rwLong b W HB.out.1 HB.out.2).mono ?_
 rintro e w1 ⟨s1,d1,l1,c1,rfl,r1,f1,bw1⟩
 have zbw1:=bw1.size
 replace BB:=also BB bw1
 replace x_r:=x_r.on bw1
 go_wp2_with (go_at_call 39;fail)
 refine(rwLong a w1 HA.out.1 HA.out.2).mono ?_
 rintro e w2 ⟨s2,d2,l2,c2,rfl,r2,f2,bw2⟩
 have zbw2:=bw2.size
 replace BB:=also BB bw2
 replace x_r:=x_r.on bw2
 replace r1:=r1.below bw2
 go_wp2_with (go_at_call 110;fail)
 refine(rwSub s1 s2 d1 d2 l1 c1 l2 c2 b a z w2 r1 r2 FB.out FA.out HZ.out).mono ?_
 rintro e w3 ⟨s3,d3,l3,c3,rfl,r3,f3,bw3⟩
 have zbw3:=bw3.size
 replace BB:=also BB bw3
 replace x_r:=x_r.on bw3
 replace r1:=r1.below bw3
 replace r2:=r2.below bw3
 have⟨x_r_0,x_r_1,x_r_2,x_r_3⟩:=x_r
 go_wp2
 exact bodyPost_ret (v:= .agg #[.int .i64 s3, .slice d3 l3 c3]) (by simp [results,Tryz.results117,go_sem, *]) rfl (endR _ (by omega) BB r3 (f3 _ (by omega) ⟨f1 _ (by omega) trivial,f2 _ (by omega) trivial⟩) (fun j hj _=>f3 j (by omega) ⟨f1 j (by omega) trivial,f2 j (by omega) trivial⟩) _ _)
set_option maxRecDepth 100000 in
set_option maxHeartbeats 4000000 in
theorem rpArea(a1 a2 b1 b2 c1 c2:Int)(w:World)(ha:canC a1 a2=true)(hb:canC b1 b2=true)(hc:canC c1 c2=true){z:Int}(hz:z=areaP a1 a2 b1 b2 c1 c2):Calls Tryz.prog 91 #[.agg #[.int .i64 a1, .int .i64 a2], .agg #[.int .i64 b1, .int .i64 b2], .agg #[.int .i64 c1, .int .i64 c2]] w (GotR w (fun _=>True) z):=by
 have Ra1:Hid _:=in_64 (canC_true.1 ha).1
 have Ra2:Hid _:=in_64 (canC_true.1 ha).2
 have Rb1:Hid _:=in_64 (canC_true.1 hb).1
 have Rb2:Hid _:=in_64 (canC_true.1 hb).2
 have Rc1:Hid _:=in_64 (canC_true.1 hc).1
 have Rc2:Hid _:=in_64 (canC_true.1 hc).2
 have qx:=can_diff (canC_true.1 hb).1 (canC_true.1 ha).1
 have qy:=can_diff (canC_true.1 hc).2 (canC_true.1 ha).2
 have qu:=can_diff (canC_true.1 hb).2 (canC_true.1 ha).2
 have qv:=can_diff (canC_true.1 hc).1 (canC_true.1 ha).1
 obtain⟨x,hx⟩: ∃ z:Int,z=b1- a1:=⟨_,rfl⟩
 have Ex:Hid _:=hx
 obtain⟨y,hy⟩: ∃ z:Int,z=c2- a2:=⟨_,rfl⟩
 have Ey:Hid _:=hy
 obtain⟨u,hu⟩: ∃ z:Int,z=b2- a2:=⟨_,rfl⟩
 have Eu:Hid _:=hu
 obtain⟨v,hv⟩: ∃ z:Int,z=c1- a1:=⟨_,rfl⟩
 have Ev:Hid _:=hv
 obtain⟨p,hp⟩: ∃ z:Int,z=x*y:=⟨_,rfl⟩
 have Ep:Hid _:=hp
 obtain⟨q,hq⟩: ∃ z:Int,z=u*v:=⟨_,rfl⟩
 have Eq:Hid _:=hq
 have HZ:Hid (z=p- q):=by unfold Hid;rw [hz,hp,hq,hx,hy,hu,hv];rfl
 rw [←hx]at qx
 have Fx:Hid _:=few_num (z:=x) (by omega)
 rw [←hy]at qy
 have Fy:Hid _:=few_num (z:=y) (by omega)
 rw [←hu]at qu
 have Fu:Hid _:=few_num (z:=u) (by omega)
 rw [←hv]at qv
 have Fv:Hid _:=few_num (z:=v) (by omega)
 have qp:=prod_abs qx qy
 have qq:=prod_abs qu qv
 rw [←hp]at qp
 rw [←hq]at qq
 have Fp:Hid _:=few_num (z:=p) (by omega)
 have Fq:Hid _:=few_num (z:=q) (by omega)
 clear hz hx hy hu hv hp hq qx qy qu qv qp qq ha hb hc
 obtain⟨W,hW,bW,x_a,x_b,x_c,x_r,sW⟩:=bs_2222 w (.int .i64 a1) (.int .i64 a2) (.int .i64 b1) (.int .i64 b2) (.int .i64 c1) (.int .i64 c2) (.int .i64 0) (.slice none 0 0) 24 24 24 102
 have zbW:=bW.size
 have BB:=bW
 go_enter Tryz.func91,Tryz.ntmps91
 go_wp2
 rw [←hW]
 clear hW
 have dd1:Below W.heap.size W W.drew:=(Below.refl _ _).drew
 have zdd1:=dd1.size
 replace BB:=also BB dd1
 replace x_a:=x_a.on dd1
 replace x_b:=x_b.on dd1
 replace x_c:=x_c.on dd1
 replace x_r:=x_r.on dd1
 refine wp_region_held_drew (S:=(fun w'=>w'.cell? ⟨w.heap.size,0,none⟩=some (.int .i64 a1)∧w'.cell? ⟨w.heap.size,1,none⟩=some (.int .i64 a2)∧w'.cell? ⟨w.heap.size+1,0,none⟩=some (.int .i64 b1)∧w'.cell? ⟨w.heap.size+1,1,none⟩=some (.int .i64 b2)∧w'.cell? ⟨w.heap.size+1+1,0,none⟩=some (.int .i64 c1)∧w'.cell? ⟨w.heap.size+1+1,1,none⟩=some (.int .i64 c2)∧Below w.heap.size w w')) (by kernel_rfl) ?_ (fun hHeld=>?_)
 ·exact⟨x_a.c0,x_a.c1,x_b.c0,x_b.c1,x_c.c0,x_c.c1,BB⟩
 refine tn 0 ?_;refine tn 1 ?_;refine tn 2 ?_;refine tn 3 ?_;refine tn 5 ?_;refine tn 6 ?_;refine tn 7 ?_;refine tn 8 ?_;refine tn 11 ?_;refine tn 12 ?_;refine tn 13 ?_;refine tn 14 ?_;refine tn 16 ?_;refine tn 17 ?_;refine tn 18 ?_;refine tn 19 ?_
 simp only [Act.put,ps1,ps2,ps3]
 refine tcl 4 fun Kc hK=>?_
 go_simp
 (go_at_call 117;refine(rpDiff a1 b1 _ Ra1.out Rb1.out Ex.out).mono ?_;rintro e w1 ⟨s11,d11,l11,c11,rfl,r11,f11,bw1⟩)
 refine hK.out _ _ ?_ (fun hHeld=>?_)
 ·exact⟨cell_on bw1 hHeld.1,cell_on bw1 hHeld.2.1,cell_on bw1 hHeld.2.2.1,cell_on bw1 hHeld.2.2.2.1,cell_on bw1 hHeld.2.2.2.2.1,cell_on bw1 hHeld.2.2.2.2.2.1,also hHeld.2.2.2.2.2.2 bw1⟩
 clear hK Kc
 have zbw1:=bw1.size
 replace BB:=also BB bw1
 replace x_a:=x_a.on bw1
 replace x_b:=x_b.on bw1
 replace x_c:=x_c.on bw1
 replace x_r:=x_r.on bw1
 refine tcl 9 fun Kc hK=>?_
 go_simp
 (go_at_call 117;refine(rpDiff a2 c2 _ Ra2.out Rc2.out Ey.out).mono ?_;rintro e w2 ⟨s12,d12,l12,c12,rfl,r12,f12,bw2⟩)
 refine hK.out _ _ ?_ (fun hHeld=>?_)
 ·exact⟨cell_on bw2 hHeld.1,cell_on bw2 hHeld.2.1,cell_on bw2 hHeld.2.2.1,cell_on bw2 hHeld.2.2.2.1,cell_on bw2 hHeld.2.2.2.2.1,cell_on bw2 hHeld.2.2.2.2.2.1,also hHeld.2.2.2.2.2.2 bw2⟩
 clear hK Kc
 have zbw2:=bw2.size
 replace BB:=also BB bw2
 replace x_a:=x_a.on bw2
 replace x_b:=x_b.on bw2
 replace x_c:=x_c.on bw2
 replace x_r:=x_r.on bw2
 replace r11:=r11.below bw2
 refine tcl 10 fun Kc hK=>?_
 go_simp
 (go_at_call 42;refine(rwMul s11 s12 d11 d12 l11 c11 l12 c12 x y p _ r11 r12 Fx.out Fy.out Ep.out).mono ?_;rintro e w3 ⟨s13,d13,l13,c13,rfl,r13,f13,bw3⟩)
 refine hK.out _ _ ?_ (fun hHeld=>?_)
 ·exact⟨cell_on bw3 hHeld.1,cell_on bw3 hHeld.2.1,cell_on bw3 hHeld.2.2.1,cell_on bw3 hHeld.2.2.2.1,cell_on bw3 hHeld.2.2.2.2.1,cell_on bw3 hHeld.2.2.2.2.2.1,also hHeld.2.2.2.2.2.2 bw3⟩
 clear hK Kc
 have zbw3:=bw3.size
 replace BB:=also BB bw3
 replace x_a:=x_a.on bw3
 replace x_b:=x_b.on bw3
 replace x_c:=x_c.on bw3
 replace x_r:=x_r.on bw3
 replace r11:=r11.below bw3
 replace r12:=r12.below bw3
 refine tcl 15 fun Kc hK=>?_
 go_simp
 (go_at_call 117;refine(rpDiff a2 b2 _ Ra2.out Rb2.out Eu.out).mono ?_;rintro e w4 ⟨s14,d14,l14,c14,rfl,r14,f14,bw4⟩)
 refine hK.out _ _ ?_ (fun hHeld=>?_)
 ·exact⟨cell_on bw4 hHeld.1,cell_on bw4 hHeld.2.1,cell_on bw4 hHeld.2.2.1,cell_on bw4 hHeld.2.2.2.1,cell_on bw4 hHeld.2.2.2.2.1,cell_on bw4 hHeld.2.2.2.2.2.1,also hHeld.2.2.2.2.2.2 bw4⟩
 clear hK Kc
 have zbw4:=bw4.size
 replace BB:=also BB bw4
 replace x_a:=x_a.on bw4
 replace x_b:=x_b.on bw4
 replace x_c:=x_c.on bw4
 replace x_r:=x_r.on bw4
 replace r11:=r11.below bw4
 replace r12:=r12.below bw4
 replace r13:=r13.below bw4
 refine tcl 20 fun Kc hK=>?_
 go_simp
 (go_at_call 117;refine(rpDiff a1 c1 _ Ra1.out Rc1.out Ev.out).mono ?_;rintro e w5 ⟨s15,d15,l15,c15,rfl,r15,f15,bw5⟩)
 refine hK.out _ _ ?_ (fun hHeld=>?_)
 ·exact⟨cell_on bw5 hHeld.1,cell_on bw5 hHeld.2.1,cell_on bw5 hHeld.2.2.1,cell_on bw5 hHeld.2.2.2.1,cell_on bw5 hHeld.2.2.2.2.1,cell_on bw5 hHeld.2.2.2.2.2.1,also hHeld.2.2.2.2.2.2 bw5⟩
 clear hK Kc
 have zbw5:=bw5.size
 replace BB:=also BB bw5
 replace x_a:=x_a.on bw5
 replace x_b:=x_b.on bw5
 replace x_c:=x_c.on bw5
 replace x_r:=x_r.on bw5
 replace r11:=r11.below bw5
 replace r12:=r12.below bw5
 replace r13:=r13.below bw5
 replace r14:=r14.below bw5
 refine tcl 21 fun Kc hK=>?_
 go_simp
 (go_at_call 42;refine(rwMul s14 s15 d14 d15 l14 c14 l15 c15 u v q _ r14 r15 Fu.out Fv.out Eq.out).mono ?_;rintro e w6 ⟨s16,d16,l16,c16,rfl,r16,f16,bw6⟩)
 refine hK.out _ _ ?_ (fun hHeld=>?_)
 ·exact⟨cell_on bw6 hHeld.1,cell_on bw6 hHeld.2.1,cell_on bw6 hHeld.2.2.1,cell_on bw6 hHeld.2.2.2.1,cell_on bw6 hHeld.2.2.2.2.1,cell_on bw6 hHeld.2.2.2.2.2.1,also hHeld.2.2.2.2.2.2 bw6⟩
 clear hK Kc
 have zbw6:=bw6.size
 replace BB:=also BB bw6
 replace x_a:=x_a.on bw6
 replace x_b:=x_b.on bw6
 replace x_c:=x_c.on bw6
 replace x_r:=x_r.on bw6
 replace r11:=r11.below bw6
 replace r12:=r12.below bw6
 replace r13:=r13.below bw6
 replace r14:=r14.below bw6
 replace r15:=r15.below bw6
 refine tcl 22 fun Kc hK=>?_
 go_simp
 (go_at_call 110;refine(rwSub s13 s16 d13 d16 l13 c13 l16 c16 p q z _ r13 r16 Fp.out Fq.out HZ.out).mono ?_;rintro e w7 ⟨s17,d17,l17,c17,rfl,r17,f17,bw7⟩)
 refine hK.out _ _ ?_ (fun hHeld=>?_)
 ·exact⟨cell_on bw7 hHeld.1,cell_on bw7 hHeld.2.1,cell_on bw7 hHeld.2.2.1,cell_on bw7 hHeld.2.2.2.1,cell_on bw7 hHeld.2.2.2.2.1,cell_on bw7 hHeld.2.2.2.2.2.1,also hHeld.2.2.2.2.2.2 bw7⟩
 clear hK Kc
 have zbw7:=bw7.size
 replace BB:=also BB bw7
 replace x_a:=x_a.on bw7
 replace x_b:=x_b.on bw7
 replace x_c:=x_c.on bw7
 replace x_r:=x_r.on bw7
 replace r11:=r11.below bw7
 replace r12:=r12.below bw7
 replace r13:=r13.below bw7
 replace r14:=r14.below bw7
 replace r15:=r15.below bw7
 replace r16:=r16.below bw7
 have⟨x_r_0,x_r_1,x_r_2,x_r_3⟩:=x_r
 refine tcl 23 fun Kc hK=>?_
 go_simp
 refine hK.out _ _ ?_ (fun hHeld=>?_)
 ·first|exact⟨cell_put2 hHeld.1 (by omega) _ _,cell_put2 hHeld.2.1 (by omega) _ _,cell_put2 hHeld.2.2.1 (by omega) _ _,cell_put2 hHeld.2.2.2.1 (by omega) _ _,cell_put2 hHeld.2.2.2.2.1 (by omega) _ _,cell_put2 hHeld.2.2.2.2.2.1 (by omega) _ _,below_put2 hHeld.2.2.2.2.2.2 (by omega) _ _⟩|exact⟨x_a.c0,x_a.c1,x_b.c0,x_b.c1,x_c.c0,x_c.c1,BB⟩
 clear hK Kc
 refine wpAnyH_done (by kernel_rfl) ?_ _
 go_wp2
 exact bodyPost_ret (v:= .agg #[.int .i64 s17, .slice d17 l17 c17]) (by simp [results,Tryz.results91,go_sem, *]) rfl (endR _ (by omega) BB r17 (f17 _ (by omega) ⟨f13 _ (by omega) trivial,f16 _ (by omega) trivial⟩) (fun j hj _=>f17 j (by omega) ⟨f13 j (by omega) trivial,f16 j (by omega) trivial⟩) _ _)
def nearP(a1 a2 b1 b2:Int):Bool:=decide (-8192<b1- a1∧b1- a1<8192∧ -8192<b2- a2∧b2- a2<8192)
theorem near_abs{a1 a2 b1 b2:Int}(h:nearP a1 a2 b1 b2=true):(b1- a1).natAbs≤8191∧(b2- a2).natAbs≤8191:=by
 have:=of_decide_eq_true h
 omega
theorem rpSign(n:Int)(w:World){g:Int}(hg:g=n.sign):Calls Tryz.prog 90 #[.int .i64 n] w fun e w'=>e= .returned (.int .i64 g)∧Below w.heap.size w w':=by
 rcases Int.lt_trichotomy n 0 with h|h|h
 ·obtain rfl:g= -1:=by rw [hg,Int.sign_eq_neg_one_of_neg h]
  clear hg
  go_enter Tryz.func90,Tryz.ntmps90
  go_wp2
  go_ret
  exact⟨rfl,Below.refl _ _⟩
 ·subst h
  obtain rfl:g=0:=hg
  go_enter Tryz.func90,Tryz.ntmps90
  go_wp2
  go_ret
  exact⟨rfl,Below.refl _ _⟩
 ·obtain rfl:g=1:=by rw [hg,Int.sign_eq_one_of_pos h]
  clear hg
  have h': ¬n<0:=by omega
  go_enter Tryz.func90,Tryz.ntmps90
  go_wp2
  go_ret
  exact⟨rfl,Below.refl _ _⟩
set_option maxRecDepth 100000 in
set_option maxHeartbeats 4000000 in
theorem rpNear(a1 a2 b1 b2:Int)(w:World)(ha:canC a1 a2=true)(hb:canC b1 b2=true){r:Bool}(hr:r=nearP a1 a2 b1 b2):
  Calls Tryz.prog 89 #[.agg #[.int .i64 a1, .int .i64 a2], .agg #[.int .i64 b1, .int .i64 b2]] w fun e w'=>e= .returned (.bool r)∧Below w.heap.size w w':=by
 obtain⟨x,hx⟩: ∃ x,x=b1- a1:=⟨_,rfl⟩
 have c_x:=can_sub (canC_true.1 hb).1 (canC_true.1 ha).1
 rw [←hx]at c_x
 have w_x:wrap64 (b1- a1)=x:=by rw [←hx];exact c_x.1
 have v_x:IntKind.i64.wrap (b1- a1)=x:=(wrap_i64 _).trans w_x
 have R_x:Hid _:=c_x.2
 have E_x:Hid _:=hx
 clear c_x hx
 obtain⟨y,hy⟩: ∃ y,y=b2- a2:=⟨_,rfl⟩
 have c_y:=can_sub (canC_true.1 hb).2 (canC_true.1 ha).2
 rw [←hy]at c_y
 have w_y:wrap64 (b2- a2)=y:=by rw [←hy];exact c_y.1
 have v_y:IntKind.i64.wrap (b2- a2)=y:=(wrap_i64 _).trans w_y
 have R_y:Hid _:=c_y.2
 have E_y:Hid _:=hy
 clear c_y hy
 have HR:Hid (r=decide (-8192<x∧x<8192∧ -8192<y∧y<8192)):=by unfold Hid;rw [hr,E_x.out,E_y.out];rfl
 clear hr ha hb
 rcases Decidable.em (-8192<x)with k0|k0
 rotate_left
 ·skip
  obtain rfl:r=false:=by rw [HR.out];simp;omega
  have k':decide (-8192<x)=false:=decide_eq_false k0
  obtain⟨W,hW,bW,x_a,x_b,sW⟩:=bs_22 w (.int .i64 a1) (.int .i64 a2) (.int .i64 b1) (.int .i64 b2) 24 24
  have zbW:=bW.size
  have BB:=bW
  go_enter Tryz.func89,Tryz.ntmps89
  go_wp2
  rw [←hW]
  clear hW
  have dd1:Below W.heap.size W W.drew:=(Below.refl _ _).drew
  have zdd1:=dd1.size
  replace BB:=also BB dd1
  replace x_a:=x_a.on dd1
  replace x_b:=x_b.on dd1
  refine wp_region_held_drew (S:=(fun w'=>w'.cell? ⟨w.heap.size,0,none⟩=some (.int .i64 a1)∧w'.cell? ⟨w.heap.size,1,none⟩=some (.int .i64 a2)∧w'.cell? ⟨w.heap.size+1,0,none⟩=some (.int .i64 b1)∧w'.cell? ⟨w.heap.size+1,1,none⟩=some (.int .i64 b2)∧Below w.heap.size w w')) (by kernel_rfl) ?_ (fun hHeld=>?_)
  ·exact⟨x_a.c0,x_a.c1,x_b.c0,x_b.c1,BB⟩
  refine tn 0 ?_;refine tn 1 ?_;refine tn 2 ?_;refine tn 3 ?_;refine tn 4 ?_;refine tn 5 ?_;refine tn 6 ?_;refine tn 7 ?_;refine tn 8 ?_;refine tn 9 ?_;refine tn 10 ?_;refine tn 11 ?_
  simp only [Act.put,ps1,ps2,ps3]
  refine wpAnyH_done (by kernel_rfl) ?_ _
  go_wp2
  go_ret
  exact⟨rfl,BB⟩
 rcases Decidable.em (x<8192)with k1|k1
 rotate_left
 ·skip
  obtain rfl:r=false:=by rw [HR.out];simp;omega
  have k':decide (x<8192)=false:=decide_eq_false k1
  obtain⟨W,hW,bW,x_a,x_b,sW⟩:=bs_22 w (.int .i64 a1) (.int .i64 a2) (.int .i64 b1) (.int .i64 b2) 24 24
  have zbW:=bW.size
  have BB:=bW
  go_enter Tryz.func89,Tryz.ntmps89
  go_wp2
  rw [←hW]
  clear hW
  have dd1:Below W.heap.size W W.drew:=(Below.refl _ _).drew
  have zdd1:=dd1.size
  replace BB:=also BB dd1
  replace x_a:=x_a.on dd1
  replace x_b:=x_b.on dd1
  refine wp_region_held_drew (S:=(fun w'=>w'.cell? ⟨w.heap.size,0,none⟩=some (.int .i64 a1)∧w'.cell? ⟨w.heap.size,1,none⟩=some (.int .i64 a2)∧w'.cell? ⟨w.heap.size+1,0,none⟩=some (.int .i64 b1)∧w'.cell? ⟨w.heap.size+1,1,none⟩=some (.int .i64 b2)∧Below w.heap.size w w')) (by kernel_rfl) ?_ (fun hHeld=>?_)
  ·exact⟨x_a.c0,x_a.c1,x_b.c0,x_b.c1,BB⟩
  refine tn 0 ?_;refine tn 1 ?_;refine tn 2 ?_;refine tn 3 ?_;refine tn 4 ?_;refine tn 5 ?_;refine tn 6 ?_;refine tn 7 ?_;refine tn 8 ?_;refine tn 9 ?_;refine tn 10 ?_;refine tn 11 ?_
  simp only [Act.put,ps1,ps2,ps3]
  refine wpAnyH_done (by kernel_rfl) ?_ _
  go_wp2
  go_ret
  exact⟨rfl,BB⟩
 rcases Decidable.em (-8192<y)with k2|k2
 rotate_left
 ·skip
  obtain rfl:r=false:=by rw [HR.out];simp;omega
  have k':decide (-8192<y)=false:=decide_eq_false k2
  obtain⟨W,hW,bW,x_a,x_b,sW⟩:=bs_22 w (.int .i64 a1) (.int .i64 a2) (.int .i64 b1) (.int .i64 b2) 24 24
  have zbW:=bW.size
  have BB:=bW
  go_enter Tryz.func89,Tryz.ntmps89
  go_wp2
  rw [←hW]
  clear hW
  have dd1:Below W.heap.size W W.drew:=(Below.refl _ _).drew
  have zdd1:=dd1.size
  replace BB:=also BB dd1
  replace x_a:=x_a.on dd1
  replace x_b:=x_b.on dd1
  refine wp_region_held_drew (S:=(fun w'=>w'.cell? ⟨w.heap.size,0,none⟩=some (.int .i64 a1)∧w'.cell? ⟨w.heap.size,1,none⟩=some (.int .i64 a2)∧w'.cell? ⟨w.heap.size+1,0,none⟩=some (.int .i64 b1)∧w'.cell? ⟨w.heap.size+1,1,none⟩=some (.int .i64 b2)∧Below w.heap.size w w')) (by kernel_rfl) ?_ (fun hHeld=>?_)
  ·exact⟨x_a.c0,x_a.c1,x_b.c0,x_b.c1,BB⟩
  refine tn 0 ?_;refine tn 1 ?_;refine tn 2 ?_;refine tn 3 ?_;refine tn 4 ?_;refine tn 5 ?_;refine tn 6 ?_;refine tn 7 ?_;refine tn 8 ?_;refine tn 9 ?_;refine tn 10 ?_;refine tn 11 ?_
  simp only [Act.put,ps1,ps2,ps3]
  refine wpAnyH_done (by kernel_rfl) ?_ _
  go_wp2
  go_ret
  exact⟨rfl,BB⟩
 rcases Decidable.em (y<8192)with k3|k3
 rotate_left
 ·skip
  obtain rfl:r=false:=by rw [HR.out];simp;omega
  have k':decide (y<8192)=false:=decide_eq_false k3
  obtain⟨W,hW,bW,x_a,x_b,sW⟩:=bs_22 w (.int .i64 a1) (.int .i64 a2) (.int .i64 b1) (.int .i64 b2) 24 24
  have zbW:=bW.size
  have BB:=bW
  go_enter Tryz.func89,Tryz.ntmps89
  go_wp2
  rw [←hW]
  clear hW
  have dd1:Below W.heap.size W W.drew:=(Below.refl _ _).drew
  have zdd1:=dd1.size
  replace BB:=also BB dd1
  replace x_a:=x_a.on dd1
  replace x_b:=x_b.on dd1
  refine wp_region_held_drew (S:=(fun w'=>w'.cell? ⟨w.heap.size,0,none⟩=some (.int .i64 a1)∧w'.cell? ⟨w.heap.size,1,none⟩=some (.int .i64 a2)∧w'.cell? ⟨w.heap.size+1,0,none⟩=some (.int .i64 b1)∧w'.cell? ⟨w.heap.size+1,1,none⟩=some (.int .i64 b2)∧Below w.heap.size w w')) (by kernel_rfl) ?_ (fun hHeld=>?_)
  ·exact⟨x_a.c0,x_a.c1,x_b.c0,x_b.c1,BB⟩
  refine tn 0 ?_;refine tn 1 ?_;refine tn 2 ?_;refine tn 3 ?_;refine tn 4 ?_;refine tn 5 ?_;refine tn 6 ?_;refine tn 7 ?_;refine tn 8 ?_;refine tn 9 ?_;refine tn 10 ?_;refine tn 11 ?_
  simp only [Act.put,ps1,ps2,ps3]
  refine wpAnyH_done (by kernel_rfl) ?_ _
  go_wp2
  go_ret
  exact⟨rfl,BB⟩
 obtain rfl:r=true:=by rw [HR.out];simp;omega
 obtain⟨W,hW,bW,x_a,x_b,sW⟩:=bs_22 w (.int .i64 a1) (.int .i64 a2) (.int .i64 b1) (.int .i64 b2) 24 24
 have zbW:=bW.size
 have BB:=bW
 go_enter Tryz.func89,Tryz.ntmps89
 go_wp2
 rw [←hW]
 clear hW
 have dd1:Below W.heap.size W W.drew:=(Below.refl _ _).drew
 have zdd1:=dd1.size
 replace BB:=also BB dd1
 replace x_a:=x_a.on dd1
 replace x_b:=x_b.on dd1
 refine wp_region_held_drew (S:=(fun w'=>w'.cell? ⟨w.heap.size,0,none⟩=some (.int .i64 a1)∧w'.cell? ⟨w.heap.size,1,none⟩=some (.int .i64 a2)∧w'.cell? ⟨w.heap.size+1,0,none⟩=some (.int .i64 b1)∧w'.cell? ⟨w.heap.size+1,1,none⟩=some (.int .i64 b2)∧Below w.heap.size w w')) (by kernel_rfl) ?_ (fun hHeld=>?_)
 ·exact⟨x_a.c0,x_a.c1,x_b.c0,x_b.c1,BB⟩
 refine tn 0 ?_;refine tn 1 ?_;refine tn 2 ?_;refine tn 3 ?_;refine tn 4 ?_;refine tn 5 ?_;refine tn 6 ?_;refine tn 7 ?_;refine tn 8 ?_;refine tn 9 ?_;refine tn 10 ?_;refine tn 11 ?_
 simp only [Act.put,ps1,ps2,ps3]
 refine wpAnyH_done (by kernel_rfl) ?_ _
 go_wp2
 go_ret
 exact⟨rfl,BB⟩
set_option maxRecDepth 100000 in
set_option maxHeartbeats 4000000 in
theorem rpOrient(a1 a2 b1 b2 c1 c2:Int)(w:World)(ha:canC a1 a2=true)(hb:canC b1 b2=true)(hc:canC c1 c2=true){g:Int}(hg:g=(areaP a1 a2 b1 b2 c1 c2).sign):
  Calls Tryz.prog 45 #[.agg #[.int .i64 a1, .int .i64 a2], .agg #[.int .i64 b1, .int .i64 b2], .agg #[.int .i64 c1, .int .i64 c2]] w fun e w'=>e= .returned (.int .i64 g)∧Below w.heap.size w w':=by
 cases n1:nearP a1 a2 b1 b2
 ·skip
  have HG:Hid _:=hg
  clear hg
  obtain⟨W,hW,bW,x_a,x_b,x_c,sW⟩:=bs_222 w (.int .i64 a1) (.int .i64 a2) (.int .i64 b1) (.int .i64 b2) (.int .i64 c1) (.int .i64 c2) 24 24 24
  have zbW:=bW.size
  have BB:=bW
  go_enter Tryz.func45,Tryz.ntmps45
  go_wp2_with (go_at_call 89;fail)
  rw [←hW]
  clear hW
  refine(rpNear a1 a2 b1 b2 W ha hb n1.symm).mono ?_
  rintro e w1 ⟨rfl,bw1⟩
  have zbw1:=bw1.size
  replace BB:=also BB bw1
  replace x_a:=x_a.on bw1
  replace x_b:=x_b.on bw1
  replace x_c:=x_c.on bw1
  have⟨x_a_0,x_a_1,x_a_2,x_a_3⟩:=x_a
  have⟨x_b_0,x_b_1,x_b_2,x_b_3⟩:=x_b
  have⟨x_c_0,x_c_1,x_c_2,x_c_3⟩:=x_c
  go_wp2_with (go_at_call 91;fail)
  refine(rpArea a1 a2 b1 b2 c1 c2 w1 ha hb hc rfl).mono ?_
  rintro e w3 ⟨s11,d11,l11,c11,rfl,r11,f11,bw3⟩
  clear x_a_0 x_a_1 x_a_2 x_a_3 x_b_0 x_b_1 x_b_2 x_b_3 x_c_0 x_c_1 x_c_2 x_c_3
  have zbw3:=bw3.size
  replace BB:=also BB bw3
  replace x_a:=x_a.on bw3
  replace x_b:=x_b.on bw3
  replace x_c:=x_c.on bw3
  have hfS:=fieldS s11 d11 l11 c11 w3
  go_wp2
  go_ret
  exact⟨by rw [HG.out,←r11.sg];rfl,BB⟩
 ·skip
  cases n2:nearP a1 a2 c1 c2
  ·skip
   have HG:Hid _:=hg
   clear hg
   obtain⟨W,hW,bW,x_a,x_b,x_c,sW⟩:=bs_222 w (.int .i64 a1) (.int .i64 a2) (.int .i64 b1) (.int .i64 b2) (.int .i64 c1) (.int .i64 c2) 24 24 24
   have zbW:=bW.size
   have BB:=bW
   go_enter Tryz.func45,Tryz.ntmps45
   go_wp2_with (go_at_call 89;fail)
   rw [←hW]
   clear hW
   refine(rpNear a1 a2 b1 b2 W ha hb n1.symm).mono ?_
   rintro e w1 ⟨rfl,bw1⟩
   have zbw1:=bw1.size
   replace BB:=also BB bw1
   replace x_a:=x_a.on bw1
   replace x_b:=x_b.on bw1
   replace x_c:=x_c.on bw1
   have⟨x_a_0,x_a_1,x_a_2,x_a_3⟩:=x_a
   have⟨x_b_0,x_b_1,x_b_2,x_b_3⟩:=x_b
   have⟨x_c_0,x_c_1,x_c_2,x_c_3⟩:=x_c
   go_wp2_with (go_at_call 89;fail)
   refine(rpNear a1 a2 c1 c2 w1 ha hc n2.symm).mono ?_
   rintro e w2 ⟨rfl,bw2⟩
   clear x_a_0 x_a_1 x_a_2 x_a_3 x_b_0 x_b_1 x_b_2 x_b_3 x_c_0 x_c_1 x_c_2 x_c_3
   have zbw2:=bw2.size
   replace BB:=also BB bw2
   replace x_a:=x_a.on bw2
   replace x_b:=x_b.on bw2
   replace x_c:=x_c.on bw2
   have⟨x_a_0,x_a_1,x_a_2,x_a_3⟩:=x_a
   have⟨x_b_0,x_b_1,x_b_2,x_b_3⟩:=x_b
   have⟨x_c_0,x_c_1,x_c_2,x_c_3⟩:=x_c
   go_wp2_with (go_at_call 91;fail)
   refine(rpArea a1 a2 b1 b2 c1 c2 w2 ha hb hc rfl).mono ?_
   rintro e w3 ⟨s11,d11,l11,c11,rfl,r11,f11,bw3⟩
   clear x_a_0 x_a_1 x_a_2 x_a_3 x_b_0 x_b_1 x_b_2 x_b_3 x_c_0 x_c_1 x_c_2 x_c_3
   have zbw3:=bw3.size
   replace BB:=also BB bw3
   replace x_a:=x_a.on bw3
   replace x_b:=x_b.on bw3
   replace x_c:=x_c.on bw3
   have hfS:=fieldS s11 d11 l11 c11 w3
   go_wp2
   go_ret
   exact⟨by rw [HG.out,←r11.sg];rfl,BB⟩
  ·skip
   obtain⟨qx,qu⟩:=near_abs n1
   obtain⟨qv,qy⟩:=near_abs n2
   obtain⟨x,hx⟩: ∃ z:Int,z=b1- a1:=⟨_,rfl⟩
   rw [←hx]at qx
   have wx:wrap64 (b1- a1)=x:=by rw [←hx];exact wrap_in (by omega) (by omega)
   obtain⟨y,hy⟩: ∃ z:Int,z=c2- a2:=⟨_,rfl⟩
   rw [←hy]at qy
   have wy:wrap64 (c2- a2)=y:=by rw [←hy];exact wrap_in (by omega) (by omega)
   obtain⟨u,hu⟩: ∃ z:Int,z=b2- a2:=⟨_,rfl⟩
   rw [←hu]at qu
   have wu:wrap64 (b2- a2)=u:=by rw [←hu];exact wrap_in (by omega) (by omega)
   obtain⟨v,hv⟩: ∃ z:Int,z=c1- a1:=⟨_,rfl⟩
   rw [←hv]at qv
   have wv:wrap64 (c1- a1)=v:=by rw [←hv];exact wrap_in (by omega) (by omega)
   obtain⟨p,hp⟩: ∃ z:Int,z=x*y:=⟨_,rfl⟩
   have qp:p.natAbs≤67092481:=by rw [hp];exact prod_abs qx qy
   have wp:wrap64 (x*y)=p:=by rw [←hp];exact wrap_in (by omega) (by omega)
   obtain⟨q,hq⟩: ∃ z:Int,z=u*v:=⟨_,rfl⟩
   have qq:q.natAbs≤67092481:=by rw [hq];exact prod_abs qu qv
   have wq:wrap64 (u*v)=q:=by rw [←hq];exact wrap_in (by omega) (by omega)
   obtain⟨z,hz⟩: ∃ z:Int,z=p- q:=⟨_,rfl⟩
   have qz:z.natAbs≤134184962:=by rw [hz];omega
   have wz:wrap64 (p- q)=z:=by rw [←hz];exact wrap_in (by omega) (by omega)
   have HG:Hid (g=z.sign):=by unfold Hid;rw [hg,hz,hp,hq,hx,hy,hu,hv];rfl
   clear hg hz hp hq hx hy hu hv qx qy qu qv qp qq qz
   obtain⟨W,hW,bW,x_a,x_b,x_c,sW⟩:=bs_222 w (.int .i64 a1) (.int .i64 a2) (.int .i64 b1) (.int .i64 b2) (.int .i64 c1) (.int .i64 c2) 24 24 24
   have zbW:=bW.size
   have BB:=bW
   go_enter Tryz.func45,Tryz.ntmps45
   go_wp2_with (go_at_call 89;fail)
   rw [←hW]
   clear hW
   refine(rpNear a1 a2 b1 b2 W ha hb n1.symm).mono ?_
   rintro e w1 ⟨rfl,bw1⟩
   have zbw1:=bw1.size
   replace BB:=also BB bw1
   replace x_a:=x_a.on bw1
   replace x_b:=x_b.on bw1
   replace x_c:=x_c.on bw1
   have⟨x_a_0,x_a_1,x_a_2,x_a_3⟩:=x_a
   have⟨x_b_0,x_b_1,x_b_2,x_b_3⟩:=x_b
   have⟨x_c_0,x_c_1,x_c_2,x_c_3⟩:=x_c
   go_wp2_with (go_at_call 89;fail)
   refine(rpNear a1 a2 c1 c2 w1 ha hc n2.symm).mono ?_
   rintro e w2 ⟨rfl,bw2⟩
   clear x_a_0 x_a_1 x_a_2 x_a_3 x_b_0 x_b_1 x_b_2 x_b_3 x_c_0 x_c_1 x_c_2 x_c_3
   have zbw2:=bw2.size
   replace BB:=also BB bw2
   replace x_a:=x_a.on bw2
   replace x_b:=x_b.on bw2
   replace x_c:=x_c.on bw2
   have⟨x_a_0,x_a_1,x_a_2,x_a_3⟩:=x_a
   have⟨x_b_0,x_b_1,x_b_2,x_b_3⟩:=x_b
   have⟨x_c_0,x_c_1,x_c_2,x_c_3⟩:=x_c
   go_wp2_with (go_at_call 90;fail)
   refine(rpSign z w2 HG.out).mono ?_
   rintro e w3 ⟨rfl,bw3⟩
   clear x_a_0 x_a_1 x_a_2 x_a_3 x_b_0 x_b_1 x_b_2 x_b_3 x_c_0 x_c_1 x_c_2 x_c_3
   have zbw3:=bw3.size
   replace BB:=also BB bw3
   replace x_a:=x_a.on bw3
   replace x_b:=x_b.on bw3
   replace x_c:=x_c.on bw3
   go_wp2
   go_ret
   exact⟨rfl,BB⟩
theorem isV_no{S:Ms}{v:Int}(h:isV S v=false):fAt Vt.no v S.V 0<0:=by have:=of_decide_eq_false h;omega
theorem isV_yes{S:Ms}{v:Int}(h:isV S v=true):0≤fAt Vt.no v S.V 0:=of_decide_eq_true h
theorem plOk_can{S:Ms}{t:Tr}{i:Nat}(h:plOk S t i=true):canC (plX S t i) (plY S t i)=true:=by
 unfold plX plY
 rw [h]
 unfold plOk atC at h
 simp only [Bool.and_eq_true]at h
 unfold canC
 simp only [if_true,Bool.and_eq_true]
 exact h.2.2
set_option maxRecDepth 100000 in
set_option maxHeartbeats 2000000 in
theorem addF1_0(p:Nat)(S:Ms)(t:Tr)(w:World)(h:MeLook p S w)(hV:S.V.length≤1000)(hn:In64 S.n)(hvs: ∀ v∈S.V,Vt64 v)(ht:Tr64 t)(h0:isV S t.v0=false):
  Calls Tryz.prog 47 #[ptR p,trV t] w fun e w'=>e= .returned (.tuple #[.int .i64 (-1), .int .i64 1])∧Below w.heap.size w w':=by
 obtain⟨W,hW⟩: ∃ W,W=w.alloc (.cells (trC t).toArray 49):=⟨_,rfl⟩
 have BW:Below w.heap.size w W:=by rw [hW];exact(Below.refl _ _).alloc (Nat.le_refl _) _
 have zW:W.heap.size=w.heap.size+1:=by rw [hW];simp
 have R0:Row W w.heap.size (trC t):=by rw [hW];exact Row.new w (trC t) _
 have hW':w.alloc (.cells #[.int .i64 t.v0, .int .i64 t.v1, .int .i64 t.v2, .int .i64 t.x0, .int .i64 t.y0, .int .i64 t.x1, .int .i64 t.y1, .int .i64 t.x2, .int .i64 t.y2] 49)=W:=hW.symm
 have L0:Hid _:=h.below BW
 have c0:=R0.cell 0 _ rfl
 have c1:=R0.cell 1 _ rfl
 have c2:=R0.cell 2 _ rfl
 have c3:=R0.cell 3 _ rfl
 have c4:=R0.cell 4 _ rfl
 have c5:=R0.cell 5 _ rfl
 have c6:=R0.cell 6 _ rfl
 have c7:=R0.cell 7 _ rfl
 have c8:=R0.cell 8 _ rfl
 clear h hW
 have k0:=isV_no h0
 go_enter Tryz.func47,Tryz.ntmps47
 go_wp2_with (go_at_call 92;fail)
 refine(mrVertAt p S t.v0 W L0.out hV rfl).mono ?_
 rintro e w1 ⟨rfl,b1⟩
 have L1:Hid _:=L0.out.below b1
 have R1:=R0.below b1 (by omega)
 have z1:=b1.size
 have c10:=R1.cell 0 _ rfl
 have c11:=R1.cell 1 _ rfl
 have c12:=R1.cell 2 _ rfl
 have c13:=R1.cell 3 _ rfl
 have c14:=R1.cell 4 _ rfl
 have c15:=R1.cell 5 _ rfl
 have c16:=R1.cell 6 _ rfl
 have c17:=R1.cell 7 _ rfl
 have c18:=R1.cell 8 _ rfl
 go_wp2
 exact bodyPost_ret (v:= .tuple #[.int .i64 (-1), .int .i64 1]) (by simp [results,Tryz.results47,go_sem]) rfl ⟨rfl,(BW.trans (b1.mono (by omega)))⟩
set_option maxRecDepth 100000 in
set_option maxHeartbeats 2000000 in
theorem addF1_1(p:Nat)(S:Ms)(t:Tr)(w:World)(h:MeLook p S w)(hV:S.V.length≤1000)(hn:In64 S.n)(hvs: ∀ v∈S.V,Vt64 v)(ht:Tr64 t)(h0:isV S t.v0=true)(h1:isV S t.v1=false):
  Calls Tryz.prog 47 #[ptR p,trV t] w fun e w'=>e= .returned (.tuple #[.int .i64 (-1), .int .i64 1])∧Below w.heap.size w w':=by
 obtain⟨W,hW⟩: ∃ W,W=w.alloc (.cells (trC t).toArray 49):=⟨_,rfl⟩
 have BW:Below w.heap.size w W:=by rw [hW];exact(Below.refl _ _).alloc (Nat.le_refl _) _
 have zW:W.heap.size=w.heap.size+1:=by rw [hW];simp
 have R0:Row W w.heap.size (trC t):=by rw [hW];exact Row.new w (trC t) _
 have hW':w.alloc (.cells #[.int .i64 t.v0, .int .i64 t.v1, .int .i64 t.v2, .int .i64 t.x0, .int .i64 t.y0, .int .i64 t.x1, .int .i64 t.y1, .int .i64 t.x2, .int .i64 t.y2] 49)=W:=hW.symm
 have L0:Hid _:=h.below BW
 have c0:=R0.cell 0 _ rfl
 have c1:=R0.cell 1 _ rfl
 have c2:=R0.cell 2 _ rfl
 have c3:=R0.cell 3 _ rfl
 have c4:=R0.cell 4 _ rfl
 have c5:=R0.cell 5 _ rfl
 have c6:=R0.cell 6 _ rfl
 have c7:=R0.cell 7 _ rfl
 have c8:=R0.cell 8 _ rfl
 clear h hW
 have k0:=isV_yes h0
 have d0:decide (fAt Vt.no t.v0 S.V 0<0)=false:=decide_eq_false (by omega)
 have k1:=isV_no h1
 go_enter Tryz.func47,Tryz.ntmps47
 go_wp2_with (go_at_call 92;fail)
 refine(mrVertAt p S t.v0 W L0.out hV rfl).mono ?_
 rintro e w1 ⟨rfl,b1⟩
 have L1:Hid _:=L0.out.below b1
 have R1:=R0.below b1 (by omega)
 have z1:=b1.size
 have c10:=R1.cell 0 _ rfl
 have c11:=R1.cell 1 _ rfl
 have c12:=R1.cell 2 _ rfl
 have c13:=R1.cell 3 _ rfl
 have c14:=R1.cell 4 _ rfl
 have c15:=R1.cell 5 _ rfl
 have c16:=R1.cell 6 _ rfl
 have c17:=R1.cell 7 _ rfl
 have c18:=R1.cell 8 _ rfl
 go_wp2_with (go_at_call 92;fail)
 refine(mrVertAt p S t.v1 w1 L1.out hV rfl).mono ?_
 rintro e w2 ⟨rfl,b2⟩
 have L2:Hid _:=L1.out.below b2
 have R2:=R1.below b2 (by omega)
 have z2:=b2.size
 have c20:=R2.cell 0 _ rfl
 have c21:=R2.cell 1 _ rfl
 have c22:=R2.cell 2 _ rfl
 have c23:=R2.cell 3 _ rfl
 have c24:=R2.cell 4 _ rfl
 have c25:=R2.cell 5 _ rfl
 have c26:=R2.cell 6 _ rfl
 have c27:=R2.cell 7 _ rfl
 have c28:=R2.cell 8 _ rfl
 go_wp2
 exact bodyPost_ret (v:= .tuple #[.int .i64 (-1), .int .i64 1]) (by simp [results,Tryz.results47,go_sem]) rfl ⟨rfl,((BW.trans (b1.mono (by omega))).trans (b2.mono (by omega)))⟩
set_option maxRecDepth 100000 in
set_option maxHeartbeats 2000000 in
theorem addF1_2(p:Nat)(S:Ms)(t:Tr)(w:World)(h:MeLook p S w)(hV:S.V.length≤1000)(hn:In64 S.n)(hvs: ∀ v∈S.V,Vt64 v)(ht:Tr64 t)(h0:isV S t.v0=true)(h1:isV S t.v1=true)(h2:isV S t.v2=false):
  Calls Tryz.prog 47 #[ptR p,trV t] w fun e w'=>e= .returned (.tuple #[.int .i64 (-1), .int .i64 1])∧Below w.heap.size w w':=by
 obtain⟨W,hW⟩: ∃ W,W=w.alloc (.cells (trC t).toArray 49):=⟨_,rfl⟩
 have BW:Below w.heap.size w W:=by rw [hW];exact(Below.refl _ _).alloc (Nat.le_refl _) _
 have zW:W.heap.size=w.heap.size+1:=by rw [hW];simp
 have R0:Row W w.heap.size (trC t):=by rw [hW];exact Row.new w (trC t) _
 have hW':w.alloc (.cells #[.int .i64 t.v0, .int .i64 t.v1, .int .i64 t.v2, .int .i64 t.x0, .int .i64 t.y0, .int .i64 t.x1, .int .i64 t.y1, .int .i64 t.x2, .int .i64 t.y2] 49)=W:=hW.symm
 have L0:Hid _:=h.below BW
 have c0:=R0.cell 0 _ rfl
 have c1:=R0.cell 1 _ rfl
 have c2:=R0.cell 2 _ rfl
 have c3:=R0.cell 3 _ rfl
 have c4:=R0.cell 4 _ rfl
 have c5:=R0.cell 5 _ rfl
 have c6:=R0.cell 6 _ rfl
 have c7:=R0.cell 7 _ rfl
 have c8:=R0.cell 8 _ rfl
 clear h hW
 have k0:=isV_yes h0
 have d0:decide (fAt Vt.no t.v0 S.V 0<0)=false:=decide_eq_false (by omega)
 have k1:=isV_yes h1
 have d1:decide (fAt Vt.no t.v1 S.V 0<0)=false:=decide_eq_false (by omega)
 have k2:=isV_no h2
 go_enter Tryz.func47,Tryz.ntmps47
 go_wp2_with (go_at_call 92;fail)
 refine(mrVertAt p S t.v0 W L0.out hV rfl).mono ?_
 rintro e w1 ⟨rfl,b1⟩
 have L1:Hid _:=L0.out.below b1
 have R1:=R0.below b1 (by omega)
 have z1:=b1.size
 have c10:=R1.cell 0 _ rfl
 have c11:=R1.cell 1 _ rfl
 have c12:=R1.cell 2 _ rfl
 have c13:=R1.cell 3 _ rfl
 have c14:=R1.cell 4 _ rfl
 have c15:=R1.cell 5 _ rfl
 have c16:=R1.cell 6 _ rfl
 have c17:=R1.cell 7 _ rfl
 have c18:=R1.cell 8 _ rfl
 go_wp2_with (go_at_call 92;fail)
 refine(mrVertAt p S t.v1 w1 L1.out hV rfl).mono ?_
 rintro e w2 ⟨rfl,b2⟩
 have L2:Hid _:=L1.out.below b2
 have R2:=R1.below b2 (by omega)
 have z2:=b2.size
 have c20:=R2.cell 0 _ rfl
 have c21:=R2.cell 1 _ rfl
 have c22:=R2.cell 2 _ rfl
 have c23:=R2.cell 3 _ rfl
 have c24:=R2.cell 4 _ rfl
 have c25:=R2.cell 5 _ rfl
 have c26:=R2.cell 6 _ rfl
 have c27:=R2.cell 7 _ rfl
 have c28:=R2.cell 8 _ rfl
 go_wp2_with (go_at_call 92;fail)
 refine(mrVertAt p S t.v2 w2 L2.out hV rfl).mono ?_
 rintro e w3 ⟨rfl,b3⟩
 have L3:Hid _:=L2.out.below b3
 have R3:=R2.below b3 (by omega)
 have z3:=b3.size
 have c30:=R3.cell 0 _ rfl
 have c31:=R3.cell 1 _ rfl
 have c32:=R3.cell 2 _ rfl
 have c33:=R3.cell 3 _ rfl
 have c34:=R3.cell 4 _ rfl
 have c35:=R3.cell 5 _ rfl
 have c36:=R3.cell 6 _ rfl
 have c37:=R3.cell 7 _ rfl
 have c38:=R3.cell 8 _ rfl
 go_wp2
 exact bodyPost_ret (v:= .tuple #[.int .i64 (-1), .int .i64 1]) (by simp [results,Tryz.results47,go_sem]) rfl ⟨rfl,(((BW.trans (b1.mono (by omega))).trans (b2.mono (by omega))).trans (b3.mono (by omega)))⟩
set_option maxRecDepth 100000 in
set_option maxHeartbeats 2000000 in
theorem addF6_0(p:Nat)(S:Ms)(t:Tr)(w:World)(h:MeLook p S w)(hV:S.V.length≤1000)(hn:In64 S.n)(hvs: ∀ v∈S.V,Vt64 v)(ht:Tr64 t)(h0:isV S t.v0=true)(h1:isV S t.v1=true)(h2:isV S t.v2=true)(o0:plOk S t 0=false):
  Calls Tryz.prog 47 #[ptR p,trV t] w fun e w'=>e= .returned (.tuple #[.int .i64 (-1), .int .i64 6])∧Below w.heap.size w w':=by
 obtain⟨W,hW⟩: ∃ W,W=w.alloc (.cells (trC t).toArray 49):=⟨_,rfl⟩
 have BW:Below w.heap.size w W:=by rw [hW];exact(Below.refl _ _).alloc (Nat.le_refl _) _
 have zW:W.heap.size=w.heap.size+1:=by rw [hW];simp
 have R0:Row W w.heap.size (trC t):=by rw [hW];exact Row.new w (trC t) _
 have hW':w.alloc (.cells #[.int .i64 t.v0, .int .i64 t.v1, .int .i64 t.v2, .int .i64 t.x0, .int .i64 t.y0, .int .i64 t.x1, .int .i64 t.y1, .int .i64 t.x2, .int .i64 t.y2] 49)=W:=hW.symm
 have L0:Hid _:=h.below BW
 have c0:=R0.cell 0 _ rfl
 have c1:=R0.cell 1 _ rfl
 have c2:=R0.cell 2 _ rfl
 have c3:=R0.cell 3 _ rfl
 have c4:=R0.cell 4 _ rfl
 have c5:=R0.cell 5 _ rfl
 have c6:=R0.cell 6 _ rfl
 have c7:=R0.cell 7 _ rfl
 have c8:=R0.cell 8 _ rfl
 clear h hW
 have k0:=isV_yes h0
 have d0:decide (fAt Vt.no t.v0 S.V 0<0)=false:=decide_eq_false (by omega)
 obtain⟨ok0,hok0,Hok0⟩: ∃ ok,ok=false∧Hid (ok=plOk S t 0):=⟨_,rfl,o0.symm⟩
 obtain⟨X0,HX0⟩: ∃ X,Hid (X=plX S t 0):=⟨_,rfl⟩
 obtain⟨Y0,HY0⟩: ∃ X,Hid (X=plY S t 0):=⟨_,rfl⟩
 have k1:=isV_yes h1
 have d1:decide (fAt Vt.no t.v1 S.V 0<0)=false:=decide_eq_false (by omega)
 obtain⟨ok1,Hok1⟩: ∃ ok,Hid (ok=plOk S t 1):=⟨_,rfl⟩
 obtain⟨X1,HX1⟩: ∃ X,Hid (X=plX S t 1):=⟨_,rfl⟩
 obtain⟨Y1,HY1⟩: ∃ X,Hid (X=plY S t 1):=⟨_,rfl⟩
 have k2:=isV_yes h2
 have d2:decide (fAt Vt.no t.v2 S.V 0<0)=false:=decide_eq_false (by omega)
 obtain⟨ok2,Hok2⟩: ∃ ok,Hid (ok=plOk S t 2):=⟨_,rfl⟩
 obtain⟨X2,HX2⟩: ∃ X,Hid (X=plX S t 2):=⟨_,rfl⟩
 obtain⟨Y2,HY2⟩: ∃ X,Hid (X=plY S t 2):=⟨_,rfl⟩
 go_enter Tryz.func47,Tryz.ntmps47
 go_wp2_with (go_at_call 92;fail)
 refine(mrVertAt p S t.v0 W L0.out hV rfl).mono ?_
 rintro e w1 ⟨rfl,b1⟩
 have L1:Hid _:=L0.out.below b1
 have R1:=R0.below b1 (by omega)
 have z1:=b1.size
 have c10:=R1.cell 0 _ rfl
 have c11:=R1.cell 1 _ rfl
 have c12:=R1.cell 2 _ rfl
 have c13:=R1.cell 3 _ rfl
 have c14:=R1.cell 4 _ rfl
 have c15:=R1.cell 5 _ rfl
 have c16:=R1.cell 6 _ rfl
 have c17:=R1.cell 7 _ rfl
 have c18:=R1.cell 8 _ rfl
 go_wp2_with (go_at_call 92;fail)
 refine(mrVertAt p S t.v1 w1 L1.out hV rfl).mono ?_
 rintro e w2 ⟨rfl,b2⟩
 have L2:Hid _:=L1.out.below b2
 have R2:=R1.below b2 (by omega)
 have z2:=b2.size
 have c20:=R2.cell 0 _ rfl
 have c21:=R2.cell 1 _ rfl
 have c22:=R2.cell 2 _ rfl
 have c23:=R2.cell 3 _ rfl
 have c24:=R2.cell 4 _ rfl
 have c25:=R2.cell 5 _ rfl
 have c26:=R2.cell 6 _ rfl
 have c27:=R2.cell 7 _ rfl
 have c28:=R2.cell 8 _ rfl
 go_wp2_with (go_at_call 92;fail)
 refine(mrVertAt p S t.v2 w2 L2.out hV rfl).mono ?_
 rintro e w3 ⟨rfl,b3⟩
 have L3:Hid _:=L2.out.below b3
 have R3:=R2.below b3 (by omega)
 have z3:=b3.size
 have c30:=R3.cell 0 _ rfl
 have c31:=R3.cell 1 _ rfl
 have c32:=R3.cell 2 _ rfl
 have c33:=R3.cell 3 _ rfl
 have c34:=R3.cell 4 _ rfl
 have c35:=R3.cell 5 _ rfl
 have c36:=R3.cell 6 _ rfl
 have c37:=R3.cell 7 _ rfl
 have c38:=R3.cell 8 _ rfl
 go_wp2_with (go_at_call 93;fail)
 refine(mrPlace p S t 0 w3 (by decide) L3.out hV hn hvs ht h0 (ok:=ok0) (X:=X0) (Y:=Y0) Hok0.out HX0.out HY0.out).mono ?_
 rintro e w4 ⟨rfl,b4⟩
 obtain⟨u4,hu4⟩: ∃ u,u=w4.alloc (.cells ([.int .i64 X0, .int .i64 Y0]:List Value).toArray 24):=⟨_,rfl⟩
 have d4:Below w4.heap.size w4 u4:=by rw [hu4];exact(Below.refl _ _).alloc (Nat.le_refl _) _
 have z4:=b4.size
 have y4:u4.heap.size=w4.heap.size+1:=by rw [hu4];simp
 have P0:Row u4 w4.heap.size [.int .i64 X0, .int .i64 Y0]:=by rw [hu4];exact Row.new w4 _ _
 have hv4:w4.alloc (.cells #[.int .i64 X0, .int .i64 Y0] 24)=u4:=hu4.symm
 have L4:Hid _:=(L3.out.below b4).below d4
 have R4:=(R3.below b4 (by omega)).below d4 (by omega)
 have c40:=R4.cell 0 _ rfl
 have c41:=R4.cell 1 _ rfl
 have c42:=R4.cell 2 _ rfl
 have c43:=R4.cell 3 _ rfl
 have c44:=R4.cell 4 _ rfl
 have c45:=R4.cell 5 _ rfl
 have c46:=R4.cell 6 _ rfl
 have c47:=R4.cell 7 _ rfl
 have c48:=R4.cell 8 _ rfl
 have p400:=P0.cell 0 _ rfl
 have p401:=P0.cell 1 _ rfl
 clear hu4
 go_wp2_with (go_at_call 93;fail)
 refine(mrPlace p S t 1 u4 (by decide) L4.out hV hn hvs ht h1 (ok:=ok1) (X:=X1) (Y:=Y1) Hok1.out HX1.out HY1.out).mono ?_
 rintro e w5 ⟨rfl,b5⟩
 obtain⟨u5,hu5⟩: ∃ u,u=w5.alloc (.cells ([.int .i64 X1, .int .i64 Y1]:List Value).toArray 24):=⟨_,rfl⟩
 have d5:Below w5.heap.size w5 u5:=by rw [hu5];exact(Below.refl _ _).alloc (Nat.le_refl _) _
 have z5:=b5.size
 have y5:u5.heap.size=w5.heap.size+1:=by rw [hu5];simp
 have P1:Row u5 w5.heap.size [.int .i64 X1, .int .i64 Y1]:=by rw [hu5];exact Row.new w5 _ _
 have hv5:w5.alloc (.cells #[.int .i64 X1, .int .i64 Y1] 24)=u5:=hu5.symm
 have L5:Hid _:=(L4.out.below b5).below d5
 have R5:=(R4.below b5 (by omega)).below d5 (by omega)
 have P0:=(P0.below b5 (by omega)).below d5 (by omega)
 have c50:=R5.cell 0 _ rfl
 have c51:=R5.cell 1 _ rfl
 have c52:=R5.cell 2 _ rfl
 have c53:=R5.cell 3 _ rfl
 have c54:=R5.cell 4 _ rfl
 have c55:=R5.cell 5 _ rfl
 have c56:=R5.cell 6 _ rfl
 have c57:=R5.cell 7 _ rfl
 have c58:=R5.cell 8 _ rfl
 have p500:=P0.cell 0 _ rfl
 have p501:=P0.cell 1 _ rfl
 have p510:=P1.cell 0 _ rfl
 have p511:=P1.cell 1 _ rfl
 clear hu5
 go_wp2_with (go_at_call 93;fail)
 refine(mrPlace p S t 2 u5 (by decide) L5.out hV hn hvs ht h2 (ok:=ok2) (X:=X2) (Y:=Y2) Hok2.out HX2.out HY2.out).mono ?_
 rintro e w6 ⟨rfl,b6⟩
 obtain⟨u6,hu6⟩: ∃ u,u=w6.alloc (.cells ([.int .i64 X2, .int .i64 Y2]:List Value).toArray 24):=⟨_,rfl⟩
 have d6:Below w6.heap.size w6 u6:=by rw [hu6];exact(Below.refl _ _).alloc (Nat.le_refl _) _
 have z6:=b6.size
 have y6:u6.heap.size=w6.heap.size+1:=by rw [hu6];simp
 have P2:Row u6 w6.heap.size [.int .i64 X2, .int .i64 Y2]:=by rw [hu6];exact Row.new w6 _ _
 have hv6:w6.alloc (.cells #[.int .i64 X2, .int .i64 Y2] 24)=u6:=hu6.symm
 have L6:Hid _:=(L5.out.below b6).below d6
 have R6:=(R5.below b6 (by omega)).below d6 (by omega)
 have P0:=(P0.below b6 (by omega)).below d6 (by omega)
 have P1:=(P1.below b6 (by omega)).below d6 (by omega)
 have c60:=R6.cell 0 _ rfl
 have c61:=R6.cell 1 _ rfl
 have c62:=R6.cell 2 _ rfl
 have c63:=R6.cell 3 _ rfl
 have c64:=R6.cell 4 _ rfl
 have c65:=R6.cell 5 _ rfl
 have c66:=R6.cell 6 _ rfl
 have c67:=R6.cell 7 _ rfl
 have c68:=R6.cell 8 _ rfl
 have p600:=P0.cell 0 _ rfl
 have p601:=P0.cell 1 _ rfl
 have p610:=P1.cell 0 _ rfl
 have p611:=P1.cell 1 _ rfl
 have p620:=P2.cell 0 _ rfl
 have p621:=P2.cell 1 _ rfl
 clear hu6
 subst hok0
 go_wp2
 exact bodyPost_ret (v:= .tuple #[.int .i64 (-1), .int .i64 6]) (by simp [results,Tryz.results47,go_sem]) rfl ⟨rfl,(((((((((BW.trans (b1.mono (by omega))).trans (b2.mono (by omega))).trans (b3.mono (by omega))).trans (b4.mono (by omega))).trans (d4.mono (by omega))).trans (b5.mono (by omega))).trans (d5.mono (by omega))).trans (b6.mono (by omega))).trans (d6.mono (by omega)))⟩
set_option maxRecDepth 100000 in
set_option maxHeartbeats 2000000 in
theorem addF6_1(p:Nat)(S:Ms)(t:Tr)(w:World)(h:MeLook p S w)(hV:S.V.length≤1000)(hn:In64 S.n)(hvs: ∀ v∈S.V,Vt64 v)(ht:Tr64 t)(h0:isV S t.v0=true)(h1:isV S t.v1=true)(h2:isV S t.v2=true)(o0:plOk S t 0=true)(o1:plOk S t 1=false):
  Calls Tryz.prog 47 #[ptR p,trV t] w fun e w'=>e= .returned (.tuple #[.int .i64 (-1), .int .i64 6])∧Below w.heap.size w w':=by
 obtain⟨W,hW⟩: ∃ W,W=w.alloc (.cells (trC t).toArray 49):=⟨_,rfl⟩
 have BW:Below w.heap.size w W:=by rw [hW];exact(Below.refl _ _).alloc (Nat.le_refl _) _
 have zW:W.heap.size=w.heap.size+1:=by rw [hW];simp
 have R0:Row W w.heap.size (trC t):=by rw [hW];exact Row.new w (trC t) _
 have hW':w.alloc (.cells #[.int .i64 t.v0, .int .i64 t.v1, .int .i64 t.v2, .int .i64 t.x0, .int .i64 t.y0, .int .i64 t.x1, .int .i64 t.y1, .int .i64 t.x2, .int .i64 t.y2] 49)=W:=hW.symm
 have L0:Hid _:=h.below BW
 have c0:=R0.cell 0 _ rfl
 have c1:=R0.cell 1 _ rfl
 have c2:=R0.cell 2 _ rfl
 have c3:=R0.cell 3 _ rfl
 have c4:=R0.cell 4 _ rfl
 have c5:=R0.cell 5 _ rfl
 have c6:=R0.cell 6 _ rfl
 have c7:=R0.cell 7 _ rfl
 have c8:=R0.cell 8 _ rfl
 clear h hW
 have k0:=isV_yes h0
 have d0:decide (fAt Vt.no t.v0 S.V 0<0)=false:=decide_eq_false (by omega)
 obtain⟨ok0,hok0,Hok0⟩: ∃ ok,ok=true∧Hid (ok=plOk S t 0):=⟨_,rfl,o0.symm⟩
 obtain⟨X0,HX0⟩: ∃ X,Hid (X=plX S t 0):=⟨_,rfl⟩
 obtain⟨Y0,HY0⟩: ∃ X,Hid (X=plY S t 0):=⟨_,rfl⟩
 have k1:=isV_yes h1
 have d1:decide (fAt Vt.no t.v1 S.V 0<0)=false:=decide_eq_false (by omega)
 obtain⟨ok1,hok1,Hok1⟩: ∃ ok,ok=false∧Hid (ok=plOk S t 1):=⟨_,rfl,o1.symm⟩
 obtain⟨X1,HX1⟩: ∃ X,Hid (X=plX S t 1):=⟨_,rfl⟩
 obtain⟨Y1,HY1⟩: ∃ X,Hid (X=plY S t 1):=⟨_,rfl⟩
 have k2:=isV_yes h2
 have d2:decide (fAt Vt.no t.v2 S.V 0<0)=false:=decide_eq_false (by omega)
 obtain⟨ok2,Hok2⟩: ∃ ok,Hid (ok=plOk S t 2):=⟨_,rfl⟩
 obtain⟨X2,HX2⟩: ∃ X,Hid (X=plX S t 2):=⟨_,rfl⟩
 obtain⟨Y2,HY2⟩: ∃ X,Hid (X=plY S t 2):=⟨_,rfl⟩
 go_enter Tryz.func47,Tryz.ntmps47
 go_wp2_with (go_at_call 92;fail)
 refine(mrVertAt p S t.v0 W L0.out hV rfl).mono ?_
 rintro e w1 ⟨rfl,b1⟩
 have L1:Hid _:=L0.out.below b1
 have R1:=R0.below b1 (by omega)
 have z1:=b1.size
 have c10:=R1.cell 0 _ rfl
 have c11:=R1.cell 1 _ rfl
 have c12:=R1.cell 2 _ rfl
 have c13:=R1.cell 3 _ rfl
 have c14:=R1.cell 4 _ rfl
 have c15:=R1.cell 5 _ rfl
 have c16:=R1.cell 6 _ rfl
 have c17:=R1.cell 7 _ rfl
 have c18:=R1.cell 8 _ rfl
 go_wp2_with (go_at_call 92;fail)
 refine(mrVertAt p S t.v1 w1 L1.out hV rfl).mono ?_
 rintro e w2 ⟨rfl,b2⟩
 have L2:Hid _:=L1.out.below b2
 have R2:=R1.below b2 (by omega)
 have z2:=b2.size
 have c20:=R2.cell 0 _ rfl
 have c21:=R2.cell 1 _ rfl
 have c22:=R2.cell 2 _ rfl
 have c23:=R2.cell 3 _ rfl
 have c24:=R2.cell 4 _ rfl
 have c25:=R2.cell 5 _ rfl
 have c26:=R2.cell 6 _ rfl
 have c27:=R2.cell 7 _ rfl
 have c28:=R2.cell 8 _ rfl
 go_wp2_with (go_at_call 92;fail)
 refine(mrVertAt p S t.v2 w2 L2.out hV rfl).mono ?_
 rintro e w3 ⟨rfl,b3⟩
 have L3:Hid _:=L2.out.below b3
 have R3:=R2.below b3 (by omega)
 have z3:=b3.size
 have c30:=R3.cell 0 _ rfl
 have c31:=R3.cell 1 _ rfl
 have c32:=R3.cell 2 _ rfl
 have c33:=R3.cell 3 _ rfl
 have c34:=R3.cell 4 _ rfl
 have c35:=R3.cell 5 _ rfl
 have c36:=R3.cell 6 _ rfl
 have c37:=R3.cell 7 _ rfl
 have c38:=R3.cell 8 _ rfl
 go_wp2_with (go_at_call 93;fail)
 refine(mrPlace p S t 0 w3 (by decide) L3.out hV hn hvs ht h0 (ok:=ok0) (X:=X0) (Y:=Y0) Hok0.out HX0.out HY0.out).mono ?_
 rintro e w4 ⟨rfl,b4⟩
 obtain⟨u4,hu4⟩: ∃ u,u=w4.alloc (.cells ([.int .i64 X0, .int .i64 Y0]:List Value).toArray 24):=⟨_,rfl⟩
 have d4:Below w4.heap.size w4 u4:=by rw [hu4];exact(Below.refl _ _).alloc (Nat.le_refl _) _
 have z4:=b4.size
 have y4:u4.heap.size=w4.heap.size+1:=by rw [hu4];simp
 have P0:Row u4 w4.heap.size [.int .i64 X0, .int .i64 Y0]:=by rw [hu4];exact Row.new w4 _ _
 have hv4:w4.alloc (.cells #[.int .i64 X0, .int .i64 Y0] 24)=u4:=hu4.symm
 have L4:Hid _:=(L3.out.below b4).below d4
 have R4:=(R3.below b4 (by omega)).below d4 (by omega)
 have c40:=R4.cell 0 _ rfl
 have c41:=R4.cell 1 _ rfl
 have c42:=R4.cell 2 _ rfl
 have c43:=R4.cell 3 _ rfl
 have c44:=R4.cell 4 _ rfl
 have c45:=R4.cell 5 _ rfl
 have c46:=R4.cell 6 _ rfl
 have c47:=R4.cell 7 _ rfl
 have c48:=R4.cell 8 _ rfl
 have p400:=P0.cell 0 _ rfl
 have p401:=P0.cell 1 _ rfl
 clear hu4
 go_wp2_with (go_at_call 93;fail)
 refine(mrPlace p S t 1 u4 (by decide) L4.out hV hn hvs ht h1 (ok:=ok1) (X:=X1) (Y:=Y1) Hok1.out HX1.out HY1.out).mono ?_
 rintro e w5 ⟨rfl,b5⟩
 obtain⟨u5,hu5⟩: ∃ u,u=w5.alloc (.cells ([.int .i64 X1, .int .i64 Y1]:List Value).toArray 24):=⟨_,rfl⟩
 have d5:Below w5.heap.size w5 u5:=by rw [hu5];exact(Below.refl _ _).alloc (Nat.le_refl _) _
 have z5:=b5.size
 have y5:u5.heap.size=w5.heap.size+1:=by rw [hu5];simp
 have P1:Row u5 w5.heap.size [.int .i64 X1, .int .i64 Y1]:=by rw [hu5];exact Row.new w5 _ _
 have hv5:w5.alloc (.cells #[.int .i64 X1, .int .i64 Y1] 24)=u5:=hu5.symm
 have L5:Hid _:=(L4.out.below b5).below d5
 have R5:=(R4.below b5 (by omega)).below d5 (by omega)
 have P0:=(P0.below b5 (by omega)).below d5 (by omega)
 have c50:=R5.cell 0 _ rfl
 have c51:=R5.cell 1 _ rfl
 have c52:=R5.cell 2 _ rfl
 have c53:=R5.cell 3 _ rfl
 have c54:=R5.cell 4 _ rfl
 have c55:=R5.cell 5 _ rfl
 have c56:=R5.cell 6 _ rfl
 have c57:=R5.cell 7 _ rfl
 have c58:=R5.cell 8 _ rfl
 have p500:=P0.cell 0 _ rfl
 have p501:=P0.cell 1 _ rfl
 have p510:=P1.cell 0 _ rfl
 have p511:=P1.cell 1 _ rfl
 clear hu5
 go_wp2_with (go_at_call 93;fail)
 refine(mrPlace p S t 2 u5 (by decide) L5.out hV hn hvs ht h2 (ok:=ok2) (X:=X2) (Y:=Y2) Hok2.out HX2.out HY2.out).mono ?_
 rintro e w6 ⟨rfl,b6⟩
 obtain⟨u6,hu6⟩: ∃ u,u=w6.alloc (.cells ([.int .i64 X2, .int .i64 Y2]:List Value).toArray 24):=⟨_,rfl⟩
 have d6:Below w6.heap.size w6 u6:=by rw [hu6];exact(Below.refl _ _).alloc (Nat.le_refl _) _
 have z6:=b6.size
 have y6:u6.heap.size=w6.heap.size+1:=by rw [hu6];simp
 have P2:Row u6 w6.heap.size [.int .i64 X2, .int .i64 Y2]:=by rw [hu6];exact Row.new w6 _ _
 have hv6:w6.alloc (.cells #[.int .i64 X2, .int .i64 Y2] 24)=u6:=hu6.symm
 have L6:Hid _:=(L5.out.below b6).below d6
 have R6:=(R5.below b6 (by omega)).below d6 (by omega)
 have P0:=(P0.below b6 (by omega)).below d6 (by omega)
 have P1:=(P1.below b6 (by omega)).below d6 (by omega)
 have c60:=R6.cell 0 _ rfl
 have c61:=R6.cell 1 _ rfl
 have c62:=R6.cell 2 _ rfl
 have c63:=R6.cell 3 _ rfl
 have c64:=R6.cell 4 _ rfl
 have c65:=R6.cell 5 _ rfl
 have c66:=R6.cell 6 _ rfl
 have c67:=R6.cell 7 _ rfl
 have c68:=R6.cell 8 _ rfl
 have p600:=P0.cell 0 _ rfl
 have p601:=P0.cell 1 _ rfl
 have p610:=P1.cell 0 _ rfl
 have p611:=P1.cell 1 _ rfl
 have p620:=P2.cell 0 _ rfl
 have p621:=P2.cell 1 _ rfl
 clear hu6
 subst hok0
 subst hok1
 go_wp2
 exact bodyPost_ret (v:= .tuple #[.int .i64 (-1), .int .i64 6]) (by simp [results,Tryz.results47,go_sem]) rfl ⟨rfl,(((((((((BW.trans (b1.mono (by omega))).trans (b2.mono (by omega))).trans (b3.mono (by omega))).trans (b4.mono (by omega))).trans (d4.mono (by omega))).trans (b5.mono (by omega))).trans (d5.mono (by omega))).trans (b6.mono (by omega))).trans (d6.mono (by omega)))⟩
set_option maxRecDepth 100000 in
set_option maxHeartbeats 2000000 in
theorem addF6_2(p:Nat)(S:Ms)(t:Tr)(w:World)(h:MeLook p S w)(hV:S.V.length≤1000)(hn:In64 S.n)(hvs: ∀ v∈S.V,Vt64 v)(ht:Tr64 t)(h0:isV S t.v0=true)(h1:isV S t.v1=true)(h2:isV S t.v2=true)(o0:plOk S t 0=true)(o1:plOk S t 1=true)(o2:plOk S t 2=false):
  Calls Tryz.prog 47 #[ptR p,trV t] w fun e w'=>e= .returned (.tuple #[.int .i64 (-1), .int .i64 6])∧Below w.heap.size w w':=by
 obtain⟨W,hW⟩: ∃ W,W=w.alloc (.cells (trC t).toArray 49):=⟨_,rfl⟩
 have BW:Below w.heap.size w W:=by rw [hW];exact(Below.refl _ _).alloc (Nat.le_refl _) _
 have zW:W.heap.size=w.heap.size+1:=by rw [hW];simp
 have R0:Row W w.heap.size (trC t):=by rw [hW];exact Row.new w (trC t) _
 have hW':w.alloc (.cells #[.int .i64 t.v0, .int .i64 t.v1, .int .i64 t.v2, .int .i64 t.x0, .int .i64 t.y0, .int .i64 t.x1, .int .i64 t.y1, .int .i64 t.x2, .int .i64 t.y2] 49)=W:=hW.symm
 have L0:Hid _:=h.below BW
 have c0:=R0.cell 0 _ rfl
 have c1:=R0.cell 1 _ rfl
 have c2:=R0.cell 2 _ rfl
 have c3:=R0.cell 3 _ rfl
 have c4:=R0.cell 4 _ rfl
 have c5:=R0.cell 5 _ rfl
 have c6:=R0.cell 6 _ rfl
 have c7:=R0.cell 7 _ rfl
 have c8:=R0.cell 8 _ rfl
 clear h hW
 have k0:=isV_yes h0
 have d0:decide (fAt Vt.no t.v0 S.V 0<0)=false:=decide_eq_false (by omega)
 obtain⟨ok0,hok0,Hok0⟩: ∃ ok,ok=true∧Hid (ok=plOk S t 0):=⟨_,rfl,o0.symm⟩
 obtain⟨X0,HX0⟩: ∃ X,Hid (X=plX S t 0):=⟨_,rfl⟩
 obtain⟨Y0,HY0⟩: ∃ X,Hid (X=plY S t 0):=⟨_,rfl⟩
 have k1:=isV_yes h1
 have d1:decide (fAt Vt.no t.v1 S.V 0<0)=false:=decide_eq_false (by omega)
 obtain⟨ok1,hok1,Hok1⟩: ∃ ok,ok=true∧Hid (ok=plOk S t 1):=⟨_,rfl,o1.symm⟩
 obtain⟨X1,HX1⟩: ∃ X,Hid (X=plX S t 1):=⟨_,rfl⟩
 obtain⟨Y1,HY1⟩: ∃ X,Hid (X=plY S t 1):=⟨_,rfl⟩
 have k2:=isV_yes h2
 have d2:decide (fAt Vt.no t.v2 S.V 0<0)=false:=decide_eq_false (by omega)
 obtain⟨ok2,hok2,Hok2⟩: ∃ ok,ok=false∧Hid (ok=plOk S t 2):=⟨_,rfl,o2.symm⟩
 obtain⟨X2,HX2⟩: ∃ X,Hid (X=plX S t 2):=⟨_,rfl⟩
 obtain⟨Y2,HY2⟩: ∃ X,Hid (X=plY S t 2):=⟨_,rfl⟩
 go_enter Tryz.func47,Tryz.ntmps47
 go_wp2_with (go_at_call 92;fail)
 refine(mrVertAt p S t.v0 W L0.out hV rfl).mono ?_
 rintro e w1 ⟨rfl,b1⟩
 have L1:Hid _:=L0.out.below b1
 have R1:=R0.below b1 (by omega)
 have z1:=b1.size
 have c10:=R1.cell 0 _ rfl
 have c11:=R1.cell 1 _ rfl
 have c12:=R1.cell 2 _ rfl
 have c13:=R1.cell 3 _ rfl
 have c14:=R1.cell 4 _ rfl
 have c15:=R1.cell 5 _ rfl
 have c16:=R1.cell 6 _ rfl
 have c17:=R1.cell 7 _ rfl
 have c18:=R1.cell 8 _ rfl
 go_wp2_with (go_at_call 92;fail)
 refine(mrVertAt p S t.v1 w1 L1.out hV rfl).mono ?_
 rintro e w2 ⟨rfl,b2⟩
 have L2:Hid _:=L1.out.below b2
 have R2:=R1.below b2 (by omega)
 have z2:=b2.size
 have c20:=R2.cell 0 _ rfl
 have c21:=R2.cell 1 _ rfl
 have c22:=R2.cell 2 _ rfl
 have c23:=R2.cell 3 _ rfl
 have c24:=R2.cell 4 _ rfl
 have c25:=R2.cell 5 _ rfl
 have c26:=R2.cell 6 _ rfl
 have c27:=R2.cell 7 _ rfl
 have c28:=R2.cell 8 _ rfl
 go_wp2_with (go_at_call 92;fail)
 refine(mrVertAt p S t.v2 w2 L2.out hV rfl).mono ?_
 rintro e w3 ⟨rfl,b3⟩
 have L3:Hid _:=L2.out.below b3
 have R3:=R2.below b3 (by omega)
 have z3:=b3.size
 have c30:=R3.cell 0 _ rfl
 have c31:=R3.cell 1 _ rfl
 have c32:=R3.cell 2 _ rfl
 have c33:=R3.cell 3 _ rfl
 have c34:=R3.cell 4 _ rfl
 have c35:=R3.cell 5 _ rfl
 have c36:=R3.cell 6 _ rfl
 have c37:=R3.cell 7 _ rfl
 have c38:=R3.cell 8 _ rfl
 go_wp2_with (go_at_call 93;fail)
 refine(mrPlace p S t 0 w3 (by decide) L3.out hV hn hvs ht h0 (ok:=ok0) (X:=X0) (Y:=Y0) Hok0.out HX0.out HY0.out).mono ?_
 rintro e w4 ⟨rfl,b4⟩
 obtain⟨u4,hu4⟩: ∃ u,u=w4.alloc (.cells ([.int .i64 X0, .int .i64 Y0]:List Value).toArray 24):=⟨_,rfl⟩
 have d4:Below w4.heap.size w4 u4:=by rw [hu4];exact(Below.refl _ _).alloc (Nat.le_refl _) _
 have z4:=b4.size
 have y4:u4.heap.size=w4.heap.size+1:=by rw [hu4];simp
 have P0:Row u4 w4.heap.size [.int .i64 X0, .int .i64 Y0]:=by rw [hu4];exact Row.new w4 _ _
 have hv4:w4.alloc (.cells #[.int .i64 X0, .int .i64 Y0] 24)=u4:=hu4.symm
 have L4:Hid _:=(L3.out.below b4).below d4
 have R4:=(R3.below b4 (by omega)).below d4 (by omega)
 have c40:=R4.cell 0 _ rfl
 have c41:=R4.cell 1 _ rfl
 have c42:=R4.cell 2 _ rfl
 have c43:=R4.cell 3 _ rfl
 have c44:=R4.cell 4 _ rfl
 have c45:=R4.cell 5 _ rfl
 have c46:=R4.cell 6 _ rfl
 have c47:=R4.cell 7 _ rfl
 have c48:=R4.cell 8 _ rfl
 have p400:=P0.cell 0 _ rfl
 have p401:=P0.cell 1 _ rfl
 clear hu4
 go_wp2_with (go_at_call 93;fail)
 refine(mrPlace p S t 1 u4 (by decide) L4.out hV hn hvs ht h1 (ok:=ok1) (X:=X1) (Y:=Y1) Hok1.out HX1.out HY1.out).mono ?_
 rintro e w5 ⟨rfl,b5⟩
 obtain⟨u5,hu5⟩: ∃ u,u=w5.alloc (.cells ([.int .i64 X1, .int .i64 Y1]:List Value).toArray 24):=⟨_,rfl⟩
 have d5:Below w5.heap.size w5 u5:=by rw [hu5];exact(Below.refl _ _).alloc (Nat.le_refl _) _
 have z5:=b5.size
 have y5:u5.heap.size=w5.heap.size+1:=by rw [hu5];simp
 have P1:Row u5 w5.heap.size [.int .i64 X1, .int .i64 Y1]:=by rw [hu5];exact Row.new w5 _ _
 have hv5:w5.alloc (.cells #[.int .i64 X1, .int .i64 Y1] 24)=u5:=hu5.symm
 have L5:Hid _:=(L4.out.below b5).below d5
 have R5:=(R4.below b5 (by omega)).below d5 (by omega)
 have P0:=(P0.below b5 (by omega)).below d5 (by omega)
 have c50:=R5.cell 0 _ rfl
 have c51:=R5.cell 1 _ rfl
 have c52:=R5.cell 2 _ rfl
 have c53:=R5.cell 3 _ rfl
 have c54:=R5.cell 4 _ rfl
 have c55:=R5.cell 5 _ rfl
 have c56:=R5.cell 6 _ rfl
 have c57:=R5.cell 7 _ rfl
 have c58:=R5.cell 8 _ rfl
 have p500:=P0.cell 0 _ rfl
 have p501:=P0.cell 1 _ rfl
 have p510:=P1.cell 0 _ rfl
 have p511:=P1.cell 1 _ rfl
 clear hu5
 go_wp2_with (go_at_call 93;fail)
 refine(mrPlace p S t 2 u5 (by decide) L5.out hV hn hvs ht h2 (ok:=ok2) (X:=X2) (Y:=Y2) Hok2.out HX2.out HY2.out).mono ?_
 rintro e w6 ⟨rfl,b6⟩
 obtain⟨u6,hu6⟩: ∃ u,u=w6.alloc (.cells ([.int .i64 X2, .int .i64 Y2]:List Value).toArray 24):=⟨_,rfl⟩
 have d6:Below w6.heap.size w6 u6:=by rw [hu6];exact(Below.refl _ _).alloc (Nat.le_refl _) _
 have z6:=b6.size
 have y6:u6.heap.size=w6.heap.size+1:=by rw [hu6];simp
 have P2:Row u6 w6.heap.size [.int .i64 X2, .int .i64 Y2]:=by rw [hu6];exact Row.new w6 _ _
 have hv6:w6.alloc (.cells #[.int .i64 X2, .int .i64 Y2] 24)=u6:=hu6.symm
 have L6:Hid _:=(L5.out.below b6).below d6
 have R6:=(R5.below b6 (by omega)).below d6 (by omega)
 have P0:=(P0.below b6 (by omega)).below d6 (by omega)
 have P1:=(P1.below b6 (by omega)).below d6 (by omega)
 have c60:=R6.cell 0 _ rfl
 have c61:=R6.cell 1 _ rfl
 have c62:=R6.cell 2 _ rfl
 have c63:=R6.cell 3 _ rfl
 have c64:=R6.cell 4 _ rfl
 have c65:=R6.cell 5 _ rfl
 have c66:=R6.cell 6 _ rfl
 have c67:=R6.cell 7 _ rfl
 have c68:=R6.cell 8 _ rfl
 have p600:=P0.cell 0 _ rfl
 have p601:=P0.cell 1 _ rfl
 have p610:=P1.cell 0 _ rfl
 have p611:=P1.cell 1 _ rfl
 have p620:=P2.cell 0 _ rfl
 have p621:=P2.cell 1 _ rfl
 clear hu6
 subst hok0
 subst hok1
 subst hok2
 go_wp2
 exact bodyPost_ret (v:= .tuple #[.int .i64 (-1), .int .i64 6]) (by simp [results,Tryz.results47,go_sem]) rfl ⟨rfl,(((((((((BW.trans (b1.mono (by omega))).trans (b2.mono (by omega))).trans (b3.mono (by omega))).trans (b4.mono (by omega))).trans (d4.mono (by omega))).trans (b5.mono (by omega))).trans (d5.mono (by omega))).trans (b6.mono (by omega))).trans (d6.mono (by omega)))⟩
set_option maxRecDepth 100000 in
set_option maxHeartbeats 2000000 in
theorem addF6_3(p:Nat)(S:Ms)(t:Tr)(w:World)(h:MeLook p S w)(hV:S.V.length≤1000)(hn:In64 S.n)(hvs: ∀ v∈S.V,Vt64 v)(ht:Tr64 t)(h0:isV S t.v0=true)(h1:isV S t.v1=true)(h2:isV S t.v2=true)(o0:plOk S t 0=true)(o1:plOk S t 1=true)(o2:plOk S t 2=true)(hg:(areaT S t).sign≠1):
  Calls Tryz.prog 47 #[ptR p,trV t] w fun e w'=>e= .returned (.tuple #[.int .i64 (-1), .int .i64 6])∧Below w.heap.size w w':=by
 obtain⟨W,hW⟩: ∃ W,W=w.alloc (.cells (trC t).toArray 49):=⟨_,rfl⟩
 have BW:Below w.heap.size w W:=by rw [hW];exact(Below.refl _ _).alloc (Nat.le_refl _) _
 have zW:W.heap.size=w.heap.size+1:=by rw [hW];simp
 have R0:Row W w.heap.size (trC t):=by rw [hW];exact Row.new w (trC t) _
 have hW':w.alloc (.cells #[.int .i64 t.v0, .int .i64 t.v1, .int .i64 t.v2, .int .i64 t.x0, .int .i64 t.y0, .int .i64 t.x1, .int .i64 t.y1, .int .i64 t.x2, .int .i64 t.y2] 49)=W:=hW.symm
 have L0:Hid _:=h.below BW
 have c0:=R0.cell 0 _ rfl
 have c1:=R0.cell 1 _ rfl
 have c2:=R0.cell 2 _ rfl
 have c3:=R0.cell 3 _ rfl
 have c4:=R0.cell 4 _ rfl
 have c5:=R0.cell 5 _ rfl
 have c6:=R0.cell 6 _ rfl
 have c7:=R0.cell 7 _ rfl
 have c8:=R0.cell 8 _ rfl
 clear h hW
 have k0:=isV_yes h0
 have d0:decide (fAt Vt.no t.v0 S.V 0<0)=false:=decide_eq_false (by omega)
 obtain⟨ok0,hok0,Hok0⟩: ∃ ok,ok=true∧Hid (ok=plOk S t 0):=⟨_,rfl,o0.symm⟩
 obtain⟨X0,HX0⟩: ∃ X,Hid (X=plX S t 0):=⟨_,rfl⟩
 obtain⟨Y0,HY0⟩: ∃ X,Hid (X=plY S t 0):=⟨_,rfl⟩
 have k1:=isV_yes h1
 have d1:decide (fAt Vt.no t.v1 S.V 0<0)=false:=decide_eq_false (by omega)
 obtain⟨ok1,hok1,Hok1⟩: ∃ ok,ok=true∧Hid (ok=plOk S t 1):=⟨_,rfl,o1.symm⟩
 obtain⟨X1,HX1⟩: ∃ X,Hid (X=plX S t 1):=⟨_,rfl⟩
 obtain⟨Y1,HY1⟩: ∃ X,Hid (X=plY S t 1):=⟨_,rfl⟩
 have k2:=isV_yes h2
 have d2:decide (fAt Vt.no t.v2 S.V 0<0)=false:=decide_eq_false (by omega)
 obtain⟨ok2,hok2,Hok2⟩: ∃ ok,ok=true∧Hid (ok=plOk S t 2):=⟨_,rfl,o2.symm⟩
 obtain⟨X2,HX2⟩: ∃ X,Hid (X=plX S t 2):=⟨_,rfl⟩
 obtain⟨Y2,HY2⟩: ∃ X,Hid (X=plY S t 2):=⟨_,rfl⟩
 go_enter Tryz.func47,Tryz.ntmps47
 go_wp2_with (go_at_call 92;fail)
 refine(mrVertAt p S t.v0 W L0.out hV rfl).mono ?_
 rintro e w1 ⟨rfl,b1⟩
 have L1:Hid _:=L0.out.below b1
 have R1:=R0.below b1 (by omega)
 have z1:=b1.size
 have c10:=R1.cell 0 _ rfl
 have c11:=R1.cell 1 _ rfl
 have c12:=R1.cell 2 _ rfl
 have c13:=R1.cell 3 _ rfl
 have c14:=R1.cell 4 _ rfl
 have c15:=R1.cell 5 _ rfl
 have c16:=R1.cell 6 _ rfl
 have c17:=R1.cell 7 _ rfl
 have c18:=R1.cell 8 _ rfl
 go_wp2_with (go_at_call 92;fail)
 refine(mrVertAt p S t.v1 w1 L1.out hV rfl).mono ?_
 rintro e w2 ⟨rfl,b2⟩
 have L2:Hid _:=L1.out.below b2
 have R2:=R1.below b2 (by omega)
 have z2:=b2.size
 have c20:=R2.cell 0 _ rfl
 have c21:=R2.cell 1 _ rfl
 have c22:=R2.cell 2 _ rfl
 have c23:=R2.cell 3 _ rfl
 have c24:=R2.cell 4 _ rfl
 have c25:=R2.cell 5 _ rfl
 have c26:=R2.cell 6 _ rfl
 have c27:=R2.cell 7 _ rfl
 have c28:=R2.cell 8 _ rfl
 go_wp2_with (go_at_call 92;fail)
 refine(mrVertAt p S t.v2 w2 L2.out hV rfl).mono ?_
 rintro e w3 ⟨rfl,b3⟩
 have L3:Hid _:=L2.out.below b3
 have R3:=R2.below b3 (by omega)
 have z3:=b3.size
 have c30:=R3.cell 0 _ rfl
 have c31:=R3.cell 1 _ rfl
 have c32:=R3.cell 2 _ rfl
 have c33:=R3.cell 3 _ rfl
 have c34:=R3.cell 4 _ rfl
 have c35:=R3.cell 5 _ rfl
 have c36:=R3.cell 6 _ rfl
 have c37:=R3.cell 7 _ rfl
 have c38:=R3.cell 8 _ rfl
 go_wp2_with (go_at_call 93;fail)
 refine(mrPlace p S t 0 w3 (by decide) L3.out hV hn hvs ht h0 (ok:=ok0) (X:=X0) (Y:=Y0) Hok0.out HX0.out HY0.out).mono ?_
 rintro e w4 ⟨rfl,b4⟩
 obtain⟨u4,hu4⟩: ∃ u,u=w4.alloc (.cells ([.int .i64 X0, .int .i64 Y0]:List Value).toArray 24):=⟨_,rfl⟩
 have d4:Below w4.heap.size w4 u4:=by rw [hu4];exact(Below.refl _ _).alloc (Nat.le_refl _) _
 have z4:=b4.size
 have y4:u4.heap.size=w4.heap.size+1:=by rw [hu4];simp
 have P0:Row u4 w4.heap.size [.int .i64 X0, .int .i64 Y0]:=by rw [hu4];exact Row.new w4 _ _
 have hv4:w4.alloc (.cells #[.int .i64 X0, .int .i64 Y0] 24)=u4:=hu4.symm
 have L4:Hid _:=(L3.out.below b4).below d4
 have R4:=(R3.below b4 (by omega)).below d4 (by omega)
 have c40:=R4.cell 0 _ rfl
 have c41:=R4.cell 1 _ rfl
 have c42:=R4.cell 2 _ rfl
 have c43:=R4.cell 3 _ rfl
 have c44:=R4.cell 4 _ rfl
 have c45:=R4.cell 5 _ rfl
 have c46:=R4.cell 6 _ rfl
 have c47:=R4.cell 7 _ rfl
 have c48:=R4.cell 8 _ rfl
 have p400:=P0.cell 0 _ rfl
 have p401:=P0.cell 1 _ rfl
 clear hu4
 go_wp2_with (go_at_call 93;fail)
 refine(mrPlace p S t 1 u4 (by decide) L4.out hV hn hvs ht h1 (ok:=ok1) (X:=X1) (Y:=Y1) Hok1.out HX1.out HY1.out).mono ?_
 rintro e w5 ⟨rfl,b5⟩
 obtain⟨u5,hu5⟩: ∃ u,u=w5.alloc (.cells ([.int .i64 X1, .int .i64 Y1]:List Value).toArray 24):=⟨_,rfl⟩
 have d5:Below w5.heap.size w5 u5:=by rw [hu5];exact(Below.refl _ _).alloc (Nat.le_refl _) _
 have z5:=b5.size
 have y5:u5.heap.size=w5.heap.size+1:=by rw [hu5];simp
 have P1:Row u5 w5.heap.size [.int .i64 X1, .int .i64 Y1]:=by rw [hu5];exact Row.new w5 _ _
 have hv5:w5.alloc (.cells #[.int .i64 X1, .int .i64 Y1] 24)=u5:=hu5.symm
 have L5:Hid _:=(L4.out.below b5).below d5
 have R5:=(R4.below b5 (by omega)).below d5 (by omega)
 have P0:=(P0.below b5 (by omega)).below d5 (by omega)
 have c50:=R5.cell 0 _ rfl
 have c51:=R5.cell 1 _ rfl
 have c52:=R5.cell 2 _ rfl
 have c53:=R5.cell 3 _ rfl
 have c54:=R5.cell 4 _ rfl
 have c55:=R5.cell 5 _ rfl
 have c56:=R5.cell 6 _ rfl
 have c57:=R5.cell 7 _ rfl
 have c58:=R5.cell 8 _ rfl
 have p500:=P0.cell 0 _ rfl
 have p501:=P0.cell 1 _ rfl
 have p510:=P1.cell 0 _ rfl
 have p511:=P1.cell 1 _ rfl
 clear hu5
 go_wp2_with (go_at_call 93;fail)
 refine(mrPlace p S t 2 u5 (by decide) L5.out hV hn hvs ht h2 (ok:=ok2) (X:=X2) (Y:=Y2) Hok2.out HX2.out HY2.out).mono ?_
 rintro e w6 ⟨rfl,b6⟩
 obtain⟨u6,hu6⟩: ∃ u,u=w6.alloc (.cells ([.int .i64 X2, .int .i64 Y2]:List Value).toArray 24):=⟨_,rfl⟩
 have d6:Below w6.heap.size w6 u6:=by rw [hu6];exact(Below.refl _ _).alloc (Nat.le_refl _) _
 have z6:=b6.size
 have y6:u6.heap.size=w6.heap.size+1:=by rw [hu6];simp
 have P2:Row u6 w6.heap.size [.int .i64 X2, .int .i64 Y2]:=by rw [hu6];exact Row.new w6 _ _
 have hv6:w6.alloc (.cells #[.int .i64 X2, .int .i64 Y2] 24)=u6:=hu6.symm
 have L6:Hid _:=(L5.out.below b6).below d6
 have R6:=(R5.below b6 (by omega)).below d6 (by omega)
 have P0:=(P0.below b6 (by omega)).below d6 (by omega)
 have P1:=(P1.below b6 (by omega)).below d6 (by omega)
 have c60:=R6.cell 0 _ rfl
 have c61:=R6.cell 1 _ rfl
 have c62:=R6.cell 2 _ rfl
 have c63:=R6.cell 3 _ rfl
 have c64:=R6.cell 4 _ rfl
 have c65:=R6.cell 5 _ rfl
 have c66:=R6.cell 6 _ rfl
 have c67:=R6.cell 7 _ rfl
 have c68:=R6.cell 8 _ rfl
 have p600:=P0.cell 0 _ rfl
 have p601:=P0.cell 1 _ rfl
 have p610:=P1.cell 0 _ rfl
 have p611:=P1.cell 1 _ rfl
 have p620:=P2.cell 0 _ rfl
 have p621:=P2.cell 1 _ rfl
 clear hu6
 subst hok0
 subst hok1
 subst hok2
 obtain⟨g,HG,hg'⟩: ∃ g,Hid (g=(areaP X0 Y0 X1 Y1 X2 Y2).sign)∧ ¬g=1:=⟨_,rfl,by rw [HX0.out,HY0.out,HX1.out,HY1.out,HX2.out,HY2.out];exact hg⟩
 clear hg
 go_wp2_with (go_at_call 45;fail)
 refine(rpOrient X0 Y0 X1 Y1 X2 Y2 u6 (by rw [HX0.out,HY0.out];exact plOk_can o0) (by rw [HX1.out,HY1.out];exact plOk_can o1) (by rw [HX2.out,HY2.out];exact plOk_can o2) (g:=g) HG.out).mono ?_
 rintro e w7 ⟨rfl,b7⟩
 go_wp2
 exact bodyPost_ret (v:= .tuple #[.int .i64 (-1), .int .i64 6]) (by simp [results,Tryz.results47,go_sem]) rfl ⟨rfl,((((((((((BW.trans (b1.mono (by omega))).trans (b2.mono (by omega))).trans (b3.mono (by omega))).trans (b4.mono (by omega))).trans (d4.mono (by omega))).trans (b5.mono (by omega))).trans (d5.mono (by omega))).trans (b6.mono (by omega))).trans (d6.mono (by omega))).trans (b7.mono (by omega)))⟩
end Go.Proofs.YtaadknpjbogkbaaGreat
