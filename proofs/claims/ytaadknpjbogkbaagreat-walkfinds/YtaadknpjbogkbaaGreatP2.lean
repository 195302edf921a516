/-
  Joined texts, part 2:
  Points over a torus: which can be, where they lie, in which order. It imports nothing of t
  Areas, squares of distances, the circle's determinant: how great they are, what becomes of
  Meshes as lists: vertices and faces by their numbers, edges, what is put and taken. It imp
  Meshes as lists: what stays true of them, whatever is put and taken. It imports nothing of
  Slices of elements of several cells in memory of one's own: what is kept, append onto them
  What zelligeref10's in, Without and Ints answer.
  What zelligeref10's Live, Take and Free do.
  What zelligeref10's Free does, and what its All and Ints answer.
  The document's mesh in memory; what zelligeref11's VertAt, FaceAt, Has and Around answer.
  Blocks of three and of four cells: what they hold, and that they can be written.
  Blocks of two to four cells, made one behind the other, and what they hold behind a store 
  What package whole's Small answers.
-/
import Derived.Test.YtaadknpjbogkbaaGreatP1
namespace Go.Proofs.YtaadknpjbogkbaaGreat
open Go.RowKit
set_option linter.unusedVariables false
theorem bd_i64{x:Int}(h:(Lit.int .i64 x).wf=true): -9223372036854775808≤x∧x≤9223372036854775807:=by
 simp [Lit.wf,IntKind.min,IntKind.max,IntKind.signed,IntKind.bits]at h
 exact⟨by omega,by omega⟩
def inC(c:Int):Bool:=decide (-1099511627776≤c∧c≤1099511627776)
def sideC(s:Int):Bool:=decide (1≤s∧s≤1099511627776)
def canC(x y:Int):Bool:=inC x && inC y
def atC(x y i k s:Int):Bool:=sideC s && (canC x y && (inC (x+i*s) && inC (y+k*s)))
def homeC(x y s:Int):Bool:=sideC s && canC x y
theorem inC_true{c:Int}:inC c=true↔(-1099511627776≤c∧c≤1099511627776):=by unfold inC;exact decide_eq_true_iff
theorem inC_false{c:Int}:inC c=false↔ ¬(-1099511627776≤c∧c≤1099511627776):=by unfold inC;exact decide_eq_false_iff_not
theorem sideC_true{s:Int}:sideC s=true↔(1≤s∧s≤1099511627776):=by unfold sideC;exact decide_eq_true_iff
theorem canC_true{x y:Int}:canC x y=true↔(inC x=true∧inC y=true):=by unfold canC;exact Bool.and_eq_true_iff
theorem atC_true{x y i k s:Int}:atC x y i k s=true↔(sideC s=true∧canC x y=true∧inC (x+i*s)=true∧inC (y+k*s)=true):=by unfold atC;rw [Bool.and_eq_true_iff,Bool.and_eq_true_iff,Bool.and_eq_true_iff]
def reachC(i s:Int):Bool:=decide (-(2199023255552/s)≤i∧i≤2199023255552/s)
theorem reach_prod{i s:Int}(hs:sideC s=true)(h:reachC i s=true): -2199023255552≤i*s∧i*s≤2199023255552:=by
 obtain⟨s1,s2⟩:=sideC_true.1 hs
 obtain⟨h1,h2⟩:=decide_eq_true_iff.1 h
 have e:=Int.mul_ediv_add_emod 2199023255552 s
 have m:=Int.emod_nonneg 2199023255552 (b:=s) (by omega)
 have p1:i*s≤2199023255552/s*s:=Int.mul_le_mul_of_nonneg_right h2 (by omega)
 have p2: -(2199023255552/s)*s≤i*s:=Int.mul_le_mul_of_nonneg_right h1 (by omega)
 rw [Int.neg_mul]at p2
 rw [Int.mul_comm]at e
 exact⟨by omega,by omega⟩
theorem reach_in{x i s:Int}(hs:sideC s=true)(hx:inC x=true)(h:inC (x+i*s)=true):reachC i s=true:=by
 obtain⟨s1,s2⟩:=sideC_true.1 hs
 obtain⟨x1,x2⟩:=inC_true.1 hx
 obtain⟨h1,h2⟩:=inC_true.1 h
 refine decide_eq_true_iff.2 ⟨?_,?_⟩
 ·have: -i≤2199023255552/s:=(Int.le_ediv_iff_mul_le (by omega)).2 (by rw [Int.neg_mul];omega)
  omega
 ·exact(Int.le_ediv_iff_mul_le (by omega)).2 (by omega)
theorem wrap_in{x:Int}(h1: -9223372036854775808≤x)(h2:x≤9223372036854775807):wrap64 x=x:=by unfold wrap64;omega
theorem wrap_i64(x:Int):IntKind.i64.wrap x=wrap64 x:=by unfold wrap64;simp [IntKind.wrap,IntKind.signed,IntKind.bits];try omega
theorem tdiv_big{s:Int}(hs:0<s):(2199023255552:Int).tdiv s=2199023255552/s:=Int.tdiv_eq_ediv_of_nonneg (by decide)
theorem fold_neg{c s:Int}(hs:0<s)(h:c.tmod s<0):c.tmod s+s=c % s∧c.tdiv s- 1=c/s:=by
 have e:=Int.mul_tdiv_add_tmod c s
 have l:=Int.lt_tmod_of_pos c hs
 have u:(c.tdiv s- 1)=c/s:=by
  refine((Int.ediv_emod_unique hs (a:=c) (r:=c.tmod s+s) (q:=c.tdiv s- 1)).2 ⟨?_,by omega,by omega⟩).1.symm
  rw [Int.mul_sub,Int.mul_one];omega
 refine⟨?_,u⟩
 exact((Int.ediv_emod_unique hs (a:=c) (r:=c.tmod s+s) (q:=c.tdiv s- 1)).2 ⟨by rw [Int.mul_sub,Int.mul_one];omega,by omega,by omega⟩).2.symm
theorem fold_pos{c s:Int}(hs:0<s)(h: ¬c.tmod s<0):c.tmod s=c % s∧c.tdiv s=c/s:=by
 have e:=Int.mul_tdiv_add_tmod c s
 have l:=Int.tmod_lt_of_pos c hs
 have:=(Int.ediv_emod_unique hs (a:=c) (r:=c.tmod s) (q:=c.tdiv s)).2 ⟨by omega,by omega,by omega⟩
 exact⟨this.2.symm,this.1.symm⟩
theorem flQ_ediv(x s:Int)(hs:0<s):flQ x s=x/s∧flR x s=x % s:=by
 obtain⟨D,rfl⟩:=Int.eq_ofNat_of_zero_le (Int.le_of_lt hs)
 have hD:0<D:=by omega
 have key:flQ x D*D≤x∧x<flQ x D*D+D:=by
  have e:=Nat.div_add_mod x.natAbs D
  have hr:=Nat.mod_lt x.natAbs hD
  unfold flQ
  rw [Int.natAbs_natCast,Int.sign_natCast_of_ne_zero (by omega),Int.mul_one]
  generalize hq:x.natAbs/D=q at e ⊢
  generalize hm:x.natAbs % D=r at e hr ⊢
  have e2:(x.natAbs:Int)=(q:Int)*D+r:=by rw [←e,Nat.mul_comm];simp
  clear hq hm e
  generalize hp:(q:Int)*D=p at e2
  rcases Int.lt_trichotomy x 0 with h|h|h
  ·rw [Int.sign_eq_neg_one_of_neg h]
   by_cases h0:r=0
   ·rw [if_neg (by omega),Int.sub_zero,Int.neg_mul,Int.one_mul,Int.neg_mul,hp];omega
   ·rw [if_pos (by omega),Int.sub_mul,Int.one_mul,Int.neg_mul,Int.one_mul,Int.neg_mul,hp];omega
  ·subst h;rw [Int.sign_zero,if_neg (by omega),Int.sub_zero,Int.zero_mul,Int.zero_mul];omega
  ·rw [Int.sign_eq_one_of_pos h,if_neg (by omega),Int.sub_zero,Int.one_mul,hp];omega
 have:=(Int.ediv_emod_unique hs (a:=x) (r:=flR x D) (q:=flQ x D)).2 ⟨by unfold flR;rw [Int.mul_comm];omega,by unfold flR;omega,by unfold flR;omega⟩
 exact⟨this.1.symm,this.2.symm⟩
def areaP(ax ay bx by' cx cy:Int):Int:=(bx- ax)*(cy- ay)- (by'- ay)*(cx- ax)
theorem area_turn(ax ay bx by' cx cy:Int):areaP bx by' cx cy ax ay=areaP ax ay bx by' cx cy:=by unfold areaP;grind
theorem area_moved(ax ay bx by' cx cy u v:Int):areaP (ax+u) (ay+v) (bx+u) (by'+v) (cx+u) (cy+v)=areaP ax ay bx by' cx cy:=by
 unfold areaP;rw [Int.add_sub_add_right,Int.add_sub_add_right,Int.add_sub_add_right,Int.add_sub_add_right]
theorem prod_abs{x y:Int}{A B:Nat}(hx:x.natAbs≤A)(hy:y.natAbs≤B):(x*y).natAbs≤A*B:=by
 rw [Int.natAbs_mul];exact Nat.mul_le_mul hx hy
theorem cross_abs{p q r s:Int}{D:Nat}(h1:p.natAbs≤D)(h2:q.natAbs≤D)(h3:r.natAbs≤D)(h4:s.natAbs≤D):(p*q- r*s).natAbs≤2*(D*D):=by
 have a:=prod_abs h1 h2
 have b:=prod_abs h3 h4
 omega
theorem area_abs{ax ay bx by' cx cy:Int}{D:Nat}(h1:(bx- ax).natAbs≤D)(h2:(by'- ay).natAbs≤D)(h3:(cx- ax).natAbs≤D)(h4:(cy- ay).natAbs≤D):(areaP ax ay bx by' cx cy).natAbs≤2*(D*D):=cross_abs h1 h4 h2 h3
theorem can_diff{x y:Int}(hx:inC x=true)(hy:inC y=true):(x- y).natAbs≤2199023255552:=by
 have:=inC_true.1 hx
 have:=inC_true.1 hy
 omega
theorem cmp_sign(x:Int):cmpI x 0=x.sign:=by
 unfold cmpI
 rcases Int.lt_trichotomy x 0 with h|h|h
 ·rw [if_pos h,Int.sign_eq_neg_one_of_neg h]
 ·subst h;rfl
 ·rw [if_neg (by omega),if_pos h,Int.sign_eq_one_of_pos h]
def whereP(o x y z:Int):Int:=if o≠1 then 0 else if x<0∨y<0∨z<0 then -1 else if x=0∨y=0∨z=0 then 1 else 2
structure Ar where
 L:List Int
 B:List Int
 T:Nat
def Ar.num(A:Ar):Int:=tkN A.B A.T
def Ar.took(A:Ar):Ar:=⟨A.L++ [A.num],A.B.dropLast,tkT A.B A.T⟩
def Ar.freed(A:Ar)(n:Int):Ar:=⟨A.L.filter (fun y=>decide (y≠n)),A.B++ [n],A.T⟩
structure Vt where
 no:Int
 x:Int
 y:Int
 id:Int
structure Tr where
 v0:Int
 v1:Int
 v2:Int
 x0:Int
 y0:Int
 x1:Int
 y1:Int
 x2:Int
 y2:Int
structure Ce where
 no:Int
 t:Tr
def Tr.v(t:Tr)(i:Nat):Int:=if i=0 then t.v0 else if i=1 then t.v1 else t.v2
def Tr.x(t:Tr)(i:Nat):Int:=if i=0 then t.x0 else if i=1 then t.x1 else t.x2
def Tr.y(t:Tr)(i:Nat):Int:=if i=0 then t.y0 else if i=1 then t.y1 else t.y2
def nx(i:Nat):Nat:=(i+1) % 3
def trL(t:Tr):List Int:= [t.v0,t.v1,t.v2,t.x0,t.y0,t.x1,t.y1,t.x2,t.y2]
structure Ms where
 n:Int
 av:Ar
 af:Ar
 V:List Vt
 C:List Ce
def fAt{α:Type}(f:α→Int)(v:Int):List α→Int→Int
 | [],_=> -1
 |a::l,k=>if f a=v then k else fAt f v l (k+1)
theorem fAt_drop{α:Type}{f:α→Int}{v:Int}{L:List α}{k:Nat}{a:α}(h:L[k]? =some a):fAt f v (L.drop k) (k:Int)=if f a=v then(k:Int)else fAt f v (L.drop (k+1)) ((k+1:Nat):Int):=by
 obtain⟨hk,he⟩:=List.getElem?_eq_some_iff.1 h
 rw [List.drop_eq_getElem_cons hk,he]
 rfl
theorem fAt_spec{α:Type}(f:α→Int)(v:Int)(L:List α)(k:Int)(hk:0≤k):(fAt f v L k= -1∧ ∀ a∈L,f a≠v)∨ ∃ (i:Nat) (a:α),fAt f v L k=k+i∧L[i]? =some a∧f a=v:=by
 induction L generalizing k with
 |nil=>exact Or.inl ⟨rfl,fun a h=>by cases h⟩
 |cons b L ih=>
  by_cases e:f b=v
  ·exact Or.inr ⟨0,b,by rw [fAt,if_pos e];simp,rfl,e⟩
  ·rcases ih (k+1) (by omega)with⟨h1,h2⟩|⟨i,a,h1,h2,h3⟩
   ·refine Or.inl ⟨by rw [fAt,if_neg e];exact h1,fun a ha=>?_⟩
    rcases List.mem_cons.1 ha with rfl|ha
    ·exact e
    ·exact h2 a ha
   ·exact Or.inr ⟨i+1,a,by rw [fAt,if_neg e,h1];omega,by simpa using h2,h3⟩
theorem fAt_cases{α:Type}(f:α→Int)(v:Int)(L:List α):(fAt f v L 0= -1∧ ∀ a∈L,f a≠v)∨ ∃ (i:Nat) (a:α),fAt f v L 0=(i:Int)∧L[i]? =some a∧f a=v:=by
 rcases fAt_spec f v L 0 (by omega)with h|⟨i,a,h1,h⟩
 ·exact Or.inl h
 ·exact Or.inr ⟨i,a,by rw [h1];omega,h⟩
def insBy{α:Type}(f:α→Int)(x:α):List α→List α
 | []=> [x]
 |a::l=>if f x<f a then x::a::l else a::insBy f x l
theorem insBy_drop{α:Type}{f:α→Int}{x:α}{L:List α}{k:Nat}{a:α}(h:L[k]? =some a):insBy f x (L.drop k)=if f x<f a then x::L.drop k else a::insBy f x (L.drop (k+1)):=by
 obtain⟨hk,he⟩:=List.getElem?_eq_some_iff.1 h
 rw [List.drop_eq_getElem_cons hk,he]
 rfl
theorem insBy_end{α:Type}(f:α→Int)(x:α)(L:List α)(k:Nat)(h:L.length≤k):insBy f x (L.drop k)= [x]:=by rw [List.drop_of_length_le h];rfl
theorem insBy_mem{α:Type}{f:α→Int}{x:α}{L:List α}{y:α}:y∈insBy f x L↔y=x∨y∈L:=by
 induction L with
 |nil=>simp [insBy]
 |cons a L ih=>
  unfold insBy
  split
  ·simp
  ·simp only [List.mem_cons,ih]
   exact⟨fun h=>h.elim (fun h=>Or.inr (Or.inl h)) (fun h=>h.elim Or.inl (fun h=>Or.inr (Or.inr h))),fun h=>h.elim (fun h=>Or.inr (Or.inl h)) (fun h=>h.elim Or.inl (fun h=>Or.inr (Or.inr h)))⟩
def cut{α:Type}(L:List α)(i:Nat):List α:=L.take i++L.drop (i+1)
def has(t:Tr)(v:Int):Bool:=decide (t.v0=v∨t.v1=v∨t.v2=v)
def around(C:List Ce)(v:Int):List Int:=(C.filter (fun c=>has c.t v)).map (fun c=>c.no)
theorem around_take{C:List Ce}{k:Nat}{c:Ce}{v:Int}(h:C[k]? =some c):around (C.take (k+1)) v=around (C.take k) v++(if has c.t v=true then [c.no]else []):=by
 unfold around
 rw [List.take_add_one,h,List.filter_append,List.map_append]
 cases hh:has c.t v<;>simp [hh]
def same(a:Tr)(i:Nat)(b:Tr)(k:Nat):Bool:=decide (a.v i=b.v k∧a.v (nx i)=b.v (nx k)∧a.x (nx i)- a.x i=b.x (nx k)- b.x k∧a.y (nx i)- a.y i=b.y (nx k)- b.y k)
def opp(a:Tr)(i:Nat)(b:Tr)(k:Nat):Bool:=decide (a.v i=b.v (nx k)∧a.v (nx i)=b.v k∧a.x (nx i)- a.x i=b.x k- b.x (nx k)∧a.y (nx i)- a.y i=b.y k- b.y (nx k))
def twin(t:Tr)(c:Ce)(x:Nat):Bool:=same t (x/3) c.t (x % 3)
def there(t:Tr)(C:List Ce):Bool:=C.any fun c=>(List.range 9).any fun x=>twin t c x
theorem there_drop{t:Tr}{C:List Ce}{k:Nat}{c:Ce}(h:C[k]? =some c):there t (C.drop k)=((List.range 9).any (fun x=>twin t c x)||there t (C.drop (k+1))):=by
 obtain⟨hk,he⟩:=List.getElem?_eq_some_iff.1 h
 rw [List.drop_eq_getElem_cons hk,he]
 rfl
def pos(V:List Vt)(v:Int):Int×Int:=match V.find? (fun a=>decide (a.no=v))with|some a=>(a.x,a.y)|none=>(0,0)
theorem pos_at{V:List Vt}{v:Int}{i:Nat}{a:Vt}(h:fAt Vt.no v V 0=(i:Int))(ha:V[i]? =some a):pos V v=(a.x,a.y):=by
 suffices H: ∀ (V:List Vt) (k:Int) (i:Nat),0≤k→fAt Vt.no v V k=k+(i:Int)→V[i]? =some a→V.find? (fun a=>decide (a.no=v))=some a by
  unfold pos
  rw [H V 0 i (by omega) (by omega) ha]
 intro V
 induction V with
 |nil=>intro k i _ h;simp [fAt]at h;omega
 |cons b V ih=>
  intro k i hk h ha
  unfold fAt at h
  by_cases e:b.no=v
  ·rw [if_pos e]at h
   obtain rfl:i=0:=by omega
   simp only [List.getElem?_cons_zero,Option.some.injEq]at ha
   subst ha
   simp [e]
  ·rw [if_neg e]at h
   cases i with
   |zero=>
    rcases fAt_spec Vt.no v V (k+1) (by omega)with⟨h1,_⟩|⟨j,_,h1,_⟩<;>omega
   |succ i=>
    simp only [e,decide_false,Bool.false_eq_true,not_false_eq_true,List.find?_cons_of_neg]
    exact ih (k+1) i (by omega) (by omega) (by simpa using ha)
def plOk(S:Ms)(t:Tr)(i:Nat):Bool:=atC (pos S.V (t.v i)).1 (pos S.V (t.v i)).2 (t.x i) (t.y i) S.n
def plX(S:Ms)(t:Tr)(i:Nat):Int:=if plOk S t i then(pos S.V (t.v i)).1+t.x i*S.n else 0
def plY(S:Ms)(t:Tr)(i:Nat):Int:=if plOk S t i then(pos S.V (t.v i)).2+t.y i*S.n else 0
def isV(S:Ms)(v:Int):Bool:=decide (0≤fAt Vt.no v S.V 0)
def isF(S:Ms)(f:Int):Bool:=decide (0≤fAt Ce.no f S.C 0)
def areaT(S:Ms)(t:Tr):Int:=areaP (plX S t 0) (plY S t 0) (plX S t 1) (plY S t 1) (plX S t 2) (plY S t 2)
def fErr(S:Ms)(t:Tr):Int:=
 if isV S t.v0=false∨isV S t.v1=false∨isV S t.v2=false then 1
 else if plOk S t 0=false∨plOk S t 1=false∨plOk S t 2=false∨(areaT S t).sign≠1∨there t S.C=true then 6 else 0
def inSq(S:Ms)(x y:Int):Bool:=decide (0≤x∧x<S.n∧0≤y∧y<S.n)
def Ms.addV(S:Ms)(x y id:Int):Ms:={ S with av:=S.av.took,V:=insBy Vt.no ⟨S.av.num,x,y,id⟩ S.V }
def Ms.addF(S:Ms)(t:Tr):Ms:={ S with af:=S.af.took,C:=insBy Ce.no ⟨S.af.num,t⟩ S.C }
def Ms.dropV(S:Ms)(v:Int)(i:Nat):Ms:={ S with av:=S.av.freed v,V:=cut S.V i }
def Ms.dropF(S:Ms)(f:Int)(i:Nat):Ms:={ S with af:=S.af.freed f,C:=cut S.C i }
def acr(t:Tr)(a:Nat):List Ce→Option (Ce×Nat)
 | []=>none
 |c::l=>if opp t a c.t 0=true then some (c,0)else if opp t a c.t 1=true then some (c,1)else if opp t a c.t 2=true then some (c,2)else acr t a l
def corner(i:Int):Nat:=(i % 3).toNat
def crossed(S:Ms)(f i:Int):Option (Tr×Ce×Nat):=match S.C.find? (fun c=>decide (c.no=f))with
 |none=>none
 |some c=>match acr c.t (nx (corner i)) S.C with
  |none=>none
  |some r=>some (c.t,r)
theorem pos_of{V:List Vt}(hs:V.Pairwise (fun a b=>a.no<b.no)){a:Vt}(ha:a∈V):pos V a.no=(a.x,a.y):=by
 unfold pos
 induction V with
 |nil=>cases ha
 |cons b V ih=>
  rw [List.pairwise_cons]at hs
  rcases List.mem_cons.1 ha with rfl|h
  ·simp
  ·have hne: ¬b.no=a.no:=by have:=hs.1 a h;omega
   rw [List.find?_cons_of_neg (by simpa using hne)]
   exact ih hs.2 h
theorem isV_iff{S:Ms}{v:Int}:isV S v=true↔ ∃ a∈S.V,a.no=v:=by
 unfold isV
 rw [decide_eq_true_iff]
 rcases fAt_cases Vt.no v S.V with⟨h1,h2⟩|⟨i,a,h1,h2,h3⟩
 ·rw [h1]
  exact⟨fun h=>absurd h (by decide),fun⟨a,ha,e⟩=>absurd e (h2 a ha)⟩
 ·rw [h1]
  exact⟨fun _=>⟨a,List.mem_of_getElem? h2,h3⟩,fun _=>by omega⟩
theorem isF_iff{S:Ms}{v:Int}:isF S v=true↔ ∃ a∈S.C,a.no=v:=by
 unfold isF
 rw [decide_eq_true_iff]
 rcases fAt_cases Ce.no v S.C with⟨h1,h2⟩|⟨i,a,h1,h2,h3⟩
 ·rw [h1]
  exact⟨fun h=>absurd h (by decide),fun⟨a,ha,e⟩=>absurd e (h2 a ha)⟩
 ·rw [h1]
  exact⟨fun _=>⟨a,List.mem_of_getElem? h2,h3⟩,fun _=>by omega⟩
theorem insBy_perm{α:Type}(f:α→Int)(x:α)(L:List α):(insBy f x L).Perm (x::L):=by
 induction L with
 |nil=>exact List.Perm.refl _
 |cons a L ih=>
  unfold insBy
  split
  ·exact List.Perm.refl _
  ·exact(ih.cons a).trans (List.Perm.swap x a L)
theorem insBy_sorted{α:Type}{f:α→Int}{x:α}{L:List α}(hs:L.Pairwise (fun a b=>f a<f b))(hx: ∀ a∈L,f a≠f x):(insBy f x L).Pairwise (fun a b=>f a<f b):=by
 induction L with
 |nil=>simp [insBy]
 |cons a L ih=>
  rw [List.pairwise_cons]at hs
  unfold insBy
  split
  ·rename_i h
   refine List.pairwise_cons.2 ⟨fun b hb=>?_,List.pairwise_cons.2 hs⟩
   rcases List.mem_cons.1 hb with rfl|hb
   ·exact h
   ·have:=hs.1 b hb;omega
  ·rename_i h
   refine List.pairwise_cons.2 ⟨fun b hb=>?_,ih hs.2 (fun b hb=>hx b (List.mem_cons_of_mem _ hb))⟩
   rcases insBy_mem.1 hb with rfl|hb
   ·have:=hx a List.mem_cons_self;omega
   ·exact hs.1 b hb
theorem cut_sub{α:Type}(L:List α)(i:Nat):(cut L i).Sublist L:=by
 have h:(L.take i++L.drop (i+1)).Sublist (L.take i++L.drop i):=List.Sublist.append (List.Sublist.refl _) (by rw [←List.drop_drop];exact List.drop_sublist _ _)
 rw [List.take_append_drop]at h
 exact h
theorem cut_perm{α:Type}{L:List α}{i:Nat}{a:α}(h:L[i]? =some a):(a::cut L i).Perm L:=by
 obtain⟨hi,he⟩:=List.getElem?_eq_some_iff.1 h
 have e:L=L.take i++a::L.drop (i+1):=by
  rw [←he,←List.drop_eq_getElem_cons hi,List.take_append_drop]
 unfold cut
 conv=>rhs;rw [e]
 exact List.perm_middle.symm
theorem same_symm(a b:Tr)(i k:Nat):same a i b k=same b k a i:=by
 unfold same
 exact decide_eq_decide.2 ⟨fun⟨h1,h2,h3,h4⟩=>⟨h1.symm,h2.symm,h3.symm,h4.symm⟩,fun⟨h1,h2,h3,h4⟩=>⟨h1.symm,h2.symm,h3.symm,h4.symm⟩⟩
theorem there_not{t:Tr}{C:List Ce}(h:there t C=false){c:Ce}(hc:c∈C){i k:Nat}(hi:i<3)(hk:k<3):same t i c.t k=false:=by
 unfold there at h
 rw [List.any_eq_false]at h
 have h1:=h c hc
 rw [Bool.not_eq_true,List.any_eq_false]at h1
 have h2:=h1 (3*i+k) (List.mem_range.2 (by omega))
 unfold twin at h2
 rw [show(3*i+k)/3=i by omega,show(3*i+k) % 3=k by omega]at h2
 simpa using h2
structure MsOk(S:Ms)(m:Nat):Prop where
 n1:1≤S.n∧S.n≤17179869184
 va:ArOk S.av.L S.av.B S.av.T
 fa:ArOk S.af.L S.af.B S.af.T
 vt:S.av.T≤m
 ft:S.af.T≤m
 vp:(S.V.map Vt.no).Perm S.av.L
 fp:(S.C.map Ce.no).Perm S.af.L
 vs:S.V.Pairwise (fun a b=>a.no<b.no)
 fs:S.C.Pairwise (fun a b=>a.no<b.no)
 vq: ∀ a∈S.V,(0≤a.x∧a.x<S.n)∧(0≤a.y∧a.y<S.n)∧(-9223372036854775808≤a.id∧a.id≤9223372036854775807)
 f64: ∀ c∈S.C, ∀ i,(-9223372036854775808≤c.t.v i∧c.t.v i≤9223372036854775807)∧(-9223372036854775808≤c.t.x i∧c.t.x i≤9223372036854775807)∧(-9223372036854775808≤c.t.y i∧c.t.y i≤9223372036854775807)
 fi: ∀ c∈S.C, ∀ i,i<3→isV S (c.t.v i)=true
 fo: ∀ c∈S.C, ∀ i,i<3→plOk S c.t i=true
 fl: ∀ c∈S.C,(areaT S c.t).sign=1
 fe: ∀ c∈S.C, ∀ c'∈S.C, ∀ i k,i<3→k<3→same c.t i c'.t k=true→c=c'∧i=k
section
variable {S : Ms} {m : Nat}
theorem MsOk.mono(h:MsOk S m){m':Nat}(hm:m≤m'):MsOk S m':={ h with vt:=Nat.le_trans h.vt hm,ft:=Nat.le_trans h.ft hm }
theorem MsOk.lens(h:MsOk S m):S.V.length≤m∧S.C.length≤m∧S.av.L.length≤m∧S.av.B.length≤m∧S.af.L.length≤m∧S.af.B.length≤m:=by
 have h1:=h.vp.length_eq
 have h2:=h.fp.length_eq
 have h3:=h.va.num
 have h4:=h.fa.num
 have h5:=h.vt
 have h6:=h.ft
 simp only [List.length_map]at h1 h2
 omega
theorem MsOk.vmem(h:MsOk S m){a:Vt}(ha:a∈S.V):a.no∈S.av.L∧0≤a.no∧a.no<S.av.T:=by
 have h1:a.no∈S.av.L:=h.vp.mem_iff.1 (List.mem_map_of_mem ha)
 have h2:=h.va.rg _ (List.mem_append_left _ h1)
 exact⟨h1,h2⟩
theorem MsOk.fmem(h:MsOk S m){a:Ce}(ha:a∈S.C):a.no∈S.af.L∧0≤a.no∧a.no<S.af.T:=by
 have h1:a.no∈S.af.L:=h.fp.mem_iff.1 (List.mem_map_of_mem ha)
 have h2:=h.fa.rg _ (List.mem_append_left _ h1)
 exact⟨h1,h2⟩
theorem MsOk.live(h:MsOk S m){v:Int}:v∈S.av.L↔isV S v=true:=by
 rw [isV_iff,←h.vp.mem_iff,List.mem_map]
theorem MsOk.liveF(h:MsOk S m){v:Int}:v∈S.af.L↔isF S v=true:=by
 rw [isF_iff,←h.fp.mem_iff,List.mem_map]
theorem plOk_eq{S':Ms}{t:Tr}{i:Nat}(hn:S'.n=S.n)(hp:pos S'.V (t.v i)=pos S.V (t.v i)):plOk S' t i=plOk S t i∧plX S' t i=plX S t i∧plY S' t i=plY S t i:=by
 have h1:plOk S' t i=plOk S t i:=by unfold plOk;rw [hn,hp]
 refine⟨h1,?_,?_⟩
 ·unfold plX;rw [h1,hn,hp]
 ·unfold plY;rw [h1,hn,hp]
theorem areaT_eq{S':Ms}{t:Tr}(hn:S'.n=S.n)(hp: ∀ i,i<3→pos S'.V (t.v i)=pos S.V (t.v i)):areaT S' t=areaT S t:=by
 unfold areaT
 rw [(plOk_eq hn (hp 0 (by omega))).2.1,(plOk_eq hn (hp 1 (by omega))).2.1,(plOk_eq hn (hp 2 (by omega))).2.1,(plOk_eq hn (hp 0 (by omega))).2.2,(plOk_eq hn (hp 1 (by omega))).2.2,(plOk_eq hn (hp 2 (by omega))).2.2]
theorem MsOk.new(n:Int)(hn:1≤n∧n≤17179869184):MsOk ⟨n,⟨[], [],0⟩,⟨[], [],0⟩, [], []⟩ 0:=
 ⟨hn,ArOk.new,ArOk.new,Nat.le_refl _,Nat.le_refl _,List.Perm.refl _,List.Perm.refl _,List.Pairwise.nil,List.Pairwise.nil,(fun a h=>by cases h),(fun a h=>by cases h),(fun a h=>by cases h),(fun a h=>by cases h),(fun a h=>by cases h),(fun a h=>by cases h)⟩
theorem MsOk.addV(h:MsOk S m){x y id:Int}(hq:inSq S x y=true)(hid: -9223372036854775808≤id∧id≤9223372036854775807):MsOk (S.addV x y id) (m+1):=by
 have htk:=h.va.take
 have hnew: ∀ a∈S.V,a.no≠S.av.num:=fun a ha e=>htk.2 (by have:=(h.vmem ha).1;rw [e]at this;exact this)
 obtain⟨q1,q2,q3,q4⟩:=of_decide_eq_true hq
 have hs':(S.addV x y id).V.Pairwise (fun a b=>a.no<b.no):=insBy_sorted h.vs hnew
 have hpos: ∀ v,isV S v=true→pos (S.addV x y id).V v=pos S.V v:=by
  intro v hv
  obtain⟨a,ha,rfl⟩:=isV_iff.1 hv
  rw [pos_of h.vs ha,pos_of hs' (insBy_mem.2 (Or.inr ha))]
 refine⟨h.n1,htk.1,h.fa,?_,Nat.le_trans h.ft (Nat.le_succ _),?_,h.fp,hs',h.fs,?_,h.f64,?_,?_,?_,h.fe⟩
 ·show tkT S.av.B S.av.T≤m+1
  have:=h.vt
  unfold tkT
  split<;>omega
 ·refine(List.Perm.map _ (insBy_perm _ _ _)).trans ?_
  exact(h.vp.cons _).trans (List.perm_append_comm (l₁:= [S.av.num]) (l₂:=S.av.L))
 ·intro a ha
  rcases insBy_mem.1 ha with rfl|ha
  ·exact⟨⟨q1,q2⟩,⟨q3,q4⟩,hid⟩
  ·exact h.vq a ha
 ·intro c hc i hi
  obtain⟨a,ha,e⟩:=isV_iff.1 (h.fi c hc i hi)
  exact isV_iff.2 ⟨a,insBy_mem.2 (Or.inr ha),e⟩
 ·intro c hc i hi
  rw [(plOk_eq (S:=S) (S':=S.addV x y id) rfl (hpos _ (h.fi c hc i hi))).1]
  exact h.fo c hc i hi
 ·intro c hc
  rw [areaT_eq (S:=S) (S':=S.addV x y id) rfl (fun i hi=>hpos _ (h.fi c hc i hi))]
  exact h.fl c hc
theorem MsOk.dropV(h:MsOk S m){v:Int}{i:Nat}{a:Vt}(ha:S.V[i]? =some a)(hv:a.no=v)(hne:around S.C v= []):MsOk (S.dropV v i) (m+1):=by
 subst hv
 have hmem:=List.mem_of_getElem? ha
 have hp:=cut_perm ha
 have hsub:=cut_sub S.V i
 have hs':(S.dropV a.no i).V.Pairwise (fun a b=>a.no<b.no):=List.Pairwise.sublist hsub h.vs
 have hno: ∀ c∈S.C, ∀ j,j<3→c.t.v j≠a.no:=by
  intro c hc j hj e
  have h1:has c.t a.no=true:=by
   unfold has
   rcases(by omega:j=0∨j=1∨j=2)with rfl|rfl|rfl
   ·exact decide_eq_true (Or.inl e)
   ·exact decide_eq_true (Or.inr (Or.inl e))
   ·exact decide_eq_true (Or.inr (Or.inr e))
  unfold around at hne
  rw [List.map_eq_nil_iff,List.filter_eq_nil_iff]at hne
  exact hne c hc h1
 have hin: ∀ b∈S.V,b.no≠a.no→b∈(S.dropV a.no i).V:=by
  intro b hb e
  rcases List.mem_cons.1 (hp.mem_iff.2 hb)with rfl|h
  ·exact absurd rfl e
  ·exact h
 have hpos: ∀ c∈S.C, ∀ j,j<3→pos (S.dropV a.no i).V (c.t.v j)=pos S.V (c.t.v j):=by
  intro c hc j hj
  obtain⟨b,hb,e⟩:=isV_iff.1 (h.fi c hc j hj)
  have e2:b.no≠a.no:=by rw [e];exact hno c hc j hj
  rw [←e,pos_of h.vs hb,pos_of hs' (hin b hb e2)]
 refine⟨h.n1,h.va.free (h.vmem hmem).1,h.fa,Nat.le_trans h.vt (Nat.le_succ _),Nat.le_trans h.ft (Nat.le_succ _),?_,h.fp,hs',h.fs,(fun b hb=>h.vq b (hsub.subset hb)),h.f64,?_,?_,?_,h.fe⟩
 ·have h1:(a.no::(cut S.V i).map Vt.no).Perm S.av.L:=(List.Perm.map Vt.no hp).trans h.vp
  have h2:=filter_ne_perm (List.nodup_append.1 h.va.nd).1 (h.vmem hmem).1
  have h3:(a.no::S.av.L.filter (fun y=>decide (y≠a.no))).Perm S.av.L:=(List.perm_append_comm (l₁:= [a.no])).trans h2
  exact(List.perm_cons _).1 (h1.trans h3.symm)
 ·intro c hc j hj
  obtain⟨b,hb,e⟩:=isV_iff.1 (h.fi c hc j hj)
  exact isV_iff.2 ⟨b,hin b hb (by rw [e];exact hno c hc j hj),e⟩
 ·intro c hc j hj
  rw [(plOk_eq (S:=S) (S':=S.dropV a.no i) rfl (hpos c hc j hj)).1]
  exact h.fo c hc j hj
 ·intro c hc
  rw [areaT_eq (S:=S) (S':=S.dropV a.no i) rfl (hpos c hc)]
  exact h.fl c hc
theorem MsOk.dropF(h:MsOk S m){f:Int}{i:Nat}{c:Ce}(hc:S.C[i]? =some c)(hf:c.no=f):MsOk (S.dropF f i) (m+1):=by
 subst hf
 have hmem:=List.mem_of_getElem? hc
 have hp:=cut_perm hc
 have hsub:=cut_sub S.C i
 refine⟨h.n1,h.va,h.fa.free (h.fmem hmem).1,Nat.le_trans h.vt (Nat.le_succ _),Nat.le_trans h.ft (Nat.le_succ _),h.vp,?_,h.vs,List.Pairwise.sublist hsub h.fs,h.vq,(fun c hc=>h.f64 c (hsub.subset hc)),(fun c hc=>h.fi c (hsub.subset hc)),(fun c hc=>h.fo c (hsub.subset hc)),(fun c hc=>h.fl c (hsub.subset hc)),(fun c hc c' hc'=>h.fe c (hsub.subset hc) c' (hsub.subset hc'))⟩
 have h1:(c.no::(cut S.C i).map Ce.no).Perm S.af.L:=(List.Perm.map Ce.no hp).trans h.fp
 have h2:=filter_ne_perm (List.nodup_append.1 h.fa.nd).1 (h.fmem hmem).1
 have h3:(c.no::S.af.L.filter (fun y=>decide (y≠c.no))).Perm S.af.L:=(List.perm_append_comm (l₁:= [c.no])).trans h2
 exact(List.perm_cons _).1 (h1.trans h3.symm)
theorem area_line{px py x0 y0 x1 y1 x2 y2 n:Int}(h1:x1- x0=x2- x1)(h2:y1- y0=y2- y1):areaP (px+x0*n) (py+y0*n) (px+x1*n) (py+y1*n) (px+x2*n) (py+y2*n)=0:=by
 obtain rfl:x2=2*x1- x0:=by omega
 obtain rfl:y2=2*y1- y0:=by omega
 unfold areaP
 grind
theorem self_edge{t:Tr}(o: ∀ i,i<3→plOk S t i=true)(hg:(areaT S t).sign=1){i k:Nat}(hi:i<3)(hk:k<3)(h:same t i t k=true):i=k:=by
 have key: ∀ i,i<3→same t i t (nx i)=true→False:=by
  intro i hi h
  obtain⟨e1,e2,e3,e4⟩:=of_decide_eq_true h
  have X: ∀ j,j<3→plX S t j=(pos S.V (t.v j)).1+t.x j*S.n∧plY S t j=(pos S.V (t.v j)).2+t.y j*S.n:=by
   intro j hj
   unfold plX plY
   rw [o j hj]
   exact⟨rfl,rfl⟩
  have z:areaT S t=0:=by
   unfold areaT
   rw [(X 0 (by omega)).1,(X 0 (by omega)).2,(X 1 (by omega)).1,(X 1 (by omega)).2,(X 2 (by omega)).1,(X 2 (by omega)).2]
   rcases(by omega:i=0∨i=1∨i=2)with rfl|rfl|rfl
   ·have v1:t.v 1=t.v 0:=e1.symm
    have v2:t.v 2=t.v 0:=by rw [←v1];exact e2.symm
    rw [v1,v2]
    exact area_line e3 e4
   ·have v2:t.v 2=t.v 1:=e1.symm
    have v0:t.v 0=t.v 1:=by rw [←v2];exact e2.symm
    rw [v2,v0]
    rw [←area_turn]
    exact area_line e3 e4
   ·have v0:t.v 0=t.v 2:=e1.symm
    have v1:t.v 1=t.v 2:=by rw [←v0];exact e2.symm
    rw [v1,v0]
    rw [←area_turn,←area_turn]
    exact area_line e3 e4
  rw [z]at hg
  exact absurd hg (by decide)
 by_cases e:i=k
 ·exact e
 ·rcases(by unfold nx;omega:k=nx i∨i=nx k)with rfl|rfl
  ·exact(key i hi h).elim
  ·rw [same_symm]at h
   exact(key k hk h).elim
theorem fErr_ok{t:Tr}(h:fErr S t=0):(∀ i,i<3→isV S (t.v i)=true)∧(∀ i,i<3→plOk S t i=true)∧(areaT S t).sign=1∧there t S.C=false:=by
 unfold fErr at h
 split at h
 ·exact absurd h (by decide)
 ·rename_i h1
  split at h
  ·exact absurd h (by decide)
  ·rename_i h2
   simp only [not_or]at h1 h2
   refine⟨?_,?_,Decidable.of_not_not h2.2.2.2.1,by simpa using h2.2.2.2.2⟩
   ·intro i hi
    rcases(by omega:i=0∨i=1∨i=2)with rfl|rfl|rfl
    ·show isV S t.v0=true;simpa using h1.1
    ·show isV S t.v1=true;simpa using h1.2.1
    ·show isV S t.v2=true;simpa using h1.2.2
   ·intro i hi
    rcases(by omega:i=0∨i=1∨i=2)with rfl|rfl|rfl
    ·simpa using h2.1
    ·simpa using h2.2.1
    ·simpa using h2.2.2.1
theorem MsOk.addF(h:MsOk S m){t:Tr}(he:fErr S t=0)(h64: ∀ i,(-9223372036854775808≤t.v i∧t.v i≤9223372036854775807)∧(-9223372036854775808≤t.x i∧t.x i≤9223372036854775807)∧(-9223372036854775808≤t.y i∧t.y i≤9223372036854775807)):MsOk (S.addF t) (m+1):=by
 obtain⟨h1,h2,h3,h4⟩:=fErr_ok he
 have htk:=h.fa.take
 have hnew: ∀ a∈S.C,a.no≠S.af.num:=fun a ha e=>htk.2 (by have:=(h.fmem ha).1;rw [e]at this;exact this)
 refine⟨h.n1,h.va,htk.1,Nat.le_trans h.vt (Nat.le_succ _),?_,h.vp,?_,h.vs,insBy_sorted h.fs hnew,h.vq,?_,?_,?_,?_,?_⟩
 ·show tkT S.af.B S.af.T≤m+1
  have:=h.ft
  unfold tkT
  split<;>omega
 ·refine(List.Perm.map _ (insBy_perm _ _ _)).trans ?_
  exact(h.fp.cons _).trans (List.perm_append_comm (l₁:= [S.af.num]) (l₂:=S.af.L))
 ·intro c hc
  rcases insBy_mem.1 hc with rfl|hc
  ·exact h64
  ·exact h.f64 c hc
 ·intro c hc
  rcases insBy_mem.1 hc with rfl|hc
  ·exact h1
  ·exact h.fi c hc
 ·intro c hc
  rcases insBy_mem.1 hc with rfl|hc
  ·exact h2
  ·exact h.fo c hc
 ·intro c hc
  rcases insBy_mem.1 hc with rfl|hc
  ·exact h3
  ·exact h.fl c hc
 ·intro c hc c' hc' i k hi hk hs
  rcases insBy_mem.1 hc with rfl|hc<;>rcases insBy_mem.1 hc' with rfl|hc'
  ·exact⟨rfl,self_edge h2 h3 hi hk hs⟩
  ·rw [there_not h4 hc' hi hk]at hs
   exact absurd hs Bool.false_ne_true
  ·rw [same_symm,there_not h4 hc hk hi]at hs
   exact absurd hs Bool.false_ne_true
  ·exact h.fe c hc c' hc' i k hi hk hs
theorem off_small{p i n:Int}(hn:1≤n)(hp:0≤p∧p<n)(hn2:n≤17179869184)(h:inC (p+i*n)=true): -4611686018427387904<i∧i<4611686018427387904:=by
 have h1:=inC_true.1 h
 have h2: -2199023255552≤i*n∧i*n≤2199023255552:=by omega
 constructor
 ·refine Int.lt_of_not_ge fun h3=>?_
  have:i*n≤ -4611686018427387904*1:=by
   have a1:i*n≤i*1:=Int.mul_le_mul_of_nonpos_left (by omega) hn
   omega
  omega
 ·refine Int.lt_of_not_ge fun h3=>?_
  have a1:i*1≤i*n:=Int.mul_le_mul_of_nonneg_left hn (by omega)
  omega
theorem MsOk.offs(h:MsOk S m){t:Tr}(hv: ∀ i,i<3→isV S (t.v i)=true)(ho: ∀ i,i<3→plOk S t i=true): ∀ i,(-4611686018427387904<t.x i∧t.x i<4611686018427387904)∧(-4611686018427387904<t.y i∧t.y i<4611686018427387904):=by
 have H: ∀ i,i<3→(-4611686018427387904<t.x i∧t.x i<4611686018427387904)∧(-4611686018427387904<t.y i∧t.y i<4611686018427387904):=by
  intro i hi
  obtain⟨a,ha,e⟩:=isV_iff.1 (hv i hi)
  have hp:=pos_of h.vs ha
  have h1:=ho i hi
  unfold plOk atC at h1
  rw [←e,hp]at h1
  simp only [Bool.and_eq_true]at h1
  obtain⟨q1,q2,_⟩:=h.vq a ha
  exact⟨off_small h.n1.1 q1 h.n1.2 h1.2.2.1,off_small h.n1.1 q2 h.n1.2 h1.2.2.2⟩
 intro i
 by_cases hi:i<3
 ·exact H i hi
 ·have e:t.x i=t.x 2∧t.y i=t.y 2:=by
   unfold Tr.x Tr.y
   rw [if_neg (by omega),if_neg (by omega)]
   simp
   rw [if_neg (by omega),if_neg (by omega)]
  rw [e.1,e.2]
  exact H 2 (by omega)
end
abbrev OwnS(w:World)(base:Nat)(T:TypeId)(s:Nat)(a:Option Addr)(n cap:Nat)(xs:List Value):Prop:=w.ownsRow base T s (.slice a n cap) n xs
section
variable {w w' : World} {base n cap s : Nat} {T : TypeId} {a : Option Addr} {xs : List Value}
theorem OwnS.keep{F:Nat→Prop}(h:OwnS w base T s a n cap xs)(hk:Keep F w w')(hF: ∀ k,Slot a k→ ¬F k):OwnS w' base T s a n cap xs:=by
 obtain⟨hl,h1|⟨g,cap',cur,hv,hb',hg,r⟩⟩:=h
 ·exact⟨hl,Or.inl h1⟩
 ·refine⟨hl,Or.inr ⟨g,cap',cur,hv,hb',?_,r⟩⟩
  rw [hk.block g (Array.getElem?_eq_some_iff.1 hg).1 (hF g (by cases hv;exact⟨0,rfl⟩))]
  exact hg
theorem OwnS.below(h:OwnS w base T s a n cap xs)(hb:Below w.heap.size w w'):OwnS w' base T s a n cap xs:=h.keep (Keep.of (F:=fun _=>False) hb) (fun _ _ x=>x)
theorem OwnS.lt(h:OwnS w base T s a n cap xs){k:Nat}(hk:Slot a k):k<w.heap.size∧base≤k:=by
 obtain⟨o,rfl⟩:=hk
 obtain⟨hl,⟨h1,_⟩|⟨g,cap',cur,hv,hb',hg,r⟩⟩:=h
 ·cases h1
 ·cases hv
  exact⟨(Array.getElem?_eq_some_iff.1 hg).1,hb'⟩
theorem OwnS.put{k i:Nat}(h:OwnS w base T s a n cap xs)(hk: ¬Slot a k)(u:Value):OwnS (w.setCell ⟨k,i,none⟩ u) base T s a n cap xs:=
 h.keep ((Keep.refl (fun x=>x=k) w).set (Or.inl rfl) u) (fun j hj e=>hk (e▸hj))
theorem OwnS.slot(h:OwnS w base T s a n cap xs){k:Nat}(e:(Value.slice a n cap).ownBlock=some k):Slot a k:=by
 cases a with
 |none=>cases e
 |some q=>obtain⟨_,⟨h5,_⟩|⟨g,_,_,hv,_⟩⟩:=h;cases h5;cases hv;cases e;exact⟨0,rfl⟩
theorem OwnS.mono{base':Nat}(h:OwnS w base T s a n cap xs)(hb:base'≤base):OwnS w base' T s a n cap xs:=by
 obtain⟨hl,h1|⟨g,cap',cur,hv,hb',r⟩⟩:=h
 ·exact⟨hl,Or.inl h1⟩
 ·exact⟨hl,Or.inr ⟨g,cap',cur,hv,by omega,r⟩⟩
theorem OwnS.len(h:OwnS w base T s a n cap xs):xs.length=n*s:=h.1
theorem OwnS.room(h:OwnS w base T s a n cap xs):n≤cap∧cap≤maxLen:=by
 obtain⟨hl,⟨h1,h2⟩|⟨g,cap',cur,hv,hb',hg,h1,h2,_⟩⟩:=h
 ·cases h1;exact⟨Nat.le_refl _,by unfold maxLen;omega⟩
 ·cases hv;exact⟨h1,h2⟩
theorem OwnS.at(h:OwnS w base T s a n cap xs)(hn:0<n): ∃ b,a=some ⟨b,0,none⟩∧b<w.heap.size∧base≤b∧Seg w b 0 xs:=by
 obtain⟨hl,⟨h1,h2⟩|⟨g,cap',cur,hv,hb',hg,h1,h2,h3,h4⟩⟩:=h
 ·omega
 ·cases hv
  refine⟨g,rfl,(Array.getElem?_eq_some_iff.1 hg).1,hb',?_⟩
  intro j u hu
  have hj:j<n*s:=by
   have:=(List.getElem?_eq_some_iff.1 hu).1
   omega
  rw [←h4,List.getElem?_take,if_pos hj]at hu
  refine⟨by simp [World.cell?,hg];simpa using hu,by simp [World.frozen?,hg]⟩
theorem ownS_none(w:World)(base:Nat)(T:TypeId)(s:Nat):OwnS w base T s none 0 0 []:=⟨by simp,Or.inl ⟨rfl,rfl⟩⟩
theorem ownS_new(w:World)(base:Nat)(T:TypeId)(s:Nat)(hb:base≤w.heap.size):OwnS (w.alloc (.cells #[] T)) base T s (some ⟨w.heap.size,0,none⟩) 0 0 []:=World.ownsRow_lit w #[] 0 hb (by decide) (by simp)
theorem OwnS.form{v:Value}(h:w.ownsRow base T s v n xs): ∃ a cap,v= .slice a n cap∧OwnS w base T s a n cap xs:=by
 obtain⟨hl,⟨h1,h2⟩|⟨g,cap',cur,hv,hb,hg,h1,h2,h3,h4⟩⟩:=h
 ·subst h1 h2
  exact⟨none,0,rfl,hl,Or.inl ⟨rfl,rfl⟩⟩
 ·subst hv
  exact⟨_,_,rfl,hl,Or.inr ⟨g,cap',cur,rfl,hb,hg,h1,h2,h3,h4⟩⟩
end
def News(w:World)(ad:Addr)(news:List Value):Prop:=(∀ j u,news[j]? =some u→w.cell? (ad.add j)=some u)
theorem app_atS{P:Program}(w:World){ops:Array Oper}{rest:List Oper}{o:Oper}{a:Act}{Q:Exit→Act→World→Prop}(hgd:o.guard=none)(s x:Operand)(t:TypeId)
  (ho:o.op= .call { callee:= .builtin .append,args:= #[s,x],argTypes:= #[t,t] })
  (base:Nat) (e:TypeId) (i:TypeInfo) (z:Value) (size bytes:Nat) (ht:P.underlying t=some (.slice e)) (hi:P.info? e=some i) (hz:i.zero=some z)
  (hsize:i.size=size) (hby:i.bytes=bytes) (hzs:z.cells.size=size) (hsz:0<size)
  (a0:Option Addr) (n0 c0:Nat) (xs:List Value) (hs:a.eval s= .slice a0 n0 c0) (hown:OwnS w base e size a0 n0 c0 xs)
  (ad:Addr) (m c:Nat) (news:List Value) (hx:a.eval x= .slice (some ad) m c) (hl:news.length=m*size) (hnews:News w ad news) (h1: ∀ u∈news,u.oneCell'=true)
  (h63:n0+m≤maxLen) (hbytes:(n0+m)*bytes≤140737488355328) (hbase:base≤w.heap.size)
  (h: ∀ a' cap' w',OwnS w' base e size a' (n0+m) cap' (xs++news)→w.grownBy w' (Value.slice a0 n0 c0).ownBlock→(∀ k,Slot a' k→Slot a0 k∨w.heap.size≤k)→wpList P ops Q rest (a.put o.dst (.slice a' (n0+m) cap')) w'):wpList P ops Q (o::rest) a w:=by
 refine wpList_append_own_at w hgd s x t ho base e i z size bytes ht hi hz hsize hby hzs hsz _ n0 xs hs hown ad m c news hx hl hnews h1 h63 hbytes hbase ?_
 intro v' w' h1 h2 _ h4
 obtain⟨a',cap',rfl,h3⟩:=OwnS.form h1
 refine h a' cap' w' h3 h2 ?_
 rintro k ⟨q,rfl⟩
 rcases h4 with h4|h4
 ·cases a0 with
  |none=>cases h4
  |some b0=>
   have:k=b0.block:=by simpa [Value.ownBlock]using h4
   subst this
   obtain⟨hl,⟨h5,_⟩|⟨g,cap',cur,hv,r⟩⟩:=hown
   ·cases h5
   ·cases hv;exact Or.inl ⟨0,rfl⟩
 ·have:k=w.heap.size:=by simpa [Value.ownBlock]using h4
  exact Or.inr (by omega)
theorem news_new(w:World)(xs:List Value)(T:TypeId):News (w.alloc (.cells xs.toArray T)) ⟨w.heap.size,0,none⟩ xs:=by
 intro j u hu
 rw [Addr.add_lit,Nat.zero_add]
 exact(Row.new w xs T).cell j u hu
def flat{α:Type}(f:α→List Value)(L:List α):List Value:=L.flatMap f
section
variable {α : Type} {f : α → List Value}
theorem flat_append(L M:List α):flat f (L++M)=flat f L++flat f M:=by simp [flat]
theorem flat_one(x:α):flat f [x]=f x:=by simp [flat]
theorem flat_at{s:Nat}(hf: ∀ x,(f x).length=s){L:List α}{k j:Nat}{x:α}{u:Value}(hk:L[k]? =some x)(hj:(f x)[j]? =some u):(flat f L)[k*s+j]? =some u:=by
 induction L generalizing k with
 |nil=>simp at hk
 |cons a L ih=>
  rw [show flat f (a::L)=f a++flat f L from by simp [flat]]
  cases k with
  |zero=>
   simp only [List.getElem?_cons_zero,Option.some.injEq]at hk
   subst hk
   rw [List.getElem?_append_left (by have:=(List.getElem?_eq_some_iff.1 hj).1;omega)]
   simpa using hj
  |succ k=>
   rw [List.getElem?_append_right (by rw [hf,Nat.add_mul];omega),hf,show(k+1)*s+j- s=k*s+j by rw [Nat.add_mul];omega]
   exact ih (by simpa using hk)
theorem flat_drop{s:Nat}(hf: ∀ x,(f x).length=s)(L:List α)(k:Nat):flat f (L.drop k)=(flat f L).drop (k*s):=by
 induction L generalizing k with
 |nil=>simp [flat]
 |cons a L ih=>
  cases k with
  |zero=>simp
  |succ k=>
   rw [List.drop_succ_cons,ih,show flat f (a::L)=f a++flat f L from by simp [flat],show(k+1)*s=(f a).length+k*s by rw [hf,Nat.add_mul];omega,List.drop_length_add_append]
theorem flat_take{s:Nat}(hf: ∀ x,(f x).length=s)(L:List α)(k:Nat):flat f (L.take k)=(flat f L).take (k*s):=by
 induction L generalizing k with
 |nil=>simp [flat]
 |cons a L ih=>
  cases k with
  |zero=>simp [flat]
  |succ k=>
   rw [List.take_succ_cons,show ∀ M,flat f (a::M)=f a++flat f M from fun M=>by simp [flat],ih,show flat f (a::L)=f a++flat f L from by simp [flat],show(k+1)*s=(f a).length+k*s by rw [hf,Nat.add_mul];omega,List.take_length_add_append]
theorem flat_one_cell(h1: ∀ x, ∀ u∈f x,u.oneCell'=true)(L:List α): ∀ u∈flat f L,u.oneCell'=true:=by
 intro u hu
 simp only [flat,List.mem_flatMap]at hu
 obtain⟨x,_,hx⟩:=hu
 exact h1 x u hx
end
theorem mem_drop{L:List Int}{k:Nat}{x n:Int}(h:L[k]? =some x):(n∈L.drop k)↔(x=n∨n∈L.drop (k+1)):=by
 obtain⟨hk,he⟩:=List.getElem?_eq_some_iff.1 h
 rw [List.drop_eq_getElem_cons hk,he,List.mem_cons]
 exact⟨fun h=>h.imp Eq.symm id,fun h=>h.imp Eq.symm id⟩
set_option maxRecDepth 100000 in
theorem anIn(a:Option Addr)(l c:Nat)(L:List Int)(n:Int)(w:World)(hs:Sl w a l c (ints L))(hl:l≤1000000000){r:Bool}(hr:r=decide (n∈L)):
  Calls Tryz.prog 118 #[.slice a l c, .int .i64 n] w fun e w'=>e= .returned (.bool r)∧Below w.heap.size w w':=by
 have hlen:L.length=l:=by have:=hs.len;rw [ints_length]at this;exact this
 have HR:Hid _:=hr
 clear hr
 go_enter Tryz.func118,Tryz.ntmps118
 go_wp2
 go_loopw [5] (fun i wr=> ∃ k:Nat,k≤l∧i= .int .i64 (k:Int)∧(n∈L↔n∈L.drop k)∧Below w.heap.size w wr) (fun i _=>l- (intOf i).toNat)
 case atStart=>exact⟨0,by omega,rfl,by simp,Below.refl _ _⟩
 case round=>
  obtain⟨k,hk,rfl,hd,bel⟩:=hrel
  by_cases hlt:k<l
  ·obtain⟨x,hx⟩: ∃ x,L[k]? =some x:=⟨L[k],List.getElem?_eq_getElem (by omega)⟩
   obtain⟨b,o,rfl,hb,hseg⟩:=(hs.below bel).at (by omega)
   have hroom:=hs.room
   have q:=hseg.cell k _ (ints_at hx)
   rw [mem_drop hx]at hd
   have HD:Hid _:=hd
   clear hd hs hx
   by_cases hxn:x=n
   ·have hxn':(x==n)=true:=by simpa using hxn
    go_wp2
    go_ret
    exact⟨by rw [HR.out,decide_eq_true (HD.out.2 (Or.inl hxn))];rfl,bel⟩
   ·have hxn':(x==n)=false:=by simpa using hxn
    go_wp2
    go_roundw
    case rel=>exact⟨k+1,by omega,by simp,HD.out.trans ⟨fun h=>h.resolve_left hxn,Or.inr⟩,bel⟩
    case measure=>simp [intOf];omega
  ·obtain rfl:k=l:=by omega
   have hno: ¬n∈L:=by rw [hd,←hlen,List.drop_length];simp
   go_wp2
   go_ret
   exact⟨by rw [HR.out,decide_eq_false hno];rfl,bel⟩
theorem filter_next{L:List Int}{k:Nat}{x n:Int}(h:L[k]? =some x):(L.take (k+1)).filter (fun y=>decide (y≠n))=(L.take k).filter (fun y=>decide (y≠n))++(if x=n then []else [x]):=by
 rw [List.take_add_one,h,List.filter_append]
 by_cases e:x=n<;>simp [e]
def GotL(w:World)(L:List Int)(e:Ending)(w':World):Prop:= ∃ (a:Option Addr) (c:Nat),e= .returned (.slice a L.length c)∧Own w' w.heap.size 3 a L.length c (ints L)∧Below w.heap.size w w'
def Put(w:World)(L M:List Int)(s i:Value)(wr:World)(k:Nat):Prop:=k≤L.length∧i= .int .i64 (k:Int)∧ ∃ (a:Option Addr) (c:Nat),s= .slice a M.length c∧Own wr w.heap.size 3 a M.length c (ints M)∧Below w.heap.size w wr
set_option maxRecDepth 100000 in
theorem anWithout(a:Option Addr)(l c:Nat)(L:List Int)(n:Int)(w:World)(hs:Sl w a l c (ints L))(hl:l≤1000000){M:List Int}(hM:M=L.filter (fun y=>decide (y≠n))):
  Calls Tryz.prog 119 #[.slice a l c, .int .i64 n] w (GotL w M):=by
 have hlen:L.length=l:=by have:=hs.len;rw [ints_length]at this;exact this
 obtain⟨i0,hi0,hz0,hz1,hz2⟩:=info_of infoI
 have HM:Hid _:=hM
 have hown0:=own_new w w.heap.size 3 (Nat.le_refl _)
 have hB0:Below w.heap.size w (w.alloc (.cells #[] 3)):=(Below.refl _ _).alloc (Nat.le_refl _) _
 clear hM
 go_enter Tryz.func119,Tryz.ntmps119
 go_wp2
 go_loopw [5,6] (fun s i wr=> ∃ k,Put w L ((L.take k).filter (fun y=>decide (y≠n))) s i wr k) (fun _ i _=>l- (intOf i).toNat)
 case atStart=>exact⟨0,by omega,rfl,_,_,rfl,hown0,hB0⟩
 case round=>
  clear hown0 hB0
  obtain⟨k,hk,rfl,a2,c2,rfl,hown,bel⟩:=hrel
  obtain⟨M',hM'⟩: ∃ M',M'=(L.take k).filter (fun y=>decide (y≠n)):=⟨_,rfl⟩
  rw [←hM']at hown ⊢
  have hml:M'.length≤k:=by rw [hM'];exact Nat.le_trans (List.length_filter_le _ _) (by rw [List.length_take];omega)
  by_cases hlt:k<l
  ·obtain⟨x,hx⟩: ∃ x,L[k]? =some x:=⟨L[k],List.getElem?_eq_getElem (by omega)⟩
   have hnx:=filter_next (n:=n) hx
   rw [←hM']at hnx
   obtain⟨b,o,rfl,hb,hseg⟩:=(hs.below bel).at (by omega)
   have hroom:=hs.room
   have q:=hseg.cell k _ (ints_at hx)
   by_cases hxn:x=n
   ·rw [if_pos hxn,List.append_nil]at hnx
    have hxn':(x==n)=true:=by simpa using hxn
    have HN:Hid _:=hnx
    have HM':Hid _:=hM'
    clear hnx hM' hx
    go_wp2
    go_roundw
    case rel=>exact⟨k+1,by omega,by simp,a2,c2,by rw [HN.out],by rw [HN.out];exact hown,bel⟩
    case measure=>simp [intOf];omega
   ·rw [if_neg hxn]at hnx
    have hxn':(x==n)=false:=by simpa using hxn
    have HN:Hid _:=hnx
    clear hnx hM' hx
    have hB1:Below wr.heap.size wr (wr.alloc (.cells #[.int .i64 x] 3)):=(Below.refl _ _).alloc (Nat.le_refl _) _
    have hown1:=hown.below hB1
    have hone:=sl_one wr x 3
    have hbel1:=bel.trans (hB1.mono bel.size)
    have hbs:=bel.size
    have hcap:M'.length+1≤maxLen:=by unfold maxLen;omega
    go_wp2_with (at_builtin;refine app_at _ rfl (.tmp 20) (.tmp 25) 99 rfl w.heap.size 3 i0 (.int .i64 0) 8 Tryz.underlying99 hi0 hz0 hz1 hz2 rfl a2 M'.length c2 (ints M') rfl hown1 _ 1 1 [.int .i64 x] rfl hone (ints_one [x]) hcap (by omega) (by simp;omega) ?_;intro a3 cap3 w3 hown3 hg3 _)
    go_roundw
    case rel=>
     have hb3:=hbel1.grown hg3 (by simp;omega) (fun j hj=>by
      have:=hown1.lt (k:=j) (by cases a2 with|none=>cases hj|some q=>(obtain⟨_,⟨h5,_⟩|⟨g,_,_,hv,_⟩⟩:=hown1;cases h5;cases hv;cases hj;exact⟨0,rfl⟩))
      exact this.2)
     refine⟨k+1,by omega,by simp,a3,cap3,by rw [HN.out,List.length_append];rfl,?_,hb3⟩
     rw [HN.out,List.length_append,ints_append]
     exact hown3
    case measure=>simp [intOf];omega
  ·obtain rfl:k=l:=by omega
   have HE:Hid (M'=M):=by unfold Hid;rw [hM',HM.out,List.take_of_length_le (by omega)]
   clear hM'
   go_wp2
   go_ret
   rw [←HE.out]
   exact⟨a2,c2,rfl,hown,bel⟩
structure ArR(base p:Nat)(L B:List Int)(T:Nat)(F:Nat→Prop)(w:World):Prop where
 ex: ∃ (a:Option Addr) (ca:Nat) (b:Option Addr) (cb:Nat),Row w p [.slice a L.length ca, .slice b B.length cb, .int .i64 (T:Int)]∧Own w base 3 a L.length ca (ints L)∧Own w base 3 b B.length cb (ints B)∧F p∧(∀ k,Slot a k→F k∧k≠p)∧(∀ k,Slot b k→F k∧k≠p∧ ¬Slot a k)
 ft: ∀ k,F k→base≤k∧k<w.heap.size
def Left(Ob:(Nat→Prop)→World→Prop)(F:Nat→Prop)(w w':World):Prop:=Keep F w w'∧ ∃ F',Ob F' w'∧ ∀ k,F' k→F k∨w.heap.size≤k
theorem ArR.keep{base p:Nat}{L B:List Int}{T:Nat}{F G:Nat→Prop}{w w':World}(h:ArR base p L B T F w)(hk:Keep G w w')(hd: ∀ k,F k→ ¬G k):ArR base p L B T F w':=by
 obtain⟨a,ca,b,cb,hrow,ha,hb,hp,hFa,hFb⟩:=h.ex
 exact⟨⟨a,ca,b,cb,hrow.keep hk hrow.lt (hd p hp),ha.keep hk (fun k s=>hd k (hFa k s).1),hb.keep hk (fun k s=>hd k (hFb k s).1),hp,hFa,hFb⟩,fun k hF=>⟨(h.ft k hF).1,Nat.lt_of_lt_of_le (h.ft k hF).2 hk.size⟩⟩
theorem ArR.new(w:World)(base:Nat)(t:TypeId)(hb:base≤w.heap.size):ArR base w.heap.size [] [] 0 (fun k=>k=w.heap.size) (w.alloc (.cells #[.slice none 0 0, .slice none 0 0, .int .i64 0] t)):=
 ⟨⟨none,0,none,0,Row.new w [.slice none 0 0, .slice none 0 0, .int .i64 0] t,own_none _ _ _,own_none _ _ _,rfl,(fun k s=>by obtain⟨o,s⟩:=s;cases s),(fun k s=>by obtain⟨o,s⟩:=s;cases s)⟩,fun k e=>⟨by omega,by simp;omega⟩⟩
theorem ArR.lend{base p:Nat}{L B:List Int}{T:Nat}{F:Nat→Prop}{w w1 w2 w3:World}{a b a':Option Addr}{ca cb c':Nat}{n:Int}(hft: ∀ k,F k→base≤k∧k<w.heap.size)
  (hk:Keep F w w1) (hrow:Row w1 p [.slice a L.length ca, .slice b B.length cb, .int .i64 (T:Int)]) (ha:Own w1 base 3 a L.length ca (ints L)) (hb:Own w1 base 3 b B.length cb (ints B)) (hp:F p) (hFa: ∀ k,Slot a k→F k∧k≠p) (hFb: ∀ k,Slot b k→(F k∨w.heap.size≤k)∧k≠p∧ ¬Slot a k)
  (h2:Below w1.heap.size w1 w2) (h3:Own w3 base 3 a' (L.length+1) c' (ints L++ [.int .i64 n])) (hg:w2.grownBy w3 (Value.slice a L.length ca).ownBlock) (hs: ∀ k,Slot a' k→Slot a k∨w2.heap.size≤k):
  Left (ArR base p (L++ [n]) B T) F w (w3.setCell ⟨p,0,none⟩ (.slice a' (L.length+1) c')):=by
 have hown: ∀ k,(Value.slice a L.length ca).ownBlock=some k→Slot a k:=fun k e=>own_slot ha e
 have k2:Keep F w w2:=hk.to h2
 have k3:Keep F w w3:=k2.grown hg (fun k e=>Or.inl (hFa k (hown k e)).1)
 have k4:Keep F w (w3.setCell ⟨p,0,none⟩ (.slice a' (L.length+1) c')):=k3.set (Or.inl hp) _
 have K23:Keep (fun k=>Slot a k) w1 w3:=(Keep.of h2).grown hg (fun k e=>Or.inl (hown k e))
 have hpl:p<w1.heap.size:=hrow.lt
 have row3:=hrow.keep K23 hpl (fun s=>(hFa p s).2 rfl)
 have b3:=hb.keep K23 (fun k s=>(hFb k s).2.2)
 have na': ¬Slot a' p:=fun s=>(hs p s).elim (fun s=>(hFa p s).2 rfl) (fun e=>by have:=h2.size;omega)
 have nb': ¬Slot b p:=fun s=>(hFb p s).2.1 rfl
 refine⟨k4,fun k=>F k∨(w.heap.size≤k∧k<w3.heap.size),⟨⟨a',c',b,cb,?_,?_,b3.put nb' _,Or.inl hp,?_,?_⟩,?_⟩,fun k hk=>hk.imp id (fun e=>e.1)⟩
 ·have:=row3.set 0 (.slice a' (L.length+1) c') (by simp)
  rw [List.length_append]
  exact this
 ·rw [List.length_append,ints_append]
  exact h3.put na' _
 ·intro k s
  refine⟨(hs k s).elim (fun s=>Or.inl (hFa k s).1) (fun e=>Or.inr ⟨by have:=h2.size;have:=hk.size;omega,(h3.lt s).1⟩),fun e=>na' (e▸s)⟩
 ·intro k s
  have hlt:=(hb.lt s).1
  refine⟨(hFb k s).1.imp id (fun e=>⟨e,(b3.lt s).1⟩),(hFb k s).2.1,fun s'=>(hs k s').elim (hFb k s).2.2 (fun e=>by have:=h2.size;omega)⟩
 ·intro k hk'
  have:=k4.size
  have hb2:base≤w.heap.size:=by have:=hft p hp;omega
  rcases hk' with e|e
  ·exact⟨(hft k e).1,by have:=(hft k e).2;omega⟩
  ·exact⟨by omega,by simp;exact e.2⟩
set_option maxRecDepth 100000 in
set_option maxHeartbeats 1000000 in
theorem anTake(base p:Nat)(L B:List Int)(T:Nat)(F:Nat→Prop)(w:World)(h:ArR base p L B T F w)(hL:L.length≤1000)(hB:B.length≤1000)(hT:T≤1000){n:Int}(hn:n=tkN B T):
  Calls Tryz.prog 94 #[.pointer (some ⟨p,0,none⟩)] w fun e w'=>e= .returned (.int .i64 n)∧Left (ArR base p (L++ [n]) B.dropLast (tkT B T)) F w w':=by
 obtain⟨a,ca,b,cb,hrow,ha,hb,hp,hFa,hFb⟩:=h.ex
 obtain⟨i0,hi0,hz0,hz1,hz2⟩:=info_of infoI
 have hft:=h.ft
 have q0:=hrow.cell 0 _ rfl
 have q1:=hrow.cell 1 _ rfl
 have q2:=hrow.cell 2 _ rfl
 have f0:=hrow.free 0 (by simp)
 have f1:=hrow.free 1 (by simp)
 have f2:=hrow.free 2 (by simp)
 have hpb:=(hft p hp).1
 have hpl:=(hft p hp).2
 have hcap:L.length+1≤maxLen:=by unfold maxLen;omega
 by_cases hB0:B= []
 ·subst hB0
  obtain rfl:n=(T:Int):=hn
  have row1:Row (w.setCell ⟨p,2,none⟩ (.int .i64 ((T:Int)+1))) p [.slice a L.length ca, .slice b ([]:List Int).length cb, .int .i64 ((T+1:Nat):Int)]:=hrow.set 2 _ (by simp)
  have k1:Keep F w (w.setCell ⟨p,2,none⟩ (.int .i64 ((T:Int)+1))):=(Keep.refl F w).set (Or.inl hp) _
  have a1:=ha.put (i:=2) (fun s=>(hFa p s).2 rfl) (.int .i64 ((T:Int)+1))
  have b1:=hb.put (i:=2) (fun s=>(hFb p s).2.1 rfl) (.int .i64 ((T:Int)+1))
  have B2:Below _ (w.setCell ⟨p,2,none⟩ (.int .i64 ((T:Int)+1))) ((w.setCell ⟨p,2,none⟩ (.int .i64 ((T:Int)+1))).alloc (.cells #[.int .i64 (T:Int)] 3)):=(Below.refl _ _).alloc (Nat.le_refl _) _
  have a2:=a1.below B2
  have one:=sl_one (w.setCell ⟨p,2,none⟩ (.int .i64 ((T:Int)+1))) (T:Int) 3
  rw [World.size_setCell]at one
  go_enter Tryz.func94,Tryz.ntmps94
  go_wp2_with (at_builtin;refine app_at _ rfl (.tmp 47) (.tmp 49) 99 rfl base 3 i0 (.int .i64 0) 8 Tryz.underlying99 hi0 hz0 hz1 hz2 rfl a L.length ca (ints L) rfl a2 _ 1 1 [.int .i64 (T:Int)] rfl one (ints_one [(T:Int)]) hcap (by omega) (by simp;omega) ?_;intro a3 c3 w3 h3 g3 s3;have row3:=row1.keep ((Keep.of (F:=fun k=>Slot a k) B2).grown g3 (fun k e=>Or.inl (own_slot a1 e))) row1.lt (fun s=>(hFa p s).2 rfl);have r30:=row3.free 0 (by simp);have r31:=row3.cell 0 _ rfl)
  go_ret
  exact⟨rfl,ArR.lend hft k1 row1 a1 b1 hp hFa (fun k s=>⟨Or.inl (hFb k s).1,(hFb k s).2⟩) B2 h3 g3 s3⟩
 ·obtain⟨B',x,rfl⟩: ∃ B' x,B=B'++ [x]:=⟨B.dropLast,B.getLast hB0,(List.dropLast_concat_getLast hB0).symm⟩
  obtain rfl:n=x:=by rw [hn];simp [tkN]
  clear hn hB0
  have hT2:tkT (B'++ [n]) T=T:=by simp [tkT]
  rw [hT2,List.dropLast_concat]
  have hlen:(B'++ [n]).length=B'.length+1:=by simp
  rw [hlen]at q1 hrow hb hB
  obtain⟨m,hm⟩: ∃ m,m=B'.length:=⟨_,rfl⟩
  rw [←hm]at q1 hrow hb hB
  obtain⟨bb,rfl,hbb,hbb2,hseg⟩:=Own.at hb (by omega)
  have hroom:=hb.sl.room
  have hlast:=hseg.cell m (.int .i64 n) (by rw [hm];exact ints_at (by simp))
  rw [Nat.zero_add]at hlast
  have hm1:((m+1:Nat):Int)- 1=(m:Int):=by omega
  have hB0:Below w.heap.size w (w.alloc (.cells #[] 3)):=(Below.refl _ _).alloc (Nat.le_refl _) _
  have own0:=own_new w base 3 (by omega)
  have hsl:Sl (w.alloc (.cells #[] 3)) (some ⟨bb,0,none⟩) m cb (ints B'):=by
   have:=((hb.take (m:=m) (by omega)).below hB0).sl
   rw [ints_append,List.take_left' (by rw [ints_length];exact hm.symm)]at this
   exact this
  have hmm:0+m≤maxLen:=by unfold maxLen;omega
  have ha':=ha.below hB0
  have HM:Hid _:=hm
  clear hm hlen hseg
  go_enter Tryz.func94,Tryz.ntmps94
  go_wp2_with (first
   |(at_builtin;refine app_at _ rfl (.tmp 25) (.tmp 32) 99 rfl base 3 i0 (.int .i64 0) 8 Tryz.underlying99 hi0 hz0 hz1 hz2 rfl _ 0 0 [] rfl own0 _ m cb (ints B') rfl hsl (ints_one B') hmm (by omega) (by simp;omega) ?_;intro a4 c4 w4 h4 g4 s4;rw [Nat.zero_add,List.nil_append]at h4;have z4:=g4.size;rw [World.size_alloc]at z4;have k4:Keep (fun k=>w.heap.size≤k) w w4:=(Keep.of hB0).grown g4 (fun k e=>Or.inl (by simp [Value.ownBlock]at e;omega));have s4': ∀ k,Slot a4 k→w.heap.size≤k:=fun k s=>(s4 k s).elim (fun s=>by obtain⟨o,e⟩:=s;cases e;omega) (fun e=>by rw [World.size_alloc]at e;omega);have row4:=hrow.keep k4 hpl (by omega);have ar4:=ha.keep k4 (fun k s=>by have:=(ha.lt s).1;omega);have r40:=row4.cell 0 _ rfl;have r41:=row4.cell 1 _ rfl;have t40:=row4.free 0 (by simp);have t41:=row4.free 1 (by simp);have row5:Row (w4.setCell ⟨p,1,none⟩ (.slice a4 m c4)) p [.slice a L.length ca, .slice a4 m c4, .int .i64 (T:Int)]:=row4.set 1 _ (by simp);have na4: ¬Slot a4 p:=fun s=>(by have:=s4' p s;omega);have ar5:=ar4.put (i:=1) (fun s=>(hFa p s).2 rfl) (.slice a4 m c4);have br5:=h4.put (i:=1) na4 (.slice a4 m c4);have B6:Below _ (w4.setCell ⟨p,1,none⟩ (.slice a4 m c4)) ((w4.setCell ⟨p,1,none⟩ (.slice a4 m c4)).alloc (.cells #[.int .i64 n] 3)):=(Below.refl _ _).alloc (Nat.le_refl _) _;have ar6:=ar5.below B6;have one:=sl_one (w4.setCell ⟨p,1,none⟩ (.slice a4 m c4)) n 3;rw [World.size_setCell]at one)
   |(at_builtin;refine app_at _ rfl (.tmp 47) (.tmp 49) 99 rfl base 3 i0 (.int .i64 0) 8 Tryz.underlying99 hi0 hz0 hz1 hz2 rfl a L.length ca (ints L) rfl ar6 _ 1 1 [.int .i64 n] rfl one (ints_one [n]) hcap (by omega) (by simp;omega) ?_;intro a3 c3 w3 h3 g3 s3;have row3:=row5.keep ((Keep.of (F:=fun k=>Slot a k) B6).grown g3 (fun k e=>Or.inl (own_slot ar5 e))) row5.lt (fun s=>(hFa p s).2 rfl);have r30:=row3.free 0 (by simp);have r31:=row3.cell 0 _ rfl))
  go_ret
  have k5:Keep F w (w4.setCell ⟨p,1,none⟩ (.slice a4 m c4)):=((Keep.of hB0).grown g4 (fun k e=>Or.inr (by simp [Value.ownBlock]at e;omega))).set (Or.inl hp) _
  rw [HM.out]at row5 br5 k5
  refine⟨rfl,?_⟩
  exact ArR.lend hft k5 row5 (by rw [←HM.out];exact ar5) br5 hp hFa (fun k s=>⟨Or.inr (s4' k s),by have:=s4' k s;omega,fun q=>by have:=s4' k s;have:=(ha.lt q).1;omega⟩) (by rw [←HM.out];exact B6) h3 g3 s3
theorem ArR.back{base p:Nat}{L B:List Int}{T:Nat}{F:Nat→Prop}{w w1 w2 w3:World}{a b b':Option Addr}{ca cb c':Nat}{n:Int}(hft: ∀ k,F k→base≤k∧k<w.heap.size)
  (hk:Keep F w w1) (hrow:Row w1 p [.slice a L.length ca, .slice b B.length cb, .int .i64 (T:Int)]) (ha:Own w1 base 3 a L.length ca (ints L)) (hb:Own w1 base 3 b B.length cb (ints B)) (hp:F p) (hFa: ∀ k,Slot a k→(F k∨w.heap.size≤k)∧k≠p) (hFb: ∀ k,Slot b k→F k∧k≠p∧ ¬Slot a k)
  (h2:Below w1.heap.size w1 w2) (h3:Own w3 base 3 b' (B.length+1) c' (ints B++ [.int .i64 n])) (hg:w2.grownBy w3 (Value.slice b B.length cb).ownBlock) (hs: ∀ k,Slot b' k→Slot b k∨w2.heap.size≤k):
  Left (ArR base p L (B++ [n]) T) F w (w3.setCell ⟨p,1,none⟩ (.slice b' (B.length+1) c')):=by
 have hown: ∀ k,(Value.slice b B.length cb).ownBlock=some k→Slot b k:=fun k e=>own_slot hb e
 have k2:Keep F w w2:=hk.to h2
 have k3:Keep F w w3:=k2.grown hg (fun k e=>Or.inl (hFb k (hown k e)).1)
 have k4:Keep F w (w3.setCell ⟨p,1,none⟩ (.slice b' (B.length+1) c')):=k3.set (Or.inl hp) _
 have K23:Keep (fun k=>Slot b k) w1 w3:=(Keep.of h2).grown hg (fun k e=>Or.inl (hown k e))
 have hpl:p<w1.heap.size:=hrow.lt
 have row3:=hrow.keep K23 hpl (fun s=>(hFb p s).2.1 rfl)
 have a3:=ha.keep K23 (fun k s q=>(hFb k q).2.2 s)
 have nb': ¬Slot b' p:=fun s=>(hs p s).elim (fun s=>(hFb p s).2.1 rfl) (fun e=>by have:=h2.size;omega)
 have na': ¬Slot a p:=fun s=>(hFa p s).2 rfl
 refine⟨k4,fun k=>F k∨(w.heap.size≤k∧k<w3.heap.size),⟨⟨a,ca,b',c',?_,a3.put na' _,?_,Or.inl hp,?_,?_⟩,?_⟩,fun k hk=>hk.imp id (fun e=>e.1)⟩
 ·have:=row3.set 1 (.slice b' (B.length+1) c') (by simp)
  rw [List.length_append]
  exact this
 ·rw [List.length_append,ints_append]
  exact h3.put nb' _
 ·intro k s
  exact⟨(hFa k s).1.imp id (fun e=>⟨e,(a3.lt s).1⟩),(hFa k s).2⟩
 ·intro k s
  refine⟨(hs k s).elim (fun s=>Or.inl (hFb k s).1) (fun e=>Or.inr ⟨by have:=h2.size;have:=hk.size;omega,(h3.lt s).1⟩),fun e=>nb' (e▸s),fun s'=>(hs k s).elim (fun q=>(hFb k q).2.2 s') (fun e=>by have:=h2.size;have:=(ha.lt s').1;omega)⟩
 ·intro k hk'
  have:=k4.size
  have hb2:base≤w.heap.size:=by have:=hft p hp;omega
  rcases hk' with e|e
  ·exact⟨(hft k e).1,by have:=(hft k e).2;omega⟩
  ·exact⟨by omega,by simp;exact e.2⟩
set_option maxRecDepth 100000 in
set_option maxHeartbeats 1000000 in
theorem anFree(base p:Nat)(L B:List Int)(T:Nat)(F:Nat→Prop)(n:Int)(w:World)(h:ArR base p L B T F w)(hL:L.length≤1000)(hB:B.length≤1000)(hn:n∈L){M:List Int}(hM:M=L.filter (fun y=>decide (y≠n))):
  Calls Tryz.prog 96 #[.pointer (some ⟨p,0,none⟩), .int .i64 n] w fun e w'=>e= .returned (.bool true)∧Left (ArR base p M (B++ [n]) T) F w w':=by
 obtain⟨a,ca,b,cb,hrow,ha,hb,hp,hFa,hFb⟩:=h.ex
 obtain⟨i0,hi0,hz0,hz1,hz2⟩:=info_of infoI
 have hft:=h.ft
 have q0:=hrow.cell 0 _ rfl
 have hpb:=(hft p hp).1
 have hpl:=(hft p hp).2
 have HR:Hid (true=decide (n∈L)):=(decide_eq_true hn).symm
 have HM:Hid _:=hM
 have hcap:B.length+1≤maxLen:=by unfold maxLen;omega
 clear hn hM
 go_enter Tryz.func96,Tryz.ntmps96
 go_wp2_with (first
  |(go_at_call 118;refine(anIn a L.length ca L n w ha.sl (by omega) HR.out).mono ?_;rintro e w1 ⟨rfl,b1⟩;have k1:Keep (fun _=>False) w w1:=Keep.of b1;have row1:=hrow.keep k1 hpl (fun x=>x);have c10:=row1.cell 0 _ rfl;have a1:=ha.below b1;have bb1:=hb.below b1)
  |(go_at_call 119;refine(anWithout a L.length ca L n w1 a1.sl (by omega) HM.out).mono ?_;rintro e w2 ⟨a2,c2,rfl,o2,b2⟩;have z1:=b1.size;have z2:=b2.size;have row2:=row1.keep (Keep.of (F:=fun _=>False) b2) row1.lt (fun x=>x);have bb2:=bb1.below b2;have c20:=row2.cell 0 _ rfl;have c21:=row2.cell 1 _ rfl;have f20:=row2.free 0 (by simp);have f21:=row2.free 1 (by simp);have row3:Row (w2.setCell ⟨p,0,none⟩ (.slice a2 M.length c2)) p [.slice a2 M.length c2, .slice b B.length cb, .int .i64 (T:Int)]:=row2.set 0 _ (by simp);have na2: ¬Slot a2 p:=fun s=>(by have:=(o2.lt s).2;omega);have o3:=(o2.mono (base':=base) (by omega)).put (i:=0) na2 (.slice a2 M.length c2);have bb3:=bb2.put (i:=0) (fun s=>(hFb p s).2.1 rfl) (.slice a2 M.length c2);have B4:Below _ (w2.setCell ⟨p,0,none⟩ (.slice a2 M.length c2)) ((w2.setCell ⟨p,0,none⟩ (.slice a2 M.length c2)).alloc (.cells #[.int .i64 n] 3)):=(Below.refl _ _).alloc (Nat.le_refl _) _;have bb4:=bb3.below B4;have one:=sl_one (w2.setCell ⟨p,0,none⟩ (.slice a2 M.length c2)) n 3;rw [World.size_setCell]at one)
  |(at_builtin;refine app_at _ rfl (.tmp 25) (.tmp 27) 99 rfl base 3 i0 (.int .i64 0) 8 Tryz.underlying99 hi0 hz0 hz1 hz2 rfl b B.length cb (ints B) rfl bb4 _ 1 1 [.int .i64 n] rfl one (ints_one [n]) hcap (by omega) (by simp;omega) ?_;intro a5 c5 w5 h5 g5 s5;have row5:=row3.keep ((Keep.of (F:=fun k=>Slot b k) B4).grown g5 (fun k e=>Or.inl (own_slot bb3 e))) row3.lt (fun s=>(hFb p s).2.1 rfl);have r50:=row5.free 1 (by simp);have r51:=row5.cell 1 _ rfl))
 go_ret
 have k3:Keep F w (w2.setCell ⟨p,0,none⟩ (.slice a2 M.length c2)):=((Keep.of b1).to b2).set (Or.inl hp) _
 refine⟨rfl,?_⟩
 exact ArR.back hft k3 row3 o3 bb3 hp (fun k s=>⟨Or.inr (by have:=(o2.lt s).2;omega),by have:=(o2.lt s).2;omega⟩) (fun k s=>⟨(hFb k s).1,(hFb k s).2.1,fun q=>by have:=(o2.lt q).2;have:=(hb.lt s).1;omega⟩) B4 h5 g5 s5
abbrev ptR(p:Nat):Value:= .pointer (some ⟨p,0,none⟩)
def vtC(a:Vt):List Value:= [.int .i64 a.no, .int .i64 a.x, .int .i64 a.y, .int .i64 a.id]
def trC(t:Tr):List Value:= [.int .i64 t.v0, .int .i64 t.v1, .int .i64 t.v2, .int .i64 t.x0, .int .i64 t.y0, .int .i64 t.x1, .int .i64 t.y1, .int .i64 t.x2, .int .i64 t.y2]
def ceC(c:Ce):List Value:= .int .i64 c.no::trC c.t
abbrev trV(t:Tr):Value:= .agg #[.int .i64 t.v0, .int .i64 t.v1, .int .i64 t.v2, .int .i64 t.x0, .int .i64 t.y0, .int .i64 t.x1, .int .i64 t.y1, .int .i64 t.x2, .int .i64 t.y2]
theorem vtC_len(a:Vt):(vtC a).length=4:=rfl
theorem ceC_len(c:Ce):(ceC c).length=10:=rfl
theorem vtC_one(a:Vt): ∀ u∈vtC a,u.oneCell'=true:=by intro u hu;simp [vtC]at hu;rcases hu with rfl|rfl|rfl|rfl<;>rfl
theorem ceC_one(c:Ce): ∀ u∈ceC c,u.oneCell'=true:=by
 intro u hu
 simp [ceC,trC]at hu
 rcases hu with rfl|rfl|rfl|rfl|rfl|rfl|rfl|rfl|rfl|rfl<;>rfl
structure MeR(base p:Nat)(S:Ms)(F:Nat→Prop)(w:World):Prop where
 ex: ∃ (pv pf:Nat) (Fv Ff:Nat→Prop) (a:Option Addr) (ca:Nat) (b:Option Addr) (cb:Nat),
  Row w p [.int .i64 S.n,ptR pv,ptR pf, .slice a S.V.length ca, .slice b S.C.length cb]∧ArR base pv S.av.L S.av.B S.av.T Fv w∧ArR base pf S.af.L S.af.B S.af.T Ff w∧
  OwnS w base 134 4 a S.V.length ca (flat vtC S.V)∧OwnS w base 83 10 b S.C.length cb (flat ceC S.C)∧
  F p∧(∀ k,Fv k→F k∧k≠p)∧(∀ k,Ff k→F k∧k≠p∧ ¬Fv k)∧(∀ k,Slot a k→F k∧k≠p∧ ¬Fv k∧ ¬Ff k)∧(∀ k,Slot b k→F k∧k≠p∧ ¬Fv k∧ ¬Ff k)
 ft: ∀ k,F k→base≤k∧k<w.heap.size
theorem MeR.keep{base p:Nat}{S:Ms}{F G:Nat→Prop}{w w':World}(h:MeR base p S F w)(hk:Keep G w w')(hd: ∀ k,F k→ ¬G k):MeR base p S F w':=by
 obtain⟨pv,pf,Fv,Ff,a,ca,b,cb,hrow,hv,hf,ha,hb,hp,hFv,hFf,hFa,hFb⟩:=h.ex
 exact⟨⟨pv,pf,Fv,Ff,a,ca,b,cb,hrow.keep hk hrow.lt (hd p hp),hv.keep hk (fun k s=>hd k (hFv k s).1),hf.keep hk (fun k s=>hd k (hFf k s).1),ha.keep hk (fun k s=>hd k (hFa k s).1),hb.keep hk (fun k s=>hd k (hFb k s).1),hp,hFv,hFf,hFa,hFb⟩,fun k hF=>⟨(h.ft k hF).1,Nat.lt_of_lt_of_le (h.ft k hF).2 hk.size⟩⟩
theorem MeR.below{base p:Nat}{S:Ms}{F:Nat→Prop}{w w':World}(h:MeR base p S F w)(hb:Below w.heap.size w w'):MeR base p S F w':=h.keep (Keep.of (F:=fun _=>False) hb) (fun _ _ x=>x)
structure MeLook(p:Nat)(S:Ms)(w:World):Prop where
 ex: ∃ (x y:Value) (base:Nat) (a:Option Addr) (ca:Nat) (b:Option Addr) (cb:Nat),
  Row w p [.int .i64 S.n,x,y, .slice a S.V.length ca, .slice b S.C.length cb]∧OwnS w base 134 4 a S.V.length ca (flat vtC S.V)∧OwnS w base 83 10 b S.C.length cb (flat ceC S.C)
theorem MeR.look{base p:Nat}{S:Ms}{F:Nat→Prop}{w:World}(h:MeR base p S F w):MeLook p S w:=by
 obtain⟨pv,pf,Fv,Ff,a,ca,b,cb,hrow,hv,hf,ha,hb,_⟩:=h.ex
 exact⟨_,_,base,a,ca,b,cb,hrow,ha,hb⟩
theorem MeLook.below{p:Nat}{S:Ms}{w w':World}(h:MeLook p S w)(hb:Below w.heap.size w w'):MeLook p S w':=by
 obtain⟨x,y,base,a,ca,b,cb,hrow,ha,hb2⟩:=h.ex
 exact⟨x,y,base,a,ca,b,cb,hrow.keep (Keep.of (F:=fun _=>False) hb) hrow.lt (fun x=>x),ha.below hb,hb2.below hb⟩
theorem MeLook.vert{p:Nat}{S:Ms}{w:World}(h:MeLook p S w){k:Nat}{v:Vt}(hk:S.V[k]? =some v): ∃ (b c:Nat) (x y z:Value),Row w p [.int .i64 S.n,x,y, .slice (some ⟨b,0,none⟩) S.V.length c,z]∧S.V.length≤c∧b<w.heap.size∧w.cell? ⟨b,k*4,none⟩=some (.int .i64 v.no)∧w.cell? ⟨b,k*4+1,none⟩=some (.int .i64 v.x)∧w.cell? ⟨b,k*4+2,none⟩=some (.int .i64 v.y)∧w.cell? ⟨b,k*4+3,none⟩=some (.int .i64 v.id):=by
 obtain⟨x,y,base,a,ca,b,cb,hrow,ha,hb⟩:=h.ex
 obtain⟨g,rfl,hg,_,hseg⟩:=ha.at (by have:=(List.getElem?_eq_some_iff.1 hk).1;omega)
 have H: ∀ j u,(vtC v)[j]? =some u→w.cell? ⟨g,k*4+j,none⟩=some u:=fun j u hj=>by
  have:=hseg.cell _ u (flat_at vtC_len hk hj)
  rw [Nat.zero_add]at this
  exact this
 exact⟨g,ca,x,y,_,hrow,ha.room.1,hg,H 0 _ rfl,H 1 _ rfl,H 2 _ rfl,H 3 _ rfl⟩
theorem MeLook.face{p:Nat}{S:Ms}{w:World}(h:MeLook p S w){k:Nat}{c:Ce}(hk:S.C[k]? =some c): ∃ (b cp:Nat) (x y z:Value),Row w p [.int .i64 S.n,x,y,z, .slice (some ⟨b,0,none⟩) S.C.length cp]∧S.C.length≤cp∧b<w.heap.size∧ ∀ j u,(ceC c)[j]? =some u→w.cell? ⟨b,k*10+j,none⟩=some u:=by
 obtain⟨x,y,base,a,ca,b,cb,hrow,ha,hb⟩:=h.ex
 obtain⟨g,rfl,hg,_,hseg⟩:=hb.at (by have:=(List.getElem?_eq_some_iff.1 hk).1;omega)
 refine⟨g,cb,x,y,_,hrow,hb.room.1,hg,fun j u hj=>?_⟩
 have:=hseg.cell _ u (flat_at ceC_len hk hj)
 rw [Nat.zero_add]at this
 exact this
theorem MeLook.row{p:Nat}{S:Ms}{w:World}(h:MeLook p S w): ∃ (x y:Value) (a:Option Addr) (ca:Nat) (b:Option Addr) (cb:Nat),Row w p [.int .i64 S.n,x,y, .slice a S.V.length ca, .slice b S.C.length cb]:=by
 obtain⟨x,y,base,a,ca,b,cb,hrow,ha,hb⟩:=h.ex
 exact⟨x,y,a,ca,b,cb,hrow⟩
set_option maxRecDepth 100000 in
theorem mrVertAt(p:Nat)(S:Ms)(v:Int)(w:World)(h:MeLook p S w)(hV:S.V.length≤1000){r:Int}(hr:r=fAt Vt.no v S.V 0):
  Calls Tryz.prog 92 #[ptR p, .int .i64 v] w fun e w'=>e= .returned (.int .i64 r)∧Below w.heap.size w w':=by
 have HR:Hid _:=hr
 clear hr
 go_enter Tryz.func92,Tryz.ntmps92
 go_wp2
 go_loopw [5] (fun i wr=> ∃ k:Nat,k≤S.V.length∧i= .int .i64 (k:Int)∧fAt Vt.no v S.V 0=fAt Vt.no v (S.V.drop k) (k:Int)∧Below w.heap.size w wr) (fun i _=>S.V.length- (intOf i).toNat)
 case atStart=>exact⟨0,by omega,rfl,by simp,Below.refl _ _⟩
 case round=>
  obtain⟨k,hk,rfl,hd,bel⟩:=hrel
  by_cases hlt:k<S.V.length
  ·obtain⟨x,hx⟩: ∃ x,S.V[k]? =some x:=⟨S.V[k],List.getElem?_eq_getElem hlt⟩
   obtain⟨b,c,y1,y2,y3,hrow,hc,_,q,_⟩:=(h.below bel).vert hx
   have q3:=hrow.cell 3 _ rfl
   rw [fAt_drop hx]at hd
   have HD:Hid _:=hd
   obtain⟨n,hn⟩: ∃ n,n=S.V.length:=⟨_,rfl⟩
   rw [←hn]at q3 hlt hc hV ⊢
   have HN:Hid _:=hn
   clear hd hx hrow hn hk
   by_cases hxn:x.no=v
   ·have hxn':(x.no==v)=true:=by simpa using hxn
    go_wp2
    go_ret
    exact⟨by rw [HR.out,HD.out,if_pos hxn];rfl,bel⟩
   ·have hxn':(x.no==v)=false:=by simpa using hxn
    go_wp2
    go_roundw
    case rel=>exact⟨k+1,by omega,by simp,by rw [HD.out,if_neg hxn],bel⟩
    case measure=>simp [intOf];omega
  ·obtain⟨y1,y2,a,ca,b,cb,hrow⟩:=(h.below bel).row
   have q3:=hrow.cell 3 _ rfl
   obtain rfl:k=S.V.length:=by omega
   have hno:fAt Vt.no v S.V 0= -1:=by rw [hd,List.drop_length];rfl
   obtain⟨n,hn⟩: ∃ n,n=S.V.length:=⟨_,rfl⟩
   rw [←hn]at q3 ⊢
   go_wp2
   go_ret
   exact⟨by rw [HR.out,hno];rfl,bel⟩
set_option maxRecDepth 100000 in
theorem mrFaceAt(p:Nat)(S:Ms)(v:Int)(w:World)(h:MeLook p S w)(hC:S.C.length≤1000){r:Int}(hr:r=fAt Ce.no v S.C 0):
  Calls Tryz.prog 27 #[ptR p, .int .i64 v] w fun e w'=>e= .returned (.int .i64 r)∧Below w.heap.size w w':=by
 have HR:Hid _:=hr
 clear hr
 go_enter Tryz.func27,Tryz.ntmps27
 go_wp2
 go_loopw [5] (fun i wr=> ∃ k:Nat,k≤S.C.length∧i= .int .i64 (k:Int)∧fAt Ce.no v S.C 0=fAt Ce.no v (S.C.drop k) (k:Int)∧Below w.heap.size w wr) (fun i _=>S.C.length- (intOf i).toNat)
 case atStart=>exact⟨0,by omega,rfl,by simp,Below.refl _ _⟩
 case round=>
  obtain⟨k,hk,rfl,hd,bel⟩:=hrel
  by_cases hlt:k<S.C.length
  ·obtain⟨x,hx⟩: ∃ x,S.C[k]? =some x:=⟨S.C[k],List.getElem?_eq_getElem hlt⟩
   obtain⟨b,c,y1,y2,y3,hrow,hc,hbl,H⟩:=(h.below bel).face hx
   have q:wr.cell? ⟨b,k*10,none⟩=some (.int .i64 x.no):=H 0 _ rfl
   have q3:=hrow.cell 4 _ rfl
   rw [fAt_drop hx]at hd
   have HD:Hid _:=hd
   obtain⟨n,hn⟩: ∃ n,n=S.C.length:=⟨_,rfl⟩
   rw [←hn]at q3 hlt hc hC ⊢
   have HN:Hid _:=hn
   clear hd hx hrow hn hk H
   by_cases hxn:x.no=v
   ·have hxn':(x.no==v)=true:=by simpa using hxn
    go_wp2
    go_ret
    exact⟨by rw [HR.out,HD.out,if_pos hxn];rfl,bel⟩
   ·have hxn':(x.no==v)=false:=by simpa using hxn
    go_wp2
    go_roundw
    case rel=>exact⟨k+1,by omega,by simp,by rw [HD.out,if_neg hxn],bel⟩
    case measure=>simp [intOf];omega
  ·obtain⟨y1,y2,a,ca,b,cb,hrow⟩:=(h.below bel).row
   have q3:=hrow.cell 4 _ rfl
   obtain rfl:k=S.C.length:=by omega
   have hno:fAt Ce.no v S.C 0= -1:=by rw [hd,List.drop_length];rfl
   obtain⟨n,hn⟩: ∃ n,n=S.C.length:=⟨_,rfl⟩
   rw [←hn]at q3 ⊢
   go_wp2
   go_ret
   exact⟨by rw [HR.out,hno];rfl,bel⟩
theorem mrHas(t:Tr)(v:Int)(w:World){r:Bool}(hr:r=has t v):Calls Tryz.prog 120 #[trV t, .int .i64 v] w fun e w'=>e= .returned (.bool r)∧Below w.heap.size w w':=by
 have hB: ∀ o,Below w.heap.size w (w.alloc o):=fun o=>(Below.refl _ _).alloc (Nat.le_refl _) _
 have HR:Hid _:=hr
 clear hr
 by_cases h0:t.v0=v
 ·have e0:(t.v0==v)=true:=by simpa using h0
  obtain rfl:r=true:=by rw [HR.out];simp [has,h0]
  go_enter Tryz.func120,Tryz.ntmps120
  go_wp2
  go_ret
  exact⟨rfl,hB _⟩
 ·have e0:(t.v0==v)=false:=by simpa using h0
  by_cases h1:t.v1=v
  ·have e1:(t.v1==v)=true:=by simpa using h1
   obtain rfl:r=true:=by rw [HR.out];simp [has,h1]
   go_enter Tryz.func120,Tryz.ntmps120
   go_wp2
   go_ret
   exact⟨rfl,hB _⟩
  ·have e1:(t.v1==v)=false:=by simpa using h1
   have e2:(t.v2==v)=r:=by rw [HR.out];simp [has,h0,h1];exact Bool.eq_iff_iff.2 (by simp)
   go_enter Tryz.func120,Tryz.ntmps120
   go_wp2
   go_ret
   exact⟨by rw [←e2];rfl,hB _⟩
set_option maxRecDepth 100000 in
set_option maxHeartbeats 1000000 in
theorem mrAround(p:Nat)(S:Ms)(v:Int)(w:World)(h:MeLook p S w)(hC:S.C.length≤1000){M:List Int}(hM:M=around S.C v):
  Calls Tryz.prog 97 #[ptR p, .int .i64 v] w (GotL w M):=by
 have HM:Hid _:=hM
 obtain⟨i0,hi0,hz0,hz1,hz2⟩:=info_of infoI
 have hown0:=own_new w w.heap.size 3 (Nat.le_refl _)
 have hB0:Below w.heap.size w (w.alloc (.cells #[] 3)):=(Below.refl _ _).alloc (Nat.le_refl _) _
 clear hM
 go_enter Tryz.func97,Tryz.ntmps97
 go_wp2
 go_loopw [5,6] (fun s i wr=> ∃ k:Nat,k≤S.C.length∧i= .int .i64 (k:Int)∧ ∃ (a:Option Addr) (c:Nat),s= .slice a (around (S.C.take k) v).length c∧Own wr w.heap.size 3 a (around (S.C.take k) v).length c (ints (around (S.C.take k) v))∧Below w.heap.size w wr) (fun _ i _=>S.C.length- (intOf i).toNat)
 case atStart=>exact⟨0,by omega,rfl,_,_,rfl,hown0,hB0⟩
 case round=>
  clear hown0 hB0
  obtain⟨k,hk,rfl,a2,c2,rfl,hown,bel⟩:=hrel
  have hl:=h.below bel
  obtain⟨M',hM'⟩: ∃ M',M'=around (S.C.take k) v:=⟨_,rfl⟩
  have hml:M'.length≤k:=by rw [hM'];unfold around;rw [List.length_map];exact Nat.le_trans (List.length_filter_le _ _) (by rw [List.length_take];omega)
  rw [←hM']at hown ⊢
  by_cases hlt:k<S.C.length
  ·obtain⟨x,hx⟩: ∃ x,S.C[k]? =some x:=⟨S.C[k],List.getElem?_eq_getElem hlt⟩
   have hnx:=around_take (v:=v) hx
   rw [←hM']at hnx
   obtain⟨b,c,y1,y2,y3,hrow,hc,hbl,H⟩:=hl.face hx
   have g0:wr.cell? ⟨b,k*10,none⟩=some (.int .i64 x.no):=H 0 _ rfl
   have g1:=H 1 _ rfl
   have g2:=H 2 _ rfl
   have g3:=H 3 _ rfl
   have g4:=H 4 _ rfl
   have g5:=H 5 _ rfl
   have g6:=H 6 _ rfl
   have g7:=H 7 _ rfl
   have g8:=H 8 _ rfl
   have g9:=H 9 _ rfl
   have q4:=hrow.cell 4 _ rfl
   have hpl:=hrow.lt
   obtain⟨r,hr⟩: ∃ r,r=has x.t v:=⟨_,rfl⟩
   have HR:Hid _:=hr
   have hbs:=bel.size
   obtain⟨n,hn⟩: ∃ n,n=S.C.length:=⟨_,rfl⟩
   rw [←hn]at q4 hlt hc hC ⊢
   have hL:Hid _:=hl
   cases r with
   |false=>
    have HN:Hid (around (S.C.take (k+1)) v=M'):=by unfold Hid;rw [hnx,←hr];simp
    clear hr hnx hM' hn hk H hrow hx hl h
    go_wp2_with (go_at_call 120;go_loud (refine(mrHas x.t v wr HR.out).mono ?_;rintro e w1 ⟨rfl,b1⟩))
    go_roundw
    case rel=>exact⟨k+1,by omega,by simp,a2,c2,by rw [HN.out],by rw [HN.out];exact hown.below b1,bel.trans (b1.mono bel.size)⟩
    case measure=>simp [intOf];omega
   |true=>
    have HN:Hid (around (S.C.take (k+1)) v=M'++ [x.no]):=by unfold Hid;rw [hnx,←hr];simp
    have hcap:M'.length+1≤maxLen:=by unfold maxLen;omega
    clear hr hnx hM' hn hk H hrow hx hl h
    go_wp2_with (first
     |(go_at_call 120;go_loud (refine(mrHas x.t v wr HR.out).mono ?_;rintro e w1 ⟨rfl,b1⟩;have d4:=(b1.cell (p:=⟨p,4,none⟩) hpl).trans q4;have d0:=(b1.cell (p:=⟨b,k*10,none⟩) hbl).trans g0;have o1:=(hown.below b1).below ((Below.refl w1.heap.size w1).alloc (Nat.le_refl _) (.cells #[.int .i64 x.no] 3));have one:=sl_one w1 x.no 3;have z1:=b1.size))
     |(at_builtin;go_loud (refine app_at _ rfl (.tmp 27) (.tmp 36) 99 rfl w.heap.size 3 i0 (.int .i64 0) 8 Tryz.underlying99 hi0 hz0 hz1 hz2 rfl a2 M'.length c2 (ints M') rfl o1 _ 1 1 [.int .i64 x.no] rfl one (ints_one [x.no]) hcap (by omega) (by simp;omega) ?_;intro a3 c3 w3 h3 g3 s3)))
    go_roundw
    case rel=>
     have b3:Below w.heap.size w w3:=(bel.trans ((b1.mono bel.size).trans (((Below.refl w1.heap.size w1).alloc (Nat.le_refl _) _).mono (by omega)))).trans ((Keep.grown (F:=fun k=>Slot a2 k) (Keep.refl _ _) g3 (fun k e=>Or.inl (own_slot hown e))).below (by simp;omega) (fun k s=>(hown.lt s).2))
     exact⟨k+1,by omega,by simp,a3,c3,by rw [HN.out];simp,by rw [HN.out,ints_append,List.length_append];exact h3,b3⟩
    case measure=>simp [intOf];omega
  ·obtain⟨y1,y2,a,ca,b,cb,hrow⟩:=hl.row
   have q3:=hrow.cell 4 _ rfl
   obtain rfl:k=S.C.length:=by omega
   rw [List.take_length]at hM'
   obtain⟨n,hn⟩: ∃ n,n=S.C.length:=⟨_,rfl⟩
   rw [←hn]at q3 ⊢
   go_wp2
   go_ret
   rw [HM.out,←hM']
   exact⟨a2,c2,rfl,hown,bel⟩
structure B3(w:World)(b:Nat)(x0 x1 x2:Value):Prop where
 c0:w.cell? ⟨b,0,none⟩=some x0
 c1:w.cell? ⟨b,1,none⟩=some x1
 c2:w.cell? ⟨b,2,none⟩=some x2
 f0:w.frozen? ⟨b,0,none⟩=false
 f1:w.frozen? ⟨b,1,none⟩=false
 f2:w.frozen? ⟨b,2,none⟩=false
structure B4(w:World)(b:Nat)(x0 x1 x2 x3:Value):Prop where
 c0:w.cell? ⟨b,0,none⟩=some x0
 c1:w.cell? ⟨b,1,none⟩=some x1
 c2:w.cell? ⟨b,2,none⟩=some x2
 c3:w.cell? ⟨b,3,none⟩=some x3
 f0:w.frozen? ⟨b,0,none⟩=false
 f1:w.frozen? ⟨b,1,none⟩=false
 f2:w.frozen? ⟨b,2,none⟩=false
 f3:w.frozen? ⟨b,3,none⟩=false
theorem cell_put1{w:World}{n k i j:Nat}{v:Value}(h:w.cell? ⟨n,i,none⟩=some v)(hk:n≠k)(u:Value):(w.setCell ⟨k,j,none⟩ u).cell? ⟨n,i,none⟩=some v:=by
 rw [World.cell?_setCell_other _ _ _ _ (by intro q;simp only [Addr.mk.injEq]at q;omega)];exact h
theorem cell_put2{w:World}{n k i:Nat}{x:Value}(h:w.cell? ⟨n,i,none⟩=some x)(hk:n≠k)(u v:Value):((w.setCell ⟨k,0,none⟩ u).setCell ⟨k,1,none⟩ v).cell? ⟨n,i,none⟩=some x:=cell_put1 (cell_put1 h hk u) hk v
theorem bs_22(w:World)(x00 x01 x10 x11:Value)(t0 t1:TypeId): ∃ W,W=((w.alloc (.cells #[x00,x01] t0)).alloc (.cells #[x10,x11] t1))∧Below w.heap.size w W∧Bx W (w.heap.size) x00 x01∧Bx W (w.heap.size+1) x10 x11∧w.heap.size+1<W.heap.size:=by
 have e0:Below w.heap.size w (w.alloc (.cells #[x00,x01] t0)):=(Below.refl _ _).alloc (Nat.le_refl _) _
 have h0:=bx_new w x00 x01 t0
 have e1:Below (w.alloc (.cells #[x00,x01] t0)).heap.size (w.alloc (.cells #[x00,x01] t0)) ((w.alloc (.cells #[x00,x01] t0)).alloc (.cells #[x10,x11] t1)):=(Below.refl _ _).alloc (Nat.le_refl _) _
 have h1:=bx_new (w.alloc (.cells #[x00,x01] t0)) x10 x11 t1
 rw [World.size_alloc]at h1
 exact⟨_,rfl,also (e0) e1,(h0.on e1),h1,by simp⟩
theorem bs_2(w:World)(x00 x01:Value)(t0:TypeId): ∃ W,W=(w.alloc (.cells #[x00,x01] t0))∧Below w.heap.size w W∧Bx W (w.heap.size) x00 x01∧w.heap.size<W.heap.size:=by
 have e0:Below w.heap.size w (w.alloc (.cells #[x00,x01] t0)):=(Below.refl _ _).alloc (Nat.le_refl _) _
 have h0:=bx_new w x00 x01 t0
 exact⟨_,rfl,e0,h0,by simp⟩
theorem bs_222(w:World)(x00 x01 x10 x11 x20 x21:Value)(t0 t1 t2:TypeId): ∃ W,W=(((w.alloc (.cells #[x00,x01] t0)).alloc (.cells #[x10,x11] t1)).alloc (.cells #[x20,x21] t2))∧Below w.heap.size w W∧Bx W (w.heap.size) x00 x01∧Bx W (w.heap.size+1) x10 x11∧Bx W (w.heap.size+1+1) x20 x21∧w.heap.size+1+1<W.heap.size:=by
 have e0:Below w.heap.size w (w.alloc (.cells #[x00,x01] t0)):=(Below.refl _ _).alloc (Nat.le_refl _) _
 have h0:=bx_new w x00 x01 t0
 have e1:Below (w.alloc (.cells #[x00,x01] t0)).heap.size (w.alloc (.cells #[x00,x01] t0)) ((w.alloc (.cells #[x00,x01] t0)).alloc (.cells #[x10,x11] t1)):=(Below.refl _ _).alloc (Nat.le_refl _) _
 have h1:=bx_new (w.alloc (.cells #[x00,x01] t0)) x10 x11 t1
 rw [World.size_alloc]at h1
 have e2:Below ((w.alloc (.cells #[x00,x01] t0)).alloc (.cells #[x10,x11] t1)).heap.size ((w.alloc (.cells #[x00,x01] t0)).alloc (.cells #[x10,x11] t1)) (((w.alloc (.cells #[x00,x01] t0)).alloc (.cells #[x10,x11] t1)).alloc (.cells #[x20,x21] t2)):=(Below.refl _ _).alloc (Nat.le_refl _) _
 have h2:=bx_new ((w.alloc (.cells #[x00,x01] t0)).alloc (.cells #[x10,x11] t1)) x20 x21 t2
 rw [World.size_alloc,World.size_alloc]at h2
 exact⟨_,rfl,also (also (e0) e1) e2,((h0.on e1).on e2),(h1.on e2),h2,by simp⟩
theorem bs_2222(w:World)(x00 x01 x10 x11 x20 x21 x30 x31:Value)(t0 t1 t2 t3:TypeId): ∃ W,W=((((w.alloc (.cells #[x00,x01] t0)).alloc (.cells #[x10,x11] t1)).alloc (.cells #[x20,x21] t2)).alloc (.cells #[x30,x31] t3))∧Below w.heap.size w W∧Bx W (w.heap.size) x00 x01∧Bx W (w.heap.size+1) x10 x11∧Bx W (w.heap.size+1+1) x20 x21∧Bx W (w.heap.size+1+1+1) x30 x31∧w.heap.size+1+1+1<W.heap.size:=by
 have e0:Below w.heap.size w (w.alloc (.cells #[x00,x01] t0)):=(Below.refl _ _).alloc (Nat.le_refl _) _
 have h0:=bx_new w x00 x01 t0
 have e1:Below (w.alloc (.cells #[x00,x01] t0)).heap.size (w.alloc (.cells #[x00,x01] t0)) ((w.alloc (.cells #[x00,x01] t0)).alloc (.cells #[x10,x11] t1)):=(Below.refl _ _).alloc (Nat.le_refl _) _
 have h1:=bx_new (w.alloc (.cells #[x00,x01] t0)) x10 x11 t1
 rw [World.size_alloc]at h1
 have e2:Below ((w.alloc (.cells #[x00,x01] t0)).alloc (.cells #[x10,x11] t1)).heap.size ((w.alloc (.cells #[x00,x01] t0)).alloc (.cells #[x10,x11] t1)) (((w.alloc (.cells #[x00,x01] t0)).alloc (.cells #[x10,x11] t1)).alloc (.cells #[x20,x21] t2)):=(Below.refl _ _).alloc (Nat.le_refl _) _
 have h2:=bx_new ((w.alloc (.cells #[x00,x01] t0)).alloc (.cells #[x10,x11] t1)) x20 x21 t2
 rw [World.size_alloc,World.size_alloc]at h2
 have e3:Below (((w.alloc (.cells #[x00,x01] t0)).alloc (.cells #[x10,x11] t1)).alloc (.cells #[x20,x21] t2)).heap.size (((w.alloc (.cells #[x00,x01] t0)).alloc (.cells #[x10,x11] t1)).alloc (.cells #[x20,x21] t2)) ((((w.alloc (.cells #[x00,x01] t0)).alloc (.cells #[x10,x11] t1)).alloc (.cells #[x20,x21] t2)).alloc (.cells #[x30,x31] t3)):=(Below.refl _ _).alloc (Nat.le_refl _) _
 have h3:=bx_new (((w.alloc (.cells #[x00,x01] t0)).alloc (.cells #[x10,x11] t1)).alloc (.cells #[x20,x21] t2)) x30 x31 t3
 rw [World.size_alloc,World.size_alloc,World.size_alloc]at h3
 exact⟨_,rfl,also (also (also (e0) e1) e2) e3,(((h0.on e1).on e2).on e3),((h1.on e2).on e3),(h2.on e3),h3,by simp⟩
def smOk(z:Int):Bool:=decide (-9223372036854775808≤z∧z≤9223372036854775807)
def smV(z:Int):Int:=if smOk z then z else 0
end Go.Proofs.YtaadknpjbogkbaaGreat
