/-
  Joined texts, part 7:
  Where the corners of a moved face lie; a face by its number.
  The walk: where the corners of a moved face lie, across from which of them a point lies ou
  What walk's corners and outside answer, over what the mesh must do.
  What package pred's Where answers.
  What walk's liesIn answers, over what the mesh must do.
  In which ways a face is moved when all are looked at.
-/
import Derived.Test.YtaadknpjbogkbaaP4
import Derived.Test.YtaadknpjbogkbaaP3
import Derived.Test.YtaadknpjbogkbaaP2
import Derived.Test.YtaadknpjbogkbaaP6
namespace Go.Proofs.Ytaadknpjbogkbaa
open Go.RowKit
set_option linter.unusedVariables false
def mvOk(S:Ms)(t:Tr)(i:Nat)(x y:Int):Bool:=atC (plX S t i) (plY S t i) x y S.n
def mvX(S:Ms)(t:Tr)(i:Nat)(x:Int):Int:=plX S t i+x*S.n
def mvY(S:Ms)(t:Tr)(i:Nat)(y:Int):Int:=plY S t i+y*S.n
theorem wgFace{S:Ms}{m:Nat}(O:MsOk S m){c:Ce}(hc:c∈S.C):faceOf S c.no=c.t∧S.C.find? (fun d=>decide (d.no=c.no))=some c:=by
 have key: ∀ L:List Ce,L.Pairwise (fun a b=>a.no<b.no)→c∈L→L.find? (fun d=>decide (d.no=c.no))=some c:=by
  intro L
  induction L with
  |nil=>intro _ h;cases h
  |cons d L ih=>
   intro hp hc
   rw [List.find?_cons]
   rcases List.mem_cons.1 hc with q|q
   ·rw [←q,decide_eq_true rfl]
   ·have:=(List.pairwise_cons.1 hp).1 c q
    rw [decide_eq_false (by omega)]
    exact ih (List.pairwise_cons.1 hp).2 q
 have k:=key S.C O.fs hc
 exact⟨by unfold faceOf;rw [k],k⟩
theorem wg64{S:Ms}{m:Nat}(O:MsOk S m)(hm:m≤1000){c:Ce}(hc:c∈S.C):In64 c.no∧0≤c.no:=by
 have:=O.fmem hc
 have:=O.ft
 exact⟨⟨by omega,by omega⟩,by omega⟩
def mvAll(S:Ms)(t:Tr)(x y:Int):Bool:=mvOk S t 0 x y && (mvOk S t 1 x y && mvOk S t 2 x y)
def sgQ(S:Ms)(t:Tr)(x y qx qy:Int)(i:Nat):Int:=(areaP (mvX S t (nx i) x) (mvY S t (nx i) y) (mvX S t (nx (nx i)) x) (mvY S t (nx (nx i)) y) qx qy).sign
def outK(S:Ms)(t:Tr)(x y qx qy:Int):Int:=if sgQ S t x y qx qy 0= -1 then 0 else if sgQ S t x y qx qy 1= -1 then 1 else if sgQ S t x y qx qy 2= -1 then 2 else -1
def outI(S:Ms)(t:Tr)(x y qx qy:Int):Int:=if mvAll S t x y=true then outK S t x y qx qy else -2
def stepC(S:Ms)(c:Ce)(i:Nat):Option (Ce×Int×Int):=match acr c.t (nx i) S.C with
 |none=>none
 |some r=>some (r.1,c.t.x (nx (nx i))- r.1.t.x r.2,c.t.y (nx (nx i))- r.1.t.y r.2)
def goW(S:Ms)(qx qy:Int):Nat→Ce→Int→Int→Option (Ce×Int×Int)×Nat
 |0,c,x,y=>if outI S c.t x y qx qy= -1 then(some (c,x,y),0)else(none,0)
 |k+1,c,x,y=>
  if outI S c.t x y qx qy= -1 then(some (c,x,y),0)
  else if outI S c.t x y qx qy= -2 then(none,0)
  else match stepC S c (outI S c.t x y qx qy).toNat with
   |none=>(none,0)
   |some r=>((goW S qx qy k r.1 (x+r.2.1) (y+r.2.2)).1,(goW S qx qy k r.1 (x+r.2.1) (y+r.2.2)).2+1)
def tryX(t:Tr)(k:Nat):Int:=((k/7:Nat):Int)- 3- t.x 0
def tryY(t:Tr)(k:Nat):Int:=((k % 7:Nat):Int)- 3- t.y 0
def tryF(S:Ms)(t:Tr)(qx qy:Int):Nat→Nat→Option (Int×Int)
 |0,_=>none
 |n+1,k=>if outI S t (tryX t k) (tryY t k) qx qy= -1 then some (tryX t k,tryY t k)else tryF S t qx qy n (k+1)
def seekW(S:Ms)(qx qy:Int):List Ce→Option (Ce×Int×Int)
 | []=>none
 |c::L=>match tryF S c.t qx qy 49 0 with
  |some b=>some (c,b.1,b.2)
  |none=>seekW S qx qy L
theorem seekW_drop{S:Ms}{qx qy:Int}{L:List Ce}{k:Nat}{c:Ce}(h:L[k]? =some c):seekW S qx qy (L.drop k)=match tryF S c.t qx qy 49 0 with|some b=>some (c,b.1,b.2)|none=>seekW S qx qy (L.drop (k+1)):=by
 obtain⟨hk,he⟩:=List.getElem?_eq_some_iff.1 h
 rw [List.drop_eq_getElem_cons hk,he]
 rfl
def firstC(S:Ms)(f:Int):Option Ce:=match S.C.find? (fun c=>decide (c.no=f))with
 |some c=>some c
 |none=>S.C.head?
structure Fnd where
 f:Int
 x:Int
 y:Int
 n:Int
 ok:Bool
def noFnd:Fnd:=⟨-1,0,0,0,false⟩
def endF(S:Ms)(qx qy ox oy:Int)(g:Option (Ce×Int×Int)×Nat):Fnd:=match g.1 with
 |some r=>⟨r.1.no,r.2.1+ox,r.2.2+oy,g.2,true⟩
 |none=>match seekW S qx qy S.C with
  |some r=>⟨r.1.no,r.2.1+ox,r.2.2+oy,g.2,true⟩
  |none=>noFnd
def fuelN(fuel:Int):Nat:=if fuel≤0 then 0 else if 1000<fuel then 1000 else fuel.toNat
def findW(S:Ms)(f px py fuel:Int):Fnd:=
 if homeC px py S.n=false then noFnd else match firstC S f with
  |none=>noFnd
  |some c=>endF S (px % S.n) (py % S.n) (px/S.n) (py/S.n) (goW S (px % S.n) (py % S.n) (fuelN fuel) c 0 0)
section
variable {S : Ms} {m : Nat}
theorem goW_here{qx qy:Int}{k:Nat}{c:Ce}{x y:Int}(h:outI S c.t x y qx qy= -1):goW S qx qy k c x y=(some (c,x,y),0):=by
 cases k<;>(unfold goW;rw [if_pos h])
theorem goW_dry{qx qy:Int}{c:Ce}{x y:Int}(h:outI S c.t x y qx qy≠ -1):goW S qx qy 0 c x y=(none,0):=by
 unfold goW;rw [if_neg h]
theorem goW_far{qx qy:Int}{k:Nat}{c:Ce}{x y:Int}(h:outI S c.t x y qx qy= -2):goW S qx qy k c x y=(none,0):=by
 cases k
 ·exact goW_dry (by omega)
 ·unfold goW;rw [if_neg (by omega),if_pos h]
theorem goW_out{qx qy:Int}{k:Nat}{c:Ce}{x y:Int}(h0:0≤outI S c.t x y qx qy)(h:stepC S c (outI S c.t x y qx qy).toNat=none):goW S qx qy k c x y=(none,0):=by
 cases k
 ·exact goW_dry (by omega)
 ·unfold goW;rw [if_neg (by omega),if_neg (by omega),h]
theorem goW_step{qx qy:Int}{k:Nat}{c:Ce}{x y:Int}{r:Ce×Int×Int}(h0:0≤outI S c.t x y qx qy)(h:stepC S c (outI S c.t x y qx qy).toNat=some r):goW S qx qy (k+1) c x y=((goW S qx qy k r.1 (x+r.2.1) (y+r.2.2)).1,(goW S qx qy k r.1 (x+r.2.1) (y+r.2.2)).2+1):=by
 conv=>lhs;unfold goW
 rw [if_neg (by omega),if_neg (by omega),h]
theorem out_cases(S:Ms)(t:Tr)(x y qx qy:Int):(mvAll S t x y=false∧outI S t x y qx qy= -2)∨(mvAll S t x y=true∧outI S t x y qx qy=outK S t x y qx qy∧(outK S t x y qx qy= -1∨outK S t x y qx qy=0∨outK S t x y qx qy=1∨outK S t x y qx qy=2)):=by
 unfold outI
 cases h:mvAll S t x y
 ·left;exact⟨rfl,rfl⟩
 ·right
  refine⟨rfl,rfl,?_⟩
  unfold outK
  by_cases a:sgQ S t x y qx qy 0= -1
  ·rw [if_pos a];simp
  ·rw [if_neg a]
   by_cases b:sgQ S t x y qx qy 1= -1
   ·rw [if_pos b];simp
   ·rw [if_neg b]
    by_cases c:sgQ S t x y qx qy 2= -1
    ·rw [if_pos c];simp
    ·rw [if_neg c];simp
theorem mvAll_iff{t:Tr}{x y:Int}:mvAll S t x y=true↔(mvOk S t 0 x y=true∧mvOk S t 1 x y=true∧mvOk S t 2 x y=true):=by
 unfold mvAll;rw [Bool.and_eq_true_iff,Bool.and_eq_true_iff]
theorem mvd_can{t:Tr}{i:Nat}{x y:Int}(h:mvOk S t i x y=true):canC (mvX S t i x) (mvY S t i y)=true:=by
 obtain⟨_,_,h3,h4⟩:=atC_true.1 h
 exact canC_true.2 ⟨h3,h4⟩
theorem mv_small{t:Tr}{i:Nat}{x y:Int}(h:mvOk S t i x y=true):(-2199023255552≤x∧x≤2199023255552)∧(-2199023255552≤y∧y≤2199023255552):=by
 obtain⟨h1,h2,h3,h4⟩:=atC_true.1 h
 obtain⟨c1,c2⟩:=canC_true.1 h2
 have s1:=(sideC_true.1 h1).1
 have key: ∀ {p i:Int},inC p=true→inC (p+i*S.n)=true→ -2199023255552≤i∧i≤2199023255552:=by
  intro p i hp hi
  have a:=reach_in h1 hp hi
  obtain⟨a1,a2⟩:=decide_eq_true_iff.1 a
  have b:2199023255552/S.n≤2199023255552:=Int.ediv_le_self _ (by decide)
  omega
 exact⟨key c1 h3,key c2 h4⟩
theorem off_few(O:MsOk S m){c:Ce}(hc:c∈S.C){i:Nat}(hi:i<3):(-2199023255552≤c.t.x i∧c.t.x i≤2199023255552)∧(-2199023255552≤c.t.y i∧c.t.y i≤2199023255552):=by
 have h:=O.fo c hc i hi
 obtain⟨h1,h2,h3,h4⟩:=atC_true.1 h
 obtain⟨c1,c2⟩:=canC_true.1 h2
 have s1:=(sideC_true.1 h1).1
 have key: ∀ {p i:Int},inC p=true→inC (p+i*S.n)=true→ -2199023255552≤i∧i≤2199023255552:=by
  intro p i hp hi
  have a:=reach_in h1 hp hi
  obtain⟨a1,a2⟩:=decide_eq_true_iff.1 a
  have b:2199023255552/S.n≤2199023255552:=Int.ediv_le_self _ (by decide)
  omega
 exact⟨key c1 h3,key c2 h4⟩
theorem acrW_mem{t:Tr}{a:Nat}{r:Ce×Nat}: ∀ {C:List Ce},acr t a C=some r→r.1∈C∧r.2<3:=by
 intro C
 induction C with
 |nil=>intro h;cases h
 |cons c l ih=>
  intro h
  unfold acr at h
  split at h
  ·cases h;exact⟨List.mem_cons_self,by show(_:Nat)<3;simp⟩
  ·split at h
   ·cases h;exact⟨List.mem_cons_self,by show(_:Nat)<3;simp⟩
   ·split at h
    ·cases h;exact⟨List.mem_cons_self,by show(_:Nat)<3;simp⟩
    ·have:=ih h;exact⟨List.mem_cons_of_mem _ this.1,this.2⟩
theorem stepC_is{c:Ce}{i:Nat}{r:Ce×Int×Int}(h:stepC S c i=some r): ∃ k,acr c.t (nx i) S.C=some (r.1,k)∧r.1∈S.C∧k<3∧r.2.1=c.t.x (nx (nx i))- r.1.t.x k∧r.2.2=c.t.y (nx (nx i))- r.1.t.y k:=by
 unfold stepC at h
 cases ha:acr c.t (nx i) S.C with
 |none=>rw [ha]at h;cases h
 |some q=>
  rw [ha]at h
  cases h
  exact⟨q.2,rfl,(acrW_mem ha).1,(acrW_mem ha).2,rfl,rfl⟩
theorem stepC_small(O:MsOk S m){c:Ce}(hc:c∈S.C){i:Nat}(hi:i<3){r:Ce×Int×Int}(h:stepC S c i=some r):r.1∈S.C∧(-4398046511104≤r.2.1∧r.2.1≤4398046511104)∧(-4398046511104≤r.2.2∧r.2.2≤4398046511104):=by
 obtain⟨k,_,h1,h2,h3,h4⟩:=stepC_is h
 have a:=off_few O hc (i:=nx (nx i)) (by unfold nx;omega)
 have b:=off_few O h1 h2
 exact⟨h1,by omega,by omega⟩
theorem area_mv(O:MsOk S m){c:Ce}(hc:c∈S.C)(x y:Int):(areaP (mvX S c.t 0 x) (mvY S c.t 0 y) (mvX S c.t 1 x) (mvY S c.t 1 y) (mvX S c.t 2 x) (mvY S c.t 2 y)).sign=1:=by
 unfold mvX mvY
 rw [area_moved]
 exact O.fl c hc
theorem firstC_mem{f:Int}{c:Ce}(h:firstC S f=some c):c∈S.C:=by
 unfold firstC at h
 cases hf:S.C.find? (fun c=>decide (c.no=f))with
 |some d=>rw [hf]at h;cases h;exact List.mem_of_find?_eq_some hf
 |none=>rw [hf]at h;exact List.mem_of_mem_head? (by simpa using h)
theorem tryF_small(O:MsOk S m){c:Ce}(hc:c∈S.C){qx qy:Int}{b:Int×Int}: ∀ {n k:Nat},k+n≤49→tryF S c.t qx qy n k=some b→(-2199023255556≤b.1∧b.1≤2199023255556)∧(-2199023255556≤b.2∧b.2≤2199023255556):=by
 intro n
 induction n with
 |zero=>intro k _ h;cases h
 |succ n ih=>
  intro k hk h
  unfold tryF at h
  split at h
  ·cases h
   have:=off_few O hc (i:=0) (by decide)
   unfold tryX tryY
   simp only
   omega
  ·exact ih (by omega) h
theorem seekW_mem{qx qy:Int}{r:Ce×Int×Int}: ∀ {L:List Ce},seekW S qx qy L=some r→r.1∈L∧tryF S r.1.t qx qy 49 0=some r.2:=by
 intro L
 induction L with
 |nil=>intro h;cases h
 |cons c L ih=>
  intro h
  unfold seekW at h
  cases ht:tryF S c.t qx qy 49 0 with
  |some b=>rw [ht]at h;cases h;exact⟨List.mem_cons_self,ht⟩
  |none=>rw [ht]at h;have:=ih h;exact⟨List.mem_cons_of_mem _ this.1,this.2⟩
end
def coX(S:Ms)(t:Tr)(i:Nat)(x y:Int):Int:=if mvAll S t x y=true then mvX S t i x else 0
def coY(S:Ms)(t:Tr)(i:Nat)(x y:Int):Int:=if mvAll S t x y=true then mvY S t i y else 0
abbrev coV(S:Ms)(t:Tr)(x y:Int):Value:= .agg #[.int .i64 (coX S t 0 x y), .int .i64 (coY S t 0 x y), .int .i64 (coX S t 1 x y), .int .i64 (coY S t 1 x y), .int .i64 (coX S t 2 x y), .int .i64 (coY S t 2 x y)]
def CornIs(S:Ms)(t:Tr)(x y:Int)(e:Ending):Prop:=e= .returned (.tuple #[coV S t x y, .bool (mvAll S t x y)])
theorem corn_no{S:Ms}{t:Tr}{x y:Int}(h:mvOk S t 0 x y=false∨mvOk S t 1 x y=false∨mvOk S t 2 x y=false):CornIs S t x y (.returned (.tuple #[.agg #[.int .i64 0, .int .i64 0, .int .i64 0, .int .i64 0, .int .i64 0, .int .i64 0], .bool false])):=by
 have hn:mvAll S t x y=false:=by
  unfold mvAll
  rcases h with h|h|h<;>rw [h]<;>simp
 unfold CornIs coV coX coY
 rw [hn]
 rfl
theorem corn_yes{S:Ms}{t:Tr}{x y:Int}(h0:mvOk S t 0 x y=true)(h1:mvOk S t 1 x y=true)(h2:mvOk S t 2 x y=true):CornIs S t x y (.returned (.tuple #[.agg #[.int .i64 (mvX S t 0 x), .int .i64 (mvY S t 0 y), .int .i64 (mvX S t 1 x), .int .i64 (mvY S t 1 y), .int .i64 (mvX S t 2 x), .int .i64 (mvY S t 2 y)], .bool true])):=by
 have hn:mvAll S t x y=true:=mvAll_iff.2 ⟨h0,h1,h2⟩
 unfold CornIs coV coX coY
 rw [hn]
 rfl
set_option maxRecDepth 100000 in
set_option maxHeartbeats 8000000 in
theorem wCorners{MP:MeShape}(HSp:MeSp MP)(base pp:Nat)(S:Ms)(m:Nat)(F:Nat→Prop)(w:World)(HP:MP base pp S F w)(O:MsOk S m)(hm:m≤1000)(c:Ce)(hc:c∈S.C)(x y q1 q2:Int):
  Calls Try.prog 21 #[.agg #[ptR pp, .int .i64 q1, .int .i64 q2], .agg #[.int .i64 c.no, .int .i64 x, .int .i64 y]] w fun e w'=>CornIs S c.t x y e∧Below w.heap.size w w':=by
 have hf:=(wg64 O hm hc).1
 have hF:isF S c.no=true:=isF_iff.2 ⟨c,hc,rfl⟩
 have hfo:=(wgFace O hc).1
 obtain⟨f,hff⟩: ∃ f,f=c.no:=⟨_,rfl⟩
 obtain⟨t,ht⟩: ∃ t,t=c.t:=⟨_,rfl⟩
 rw [←hff,←ht]at hfo
 rw [←hff]at hf hF ⊢
 rw [←ht]
 have hft: ∀ k,F k→k<w.heap.size:=fun k hk=>(HSp.ft HP k hk).2
 obtain⟨W,hW⟩: ∃ W,W=((((w.alloc (.cells #[ptR pp, .int .i64 q1, .int .i64 q2] 39)).alloc (.cells #[.int .i64 f, .int .i64 x, .int .i64 y] 43)).alloc (.cells #[.int .i64 0, .int .i64 0, .int .i64 0, .int .i64 0, .int .i64 0, .int .i64 0] 75)).alloc (.cells #[.int .i64 0, .int .i64 0, .int .i64 0, .int .i64 0, .int .i64 0, .int .i64 0] 75)):=⟨_,rfl⟩
 have bW:Below w.heap.size w W:=by rw [hW];exact(((((Below.refl _ _).alloc (Nat.le_refl _) _).alloc (by simp<;>omega) _).alloc (by simp<;>omega) _).alloc (by simp<;>omega) _)
 have zW:W.heap.size=w.heap.size+4:=by rw [hW];simp
 have Rw:Row W (w.heap.size) [ptR pp, .int .i64 q1, .int .i64 q2]:=by
  have h0:=Row.new w [ptR pp, .int .i64 q1, .int .i64 q2] 39
  rw [hW];exact(((h0.alloc _ (by simp<;>omega)).alloc _ (by simp<;>omega)).alloc _ (by simp<;>omega))
 have lw:w.heap.size<W.heap.size:=by omega
 have Rh:Row W (w.heap.size+1) [.int .i64 f, .int .i64 x, .int .i64 y]:=by
  have h0:=Row.new (w.alloc (.cells #[ptR pp, .int .i64 q1, .int .i64 q2] 39)) [.int .i64 f, .int .i64 x, .int .i64 y] 43
  simp only [World.size_alloc]at h0
  rw [hW];exact((h0.alloc _ (by simp<;>omega)).alloc _ (by simp<;>omega))
 have lh:w.heap.size+1<W.heap.size:=by omega
 have Rr:Row W (w.heap.size+2) [.int .i64 0, .int .i64 0, .int .i64 0, .int .i64 0, .int .i64 0, .int .i64 0]:=by
  have h0:=Row.new ((w.alloc (.cells #[ptR pp, .int .i64 q1, .int .i64 q2] 39)).alloc (.cells #[.int .i64 f, .int .i64 x, .int .i64 y] 43)) [.int .i64 0, .int .i64 0, .int .i64 0, .int .i64 0, .int .i64 0, .int .i64 0] 75
  simp only [World.size_alloc]at h0
  rw [hW];exact(h0.alloc _ (by simp<;>omega))
 have lr:w.heap.size+2<W.heap.size:=by omega
 have Ra:Row W (w.heap.size+3) [.int .i64 0, .int .i64 0, .int .i64 0, .int .i64 0, .int .i64 0, .int .i64 0]:=by
  have h0:=Row.new (((w.alloc (.cells #[ptR pp, .int .i64 q1, .int .i64 q2] 39)).alloc (.cells #[.int .i64 f, .int .i64 x, .int .i64 y] 43)).alloc (.cells #[.int .i64 0, .int .i64 0, .int .i64 0, .int .i64 0, .int .i64 0, .int .i64 0] 75)) [.int .i64 0, .int .i64 0, .int .i64 0, .int .i64 0, .int .i64 0, .int .i64 0] 75
  simp only [World.size_alloc]at h0
  rw [hW];exact h0
 have la:w.heap.size+3<W.heap.size:=by omega
 have HW:((((w.alloc (.cells #[ptR pp, .int .i64 q1, .int .i64 q2] 39)).alloc (.cells #[.int .i64 f, .int .i64 x, .int .i64 y] 43)).alloc (.cells #[.int .i64 0, .int .i64 0, .int .i64 0, .int .i64 0, .int .i64 0, .int .i64 0] 75)).alloc (.cells #[.int .i64 0, .int .i64 0, .int .i64 0, .int .i64 0, .int .i64 0, .int .i64 0] 75))=W:=hW.symm
 clear hW
 have HPW:=HSp.below HP bW
 have HMP:Hid (∀ w',Keep (fun k=>k=w.heap.size+3) W w'→MP base pp S F w'):=fun w' hk=>HSp.keep HPW hk (fun k hk e=>by have:=hft k hk;omega)
 obtain⟨N,hN⟩: ∃ N,N=S.n:=⟨_,rfl⟩
 obtain⟨ca0,ha0⟩: ∃ u,u=plX S t 0:=⟨_,rfl⟩
 obtain⟨cb0,hb0⟩: ∃ u,u=plY S t 0:=⟨_,rfl⟩
 obtain⟨k0,hk0⟩: ∃ u,u=mvOk S t 0 x y:=⟨_,rfl⟩
 have HAt0:Hid (k0=atC ca0 cb0 x y N):=by unfold Hid;rw [hk0,ha0,hb0,hN];rfl
 have C0:Hid (∀ w',Keep (fun k=>k=w.heap.size+3) W w'→Calls Try.prog 32 #[ptR pp, .int .i64 f, .int .i64 0] w' fun e w''=>e= .returned (.tuple #[.agg #[.int .i64 ca0, .int .i64 cb0], .bool true])∧Below w'.heap.size w' w''):=by
  intro w' hk
  rw [ha0,hb0,←hfo]
  exact HSp.corner base pp S m F w' (HMP.out w' hk) O hm f 0 hf ⟨by omega,by omega⟩ hF
 obtain⟨u0,hu0⟩: ∃ u,u=if k0 then ca0+x*N else 0:=⟨_,rfl⟩
 obtain⟨v0,hv0⟩: ∃ u,u=if k0 then cb0+y*N else 0:=⟨_,rfl⟩
 have HK0:Hid (k0=false→CornIs S t x y (.returned (.tuple #[.agg #[.int .i64 0, .int .i64 0, .int .i64 0, .int .i64 0, .int .i64 0, .int .i64 0], .bool false]))):=fun h=>corn_no (by rw [←hk0];simp [h])
 have HU0:Hid _:=hu0
 have HV0:Hid _:=hv0
 obtain⟨ca1,ha1⟩: ∃ u,u=plX S t 1:=⟨_,rfl⟩
 obtain⟨cb1,hb1⟩: ∃ u,u=plY S t 1:=⟨_,rfl⟩
 obtain⟨k1,hk1⟩: ∃ u,u=mvOk S t 1 x y:=⟨_,rfl⟩
 have HAt1:Hid (k1=atC ca1 cb1 x y N):=by unfold Hid;rw [hk1,ha1,hb1,hN];rfl
 have C1:Hid (∀ w',Keep (fun k=>k=w.heap.size+3) W w'→Calls Try.prog 32 #[ptR pp, .int .i64 f, .int .i64 1] w' fun e w''=>e= .returned (.tuple #[.agg #[.int .i64 ca1, .int .i64 cb1], .bool true])∧Below w'.heap.size w' w''):=by
  intro w' hk
  rw [ha1,hb1,←hfo]
  exact HSp.corner base pp S m F w' (HMP.out w' hk) O hm f 1 hf ⟨by omega,by omega⟩ hF
 obtain⟨u1,hu1⟩: ∃ u,u=if k1 then ca1+x*N else 0:=⟨_,rfl⟩
 obtain⟨v1,hv1⟩: ∃ u,u=if k1 then cb1+y*N else 0:=⟨_,rfl⟩
 have HK1:Hid (k1=false→CornIs S t x y (.returned (.tuple #[.agg #[.int .i64 0, .int .i64 0, .int .i64 0, .int .i64 0, .int .i64 0, .int .i64 0], .bool false]))):=fun h=>corn_no (by rw [←hk0,←hk1];simp [h])
 have HU1:Hid _:=hu1
 have HV1:Hid _:=hv1
 obtain⟨ca2,ha2⟩: ∃ u,u=plX S t 2:=⟨_,rfl⟩
 obtain⟨cb2,hb2⟩: ∃ u,u=plY S t 2:=⟨_,rfl⟩
 obtain⟨k2,hk2⟩: ∃ u,u=mvOk S t 2 x y:=⟨_,rfl⟩
 have HAt2:Hid (k2=atC ca2 cb2 x y N):=by unfold Hid;rw [hk2,ha2,hb2,hN];rfl
 have C2:Hid (∀ w',Keep (fun k=>k=w.heap.size+3) W w'→Calls Try.prog 32 #[ptR pp, .int .i64 f, .int .i64 2] w' fun e w''=>e= .returned (.tuple #[.agg #[.int .i64 ca2, .int .i64 cb2], .bool true])∧Below w'.heap.size w' w''):=by
  intro w' hk
  rw [ha2,hb2,←hfo]
  exact HSp.corner base pp S m F w' (HMP.out w' hk) O hm f 2 hf ⟨by omega,by omega⟩ hF
 obtain⟨u2,hu2⟩: ∃ u,u=if k2 then ca2+x*N else 0:=⟨_,rfl⟩
 obtain⟨v2,hv2⟩: ∃ u,u=if k2 then cb2+y*N else 0:=⟨_,rfl⟩
 have HK2:Hid (k2=false→CornIs S t x y (.returned (.tuple #[.agg #[.int .i64 0, .int .i64 0, .int .i64 0, .int .i64 0, .int .i64 0, .int .i64 0], .bool false]))):=fun h=>corn_no (by rw [←hk0,←hk1,←hk2];simp [h])
 have HU2:Hid _:=hu2
 have HV2:Hid _:=hv2
 have HY:Hid (k0=true→k1=true→k2=true→CornIs S t x y (.returned (.tuple #[.agg #[.int .i64 u0, .int .i64 v0, .int .i64 u1, .int .i64 v1, .int .i64 u2, .int .i64 v2], .bool true]))):=by
  intro h0 h1 h2
  have:=corn_yes (S:=S) (t:=t) (x:=x) (y:=y) (by rw [←hk0];exact h0) (by rw [←hk1];exact h1) (by rw [←hk2];exact h2)
  unfold mvX mvY at this
  rw [←ha0,←hb0,←ha1,←hb1,←ha2,←hb2,←hN]at this
  rw [hu0,hv0,hu1,hv1,hu2,hv2,h0,h1,h2]
  exact this
 have CS:Hid (∀ w',Keep (fun k=>k=w.heap.size+3) W w'→Calls Try.prog 9 #[ptR pp] w' fun e w''=>e= .returned (.int .i64 N)∧Below w'.heap.size w' w''):=by
  intro w' hk
  rw [hN]
  exact HSp.side base pp S m F w' (HMP.out w' hk) O hm
 clear HP hF HPW hN ht hff hfo hft ha0 hb0 hk0 hu0 hv0 ha1 hb1 hk1 hu1 hv1 ha2 hb2 hk2 hu2 hv2
 replace HW:Hid _:=HW
 go_enter Try.func21,Try.ntmps21
 go_wp2
 rw [HW.out]
 clear HW
 go_loopw [10] (fun i wr=>((i= .int .i64 0∧Row wr (w.heap.size+3) [.int .i64 0, .int .i64 0, .int .i64 0, .int .i64 0, .int .i64 0, .int .i64 0])∨(i= .int .i64 1∧Hid (k0=true)∧Row wr (w.heap.size+3) [.int .i64 u0, .int .i64 v0, .int .i64 0, .int .i64 0, .int .i64 0, .int .i64 0])∨(i= .int .i64 2∧Hid (k0=true)∧Hid (k1=true)∧Row wr (w.heap.size+3) [.int .i64 u0, .int .i64 v0, .int .i64 u1, .int .i64 v1, .int .i64 0, .int .i64 0])∨(i= .int .i64 3∧Hid (k0=true)∧Hid (k1=true)∧Hid (k2=true)∧Row wr (w.heap.size+3) [.int .i64 u0, .int .i64 v0, .int .i64 u1, .int .i64 v1, .int .i64 u2, .int .i64 v2]))∧Keep (fun k=>k=w.heap.size+3) W wr) (fun i _=>3- (Go.RowKit.intOf i).toNat)
 case atStart=>exact⟨Or.inl ⟨rfl,Ra⟩,Keep.refl _ _⟩
 case round=>
  clear Ra
  obtain⟨hi,kr⟩:=hrel
  have zr:=kr.size
  rcases hi with⟨rfl,y0⟩|⟨rfl,g0,y0⟩|⟨rfl,g0,g1,y0⟩|⟨rfl,g0,g1,g2,y0⟩
  ·have c0:wr.cell? ⟨w.heap.size,0,none⟩=some (ptR pp):=(kr.cell (p:=⟨w.heap.size,0,none⟩) (show w.heap.size<W.heap.size by omega) (by simp)).trans (Rw.cell 0 _ rfl)
   have c1:wr.cell? ⟨w.heap.size+1,0,none⟩=some (.int .i64 f):=(kr.cell (p:=⟨w.heap.size+1,0,none⟩) (show w.heap.size+1<W.heap.size by omega) (by simp)).trans (Rh.cell 0 _ rfl)
   have c2:wr.cell? ⟨w.heap.size+1,1,none⟩=some (.int .i64 x):=(kr.cell (p:=⟨w.heap.size+1,1,none⟩) (show w.heap.size+1<W.heap.size by omega) (by simp)).trans (Rh.cell 1 _ rfl)
   have c3:wr.cell? ⟨w.heap.size+1,2,none⟩=some (.int .i64 y):=(kr.cell (p:=⟨w.heap.size+1,2,none⟩) (show w.heap.size+1<W.heap.size by omega) (by simp)).trans (Rh.cell 2 _ rfl)
   have CC:Hid _:=C0.out wr kr
   go_wp2_with (go_at_call 32;fail)
   refine Calls.mono CC.out ?_
   rintro e w2 ⟨rfl,b2⟩
   clear CC
   have z2:=b2.size
   obtain⟨w3,hw3⟩: ∃ w3,w3=w2.alloc (.cells #[.int .i64 ca0, .int .i64 cb0] 23):=⟨_,rfl⟩
   have q3:Below wr.heap.size wr w3:=by rw [hw3];exact b2.alloc z2 _
   have R3:Row w3 w2.heap.size [.int .i64 ca0, .int .i64 cb0]:=by rw [hw3];exact Row.new w2 [.int .i64 ca0, .int .i64 cb0] _
   have z3:w3.heap.size=w2.heap.size+1:=by rw [hw3];simp
   have kr3:Keep (fun k=>k=w.heap.size+3) W w3:=kr.to q3
   replace y0:=y0.below q3 (by omega)
   have d0:w3.cell? ⟨w.heap.size,0,none⟩=some (ptR pp):=(q3.cell (p:=⟨w.heap.size,0,none⟩) (show w.heap.size<wr.heap.size by omega)).trans c0
   have d1:w3.cell? ⟨w.heap.size+1,1,none⟩=some (.int .i64 x):=(q3.cell (p:=⟨w.heap.size+1,1,none⟩) (show w.heap.size+1<wr.heap.size by omega)).trans c2
   have d2:w3.cell? ⟨w.heap.size+1,2,none⟩=some (.int .i64 y):=(q3.cell (p:=⟨w.heap.size+1,2,none⟩) (show w.heap.size+1<wr.heap.size by omega)).trans c3
   have d3:=R3.cell 0 _ rfl
   have d4:=R3.cell 1 _ rfl
   have lv:w.heap.size<w3.heap.size:=by omega
   have lh3:w.heap.size+1<w3.heap.size:=by omega
   have lc:w2.heap.size<w3.heap.size:=by omega
   have la3:w.heap.size+3<w3.heap.size:=by omega
   have nv: ¬(w.heap.size=w.heap.size+3):=by omega
   have nh: ¬(w.heap.size+1=w.heap.size+3):=by omega
   have nc: ¬(w2.heap.size=w.heap.size+3):=by omega
   have CS3:Hid (∀ w',Keep (fun k=>k=w.heap.size+3) w3 w'→Calls Try.prog 9 #[ptR pp] w' fun e w''=>e= .returned (.int .i64 N)∧Below w'.heap.size w' w''):=fun w' hk=>CS.out w' (kr3.trans hk (fun i hi=>Or.inl hi))
   have H3:Hid _:=hw3.symm
   clear c0 c1 c2 c3 hw3
   go_wp2
   rw [H3.out]
   have HSr0:Hid (∀ w',Keep (fun k=>k=w.heap.size+3) w3 w'→(fun w'=>w'.cell? ⟨w.heap.size,0,none⟩=some (ptR pp)∧w'.cell? ⟨w.heap.size+1,1,none⟩=some (.int .i64 x)∧w'.cell? ⟨w.heap.size+1,2,none⟩=some (.int .i64 y)∧w'.cell? ⟨w2.heap.size,0,none⟩=some (.int .i64 ca0)∧w'.cell? ⟨w2.heap.size,1,none⟩=some (.int .i64 cb0)∧Keep (fun k=>k=w.heap.size+3) w3 w') w'):=by
    unfold Hid
    intro w' hb
    exact⟨(hb.cell (p:=⟨w.heap.size,0,none⟩) lv nv).trans d0,(hb.cell (p:=⟨w.heap.size+1,1,none⟩) lh3 nh).trans d1,(hb.cell (p:=⟨w.heap.size+1,2,none⟩) lh3 nh).trans d2,(hb.cell (p:=⟨w2.heap.size,0,none⟩) lc nc).trans d3,(hb.cell (p:=⟨w2.heap.size,1,none⟩) lc nc).trans d4,hb⟩
   refine wp_region_held_drew (S:=fun w'=>w'.cell? ⟨w.heap.size,0,none⟩=some (ptR pp)∧w'.cell? ⟨w.heap.size+1,1,none⟩=some (.int .i64 x)∧w'.cell? ⟨w.heap.size+1,2,none⟩=some (.int .i64 y)∧w'.cell? ⟨w2.heap.size,0,none⟩=some (.int .i64 ca0)∧w'.cell? ⟨w2.heap.size,1,none⟩=some (.int .i64 cb0)∧Keep (fun k=>k=w.heap.size+3) w3 w') (by kernel_rfl) ?_ (fun hHeld=>?_)
   ·exact HSr0.out _ ((Keep.refl _ _).drew)
   refine tn 0 ?_;refine tn 1 ?_;refine tn 2 ?_;refine tn 3 ?_;refine tn 4 ?_;refine tn 5 ?_
   simp only [Act.put,ps1,ps2,ps3]
   refine tcl 6 fun Kc hK=>?_
   go_simp
   (go_at_call 9;refine Calls.mono (CS3.out _ hHeld.2.2.2.2.2) ?_;rintro e w4 ⟨rfl,b4⟩)
   refine hK.out _ _ ?_ (fun hHeld=>?_)
   ·exact HSr0.out _ (hHeld.2.2.2.2.2.to b4)
   clear hK Kc
   replace y0:=y0.drew.below b4 la3
   have la4:=Nat.lt_of_lt_of_le (show w.heap.size+3<w3.drew.heap.size from la3) b4.size
   refine tcl 7 fun Kc hK=>?_
   go_simp
   (go_at_call 33;refine(lAt ca0 cb0 x y N _ HAt0.out HU0.out HV0.out).mono ?_;rintro e w5 ⟨rfl,b5⟩)
   refine hK.out _ _ ?_ (fun hHeld=>?_)
   ·exact HSr0.out _ (hHeld.2.2.2.2.2.to b5)
   clear hK Kc
   replace y0:=y0.below b5 la4
   refine tn 8 ?_;refine tn 9 ?_;refine tn 10 ?_;refine tn 11 ?_
   simp only [Act.put,ps1,ps2,ps3]
   have sc0:=y0.cell 0 _ rfl
   have sf0:=y0.free 0 (by simp)
   have sc1:=y0.cell 1 _ rfl
   have sf1:=y0.free 1 (by simp)
   refine tcl 12 fun Kc hK=>?_
   go_simp
   refine hK.out _ _ ?_ (fun hHeld=>?_)
   ·exact HSr0.out _ ((hHeld.2.2.2.2.2.set (Or.inl rfl) _).set (Or.inl rfl) _)
   clear hK Kc
   refine tz (i:=13) rfl ?_
   simp only [Act.put,ps1,ps2,ps3]
   refine wpAnyH_done (by kernel_rfl) ?_ _
   have kx:=kr3.trans hHeld.2.2.2.2.2 (fun i hi=>Or.inl hi)
   have yx:=(y0.set 0 (.int .i64 u0) (by simp)).set 1 (.int .i64 v0) (by simp)
   clear hHeld HSr0 CS3 sc0 sc1 sf0 sf1
   have BX:=bW.trans (kx.below (B:=w.heap.size) (by omega) (fun k e=>by omega))
   cases hkk:k0
   ·have HRF:Hid _:=HK0.out hkk
    have RZ:=Rr.keep kx lr (by omega)
    have o0:=RZ.cell 0 _ rfl
    have f0:=RZ.free 0 (by simp)
    have o1:=RZ.cell 1 _ rfl
    have f1:=RZ.free 1 (by simp)
    have o2:=RZ.cell 2 _ rfl
    have f2:=RZ.free 2 (by simp)
    have o3:=RZ.cell 3 _ rfl
    have f3:=RZ.free 3 (by simp)
    have o4:=RZ.cell 4 _ rfl
    have f4:=RZ.free 4 (by simp)
    have o5:=RZ.cell 5 _ rfl
    have f5:=RZ.free 5 (by simp)
    have RX:=((((((RZ.set 0 (.int .i64 0) (by simp)).set 1 (.int .i64 0) (by simp)).set 2 (.int .i64 0) (by simp)).set 3 (.int .i64 0) (by simp)).set 4 (.int .i64 0) (by simp)).set 5 (.int .i64 0) (by simp))
    have BZ:=((((((BX.setCell (p:=⟨w.heap.size+2,0,none⟩) (by simp) (.int .i64 0)).setCell (p:=⟨w.heap.size+2,1,none⟩) (by simp) (.int .i64 0)).setCell (p:=⟨w.heap.size+2,2,none⟩) (by simp) (.int .i64 0)).setCell (p:=⟨w.heap.size+2,3,none⟩) (by simp) (.int .i64 0)).setCell (p:=⟨w.heap.size+2,4,none⟩) (by simp) (.int .i64 0)).setCell (p:=⟨w.heap.size+2,5,none⟩) (by simp) (.int .i64 0))
    have n0:=RX.cell 0 _ rfl
    have n1:=RX.cell 1 _ rfl
    have n2:=RX.cell 2 _ rfl
    have n3:=RX.cell 3 _ rfl
    have n4:=RX.cell 4 _ rfl
    have n5:=RX.cell 5 _ rfl
    clear RX RZ
    go_wp2
    exact bodyPost_ret (v:= .tuple #[.agg #[.int .i64 0, .int .i64 0, .int .i64 0, .int .i64 0, .int .i64 0, .int .i64 0], .bool false]) (by simp [results,Try.results21,go_sem, *]) rfl ⟨HRF.out,BZ⟩
   ·go_wp2
    go_roundw
    case rel=>exact⟨Or.inr (Or.inl ⟨rfl,hkk,yx⟩),kx⟩
    case measure=>simp [Go.RowKit.intOf]
  ·have c0:wr.cell? ⟨w.heap.size,0,none⟩=some (ptR pp):=(kr.cell (p:=⟨w.heap.size,0,none⟩) (show w.heap.size<W.heap.size by omega) (by simp)).trans (Rw.cell 0 _ rfl)
   have c1:wr.cell? ⟨w.heap.size+1,0,none⟩=some (.int .i64 f):=(kr.cell (p:=⟨w.heap.size+1,0,none⟩) (show w.heap.size+1<W.heap.size by omega) (by simp)).trans (Rh.cell 0 _ rfl)
   have c2:wr.cell? ⟨w.heap.size+1,1,none⟩=some (.int .i64 x):=(kr.cell (p:=⟨w.heap.size+1,1,none⟩) (show w.heap.size+1<W.heap.size by omega) (by simp)).trans (Rh.cell 1 _ rfl)
   have c3:wr.cell? ⟨w.heap.size+1,2,none⟩=some (.int .i64 y):=(kr.cell (p:=⟨w.heap.size+1,2,none⟩) (show w.heap.size+1<W.heap.size by omega) (by simp)).trans (Rh.cell 2 _ rfl)
   have CC:Hid _:=C1.out wr kr
   go_wp2_with (go_at_call 32;fail)
   refine Calls.mono CC.out ?_
   rintro e w2 ⟨rfl,b2⟩
   clear CC
   have z2:=b2.size
   obtain⟨w3,hw3⟩: ∃ w3,w3=w2.alloc (.cells #[.int .i64 ca1, .int .i64 cb1] 23):=⟨_,rfl⟩
   have q3:Below wr.heap.size wr w3:=by rw [hw3];exact b2.alloc z2 _
   have R3:Row w3 w2.heap.size [.int .i64 ca1, .int .i64 cb1]:=by rw [hw3];exact Row.new w2 [.int .i64 ca1, .int .i64 cb1] _
   have z3:w3.heap.size=w2.heap.size+1:=by rw [hw3];simp
   have kr3:Keep (fun k=>k=w.heap.size+3) W w3:=kr.to q3
   replace y0:=y0.below q3 (by omega)
   have d0:w3.cell? ⟨w.heap.size,0,none⟩=some (ptR pp):=(q3.cell (p:=⟨w.heap.size,0,none⟩) (show w.heap.size<wr.heap.size by omega)).trans c0
   have d1:w3.cell? ⟨w.heap.size+1,1,none⟩=some (.int .i64 x):=(q3.cell (p:=⟨w.heap.size+1,1,none⟩) (show w.heap.size+1<wr.heap.size by omega)).trans c2
   have d2:w3.cell? ⟨w.heap.size+1,2,none⟩=some (.int .i64 y):=(q3.cell (p:=⟨w.heap.size+1,2,none⟩) (show w.heap.size+1<wr.heap.size by omega)).trans c3
   have d3:=R3.cell 0 _ rfl
   have d4:=R3.cell 1 _ rfl
   have lv:w.heap.size<w3.heap.size:=by omega
   have lh3:w.heap.size+1<w3.heap.size:=by omega
   have lc:w2.heap.size<w3.heap.size:=by omega
   have la3:w.heap.size+3<w3.heap.size:=by omega
   have nv: ¬(w.heap.size=w.heap.size+3):=by omega
   have nh: ¬(w.heap.size+1=w.heap.size+3):=by omega
   have nc: ¬(w2.heap.size=w.heap.size+3):=by omega
   have CS3:Hid (∀ w',Keep (fun k=>k=w.heap.size+3) w3 w'→Calls Try.prog 9 #[ptR pp] w' fun e w''=>e= .returned (.int .i64 N)∧Below w'.heap.size w' w''):=fun w' hk=>CS.out w' (kr3.trans hk (fun i hi=>Or.inl hi))
   have H3:Hid _:=hw3.symm
   clear c0 c1 c2 c3 hw3
   go_wp2
   rw [H3.out]
   have HSr1:Hid (∀ w',Keep (fun k=>k=w.heap.size+3) w3 w'→(fun w'=>w'.cell? ⟨w.heap.size,0,none⟩=some (ptR pp)∧w'.cell? ⟨w.heap.size+1,1,none⟩=some (.int .i64 x)∧w'.cell? ⟨w.heap.size+1,2,none⟩=some (.int .i64 y)∧w'.cell? ⟨w2.heap.size,0,none⟩=some (.int .i64 ca1)∧w'.cell? ⟨w2.heap.size,1,none⟩=some (.int .i64 cb1)∧Keep (fun k=>k=w.heap.size+3) w3 w') w'):=by
    unfold Hid
    intro w' hb
    exact⟨(hb.cell (p:=⟨w.heap.size,0,none⟩) lv nv).trans d0,(hb.cell (p:=⟨w.heap.size+1,1,none⟩) lh3 nh).trans d1,(hb.cell (p:=⟨w.heap.size+1,2,none⟩) lh3 nh).trans d2,(hb.cell (p:=⟨w2.heap.size,0,none⟩) lc nc).trans d3,(hb.cell (p:=⟨w2.heap.size,1,none⟩) lc nc).trans d4,hb⟩
   refine wp_region_held_drew (S:=fun w'=>w'.cell? ⟨w.heap.size,0,none⟩=some (ptR pp)∧w'.cell? ⟨w.heap.size+1,1,none⟩=some (.int .i64 x)∧w'.cell? ⟨w.heap.size+1,2,none⟩=some (.int .i64 y)∧w'.cell? ⟨w2.heap.size,0,none⟩=some (.int .i64 ca1)∧w'.cell? ⟨w2.heap.size,1,none⟩=some (.int .i64 cb1)∧Keep (fun k=>k=w.heap.size+3) w3 w') (by kernel_rfl) ?_ (fun hHeld=>?_)
   ·exact HSr1.out _ ((Keep.refl _ _).drew)
   refine tn 0 ?_;refine tn 1 ?_;refine tn 2 ?_;refine tn 3 ?_;refine tn 4 ?_;refine tn 5 ?_
   simp only [Act.put,ps1,ps2,ps3]
   refine tcl 6 fun Kc hK=>?_
   go_simp
   (go_at_call 9;refine Calls.mono (CS3.out _ hHeld.2.2.2.2.2) ?_;rintro e w4 ⟨rfl,b4⟩)
   refine hK.out _ _ ?_ (fun hHeld=>?_)
   ·exact HSr1.out _ (hHeld.2.2.2.2.2.to b4)
   clear hK Kc
   replace y0:=y0.drew.below b4 la3
   have la4:=Nat.lt_of_lt_of_le (show w.heap.size+3<w3.drew.heap.size from la3) b4.size
   refine tcl 7 fun Kc hK=>?_
   go_simp
   (go_at_call 33;refine(lAt ca1 cb1 x y N _ HAt1.out HU1.out HV1.out).mono ?_;rintro e w5 ⟨rfl,b5⟩)
   refine hK.out _ _ ?_ (fun hHeld=>?_)
   ·exact HSr1.out _ (hHeld.2.2.2.2.2.to b5)
   clear hK Kc
   replace y0:=y0.below b5 la4
   refine tn 8 ?_;refine tn 9 ?_;refine tn 10 ?_;refine tn 11 ?_
   simp only [Act.put,ps1,ps2,ps3]
   have sc0:=y0.cell 2 _ rfl
   have sf0:=y0.free 2 (by simp)
   have sc1:=y0.cell 3 _ rfl
   have sf1:=y0.free 3 (by simp)
   refine tcl 12 fun Kc hK=>?_
   go_simp
   refine hK.out _ _ ?_ (fun hHeld=>?_)
   ·exact HSr1.out _ ((hHeld.2.2.2.2.2.set (Or.inl rfl) _).set (Or.inl rfl) _)
   clear hK Kc
   refine tz (i:=13) rfl ?_
   simp only [Act.put,ps1,ps2,ps3]
   refine wpAnyH_done (by kernel_rfl) ?_ _
   have kx:=kr3.trans hHeld.2.2.2.2.2 (fun i hi=>Or.inl hi)
   have yx:=(y0.set 2 (.int .i64 u1) (by simp)).set 3 (.int .i64 v1) (by simp)
   clear hHeld HSr1 CS3 sc0 sc1 sf0 sf1
   have BX:=bW.trans (kx.below (B:=w.heap.size) (by omega) (fun k e=>by omega))
   cases hkk:k1
   ·have HRF:Hid _:=HK1.out hkk
    have RZ:=Rr.keep kx lr (by omega)
    have o0:=RZ.cell 0 _ rfl
    have f0:=RZ.free 0 (by simp)
    have o1:=RZ.cell 1 _ rfl
    have f1:=RZ.free 1 (by simp)
    have o2:=RZ.cell 2 _ rfl
    have f2:=RZ.free 2 (by simp)
    have o3:=RZ.cell 3 _ rfl
    have f3:=RZ.free 3 (by simp)
    have o4:=RZ.cell 4 _ rfl
    have f4:=RZ.free 4 (by simp)
    have o5:=RZ.cell 5 _ rfl
    have f5:=RZ.free 5 (by simp)
    have RX:=((((((RZ.set 0 (.int .i64 0) (by simp)).set 1 (.int .i64 0) (by simp)).set 2 (.int .i64 0) (by simp)).set 3 (.int .i64 0) (by simp)).set 4 (.int .i64 0) (by simp)).set 5 (.int .i64 0) (by simp))
    have BZ:=((((((BX.setCell (p:=⟨w.heap.size+2,0,none⟩) (by simp) (.int .i64 0)).setCell (p:=⟨w.heap.size+2,1,none⟩) (by simp) (.int .i64 0)).setCell (p:=⟨w.heap.size+2,2,none⟩) (by simp) (.int .i64 0)).setCell (p:=⟨w.heap.size+2,3,none⟩) (by simp) (.int .i64 0)).setCell (p:=⟨w.heap.size+2,4,none⟩) (by simp) (.int .i64 0)).setCell (p:=⟨w.heap.size+2,5,none⟩) (by simp) (.int .i64 0))
    have n0:=RX.cell 0 _ rfl
    have n1:=RX.cell 1 _ rfl
    have n2:=RX.cell 2 _ rfl
    have n3:=RX.cell 3 _ rfl
    have n4:=RX.cell 4 _ rfl
    have n5:=RX.cell 5 _ rfl
    clear RX RZ
    go_wp2
    exact bodyPost_ret (v:= .tuple #[.agg #[.int .i64 0, .int .i64 0, .int .i64 0, .int .i64 0, .int .i64 0, .int .i64 0], .bool false]) (by simp [results,Try.results21,go_sem, *]) rfl ⟨HRF.out,BZ⟩
   ·go_wp2
    go_roundw
    case rel=>exact⟨Or.inr (Or.inr (Or.inl ⟨rfl,g0,hkk,yx⟩)),kx⟩
    case measure=>simp [Go.RowKit.intOf]
  ·have c0:wr.cell? ⟨w.heap.size,0,none⟩=some (ptR pp):=(kr.cell (p:=⟨w.heap.size,0,none⟩) (show w.heap.size<W.heap.size by omega) (by simp)).trans (Rw.cell 0 _ rfl)
   have c1:wr.cell? ⟨w.heap.size+1,0,none⟩=some (.int .i64 f):=(kr.cell (p:=⟨w.heap.size+1,0,none⟩) (show w.heap.size+1<W.heap.size by omega) (by simp)).trans (Rh.cell 0 _ rfl)
   have c2:wr.cell? ⟨w.heap.size+1,1,none⟩=some (.int .i64 x):=(kr.cell (p:=⟨w.heap.size+1,1,none⟩) (show w.heap.size+1<W.heap.size by omega) (by simp)).trans (Rh.cell 1 _ rfl)
   have c3:wr.cell? ⟨w.heap.size+1,2,none⟩=some (.int .i64 y):=(kr.cell (p:=⟨w.heap.size+1,2,none⟩) (show w.heap.size+1<W.heap.size by omega) (by simp)).trans (Rh.cell 2 _ rfl)
   have CC:Hid _:=C2.out wr kr
   go_wp2_with (go_at_call 32;fail)
   refine Calls.mono CC.out ?_
   rintro e w2 ⟨rfl,b2⟩
   clear CC
   have z2:=b2.size
   obtain⟨w3,hw3⟩: ∃ w3,w3=w2.alloc (.cells #[.int .i64 ca2, .int .i64 cb2] 23):=⟨_,rfl⟩
   have q3:Below wr.heap.size wr w3:=by rw [hw3];exact b2.alloc z2 _
   have R3:Row w3 w2.heap.size [.int .i64 ca2, .int .i64 cb2]:=by rw [hw3];exact Row.new w2 [.int .i64 ca2, .int .i64 cb2] _
   have z3:w3.heap.size=w2.heap.size+1:=by rw [hw3];simp
   have kr3:Keep (fun k=>k=w.heap.size+3) W w3:=kr.to q3
   replace y0:=y0.below q3 (by omega)
   have d0:w3.cell? ⟨w.heap.size,0,none⟩=some (ptR pp):=(q3.cell (p:=⟨w.heap.size,0,none⟩) (show w.heap.size<wr.heap.size by omega)).trans c0
   have d1:w3.cell? ⟨w.heap.size+1,1,none⟩=some (.int .i64 x):=(q3.cell (p:=⟨w.heap.size+1,1,none⟩) (show w.heap.size+1<wr.heap.size by omega)).trans c2
   have d2:w3.cell? ⟨w.heap.size+1,2,none⟩=some (.int .i64 y):=(q3.cell (p:=⟨w.heap.size+1,2,none⟩) (show w.heap.size+1<wr.heap.size by omega)).trans c3
   have d3:=R3.cell 0 _ rfl
   have d4:=R3.cell 1 _ rfl
   have lv:w.heap.size<w3.heap.size:=by omega
   have lh3:w.heap.size+1<w3.heap.size:=by omega
   have lc:w2.heap.size<w3.heap.size:=by omega
   have la3:w.heap.size+3<w3.heap.size:=by omega
   have nv: ¬(w.heap.size=w.heap.size+3):=by omega
   have nh: ¬(w.heap.size+1=w.heap.size+3):=by omega
   have nc: ¬(w2.heap.size=w.heap.size+3):=by omega
   have CS3:Hid (∀ w',Keep (fun k=>k=w.heap.size+3) w3 w'→Calls Try.prog 9 #[ptR pp] w' fun e w''=>e= .returned (.int .i64 N)∧Below w'.heap.size w' w''):=fun w' hk=>CS.out w' (kr3.trans hk (fun i hi=>Or.inl hi))
   have H3:Hid _:=hw3.symm
   clear c0 c1 c2 c3 hw3
   go_wp2
   rw [H3.out]
   have HSr2:Hid (∀ w',Keep (fun k=>k=w.heap.size+3) w3 w'→(fun w'=>w'.cell? ⟨w.heap.size,0,none⟩=some (ptR pp)∧w'.cell? ⟨w.heap.size+1,1,none⟩=some (.int .i64 x)∧w'.cell? ⟨w.heap.size+1,2,none⟩=some (.int .i64 y)∧w'.cell? ⟨w2.heap.size,0,none⟩=some (.int .i64 ca2)∧w'.cell? ⟨w2.heap.size,1,none⟩=some (.int .i64 cb2)∧Keep (fun k=>k=w.heap.size+3) w3 w') w'):=by
    unfold Hid
    intro w' hb
    exact⟨(hb.cell (p:=⟨w.heap.size,0,none⟩) lv nv).trans d0,(hb.cell (p:=⟨w.heap.size+1,1,none⟩) lh3 nh).trans d1,(hb.cell (p:=⟨w.heap.size+1,2,none⟩) lh3 nh).trans d2,(hb.cell (p:=⟨w2.heap.size,0,none⟩) lc nc).trans d3,(hb.cell (p:=⟨w2.heap.size,1,none⟩) lc nc).trans d4,hb⟩
   refine wp_region_held_drew (S:=fun w'=>w'.cell? ⟨w.heap.size,0,none⟩=some (ptR pp)∧w'.cell? ⟨w.heap.size+1,1,none⟩=some (.int .i64 x)∧w'.cell? ⟨w.heap.size+1,2,none⟩=some (.int .i64 y)∧w'.cell? ⟨w2.heap.size,0,none⟩=some (.int .i64 ca2)∧w'.cell? ⟨w2.heap.size,1,none⟩=some (.int .i64 cb2)∧Keep (fun k=>k=w.heap.size+3) w3 w') (by kernel_rfl) ?_ (fun hHeld=>?_)
   ·exact HSr2.out _ ((Keep.refl _ _).drew)
   refine tn 0 ?_;refine tn 1 ?_;refine tn 2 ?_;refine tn 3 ?_;refine tn 4 ?_;refine tn 5 ?_
   simp only [Act.put,ps1,ps2,ps3]
   refine tcl 6 fun Kc hK=>?_
   go_simp
   (go_at_call 9;refine Calls.mono (CS3.out _ hHeld.2.2.2.2.2) ?_;rintro e w4 ⟨rfl,b4⟩)
   refine hK.out _ _ ?_ (fun hHeld=>?_)
   ·exact HSr2.out _ (hHeld.2.2.2.2.2.to b4)
   clear hK Kc
   replace y0:=y0.drew.below b4 la3
   have la4:=Nat.lt_of_lt_of_le (show w.heap.size+3<w3.drew.heap.size from la3) b4.size
   refine tcl 7 fun Kc hK=>?_
   go_simp
   (go_at_call 33;refine(lAt ca2 cb2 x y N _ HAt2.out HU2.out HV2.out).mono ?_;rintro e w5 ⟨rfl,b5⟩)
   refine hK.out _ _ ?_ (fun hHeld=>?_)
   ·exact HSr2.out _ (hHeld.2.2.2.2.2.to b5)
   clear hK Kc
   replace y0:=y0.below b5 la4
   refine tn 8 ?_;refine tn 9 ?_;refine tn 10 ?_;refine tn 11 ?_
   simp only [Act.put,ps1,ps2,ps3]
   have sc0:=y0.cell 4 _ rfl
   have sf0:=y0.free 4 (by simp)
   have sc1:=y0.cell 5 _ rfl
   have sf1:=y0.free 5 (by simp)
   refine tcl 12 fun Kc hK=>?_
   go_simp
   refine hK.out _ _ ?_ (fun hHeld=>?_)
   ·exact HSr2.out _ ((hHeld.2.2.2.2.2.set (Or.inl rfl) _).set (Or.inl rfl) _)
   clear hK Kc
   refine tz (i:=13) rfl ?_
   simp only [Act.put,ps1,ps2,ps3]
   refine wpAnyH_done (by kernel_rfl) ?_ _
   have kx:=kr3.trans hHeld.2.2.2.2.2 (fun i hi=>Or.inl hi)
   have yx:=(y0.set 4 (.int .i64 u2) (by simp)).set 5 (.int .i64 v2) (by simp)
   clear hHeld HSr2 CS3 sc0 sc1 sf0 sf1
   have BX:=bW.trans (kx.below (B:=w.heap.size) (by omega) (fun k e=>by omega))
   cases hkk:k2
   ·have HRF:Hid _:=HK2.out hkk
    have RZ:=Rr.keep kx lr (by omega)
    have o0:=RZ.cell 0 _ rfl
    have f0:=RZ.free 0 (by simp)
    have o1:=RZ.cell 1 _ rfl
    have f1:=RZ.free 1 (by simp)
    have o2:=RZ.cell 2 _ rfl
    have f2:=RZ.free 2 (by simp)
    have o3:=RZ.cell 3 _ rfl
    have f3:=RZ.free 3 (by simp)
    have o4:=RZ.cell 4 _ rfl
    have f4:=RZ.free 4 (by simp)
    have o5:=RZ.cell 5 _ rfl
    have f5:=RZ.free 5 (by simp)
    have RX:=((((((RZ.set 0 (.int .i64 0) (by simp)).set 1 (.int .i64 0) (by simp)).set 2 (.int .i64 0) (by simp)).set 3 (.int .i64 0) (by simp)).set 4 (.int .i64 0) (by simp)).set 5 (.int .i64 0) (by simp))
    have BZ:=((((((BX.setCell (p:=⟨w.heap.size+2,0,none⟩) (by simp) (.int .i64 0)).setCell (p:=⟨w.heap.size+2,1,none⟩) (by simp) (.int .i64 0)).setCell (p:=⟨w.heap.size+2,2,none⟩) (by simp) (.int .i64 0)).setCell (p:=⟨w.heap.size+2,3,none⟩) (by simp) (.int .i64 0)).setCell (p:=⟨w.heap.size+2,4,none⟩) (by simp) (.int .i64 0)).setCell (p:=⟨w.heap.size+2,5,none⟩) (by simp) (.int .i64 0))
    have n0:=RX.cell 0 _ rfl
    have n1:=RX.cell 1 _ rfl
    have n2:=RX.cell 2 _ rfl
    have n3:=RX.cell 3 _ rfl
    have n4:=RX.cell 4 _ rfl
    have n5:=RX.cell 5 _ rfl
    clear RX RZ
    go_wp2
    exact bodyPost_ret (v:= .tuple #[.agg #[.int .i64 0, .int .i64 0, .int .i64 0, .int .i64 0, .int .i64 0, .int .i64 0], .bool false]) (by simp [results,Try.results21,go_sem, *]) rfl ⟨HRF.out,BZ⟩
   ·go_wp2
    go_roundw
    case rel=>exact⟨Or.inr (Or.inr (Or.inr ⟨rfl,g0,g1,hkk,yx⟩)),kx⟩
    case measure=>simp [Go.RowKit.intOf]
  ·have HRF:Hid _:=HY.out g0.out g1.out g2.out
   have RZ:=Rr.keep kr lr (by omega)
   have BX:=bW.trans (kr.below (B:=w.heap.size) (by omega) (fun k e=>by omega))
   have s0:=y0.cell 0 _ rfl
   have s1:=y0.cell 1 _ rfl
   have s2:=y0.cell 2 _ rfl
   have s3:=y0.cell 3 _ rfl
   have s4:=y0.cell 4 _ rfl
   have s5:=y0.cell 5 _ rfl
   have o0:=RZ.cell 0 _ rfl
   have f0:=RZ.free 0 (by simp)
   have o1:=RZ.cell 1 _ rfl
   have f1:=RZ.free 1 (by simp)
   have o2:=RZ.cell 2 _ rfl
   have f2:=RZ.free 2 (by simp)
   have o3:=RZ.cell 3 _ rfl
   have f3:=RZ.free 3 (by simp)
   have o4:=RZ.cell 4 _ rfl
   have f4:=RZ.free 4 (by simp)
   have o5:=RZ.cell 5 _ rfl
   have f5:=RZ.free 5 (by simp)
   have RX:=((((((RZ.set 0 (.int .i64 u0) (by simp)).set 1 (.int .i64 v0) (by simp)).set 2 (.int .i64 u1) (by simp)).set 3 (.int .i64 v1) (by simp)).set 4 (.int .i64 u2) (by simp)).set 5 (.int .i64 v2) (by simp))
   have BZ:=((((((BX.setCell (p:=⟨w.heap.size+2,0,none⟩) (by simp) (.int .i64 u0)).setCell (p:=⟨w.heap.size+2,1,none⟩) (by simp) (.int .i64 v0)).setCell (p:=⟨w.heap.size+2,2,none⟩) (by simp) (.int .i64 u1)).setCell (p:=⟨w.heap.size+2,3,none⟩) (by simp) (.int .i64 v1)).setCell (p:=⟨w.heap.size+2,4,none⟩) (by simp) (.int .i64 u2)).setCell (p:=⟨w.heap.size+2,5,none⟩) (by simp) (.int .i64 v2))
   have n0:=RX.cell 0 _ rfl
   have n1:=RX.cell 1 _ rfl
   have n2:=RX.cell 2 _ rfl
   have n3:=RX.cell 3 _ rfl
   have n4:=RX.cell 4 _ rfl
   have n5:=RX.cell 5 _ rfl
   clear RX RZ
   go_wp2
   exact bodyPost_ret (v:= .tuple #[.agg #[.int .i64 u0, .int .i64 v0, .int .i64 u1, .int .i64 v1, .int .i64 u2, .int .i64 v2], .bool true]) (by simp [results,Try.results21,go_sem, *]) rfl ⟨HRF.out,BZ⟩
theorem ar_can{a1 a2 b1 b2 c1 c2:Int}(ha:canC a1 a2=true)(hb:canC b1 b2=true)(hc:canC c1 c2=true):arP a1 a2 b1 b2 c1 c2=areaP a1 a2 b1 b2 c1 c2:=by unfold arP;rw [if_pos (can3.2 ⟨ha,hb,hc⟩)]
set_option maxRecDepth 100000 in
set_option maxHeartbeats 4000000 in
theorem wOutside(pp:Nat)(a0 b0 a1 b1 a2 b2 q1 q2:Int)(w:World)(h0:canC a0 b0=true)(h1:canC a1 b1=true)(h2:canC a2 b2=true)(hq:canC q1 q2=true){r:Int}(hr:r=if(areaP a1 b1 a2 b2 q1 q2).sign= -1 then 0 else if(areaP a2 b2 a0 b0 q1 q2).sign= -1 then 1 else if(areaP a0 b0 a1 b1 q1 q2).sign= -1 then 2 else -1):
  Calls Try.prog 22 #[.agg #[ptR pp, .int .i64 q1, .int .i64 q2], .agg #[.int .i64 a0, .int .i64 b0, .int .i64 a1, .int .i64 b1, .int .i64 a2, .int .i64 b2]] w fun e w'=>e= .returned (.int .i64 r)∧Below w.heap.size w w':=by
 obtain⟨g0,hg0⟩: ∃ g,g=(areaP a1 b1 a2 b2 q1 q2).sign:=⟨_,rfl⟩
 have CO0:Hid (∀ w',Calls Try.prog 34 #[.agg #[.int .i64 a1, .int .i64 b1], .agg #[.int .i64 a2, .int .i64 b2], .agg #[.int .i64 q1, .int .i64 q2]] w' fun e w''=>e= .returned (.int .i64 g0)∧Below w'.heap.size w' w''):=fun w'=>pOrient a1 b1 a2 b2 q1 q2 w' (by rw [ar_can h1 h2 hq];exact hg0)
 obtain⟨g1,hg1⟩: ∃ g,g=(areaP a2 b2 a0 b0 q1 q2).sign:=⟨_,rfl⟩
 have CO1:Hid (∀ w',Calls Try.prog 34 #[.agg #[.int .i64 a2, .int .i64 b2], .agg #[.int .i64 a0, .int .i64 b0], .agg #[.int .i64 q1, .int .i64 q2]] w' fun e w''=>e= .returned (.int .i64 g1)∧Below w'.heap.size w' w''):=fun w'=>pOrient a2 b2 a0 b0 q1 q2 w' (by rw [ar_can h2 h0 hq];exact hg1)
 obtain⟨g2,hg2⟩: ∃ g,g=(areaP a0 b0 a1 b1 q1 q2).sign:=⟨_,rfl⟩
 have CO2:Hid (∀ w',Calls Try.prog 34 #[.agg #[.int .i64 a0, .int .i64 b0], .agg #[.int .i64 a1, .int .i64 b1], .agg #[.int .i64 q1, .int .i64 q2]] w' fun e w''=>e= .returned (.int .i64 g2)∧Below w'.heap.size w' w''):=fun w'=>pOrient a0 b0 a1 b1 q1 q2 w' (by rw [ar_can h0 h1 hq];exact hg2)
 have HR:Hid (r=if g0= -1 then 0 else if g1= -1 then 1 else if g2= -1 then 2 else -1):=by unfold Hid;rw [hr,hg0,hg1,hg2]
 clear hr hg0 hg1 hg2 h0 h1 h2 hq
 obtain⟨W,hW⟩: ∃ W,W=((w.alloc (.cells #[ptR pp, .int .i64 q1, .int .i64 q2] 39)).alloc (.cells #[.int .i64 a0, .int .i64 b0, .int .i64 a1, .int .i64 b1, .int .i64 a2, .int .i64 b2] 75)):=⟨_,rfl⟩
 have bW:Below w.heap.size w W:=by rw [hW];exact(((Below.refl _ _).alloc (Nat.le_refl _) _).alloc (by simp<;>omega) _)
 have zW:W.heap.size=w.heap.size+2:=by rw [hW];simp
 have Rw:Row W (w.heap.size) [ptR pp, .int .i64 q1, .int .i64 q2]:=by
  have h0:=Row.new w [ptR pp, .int .i64 q1, .int .i64 q2] 39
  rw [hW];exact(h0.alloc _ (by simp<;>omega))
 have lw:w.heap.size<W.heap.size:=by omega
 have Ra:Row W (w.heap.size+1) [.int .i64 a0, .int .i64 b0, .int .i64 a1, .int .i64 b1, .int .i64 a2, .int .i64 b2]:=by
  have h0:=Row.new (w.alloc (.cells #[ptR pp, .int .i64 q1, .int .i64 q2] 39)) [.int .i64 a0, .int .i64 b0, .int .i64 a1, .int .i64 b1, .int .i64 a2, .int .i64 b2] 75
  simp only [World.size_alloc]at h0
  rw [hW];exact h0
 have la:w.heap.size+1<W.heap.size:=by omega
 have HW:((w.alloc (.cells #[ptR pp, .int .i64 q1, .int .i64 q2] 39)).alloc (.cells #[.int .i64 a0, .int .i64 b0, .int .i64 a1, .int .i64 b1, .int .i64 a2, .int .i64 b2] 75))=W:=hW.symm
 clear hW
 replace HW:Hid _:=HW
 go_enter Try.func22,Try.ntmps22
 go_wp2
 rw [HW.out]
 clear HW
 go_loopw [6] (fun i wr=>(i= .int .i64 0∨(i= .int .i64 1∧Hid (g0≠ -1))∨(i= .int .i64 2∧Hid (g0≠ -1)∧Hid (g1≠ -1))∨(i= .int .i64 3∧Hid (g0≠ -1)∧Hid (g1≠ -1)∧Hid (g2≠ -1)))∧Below W.heap.size W wr) (fun i _=>3- (Go.RowKit.intOf i).toNat)
 case atStart=>exact⟨Or.inl rfl,Below.refl _ _⟩
 case round=>
  obtain⟨hi,kr⟩:=hrel
  have zr:=kr.size
  have BX:Below w.heap.size w wr:=bW.trans (kr.mono (by omega))
  replace Ra:=Ra.below kr la
  replace Rw:=Rw.below kr lw
  have c0:=Ra.cell 0 _ rfl
  have c1:=Ra.cell 1 _ rfl
  have c2:=Ra.cell 2 _ rfl
  have c3:=Ra.cell 3 _ rfl
  have c4:=Ra.cell 4 _ rfl
  have c5:=Ra.cell 5 _ rfl
  have d1:=Rw.cell 1 _ rfl
  have d2:=Rw.cell 2 _ rfl
  rcases hi with rfl|⟨rfl,n0⟩|⟨rfl,n0,n1⟩|⟨rfl,n0,n1,n2⟩
  ·go_wp2
   have t1:(IntKind.i64.wrap 1).tmod 3=1:=by decide
   have t2:(IntKind.i64.wrap 2).tmod 3=2:=by decide
   have la3:w.heap.size+1<wr.heap.size:=by omega
   have lw3:w.heap.size<wr.heap.size:=by omega
   have HSq0:Hid (∀ w',Below (wr.heap.size) wr w'→(fun w'=>w'.cell? ⟨w.heap.size+1,2,none⟩=some (.int .i64 a1)∧w'.cell? ⟨w.heap.size+1,3,none⟩=some (.int .i64 b1)∧w'.cell? ⟨w.heap.size+1,4,none⟩=some (.int .i64 a2)∧w'.cell? ⟨w.heap.size+1,5,none⟩=some (.int .i64 b2)∧w'.cell? ⟨w.heap.size,1,none⟩=some (.int .i64 q1)∧w'.cell? ⟨w.heap.size,2,none⟩=some (.int .i64 q2)∧Below (wr.heap.size) wr w') w'):=by
    unfold Hid
    intro w' hb
    exact⟨(hb.cell (p:=⟨w.heap.size+1,2,none⟩) la3).trans c2,(hb.cell (p:=⟨w.heap.size+1,3,none⟩) la3).trans c3,(hb.cell (p:=⟨w.heap.size+1,4,none⟩) la3).trans c4,(hb.cell (p:=⟨w.heap.size+1,5,none⟩) la3).trans c5,(hb.cell (p:=⟨w.heap.size,1,none⟩) lw3).trans d1,(hb.cell (p:=⟨w.heap.size,2,none⟩) lw3).trans d2,hb⟩
   refine wp_region_held_drew (S:=fun w'=>w'.cell? ⟨w.heap.size+1,2,none⟩=some (.int .i64 a1)∧w'.cell? ⟨w.heap.size+1,3,none⟩=some (.int .i64 b1)∧w'.cell? ⟨w.heap.size+1,4,none⟩=some (.int .i64 a2)∧w'.cell? ⟨w.heap.size+1,5,none⟩=some (.int .i64 b2)∧w'.cell? ⟨w.heap.size,1,none⟩=some (.int .i64 q1)∧w'.cell? ⟨w.heap.size,2,none⟩=some (.int .i64 q2)∧Below (wr.heap.size) wr w') (by kernel_rfl) ?_ (fun hHeld=>?_)
   ·exact HSq0.out _ ((Below.refl _ _).drew)
   refine tn 0 ?_;refine tn 1 ?_;refine tn 2 ?_;refine tn 3 ?_;refine tn 4 ?_;refine tn 5 ?_;refine tn 6 ?_;refine tn 7 ?_;refine tn 8 ?_;refine tn 9 ?_;refine tn 10 ?_;refine tn 11 ?_
   simp only [Act.put,ps1,ps2,ps3]
   refine tcl 12 fun Kc hK=>?_
   go_simp
   (go_at_call 34;refine Calls.mono (CO0.out _) ?_;rintro e w4 ⟨rfl,b4⟩)
   refine hK.out _ _ ?_ (fun hHeld=>?_)
   ·exact HSq0.out _ (hHeld.2.2.2.2.2.2.trans (b4.mono hHeld.2.2.2.2.2.2.size))
   clear hK Kc
   refine tz (i:=13) rfl ?_
   simp only [Act.put,ps1,ps2,ps3]
   refine wpAnyH_done (by kernel_rfl) ?_ _
   have BY:Below w.heap.size w _:=BX.trans (hHeld.2.2.2.2.2.2.mono (by omega))
   have kr2:=kr.trans (hHeld.2.2.2.2.2.2.mono zr)
   clear hHeld HSq0
   by_cases e:g0= -1
   ·have HE:Hid (r=0):=by unfold Hid;rw [HR.out,if_pos e]
    have e':(g0== -1)=true:=by rw [e];rfl
    clear HR e
    go_wp2
    go_ret
    exact⟨by rw [HE.out];try rfl,BY⟩
   ·have e':(g0== -1)=false:=by simpa using e
    have HN:Hid (g0≠ -1):=e
    clear e
    go_wp2
    go_roundw
    case rel=>exact⟨Or.inr (Or.inl ⟨rfl,HN⟩),kr2⟩
    case measure=>simp [Go.RowKit.intOf]
  ·go_wp2
   have t2:(IntKind.i64.wrap 2).tmod 3=2:=by decide
   have t3:(IntKind.i64.wrap 3).tmod 3=0:=by decide
   have la3:w.heap.size+1<wr.heap.size:=by omega
   have lw3:w.heap.size<wr.heap.size:=by omega
   have HSq1:Hid (∀ w',Below (wr.heap.size) wr w'→(fun w'=>w'.cell? ⟨w.heap.size+1,4,none⟩=some (.int .i64 a2)∧w'.cell? ⟨w.heap.size+1,5,none⟩=some (.int .i64 b2)∧w'.cell? ⟨w.heap.size+1,0,none⟩=some (.int .i64 a0)∧w'.cell? ⟨w.heap.size+1,1,none⟩=some (.int .i64 b0)∧w'.cell? ⟨w.heap.size,1,none⟩=some (.int .i64 q1)∧w'.cell? ⟨w.heap.size,2,none⟩=some (.int .i64 q2)∧Below (wr.heap.size) wr w') w'):=by
    unfold Hid
    intro w' hb
    exact⟨(hb.cell (p:=⟨w.heap.size+1,4,none⟩) la3).trans c4,(hb.cell (p:=⟨w.heap.size+1,5,none⟩) la3).trans c5,(hb.cell (p:=⟨w.heap.size+1,0,none⟩) la3).trans c0,(hb.cell (p:=⟨w.heap.size+1,1,none⟩) la3).trans c1,(hb.cell (p:=⟨w.heap.size,1,none⟩) lw3).trans d1,(hb.cell (p:=⟨w.heap.size,2,none⟩) lw3).trans d2,hb⟩
   refine wp_region_held_drew (S:=fun w'=>w'.cell? ⟨w.heap.size+1,4,none⟩=some (.int .i64 a2)∧w'.cell? ⟨w.heap.size+1,5,none⟩=some (.int .i64 b2)∧w'.cell? ⟨w.heap.size+1,0,none⟩=some (.int .i64 a0)∧w'.cell? ⟨w.heap.size+1,1,none⟩=some (.int .i64 b0)∧w'.cell? ⟨w.heap.size,1,none⟩=some (.int .i64 q1)∧w'.cell? ⟨w.heap.size,2,none⟩=some (.int .i64 q2)∧Below (wr.heap.size) wr w') (by kernel_rfl) ?_ (fun hHeld=>?_)
   ·exact HSq1.out _ ((Below.refl _ _).drew)
   refine tn 0 ?_;refine tn 1 ?_;refine tn 2 ?_;refine tn 3 ?_;refine tn 4 ?_;refine tn 5 ?_;refine tn 6 ?_;refine tn 7 ?_;refine tn 8 ?_;refine tn 9 ?_;refine tn 10 ?_;refine tn 11 ?_
   simp only [Act.put,ps1,ps2,ps3]
   refine tcl 12 fun Kc hK=>?_
   go_simp
   (go_at_call 34;refine Calls.mono (CO1.out _) ?_;rintro e w4 ⟨rfl,b4⟩)
   refine hK.out _ _ ?_ (fun hHeld=>?_)
   ·exact HSq1.out _ (hHeld.2.2.2.2.2.2.trans (b4.mono hHeld.2.2.2.2.2.2.size))
   clear hK Kc
   refine tz (i:=13) rfl ?_
   simp only [Act.put,ps1,ps2,ps3]
   refine wpAnyH_done (by kernel_rfl) ?_ _
   have BY:Below w.heap.size w _:=BX.trans (hHeld.2.2.2.2.2.2.mono (by omega))
   have kr2:=kr.trans (hHeld.2.2.2.2.2.2.mono zr)
   clear hHeld HSq1
   by_cases e:g1= -1
   ·have HE:Hid (r=1):=by unfold Hid;rw [HR.out,if_neg n0.out,if_pos e]
    have e':(g1== -1)=true:=by rw [e];rfl
    clear HR e
    go_wp2
    go_ret
    exact⟨by rw [HE.out];try rfl,BY⟩
   ·have e':(g1== -1)=false:=by simpa using e
    have HN:Hid (g1≠ -1):=e
    clear e
    go_wp2
    go_roundw
    case rel=>exact⟨Or.inr (Or.inr (Or.inl ⟨rfl,n0,HN⟩)),kr2⟩
    case measure=>simp [Go.RowKit.intOf]
  ·go_wp2
   have t3:(IntKind.i64.wrap 3).tmod 3=0:=by decide
   have t4:(IntKind.i64.wrap 4).tmod 3=1:=by decide
   have la3:w.heap.size+1<wr.heap.size:=by omega
   have lw3:w.heap.size<wr.heap.size:=by omega
   have HSq2:Hid (∀ w',Below (wr.heap.size) wr w'→(fun w'=>w'.cell? ⟨w.heap.size+1,0,none⟩=some (.int .i64 a0)∧w'.cell? ⟨w.heap.size+1,1,none⟩=some (.int .i64 b0)∧w'.cell? ⟨w.heap.size+1,2,none⟩=some (.int .i64 a1)∧w'.cell? ⟨w.heap.size+1,3,none⟩=some (.int .i64 b1)∧w'.cell? ⟨w.heap.size,1,none⟩=some (.int .i64 q1)∧w'.cell? ⟨w.heap.size,2,none⟩=some (.int .i64 q2)∧Below (wr.heap.size) wr w') w'):=by
    unfold Hid
    intro w' hb
    exact⟨(hb.cell (p:=⟨w.heap.size+1,0,none⟩) la3).trans c0,(hb.cell (p:=⟨w.heap.size+1,1,none⟩) la3).trans c1,(hb.cell (p:=⟨w.heap.size+1,2,none⟩) la3).trans c2,(hb.cell (p:=⟨w.heap.size+1,3,none⟩) la3).trans c3,(hb.cell (p:=⟨w.heap.size,1,none⟩) lw3).trans d1,(hb.cell (p:=⟨w.heap.size,2,none⟩) lw3).trans d2,hb⟩
   refine wp_region_held_drew (S:=fun w'=>w'.cell? ⟨w.heap.size+1,0,none⟩=some (.int .i64 a0)∧w'.cell? ⟨w.heap.size+1,1,none⟩=some (.int .i64 b0)∧w'.cell? ⟨w.heap.size+1,2,none⟩=some (.int .i64 a1)∧w'.cell? ⟨w.heap.size+1,3,none⟩=some (.int .i64 b1)∧w'.cell? ⟨w.heap.size,1,none⟩=some (.int .i64 q1)∧w'.cell? ⟨w.heap.size,2,none⟩=some (.int .i64 q2)∧Below (wr.heap.size) wr w') (by kernel_rfl) ?_ (fun hHeld=>?_)
   ·exact HSq2.out _ ((Below.refl _ _).drew)
   refine tn 0 ?_;refine tn 1 ?_;refine tn 2 ?_;refine tn 3 ?_;refine tn 4 ?_;refine tn 5 ?_;refine tn 6 ?_;refine tn 7 ?_;refine tn 8 ?_;refine tn 9 ?_;refine tn 10 ?_;refine tn 11 ?_
   simp only [Act.put,ps1,ps2,ps3]
   refine tcl 12 fun Kc hK=>?_
   go_simp
   (go_at_call 34;refine Calls.mono (CO2.out _) ?_;rintro e w4 ⟨rfl,b4⟩)
   refine hK.out _ _ ?_ (fun hHeld=>?_)
   ·exact HSq2.out _ (hHeld.2.2.2.2.2.2.trans (b4.mono hHeld.2.2.2.2.2.2.size))
   clear hK Kc
   refine tz (i:=13) rfl ?_
   simp only [Act.put,ps1,ps2,ps3]
   refine wpAnyH_done (by kernel_rfl) ?_ _
   have BY:Below w.heap.size w _:=BX.trans (hHeld.2.2.2.2.2.2.mono (by omega))
   have kr2:=kr.trans (hHeld.2.2.2.2.2.2.mono zr)
   clear hHeld HSq2
   by_cases e:g2= -1
   ·have HE:Hid (r=2):=by unfold Hid;rw [HR.out,if_neg n0.out,if_neg n1.out,if_pos e]
    have e':(g2== -1)=true:=by rw [e];rfl
    clear HR e
    go_wp2
    go_ret
    exact⟨by rw [HE.out];try rfl,BY⟩
   ·have e':(g2== -1)=false:=by simpa using e
    have HN:Hid (g2≠ -1):=e
    clear e
    go_wp2
    go_roundw
    case rel=>exact⟨Or.inr (Or.inr (Or.inr ⟨rfl,n0,n1,HN⟩)),kr2⟩
    case measure=>simp [Go.RowKit.intOf]
  ·have HE:Hid (r= -1):=by unfold Hid;rw [HR.out,if_neg n0.out,if_neg n1.out,if_neg n2.out]
   go_wp2
   go_ret
   exact⟨by rw [HE.out];try rfl,BX⟩
def whP(a1 a2 b1 b2 c1 c2 d1 d2:Int):Int:=if canC d1 d2=true∧(arP a1 a2 b1 b2 c1 c2).sign=1 then whereP 1 (areaP a1 a2 b1 b2 d1 d2).sign (areaP b1 b2 c1 c2 d1 d2).sign (areaP c1 c2 a1 a2 d1 d2).sign else 0
theorem ar_turns{a1 a2 b1 b2 c1 c2:Int}(h:(arP a1 a2 b1 b2 c1 c2).sign=1):canC a1 a2=true∧canC b1 b2=true∧canC c1 c2=true:=by
 cases hq:canAll [(a1,a2),(b1,b2),(c1,c2)]
 ·unfold arP at h;rw [hq]at h;cases h
 ·exact can3.1 hq
def minP(x y z:Int):Int:=if z<(if y<x then y else x)then z else if y<x then y else x
theorem sgn_small(x:Int):x.sign= -1∨x.sign=0∨x.sign=1:=by
 rcases Int.lt_trichotomy x 0 with h|h|h
 ·exact Or.inl (Int.sign_eq_neg_one_of_neg h)
 ·subst h;exact Or.inr (Or.inl rfl)
 ·exact Or.inr (Or.inr (Int.sign_eq_one_of_pos h))
theorem where_min(a b c:Int):(minP a.sign b.sign c.sign=1∧whereP 1 a.sign b.sign c.sign=2)∨(minP a.sign b.sign c.sign=0∧whereP 1 a.sign b.sign c.sign=1)∨(minP a.sign b.sign c.sign= -1∧whereP 1 a.sign b.sign c.sign= -1):=by
 rcases sgn_small a with ha|ha|ha<;>rcases sgn_small b with hb|hb|hb<;>rcases sgn_small c with hc|hc|hc<;>rw [ha,hb,hc]<;>decide
theorem run_min3{P:Program}{w:World}(ts:Array TypeId)(t:TypeId)(k:IntKind)(x y z:Int):(Builtin.min_ ts t #[.int k x, .int k y, .int k z]).run P w= .ok (.int k (minP x y z)) w:=by
 simp [Builtin.min_,Builtin.min2,minP]
set_option maxRecDepth 100000 in
set_option maxHeartbeats 4000000 in
theorem pWhere(a1 a2 b1 b2 c1 c2 d1 d2:Int)(w:World){g:Int}(hg:g=whP a1 a2 b1 b2 c1 c2 d1 d2):
  Calls Try.prog 50 #[.agg #[.int .i64 a1, .int .i64 a2], .agg #[.int .i64 b1, .int .i64 b2], .agg #[.int .i64 c1, .int .i64 c2], .agg #[.int .i64 d1, .int .i64 d2]] w fun e w'=>e= .returned (.int .i64 g)∧Below w.heap.size w w':=by
 unfold whP at hg
 cases hd:canC d1 d2
 ·skip
  obtain rfl:g=0:=by rw [hg,hd];rfl
  have HQ:Hid (false=canAll [(d1,d2)]):=by unfold Hid;rw [canAll_cons,hd];rfl
  clear hg hd
  obtain⟨W,hW,bW,x_a,x_b,x_c,x_d,sW⟩:=bs_2222 w (.int .i64 a1) (.int .i64 a2) (.int .i64 b1) (.int .i64 b2) (.int .i64 c1) (.int .i64 c2) (.int .i64 d1) (.int .i64 d2) 23 23 23 23
  have zbW:=bW.size
  have BB:=bW
  go_enter Try.func50,Try.ntmps50
  go_wp2_with (go_at_call 62;fail)
  have eV:W.heap.size=w.heap.size+1+1+1+1:=by rw [hW];simp
  rw [←hW]
  clear hW
  obtain⟨V,hV⟩: ∃ V,V=(W.alloc (.cells #[.int .i64 d1, .int .i64 d2] 23)):=⟨_,rfl⟩
  rw [←hV]
  have bV:Below W.heap.size W V:=by rw [hV];exact(Below.refl _ _).alloc (Nat.le_refl _) _
  have rV:Row V W.heap.size [.int .i64 d1, .int .i64 d2]:=by rw [hV];exact Row.new _ _ _
  have lV:W.heap.size<V.heap.size:=by rw [hV];simp
  clear hV
  rw [eV]at rV lV
  have zbV:=bV.size
  replace BB:=also BB bV
  replace x_a:=x_a.on bV
  replace x_b:=x_b.on bV
  replace x_c:=x_c.on bV
  replace x_d:=x_d.on bV
  refine(pcan [(d1,d2)] 1 _ V rfl (by decide) rV lV HQ.out).mono ?_
  rintro e w1 ⟨rfl,bw1⟩
  have zbw1:=bw1.size
  replace BB:=also BB bw1
  replace x_a:=x_a.on bw1
  replace x_b:=x_b.on bw1
  replace x_c:=x_c.on bw1
  replace x_d:=x_d.on bw1
  have⟨x_a_0,x_a_1,x_a_2,x_a_3⟩:=x_a
  have⟨x_b_0,x_b_1,x_b_2,x_b_3⟩:=x_b
  have⟨x_c_0,x_c_1,x_c_2,x_c_3⟩:=x_c
  have⟨x_d_0,x_d_1,x_d_2,x_d_3⟩:=x_d
  go_wp2
  go_ret
  exact⟨rfl,BB⟩
 ·have HQ:Hid (true=canAll [(d1,d2)]):=by unfold Hid;rw [canAll_cons,hd];rfl
  by_cases hs:(arP a1 a2 b1 b2 c1 c2).sign=1
  ·skip
   rw [if_pos ⟨hd,hs⟩]at hg
   obtain⟨ha,hb,hc⟩:=ar_turns hs
   have HS:Hid _:=hs.symm
   clear hs
   have hm:=where_min (areaP a1 a2 b1 b2 d1 d2) (areaP b1 b2 c1 c2 d1 d2) (areaP c1 c2 a1 a2 d1 d2)
   rw [←hg]at hm
   clear hg
   obtain⟨x,hx⟩: ∃ r,r=(areaP a1 a2 b1 b2 d1 d2).sign:=⟨_,rfl⟩
   rw [←hx]at hm
   have Hx:Hid _:=hx
   clear hx
   obtain⟨y,hy⟩: ∃ r,r=(areaP b1 b2 c1 c2 d1 d2).sign:=⟨_,rfl⟩
   rw [←hy]at hm
   have Hy:Hid _:=hy
   clear hy
   obtain⟨z,hz⟩: ∃ r,r=(areaP c1 c2 a1 a2 d1 d2).sign:=⟨_,rfl⟩
   rw [←hz]at hm
   have Hz:Hid _:=hz
   clear hz
   have hmin:=fun w=>run_min3 (P:=Try.prog) (w:=w) #[3,3,3] 3 .i64 x y z
   obtain⟨m,em⟩: ∃ m,m=minP x y z:=⟨_,rfl⟩
   rw [←em]at hm
   have HM:Hid _:=em
   rw [←em]at hmin
   clear em
   obtain⟨W,hW,bW,x_a,x_b,x_c,x_d,sW⟩:=bs_2222 w (.int .i64 a1) (.int .i64 a2) (.int .i64 b1) (.int .i64 b2) (.int .i64 c1) (.int .i64 c2) (.int .i64 d1) (.int .i64 d2) 23 23 23 23
   have zbW:=bW.size
   have BB:=bW
   go_enter Try.func50,Try.ntmps50
   go_wp2_with (go_at_call 62;fail)
   have eV:W.heap.size=w.heap.size+1+1+1+1:=by rw [hW];simp
   rw [←hW]
   clear hW
   obtain⟨V,hV⟩: ∃ V,V=(W.alloc (.cells #[.int .i64 d1, .int .i64 d2] 23)):=⟨_,rfl⟩
   rw [←hV]
   have bV:Below W.heap.size W V:=by rw [hV];exact(Below.refl _ _).alloc (Nat.le_refl _) _
   have rV:Row V W.heap.size [.int .i64 d1, .int .i64 d2]:=by rw [hV];exact Row.new _ _ _
   have lV:W.heap.size<V.heap.size:=by rw [hV];simp
   clear hV
   rw [eV]at rV lV
   have zbV:=bV.size
   replace BB:=also BB bV
   replace x_a:=x_a.on bV
   replace x_b:=x_b.on bV
   replace x_c:=x_c.on bV
   replace x_d:=x_d.on bV
   refine(pcan [(d1,d2)] 1 _ V rfl (by decide) rV lV HQ.out).mono ?_
   rintro e w1 ⟨rfl,bw1⟩
   have zbw1:=bw1.size
   replace BB:=also BB bw1
   replace x_a:=x_a.on bw1
   replace x_b:=x_b.on bw1
   replace x_c:=x_c.on bw1
   replace x_d:=x_d.on bw1
   have⟨x_a_0,x_a_1,x_a_2,x_a_3⟩:=x_a
   have⟨x_b_0,x_b_1,x_b_2,x_b_3⟩:=x_b
   have⟨x_c_0,x_c_1,x_c_2,x_c_3⟩:=x_c
   have⟨x_d_0,x_d_1,x_d_2,x_d_3⟩:=x_d
   go_wp2_with (go_at_call 34;fail)
   refine(pOrient a1 a2 b1 b2 c1 c2 w1 HS.out).mono ?_
   rintro e w2 ⟨rfl,bw2⟩
   clear x_a_0 x_a_1 x_a_2 x_a_3 x_b_0 x_b_1 x_b_2 x_b_3 x_c_0 x_c_1 x_c_2 x_c_3 x_d_0 x_d_1 x_d_2 x_d_3
   have zbw2:=bw2.size
   replace BB:=also BB bw2
   replace x_a:=x_a.on bw2
   replace x_b:=x_b.on bw2
   replace x_c:=x_c.on bw2
   replace x_d:=x_d.on bw2
   go_wp2
   have dd1:Below w2.heap.size w2 w2.drew:=(Below.refl _ _).drew
   have zdd1:=dd1.size
   replace BB:=also BB dd1
   replace x_a:=x_a.on dd1
   replace x_b:=x_b.on dd1
   replace x_c:=x_c.on dd1
   replace x_d:=x_d.on dd1
   refine wp_region_held_drew (S:=(fun w'=>w'.cell? ⟨w.heap.size,0,none⟩=some (.int .i64 a1)∧w'.cell? ⟨w.heap.size,1,none⟩=some (.int .i64 a2)∧w'.cell? ⟨w.heap.size+1,0,none⟩=some (.int .i64 b1)∧w'.cell? ⟨w.heap.size+1,1,none⟩=some (.int .i64 b2)∧w'.cell? ⟨w.heap.size+1+1,0,none⟩=some (.int .i64 c1)∧w'.cell? ⟨w.heap.size+1+1,1,none⟩=some (.int .i64 c2)∧w'.cell? ⟨w.heap.size+1+1+1,0,none⟩=some (.int .i64 d1)∧w'.cell? ⟨w.heap.size+1+1+1,1,none⟩=some (.int .i64 d2)∧Below w.heap.size w w')) (by kernel_rfl) ?_ (fun hHeld=>?_)
   ·exact⟨x_a.c0,x_a.c1,x_b.c0,x_b.c1,x_c.c0,x_c.c1,x_d.c0,x_d.c1,BB⟩
   refine tn 0 ?_;refine tn 1 ?_;refine tn 2 ?_;refine tn 4 ?_;refine tn 5 ?_;refine tn 6 ?_;refine tn 8 ?_;refine tn 9 ?_;refine tn 10 ?_
   simp only [Go.Act.put,ps1,ps2,ps3]
   refine tcl 3 fun Kc hK=>?_
   go_simp
   (go_at_call 64;refine(pturn a1 a2 b1 b2 d1 d2 _ ha hb hd Hx.out).mono ?_;rintro e w3 ⟨rfl,bw3⟩)
   refine hK.out _ _ ?_ (fun hHeld=>?_)
   ·exact⟨cell_on bw3 hHeld.1,cell_on bw3 hHeld.2.1,cell_on bw3 hHeld.2.2.1,cell_on bw3 hHeld.2.2.2.1,cell_on bw3 hHeld.2.2.2.2.1,cell_on bw3 hHeld.2.2.2.2.2.1,cell_on bw3 hHeld.2.2.2.2.2.2.1,cell_on bw3 hHeld.2.2.2.2.2.2.2.1,also hHeld.2.2.2.2.2.2.2.2 bw3⟩
   clear hK Kc
   have zbw3:=bw3.size
   replace BB:=also BB bw3
   replace x_a:=x_a.on bw3
   replace x_b:=x_b.on bw3
   replace x_c:=x_c.on bw3
   replace x_d:=x_d.on bw3
   refine tcl 7 fun Kc hK=>?_
   go_simp
   (go_at_call 64;refine(pturn b1 b2 c1 c2 d1 d2 _ hb hc hd Hy.out).mono ?_;rintro e w4 ⟨rfl,bw4⟩)
   refine hK.out _ _ ?_ (fun hHeld=>?_)
   ·exact⟨cell_on bw4 hHeld.1,cell_on bw4 hHeld.2.1,cell_on bw4 hHeld.2.2.1,cell_on bw4 hHeld.2.2.2.1,cell_on bw4 hHeld.2.2.2.2.1,cell_on bw4 hHeld.2.2.2.2.2.1,cell_on bw4 hHeld.2.2.2.2.2.2.1,cell_on bw4 hHeld.2.2.2.2.2.2.2.1,also hHeld.2.2.2.2.2.2.2.2 bw4⟩
   clear hK Kc
   have zbw4:=bw4.size
   replace BB:=also BB bw4
   replace x_a:=x_a.on bw4
   replace x_b:=x_b.on bw4
   replace x_c:=x_c.on bw4
   replace x_d:=x_d.on bw4
   refine tcl 11 fun Kc hK=>?_
   go_simp
   (go_at_call 64;refine(pturn c1 c2 a1 a2 d1 d2 _ hc ha hd Hz.out).mono ?_;rintro e w5 ⟨rfl,bw5⟩)
   refine hK.out _ _ ?_ (fun hHeld=>?_)
   ·exact⟨cell_on bw5 hHeld.1,cell_on bw5 hHeld.2.1,cell_on bw5 hHeld.2.2.1,cell_on bw5 hHeld.2.2.2.1,cell_on bw5 hHeld.2.2.2.2.1,cell_on bw5 hHeld.2.2.2.2.2.1,cell_on bw5 hHeld.2.2.2.2.2.2.1,cell_on bw5 hHeld.2.2.2.2.2.2.2.1,also hHeld.2.2.2.2.2.2.2.2 bw5⟩
   clear hK Kc
   have zbw5:=bw5.size
   replace BB:=also BB bw5
   replace x_a:=x_a.on bw5
   replace x_b:=x_b.on bw5
   replace x_c:=x_c.on bw5
   replace x_d:=x_d.on bw5
   refine tz (i:=12) rfl ?_
   simp only [Go.Act.put,ps1,ps2,ps3]
   refine wpAnyH_done (by kernel_rfl) ?_ _
   rcases hm with⟨rfl,rfl⟩|⟨rfl,rfl⟩|⟨rfl,rfl⟩
   ·go_wp2
    go_ret
    exact⟨rfl,BB⟩
   ·go_wp2
    go_ret
    exact⟨rfl,BB⟩
   ·go_wp2
    go_ret
    exact⟨rfl,BB⟩
  ·skip
   obtain rfl:g=0:=by rw [hg,if_neg (fun h=>hs h.2)]
   obtain⟨r,hr⟩: ∃ r,r=(arP a1 a2 b1 b2 c1 c2).sign:=⟨_,rfl⟩
   rw [←hr]at hs
   have hs':(r==1)=false:=by simpa using hs
   have HR:Hid _:=hr
   clear hr hg hd hs
   obtain⟨W,hW,bW,x_a,x_b,x_c,x_d,sW⟩:=bs_2222 w (.int .i64 a1) (.int .i64 a2) (.int .i64 b1) (.int .i64 b2) (.int .i64 c1) (.int .i64 c2) (.int .i64 d1) (.int .i64 d2) 23 23 23 23
   have zbW:=bW.size
   have BB:=bW
   go_enter Try.func50,Try.ntmps50
   go_wp2_with (go_at_call 62;fail)
   have eV:W.heap.size=w.heap.size+1+1+1+1:=by rw [hW];simp
   rw [←hW]
   clear hW
   obtain⟨V,hV⟩: ∃ V,V=(W.alloc (.cells #[.int .i64 d1, .int .i64 d2] 23)):=⟨_,rfl⟩
   rw [←hV]
   have bV:Below W.heap.size W V:=by rw [hV];exact(Below.refl _ _).alloc (Nat.le_refl _) _
   have rV:Row V W.heap.size [.int .i64 d1, .int .i64 d2]:=by rw [hV];exact Row.new _ _ _
   have lV:W.heap.size<V.heap.size:=by rw [hV];simp
   clear hV
   rw [eV]at rV lV
   have zbV:=bV.size
   replace BB:=also BB bV
   replace x_a:=x_a.on bV
   replace x_b:=x_b.on bV
   replace x_c:=x_c.on bV
   replace x_d:=x_d.on bV
   refine(pcan [(d1,d2)] 1 _ V rfl (by decide) rV lV HQ.out).mono ?_
   rintro e w1 ⟨rfl,bw1⟩
   have zbw1:=bw1.size
   replace BB:=also BB bw1
   replace x_a:=x_a.on bw1
   replace x_b:=x_b.on bw1
   replace x_c:=x_c.on bw1
   replace x_d:=x_d.on bw1
   have⟨x_a_0,x_a_1,x_a_2,x_a_3⟩:=x_a
   have⟨x_b_0,x_b_1,x_b_2,x_b_3⟩:=x_b
   have⟨x_c_0,x_c_1,x_c_2,x_c_3⟩:=x_c
   have⟨x_d_0,x_d_1,x_d_2,x_d_3⟩:=x_d
   go_wp2_with (go_at_call 34;fail)
   refine(pOrient a1 a2 b1 b2 c1 c2 w1 HR.out).mono ?_
   rintro e w2 ⟨rfl,bw2⟩
   clear x_a_0 x_a_1 x_a_2 x_a_3 x_b_0 x_b_1 x_b_2 x_b_3 x_c_0 x_c_1 x_c_2 x_c_3 x_d_0 x_d_1 x_d_2 x_d_3
   have zbw2:=bw2.size
   replace BB:=also BB bw2
   replace x_a:=x_a.on bw2
   replace x_b:=x_b.on bw2
   replace x_c:=x_c.on bw2
   replace x_d:=x_d.on bw2
   go_wp2
   go_ret
   exact⟨rfl,BB⟩
theorem out_where{S:Ms}{m:Nat}(O:MsOk S m){c:Ce}(hc:c∈S.C){x y q1 q2:Int}(hq:canC q1 q2=true)(ha:mvAll S c.t x y=true):(0<whP (mvX S c.t 0 x) (mvY S c.t 0 y) (mvX S c.t 1 x) (mvY S c.t 1 y) (mvX S c.t 2 x) (mvY S c.t 2 y) q1 q2)↔outI S c.t x y q1 q2= -1:=by
 obtain⟨h0,h1,h2⟩:=mvAll_iff.1 ha
 have hA:=area_mv O hc x y
 unfold whP outI outK
 rw [if_pos ha,if_pos ⟨hq,by rw [ar_can (mvd_can h0) (mvd_can h1) (mvd_can h2)];exact hA⟩]
 unfold whereP
 show _↔(if(areaP (mvX S c.t 1 x) (mvY S c.t 1 y) (mvX S c.t 2 x) (mvY S c.t 2 y) q1 q2).sign= -1 then(0:Int)else if(areaP (mvX S c.t 2 x) (mvY S c.t 2 y) (mvX S c.t 0 x) (mvY S c.t 0 y) q1 q2).sign= -1 then 1 else if(areaP (mvX S c.t 0 x) (mvY S c.t 0 y) (mvX S c.t 1 x) (mvY S c.t 1 y) q1 q2).sign= -1 then 2 else -1)= -1
 generalize areaP (mvX S c.t 0 x) (mvY S c.t 0 y) (mvX S c.t 1 x) (mvY S c.t 1 y) q1 q2=A
 generalize areaP (mvX S c.t 1 x) (mvY S c.t 1 y) (mvX S c.t 2 x) (mvY S c.t 2 y) q1 q2=B
 generalize areaP (mvX S c.t 2 x) (mvY S c.t 2 y) (mvX S c.t 0 x) (mvY S c.t 0 y) q1 q2=D
 rcases sgn_small A with a|a|a<;>rcases sgn_small B with b|b|b<;>rcases sgn_small D with d|d|d<;>rw [a,b,d]<;>decide
set_option maxRecDepth 100000 in
set_option maxHeartbeats 4000000 in
theorem wLies{MP:MeShape}(HSp:MeSp MP)(base pp:Nat)(S:Ms)(m:Nat)(F:Nat→Prop)(w:World)(HP:MP base pp S F w)(O:MsOk S m)(hm:m≤1000)(c:Ce)(hc:c∈S.C)(x y q1 q2:Int)(hq:canC q1 q2=true){r:Bool}(hr:r=decide (outI S c.t x y q1 q2= -1)):
  Calls Try.prog 37 #[.agg #[ptR pp, .int .i64 q1, .int .i64 q2], .agg #[.int .i64 c.no, .int .i64 x, .int .i64 y]] w fun e w'=>e= .returned (.bool r)∧Below w.heap.size w w':=by
 obtain⟨f,hff⟩: ∃ f,f=c.no:=⟨_,rfl⟩
 have HC:Hid (∀ w',Below w.heap.size w w'→Calls Try.prog 21 #[.agg #[ptR pp, .int .i64 q1, .int .i64 q2], .agg #[.int .i64 f, .int .i64 x, .int .i64 y]] w' fun e w''=>CornIs S c.t x y e∧Below w'.heap.size w' w''):=fun w' hb=>by rw [hff];exact wCorners HSp base pp S m F w' (HSp.below HP hb) O hm c hc x y q1 q2
 rw [←hff]
 obtain⟨W,hW⟩: ∃ W,W=((w.alloc (.cells #[ptR pp, .int .i64 q1, .int .i64 q2] 39)).alloc (.cells #[.int .i64 f, .int .i64 x, .int .i64 y] 43)):=⟨_,rfl⟩
 have bW:Below w.heap.size w W:=by rw [hW];exact(((Below.refl _ _).alloc (Nat.le_refl _) _).alloc (by simp<;>omega) _)
 have zW:W.heap.size=w.heap.size+2:=by rw [hW];simp
 have Rw:Row W (w.heap.size) [ptR pp, .int .i64 q1, .int .i64 q2]:=by
  have h0:=Row.new w [ptR pp, .int .i64 q1, .int .i64 q2] 39
  rw [hW];exact(h0.alloc _ (by simp<;>omega))
 have lw:w.heap.size<W.heap.size:=by omega
 have Rh:Row W (w.heap.size+1) [.int .i64 f, .int .i64 x, .int .i64 y]:=by
  have h0:=Row.new (w.alloc (.cells #[ptR pp, .int .i64 q1, .int .i64 q2] 39)) [.int .i64 f, .int .i64 x, .int .i64 y] 43
  simp only [World.size_alloc]at h0
  rw [hW];exact h0
 have lh:w.heap.size+1<W.heap.size:=by omega
 have HW:((w.alloc (.cells #[ptR pp, .int .i64 q1, .int .i64 q2] 39)).alloc (.cells #[.int .i64 f, .int .i64 x, .int .i64 y] 43))=W:=hW.symm
 clear hW
 replace HC:Hid _:=HC.out W bW
 unfold CornIs at HC
 have w0:=Rw.cell 0 _ rfl
 have w1:=Rw.cell 1 _ rfl
 have w2:=Rw.cell 2 _ rfl
 have h0:=Rh.cell 0 _ rfl
 have h1:=Rh.cell 1 _ rfl
 have h2:=Rh.cell 2 _ rfl
 cases ha:mvAll S c.t x y with
 |false=>
  have hrf:Hid (r=false):=by unfold Hid;rw [hr];unfold outI;rw [ha];rfl
  unfold coV coX coY at HC
  rw [ha]at HC
  simp only [Bool.false_eq_true,if_false]at HC
  clear HP ha hff hr hq
  go_enter Try.func37,Try.ntmps37
  go_wp2_with (go_at_call 21;fail)
  refine Calls.mono HC.out ?_
  rintro e w3 ⟨rfl,b3⟩
  have B4:Below w.heap.size w (w3.alloc (.cells #[.int .i64 0, .int .i64 0, .int .i64 0, .int .i64 0, .int .i64 0, .int .i64 0] 75)):=(bW.trans (b3.mono (by omega))).alloc (by have:=b3.size;omega) _
  go_wp2
  go_ret
  exact⟨by rw [hrf.out];try rfl,B4⟩
 |true=>
  have hw:=out_where O hc hq ha
  obtain⟨a0,e0⟩: ∃ a,a=mvX S c.t 0 x:=⟨_,rfl⟩
  obtain⟨b0,g0⟩: ∃ a,a=mvY S c.t 0 y:=⟨_,rfl⟩
  obtain⟨a1,e1⟩: ∃ a,a=mvX S c.t 1 x:=⟨_,rfl⟩
  obtain⟨b1,g1⟩: ∃ a,a=mvY S c.t 1 y:=⟨_,rfl⟩
  obtain⟨a2,e2⟩: ∃ a,a=mvX S c.t 2 x:=⟨_,rfl⟩
  obtain⟨b2,g2⟩: ∃ a,a=mvY S c.t 2 y:=⟨_,rfl⟩
  rw [←e0,←e1,←e2,←g0,←g1,←g2]at hw
  unfold coV coX coY at HC
  rw [ha,←e0,←e1,←e2,←g0,←g1,←g2]at HC
  simp only [if_true]at HC
  obtain⟨v,hv⟩: ∃ v,v=whP a0 b0 a1 b1 a2 b2 q1 q2:=⟨_,rfl⟩
  have CW:Hid (∀ w',Calls Try.prog 50 #[.agg #[.int .i64 a0, .int .i64 b0], .agg #[.int .i64 a1, .int .i64 b1], .agg #[.int .i64 a2, .int .i64 b2], .agg #[.int .i64 q1, .int .i64 q2]] w' fun e w''=>e= .returned (.int .i64 v)∧Below w'.heap.size w' w''):=fun w'=>pWhere a0 b0 a1 b1 a2 b2 q1 q2 w' hv
  have HR:Hid (r=decide (0<v)):=by unfold Hid;rw [hr,hv];exact decide_eq_decide.2 hw.symm
  clear HP ha hff hr hq hw hv e0 e1 e2 g0 g1 g2
  go_enter Try.func37,Try.ntmps37
  go_wp2_with (go_at_call 21;fail)
  refine Calls.mono HC.out ?_
  rintro e w3 ⟨rfl,b3⟩
  obtain⟨w4,hw4⟩: ∃ w4,w4=w3.alloc (.cells #[.int .i64 a0, .int .i64 b0, .int .i64 a1, .int .i64 b1, .int .i64 a2, .int .i64 b2] 75):=⟨_,rfl⟩
  have q4:Below W.heap.size W w4:=by rw [hw4];exact b3.alloc b3.size _
  have z4:=q4.size
  have B4:Below w.heap.size w w4:=bW.trans (q4.mono (by omega))
  have RA:Row w4 w3.heap.size [.int .i64 a0, .int .i64 b0, .int .i64 a1, .int .i64 b1, .int .i64 a2, .int .i64 b2]:=by rw [hw4];exact Row.new w3 [.int .i64 a0, .int .i64 b0, .int .i64 a1, .int .i64 b1, .int .i64 a2, .int .i64 b2] _
  have Rw4:=Rw.below q4 (by omega)
  have x0:=RA.cell 0 _ rfl
  have x1:=RA.cell 1 _ rfl
  have x2:=RA.cell 2 _ rfl
  have x3:=RA.cell 3 _ rfl
  have x4:=RA.cell 4 _ rfl
  have x5:=RA.cell 5 _ rfl
  have y1:=Rw4.cell 1 _ rfl
  have y2:=Rw4.cell 2 _ rfl
  rw [hw4]at x0 x1 x2 x3 x4 x5 y1 y2
  have H4:Hid _:=hw4.symm
  clear HC w0 w1 w2 h0 h1 h2 RA Rw4 hw4
  go_wp2_with (go_at_call 50;fail)
  rw [H4.out]
  refine Calls.mono (CW.out _) ?_
  rintro e w5 ⟨rfl,b5⟩
  have B5:Below w.heap.size w w5:=B4.trans (b5.mono B4.size)
  clear CW x0 x1 x2 x3 x4 x5 y1 y2
  go_wp2
  go_ret
  exact⟨by rw [HR.out];try rfl,B5⟩
theorem try_at{S:Ms}{t:Tr}{q1 q2:Int}{a b:Nat}(ha:a<7)(hb:b<7):tryF S t q1 q2 (49- 7*a- b) (7*a+b)=if outI S t ((a:Int)- 3- t.x0) ((b:Int)- 3- t.y0) q1 q2= -1 then some ((a:Int)- 3- t.x0,(b:Int)- 3- t.y0)else tryF S t q1 q2 (49- 7*a- (b+1)) (7*a+(b+1)):=by
 have e:49- 7*a- b=(49- 7*a- (b+1))+1:=by omega
 have hx:tryX t (7*a+b)=(a:Int)- 3- t.x0:=by unfold tryX;rw [show(7*a+b)/7=a by omega];rfl
 have hy:tryY t (7*a+b)=(b:Int)- 3- t.y0:=by unfold tryY;rw [show(7*a+b) % 7=b by omega];rfl
 rw [e]
 show(if outI S t (tryX t (7*a+b)) (tryY t (7*a+b)) q1 q2= -1 then some (tryX t (7*a+b),tryY t (7*a+b))else _)=_
 rw [hx,hy]
 rfl
end Go.Proofs.Ytaadknpjbogkbaa
