/-
  Joined texts, part 1:
  Rows of values in one block of memory: what is read of them behind a store, a draw, a new 
  Slices in memory, wherever they begin in their block: what is read of them behind a store,
  A region whose order is open, an operation at a time: one that is wanted and yields in eve
  What nat's Cmp answers.
  Slices apart from a block, so that what is stored there leaves them as they are; and what 
  Whole numbers in memory; what package whole's signed and plus answer.
  Points over a torus: which can be, where they lie, in which order. It imports nothing of t
  A law's argument that is an array of three points: taken apart and put together again.
  A law's argument that is a face, fuel, and a point: taken apart and put together again.
  Objects that calls change in place: which blocks a call may write (Keep F: all others stay
  Maps in memory of one's own, as what they tell of each key, over the library's word for a 
  Edges and ints as a map's keys.
  What zelligeref10's in, Without and Ints answer.
  The numbers of an arena: those that are lent and those that came back are all below its to
  What zelligeref10's Live, Take and Free do.
  What the program's arena must do (its own shape in memory is left open: AP): the laws of l
  The landed arena: what a place holds, the chain of those that came back; what isOut and ca
  The landed arena does what an arena must: New, Clear, Take, Free, All.
  Areas, squares of distances, the circle's determinant: how great they are, what becomes of
  Meshes as lists: vertices and faces by their numbers, edges, what is put and taken. It imp
-/
import Derived.WalkKit
import Derived.WalkSmall
import Derived.Laws.OwnMore
import Derived.Deep.RegionHeld3
import Derived.Laws.BitsAllLaws
import Derived.Deep.RegionWith
import Derived.OwnWalk
import Derived.Laws.AppendOwnNone
import Derived.Test.YtaadknpjbogkbaaRows
import Derived.WalkSpells
import Derived.Deep.QuietTactic
import Derived.BigQuiet
import Derived.RegionTactic
import Derived.ChangeAlike
import Derived.RangeFuncNested
import Derived.RangeFuncBound
import Derived.RangeFuncCalls
import Derived.RangeFuncLeaves
import Derived.RangeFuncBox
import Derived.Shelf.Abstract
import Derived.Shelf.RegionOpen
import Derived.OwnWalkIn
import Derived.TacticsInMore
import Derived.LoopNIn
import Derived.LoopIn
import Derived.Lib.ItoaNum
import Derived.Lib.IndexBytes
import Derived.Deep.AppendLies
import Derived.Laws.BytesArg
import Derived.Test.YtaadknpjbogkbaaChecked
import Derived.Laws.IdiomArrays
import Derived.ProofKit
import Derived.OpenShut
import Derived.Lib.SmallJoins
import Derived.Deep.Strs
import Derived.Maps.AppendAt
import Derived.Maps.RangeWalk
import Derived.Maps.Ext
import Derived.Sort.KeysCollected
import Derived.DeepKeys4
import Derived.Lib.SlKeysI
namespace Go.Proofs.Ytaadknpjbogkbaa
open Go.RowKit
def Row(w:World)(b:Nat)(xs:List Value):Prop:= ∀ j v,xs[j]? =some v→w.cell? ⟨b,j,none⟩=some v∧w.frozen? ⟨b,j,none⟩=false
theorem Row.cell{w:World}{b:Nat}{xs:List Value}(h:Row w b xs)(j:Nat)(v:Value)(hj:xs[j]? =some v):w.cell? ⟨b,j,none⟩=some v:=(h j v hj).1
theorem Row.free{w:World}{b:Nat}{xs:List Value}(h:Row w b xs)(j:Nat)(hj:j<xs.length):w.frozen? ⟨b,j,none⟩=false:=(h j xs[j] (List.getElem?_eq_getElem hj)).2
theorem Row.drewN{w:World}{b:Nat}{xs:List Value}(h:Row w b xs)(n:Nat):Row (w.drewN n) b xs:=h
theorem Row.drew{w:World}{b:Nat}{xs:List Value}(h:Row w b xs):Row w.drew b xs:=h
theorem Row.set{w:World}{b:Nat}{xs:List Value}(h:Row w b xs)(i:Nat)(v:Value)(hi:i<xs.length):Row (w.setCell ⟨b,i,none⟩ v) b (xs.set i v):=by
 intro j u hu
 rw [World.frozen?_setCell]
 by_cases e:i=j
 ·subst e
  rw [List.getElem?_set_self hi]at hu
  simp only [Option.some.injEq]at hu
  subst hu
  exact⟨World.cell?_setCell_same _ _ _ (h.cell i xs[i] (List.getElem?_eq_getElem hi)),h.free i hi⟩
 ·rw [List.getElem?_set_ne e]at hu
  rw [World.cell?_setCell_other _ _ _ _ (by intro q;simp only [Addr.mk.injEq]at q;omega)]
  exact h j u hu
theorem Row.below{w w':World}{b B:Nat}{xs:List Value}(h:Row w b xs)(hb:Below B w w')(hB:b<B):Row w' b xs:=by
 intro j u hu
 rw [hb.cell (p:=⟨b,j,none⟩) hB,hb.frozen (p:=⟨b,j,none⟩) hB]
 exact h j u hu
theorem Row.other{w:World}{b c i:Nat}{xs:List Value}(h:Row w b xs)(v:Value)(hc:c≠b):Row (w.setCell ⟨c,i,none⟩ v) b xs:=by
 intro j u hu
 rw [World.frozen?_setCell,World.cell?_setCell_other _ _ _ _ (by intro q;simp only [Addr.mk.injEq]at q;omega)]
 exact h j u hu
theorem Row.new(w:World)(xs:List Value)(t:TypeId):Row (w.alloc (.cells xs.toArray t)) w.heap.size xs:=by
 intro j u hu
 rw [World.cell?_alloc_new,World.frozen?_alloc_new]
 exact⟨by simpa using hu,rfl⟩
theorem Row.alloc{w:World}{b:Nat}{xs:List Value}(h:Row w b xs)(o:Obj)(hb:b<w.heap.size):Row (w.alloc o) b xs:=
 h.below (((Below.refl _ _).alloc (Nat.le_refl _) o)) hb
end Go.Proofs.Ytaadknpjbogkbaa
namespace Go.Proofs.Ytaadknpjbogkbaa
open Go.RowKit
set_option linter.unusedVariables false
def Seg(w:World)(b o:Nat)(xs:List Value):Prop:= ∀ j v,xs[j]? =some v→w.cell? ⟨b,o+j,none⟩=some v∧w.frozen? ⟨b,o+j,none⟩=false
theorem Seg.cell{w:World}{b o:Nat}{xs:List Value}(h:Seg w b o xs)(j:Nat)(v:Value)(hj:xs[j]? =some v):w.cell? ⟨b,o+j,none⟩=some v:=(h j v hj).1
theorem Seg.free{w:World}{b o:Nat}{xs:List Value}(h:Seg w b o xs)(j:Nat)(hj:j<xs.length):w.frozen? ⟨b,o+j,none⟩=false:=(h j xs[j] (List.getElem?_eq_getElem hj)).2
theorem Seg.set{w:World}{b o:Nat}{xs:List Value}(h:Seg w b o xs)(i:Nat)(v:Value)(hi:i<xs.length):Seg (w.setCell ⟨b,o+i,none⟩ v) b o (xs.set i v):=by
 intro j u hu
 rw [World.frozen?_setCell]
 by_cases e:i=j
 ·subst e
  rw [List.getElem?_set_self hi]at hu
  simp only [Option.some.injEq]at hu
  subst hu
  exact⟨World.cell?_setCell_same _ _ _ (h.cell i xs[i] (List.getElem?_eq_getElem hi)),h.free i hi⟩
 ·rw [List.getElem?_set_ne e]at hu
  rw [World.cell?_setCell_other _ _ _ _ (by intro q;simp only [Addr.mk.injEq]at q;omega)]
  exact h j u hu
theorem Seg.block{w w':World}{b o:Nat}{xs:List Value}(h:Seg w b o xs)(hb:w'.heap[b]? =w.heap[b]?):Seg w' b o xs:=by
 intro j u hu
 rw [World.cell?_of_block (w:=w) (a:=⟨b,o+j,none⟩) hb,World.frozen?_of_block (w:=w) (a:=⟨b,o+j,none⟩) hb]
 exact h j u hu
theorem Seg.below{w w':World}{b o B:Nat}{xs:List Value}(h:Seg w b o xs)(hb:Below B w w')(hB:b<B):Seg w' b o xs:=h.block (hb.block b hB)
theorem Row.seg{w:World}{b:Nat}{xs:List Value}(h:Row w b xs):Seg w b 0 xs:=by
 intro j u hu
 rw [Nat.zero_add]
 exact h j u hu
structure Sl(w:World)(a:Option Addr)(n cap:Nat)(xs:List Value):Prop where
 len:xs.length=n
 room:n≤cap
 big:cap≤maxLen
 nil:a=none→n=0∧cap=0
 seg:n=0∨ ∃ b o,a=some ⟨b,o,none⟩∧b<w.heap.size∧Seg w b o xs
theorem Sl.at{w:World}{a:Option Addr}{n cap:Nat}{xs:List Value}(h:Sl w a n cap xs)(hn:0<n): ∃ b o,a=some ⟨b,o,none⟩∧b<w.heap.size∧Seg w b o xs:=h.seg.resolve_left (by omega)
abbrev Own(w:World)(base:Nat)(T:TypeId)(a:Option Addr)(n cap:Nat)(xs:List Value):Prop:=w.ownsRow base T 1 (.slice a n cap) n xs
theorem Own.sl{w:World}{base n cap:Nat}{T:TypeId}{a:Option Addr}{xs:List Value}(h:Own w base T a n cap xs):Sl w a n cap xs:=by
 obtain⟨hl,⟨h1,h2⟩|⟨g,cap',cur,hv,hb,hg,h1,h2,h3,h4⟩⟩:=h
 ·cases h1
  refine⟨by omega,Nat.le_refl _,Nat.zero_le _,fun _=>⟨rfl,rfl⟩,Or.inl rfl⟩
 ·cases hv
  refine⟨by omega,h1,h2,(by intro e;cases e),Or.inr ⟨g,0,rfl,(Array.getElem?_eq_some_iff.1 hg).1,?_⟩⟩
  intro j u hu
  have hj:j<n:=by
   have:=(List.getElem?_eq_some_iff.1 hu).1
   omega
  rw [←h4,Nat.mul_one,List.getElem?_take,if_pos hj]at hu
  refine⟨by simp [World.cell?,hg];simpa using hu,by simp [World.frozen?,hg]⟩
theorem Own.form{w:World}{base n:Nat}{T:TypeId}{v:Value}{xs:List Value}(h:w.ownsRow base T 1 v n xs): ∃ a cap,v= .slice a n cap∧Own w base T a n cap xs:=by
 obtain⟨hl,⟨h1,h2⟩|⟨g,cap',cur,hv,hb,hg,h1,h2,h3,h4⟩⟩:=h
 ·subst h1 h2
  exact⟨none,0,rfl,hl,Or.inl ⟨rfl,rfl⟩⟩
 ·subst hv
  exact⟨_,_,rfl,hl,Or.inr ⟨g,cap',cur,rfl,hb,hg,h1,h2,h3,h4⟩⟩
theorem Own.below{w w':World}{base n cap:Nat}{T:TypeId}{a:Option Addr}{xs:List Value}(h:Own w base T a n cap xs)(hb:Below w.heap.size w w'):Own w' base T a n cap xs:=by
 obtain⟨hl,h1|⟨g,cap',cur,hv,hb',hg,r⟩⟩:=h
 ·exact⟨hl,Or.inl h1⟩
 ·exact⟨hl,Or.inr ⟨g,cap',cur,hv,hb',by rw [hb.block g (Array.getElem?_eq_some_iff.1 hg).1];exact hg,r⟩⟩
theorem Own.at{w:World}{base n cap:Nat}{T:TypeId}{a:Option Addr}{xs:List Value}(h:Own w base T a n cap xs)(hn:0<n): ∃ b,a=some ⟨b,0,none⟩∧b<w.heap.size∧base≤b∧Seg w b 0 xs:=by
 obtain⟨b,o,e,h1,h2⟩:=h.sl.at hn
 subst e
 obtain⟨hl,⟨h1',_⟩|⟨g,cap',cur,hv,hb',r⟩⟩:=h
 ·cases h1'
 ·cases hv
  exact⟨b,rfl,h1,hb',h2⟩
structure Wr(w w':World)(b lo hi:Nat):Prop where
 grown:w.grownBy w' (some b)
 cells: ∀ c t f,w.heap[b]? =some (.cells c t f)→ ∃ c',w'.heap[b]? =some (.cells c' t f)∧c'.size=c.size∧ ∀ o,(o<lo∨hi≤o)→c'[o]? =c[o]?
theorem Wr.refl(w:World)(b lo hi:Nat):Wr w w b lo hi:=⟨World.grownBy.refl _ _,fun c t f h=>⟨c,h,rfl,fun _ _=>rfl⟩⟩
theorem Wr.trans{w w' w'':World}{b lo hi:Nat}(h:Wr w w' b lo hi)(k:Wr w' w'' b lo hi):Wr w w'' b lo hi:=by
 refine⟨⟨k.grown.os.trans h.grown.os,k.grown.tape.trans h.grown.tape,k.grown.output.trans h.grown.output,Nat.le_trans h.grown.size k.grown.size,fun i hi hne=>(k.grown.block i (Nat.lt_of_lt_of_le hi h.grown.size) hne).trans (h.grown.block i hi hne)⟩,fun c t f hc=>?_⟩
 obtain⟨c1,e1,s1,o1⟩:=h.cells c t f hc
 obtain⟨c2,e2,s2,o2⟩:=k.cells c1 t f e1
 exact⟨c2,e2,s2.trans s1,fun o ho=>(o2 o ho).trans (o1 o ho)⟩
theorem Wr.set{w w':World}{b lo hi i:Nat}(h:Wr w w' b lo hi)(v:Value)(h1:lo≤i)(h2:i<hi):Wr w (w'.setCell ⟨b,i,none⟩ v) b lo hi:=by
 refine h.trans ⟨⟨rfl,rfl,rfl,by simp,fun k hk hne=>Below.heap_setCell _ _ _ _ (by simpa using hne)⟩,fun c t f hc=>?_⟩
 refine⟨c.setIfInBounds i v,?_,by simp,fun o ho=>?_⟩
 ·simp [World.setCell,Array.getElem?_modify,hc]
 ·rw [Array.getElem?_setIfInBounds_ne (by omega)]
end Go.Proofs.Ytaadknpjbogkbaa
namespace Go.Proofs.Ytaadknpjbogkbaa
variable {P : Program} {md : Region.Mode} {Q : Exit → Act → World → Prop} {S : World → Prop}
theorem ps1{α:Type _}{xs:List α}{i:Nat}{a:α}:xs.toArray.setIfInBounds i a=(xs.set i a).toArray:=List.setIfInBounds_toArray ..
theorem ps2{α:Type _}{x:α}{xs:List α}{a:α}:(x::xs).set 0 a=a::xs:=List.set_cons_zero
theorem ps3{α:Type _}{x:α}{xs:List α}{n:Nat}{a:α}:(x::xs).set (n+1) a=x::xs.set n a:=List.set_cons_succ
theorem take_yes{l:List Oper}{i:Nat}{oi:Oper}{v:Value}{fuel:Nat}{listed:Array Bool}{a:Act}{w:World}(hi:l[i]? =some oi)
  (hs:Region.noSelect l.toArray=true) (hf:Region.free md l.toArray listed i=true) (hr:(Region.ready md l.toArray listed).contains i=true)
  (hQ: ∀ c a w,Q (.panic c) (a.put oi.dst v) w→Q (.panic c) a w) (hw:Region.wanted oi (yielded l.toArray a.tmps)=true) (hS:S w)
  (hy: ∀ w,S w→(execOp a.eval oi).run P w= .ok (.value v) w)
  (h:wpAnyH P md l.toArray Q S fuel (listed.setIfInBounds i true) (a.put oi.dst v) w):wpAnyH P md l.toArray Q S (fuel+1) listed a w:=
 wpAnyH_take (by simpa using hi) hs hf hr hQ (Or.inl ⟨hw,hy⟩) hS h
theorem tn(i:Nat){l:List Oper}{oi:Oper}{v:Value}{fuel:Nat}{listed:Array Bool}{a:Act}{w:World}(h:wpAnyH P md l.toArray Q S fuel (listed.setIfInBounds i true) (a.put oi.dst v) w)(hi:l[i]? =some oi:=by rfl)
  (hy: ∀ w,S w→(execOp a.eval oi).run P w= .ok (.value v) w:=by(intro w hSw;(try dsimp only at hSw);go_simp<;>with_reducible rfl))
  (hs:Region.noSelect l.toArray=true:=by kernel_rfl) (hf:Region.free md l.toArray listed i=true:=by kernel_rfl) (hr:(Region.ready md l.toArray listed).contains i=true:=by kernel_rfl)
  (hQ: ∀ c a w,Q (.panic c) (a.put oi.dst v) w→Q (.panic c) a w:=by exact fun _ _ _ h=>h) (hw:Region.wanted oi (yielded l.toArray a.tmps)=true:=by rfl) (hS:S w:=by assumption):wpAnyH P md l.toArray Q S (fuel+1) listed a w:=
 take_yes hi hs hf hr hQ hw hS hy h
theorem tz{l:List Oper}{i:Nat}{oi:Oper}{v:Value}{fuel:Nat}{listed:Array Bool}{a:Act}{w:World}(hi:l[i]? =some oi)(h:wpAnyH P md l.toArray Q S fuel (listed.setIfInBounds i true) (a.put oi.dst v) w)
  (hy: ∀ w,S w→(execOp a.eval oi).run P w= .ok (.value v) w:=by(intro w hSw;(try dsimp only at hSw);go_simp<;>with_reducible rfl))
  (hs:Region.noSelect l.toArray=true:=by kernel_rfl) (hf:Region.free md l.toArray listed i=true:=by kernel_rfl) (hr:(Region.ready md l.toArray listed).contains i=true:=by kernel_rfl)
  (hQ: ∀ c a w,Q (.panic c) (a.put oi.dst v) w→Q (.panic c) a w:=by exact fun _ _ _ h=>h) (hw:Region.wanted oi (yielded l.toArray a.tmps)=true:=by rfl) (hS:S w:=by assumption):wpAnyH P md l.toArray Q S (fuel+1) listed a w:=
 take_yes hi hs hf hr hQ hw hS hy h
theorem tQ(i:Nat){l:List Oper}{oi:Oper}{v:Value}{fuel:Nat}{listed:Array Bool}{a:Go.Act}{w:World}(h:wpAnyH P md l.toArray Q S fuel (listed.setIfInBounds i true) (a.put oi.dst v) w)(hi:l[i]? =some oi:=by rfl)
  (hQ: ∀ c a w,Q (.panic c) (a.put oi.dst v) w→Q (.panic c) a w:=by(intro _ _ _ h;rw [HQQ.out]at h;exact Exit.noConfusion h.1))
  (hy: ∀ w,S w→(execOp a.eval oi).run P w= .ok (.value v) w:=by(intro w hSw;(try dsimp only at hSw);go_simp<;>with_reducible rfl))
  (hs:Region.noSelect l.toArray=true:=by kernel_rfl) (hf:Region.free md l.toArray listed i=true:=by kernel_rfl) (hr:(Region.ready md l.toArray listed).contains i=true:=by kernel_rfl)
  (hw:Region.wanted oi (yielded l.toArray a.tmps)=true:=by rfl) (hS:S w:=by assumption):wpAnyH P md l.toArray Q S (fuel+1) listed a w:=
 take_yes hi hs hf hr hQ hw hS hy h
theorem take_call{l:List Oper}{i:Nat}{o:Oper}{fuel:Nat}{listed:Array Bool}{a:Act}{w:World}(ho:l[i]? =some o)(hr:Region.ready md l.toArray listed= [i])
  (h: ∀ K':Act→World→Prop,Shut (∀ a w,S w→(S w→wpAnyH P md l.toArray Q S fuel (listed.setIfInBounds i true) a w)→K' a w)→if Region.wanted o (yielded l.toArray a.tmps)=true then Oper.wp P o a w K' Q else K' (a.put o.dst undef) w):
  wpAnyH P md l.toArray Q S (fuel+1) listed a w:=
 wpAnyH_ready hr (by simp) (AllReadyH.cons (by simpa using ho) h AllReadyH.nil)
theorem tcl(i:Nat){l:List Oper}{o:Oper}{fuel:Nat}{listed:Array Bool}{a:Go.Act}{w:World}
  (h: ∀ K':Go.Act→World→Prop,Shut (∀ a w,S w→(S w→wpAnyH P md l.toArray Q S fuel (listed.setIfInBounds i true) a w)→K' a w)→if Region.wanted o (yielded l.toArray a.tmps)=true then Oper.wp P o a w K' Q else K' (a.put o.dst undef) w)
  (ho:l[i]? =some o:=by rfl) (hr:Region.ready md l.toArray listed= [i]:=by kernel_rfl):wpAnyH P md l.toArray Q S (fuel+1) listed a w:=
 take_call ho hr h
end Go.Proofs.Ytaadknpjbogkbaa
namespace Go.Proofs.Ytaadknpjbogkbaa
open Go.RowKit Go.Shelf
set_option linter.unusedVariables false
attribute [local go_sem] Oper.semAt_some
def cmpI(x y:Int):Int:=if x<y then -1 else if y<x then 1 else 0
end Go.Proofs.Ytaadknpjbogkbaa
namespace Go.Proofs.Ytaadknpjbogkbaa
open Go.RowKit
set_option linter.unusedVariables false
theorem cell_on{w w':World}{p:Addr}{v:Value}(hb:Below w.heap.size w w')(h:w.cell? p=some v):w'.cell? p=some v:=by
 refine(hb.cell (p:=p) ?_).trans h
 refine Nat.lt_of_not_le fun hle=>?_
 unfold World.cell? at h
 rw [Array.getElem?_eq_none hle]at h
 simp at h
theorem free_on{w w':World}{p:Addr}{v:Value}{f:Bool}(hb:Below w.heap.size w w')(h:w.cell? p=some v)(hf:w.frozen? p=f):w'.frozen? p=f:=by
 refine(hb.frozen (p:=p) ?_).trans hf
 refine Nat.lt_of_not_le fun hle=>?_
 unfold World.cell? at h
 rw [Array.getElem?_eq_none hle]at h
 simp at h
structure Bx(w:World)(b:Nat)(x y:Value):Prop where
 c0:w.cell? ⟨b,0,none⟩=some x
 c1:w.cell? ⟨b,1,none⟩=some y
 f0:w.frozen? ⟨b,0,none⟩=false
 f1:w.frozen? ⟨b,1,none⟩=false
theorem Bx.on{w w':World}{b:Nat}{x y:Value}(h:Bx w b x y)(hb:Below w.heap.size w w'):Bx w' b x y:=⟨cell_on hb h.c0,cell_on hb h.c1,free_on hb h.c0 h.f0,free_on hb h.c1 h.f1⟩
theorem bx_new(w:World)(x y:Value)(t:TypeId):Bx (w.alloc (.cells #[x,y] t)) w.heap.size x y:=by
 have h:=Row.new w [x,y] t
 exact⟨h.cell 0 _ rfl,h.cell 1 _ rfl,h.free 0 (by simp),h.free 1 (by simp)⟩
theorem below_put2{B b:Nat}{w w':World}(h:Below B w w')(hb:B≤b)(u v:Value):Below B w ((w'.setCell ⟨b,0,none⟩ u).setCell ⟨b,1,none⟩ v):=(h.setCell hb _).setCell hb _
theorem also{w w1 w2:World}(h:Below w.heap.size w w1)(k:Below w1.heap.size w1 w2):Below w.heap.size w w2:=h.trans (k.mono h.size)
theorem bd_i64{x:Int}(h:(Lit.int .i64 x).wf=true): -9223372036854775808≤x∧x≤9223372036854775807:=by
 simp [Lit.wf,IntKind.min,IntKind.max,IntKind.signed,IntKind.bits]at h
 exact⟨by omega,by omega⟩
def inC(c:Int):Bool:=decide (-1099511627776≤c∧c≤1099511627776)
def sideC(s:Int):Bool:=decide (1≤s∧s≤1099511627776)
def canC(x y:Int):Bool:=inC x && inC y
def atC(x y i k s:Int):Bool:=sideC s && (canC x y && (inC (x+i*s) && inC (y+k*s)))
def homeC(x y s:Int):Bool:=sideC s && canC x y
theorem inC_true{c:Int}:inC c=true↔(-1099511627776≤c∧c≤1099511627776):=by unfold inC;exact decide_eq_true_iff
theorem sideC_true{s:Int}:sideC s=true↔(1≤s∧s≤1099511627776):=by unfold sideC;exact decide_eq_true_iff
theorem canC_true{x y:Int}:canC x y=true↔(inC x=true∧inC y=true):=by unfold canC;exact Bool.and_eq_true_iff
theorem atC_true{x y i k s:Int}:atC x y i k s=true↔(sideC s=true∧canC x y=true∧inC (x+i*s)=true∧inC (y+k*s)=true):=by unfold atC;rw [Bool.and_eq_true_iff,Bool.and_eq_true_iff,Bool.and_eq_true_iff]
def reachC(i s:Int):Bool:=decide (-(2199023255552/s)≤i∧i≤2199023255552/s)
theorem reach_prod{i s:Int}(hs:sideC s=true)(h:reachC i s=true): -2199023255552≤i*s∧i*s≤2199023255552:=by
 obtain⟨s1,s2⟩:=sideC_true.1 hs
 obtain⟨h1,h2⟩:=decide_eq_true_iff.1 h
 have e:=Int.mul_ediv_add_emod 2199023255552 s
 have m:=Int.emod_nonneg 2199023255552 (b:=s) (by omega)
 have p1:i*s≤2199023255552/s*s:=Int.mul_le_mul_of_nonneg_right h2 (by omega)
 have p2: -(2199023255552/s)*s≤i*s:=Int.mul_le_mul_of_nonneg_right h1 (by omega)
 rw [Int.neg_mul]at p2
 rw [Int.mul_comm]at e
 exact⟨by omega,by omega⟩
theorem reach_in{x i s:Int}(hs:sideC s=true)(hx:inC x=true)(h:inC (x+i*s)=true):reachC i s=true:=by
 obtain⟨s1,s2⟩:=sideC_true.1 hs
 obtain⟨x1,x2⟩:=inC_true.1 hx
 obtain⟨h1,h2⟩:=inC_true.1 h
 refine decide_eq_true_iff.2 ⟨?_,?_⟩
 ·have: -i≤2199023255552/s:=(Int.le_ediv_iff_mul_le (by omega)).2 (by rw [Int.neg_mul];omega)
  omega
 ·exact(Int.le_ediv_iff_mul_le (by omega)).2 (by omega)
theorem wrap_in{x:Int}(h1: -9223372036854775808≤x)(h2:x≤9223372036854775807):wrap64 x=x:=by unfold wrap64;omega
theorem wrap_i64(x:Int):IntKind.i64.wrap x=wrap64 x:=by unfold wrap64;simp [IntKind.wrap,IntKind.signed,IntKind.bits];try omega
theorem tdiv_big{s:Int}(hs:0<s):(2199023255552:Int).tdiv s=2199023255552/s:=Int.tdiv_eq_ediv_of_nonneg (by decide)
theorem fold_neg{c s:Int}(hs:0<s)(h:c.tmod s<0):c.tmod s+s=c % s∧c.tdiv s- 1=c/s:=by
 have e:=Int.mul_tdiv_add_tmod c s
 have l:=Int.lt_tmod_of_pos c hs
 have u:(c.tdiv s- 1)=c/s:=by
  refine((Int.ediv_emod_unique hs (a:=c) (r:=c.tmod s+s) (q:=c.tdiv s- 1)).2 ⟨?_,by omega,by omega⟩).1.symm
  rw [Int.mul_sub,Int.mul_one];omega
 refine⟨?_,u⟩
 exact((Int.ediv_emod_unique hs (a:=c) (r:=c.tmod s+s) (q:=c.tdiv s- 1)).2 ⟨by rw [Int.mul_sub,Int.mul_one];omega,by omega,by omega⟩).2.symm
theorem fold_pos{c s:Int}(hs:0<s)(h: ¬c.tmod s<0):c.tmod s=c % s∧c.tdiv s=c/s:=by
 have e:=Int.mul_tdiv_add_tmod c s
 have l:=Int.tmod_lt_of_pos c hs
 have:=(Int.ediv_emod_unique hs (a:=c) (r:=c.tmod s) (q:=c.tdiv s)).2 ⟨by omega,by omega,by omega⟩
 exact⟨this.2.symm,this.1.symm⟩
end Go.Proofs.Ytaadknpjbogkbaa
namespace Go.Proofs.Ytaadknpjbogkbaa
open Go.RowKit
open Go.ChangeShapes Go.WideShapes Go.ChangeAt Go.Joins
set_option linter.unusedVariables false
set_option linter.constructorNameAsVariable false
theorem cells3I:Try.prog.cellsOf 2=1:=by kernel_rfl
theorem cells3P:Try.prog.cellsOf 23=2:=by kernel_rfl
theorem trod_p{H:Type}{enc:TypeId×Value→H}{W:World}{bs fuel:Nat}{sp:Nat→Bool}{hd:Bool}{c0 c1:Value}{y:DataW H×List MemPlace}(h:DataW.trod enc Try.prog W bs sp hd fuel 23 [c0,c1]=some y):
  ∃ a b:Int,c0= .int .i64 a∧c1= .int .i64 b∧y=(.agg [.lit (.int .i64 a), .lit (.int .i64 b)], [])∧(Lit.int .i64 a).wf=true∧(Lit.int .i64 b).wf=true:=by
 obtain⟨y0,y1,n,hx,_,h0,h1⟩:=trod_struct2 Try.underlying23 h
 have h0:DataW.trod enc Try.prog W bs sp hd n 2 [c0]=some y0:=by simpa [cells3I]using h0
 have h1:DataW.trod enc Try.prog W bs sp hd n 2 [c1]=some y1:=by simpa [cells3I]using h1
 obtain⟨a,e0,rfl,w0⟩:=DataW.trod_int Try.underlying2 h0
 obtain⟨b,e1,rfl,w1⟩:=DataW.trod_int Try.underlying2 h1
 simp at e0 e1 hx
 exact⟨a,b,e0,e1,hx,w0,w1⟩
theorem list4y{cs:Array Value}(h:cs.size=4): ∃ c0 c1 c2 c3,cs= #[c0,c1,c2,c3]:=by
 obtain⟨l⟩:=cs
 match l,h with
 | [c0,c1,c2,c3],_=>exact⟨c0,c1,c2,c3,rfl⟩
theorem cellsWy:Try.prog.cellsOf 25=4:=by kernel_rfl
theorem cellsWi:Try.prog.cellsOf 3=1:=by kernel_rfl
set_option maxRecDepth 100000 in
theorem open_way{H:Type}{enc:TypeId×Value→H}{w W:World}{r:Reach}{b0 bs:Nat}{sp:Nat→Bool}{hd:Bool}{v:Value}{d:DataW H}{p:List MemPlace}(hv:Value.okWide Try.prog w r b0 25 v)(h:DataW.Trod enc Try.prog W bs sp hd 25 v d p):
  ∃ a0 a1 a2 a3:Int,v= .agg #[.int .i64 a0, .int .i64 a1, .int .i64 a2, .int .i64 a3]∧d= .agg [.lit (.int .i64 a0), .lit (.int .i64 a1), .agg [.lit (.int .i64 a2), .lit (.int .i64 a3)]]∧p= []∧(Lit.int .i64 a0).wf=true∧(Lit.int .i64 a1).wf=true∧(Lit.int .i64 a2).wf=true∧(Lit.int .i64 a3).wf=true:=by
 simp only [Value.okWide,Try.underlying25]at hv
 obtain⟨cs,rfl,hsz,_⟩:=hv
 obtain⟨c0,c1,c2,c3,rfl⟩:=list4y (hsz.trans cellsWy)
 obtain⟨fuel,hf⟩:=h
 obtain⟨y0,y1,y2,n,hx,_,h0,h1,h2⟩:=Go.Deep.trod_struct3 Try.underlying25 hf
 have h0:DataW.trod enc Try.prog W bs sp hd n 3 [c0]=some y0:=by simpa [cellsWi,Value.cells]using h0
 have h1:DataW.trod enc Try.prog W bs sp hd n 3 [c1]=some y1:=by simpa [cellsWi,Value.cells]using h1
 have h2:DataW.trod enc Try.prog W bs sp hd n 23 [c2,c3]=some y2:=by simpa [cells3P,cellsWi,Value.cells]using h2
 obtain⟨a0,e0,rfl,w0⟩:=DataW.trod_int Try.underlying3 h0
 obtain⟨a1,e1,rfl,w1⟩:=DataW.trod_int Try.underlying3 h1
 obtain⟨a3,a4,rfl,rfl,rfl,w3,w4⟩:=trod_p h2
 simp at hx e0 e1
 subst e0 e1
 exact⟨a0,a1,a3,a4,rfl,hx.1,hx.2,w0,w1,w3,w4⟩
set_option maxRecDepth 100000 in
theorem shut_way{H:Type}{enc:TypeId×Value→H}{W:World}{bs:Nat}{sp:Nat→Bool}{hd:Bool}{a0 a1 a2 a3:Int}(w0:(Lit.int .i64 a0).wf=true)(w1:(Lit.int .i64 a1).wf=true)(w2:(Lit.int .i64 a2).wf=true)(w3:(Lit.int .i64 a3).wf=true):
  DataW.Trod enc Try.prog W bs sp hd 25 (.agg #[.int .i64 a0, .int .i64 a1, .int .i64 a2, .int .i64 a3]) (.agg [.lit (.int .i64 a0), .lit (.int .i64 a1), .agg [.lit (.int .i64 a2), .lit (.int .i64 a3)]]) []:=by
 exact⟨3,by simp [DataW.trod,Try.underlying25,Try.underlying23,Try.underlying3,Try.underlying2,cellsWy,cellsWi,cells3I,cells3P,Value.cells,w0,w1,w2,w3]⟩
end Go.Proofs.Ytaadknpjbogkbaa
namespace Go.Proofs.Ytaadknpjbogkbaa
open Go.RowKit
set_option linter.unusedVariables false
structure Keep(F:Nat→Prop)(w w':World):Prop where
 os:w'.os=w.os
 tape:w'.tape=w.tape
 output:w'.output=w.output
 size:w.heap.size≤w'.heap.size
 block: ∀ k,k<w.heap.size→ ¬F k→w'.heap[k]? =w.heap[k]?
theorem Keep.refl(F:Nat→Prop)(w:World):Keep F w w:=⟨rfl,rfl,rfl,Nat.le_refl _,fun _ _ _=>rfl⟩
theorem Keep.trans{F G:Nat→Prop}{a b c:World}(h:Keep F a b)(k:Keep G b c)(hG: ∀ i,G i→F i∨a.heap.size≤i):Keep F a c:=
 ⟨k.os.trans h.os,k.tape.trans h.tape,k.output.trans h.output,Nat.le_trans h.size k.size,fun i hi hF=>(k.block i (Nat.lt_of_lt_of_le hi h.size) (fun g=>(hG i g).elim hF (fun x=>by omega))).trans (h.block i hi hF)⟩
theorem Keep.of{F:Nat→Prop}{w w':World}(h:Below w.heap.size w w'):Keep F w w':=⟨h.os,h.tape,h.output,h.size,fun k hk _=>h.block k hk⟩
theorem Keep.to{F:Nat→Prop}{a b c:World}(h:Keep F a b)(k:Below b.heap.size b c):Keep F a c:=h.trans (Keep.of (F:=fun _=>False) k) (fun _ x=>x.elim)
theorem Keep.drew{F:Nat→Prop}{a w:World}(h:Keep F a w):Keep F a w.drew:=⟨h.os,h.tape,h.output,h.size,h.block⟩
theorem Keep.alloc{F:Nat→Prop}{a w:World}(h:Keep F a w)(o:Obj):Keep F a (w.alloc o):=h.to ((Below.refl _ _).alloc (Nat.le_refl _) o)
theorem Keep.set{F:Nat→Prop}{a w:World}(h:Keep F a w){p:Addr}(hp:F p.block∨a.heap.size≤p.block)(u:Value):Keep F a (w.setCell p u):=
 h.trans (G:=fun k=>k=p.block) ⟨rfl,rfl,rfl,by simp [World.setCell],fun k _ hk=>Below.heap_setCell _ _ _ _ hk⟩ (fun i hi=>by subst hi;exact hp)
theorem Keep.grown{F:Nat→Prop}{a w w':World}{row:Option Nat}(h:Keep F a w)(hg:w.grownBy w' row)(hr: ∀ k,row=some k→F k∨a.heap.size≤k):Keep F a w':=
 h.trans (G:=fun k=>row=some k) ⟨hg.os,hg.tape,hg.output,hg.size,fun k hk hn=>hg.block k hk (fun e=>hn e.symm)⟩ hr
theorem Keep.below{F:Nat→Prop}{w w':World}{B:Nat}(h:Keep F w w')(hB:B≤w.heap.size)(hF: ∀ k,F k→B≤k):Below B w w':=
 ⟨h.os,h.tape,h.output,h.size,fun k hk=>h.block k (by omega) (fun f=>by have:=hF k f;omega)⟩
theorem Keep.mono{F G:Nat→Prop}{w w':World}(h:Keep F w w')(hG: ∀ k,F k→G k):Keep G w w':=⟨h.os,h.tape,h.output,h.size,fun k hk hn=>h.block k hk (fun f=>hn (hG k f))⟩
theorem Row.keep{F:Nat→Prop}{w w':World}{b:Nat}{xs:List Value}(h:Row w b xs)(hk:Keep F w w')(hb:b<w.heap.size)(hF: ¬F b):Row w' b xs:=by
 intro j u hu
 rw [World.cell?_of_block (w:=w) (a:=⟨b,j,none⟩) (hk.block b hb hF),World.frozen?_of_block (w:=w) (a:=⟨b,j,none⟩) (hk.block b hb hF)]
 exact h j u hu
def Slot(a:Option Addr)(k:Nat):Prop:= ∃ o,a=some ⟨k,o,none⟩
theorem Own.keep{F:Nat→Prop}{w w':World}{base n cap:Nat}{T:TypeId}{a:Option Addr}{xs:List Value}(h:Own w base T a n cap xs)(hk:Keep F w w')(hF: ∀ k,Slot a k→ ¬F k):Own w' base T a n cap xs:=by
 obtain⟨hl,h1|⟨g,cap',cur,hv,hb',hg,r⟩⟩:=h
 ·exact⟨hl,Or.inl h1⟩
 ·refine⟨hl,Or.inr ⟨g,cap',cur,hv,hb',?_,r⟩⟩
  rw [hk.block g (Array.getElem?_eq_some_iff.1 hg).1 (hF g (by cases hv;exact⟨0,rfl⟩))]
  exact hg
theorem Own.lt{w:World}{base n cap:Nat}{T:TypeId}{a:Option Addr}{xs:List Value}(h:Own w base T a n cap xs){k:Nat}(hk:Slot a k):k<w.heap.size∧base≤k:=by
 obtain⟨o,rfl⟩:=hk
 obtain⟨hl,⟨h1,_⟩|⟨g,cap',cur,hv,hb',hg,r⟩⟩:=h
 ·cases h1
 ·cases hv
  exact⟨(Array.getElem?_eq_some_iff.1 hg).1,hb'⟩
theorem Own.put{w:World}{base n cap k i:Nat}{T:TypeId}{a:Option Addr}{xs:List Value}(h:Own w base T a n cap xs)(hk: ¬Slot a k)(u:Value):Own (w.setCell ⟨k,i,none⟩ u) base T a n cap xs:=
 h.keep ((Keep.refl (fun x=>x=k) w).set (Or.inl rfl) u) (fun j hj e=>hk (e▸hj))
theorem Row.lt{w:World}{b:Nat}{x:Value}{xs:List Value}(h:Row w b (x::xs)):b<w.heap.size:=by
 have h0:=(h 0 x rfl).1
 refine Nat.lt_of_not_le fun hle=>?_
 unfold World.cell? at h0
 rw [Array.getElem?_eq_none hle]at h0
 simp at h0
theorem own_slot{w:World}{base n cap:Nat}{T:TypeId}{a:Option Addr}{xs:List Value}(h:Own w base T a n cap xs){k:Nat}(e:(Value.slice a n cap).ownBlock=some k):Slot a k:=by
 cases a with
 |none=>cases e
 |some q=>obtain⟨_,⟨h5,_⟩|⟨g,_,_,hv,_⟩⟩:=h;cases h5;cases hv;cases e;exact⟨0,rfl⟩
def ints(L:List Int):List Value:=L.map fun x=> .int .i64 x
theorem ints_append(L M:List Int):ints (L++M)=ints L++ints M:=by simp [ints]
theorem ints_one(L:List Int): ∀ v∈ints L,v.oneCell'=true:=by
 intro v hv
 simp only [ints,List.mem_map]at hv
 obtain⟨x,_,rfl⟩:=hv
 rfl
theorem own_none(w:World)(base:Nat)(T:TypeId):Own w base T none 0 0 []:=⟨rfl,Or.inl ⟨rfl,rfl⟩⟩
theorem app_at{P:Program}(w:World){ops:Array Oper}{rest:List Oper}{o:Oper}{a:Act}{Q:Exit→Act→World→Prop}(hgd:o.guard=none)(s x:Operand)(t:TypeId)
  (ho:o.op= .call { callee:= .builtin .append,args:= #[s,x],argTypes:= #[t,t] })
  (base:Nat) (e:TypeId) (i:TypeInfo) (z:Value) (bytes:Nat) (ht:P.underlying t=some (.slice e)) (hi:P.info? e=some i) (hz:i.zero=some z)
  (hsize:i.size=1) (hby:i.bytes=bytes) (hzs:z.cells.size=1)
  (a0:Option Addr) (n0 c0:Nat) (xs:List Value) (hs:a.eval s= .slice a0 n0 c0) (hown:Own w base e a0 n0 c0 xs)
  (ao:Option Addr) (m c:Nat) (news:List Value) (hx:a.eval x= .slice ao m c) (hsl:Sl w ao m c news) (h1: ∀ u∈news,u.oneCell'=true)
  (h63:n0+m≤maxLen) (hbytes:(n0+m)*bytes≤140737488355328) (hbase:base≤w.heap.size)
  (h: ∀ a' cap' w',Own w' base e a' (n0+m) cap' (xs++news)→w.grownBy w' (Value.slice a0 n0 c0).ownBlock→(∀ k,Slot a' k→Slot a0 k∨w.heap.size≤k)→wpList P ops Q rest (a.put o.dst (.slice a' (n0+m) cap')) w'):wpList P ops Q (o::rest) a w:=by
 cases ao with
 |none=>
  obtain⟨rfl,rfl⟩:=hsl.nil rfl
  obtain rfl:news= []:=List.eq_nil_of_length_eq_zero hsl.len
  refine wpList_append_own_none hgd s x t ho base e i 1 ht hi _ n0 xs hs hown hx ?_
  exact h a0 c0 w (by simpa using hown) (World.grownBy.refl _ _) (fun k hk=>Or.inl hk)
 |some ad=>
  refine wpList_append_own_at w hgd s x t ho base e i z 1 bytes ht hi hz hsize hby hzs (by decide) _ n0 xs hs hown ad m c news hx (by rw [hsl.len];omega) ?_ h1 h63 hbytes hbase ?_
  ·intro j u hu
   have hj:=(List.getElem?_eq_some_iff.1 hu).1
   obtain⟨b,off,e1,hb,hseg⟩:=hsl.at (by have:=hsl.len;omega)
   cases e1
   rw [Addr.add_lit]
   exact hseg.cell j u hu
  ·intro v' w' h1 h2 _ h4
   obtain⟨a',cap',rfl,h3⟩:=Own.form h1
   refine h a' cap' w' h3 h2 ?_
   rintro k ⟨q,rfl⟩
   rcases h4 with h4|h4
   ·cases a0 with
    |none=>cases h4
    |some b0=>
     have:k=b0.block:=by simpa [Value.ownBlock]using h4
     subst this
     obtain⟨hl,⟨h5,_⟩|⟨g,cap',cur,hv,r⟩⟩:=hown
     ·cases h5
     ·cases hv;exact Or.inl ⟨0,rfl⟩
   ·have:k=w.heap.size:=by simpa [Value.ownBlock]using h4
    exact Or.inr (by omega)
theorem infoI:(Try.prog.info? 3).map (fun i=>(i.zero,i.size,i.bytes))=some (some (.int .i64 0),1,8):=by kernel_rfl
theorem info_of{P:Program}{t:TypeId}{z:Value}{s b:Nat}(h:(P.info? t).map (fun i=>(i.zero,i.size,i.bytes))=some (some z,s,b)): ∃ i,P.info? t=some i∧i.zero=some z∧i.size=s∧i.bytes=b:=by
 cases hi:P.info? t with
 |none=>rw [hi]at h;cases h
 |some i=>
  rw [hi]at h
  simp only [Option.map_some,Option.some.injEq,Prod.mk.injEq]at h
  exact⟨i,rfl,h.1,h.2.1,h.2.2⟩
theorem sl_one(w:World)(x:Int)(T:TypeId):Sl (w.alloc (.cells #[.int .i64 x] T)) (some ⟨w.heap.size,0,none⟩) 1 1 [.int .i64 x]:=
 ⟨rfl,Nat.le_refl _,by unfold maxLen;omega,(by intro e;cases e),Or.inr ⟨_,_,rfl,by simp,(Row.new w [.int .i64 x] T).seg⟩⟩
end Go.Proofs.Ytaadknpjbogkbaa
namespace Go.Proofs.Ytaadknpjbogkbaa
open Go.RowKit Go.Maps
set_option linter.unusedVariables false
abbrev rV(v:Value):Option (DataW Value×List MemPlace):=some (.held v, [])
def lk(o:Option Value)(zd:DataW Value):DataW Value:=match o with|some v=> .held v|none=>zd
structure KeyL(P:Program)(k:TypeId){α:Type}(K:α→Value):Prop where
 keyed:Keyed P k
 inj: ∀ a b,K a=K b→a=b
 sur: ∀ key kl,keyOf P k key=some kl→ ∃ a,key=K a
structure MapL(P:Program)(k:TypeId){α:Type}(K:α→Value)(w:World)(b:Nat)(g:α→Option Value):Prop where
 ex: ∃ (D:DataW Value) (n:Nat),w.ownsMap P k rV b n D∧ ∀ a kl,keyOf P k (K a)=some kl→ ∀ zd,D.atKey kl zd=lk (g a) zd
section
variable {α : Type} {P : Program} {k : TypeId} {K : α → Value} {w w' : World} {b : Nat} {g : α → Option Value}
theorem MapL.keep{F:Nat→Prop}(h:MapL P k K w b g)(hk:Keep F w w')(hF: ¬F b):MapL P k K w' b g:=by
 obtain⟨D,n,hown,hg⟩:=h.ex
 have hlt:=hown.lt
 obtain⟨es,clock,hb,r⟩:=hown
 exact⟨D,n,⟨es,clock,by rw [hk.block b hlt hF];exact hb,r⟩,hg⟩
theorem MapL.below(h:MapL P k K w b g)(hb:Below w.heap.size w w'):MapL P k K w' b g:=h.keep (Keep.of (F:=fun _=>False) hb) (fun x=>x)
theorem MapL.lt(h:MapL P k K w b g):b<w.heap.size:=by
 obtain⟨D,n,hown,hg⟩:=h.ex
 exact hown.lt
theorem MapL.new(w:World):MapL P k K (w.alloc (.map #[] 0)) w.heap.size (fun _=>none):=
 ⟨.map [],0,World.ownsMap_made w P k rV,fun a kl _ zd=>rfl⟩
theorem has_lk{D:DataW Value}{kl:Lit}{o:Option Value}(h: ∀ zd,D.atKey kl zd=lk o zd):Maps.has D kl=o.isSome:=by
 cases o with
 |none=>exact has_false_of_atKey h
 |some v=>exact has_true_of_atKey h
theorem turned_keep(h:w.grownBy w' (some b)):Keep (fun x=>x=b) w w':=(Keep.refl _ w).grown h (fun x e=>Or.inl (by cases e;rfl))
theorem nodup_sub{β:Type} [DecidableEq β]: ∀ {l m:List β},l.Nodup→(∀ x∈l,x∈m)→l.length≤m.length
 | [],m,_,_=>Nat.zero_le _
 |a::l,m,hn,hs=>by
  rw [List.nodup_cons]at hn
  have h1:a∈m:=hs a List.mem_cons_self
  have h2:=nodup_sub (m:=m.erase a) hn.2 (fun x hx=>(List.mem_erase_of_ne (fun e:x=a=>hn.1 (e▸hx))).2 (hs x (List.mem_cons_of_mem _ hx)))
  have h3:=List.length_erase_of_mem h1
  have h4:=List.length_pos_of_mem h1
  simp only [List.length_cons]
  omega
theorem MapL.bound(HK:KeyL P k K){D:DataW Value}{n:Nat}(hown:w.ownsMap P k rV b n D)(hg: ∀ a kl,keyOf P k (K a)=some kl→ ∀ zd,D.atKey kl zd=lk (g a) zd)(L:List α)(hL: ∀ a,(∃ kl,keyOf P k (K a)=some kl)→g a≠none→a∈L):w.ownsMap P k rV b L.length D∧Maps.size D≤L.length:=by
 classical
 have hsz:Maps.size D≤L.length:=by
  obtain⟨es,hD,hpw,_⟩:=hown.entries HK.keyed
  obtain⟨es',hD',hko⟩:=hown.keysOf
  obtain rfl:es=es':=by rw [hD]at hD';simpa using hD'
  subst hD
  rw [Maps.size_eq]
  have h1:(es.map fun p=>some p.1).Nodup:=by
   refine List.pairwise_map.2 (hpw.imp fun{p q} hne e=>hne ?_)
   exact Option.some.inj e
  have h2:=nodup_sub (m:=L.map fun a=>keyOf P k (K a)) h1 (by
   intro x hx
   obtain⟨p,hp,rfl⟩:=List.mem_map.1 hx
   obtain⟨v,hv⟩:=hko p hp
   obtain⟨a,rfl⟩:=HK.sur v _ hv
   refine List.mem_map.2 ⟨a,hL a ⟨_,hv⟩ ?_,hv⟩
   intro e
   have h3:=has_lk (hg a _ hv)
   rw [e]at h3
   have h4:Maps.has (.map es) p.1=true:=List.any_eq_true.2 ⟨p,hp,WideAt.sameKey_self (HK.keyed.key hv)⟩
   rw [h4]at h3
   cases h3)
  simpa using h2
 refine⟨?_,hsz⟩
 obtain⟨es,clock,hb,F,hs,hD⟩:=hown
 refine⟨es,clock,hb,F,?_,hD⟩
 have:Maps.size D=es.size:=by rw [hD];simp [Maps.size,length_sorted]
 omega
theorem MapL.look(HK:KeyL P k K){t et:TypeId}(ht:P.underlying t=some (.map k et))(h:MapL P k K w b g){a:α}{kl:Lit}(ha:keyOf P k (K a)=some kl){z:Value}(hz:(zeroValue et).run P w= .ok z w):
  (Instr.lookup t (.map (some b)) (K a) true).run P w= .ok (.tuple #[(g a).getD z, .bool (g a).isSome]) w:=by
 obtain⟨D,n,hown,hg⟩:=h.ex
 obtain⟨v,ps,hrun,hv⟩:=hown.look_ok HK.keyed ht hz (zd:= .held z) (zp:= []) rfl ha
 rw [hrun,has_lk (hg a kl ha)]
 rw [hg a kl ha]at hv
 have:v=(g a).getD z:=by
  cases e:g a with
  |none=>rw [e]at hv;simp [lk]at hv;simpa using hv.1
  |some u=>rw [e]at hv;simp [lk]at hv;simpa using hv.1
 rw [this]
theorem keyOf_ne(HK:KeyL P k K){a x:α}{kl kx:Lit}(ha:keyOf P k (K a)=some kl)(hx:keyOf P k (K x)=some kx)(hne:x≠a):kx≠kl:=fun e=>by
 subst e
 exact hne (HK.inj _ _ (HK.keyed.inj hx ha))
theorem MapL.update [DecidableEq α](HK:KeyL P k K){t et:TypeId}(ht:P.underlying t=some (.map k et))(h:MapL P k K w b g){a:α}{kl:Lit}(ha:keyOf P k (K a)=some kl)(v:Value)(L:List α)(hL: ∀ a,(∃ kl,keyOf P k (K a)=some kl)→g a≠none→a∈L)(hlen:L.length<maxLen):
  ∃ w',(Instr.mapUpdate t (.map (some b)) (K a) v).run P w= .ok () w'∧Keep (fun x=>x=b) w w'∧MapL P k K w' b (fun x=>if x=a then some v else g x):=by
 obtain⟨D,n,hown,hg⟩:=h.ex
 obtain⟨w',hrun,hown',hgr⟩:=(MapL.bound HK hown hg L hL).1.update HK.keyed ht hlen ha (d:= .held v) (ps:= []) rfl
 refine⟨w',hrun,turned_keep hgr,_,_,hown',fun x kx hx zd=>?_⟩
 by_cases e:x=a
 ·subst e
  obtain rfl:kx=kl:=by rw [hx]at ha;cases ha;rfl
  rw [atKey_put_same hown.isMap (HK.keyed.key hx)]
  simp [lk]
 ·rw [atKey_put_other (keyOf_ne HK ha hx e),hg x kx hx,if_neg e]
variable {ops : Array Oper} {rest : List Oper} {o : Oper} {act : Go.Act} {Q : Exit → Go.Act → World → Prop}
theorem wp_update_l [DecidableEq α]{C:Go.Act→World→Prop}(m x v:Operand)(t:TypeId)(hop:o.op=Op.mapUpdate t m x v)(et:TypeId)(HK:KeyL P k K)(ht:P.underlying t=some (.map k et))(b:Nat)(g:α→Option Value)
  (hm:act.eval m= .map (some b)) (hmap:MapL P k K w b g) (key:α) (kl:Lit) (val:Value) (hx:act.eval x=K key) (hv:act.eval v=val) (ha:keyOf P k (K key)=some kl) (L:List α) (hL: ∀ a,(∃ kl,keyOf P k (K a)=some kl)→g a≠none→a∈L) (hlen:L.length<maxLen)
  (h: ∀ w',Keep (fun x=>x=b) w w'→MapL P k K w' b (fun y=>if y=key then some val else g y)→C (act.put o.dst undef) w'):Oper.wp P o act w C Q:=by
 obtain⟨w',hrun,r1,r2⟩:=hmap.update HK ht ha val L hL hlen
 unfold Oper.wp
 simp [execOp,hop,hm,hx,hv,hrun,Result.andThen]
 exact h w' r1 r2
theorem step_update_l [DecidableEq α]{C:Go.Act→World→Prop}{E:Prop}(hg:o.guard=none)(m x v:Operand)(t:TypeId)(hop:o.op=Op.mapUpdate t m x v)(et:TypeId)(HK:KeyL P k K)(ht:P.underlying t=some (.map k et))(b:Nat)(g:α→Option Value)
  (hm:act.eval m= .map (some b)) (hmap:MapL P k K w b g) (key:α) (kl:Lit) (val:Value) (hx:act.eval x=K key) (hv:act.eval v=val) (ha:keyOf P k (K key)=some kl) (L:List α) (hL: ∀ a,(∃ kl,keyOf P k (K a)=some kl)→g a≠none→a∈L) (hlen:L.length<maxLen)
  (h: ∀ w',Keep (fun x=>x=b) w w'→MapL P k K w' b (fun y=>if y=key then some val else g y)→C (act.put o.dst undef) w'):if Region.wanted o (yielded ops act.tmps)=true then Oper.wp P o act w C Q else E:=by
 have hw:Region.wanted o (yielded ops act.tmps)=true:=by simp [Region.wanted,hg]
 rw [if_pos hw]
 exact wp_update_l m x v t hop et HK ht b g hm hmap key kl val hx hv ha L hL hlen h
end
end Go.Proofs.Ytaadknpjbogkbaa
namespace Go.Proofs.Ytaadknpjbogkbaa
open Go.RowKit Go.Maps
set_option linter.unusedVariables false
set_option linter.unusedSimpArgs false
set_option maxRecDepth 10000
structure Eg where
 f:Int
 t:Int
 x:Int
 y:Int
 deriving DecidableEq
abbrev egV(e:Eg):Value:= .agg #[.int .i64 e.f, .int .i64 e.t, .int .i64 e.x, .int .i64 e.y]
abbrev I64(x:Int):Prop:= -9223372036854775808≤x∧x≤9223372036854775807
def Eg.ok(e:Eg):Prop:=I64 e.f∧I64 e.t∧I64 e.x∧I64 e.y
theorem laidOut11:laidOutB Try.prog=true:=by kernel_rfl
theorem egRow:(122:TypeId)<Try.prog.types.size:=of_decide_eq_true (by kernel_rfl)
theorem egWide:(match Try.prog.underlying 122 with|some (.array _ _)|some (.struct _)=>true|_=>false)=true:=by kernel_rfl
theorem egKeyed:Keyed Try.prog 122:=Keyed.of_law (deep_law_laid laidOut11 (m:=3) (by omega) egRow (by kernel_rfl) egWide)
theorem two_le:2≤Try.prog.types.size:=of_decide_eq_true (by kernel_rfl)
theorem size_split{n:Nat}(h:2≤n): ∃ m,n+1=m+3:=⟨n- 2,by omega⟩
theorem egSize: ∃ m,Try.prog.types.size+1=m+3:=size_split two_le
theorem egType:Try.prog.keyType 122=true:=by kernel_rfl
theorem egCells:Try.prog.cellsOf 122=4:=by kernel_rfl
theorem offCells:Try.prog.cellsOf 27=2:=by kernel_rfl
theorem intCells:Try.prog.cellsOf 3=1:=by kernel_rfl
theorem wf_of{x:Int}(h:I64 x):(Lit.int .i64 x).wf=true:=by
 obtain⟨h1,h2⟩:=h
 show(decide (IntKind.i64.min≤x) && decide (x≤IntKind.i64.max))=true
 have e1:IntKind.i64.min= -9223372036854775808:=by decide
 have e2:IntKind.i64.max=9223372036854775807:=by decide
 rw [e1,e2]
 simp [h1,h2]
theorem of_wf{x:Int}(h:(Lit.int .i64 x).wf=true):I64 x:=by
 replace h:(decide (IntKind.i64.min≤x) && decide (x≤IntKind.i64.max))=true:=h
 have e1:IntKind.i64.min= -9223372036854775808:=by decide
 have e2:IntKind.i64.max=9223372036854775807:=by decide
 rw [e1,e2]at h
 simpa using h
theorem lits_struct{P:Program}{d:Nat}{t:TypeId}{fs:Array Field}{cs:List Value}(hu:P.underlying t=some (.struct fs))(hl:cs.length=P.cellsOf t)(ha:fs.all (·.name != "_")=true):P.keyLits (d+1) t cs=(fs.toList.mapM fun f=>P.keyLits d f.type ((cs.drop f.offset).take (P.cellsOf f.type))).map List.flatten:=by
 conv=>lhs;unfold Program.keyLits
 rw [hu]
 simp only [hl,ha,and_self,if_true]
theorem lits_int{P:Program}{d:Nat}{t:TypeId}{n:Int}(hu:P.underlying t=some (.int .i64))(hw:(Lit.int .i64 n).wf=true):P.keyLits (d+1) t [.int .i64 n]=some [.int .i64 n]:=by
 unfold Program.keyLits
 rw [hu]
 simp only [hw,and_self,if_true]
theorem lits_int_inv{P:Program}{d:Nat}{t:TypeId}{v:Value}{l:List Lit}(hu:P.underlying t=some (.int .i64))(h:P.keyLits (d+1) t [v]=some l): ∃ n,v= .int .i64 n∧I64 n:=by
 unfold Program.keyLits at h
 rw [hu]at h
 cases v<;>simp at h
 obtain⟨⟨rfl,hw⟩,_⟩:=h
 exact⟨_,rfl,of_wf hw⟩
theorem egLits{m:Nat}{a b c d:Value}:Try.prog.keyLits (m+3) 122 [a,b,c,d]=(Try.prog.keyLits (m+2) 3 [a]).bind fun la=>(Try.prog.keyLits (m+2) 3 [b]).bind fun lb=>(Try.prog.keyLits (m+1) 3 [c]).bind fun lc=>(Try.prog.keyLits (m+1) 3 [d]).bind fun ld=>some (la++(lb++(lc++ld))):=by
 rw [lits_struct Try.underlying122 (by rw [egCells];rfl) (by kernel_rfl)]
 simp only [List.mapM_cons,List.mapM_nil,intCells,offCells,List.drop_zero,List.drop_succ_cons,List.take_succ_cons,List.take_zero]
 rw [lits_struct Try.underlying27 (by rw [offCells];rfl) (by kernel_rfl)]
 simp only [List.mapM_cons,List.mapM_nil,intCells,offCells,List.drop_zero,List.drop_succ_cons,List.take_succ_cons,List.take_zero]
 cases Try.prog.keyLits (m+2) 3 [a]<;>cases Try.prog.keyLits (m+2) 3 [b]<;>cases Try.prog.keyLits (m+1) 3 [c]<;>cases Try.prog.keyLits (m+1) 3 [d]<;>simp
theorem egFormed(a b c d:Value):(Value.agg #[a,b,c,d]).formed Try.prog 122=true:=by simp [Value.formed,Try.underlying122,egCells]
theorem keyOf_eg(v:Value):keyOf Try.prog 122 v=if v.formed Try.prog 122=true then(Try.prog.keyLits (Try.prog.types.size+1) 122 v.cells.toList).map (fun ls=> .string (keyBytes ls))else none:=by
 unfold keyOf
 rw [Try.underlying122]
 simp only [egType,Bool.true_and]
theorem egKey{e:Eg}(h:e.ok): ∃ kl,keyOf Try.prog 122 (egV e)=some kl:=by
 obtain⟨m,hm⟩:=egSize
 obtain⟨h1,h2,h3,h4⟩:=h
 refine⟨.string (keyBytes ([.int .i64 e.f]++([.int .i64 e.t]++([.int .i64 e.x]++ [.int .i64 e.y])))),?_⟩
 rw [keyOf_eg,if_pos (egFormed _ _ _ _),hm]
 show Option.map _ (Try.prog.keyLits (m+3) 122 [.int .i64 e.f, .int .i64 e.t, .int .i64 e.x, .int .i64 e.y])=_
 rw [egLits,lits_int Try.underlying3 (wf_of h1),lits_int Try.underlying3 (wf_of h2),lits_int Try.underlying3 (wf_of h3),lits_int Try.underlying3 (wf_of h4)]
 rfl
theorem egSur(key:Value)(kl:Lit)(h:keyOf Try.prog 122 key=some kl): ∃ e,key=egV e∧e.ok:=by
 obtain⟨m,hm⟩:=egSize
 rw [keyOf_eg]at h
 by_cases hf:key.formed Try.prog 122=true
 ·rw [if_pos hf,hm]at h
  obtain⟨cs,rfl,hcs⟩: ∃ cs:Array Value,key= .agg cs∧cs.size=4:=by
   cases key<;>simp [Value.formed,Try.underlying122,egCells]at hf
   exact⟨_,rfl,hf⟩
  obtain⟨a,b,c,d,rfl⟩: ∃ a b c d,cs= #[a,b,c,d]:=by
   obtain⟨l⟩:=cs
   match l,hcs with
   | [a,b,c,d],_=>exact⟨a,b,c,d,rfl⟩
  rw [show(Value.agg #[a,b,c,d]).cells.toList= [a,b,c,d]from rfl,egLits]at h
  cases ha:Try.prog.keyLits (m+2) 3 [a]with
  |none=>rw [ha]at h;cases h
  |some la=>
   cases hb:Try.prog.keyLits (m+2) 3 [b]with
   |none=>rw [ha,hb]at h;cases h
   |some lb=>
    cases hc:Try.prog.keyLits (m+1) 3 [c]with
    |none=>rw [ha,hb,hc]at h;cases h
    |some lc=>
     cases hd:Try.prog.keyLits (m+1) 3 [d]with
     |none=>rw [ha,hb,hc,hd]at h;cases h
     |some ld=>
      obtain⟨x1,rfl,i1⟩:=lits_int_inv Try.underlying3 ha
      obtain⟨x2,rfl,i2⟩:=lits_int_inv Try.underlying3 hb
      obtain⟨x3,rfl,i3⟩:=lits_int_inv Try.underlying3 hc
      obtain⟨x4,rfl,i4⟩:=lits_int_inv Try.underlying3 hd
      exact⟨⟨x1,x2,x3,x4⟩,rfl,i1,i2,i3,i4⟩
 ·rw [if_neg hf]at h
  cases h
theorem egL:KeyL Try.prog 122 egV:=⟨egKeyed,fun a b h=>by obtain⟨a1,a2,a3,a4⟩:=a;obtain⟨b1,b2,b3,b4⟩:=b;simpa [egV]using h,fun key kl h=>by obtain⟨e,he,_⟩:=egSur key kl h;exact⟨e,he⟩⟩
theorem intL:KeyL Try.prog 3 (Value.int .i64):=⟨int_keyed Try.underlying3,fun a b h=>by simpa using h,fun key kl h=>by obtain⟨x,hx,_⟩:=Maps.keyOf_i64 Try.underlying3 h;exact⟨x,hx⟩⟩
theorem intKey{x:Int}(h:I64 x):keyOf Try.prog 3 (.int .i64 x)=some (.int .i64 x):=by
 simp [keyOf,Try.underlying3,mapKey,wf_of h]
end Go.Proofs.Ytaadknpjbogkbaa
namespace Go.Proofs.Ytaadknpjbogkbaa
open Go.RowKit
set_option linter.unusedVariables false
def GotL(w:World)(L:List Int)(e:Ending)(w':World):Prop:= ∃ (a:Option Addr) (c:Nat),e= .returned (.slice a L.length c)∧Own w' w.heap.size 3 a L.length c (ints L)∧Below w.heap.size w w'
def tkN(B:List Int)(T:Nat):Int:=match B.getLast? with|some x=>x|none=>(T:Int)
def tkT(B:List Int)(T:Nat):Nat:=if B= []then T+1 else T
theorem tkN_nil(T:Nat):tkN [] T=(T:Int):=rfl
theorem tkN_last(B:List Int)(x:Int)(T:Nat):tkN (B++ [x]) T=x:=by simp [tkN]
theorem tkT_last(B:List Int)(x:Int)(T:Nat):tkT (B++ [x]) T=T:=by simp [tkT]
theorem nil_or_last(B:List Int):B= []∨ ∃ B' x,B=B'++ [x]:=by
 by_cases h:B= []
 ·exact Or.inl h
 ·exact Or.inr ⟨B.dropLast,B.getLast h,(List.dropLast_concat_getLast h).symm⟩
def allN(L:List Int)(k:Nat):List Int:=((List.range k).map (fun i:Nat=>(i:Int))).filter (fun y=>decide (y∈L))
theorem allN_next(L:List Int)(k:Nat):allN L (k+1)=allN L k++(if(k:Int)∈L then [(k:Int)]else []):=by
 unfold allN
 rw [List.range_succ,List.map_append,List.filter_append]
 by_cases e:(k:Int)∈L<;>simp [e]
theorem allN_len(L:List Int)(k:Nat):(allN L k).length≤k:=by
 unfold allN
 exact Nat.le_trans (List.length_filter_le _ _) (by simp)
theorem allN_mem{L:List Int}{k:Nat}{x:Int}(h:x∈allN L k):x∈L∧0≤x∧x<k:=by
 unfold allN at h
 rw [List.mem_filter,List.mem_map]at h
 obtain⟨⟨i,hi,rfl⟩,h2⟩:=h
 rw [List.mem_range]at hi
 exact⟨by simpa using h2,by omega,by omega⟩
structure ArOk(L B:List Int)(T:Nat):Prop where
 num:L.length+B.length=T
 nd:(L++B).Nodup
 rg: ∀ x∈L++B,0≤x∧x<T
theorem mem_allN{L:List Int}{k:Nat}{x:Int}(h:x∈L)(h0:0≤x)(h1:x<k):x∈allN L k:=by
 unfold allN
 rw [List.mem_filter,List.mem_map]
 exact⟨⟨x.toNat,by rw [List.mem_range];omega,by omega⟩,by simpa using h⟩
theorem ArOk.new:ArOk [] [] 0:=⟨rfl,by simp,fun x h=>by simp at h⟩
theorem ArOk.take{L B:List Int}{T:Nat}(h:ArOk L B T):ArOk (L++ [tkN B T]) B.dropLast (tkT B T)∧ ¬tkN B T∈L:=by
 rcases nil_or_last B with rfl|⟨B',x,rfl⟩
 ·have hn: ¬(T:Int)∈L:=fun m=>by have:=h.rg _ (List.mem_append_left _ m);omega
  refine⟨⟨?_,?_,?_⟩,hn⟩
  ·have:=h.num;simp [tkT]at*;exact this
  ·have:=h.nd
   simp only [List.append_nil,List.dropLast_nil,tkN_nil]at*
   rw [List.nodup_append]
   exact⟨this,by simp,fun a ha b hb=>by simp at hb;subst hb;exact fun e=>hn (e▸ha)⟩
  ·intro x hx
   simp only [List.append_nil,List.dropLast_nil,tkN_nil,List.mem_append,List.mem_singleton]at hx
   have ht:tkT [] T=T+1:=rfl
   rw [ht]
   rcases hx with hx|rfl
   ·have:=h.rg x (List.mem_append_left _ hx);omega
   ·omega
 ·rw [tkN_last,tkT_last,List.dropLast_concat]
  have hp:(L++ [x]++B').Perm (L++(B'++ [x])):=by
   rw [List.append_assoc]
   exact List.Perm.append_left _ List.perm_append_comm
  have hn: ¬x∈L:=fun m=>by
   have:=(List.nodup_append.1 h.nd).2.2 x m x (by simp)
   exact this rfl
  refine⟨⟨?_,hp.nodup_iff.2 h.nd,fun y hy=>h.rg y (hp.mem_iff.1 hy)⟩,hn⟩
  have:=h.num
  simp at*
  omega
def Left(Ob:(Nat→Prop)→World→Prop)(F:Nat→Prop)(w w':World):Prop:=Keep F w w'∧ ∃ F',Ob F' w'∧ ∀ k,F' k→F k∨w.heap.size≤k
abbrev ptrV(p:Nat):Value:= .pointer (some ⟨p,0,none⟩)
abbrev outV:Value:= .iface 132 (.agg #[])
abbrev backV(b:Int):Value:= .iface 142 (.agg #[.int .i64 b])
def Chain(V:List Value):Int→List Int→Prop
 |_, []=>True
 |z,x::r=>z=x∧ ∃ b,V[x.toNat]? =some (backV b)∧Chain V b r
theorem Chain.mem{V:List Value}: ∀ {B:List Int} {z:Int},Chain V z B→ ∀ x∈B, ∃ b,V[x.toNat]? =some (backV b)
 | [],_,_,x,h=>by cases h
 |y::r,z,hc,x,h=>by
  obtain⟨_,b,hb,hr⟩:=hc
  rcases List.mem_cons.1 h with rfl|h
  ·exact⟨b,hb⟩
  ·exact hr.mem x h
theorem Chain.set{V:List Value}{n:Nat}{u:Value}: ∀ {B:List Int} {z:Int},Chain V z B→(∀ x∈B,x.toNat≠n)→Chain (V.set n u) z B
 | [],_,_,_=>trivial
 |y::r,z,hc,h=>by
  obtain⟨e,b,hb,hr⟩:=hc
  refine⟨e,b,?_,hr.set (fun x hx=>h x (List.mem_cons_of_mem _ hx))⟩
  rw [List.getElem?_set_ne (fun q=>h y (List.mem_cons_self) q.symm)]
  exact hb
structure ArP(base p:Nat)(L B:List Int)(T:Nat)(F:Nat→Prop)(w:World):Prop where
 ex: ∃ (a:Option Addr) (c:Nat) (z:Int) (V:List Value),Row w p [.slice a T c, .int .i64 (L.length:Int), .int .i64 z]∧Own w base 20 a T c V∧F p∧(∀ k,Slot a k→F k∧k≠p)∧(∀ x∈L,V[x.toNat]? =some outV)∧Chain V z B.reverse
 ft: ∀ k,F k→base≤k∧k<w.heap.size
 ok:ArOk L B T
 all: ∀ x:Int,0≤x→x<T→x∈L∨x∈B
theorem ArP.keep{base p:Nat}{L B:List Int}{T:Nat}{F G:Nat→Prop}{w w':World}(h:ArP base p L B T F w)(hk:Keep G w w')(hd: ∀ k,F k→ ¬G k):ArP base p L B T F w':=by
 obtain⟨a,c,z,V,hrow,ha,hp,hFa,hL,hB⟩:=h.ex
 exact⟨⟨a,c,z,V,hrow.keep hk hrow.lt (hd p hp),ha.keep hk (fun k s=>hd k (hFa k s).1),hp,hFa,hL,hB⟩,fun k hF=>⟨(h.ft k hF).1,Nat.lt_of_lt_of_le (h.ft k hF).2 hk.size⟩,h.ok,h.all⟩
theorem as_out(w:World):(Instr.typeAssert outV 20 132 true).run Try.prog w= .ok (.tuple #[.agg #[], .bool true]) w:=by kernel_rfl
theorem as_back(b:Int)(w:World):(Instr.typeAssert (backV b) 20 132 true).run Try.prog w= .ok (.tuple #[.agg #[], .bool false]) w:=by kernel_rfl
theorem back_of(b:Int)(w:World):(Instr.typeAssert (backV b) 20 142 false).run Try.prog w= .ok (.agg #[.int .i64 b]) w:=by kernel_rfl
theorem field_back(b:Int)(w:World):(Instr.field 142 (.agg #[.int .i64 b]) 0).run Try.prog w= .ok (.int .i64 b) w:=by kernel_rfl
theorem mkI_out(w:World):(Instr.makeInterface 132 (.agg #[])).run Try.prog w= .ok outV w:=run_makeInterface w _ _ (by kernel_rfl)
set_option maxRecDepth 100000 in
theorem isOut_yes(p:Nat)(b c T k:Nat)(xs:List Value)(w:World)(hrow:Row w p (.slice (some ⟨b,0,none⟩) T c::xs))(hk:k<T)(hT:T≤1000)(hq:w.cell? ⟨b,k,none⟩=some outV):
  Calls Try.prog 40 #[ptrV p, .int .i64 (k:Int)] w fun e w'=>e= .returned (.bool true)∧Below w.heap.size w w':=by
 have q0:=hrow.cell 0 _ rfl
 have ha:=as_out
 have hB: ∀ o,Below w.heap.size w (w.alloc o):=fun o=>(Below.refl _ _).alloc (Nat.le_refl _) _
 go_enter Try.func40,Try.ntmps40
 go_wp2
 go_ret
 exact⟨rfl,hB _⟩
set_option maxRecDepth 100000 in
theorem isOut_no(p:Nat)(b c T k:Nat)(xs:List Value)(bf:Int)(w:World)(hrow:Row w p (.slice (some ⟨b,0,none⟩) T c::xs))(hk:k<T)(hT:T≤1000)(hq:w.cell? ⟨b,k,none⟩=some (backV bf)):
  Calls Try.prog 40 #[ptrV p, .int .i64 (k:Int)] w fun e w'=>e= .returned (.bool false)∧Below w.heap.size w w':=by
 have q0:=hrow.cell 0 _ rfl
 have ha:=as_back bf
 have hB: ∀ o,Below w.heap.size w (w.alloc o):=fun o=>(Below.refl _ _).alloc (Nat.le_refl _) _
 go_enter Try.func40,Try.ntmps40
 go_wp2
 go_ret
 exact⟨rfl,hB _⟩
set_option maxRecDepth 100000 in
theorem cameBehind_at(p:Nat)(b c T k:Nat)(xs:List Value)(bf:Int)(w:World)(hrow:Row w p (.slice (some ⟨b,0,none⟩) T c::xs))(hk:k<T)(hT:T≤1000)(hq:w.cell? ⟨b,k,none⟩=some (backV bf)):
  Calls Try.prog 65 #[ptrV p, .int .i64 (k:Int)] w fun e w'=>e= .returned (.int .i64 bf)∧w'=w:=by
 have q0:=hrow.cell 0 _ rfl
 have ha:=back_of bf
 have hb:=field_back bf
 go_enter Try.func65,Try.ntmps65
 go_wp2
 go_ret
 exact⟨rfl,rfl⟩
theorem isOut_of{base p:Nat}{L B:List Int}{T:Nat}{F:Nat→Prop}{w:World}(h:ArP base p L B T F w)(hT:T≤1000)(k:Nat)(hk:k<T){r:Bool}(hr:r=decide ((k:Int)∈L)):
  Calls Try.prog 40 #[ptrV p, .int .i64 (k:Int)] w fun e w'=>e= .returned (.bool r)∧Below w.heap.size w w':=by
 obtain⟨a,c,z,V,hrow,ha,hp,hFa,hL,hB⟩:=h.ex
 obtain⟨b,rfl,hb,_,hseg⟩:=Own.at ha (by omega)
 by_cases hm:(k:Int)∈L
 ·rw [decide_eq_true hm]at hr
  subst hr
  have hq:=hseg.cell k outV (by have:=hL _ hm;simpa using this)
  rw [Nat.zero_add]at hq
  exact isOut_yes p b c T k _ w hrow hk hT hq
 ·rw [decide_eq_false hm]at hr
  subst hr
  obtain⟨bf,hv⟩:=hB.mem k (List.mem_reverse.2 ((h.all k (by omega) (by omega)).resolve_left hm))
  have hq:=hseg.cell k (backV bf) (by simpa using hv)
  rw [Nat.zero_add]at hq
  exact isOut_no p b c T k _ bf w hrow hk hT hq
set_option maxRecDepth 100000 in
theorem arLen{base p:Nat}{L B:List Int}{T:Nat}{F:Nat→Prop}{w:World}(h:ArP base p L B T F w)(n:Int)(hn:n=L.length):
  Calls Try.prog 41 #[ptrV p] w fun e w'=>e= .returned (.int .i64 n)∧Below w.heap.size w w':=by
 obtain⟨a,c,z,V,hrow,ha,hp,hFa,hL,hB⟩:=h.ex
 subst hn
 have q1:=hrow.cell 1 _ rfl
 go_enter Try.func41,Try.ntmps41
 go_wp2
 go_ret
 exact⟨rfl,Below.refl _ _⟩
set_option maxRecDepth 100000 in
theorem arLive{base p:Nat}{L B:List Int}{T:Nat}{F:Nat→Prop}{w:World}(h:ArP base p L B T F w)(hT:T≤1000)(n:Int)(hn: -9223372036854775808≤n∧n≤9223372036854775807){r:Bool}(hr:r=decide (n∈L)):
  Calls Try.prog 27 #[ptrV p, .int .i64 n] w fun e w'=>e= .returned (.bool r)∧Below w.heap.size w w':=by
 have H:Hid _:=h
 obtain⟨a,c,z,V,hrow,ha,hp,hFa,hL,hB⟩:=h.ex
 have q0:=hrow.cell 0 _ rfl
 have HR:Hid _:=hr
 by_cases h0:n<0
 ·obtain rfl:r=false:=by
   rw [hr]
   refine decide_eq_false fun m=>?_
   have:=h.ok.rg n (List.mem_append_left _ m)
   omega
  clear hr h
  go_enter Try.func27,Try.ntmps27
  go_wp2
  go_ret
  exact⟨rfl,Below.refl _ _⟩
 ·obtain⟨k,rfl⟩:=Int.eq_ofNat_of_zero_le (Int.not_lt.1 h0)
  by_cases hk:k<T
  ·have hlt:((k:Int)<(T:Int)):=by omega
   have hge:0≤(k:Int):=by omega
   clear hr h h0
   go_enter Try.func27,Try.ntmps27
   go_wp2_with (go_at_call 40;refine(isOut_of H.out hT k hk HR.out).mono ?_;rintro e w1 ⟨rfl,b1⟩)
   go_ret
   exact⟨rfl,b1⟩
  ·obtain rfl:r=false:=by
    rw [hr]
    refine decide_eq_false fun m=>?_
    have:=h.ok.rg _ (List.mem_append_left _ m)
    omega
   clear hr h
   go_enter Try.func27,Try.ntmps27
   go_wp2
   go_ret
   exact⟨rfl,Below.refl _ _⟩
theorem infoA:(Try.prog.info? 20).map (fun i=>(i.zero,i.size,i.bytes))=some (some .nilIface,1,16):=by kernel_rfl
theorem arNew_ok(w:World)(base:Nat)(t:TypeId)(hb:base≤w.heap.size):ArP base w.heap.size [] [] 0 (fun k=>k=w.heap.size) (w.alloc (.cells #[.slice none 0 0, .int .i64 0, .int .i64 0] t)):=
 ⟨⟨none,0,0, [],Row.new w [.slice none 0 0, .int .i64 0, .int .i64 0] t,own_none _ _ _,rfl,(fun k s=>by obtain⟨o,s⟩:=s;cases s),(fun x h=>by cases h),trivial⟩,fun k e=>⟨by omega,by simp;omega⟩,ArOk.new,fun x h0 h1=>by omega⟩
set_option maxRecDepth 100000 in
theorem arNew(base:Nat)(w:World)(hb:base≤w.heap.size):Calls Try.prog 14 #[] w fun e w'=> ∃ (p:Nat) (F:Nat→Prop),e= .returned (ptrV p)∧ArP base p [] [] 0 F w'∧(∀ k,F k→w.heap.size≤k)∧Below w.heap.size w w':=by
 have h0:=arNew_ok w base 83 hb
 have hB: ∀ o,Below w.heap.size w (w.alloc o):=fun o=>(Below.refl _ _).alloc (Nat.le_refl _) _
 go_enter Try.func14,Try.ntmps14
 go_wp2
 go_ret
 exact⟨_,_,rfl,h0,(fun k e=>by omega),hB _⟩
theorem ArP.lend{base p:Nat}{L:List Int}{T:Nat}{F:Nat→Prop}{w w1 w2 w3:World}{a a':Option Addr}{c c':Nat}{z:Int}{V:List Value}(hft: ∀ k,F k→base≤k∧k<w.heap.size)(hok:ArOk L [] T)(hall: ∀ x:Int,0≤x→x<T→x∈L∨x∈([]:List Int))(hL: ∀ x∈L,V[x.toNat]? =some outV)
  (hk:Keep F w w1) (hrow:Row w1 p [.slice a T c, .int .i64 ((T:Int)+1), .int .i64 z]) (ha:Own w1 base 20 a T c V) (hp:F p) (hFa: ∀ k,Slot a k→F k∧k≠p)
  (h2:Below w1.heap.size w1 w2) (h3:Own w3 base 20 a' (T+1) c' (V++ [outV])) (hg:w2.grownBy w3 (Value.slice a T c).ownBlock) (hs: ∀ k,Slot a' k→Slot a k∨w2.heap.size≤k):
  Left (ArP base p (L++ [(T:Int)]) [] (T+1)) F w (w3.setCell ⟨p,0,none⟩ (.slice a' (T+1) c')):=by
 have hown: ∀ k,(Value.slice a T c).ownBlock=some k→Slot a k:=fun k e=>own_slot ha e
 have k2:Keep F w w2:=hk.to h2
 have k3:Keep F w w3:=k2.grown hg (fun k e=>Or.inl (hFa k (hown k e)).1)
 have k4:Keep F w (w3.setCell ⟨p,0,none⟩ (.slice a' (T+1) c')):=k3.set (Or.inl hp) _
 have K23:Keep (fun k=>Slot a k) w1 w3:=(Keep.of h2).grown hg (fun k e=>Or.inl (hown k e))
 have hpl:p<w1.heap.size:=hrow.lt
 have row3:=hrow.keep K23 hpl (fun s=>(hFa p s).2 rfl)
 have na': ¬Slot a' p:=fun s=>(hs p s).elim (fun s=>(hFa p s).2 rfl) (fun e=>by have:=h2.size;omega)
 have hlen:L.length=T:=by have:=hok.num;simpa using this
 have hV:V.length=T:=ha.sl.len
 have hok':ArOk (L++ [(T:Int)]) [] (T+1):=hok.take.1
 refine⟨k4,fun k=>F k∨(w.heap.size≤k∧k<w3.heap.size),⟨⟨a',c',z,V++ [outV],?_,h3.put na' _,Or.inl hp,?_,?_,trivial⟩,?_,hok',?_⟩,fun k hk=>hk.imp id (fun e=>e.1)⟩
 ·have:=row3.set 0 (.slice a' (T+1) c') (by simp)
  rw [List.length_append,hlen]
  exact this
 ·intro k s
  refine⟨(hs k s).elim (fun s=>Or.inl (hFa k s).1) (fun e=>Or.inr ⟨by have:=h2.size;have:=hk.size;omega,(h3.lt s).1⟩),fun e=>na' (e▸s)⟩
 ·intro x hx
  rcases List.mem_append.1 hx with hx|hx
  ·rw [List.getElem?_append_left (by rw [hV];have:=hok.rg x (List.mem_append_left _ hx);omega)]
   exact hL x hx
  ·obtain rfl:x=(T:Int):=by simpa using hx
   rw [List.getElem?_append_right (by rw [hV];omega),hV]
   simp
 ·intro k hk'
  have:=k4.size
  have hb2:base≤w.heap.size:=by have:=hft p hp;omega
  rcases hk' with e|e
  ·exact⟨(hft k e).1,by have:=(hft k e).2;omega⟩
  ·exact⟨by omega,by simp;exact e.2⟩
 ·intro x h0 h1
  by_cases e:x=(T:Int)
  ·subst e;exact Or.inl (by simp)
  ·exact(hall x h0 (by omega)).imp (fun m=>List.mem_append_left _ m) id
theorem below_drewN(w:World)(n:Nat):Below w.heap.size w (w.drewN n):=⟨rfl,rfl,rfl,Nat.le_refl _,fun _ _=>rfl⟩
theorem out_one(w:World)(T:TypeId):Sl (w.alloc (.cells #[outV] T)) (some ⟨w.heap.size,0,none⟩) 1 1 [outV]:=
 ⟨rfl,Nat.le_refl _,by unfold maxLen;omega,(by intro e;cases e),Or.inr ⟨_,_,rfl,by simp,(Row.new w [outV] T).seg⟩⟩
set_option maxRecDepth 100000 in
theorem arTake0{base p:Nat}{L:List Int}{T:Nat}{F:Nat→Prop}{w:World}(h:ArP base p L [] T F w)(hT:T≤1000):
  Calls Try.prog 52 #[ptrV p] w fun e w'=>e= .returned (.int .i64 (T:Int))∧Left (ArP base p (L++ [(T:Int)]) [] (T+1)) F w w':=by
 obtain⟨a,c,z,V,hrow,ha,hp,hFa,hL,hB⟩:=h.ex
 obtain⟨i0,hi0,hz0,hz1,hz2⟩:=info_of infoA
 have hft:=h.ft
 have hlen:L.length=T:=by have:=h.ok.num;simpa using this
 rw [hlen]at hrow
 have q0:=hrow.cell 0 _ rfl
 have q1:=hrow.cell 1 _ rfl
 have f0:=hrow.free 0 (by simp)
 have f1:=hrow.free 1 (by simp)
 have row1:Row (w.setCell ⟨p,1,none⟩ (.int .i64 ((T:Int)+1))) p [.slice a T c, .int .i64 ((T:Int)+1), .int .i64 z]:=hrow.set 1 _ (by simp)
 have c10:=row1.cell 0 _ rfl
 have c11:=row1.cell 1 _ rfl
 have hgt:(T:Int)<(T:Int)+1:=by omega
 go_enter Try.func52,Try.ntmps52
 have hmi:=mkI_out
 have HL:Hid _:=hL
 have HA:Hid _:=h.all
 have HK:Hid _:=h.ok
 have hcap:T+1≤maxLen:=by unfold maxLen;omega
 clear hL h
 go_wp2
 go_quiet (fail)
 have B2:Below _ (w.setCell ⟨p,1,none⟩ (.int .i64 ((T:Int)+1))) (((w.setCell ⟨p,1,none⟩ (.int .i64 ((T:Int)+1))).drewN nq).alloc (.cells #[outV] 20)):=(below_drewN _ nq).alloc (Nat.le_refl _) _
 have k1:Keep F w (w.setCell ⟨p,1,none⟩ (.int .i64 ((T:Int)+1))):=(Keep.refl F w).set (Or.inl hp) _
 have a1:=ha.put (i:=1) (fun s=>(hFa p s).2 rfl) (.int .i64 ((T:Int)+1))
 have a2:=a1.below B2
 have one:=out_one ((w.setCell ⟨p,1,none⟩ (.int .i64 ((T:Int)+1))).drewN nq) 20
 have e1:((w.setCell ⟨p,1,none⟩ (.int .i64 ((T:Int)+1))).drewN nq).heap.size=w.heap.size:=by simp
 rw [e1]at one
 have hpb:=(hft p hp).1
 have hpl:=(hft p hp).2
 clear e1
 go_wp2_with (at_builtin;go_loud (refine app_at _ rfl (.tmp 27) (.tmp 30) 81 rfl base 20 i0 .nilIface 16 Try.underlying81 hi0 hz0 hz1 hz2 rfl a T c V rfl a2 _ 1 1 [outV] rfl one (by simp [Value.oneCell']) hcap (by omega) (by simp;omega) ?_;intro a3 c3 w3 h3 g3 s3;have row3:=row1.keep ((Keep.of (F:=fun k=>Slot a k) B2).grown g3 (fun k e=>Or.inl (own_slot a1 e))) row1.lt (fun s=>(hFa p s).2 rfl);have r30:=row3.free 0 (by simp);have r31:=row3.cell 0 _ rfl;have r32:=(row3.set 0 (.slice a3 (T+1) c3) (by simp)).cell 0 _ rfl))
 go_ret
 exact⟨rfl,ArP.lend hft HK.out HA.out HL.out k1 row1 a1 hp hFa B2 h3 g3 s3⟩
theorem ArP.again{base p:Nat}{L B:List Int}{T k b c:Nat}{F:Nat→Prop}{w w2:World}{bf:Int}{V:List Value}(h:ArP base p L (B++ [(k:Int)]) T F w)(hL: ∀ x∈L,V[x.toNat]? =some outV)(hB:Chain V bf B.reverse)
  (hk:Keep F w w2) (hrow:Row w2 p [.slice (some ⟨b,0,none⟩) T c, .int .i64 ((L.length:Int)+1), .int .i64 bf]) (ha:Own w2 base 20 (some ⟨b,0,none⟩) T c V) (hp:F p) (hFa: ∀ i,Slot (some ⟨b,0,none⟩) i→F i∧i≠p) (hkT:k<T):
  Left (ArP base p (L++ [(k:Int)]) B T) F w (w2.setCell ⟨b,k,none⟩ outV):=by
 have hb:F b∧b≠p:=hFa b ⟨0,rfl⟩
 have hV:V.length=T:=ha.sl.len
 have hok:=h.ok.take
 rw [tkN_last,tkT_last,List.dropLast_concat]at hok
 have hnd:=(List.nodup_append.1 h.ok.nd).2.1
 refine⟨hk.set (Or.inl hb.1) _,F,⟨⟨some ⟨b,0,none⟩,c,bf,V.set k outV,?_,(ha.stored k outV).1,hp,hFa,?_,hB.set ?_⟩,fun i e=>⟨(h.ft i e).1,?_⟩,hok.1,?_⟩,fun i e=>Or.inl e⟩
 ·have:=hrow.other (i:=k) outV hb.2
  rw [List.length_append]
  exact this
 ·intro x hx
  by_cases e:k=x.toNat
  ·rw [←e,List.getElem?_set_self (by omega)]
  ·rw [List.getElem?_set_ne e]
   rcases List.mem_append.1 hx with hx|hx
   ·exact hL x hx
   ·exact absurd (by simp at hx;subst hx;simp) e
 ·intro x hx e
  have h1:=h.ok.rg x (by simp at hx;simp [hx])
  have h2:=(List.nodup_append.1 hnd).2.2 x (by simpa using hx) (k:Int) (by simp)
  exact h2 (by omega)
 ·have:=(h.ft i e).2
  have:=hk.size
  simp
  omega
 ·intro x h0 h1
  rcases h.all x h0 h1 with m|m
  ·exact Or.inl (List.mem_append_left _ m)
  ·rcases List.mem_append.1 m with m|m
   ·exact Or.inr m
   ·exact Or.inl (List.mem_append_right _ m)
set_option maxRecDepth 100000 in
theorem arTake1{base p:Nat}{L B:List Int}{T k:Nat}{F:Nat→Prop}{w:World}(h:ArP base p L (B++ [(k:Int)]) T F w)(hT:T≤1000):
  Calls Try.prog 52 #[ptrV p] w fun e w'=>e= .returned (.int .i64 (k:Int))∧Left (ArP base p (L++ [(k:Int)]) B T) F w w':=by
 have H:Hid _:=h
 obtain⟨a,c,z,V,hrow,ha,hp,hFa,hL,hB⟩:=h.ex
 rw [List.reverse_append]at hB
 obtain⟨rfl,bf,hbf,hB⟩:=hB
 have hkT:k<T:=by have:=h.ok.rg (k:Int) (by simp);omega
 have hnum:L.length+1≤T:=by have:=h.ok.num;simp at this;omega
 obtain⟨b,rfl,hb,_,hseg⟩:=Own.at ha (by omega)
 have hbp:=hFa b ⟨0,rfl⟩
 have hroom:=ha.sl.room
 have hq:=hseg.cell k (backV bf) (by simpa using hbf)
 have hqf:=hseg.free k (by rw [ha.sl.len];exact hkT)
 rw [Nat.zero_add]at hq hqf
 have HL:Hid _:=hL
 have HB:Hid _:=hB
 have hpl:=(h.ft p hp).2
 have hpb: ¬p=b:=fun e=>hbp.2 e.symm
 obtain⟨m,hm⟩: ∃ m,m=L.length:=⟨_,rfl⟩
 rw [←hm]at hrow hnum
 have q0:=hrow.cell 0 _ rfl
 have q1:=hrow.cell 1 _ rfl
 have q2:=hrow.cell 2 _ rfl
 have f0:=hrow.free 0 (by simp)
 have f1:=hrow.free 1 (by simp)
 have f2:=hrow.free 2 (by simp)
 have row1:Row (w.setCell ⟨p,1,none⟩ (.int .i64 ((m:Int)+1))) p [.slice (some ⟨b,0,none⟩) T c, .int .i64 ((m:Int)+1), .int .i64 (k:Int)]:=hrow.set 1 _ (by simp)
 have row2:Row ((w.setCell ⟨p,1,none⟩ (.int .i64 ((m:Int)+1))).setCell ⟨p,2,none⟩ (.int .i64 bf)) p [.slice (some ⟨b,0,none⟩) T c, .int .i64 ((m:Int)+1), .int .i64 bf]:=row1.set 2 _ (by simp)
 have a2:=(ha.put (i:=1) (fun s=>(hFa p s).2 rfl) (.int .i64 ((m:Int)+1))).put (i:=2) (fun s=>(hFa p s).2 rfl) (.int .i64 bf)
 have K2:Keep F w ((w.setCell ⟨p,1,none⟩ (.int .i64 ((m:Int)+1))).setCell ⟨p,2,none⟩ (.int .i64 bf)):=((Keep.refl F w).set (Or.inl hp) _).set (Or.inl hp) _
 have c10:=row1.cell 0 _ rfl
 have c11:=row1.cell 1 _ rfl
 have c12:=row1.cell 2 _ rfl
 have c20:=row2.cell 0 _ rfl
 have hno: ¬(T:Int)<(m:Int)+1:=by omega
 have hq1:(w.setCell ⟨p,1,none⟩ (.int .i64 ((m:Int)+1))).cell? ⟨b,k,none⟩=some (backV bf):=by
  rw [World.cell?_setCell_other _ _ _ _ (by intro q;simp only [Addr.mk.injEq]at q;omega)]
  exact hq
 have HM:Hid _:=hm
 have hmi:=mkI_out
 clear hL hB h hm hnum hbf hseg
 go_enter Try.func52,Try.ntmps52
 go_wp2
 go_quiet (fail)
 go_wp2_with (go_at_call 65;go_loud (refine(cameBehind_at p b c T k _ bf _ (row1.drewN nq) hkT hT hq1).mono ?_;rintro e w1 ⟨rfl,rfl⟩))
 go_ret
 have K3:Keep F w (((w.setCell ⟨p,1,none⟩ (.int .i64 ((m:Int)+1))).drewN nq).setCell ⟨p,2,none⟩ (.int .i64 bf)):=(((Keep.refl F w).set (Or.inl hp) _).to (below_drewN _ nq)).set (Or.inl hp) _
 refine⟨rfl,ArP.again H.out HL.out HB.out K3 ?_ a2 hp hFa hkT⟩
 rw [←HM.out]
 exact row2
set_option maxRecDepth 100000 in
set_option maxHeartbeats 1000000 in
theorem arAll{base p:Nat}{L B:List Int}{T:Nat}{F:Nat→Prop}{w:World}(h:ArP base p L B T F w)(hL:L.length≤1000)(hT:T≤1000){M:List Int}(hM:M=allN L T):
  Calls Try.prog 42 #[ptrV p] w (GotL w M):=by
 have H:Hid _:=h
 obtain⟨a,c,z,V,hrow,ha,hp,hFa,_,_⟩:=h.ex
 obtain⟨i0,hi0,hz0,hz1,hz2⟩:=info_of infoI
 have hpl:=(h.ft p hp).2
 have HM:Hid _:=hM
 have q0:=hrow.cell 0 _ rfl
 have q1:=hrow.cell 1 _ rfl
 obtain⟨m,hm⟩: ∃ m,m=L.length:=⟨_,rfl⟩
 rw [←hm]at hrow hL q1
 clear hM h hm
 go_enter Try.func42,Try.ntmps42
 go_wp2_with (at_make;go_loud (refine wpList_make_own _ rfl (.const (.int .i64 0)) (.tmp 10) 108 rfl w.heap.size 3 i0 (.int .i64 0) 1 Try.underlying108 hi0 hz0 hz1 .i64 .i64 _ m rfl rfl rfl (by rw [hz2];omega) (by unfold maxLen;omega) (Nat.le_refl _) ?_;intro w0 own0 g0;have B0:Below w.heap.size w w0:=(Keep.grown (F:=fun _=>False) (Keep.refl _ w) g0 (fun k e=>by cases e)).below (Nat.le_refl _) (fun _ x=>x.elim);have row0:=hrow.keep (Keep.of (F:=fun _=>False) B0) hpl (fun x=>x);have q00:=row0.cell 0 _ rfl))
 go_loopw [3,17] (fun s i wr=> ∃ k,k≤T∧i= .int .i64 (k:Int)∧ ∃ (a:Option Addr) (c:Nat),s= .slice a (allN L k).length c∧Own wr w.heap.size 3 a (allN L k).length c (ints (allN L k))∧Below w.heap.size w wr) (fun _ i _=>T- (RowKit.intOf i).toNat)
 case atStart=>exact⟨0,by omega,rfl,_,_,rfl,own0,B0⟩
 case round=>
  clear own0 B0
  obtain⟨k,hk,rfl,a2,c2,rfl,hown,bel⟩:=hrel
  have HA:=H.out.keep (Keep.of (F:=fun _=>False) bel) (fun _ _ x=>x)
  have HA:Hid _:=HA
  have hnx:=allN_next L k
  have hml:=allN_len L k
  obtain⟨M',hM'⟩: ∃ M',M'=allN L k:=⟨_,rfl⟩
  rw [←hM']at hown hnx hml ⊢
  by_cases hlt:k<T
  ·obtain⟨r,hr⟩: ∃ r,r=decide ((k:Int)∈L):=⟨_,rfl⟩
   have HR:Hid _:=hr
   have hbs:=bel.size
   cases r with
   |false=>
    have HN:Hid (allN L (k+1)=M'):=by unfold Hid;rw [hnx,if_neg (of_decide_eq_false hr.symm),List.append_nil]
    clear hr hnx hM'
    go_wp2_with (go_at_call 40;refine(isOut_of HA.out hT k hlt HR.out).mono ?_;rintro e w1 ⟨rfl,b1⟩)
    go_roundw
    case rel=>exact⟨k+1,by omega,by simp,a2,c2,by rw [HN.out],by rw [HN.out];exact hown.below b1,bel.trans (b1.mono bel.size)⟩
    case measure=>simp [RowKit.intOf];omega
   |true=>
    have HN:Hid (allN L (k+1)=M'++ [(k:Int)]):=by unfold Hid;rw [hnx,if_pos (of_decide_eq_true hr.symm)]
    have hcap:M'.length+1≤maxLen:=by unfold maxLen;omega
    clear hr hnx hM'
    go_wp2_with (first
     |(go_at_call 40;refine(isOut_of HA.out hT k hlt HR.out).mono ?_;rintro e w1 ⟨rfl,b1⟩;have o1:=(hown.below b1).below ((Below.refl w1.heap.size w1).alloc (Nat.le_refl _) (.cells #[.int .i64 (k:Int)] 3));have one:=sl_one w1 (k:Int) 3;have z1:=b1.size)
     |(at_builtin;go_loud (refine app_at _ rfl (.tmp 23) (.tmp 25) 108 rfl w.heap.size 3 i0 (.int .i64 0) 8 Try.underlying108 hi0 hz0 hz1 hz2 rfl a2 M'.length c2 (ints M') rfl o1 _ 1 1 [.int .i64 (k:Int)] rfl one (ints_one [(k:Int)]) hcap (by omega) (by simp;omega) ?_;intro a3 c3 w3 h3 g3 s3)))
    go_roundw
    case rel=>
     have b3:Below w.heap.size w w3:=(bel.trans ((b1.mono bel.size).trans (((Below.refl w1.heap.size w1).alloc (Nat.le_refl _) _).mono (by omega)))).trans ((Keep.grown (F:=fun k=>Slot a2 k) (Keep.refl _ _) g3 (fun k e=>Or.inl (own_slot hown e))).below (by simp;omega) (fun k s=>(hown.lt s).2))
     exact⟨k+1,by omega,by simp,a3,c3,by rw [HN.out];simp,by rw [HN.out,ints_append,List.length_append];exact h3,b3⟩
    case measure=>simp [RowKit.intOf];omega
  ·obtain rfl:k=T:=by omega
   clear hnx
   go_wp2
   go_ret
   rw [hM']at hown ⊢
   rw [HM.out]
   exact⟨a2,c2,rfl,hown,bel⟩
def areaP(ax ay bx by' cx cy:Int):Int:=(bx- ax)*(cy- ay)- (by'- ay)*(cx- ax)
theorem area_turn(ax ay bx by' cx cy:Int):areaP bx by' cx cy ax ay=areaP ax ay bx by' cx cy:=by unfold areaP;grind
theorem area_moved(ax ay bx by' cx cy u v:Int):areaP (ax+u) (ay+v) (bx+u) (by'+v) (cx+u) (cy+v)=areaP ax ay bx by' cx cy:=by
 unfold areaP;rw [Int.add_sub_add_right,Int.add_sub_add_right,Int.add_sub_add_right,Int.add_sub_add_right]
theorem prod_abs{x y:Int}{A B:Nat}(hx:x.natAbs≤A)(hy:y.natAbs≤B):(x*y).natAbs≤A*B:=by
 rw [Int.natAbs_mul];exact Nat.mul_le_mul hx hy
theorem cross_abs{p q r s:Int}{D:Nat}(h1:p.natAbs≤D)(h2:q.natAbs≤D)(h3:r.natAbs≤D)(h4:s.natAbs≤D):(p*q- r*s).natAbs≤2*(D*D):=by
 have a:=prod_abs h1 h2
 have b:=prod_abs h3 h4
 omega
theorem area_abs{ax ay bx by' cx cy:Int}{D:Nat}(h1:(bx- ax).natAbs≤D)(h2:(by'- ay).natAbs≤D)(h3:(cx- ax).natAbs≤D)(h4:(cy- ay).natAbs≤D):(areaP ax ay bx by' cx cy).natAbs≤2*(D*D):=cross_abs h1 h4 h2 h3
theorem can_diff{x y:Int}(hx:inC x=true)(hy:inC y=true):(x- y).natAbs≤2199023255552:=by
 have:=inC_true.1 hx
 have:=inC_true.1 hy
 omega
theorem cmp_sign(x:Int):cmpI x 0=x.sign:=by
 unfold cmpI
 rcases Int.lt_trichotomy x 0 with h|h|h
 ·rw [if_pos h,Int.sign_eq_neg_one_of_neg h]
 ·subst h;rfl
 ·rw [if_neg (by omega),if_pos h,Int.sign_eq_one_of_pos h]
def whereP(o x y z:Int):Int:=if o≠1 then 0 else if x<0∨y<0∨z<0 then -1 else if x=0∨y=0∨z=0 then 1 else 2
structure Ar where
 L:List Int
 B:List Int
 T:Nat
def Ar.num(A:Ar):Int:=tkN A.B A.T
def Ar.took(A:Ar):Ar:=⟨A.L++ [A.num],A.B.dropLast,tkT A.B A.T⟩
structure Vt where
 no:Int
 x:Int
 y:Int
 id:Int
structure Tr where
 v0:Int
 v1:Int
 v2:Int
 x0:Int
 y0:Int
 x1:Int
 y1:Int
 x2:Int
 y2:Int
structure Ce where
 no:Int
 t:Tr
def Tr.v(t:Tr)(i:Nat):Int:=if i=0 then t.v0 else if i=1 then t.v1 else t.v2
def Tr.x(t:Tr)(i:Nat):Int:=if i=0 then t.x0 else if i=1 then t.x1 else t.x2
def Tr.y(t:Tr)(i:Nat):Int:=if i=0 then t.y0 else if i=1 then t.y1 else t.y2
def nx(i:Nat):Nat:=(i+1) % 3
def trL(t:Tr):List Int:= [t.v0,t.v1,t.v2,t.x0,t.y0,t.x1,t.y1,t.x2,t.y2]
structure Ms where
 n:Int
 av:Ar
 af:Ar
 V:List Vt
 C:List Ce
def fAt{α:Type}(f:α→Int)(v:Int):List α→Int→Int
 | [],_=> -1
 |a::l,k=>if f a=v then k else fAt f v l (k+1)
theorem fAt_spec{α:Type}(f:α→Int)(v:Int)(L:List α)(k:Int)(hk:0≤k):(fAt f v L k= -1∧ ∀ a∈L,f a≠v)∨ ∃ (i:Nat) (a:α),fAt f v L k=k+i∧L[i]? =some a∧f a=v:=by
 induction L generalizing k with
 |nil=>exact Or.inl ⟨rfl,fun a h=>by cases h⟩
 |cons b L ih=>
  by_cases e:f b=v
  ·exact Or.inr ⟨0,b,by rw [fAt,if_pos e];simp,rfl,e⟩
  ·rcases ih (k+1) (by omega)with⟨h1,h2⟩|⟨i,a,h1,h2,h3⟩
   ·refine Or.inl ⟨by rw [fAt,if_neg e];exact h1,fun a ha=>?_⟩
    rcases List.mem_cons.1 ha with rfl|ha
    ·exact e
    ·exact h2 a ha
   ·exact Or.inr ⟨i+1,a,by rw [fAt,if_neg e,h1];omega,by simpa using h2,h3⟩
theorem fAt_cases{α:Type}(f:α→Int)(v:Int)(L:List α):(fAt f v L 0= -1∧ ∀ a∈L,f a≠v)∨ ∃ (i:Nat) (a:α),fAt f v L 0=(i:Int)∧L[i]? =some a∧f a=v:=by
 rcases fAt_spec f v L 0 (by omega)with h|⟨i,a,h1,h⟩
 ·exact Or.inl h
 ·exact Or.inr ⟨i,a,by rw [h1];omega,h⟩
def insBy{α:Type}(f:α→Int)(x:α):List α→List α
 | []=> [x]
 |a::l=>if f x<f a then x::a::l else a::insBy f x l
theorem insBy_mem{α:Type}{f:α→Int}{x:α}{L:List α}{y:α}:y∈insBy f x L↔y=x∨y∈L:=by
 induction L with
 |nil=>simp [insBy]
 |cons a L ih=>
  unfold insBy
  split
  ·simp
  ·simp only [List.mem_cons,ih]
   exact⟨fun h=>h.elim (fun h=>Or.inr (Or.inl h)) (fun h=>h.elim Or.inl (fun h=>Or.inr (Or.inr h))),fun h=>h.elim (fun h=>Or.inr (Or.inl h)) (fun h=>h.elim Or.inl (fun h=>Or.inr (Or.inr h)))⟩
def has(t:Tr)(v:Int):Bool:=decide (t.v0=v∨t.v1=v∨t.v2=v)
def around(C:List Ce)(v:Int):List Int:=(C.filter (fun c=>has c.t v)).map (fun c=>c.no)
def same(a:Tr)(i:Nat)(b:Tr)(k:Nat):Bool:=decide (a.v i=b.v k∧a.v (nx i)=b.v (nx k)∧a.x (nx i)- a.x i=b.x (nx k)- b.x k∧a.y (nx i)- a.y i=b.y (nx k)- b.y k)
def opp(a:Tr)(i:Nat)(b:Tr)(k:Nat):Bool:=decide (a.v i=b.v (nx k)∧a.v (nx i)=b.v k∧a.x (nx i)- a.x i=b.x k- b.x (nx k)∧a.y (nx i)- a.y i=b.y k- b.y (nx k))
def twin(t:Tr)(c:Ce)(x:Nat):Bool:=same t (x/3) c.t (x % 3)
def there(t:Tr)(C:List Ce):Bool:=C.any fun c=>(List.range 9).any fun x=>twin t c x
def pos(V:List Vt)(v:Int):Int×Int:=match V.find? (fun a=>decide (a.no=v))with|some a=>(a.x,a.y)|none=>(0,0)
def plOk(S:Ms)(t:Tr)(i:Nat):Bool:=atC (pos S.V (t.v i)).1 (pos S.V (t.v i)).2 (t.x i) (t.y i) S.n
def plX(S:Ms)(t:Tr)(i:Nat):Int:=if plOk S t i then(pos S.V (t.v i)).1+t.x i*S.n else 0
def plY(S:Ms)(t:Tr)(i:Nat):Int:=if plOk S t i then(pos S.V (t.v i)).2+t.y i*S.n else 0
def isV(S:Ms)(v:Int):Bool:=decide (0≤fAt Vt.no v S.V 0)
def isF(S:Ms)(f:Int):Bool:=decide (0≤fAt Ce.no f S.C 0)
def areaT(S:Ms)(t:Tr):Int:=areaP (plX S t 0) (plY S t 0) (plX S t 1) (plY S t 1) (plX S t 2) (plY S t 2)
def fErr(S:Ms)(t:Tr):Int:=
 if isV S t.v0=false∨isV S t.v1=false∨isV S t.v2=false then 1
 else if plOk S t 0=false∨plOk S t 1=false∨plOk S t 2=false∨(areaT S t).sign≠1∨there t S.C=true then 6 else 0
def inSq(S:Ms)(x y:Int):Bool:=decide (0≤x∧x<S.n∧0≤y∧y<S.n)
def Ms.addV(S:Ms)(x y id:Int):Ms:={ S with av:=S.av.took,V:=insBy Vt.no ⟨S.av.num,x,y,id⟩ S.V }
def Ms.addF(S:Ms)(t:Tr):Ms:={ S with af:=S.af.took,C:=insBy Ce.no ⟨S.af.num,t⟩ S.C }
def acr(t:Tr)(a:Nat):List Ce→Option (Ce×Nat)
 | []=>none
 |c::l=>if opp t a c.t 0=true then some (c,0)else if opp t a c.t 1=true then some (c,1)else if opp t a c.t 2=true then some (c,2)else acr t a l
def corner(i:Int):Nat:=(i % 3).toNat
def crossed(S:Ms)(f i:Int):Option (Tr×Ce×Nat):=match S.C.find? (fun c=>decide (c.no=f))with
 |none=>none
 |some c=>match acr c.t (nx (corner i)) S.C with
  |none=>none
  |some r=>some (c.t,r)
end Go.Proofs.Ytaadknpjbogkbaa
