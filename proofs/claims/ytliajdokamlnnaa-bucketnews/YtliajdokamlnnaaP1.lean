/-
  Joined texts, part 1:
  Rows of values in one block of memory: what is read of them behind a store, a draw, a new 
  Slices in memory, wherever they begin in their block: what is read of them behind a store,
  Objects that calls change in place: which blocks a call may write (Keep F: all others stay
  Slices of elements of several cells in memory of one's own: what is kept, append onto them
  Lists of ints in memory of one's own: the library's BinarySearch, Insert and Delete over t
  What nat's Trim and Of answer; sums and differences of words.
  What nat's Add answers.
  Numbers as digits to the base 65536: which digits a sum, a difference, a product has. It i
  How many digits a number needs, to the base 65536, and its digits without noughts at the e
  A region whose order is open, an operation at a time: one that is wanted and yields in eve
  Slices apart from a block, so that what is stored there leaves them as they are; and what 
  Whole numbers in memory; what package whole's signed and plus answer.
  Points over a torus: which can be, where they lie, in which order. It imports nothing of t
  Blocks of two to four cells, made one behind the other, and what they hold behind a store 
  What package lift's Can, Sum, Less, Cmp answer, and what they call.
  What package lift's At and Home answer, and the laws' own look.
  bucket's grid in memory, and what its part, at, Cell, list and Len answer.
  What bucket's Cell answers.
-/
import Derived.WalkKit
import Derived.WalkSmall
import Derived.Laws.OwnMore
import Derived.Test.YtliajdokamlnnaaRows
import Derived.WalkSpells
import Derived.Deep.QuietTactic
import Derived.BigQuiet
import Derived.RegionTactic
import Derived.ChangeAlike
import Derived.OwnWalk
import Derived.Laws.AppendOwnNone
import Derived.Maps.AppendAt
import Derived.Shelf.Spec.SlicesInsertGrow
import Derived.Shelf.Slices.SearchI
import Derived.Shelf.Slices.Empties
import Derived.Lib.RowBridge
import Derived.Lib.LazyBuf
import Derived.Laws.BitsAllLaws
import Derived.Deep.RegionWith
import Derived.Deep.RegionHeld3
import Derived.Shelf.Abstract
import Derived.Lib.ItoaNum
import Derived.Deep.AppendLies
import Derived.Lib.IndexBytes
import Derived.Laws.BytesArg
import Derived.RangeFuncNested
import Derived.RangeFuncBound
import Derived.RangeFuncCalls
import Derived.RangeFuncLeaves
import Derived.RangeFuncBox
import Derived.Shelf.RegionOpen
import Derived.OwnWalkIn
import Derived.TacticsInMore
import Derived.LoopNIn
import Derived.LoopIn
namespace Go.Proofs.Ytliajdokamlnnaa
open Go.RowKit
def Row(w:World)(b:Nat)(xs:List Value):Prop:= ∀ j v,xs[j]? =some v→w.cell? ⟨b,j,none⟩=some v∧w.frozen? ⟨b,j,none⟩=false
theorem Row.cell{w:World}{b:Nat}{xs:List Value}(h:Row w b xs)(j:Nat)(v:Value)(hj:xs[j]? =some v):w.cell? ⟨b,j,none⟩=some v:=(h j v hj).1
theorem Row.free{w:World}{b:Nat}{xs:List Value}(h:Row w b xs)(j:Nat)(hj:j<xs.length):w.frozen? ⟨b,j,none⟩=false:=(h j xs[j] (List.getElem?_eq_getElem hj)).2
theorem Row.set{w:World}{b:Nat}{xs:List Value}(h:Row w b xs)(i:Nat)(v:Value)(hi:i<xs.length):Row (w.setCell ⟨b,i,none⟩ v) b (xs.set i v):=by
 intro j u hu
 rw [World.frozen?_setCell]
 by_cases e:i=j
 ·subst e
  rw [List.getElem?_set_self hi]at hu
  simp only [Option.some.injEq]at hu
  subst hu
  exact⟨World.cell?_setCell_same _ _ _ (h.cell i xs[i] (List.getElem?_eq_getElem hi)),h.free i hi⟩
 ·rw [List.getElem?_set_ne e]at hu
  rw [World.cell?_setCell_other _ _ _ _ (by intro q;simp only [Addr.mk.injEq]at q;omega)]
  exact h j u hu
theorem Row.below{w w':World}{b B:Nat}{xs:List Value}(h:Row w b xs)(hb:Below B w w')(hB:b<B):Row w' b xs:=by
 intro j u hu
 rw [hb.cell (p:=⟨b,j,none⟩) hB,hb.frozen (p:=⟨b,j,none⟩) hB]
 exact h j u hu
theorem Row.other{w:World}{b c i:Nat}{xs:List Value}(h:Row w b xs)(v:Value)(hc:c≠b):Row (w.setCell ⟨c,i,none⟩ v) b xs:=by
 intro j u hu
 rw [World.frozen?_setCell,World.cell?_setCell_other _ _ _ _ (by intro q;simp only [Addr.mk.injEq]at q;omega)]
 exact h j u hu
theorem Row.new(w:World)(xs:List Value)(t:TypeId):Row (w.alloc (.cells xs.toArray t)) w.heap.size xs:=by
 intro j u hu
 rw [World.cell?_alloc_new,World.frozen?_alloc_new]
 exact⟨by simpa using hu,rfl⟩
theorem Row.alloc{w:World}{b:Nat}{xs:List Value}(h:Row w b xs)(o:Obj)(hb:b<w.heap.size):Row (w.alloc o) b xs:=
 h.below (((Below.refl _ _).alloc (Nat.le_refl _) o)) hb
end Go.Proofs.Ytliajdokamlnnaa
namespace Go.Proofs.Ytliajdokamlnnaa
open Go.RowKit
set_option linter.unusedVariables false
def Seg(w:World)(b o:Nat)(xs:List Value):Prop:= ∀ j v,xs[j]? =some v→w.cell? ⟨b,o+j,none⟩=some v∧w.frozen? ⟨b,o+j,none⟩=false
theorem Seg.cell{w:World}{b o:Nat}{xs:List Value}(h:Seg w b o xs)(j:Nat)(v:Value)(hj:xs[j]? =some v):w.cell? ⟨b,o+j,none⟩=some v:=(h j v hj).1
structure Sl(w:World)(a:Option Addr)(n cap:Nat)(xs:List Value):Prop where
 len:xs.length=n
 room:n≤cap
 big:cap≤maxLen
 nil:a=none→n=0∧cap=0
 seg:n=0∨ ∃ b o,a=some ⟨b,o,none⟩∧b<w.heap.size∧Seg w b o xs
theorem Sl.at{w:World}{a:Option Addr}{n cap:Nat}{xs:List Value}(h:Sl w a n cap xs)(hn:0<n): ∃ b o,a=some ⟨b,o,none⟩∧b<w.heap.size∧Seg w b o xs:=h.seg.resolve_left (by omega)
abbrev Own(w:World)(base:Nat)(T:TypeId)(a:Option Addr)(n cap:Nat)(xs:List Value):Prop:=w.ownsRow base T 1 (.slice a n cap) n xs
theorem Own.sl{w:World}{base n cap:Nat}{T:TypeId}{a:Option Addr}{xs:List Value}(h:Own w base T a n cap xs):Sl w a n cap xs:=by
 obtain⟨hl,⟨h1,h2⟩|⟨g,cap',cur,hv,hb,hg,h1,h2,h3,h4⟩⟩:=h
 ·cases h1
  refine⟨by omega,Nat.le_refl _,Nat.zero_le _,fun _=>⟨rfl,rfl⟩,Or.inl rfl⟩
 ·cases hv
  refine⟨by omega,h1,h2,(by intro e;cases e),Or.inr ⟨g,0,rfl,(Array.getElem?_eq_some_iff.1 hg).1,?_⟩⟩
  intro j u hu
  have hj:j<n:=by
   have:=(List.getElem?_eq_some_iff.1 hu).1
   omega
  rw [←h4,Nat.mul_one,List.getElem?_take,if_pos hj]at hu
  refine⟨by simp [World.cell?,hg];simpa using hu,by simp [World.frozen?,hg]⟩
theorem Own.at{w:World}{base n cap:Nat}{T:TypeId}{a:Option Addr}{xs:List Value}(h:Own w base T a n cap xs)(hn:0<n): ∃ b,a=some ⟨b,0,none⟩∧b<w.heap.size∧base≤b∧Seg w b 0 xs:=by
 obtain⟨b,o,e,h1,h2⟩:=h.sl.at hn
 subst e
 obtain⟨hl,⟨h1',_⟩|⟨g,cap',cur,hv,hb',r⟩⟩:=h
 ·cases h1'
 ·cases hv
  exact⟨b,rfl,h1,hb',h2⟩
structure Keep(F:Nat→Prop)(w w':World):Prop where
 os:w'.os=w.os
 tape:w'.tape=w.tape
 output:w'.output=w.output
 size:w.heap.size≤w'.heap.size
 block: ∀ k,k<w.heap.size→ ¬F k→w'.heap[k]? =w.heap[k]?
theorem Keep.refl(F:Nat→Prop)(w:World):Keep F w w:=⟨rfl,rfl,rfl,Nat.le_refl _,fun _ _ _=>rfl⟩
theorem Keep.trans{F G:Nat→Prop}{a b c:World}(h:Keep F a b)(k:Keep G b c)(hG: ∀ i,G i→F i∨a.heap.size≤i):Keep F a c:=
 ⟨k.os.trans h.os,k.tape.trans h.tape,k.output.trans h.output,Nat.le_trans h.size k.size,fun i hi hF=>(k.block i (Nat.lt_of_lt_of_le hi h.size) (fun g=>(hG i g).elim hF (fun x=>by omega))).trans (h.block i hi hF)⟩
theorem Keep.of{F:Nat→Prop}{w w':World}(h:Below w.heap.size w w'):Keep F w w':=⟨h.os,h.tape,h.output,h.size,fun k hk _=>h.block k hk⟩
theorem Keep.to{F:Nat→Prop}{a b c:World}(h:Keep F a b)(k:Below b.heap.size b c):Keep F a c:=h.trans (Keep.of (F:=fun _=>False) k) (fun _ x=>x.elim)
theorem Keep.drew{F:Nat→Prop}{a w:World}(h:Keep F a w):Keep F a w.drew:=⟨h.os,h.tape,h.output,h.size,h.block⟩
theorem Keep.alloc{F:Nat→Prop}{a w:World}(h:Keep F a w)(o:Obj):Keep F a (w.alloc o):=h.to ((Below.refl _ _).alloc (Nat.le_refl _) o)
theorem Keep.set{F:Nat→Prop}{a w:World}(h:Keep F a w){p:Addr}(hp:F p.block∨a.heap.size≤p.block)(u:Value):Keep F a (w.setCell p u):=
 h.trans (G:=fun k=>k=p.block) ⟨rfl,rfl,rfl,by simp [World.setCell],fun k _ hk=>Below.heap_setCell _ _ _ _ hk⟩ (fun i hi=>by subst hi;exact hp)
theorem Keep.below{F:Nat→Prop}{w w':World}{B:Nat}(h:Keep F w w')(hB:B≤w.heap.size)(hF: ∀ k,F k→B≤k):Below B w w':=
 ⟨h.os,h.tape,h.output,h.size,fun k hk=>h.block k (by omega) (fun f=>by have:=hF k f;omega)⟩
theorem Row.keep{F:Nat→Prop}{w w':World}{b:Nat}{xs:List Value}(h:Row w b xs)(hk:Keep F w w')(hb:b<w.heap.size)(hF: ¬F b):Row w' b xs:=by
 intro j u hu
 rw [World.cell?_of_block (w:=w) (a:=⟨b,j,none⟩) (hk.block b hb hF),World.frozen?_of_block (w:=w) (a:=⟨b,j,none⟩) (hk.block b hb hF)]
 exact h j u hu
def Slot(a:Option Addr)(k:Nat):Prop:= ∃ o,a=some ⟨k,o,none⟩
theorem Own.keep{F:Nat→Prop}{w w':World}{base n cap:Nat}{T:TypeId}{a:Option Addr}{xs:List Value}(h:Own w base T a n cap xs)(hk:Keep F w w')(hF: ∀ k,Slot a k→ ¬F k):Own w' base T a n cap xs:=by
 obtain⟨hl,h1|⟨g,cap',cur,hv,hb',hg,r⟩⟩:=h
 ·exact⟨hl,Or.inl h1⟩
 ·refine⟨hl,Or.inr ⟨g,cap',cur,hv,hb',?_,r⟩⟩
  rw [hk.block g (Array.getElem?_eq_some_iff.1 hg).1 (hF g (by cases hv;exact⟨0,rfl⟩))]
  exact hg
theorem Own.lt{w:World}{base n cap:Nat}{T:TypeId}{a:Option Addr}{xs:List Value}(h:Own w base T a n cap xs){k:Nat}(hk:Slot a k):k<w.heap.size∧base≤k:=by
 obtain⟨o,rfl⟩:=hk
 obtain⟨hl,⟨h1,_⟩|⟨g,cap',cur,hv,hb',hg,r⟩⟩:=h
 ·cases h1
 ·cases hv
  exact⟨(Array.getElem?_eq_some_iff.1 hg).1,hb'⟩
theorem Row.lt{w:World}{b:Nat}{x:Value}{xs:List Value}(h:Row w b (x::xs)):b<w.heap.size:=by
 have h0:=(h 0 x rfl).1
 refine Nat.lt_of_not_le fun hle=>?_
 unfold World.cell? at h0
 rw [Array.getElem?_eq_none hle]at h0
 simp at h0
def ints(L:List Int):List Value:=L.map fun x=> .int .i64 x
theorem ints_length(L:List Int):(ints L).length=L.length:=by simp [ints]
theorem ints_at{L:List Int}{k:Nat}{x:Int}(h:L[k]? =some x):(ints L)[k]? =some (.int .i64 x):=by simp [ints,h]
theorem ints_append(L M:List Int):ints (L++M)=ints L++ints M:=by simp [ints]
theorem ints_one(L:List Int): ∀ v∈ints L,v.oneCell'=true:=by
 intro v hv
 simp only [ints,List.mem_map]at hv
 obtain⟨x,_,rfl⟩:=hv
 rfl
theorem own_none(w:World)(base:Nat)(T:TypeId):Own w base T none 0 0 []:=⟨rfl,Or.inl ⟨rfl,rfl⟩⟩
theorem info_of{P:Program}{t:TypeId}{z:Value}{s b:Nat}(h:(P.info? t).map (fun i=>(i.zero,i.size,i.bytes))=some (some z,s,b)): ∃ i,P.info? t=some i∧i.zero=some z∧i.size=s∧i.bytes=b:=by
 cases hi:P.info? t with
 |none=>rw [hi]at h;cases h
 |some i=>
  rw [hi]at h
  simp only [Option.map_some,Option.some.injEq,Prod.mk.injEq]at h
  exact⟨i,rfl,h.1,h.2.1,h.2.2⟩
abbrev OwnS(w:World)(base:Nat)(T:TypeId)(s:Nat)(a:Option Addr)(n cap:Nat)(xs:List Value):Prop:=w.ownsRow base T s (.slice a n cap) n xs
section
variable {w w' : World} {base n cap s : Nat} {T : TypeId} {a : Option Addr} {xs : List Value}
theorem OwnS.room(h:OwnS w base T s a n cap xs):n≤cap∧cap≤maxLen:=by
 obtain⟨hl,⟨h1,h2⟩|⟨g,cap',cur,hv,hb',hg,h1,h2,_⟩⟩:=h
 ·cases h1;exact⟨Nat.le_refl _,by unfold maxLen;omega⟩
 ·cases hv;exact⟨h1,h2⟩
theorem OwnS.none_of(h:OwnS w base T s none n cap xs):n=0∧cap=0∧xs= []:=by
 obtain⟨hl,⟨h1,h2⟩|⟨g,cap',cur,hv,_⟩⟩:=h
 ·cases h1;exact⟨rfl,rfl,List.eq_nil_of_length_eq_zero (by omega)⟩
 ·cases hv
end
section
variable {α : Type} {f : α → List Value}
end
end Go.Proofs.Ytliajdokamlnnaa
namespace Go.Proofs.Ytliajdokamlnnaa
open Go.RowKit Go.Shelf Go.Sort Go.Lib
set_option linter.unusedVariables false
def rIns:Ren where
 f:=fun|21=>25|27=>40|28=>41|35=>53|39=>61|n=>n
 t:=fun|0=>0|3=>3|4=>4|22=>58|n=>n
 g:=fun n=>n
theorem lIns:Lays2.n21 Try.prog rIns where
 mixed:=by kernel_rfl
 f21:=Try.func25.trans (congrArg some (by kernel_rfl))
 f27:=Try.func40.trans (congrArg some (by kernel_rfl))
 f28:=Try.func41.trans (congrArg some (by kernel_rfl))
 f35:=Try.func53.trans (congrArg some (by kernel_rfl))
 f39:=Try.func61.trans (congrArg some (by kernel_rfl))
 t0:=Try.underlying0
 a0:=Try.isAgg0
 z0:=Try.sizeOf0
 v0:=Try.zeroValue0
 t3:=Try.underlying3
 a3:=Try.isAgg3
 z3:=Try.sizeOf3
 v3:=Try.zeroValue3
 t4:=Try.underlying4
 a4:=Try.isAgg4
 z4:=Try.sizeOf4
 v4:=Try.zeroValue4
 t22:=Try.underlying58
 a22:=Try.isAgg58
 z22:=Try.sizeOf58
 v22:=Try.zeroValue58
 i3:=by kernel_rfl
def rSea:Ren where
 f:=fun|25=>23|31=>38|32=>39|37=>52|n=>n
 t:=fun|0=>0|3=>3|4=>4|22=>58|40=>81|n=>n
 g:=fun n=>n
theorem lSea:Lays2.n25 Try.prog rSea where
 mixed:=by kernel_rfl
 f25:=Try.func23.trans (congrArg some (by kernel_rfl))
 f31:=Try.func38.trans (congrArg some (by kernel_rfl))
 f32:=Try.func39.trans (congrArg some (by kernel_rfl))
 f37:=Try.func52.trans (congrArg some (by kernel_rfl))
 t0:=Try.underlying0
 a0:=Try.isAgg0
 z0:=Try.sizeOf0
 v0:=Try.zeroValue0
 t3:=Try.underlying3
 a3:=Try.isAgg3
 z3:=Try.sizeOf3
 v3:=Try.zeroValue3
 t4:=Try.underlying4
 a4:=Try.isAgg4
 z4:=Try.sizeOf4
 v4:=Try.zeroValue4
 t22:=Try.underlying58
 a22:=Try.isAgg58
 z22:=Try.sizeOf58
 v22:=Try.zeroValue58
 t40:=Try.underlying81
 a40:=Try.isAgg81
 z40:=Try.sizeOf81
 v40:=Try.zeroValue81
section
variable {w w' : World} {base n cap g : Nat} {T : TypeId} {xs : List Value} {f : Nat → Value}
theorem own_row(h:Own w base T (some ⟨g,0,none⟩) n cap xs):(∃ f,w.rowIs g T cap f∧ ∀ j u,xs[j]? =some u→f j=u)∧base≤g∧n≤cap∧cap≤maxLen∧xs.length=n:=by
 obtain⟨hl,⟨h1,_⟩|⟨g',cap',cur,hv,hb,hg,h1,h2,h3,h4⟩⟩:=h
 ·cases h1
 ·cases hv
  rw [Nat.mul_one]at h3 h4 hl
  refine⟨⟨fun j=>cur[j]?.getD default,⟨cur,hg,h3,fun i hi=>?_⟩,fun j u hu=>?_⟩,hb,h1,h2,hl⟩
  ·simp [Array.getElem?_eq_getElem (show i<cur.size by omega)]
  ·have hj:=(List.getElem?_eq_some_iff.1 hu).1
   rw [←h4,List.getElem?_take,if_pos (by omega),Array.getElem?_toList]at hu
   simp [hu]
theorem row_own(hb:base≤g)(hr:w.rowIs g T cap f)(hl:xs.length=n)(hn:n≤cap)(hc:cap≤maxLen)(hx: ∀ j u,xs[j]? =some u→f j=u):Own w base T (some ⟨g,0,none⟩) n cap xs:=by
 obtain⟨c,h1,h2,h3⟩:=hr
 refine⟨by omega,Or.inr ⟨g,cap,c,rfl,hb,h1,hn,hc,by omega,?_⟩⟩
 apply List.ext_getElem?
 intro j
 rw [List.getElem?_take,Nat.mul_one]
 by_cases hj:j<n
 ·rw [if_pos hj,Array.getElem?_toList,h3 j (by omega)]
  obtain⟨u,hu⟩: ∃ u,xs[j]? =some u:=⟨xs[j],List.getElem?_eq_getElem (by omega)⟩
  rw [hu,hx j u hu]
 ·rw [if_neg hj,List.getElem?_eq_none (by omega)]
theorem Keep.cells{F:Nat→Prop}{a:World}{b:Nat}(hb:F b∨a.heap.size≤b): ∀ (vs:List Value) (o:Nat) (w:World),Keep F a w→Keep F a (w.setCells b o vs)
 | [],_,_,h=>h
 |v::r,o,w,h=>Keep.cells hb r (o+1) _ (h.set (p:=⟨b,o,none⟩) hb v)
theorem slot_self{g:Nat}{o:Nat}:Slot (some ⟨g,o,none⟩) g:=⟨o,rfl⟩
theorem slot_one{g k:Nat}{o:Nat}(h:Slot (some ⟨g,o,none⟩) k):k=g:=by obtain⟨q,e⟩:=h;cases e;rfl
theorem slot_no{k:Nat}(h:Slot none k):False:=by obtain⟨q,e⟩:=h;cases e
end
def plc(xs:List Int)(v:Int):Nat:=xs.countP (· <v)
def insL(xs:List Int)(v:Int):List Int:=xs.take (plc xs v)++v::xs.drop (plc xs v)
theorem plc_le(xs:List Int)(v:Int):plc xs v≤xs.length:=List.countP_le_length
def GotIns(base:Nat)(a:Option Addr)(xs:List Int)(w:World)(e:Ending)(w':World):Prop:=
 ∃ a' c',e= .returned (.slice a' xs.length c')∧Own w' base 3 a' xs.length c' (ints xs)∧Keep (Slot a) w w'∧ ∀ k,Slot a' k→Slot a k∨w.heap.size≤k
theorem ints_get{L:List Int}{j:Nat}{u:Value}(h:(ints L)[j]? =some u): ∃ x,L[j]? =some x∧u= .int .i64 x:=by
 simp only [ints,List.getElem?_map,Option.map_eq_some_iff]at h
 obtain⟨x,h1,h2⟩:=h
 exact⟨x,h1,h2.symm⟩
theorem ins_at{xs:List Int}{i:Nat}{v:Int}(hi:i≤xs.length)(j:Nat):(xs.take i++v::xs.drop i)[j]? =if j<i then xs[j]? else if j=i then some v else xs[j- 1]? :=by
 by_cases h1:j<i
 ·rw [if_pos h1,List.getElem?_append_left (by simp;omega),List.getElem?_take,if_pos h1]
 ·rw [if_neg h1,List.getElem?_append_right (by simp;omega),List.length_take,Nat.min_eq_left hi]
  by_cases h2:j=i
  ·subst h2;simp
  ·rw [if_neg h2,show j- i=(j- i- 1)+1 by omega,List.getElem?_cons_succ,List.getElem?_drop]
   congr 1
   omega
theorem shape_of{w:World}{g cap:Nat}{T:TypeId}{f:Nat→Value}(h:w.rowIs g T cap f):w.shape? g=some (T,cap):=by
 obtain⟨c,h1,h2,_⟩:=h
 unfold World.shape?
 rw [h1,←h2]
set_option maxHeartbeats 1000000 in
theorem lbInsert(base:Nat)(a:Option Addr)(c i vb:Nat)(xs:List Int)(v:Int)(w:World)(h:Own w base 3 a xs.length c (ints xs))(hb:base≤w.heap.size)(hi:i≤xs.length)(hl:xs.length≤1000)
  (hv:w.rowIs vb 3 1 (fun _=> .int .i64 v)) (hvb: ¬Slot a vb):
  Calls Try.prog 25 #[.slice a xs.length c, .int .i64 i, .slice (some ⟨vb,0,none⟩) 1 1] w (GotIns base a (xs.take i++v::xs.drop i) w):=by
 have hlen:(xs.take i++v::xs.drop i).length=xs.length+1:=by simp;omega
 have hvs: ∀ (j:Nat) (u:Value), [Value.int .i64 v][j]? =some u→w.cell? ⟨vb,0+j,none⟩=some u:=by
  intro j u hu
  have hj:=(List.getElem?_eq_some_iff.1 hu).1
  simp at hj
  subst hj
  simp at hu
  rw [←hu]
  exact hv.cell (by omega)
 have h1v: ∀ u∈ [Value.int .i64 v],u.oneCell'=true:=by intro u hu;simp at hu;subst hu;rfl
 by_cases hroom:c<xs.length+1
 ·-- a new row
  have hge:=grownCap_ge w (xs.length+1) c 3
  have hle:=grownCap_le_maxLen w (xs.length+1) c 3 (by unfold maxLen;omega)
  by_cases he:i=xs.length
  ·subst he
   have hcs: ∀ ad,a=some ad→ ∀ (j:Nat) (u:Value),(ints xs)[j]? =some u→w.cell? (ad.add j)=some u:=by
    rintro ad rfl j u hu
    have hj:=(List.getElem?_eq_some_iff.1 hu).1
    rw [ints_length]at hj
    obtain⟨b,e,_,_,hs⟩:=h.at (by omega)
    cases e
    rw [Addr.add_lit]
    exact(hs.cell j u hu)
   have hc:=Any2.slices_Insert_int_end_grow lIns a xs.length c vb 0 1 1 (ints xs) [.int .i64 v] w (by omega) (by have:=OwnS.room h;omega) hroom (by omega) (ints_length _) rfl (fun e=>by subst e;exact(OwnS.none_of h).1) hcs hvs h1v
   refine hc.mono ?_
   rintro e w' ⟨rfl,rfl⟩
   refine⟨some ⟨w.heap.size,0,none⟩,grownCap w (xs.length+1) c 3,by rw [hlen];rfl,?_,(Keep.refl _ _).drew.alloc _,fun k hk=>Or.inr (Nat.le_of_eq (slot_one hk).symm)⟩
   rw [hlen]
   have hcz:((ints xs++ [Value.int .i64 v]).toArray++Builtin.zeroCells (Value.int .i64 0).cells (grownCap w (xs.length+1) c 3- (xs.length+1))).size=grownCap w (xs.length+1) c 3:=by
    rw [Array.size_append,size_zeroCells]
    simp [ints_length,Value.cells]
    omega
   have hr:=World.rowIs_alloc w.drew ((ints xs++ [Value.int .i64 v]).toArray++Builtin.zeroCells (Value.int .i64 0).cells (grownCap w (xs.length+1) c 3- (xs.length+1))) 3 (fun j=>(((ints xs++ [Value.int .i64 v]).toArray++Builtin.zeroCells (Value.int .i64 0).cells (grownCap w (xs.length+1) c 3- (xs.length+1)))[j]?).getD default) (fun j hj=>by rw [Array.getElem?_eq_getElem hj];rfl)
   rw [hcz]at hr
   refine row_own hb hr (by rw [ints_length,hlen]) hge hle ?_
   intro j u hu
   have hj:=(List.getElem?_eq_some_iff.1 hu).1
   rw [ints_length,hlen]at hj
   have e1:ints xs++ [Value.int .i64 v]=ints (List.take xs.length xs++v::List.drop xs.length xs):=by rw [List.take_length,List.drop_length,ints_append];rfl
   try dsimp only
   rw [e1,Array.getElem?_append_left (by simp [ints_length];omega),List.getElem?_toArray,hu]
   rfl
  ·have hil:i<xs.length:=by omega
   obtain⟨b,ea,hbl,hbb,hs⟩:=h.at (by omega)
   subst ea
   have hc:=Any2.slices_Insert_int_grow lIns b 0 xs.length c i vb 0 1 1 (ints xs) [.int .i64 v] w hil (by omega) (by have:=OwnS.room h;omega) hroom (by omega) (ints_length _) rfl (fun j u hu=>hs.cell j u hu) hvs (ints_one _) h1v
   refine hc.mono ?_
   rintro e w' ⟨rfl,rfl⟩
   have hr0:=World.rowIs_alloc w ((List.take i (ints xs)).toArray++Builtin.zeroCells (Value.int .i64 0).cells (xs.length+1- i)++Builtin.zeroCells (Value.int .i64 0).cells (grownCap w (xs.length+1) c 3- (xs.length+1))) 3 (fun j=>((((List.take i (ints xs)).toArray++Builtin.zeroCells (Value.int .i64 0).cells (xs.length+1- i)++Builtin.zeroCells (Value.int .i64 0).cells (grownCap w (xs.length+1) c 3- (xs.length+1))))[j]?).getD default) (fun j hj=>by rw [Array.getElem?_eq_getElem hj];rfl)
   have hcz:((List.take i (ints xs)).toArray++Builtin.zeroCells (Value.int .i64 0).cells (xs.length+1- i)++Builtin.zeroCells (Value.int .i64 0).cells (grownCap w (xs.length+1) c 3- (xs.length+1))).size=grownCap w (xs.length+1) c 3:=by
    rw [Array.size_append,Array.size_append,size_zeroCells,size_zeroCells]
    simp [ints_length,Value.cells]
    omega
   rw [hcz]at hr0
   have hr1:=rowIs_setCells [.int .i64 v] i _ _ hr0.drew
   have hr2:=rowIs_setCells (List.drop i (ints xs)) (i+1) _ _ hr1.drew
   refine⟨some ⟨w.heap.size,0,none⟩,grownCap w (xs.length+1) c 3,by rw [hlen];rfl,?_,Keep.cells (Or.inr (Nat.le_refl _)) _ _ _ (Keep.cells (Or.inr (Nat.le_refl _)) _ _ _ ((Keep.refl _ _).alloc _).drew).drew,fun k hk=>Or.inr (Nat.le_of_eq (slot_one hk).symm)⟩
   rw [hlen]
   refine row_own hb hr2 (by rw [ints_length,hlen]) hge hle ?_
   intro j u hu
   obtain⟨x,hx,rfl⟩:=ints_get hu
   rw [ins_at hi]at hx
   have hj:=(List.getElem?_eq_some_iff.1 hu).1
   rw [ints_length,hlen]at hj
   try dsimp only
   by_cases h1:j<i
   ·rw [if_pos h1]at hx
    rw [if_neg (by omega),if_neg (by omega),Array.getElem?_append_left (by simp [ints_length,size_zeroCells];omega),Array.getElem?_append_left (by simp [ints_length];omega),List.getElem?_toArray,List.getElem?_take,if_pos h1,ints_at hx]
    rfl
   ·rw [if_neg h1]at hx
    by_cases h2:j=i
    ·subst h2
     rw [if_pos rfl]at hx
     rw [if_neg (by omega),if_pos (by simp)]
     simpa using hx
    ·rw [if_neg h2]at hx
     rw [if_pos (by simp [ints_length];omega),List.getElem?_drop,show i+(j- (i+1))=j- 1 by omega,ints_at hx]
     rfl
 ·-- there is room
  obtain⟨b,ea⟩: ∃ b,a=some ⟨b,0,none⟩:=by
   obtain⟨_,⟨h1,h2⟩|⟨g,cap',cur,h1,_⟩⟩:=h
   ·simp only [Value.slice.injEq]at h1;exact absurd (by omega) hroom
   ·cases h1;exact⟨g,rfl⟩
  subst ea
  obtain⟨⟨f,hr,hf⟩,hbb,hn,hm,_⟩:=own_row h
  have hneb:vb≠b:=fun e=>hvb (e▸slot_self)
  by_cases he:i=xs.length
  ·subst he
   have hc:=Any2.slices_Insert_int_end_room lIns b 0 xs.length c vb 0 1 1 [.int .i64 v] w (by omega) (by omega) (by unfold maxLen at hm;omega) rfl (fun j hj=>by rw [hr.cell (by omega)];rfl) (fun j hj=>hr.frozen _) hvs h1v
   refine hc.mono ?_
   rintro e w' ⟨rfl,rfl⟩
   refine⟨_,c,by rw [hlen],?_,Keep.cells (Or.inl slot_self) _ _ _ (Keep.refl _ _),fun k hk=>Or.inl hk⟩
   rw [hlen]
   refine row_own hbb (rowIs_setCells [.int .i64 v] (0+xs.length) _ _ hr) (by rw [ints_length,hlen]) (by omega) hm ?_
   intro j u hu
   obtain⟨x,hx,rfl⟩:=ints_get hu
   rw [ins_at hi]at hx
   have hj:=(List.getElem?_eq_some_iff.1 hu).1
   rw [ints_length,hlen]at hj
   try dsimp only
   by_cases h1:j<xs.length
   ·rw [if_pos h1]at hx
    rw [if_neg (by omega)]
    exact hf j _ (ints_at hx)
   ·obtain rfl:j=xs.length:=by omega
    rw [if_neg h1,if_pos rfl]at hx
    rw [if_pos (by simp)]
    simpa using hx
  ·have hil:i<xs.length:=by omega
   have hc:=Any2.slices_Insert_int_shift lIns b 0 xs.length c i vb 0 1 1 (ints xs) [.int .i64 v] w hil (by omega) (by omega) (by unfold maxLen at hm;omega) hneb (ints_length _) rfl
    (fun j u hu=>by rw [Nat.zero_add,hr.cell (by have:=(List.getElem?_eq_some_iff.1 hu).1;rw [ints_length]at this;omega),hf j u hu]) (fun j hj=>by rw [Nat.zero_add,hr.cell (by omega)];rfl) (fun j hj=>hr.frozen _) hvs (ints_one _) h1v
    3 3 1 c (shape_of hv) (shape_of hr) (by omega) (hv.frozen _) (hv.frozen _)
   refine hc.mono ?_
   rintro e w' ⟨rfl,rfl⟩
   refine⟨_,c,by rw [hlen],?_,Keep.cells (Or.inl slot_self) _ _ _ (Keep.cells (Or.inl slot_self) _ _ _ (Keep.refl _ _).drew),fun k hk=>Or.inl hk⟩
   rw [hlen]
   refine row_own hbb (rowIs_setCells [.int .i64 v] (0+i) _ _ (rowIs_setCells (List.drop i (ints xs)) (0+(i+1)) _ _ hr.drew)) (by rw [ints_length,hlen]) (by omega) hm ?_
   intro j u hu
   obtain⟨x,hx,rfl⟩:=ints_get hu
   rw [ins_at hi]at hx
   have hj:=(List.getElem?_eq_some_iff.1 hu).1
   rw [ints_length,hlen]at hj
   try dsimp only
   by_cases h1:j<i
   ·rw [if_pos h1]at hx
    rw [if_neg (by omega),if_neg (by omega)]
    exact hf j _ (ints_at hx)
   ·rw [if_neg h1]at hx
    by_cases h2:j=i
    ·subst h2
     rw [if_pos rfl]at hx
     rw [if_pos (by simp)]
     simpa using hx
    ·rw [if_neg h2]at hx
     rw [if_neg (by simp;omega),if_pos (by simp [ints_length];omega),List.getElem?_drop,show i+(j- (0+(i+1)))=j- 1 by omega,ints_at hx]
     rfl
theorem lbSearch(base:Nat)(a:Option Addr)(c:Nat)(xs:List Int)(v:Int)(w:World)(h:Own w base 3 a xs.length c (ints xs))(hl:xs.length≤1000)(hs:xs.Pairwise (· ≤ ·)):
  Calls Try.prog 23 #[.slice a xs.length c, .int .i64 v] w fun e w'=>e= .returned (.tuple #[.int .i64 (plc xs v:Nat), .bool (xs.contains v)])∧ ∃ q,w'=w.drewN q:=by
 cases a with
 |none=>
  obtain⟨h1,h2,h3⟩:=OwnS.none_of h
  obtain rfl:xs= []:=List.eq_nil_of_length_eq_zero h1
  refine(Any.slices_BinarySearch_int_empty lSea none c v w).mono ?_
  rintro e w' ⟨rfl,rfl⟩
  exact⟨rfl,0,rfl⟩
 |some ad=>
  obtain⟨b,rfl⟩: ∃ b,ad=⟨b,0,none⟩:=by
   obtain⟨_,⟨h1,h2⟩|⟨g,cap',cur,h1,_⟩⟩:=h
   ·cases h1
   ·cases h1;exact⟨g,rfl⟩
  obtain⟨⟨f,hr,hf⟩,hbb,hn,hm,_⟩:=own_row h
  have hc:=Any.slices_BinarySearch_int lSea b 0 xs.length c xs v w (Nat.le_refl _) (by omega) (fun j hj=>by
   have hg:xs[j]? =some xs[j]:=List.getElem?_eq_getElem hj
   rw [Nat.zero_add,hr.cell (by omega),hf j _ (ints_at hg)]
   simp [List.getD,hg]) (by rw [List.take_length];exact hs)
  rw [List.take_length]at hc
  exact hc
end Go.Proofs.Ytliajdokamlnnaa
namespace Go.Proofs.Ytliajdokamlnnaa
open Go.RowKit
set_option linter.unusedVariables false
theorem Below.to{w w':World}(h:w.grownBy w' none):Below w.heap.size w w':=(Below.refl _ w).grown h (Nat.le_refl _) (fun k e=>by cases e)
theorem make_any{P:Program}(w:World){ops:Array Oper}{rest:List Oper}{o:Oper}{a:Act}{Q:Exit→Act→World→Prop}
  (hg:o.guard=none) (l c:Operand) (t:TypeId) (hop:o.op=Op.makeSlice t l c)
  (base:Nat) (e:TypeId) (i:TypeInfo) (z:Value) (h1:P.underlying t=some (.slice e)) (h2:P.info? e=some i) (h3:i.zero=some z) (h4:i.size=1) (hz:z.cells= #[z])
  (kl kc:IntKind) (L C:Int) (n:Nat) (hl:a.eval l= .int kl L) (hc:a.eval c= .int kc C) (hL:L=(n:Int)) (hC:C=(n:Int)) (b2:i.bytes*n≤281474976710656) (b3:n≤maxLen) (b4:base≤w.heap.size)
  (hK: ∀ w',Own w' base e (some ⟨w.heap.size,0,none⟩) n n (List.replicate n z)→Below w.heap.size w w'→wpList P ops Q rest (a.put o.dst (.slice (some ⟨w.heap.size,0,none⟩) n n)) w'):
  wpList P ops Q (o::rest) a w:=by
 refine wpList_make_full w hg l c t hop base e i z 1 h1 h2 h3 h4 kl kc L C n hl hc hL hC b2 b3 b4 ?_
 intro w' h hgr
 rw [hz,Nat.mul_one,toList_madeCells_one]at h
 exact hK w' h (Below.to hgr)
end Go.Proofs.Ytliajdokamlnnaa
namespace Go.Proofs.Ytliajdokamlnnaa.hf
open Go.RowKit
def dg(v:Int)(i:Nat):Int:=v/65536^i % 65536
def dcells(n:Nat)(v:Int):List Value:=(List.range n).map fun j=> .int .i64 (dg v j)
end Go.Proofs.Ytliajdokamlnnaa.hf
namespace Go.Proofs.Ytliajdokamlnnaa.hf
open Go.RowKit
set_option linter.unusedVariables false
def nlen(v:Nat):Nat:=if h:v=0 then 0 else nlen (v/65536)+1
 termination_by v
 decreasing_by exact Nat.div_lt_self (Nat.pos_of_ne_zero h) (by decide)
end Go.Proofs.Ytliajdokamlnnaa.hf
namespace Go.Proofs.Ytliajdokamlnnaa
variable {P : Program} {md : Region.Mode} {Q : Exit → Act → World → Prop} {S : World → Prop}
theorem ps1{α:Type _}{xs:List α}{i:Nat}{a:α}:xs.toArray.setIfInBounds i a=(xs.set i a).toArray:=List.setIfInBounds_toArray ..
theorem ps2{α:Type _}{x:α}{xs:List α}{a:α}:(x::xs).set 0 a=a::xs:=List.set_cons_zero
theorem ps3{α:Type _}{x:α}{xs:List α}{n:Nat}{a:α}:(x::xs).set (n+1) a=x::xs.set n a:=List.set_cons_succ
theorem take_yes{l:List Oper}{i:Nat}{oi:Oper}{v:Value}{fuel:Nat}{listed:Array Bool}{a:Act}{w:World}(hi:l[i]? =some oi)
  (hs:Region.noSelect l.toArray=true) (hf:Region.free md l.toArray listed i=true) (hr:(Region.ready md l.toArray listed).contains i=true)
  (hQ: ∀ c a w,Q (.panic c) (a.put oi.dst v) w→Q (.panic c) a w) (hw:Region.wanted oi (yielded l.toArray a.tmps)=true) (hS:S w)
  (hy: ∀ w,S w→(execOp a.eval oi).run P w= .ok (.value v) w)
  (h:wpAnyH P md l.toArray Q S fuel (listed.setIfInBounds i true) (a.put oi.dst v) w):wpAnyH P md l.toArray Q S (fuel+1) listed a w:=
 wpAnyH_take (by simpa using hi) hs hf hr hQ (Or.inl ⟨hw,hy⟩) hS h
theorem tn(i:Nat){l:List Oper}{oi:Oper}{v:Value}{fuel:Nat}{listed:Array Bool}{a:Act}{w:World}(h:wpAnyH P md l.toArray Q S fuel (listed.setIfInBounds i true) (a.put oi.dst v) w)(hi:l[i]? =some oi:=by rfl)
  (hy: ∀ w,S w→(execOp a.eval oi).run P w= .ok (.value v) w:=by(intro w hSw;(try dsimp only at hSw);go_simp<;>with_reducible rfl))
  (hs:Region.noSelect l.toArray=true:=by kernel_rfl) (hf:Region.free md l.toArray listed i=true:=by kernel_rfl) (hr:(Region.ready md l.toArray listed).contains i=true:=by kernel_rfl)
  (hQ: ∀ c a w,Q (.panic c) (a.put oi.dst v) w→Q (.panic c) a w:=by exact fun _ _ _ h=>h) (hw:Region.wanted oi (yielded l.toArray a.tmps)=true:=by rfl) (hS:S w:=by assumption):wpAnyH P md l.toArray Q S (fuel+1) listed a w:=
 take_yes hi hs hf hr hQ hw hS hy h
theorem tQ(i:Nat){l:List Oper}{oi:Oper}{v:Value}{fuel:Nat}{listed:Array Bool}{a:Go.Act}{w:World}(h:wpAnyH P md l.toArray Q S fuel (listed.setIfInBounds i true) (a.put oi.dst v) w)(hi:l[i]? =some oi:=by rfl)
  (hQ: ∀ c a w,Q (.panic c) (a.put oi.dst v) w→Q (.panic c) a w:=by(intro _ _ _ h;rw [HQQ.out]at h;exact Exit.noConfusion h.1))
  (hy: ∀ w,S w→(execOp a.eval oi).run P w= .ok (.value v) w:=by(intro w hSw;(try dsimp only at hSw);go_simp<;>with_reducible rfl))
  (hs:Region.noSelect l.toArray=true:=by kernel_rfl) (hf:Region.free md l.toArray listed i=true:=by kernel_rfl) (hr:(Region.ready md l.toArray listed).contains i=true:=by kernel_rfl)
  (hw:Region.wanted oi (yielded l.toArray a.tmps)=true:=by rfl) (hS:S w:=by assumption):wpAnyH P md l.toArray Q S (fuel+1) listed a w:=
 take_yes hi hs hf hr hQ hw hS hy h
theorem take_call{l:List Oper}{i:Nat}{o:Oper}{fuel:Nat}{listed:Array Bool}{a:Act}{w:World}(ho:l[i]? =some o)(hr:Region.ready md l.toArray listed= [i])
  (h: ∀ K':Act→World→Prop,Shut (∀ a w,S w→(S w→wpAnyH P md l.toArray Q S fuel (listed.setIfInBounds i true) a w)→K' a w)→if Region.wanted o (yielded l.toArray a.tmps)=true then Oper.wp P o a w K' Q else K' (a.put o.dst undef) w):
  wpAnyH P md l.toArray Q S (fuel+1) listed a w:=
 wpAnyH_ready hr (by simp) (AllReadyH.cons (by simpa using ho) h AllReadyH.nil)
theorem tcl(i:Nat){l:List Oper}{o:Oper}{fuel:Nat}{listed:Array Bool}{a:Go.Act}{w:World}
  (h: ∀ K':Go.Act→World→Prop,Shut (∀ a w,S w→(S w→wpAnyH P md l.toArray Q S fuel (listed.setIfInBounds i true) a w)→K' a w)→if Region.wanted o (yielded l.toArray a.tmps)=true then Oper.wp P o a w K' Q else K' (a.put o.dst undef) w)
  (ho:l[i]? =some o:=by rfl) (hr:Region.ready md l.toArray listed= [i]:=by kernel_rfl):wpAnyH P md l.toArray Q S (fuel+1) listed a w:=
 take_call ho hr h
end Go.Proofs.Ytliajdokamlnnaa
namespace Go.Proofs.Ytliajdokamlnnaa
open Go.RowKit
set_option linter.unusedVariables false
theorem cell_on{w w':World}{p:Addr}{v:Value}(hb:Below w.heap.size w w')(h:w.cell? p=some v):w'.cell? p=some v:=by
 refine(hb.cell (p:=p) ?_).trans h
 refine Nat.lt_of_not_le fun hle=>?_
 unfold World.cell? at h
 rw [Array.getElem?_eq_none hle]at h
 simp at h
theorem free_on{w w':World}{p:Addr}{v:Value}{f:Bool}(hb:Below w.heap.size w w')(h:w.cell? p=some v)(hf:w.frozen? p=f):w'.frozen? p=f:=by
 refine(hb.frozen (p:=p) ?_).trans hf
 refine Nat.lt_of_not_le fun hle=>?_
 unfold World.cell? at h
 rw [Array.getElem?_eq_none hle]at h
 simp at h
structure Bx(w:World)(b:Nat)(x y:Value):Prop where
 c0:w.cell? ⟨b,0,none⟩=some x
 c1:w.cell? ⟨b,1,none⟩=some y
 f0:w.frozen? ⟨b,0,none⟩=false
 f1:w.frozen? ⟨b,1,none⟩=false
theorem Bx.on{w w':World}{b:Nat}{x y:Value}(h:Bx w b x y)(hb:Below w.heap.size w w'):Bx w' b x y:=⟨cell_on hb h.c0,cell_on hb h.c1,free_on hb h.c0 h.f0,free_on hb h.c1 h.f1⟩
theorem bx_new(w:World)(x y:Value)(t:TypeId):Bx (w.alloc (.cells #[x,y] t)) w.heap.size x y:=by
 have h:=Row.new w [x,y] t
 exact⟨h.cell 0 _ rfl,h.cell 1 _ rfl,h.free 0 (by simp),h.free 1 (by simp)⟩
theorem below_put2{B b:Nat}{w w':World}(h:Below B w w')(hb:B≤b)(u v:Value):Below B w ((w'.setCell ⟨b,0,none⟩ u).setCell ⟨b,1,none⟩ v):=(h.setCell hb _).setCell hb _
theorem also{w w1 w2:World}(h:Below w.heap.size w w1)(k:Below w1.heap.size w1 w2):Below w.heap.size w w2:=h.trans (k.mono h.size)
theorem bd_i64{x:Int}(h:(Lit.int .i64 x).wf=true): -9223372036854775808≤x∧x≤9223372036854775807:=by
 simp [Lit.wf,IntKind.min,IntKind.max,IntKind.signed,IntKind.bits]at h
 exact⟨by omega,by omega⟩
def inC(c:Int):Bool:=decide (-1099511627776≤c∧c≤1099511627776)
def sideC(s:Int):Bool:=decide (1≤s∧s≤1099511627776)
def canC(x y:Int):Bool:=inC x && inC y
def homeC(x y s:Int):Bool:=sideC s && canC x y
theorem inC_true{c:Int}:inC c=true↔(-1099511627776≤c∧c≤1099511627776):=by unfold inC;exact decide_eq_true_iff
theorem sideC_true{s:Int}:sideC s=true↔(1≤s∧s≤1099511627776):=by unfold sideC;exact decide_eq_true_iff
theorem canC_true{x y:Int}:canC x y=true↔(inC x=true∧inC y=true):=by unfold canC;exact Bool.and_eq_true_iff
theorem wrap_in{x:Int}(h1: -9223372036854775808≤x)(h2:x≤9223372036854775807):wrap64 x=x:=by unfold wrap64;omega
theorem fold_neg{c s:Int}(hs:0<s)(h:c.tmod s<0):c.tmod s+s=c % s∧c.tdiv s- 1=c/s:=by
 have e:=Int.mul_tdiv_add_tmod c s
 have l:=Int.lt_tmod_of_pos c hs
 have u:(c.tdiv s- 1)=c/s:=by
  refine((Int.ediv_emod_unique hs (a:=c) (r:=c.tmod s+s) (q:=c.tdiv s- 1)).2 ⟨?_,by omega,by omega⟩).1.symm
  rw [Int.mul_sub,Int.mul_one];omega
 refine⟨?_,u⟩
 exact((Int.ediv_emod_unique hs (a:=c) (r:=c.tmod s+s) (q:=c.tdiv s- 1)).2 ⟨by rw [Int.mul_sub,Int.mul_one];omega,by omega,by omega⟩).2.symm
theorem fold_pos{c s:Int}(hs:0<s)(h: ¬c.tmod s<0):c.tmod s=c % s∧c.tdiv s=c/s:=by
 have e:=Int.mul_tdiv_add_tmod c s
 have l:=Int.tmod_lt_of_pos c hs
 have:=(Int.ediv_emod_unique hs (a:=c) (r:=c.tmod s) (q:=c.tdiv s)).2 ⟨by omega,by omega,by omega⟩
 exact⟨this.2.symm,this.1.symm⟩
theorem bs_2(w:World)(x00 x01:Value)(t0:TypeId): ∃ W,W=(w.alloc (.cells #[x00,x01] t0))∧Below w.heap.size w W∧Bx W (w.heap.size) x00 x01∧w.heap.size<W.heap.size:=by
 have e0:Below w.heap.size w (w.alloc (.cells #[x00,x01] t0)):=(Below.refl _ _).alloc (Nat.le_refl _) _
 have h0:=bx_new w x00 x01 t0
 exact⟨_,rfl,e0,h0,by simp⟩
theorem bs_222(w:World)(x00 x01 x10 x11 x20 x21:Value)(t0 t1 t2:TypeId): ∃ W,W=(((w.alloc (.cells #[x00,x01] t0)).alloc (.cells #[x10,x11] t1)).alloc (.cells #[x20,x21] t2))∧Below w.heap.size w W∧Bx W (w.heap.size) x00 x01∧Bx W (w.heap.size+1) x10 x11∧Bx W (w.heap.size+1+1) x20 x21∧w.heap.size+1+1<W.heap.size:=by
 have e0:Below w.heap.size w (w.alloc (.cells #[x00,x01] t0)):=(Below.refl _ _).alloc (Nat.le_refl _) _
 have h0:=bx_new w x00 x01 t0
 have e1:Below (w.alloc (.cells #[x00,x01] t0)).heap.size (w.alloc (.cells #[x00,x01] t0)) ((w.alloc (.cells #[x00,x01] t0)).alloc (.cells #[x10,x11] t1)):=(Below.refl _ _).alloc (Nat.le_refl _) _
 have h1:=bx_new (w.alloc (.cells #[x00,x01] t0)) x10 x11 t1
 rw [World.size_alloc]at h1
 have e2:Below ((w.alloc (.cells #[x00,x01] t0)).alloc (.cells #[x10,x11] t1)).heap.size ((w.alloc (.cells #[x00,x01] t0)).alloc (.cells #[x10,x11] t1)) (((w.alloc (.cells #[x00,x01] t0)).alloc (.cells #[x10,x11] t1)).alloc (.cells #[x20,x21] t2)):=(Below.refl _ _).alloc (Nat.le_refl _) _
 have h2:=bx_new ((w.alloc (.cells #[x00,x01] t0)).alloc (.cells #[x10,x11] t1)) x20 x21 t2
 rw [World.size_alloc,World.size_alloc]at h2
 exact⟨_,rfl,also (also (e0) e1) e2,((h0.on e1).on e2),(h1.on e2),h2,by simp⟩
theorem lCoord(c:Int)(w:World){b:Bool}(hb:b=inC c):Calls Try.prog 44 #[.int .i64 c] w fun e w'=>e= .returned (.bool b)∧Below w.heap.size w w':=by
 subst hb
 unfold inC
 go_enter Try.func44,Try.ntmps44
 go_wp2
 all_goals (go_ret;exact⟨by simp;omega,Below.refl _ _⟩)
theorem lSide(c:Int)(w:World){b:Bool}(hb:b=sideC c):Calls Try.prog 31 #[.int .i64 c] w fun e w'=>e= .returned (.bool b)∧Below w.heap.size w w':=by
 subst hb
 unfold sideC
 go_enter Try.func31,Try.ntmps31
 go_wp2
 all_goals (go_ret;exact⟨by simp;omega,Below.refl _ _⟩)
theorem fold_bound{c s:Int}(hs:sideC s=true)(hc:inC c=true): -1099511627776≤c/s∧c/s≤1099511627776∧0≤c % s∧c % s<s∧s≤1099511627776:=by
 obtain⟨s1,s2⟩:=sideC_true.1 hs
 obtain⟨c1,c2⟩:=inC_true.1 hc
 refine⟨(Int.le_ediv_iff_mul_le (by omega)).2 (by omega),?_,Int.emod_nonneg _ (by omega),Int.emod_lt_of_pos _ (by omega),s2⟩
 have:c/s<1099511627777:=(Int.ediv_lt_iff_lt_mul (by omega)).2 (by omega)
 omega
theorem lFold(c s:Int)(w:World)(hs:sideC s=true)(hc:inC c=true){u v:Int}(hu:u=c % s)(hv:v=c/s):Calls Try.prog 32 #[.int .i64 c, .int .i64 s] w fun e w'=>e= .returned (.tuple #[.int .i64 u, .int .i64 v])∧Below w.heap.size w w':=by
 obtain⟨d1,d2,m1,m2,s2⟩:=fold_bound hs hc
 obtain⟨s1,_⟩:=sideC_true.1 hs
 have hs0: ¬s=0:=by omega
 rw [←hu]at m1 m2
 rw [←hv]at d1 d2
 by_cases h:c.tmod s<0
 ·obtain⟨e1,e2⟩:=fold_neg (by omega) h
  rw [←hu]at e1
  rw [←hv]at e2
  clear hu hv hs hc
  generalize hm:c.tmod s=m at h e1
  generalize hq:c.tdiv s=q at e2
  have hw1:wrap64 q=q:=wrap_in (by omega) (by omega)
  have hw2:wrap64 (m+s)=u:=by rw [wrap_in (by omega) (by omega)];exact e1
  have hw3:wrap64 (q- 1)=v:=by rw [wrap_in (by omega) (by omega)];exact e2
  clear e1 e2 m1 m2 d1 d2
  go_enter Try.func32,Try.ntmps32
  go_wp2
  go_region
  go_wp2
  exact bodyPost_ret (v:= .tuple #[.int .i64 u, .int .i64 v]) (by simp [results,Try.results32,go_sem, *]) rfl ⟨rfl,(Below.refl _ _).drew⟩
 ·obtain⟨e1,e2⟩:=fold_pos (by omega) h
  rw [←hu]at e1
  rw [←hv]at e2
  clear hu hv hs hc
  rw [e1]at h
  have hw1:wrap64 v=v:=wrap_in (by omega) (by omega)
  clear m1 m2 d1 d2
  go_enter Try.func32,Try.ntmps32
  go_wp2
  go_region
  go_wp2
  exact bodyPost_ret (v:= .tuple #[.int .i64 u, .int .i64 v]) (by simp [results,Try.results32,go_sem, *]) rfl ⟨rfl,(Below.refl _ _).drew⟩
set_option maxRecDepth 100000 in
theorem lCan(x y:Int)(w:World){b:Bool}(hb:b=canC x y):Calls Try.prog 30 #[.agg #[.int .i64 x, .int .i64 y]] w fun e w'=>e= .returned (.bool b)∧Below w.heap.size w w':=by
 subst hb
 unfold canC
 cases hx:inC x
 ·skip
  obtain⟨W,hW,bW,x_p,sW⟩:=bs_2 w (.int .i64 x) (.int .i64 y) 23
  have zbW:=bW.size
  have BB:=bW
  go_enter Try.func30,Try.ntmps30
  go_wp2_with (go_at_call 44;fail)
  rw [←hW]
  clear hW
  refine(lCoord x W hx.symm).mono ?_
  rintro e w1 ⟨rfl,bw1⟩
  have zbw1:=bw1.size
  replace BB:=also BB bw1
  replace x_p:=x_p.on bw1
  have⟨x_p_0,x_p_1,x_p_2,x_p_3⟩:=x_p
  go_wp2
  go_ret
  exact⟨by simp,BB⟩
 ·skip
  obtain⟨W,hW,bW,x_p,sW⟩:=bs_2 w (.int .i64 x) (.int .i64 y) 23
  have zbW:=bW.size
  have BB:=bW
  go_enter Try.func30,Try.ntmps30
  go_wp2_with (go_at_call 44;fail)
  rw [←hW]
  clear hW
  refine(lCoord x W hx.symm).mono ?_
  rintro e w1 ⟨rfl,bw1⟩
  have zbw1:=bw1.size
  replace BB:=also BB bw1
  replace x_p:=x_p.on bw1
  have⟨x_p_0,x_p_1,x_p_2,x_p_3⟩:=x_p
  go_wp2_with (go_at_call 44;fail)
  refine(lCoord y w1 rfl).mono ?_
  rintro e w2 ⟨rfl,bw2⟩
  clear x_p_0 x_p_1 x_p_2 x_p_3
  have zbw2:=bw2.size
  replace BB:=also BB bw2
  replace x_p:=x_p.on bw2
  go_wp2
  go_ret
  exact⟨by simp,BB⟩
theorem home_no_can{x y s:Int}(h:canC x y=false):homeC x y s=false:=by unfold homeC;rw [h];simp
theorem home_no_side{x y s:Int}(h:sideC s=false):homeC x y s=false:=by unfold homeC;rw [h];rfl
set_option maxRecDepth 100000 in
set_option maxHeartbeats 4000000 in
theorem lHome(x y s:Int)(w:World){a c p q:Int}{b:Bool}(hb:b=homeC x y s)(ha:a=if b then x % s else 0)(hc':c=if b then y % s else 0)(hp:p=if b then x/s else 0)(hq:q=if b then y/s else 0):
  Calls Try.prog 19 #[.agg #[.int .i64 x, .int .i64 y], .int .i64 s] w fun e w'=>e= .returned (.tuple #[.agg #[.int .i64 a, .int .i64 c], .agg #[.int .i64 p, .int .i64 q], .bool b])∧Below w.heap.size w w':=by
 cases hc:canC x y
 ·skip
  have h0:=@home_no_can x y s hc
  obtain rfl:b=false:=by rw [hb,h0]
  obtain rfl:a=0:=ha
  obtain rfl:c=0:=hc'
  obtain rfl:p=0:=hp
  obtain rfl:q=0:=hq
  clear hb h0
  obtain⟨W,hW,bW,x_p,x_z,x_t,sW⟩:=bs_222 w (.int .i64 x) (.int .i64 y) (.int .i64 0) (.int .i64 0) (.int .i64 0) (.int .i64 0) 23 23 50
  have zbW:=bW.size
  have BB:=bW
  go_enter Try.func19,Try.ntmps19
  go_wp2_with (go_at_call 30;fail)
  rw [←hW]
  clear hW
  refine(lCan x y W hc.symm).mono ?_
  rintro e w1 ⟨rfl,bw1⟩
  have zbw1:=bw1.size
  replace BB:=also BB bw1
  replace x_p:=x_p.on bw1
  replace x_z:=x_z.on bw1
  replace x_t:=x_t.on bw1
  have⟨x_p_0,x_p_1,x_p_2,x_p_3⟩:=x_p
  have⟨x_z_0,x_z_1,x_z_2,x_z_3⟩:=x_z
  have⟨x_t_0,x_t_1,x_t_2,x_t_3⟩:=x_t
  go_wp2
  exact bodyPost_ret (v:= .tuple #[.agg #[.int .i64 0, .int .i64 0], .agg #[.int .i64 0, .int .i64 0], .bool false]) (by simp [results,Try.results19,go_sem, *]) rfl (⟨rfl,below_put2 (below_put2 BB (by omega) _ _) (by omega) _ _⟩)
 ·skip
  cases hs:sideC s
  ·skip
   have h0:=@home_no_side x y s hs
   obtain rfl:b=false:=by rw [hb,h0]
   obtain rfl:a=0:=ha
   obtain rfl:c=0:=hc'
   obtain rfl:p=0:=hp
   obtain rfl:q=0:=hq
   clear hb h0
   obtain⟨W,hW,bW,x_p,x_z,x_t,sW⟩:=bs_222 w (.int .i64 x) (.int .i64 y) (.int .i64 0) (.int .i64 0) (.int .i64 0) (.int .i64 0) 23 23 50
   have zbW:=bW.size
   have BB:=bW
   go_enter Try.func19,Try.ntmps19
   go_wp2_with (go_at_call 30;fail)
   rw [←hW]
   clear hW
   refine(lCan x y W hc.symm).mono ?_
   rintro e w1 ⟨rfl,bw1⟩
   have zbw1:=bw1.size
   replace BB:=also BB bw1
   replace x_p:=x_p.on bw1
   replace x_z:=x_z.on bw1
   replace x_t:=x_t.on bw1
   have⟨x_p_0,x_p_1,x_p_2,x_p_3⟩:=x_p
   have⟨x_z_0,x_z_1,x_z_2,x_z_3⟩:=x_z
   have⟨x_t_0,x_t_1,x_t_2,x_t_3⟩:=x_t
   go_wp2_with (go_at_call 31;fail)
   refine(lSide s w1 hs.symm).mono ?_
   rintro e w2 ⟨rfl,bw2⟩
   clear x_p_0 x_p_1 x_p_2 x_p_3 x_z_0 x_z_1 x_z_2 x_z_3 x_t_0 x_t_1 x_t_2 x_t_3
   have zbw2:=bw2.size
   replace BB:=also BB bw2
   replace x_p:=x_p.on bw2
   replace x_z:=x_z.on bw2
   replace x_t:=x_t.on bw2
   have⟨x_p_0,x_p_1,x_p_2,x_p_3⟩:=x_p
   have⟨x_z_0,x_z_1,x_z_2,x_z_3⟩:=x_z
   have⟨x_t_0,x_t_1,x_t_2,x_t_3⟩:=x_t
   go_wp2
   exact bodyPost_ret (v:= .tuple #[.agg #[.int .i64 0, .int .i64 0], .agg #[.int .i64 0, .int .i64 0], .bool false]) (by simp [results,Try.results19,go_sem, *]) rfl (⟨rfl,below_put2 (below_put2 BB (by omega) _ _) (by omega) _ _⟩)
  ·skip
   obtain rfl:b=true:=by rw [hb];unfold homeC;rw [hs,hc];rfl
   have Ha:Hid (a=x % s):=ha
   have Hc:Hid (c=y % s):=hc'
   have Hp:Hid (p=x/s):=hp
   have Hq:Hid (q=y/s):=hq
   clear hb ha hc' hp hq
   have HC1:Hid (inC x=true):=(canC_true.1 hc).1
   have HC2:Hid (inC y=true):=(canC_true.1 hc).2
   obtain⟨W,hW,bW,x_p,x_z,x_t,sW⟩:=bs_222 w (.int .i64 x) (.int .i64 y) (.int .i64 0) (.int .i64 0) (.int .i64 0) (.int .i64 0) 23 23 50
   have zbW:=bW.size
   have BB:=bW
   go_enter Try.func19,Try.ntmps19
   go_wp2_with (go_at_call 30;fail)
   rw [←hW]
   clear hW
   refine(lCan x y W hc.symm).mono ?_
   rintro e w1 ⟨rfl,bw1⟩
   have zbw1:=bw1.size
   replace BB:=also BB bw1
   replace x_p:=x_p.on bw1
   replace x_z:=x_z.on bw1
   replace x_t:=x_t.on bw1
   have⟨x_p_0,x_p_1,x_p_2,x_p_3⟩:=x_p
   have⟨x_z_0,x_z_1,x_z_2,x_z_3⟩:=x_z
   have⟨x_t_0,x_t_1,x_t_2,x_t_3⟩:=x_t
   go_wp2_with (go_at_call 31;fail)
   refine(lSide s w1 hs.symm).mono ?_
   rintro e w2 ⟨rfl,bw2⟩
   clear x_p_0 x_p_1 x_p_2 x_p_3 x_z_0 x_z_1 x_z_2 x_z_3 x_t_0 x_t_1 x_t_2 x_t_3
   have zbw2:=bw2.size
   replace BB:=also BB bw2
   replace x_p:=x_p.on bw2
   replace x_z:=x_z.on bw2
   replace x_t:=x_t.on bw2
   have⟨x_p_0,x_p_1,x_p_2,x_p_3⟩:=x_p
   have⟨x_z_0,x_z_1,x_z_2,x_z_3⟩:=x_z
   have⟨x_t_0,x_t_1,x_t_2,x_t_3⟩:=x_t
   go_wp2_with (go_at_call 32;fail)
   refine(lFold x s w2 hs HC1.out Ha.out Hp.out).mono ?_
   rintro e w3 ⟨rfl,bw3⟩
   clear x_p_0 x_p_1 x_p_2 x_p_3 x_z_0 x_z_1 x_z_2 x_z_3 x_t_0 x_t_1 x_t_2 x_t_3
   have zbw3:=bw3.size
   replace BB:=also BB bw3
   replace x_p:=x_p.on bw3
   replace x_z:=x_z.on bw3
   replace x_t:=x_t.on bw3
   have⟨x_p_0,x_p_1,x_p_2,x_p_3⟩:=x_p
   have⟨x_z_0,x_z_1,x_z_2,x_z_3⟩:=x_z
   have⟨x_t_0,x_t_1,x_t_2,x_t_3⟩:=x_t
   go_wp2_with (go_at_call 32;fail)
   refine(lFold y s w3 hs HC2.out Hc.out Hq.out).mono ?_
   rintro e w4 ⟨rfl,bw4⟩
   clear x_p_0 x_p_1 x_p_2 x_p_3 x_z_0 x_z_1 x_z_2 x_z_3 x_t_0 x_t_1 x_t_2 x_t_3
   have zbw4:=bw4.size
   replace BB:=also BB bw4
   replace x_p:=x_p.on bw4
   replace x_z:=x_z.on bw4
   replace x_t:=x_t.on bw4
   have⟨x_p_0,x_p_1,x_p_2,x_p_3⟩:=x_p
   have⟨x_z_0,x_z_1,x_z_2,x_z_3⟩:=x_z
   have⟨x_t_0,x_t_1,x_t_2,x_t_3⟩:=x_t
   go_wp2
   exact bodyPost_ret (v:= .tuple #[.agg #[.int .i64 a, .int .i64 c], .agg #[.int .i64 p, .int .i64 q], .bool true]) (by simp [results,Try.results19,go_sem, *]) rfl (⟨rfl,below_put2 (below_put2 BB (by omega) _ _) (by omega) _ _⟩)
theorem below_dn(B:Nat)(w:World)(q:Nat):Below B w (w.drewN q):=⟨rfl,rfl,rfl,Nat.le_refl _,fun _ _=>rfl⟩
def grR(s:Int)(n v:Nat)(m:Int):List Value:= [.int .i64 s, .int .i64 (n:Int), .slice (some ⟨v,0,none⟩) (n*n) (n*n), .int .i64 m]
structure GrO(w:World)(base g v:Nat)(s:Int)(n:Nat)(A:Nat→Option Addr×Nat)(L:Nat→List Int)(m:Int):Prop where
 row:Row w g (grR s n v m)
 ver: ∀ k,k<n*n→w.cell? ⟨v,k,none⟩=some (.slice (A k).1 (L k).length (A k).2)∧w.frozen? ⟨v,k,none⟩=false
 own: ∀ k,k<n*n→Own w base 3 (A k).1 (L k).length (A k).2 (ints (L k))
 ne:g≠v
 vl:v<w.heap.size
 off: ∀ k,k<n*n→ ∀ b,Slot (A k).1 b→b≠g∧b≠v
 apart: ∀ k j,k<n*n→j<n*n→k≠j→ ∀ b,Slot (A k).1 b→ ¬Slot (A j).1 b
def GrP(base g:Nat)(s:Int)(n:Nat)(L:Nat→List Int)(m:Int)(F:Nat→Prop)(w:World):Prop:=
 (∃ v A,GrO w base g v s n A L m∧F g∧F v∧ ∀ k,k<n*n→ ∀ b,Slot (A k).1 b→F b)∧ ∀ k,F k→base≤k∧k<w.heap.size
theorem GrO.keep{w w':World}{base g v n:Nat}{s m:Int}{A:Nat→Option Addr×Nat}{L:Nat→List Int}{F G:Nat→Prop}(h:GrO w base g v s n A L m)(hg:F g)(hv:F v)(hs: ∀ k,k<n*n→ ∀ b,Slot (A k).1 b→F b)(hk:Keep G w w')(hd: ∀ k,F k→ ¬G k):GrO w' base g v s n A L m:=by
 refine⟨h.row.keep hk h.row.lt (hd g hg),fun k hk'=>?_,fun k hk'=>(h.own k hk').keep hk (fun b sb=>hd b (hs k hk' b sb)),h.ne,Nat.lt_of_lt_of_le h.vl hk.size,h.off,h.apart⟩
 rw [World.cell?_of_block (w:=w) (a:=⟨v,k,none⟩) (hk.block v h.vl (hd v hv)),World.frozen?_of_block (w:=w) (a:=⟨v,k,none⟩) (hk.block v h.vl (hd v hv))]
 exact h.ver k hk'
theorem GrP.keep{base g n:Nat}{s m:Int}{L:Nat→List Int}{F G:Nat→Prop}{w w':World}(h:GrP base g s n L m F w)(hk:Keep G w w')(hd: ∀ k,F k→ ¬G k):GrP base g s n L m F w':=by
 obtain⟨⟨v,A,hO,hg,hv,hs⟩,hf⟩:=h
 exact⟨⟨v,A,hO.keep hg hv hs hk hd,hg,hv,hs⟩,fun k hF=>⟨(hf k hF).1,Nat.lt_of_lt_of_le (hf k hF).2 hk.size⟩⟩
theorem GrP.below{base g n:Nat}{s m:Int}{L:Nat→List Int}{F:Nat→Prop}{w w':World}(h:GrP base g s n L m F w)(hb:Below w.heap.size w w'):GrP base g s n L m F w':=h.keep (Keep.of (F:=fun _=>False) hb) (fun _ _ x=>x)
def GrOk(s:Int)(n:Nat):Prop:=1≤s∧s≤17179869184∧1≤n∧n≤64
def clX(x s:Int)(n:Nat):Int:=x % s*(n:Int)/s
theorem clX_in{x s:Int}{n:Nat}(h:GrOk s n):0≤clX x s n∧clX x s n<n:=by
 obtain⟨h1,h2,h3,h4⟩:=h
 have e1:=Int.emod_nonneg x (show s≠0 by omega)
 have e2:=Int.emod_lt_of_pos x (show 0<s by omega)
 unfold clX
 refine⟨Int.ediv_nonneg (Int.mul_nonneg e1 (by omega)) (by omega),?_⟩
 refine Int.ediv_lt_of_lt_mul (by omega) ?_
 rw [Int.mul_comm (n:Int) s]
 exact Int.mul_lt_mul_of_pos_right e2 (by omega)
theorem prod_lt{c s:Int}{n:Nat}(h:GrOk s n)(h0:0≤c)(h1:c<s):0≤c*(n:Int)∧c*(n:Int)≤1099511627776:=by
 obtain⟨a1,a2,a3,a4⟩:=h
 refine⟨Int.mul_nonneg h0 (by omega),?_⟩
 have:=Int.mul_le_mul (show c≤17179869184 by omega) (show(n:Int)≤64 by omega) (by omega) (by omega)
 omega
set_option maxRecDepth 100000 in
set_option maxHeartbeats 1000000 in
theorem bkPart(g v n:Nat)(s m c:Int)(w:World)(hrow:Row w g (grR s n v m))(h:GrOk s n)(h0:0≤c)(h1:c<s){r:Int}(hr:r=c*(n:Int)/s):
  Calls Try.prog 20 #[.pointer (some ⟨g,0,none⟩), .int .i64 c] w fun e w'=>e= .returned (.int .i64 r)∧Below w.heap.size w w':=by
 have q0:=hrow.cell 0 _ rfl
 have q1:=hrow.cell 1 _ rfl
 have hp:=prod_lt h h0 h1
 have e1:wrap64 (c*(n:Int))=c*(n:Int):=wrap_in (by omega) (by omega)
 have e2:(c*(n:Int)).tdiv s=r:=by rw [hr];exact Int.tdiv_eq_ediv_of_nonneg hp.1
 have e3:wrap64 r=r:=by
  have a1:0≤r:=by rw [hr];exact Int.ediv_nonneg hp.1 (by have:=h.1;omega)
  have a2:r≤1099511627776:=by rw [hr];exact Int.le_trans (Int.ediv_le_self _ hp.1) hp.2
  exact wrap_in (by omega) (by omega)
 have e4:(s==0)=false:=by have:=h.1;simp;omega
 have e5: ¬s=0:=by have:=h.1;omega
 clear hr hp
 go_enter Try.func20,Try.ntmps20
 go_wp2
 go_quiet (fail)
 go_wp2
 go_ret
 exact⟨by show Ending.returned (.int .i64 (wrap64 r))=_;rw [e3],below_dn _ _ _⟩
theorem mod_in{c:Int}{n:Nat}(h1:1≤n): ∃ k:Nat,(k:Int)=c % (n:Int)∧k<n:=
 ⟨(c % (n:Int)).toNat,Int.toNat_of_nonneg (Int.emod_nonneg _ (by omega)),by have:=Int.emod_lt_of_pos c (show(0:Int)<n by omega);have:=Int.emod_nonneg c (show(n:Int)≠0 by omega);omega⟩
theorem idx_in{n a b:Nat}(ha:a<n)(hb:b<n):a*n+b<n*n:=by
 have:=Nat.mul_le_mul_right n (show a+1≤n by omega)
 rw [Nat.add_mul]at this
 omega
set_option maxRecDepth 100000 in
set_option maxHeartbeats 1000000 in
theorem bkAt(g v n:Nat)(s m c r:Int)(w:World)(hrow:Row w g (grR s n v m))(h:GrOk s n)(hc: -(n:Int)≤c∧c≤1000)(hr: -(n:Int)≤r∧r≤1000)(a b:Nat)(ha:(a:Int)=c % (n:Int))(hb:(b:Int)=r % (n:Int)):
  Calls Try.prog 27 #[.pointer (some ⟨g,0,none⟩), .int .i64 c, .int .i64 r] w fun e w'=>e= .returned (.pointer (some ⟨v,a*n+b,none⟩))∧Below w.heap.size w w':=by
 obtain⟨a1,a2,a3,a4⟩:=h
 have q1:=hrow.cell 1 _ rfl
 have q2:=hrow.cell 2 _ rfl
 have an:a<n:=by have:=Int.emod_lt_of_pos c (show(0:Int)<n by omega);omega
 have bn:b<n:=by have:=Int.emod_lt_of_pos r (show(0:Int)<n by omega);omega
 have e1:wrap64 (c+(n:Int))=c+(n:Int):=wrap_in (by omega) (by omega)
 have e2:wrap64 (r+(n:Int))=r+(n:Int):=wrap_in (by omega) (by omega)
 have e3:(c+(n:Int)).tmod (n:Int)=(a:Int):=by rw [Int.tmod_eq_emod_of_nonneg (by omega),Int.add_emod_right,ha]
 have e4:(r+(n:Int)).tmod (n:Int)=(b:Int):=by rw [Int.tmod_eq_emod_of_nonneg (by omega),Int.add_emod_right,hb]
 have hi:=idx_in an bn
 have hnn:n*n≤64*64:=Nat.mul_le_mul a4 a4
 have e5:wrap64 ((a:Int)*(n:Int))=((a*n:Nat):Int):=by rw [←Int.natCast_mul];clear e1 e2 e3 e4 ha hb hc hr;exact wrap_in (by omega) (by omega)
 have e6:wrap64 (((a*n:Nat):Int)+(b:Int))=((a*n+b:Nat):Int):=by rw [←Int.natCast_add];clear e1 e2 e3 e4 ha hb hc hr e5;exact wrap_in (by omega) (by omega)
 have e7:((n:Int)==0)=false:=by simp;omega
 have e8: ¬(n:Int)=0:=by omega
 generalize hU:c+(n:Int)=U at e1 e3
 generalize hV:r+(n:Int)=V at e2 e4
 rw [←hU]at e1
 rw [←hV]at e2
 have HA:Hid (c+(n:Int)=U):=hU
 have HB:Hid (r+(n:Int)=V):=hV
 rw [HA.out]at e1
 have f1:wrap64 (c+(n:Int))=U:=by rw [HA.out];exact e1
 rw [HB.out]at e2
 have f2:wrap64 (r+(n:Int))=V:=by rw [HB.out];exact e2
 clear e1 e2 hU hV hc hr a1 a2 a3 a4
 generalize a*n+b=k at e6 hi ⊢
 generalize a*n=k' at e5 e6
 have e9:(k:Int)<((n*n:Nat):Int):=Int.ofNat_lt.2 hi
 generalize n*n=nn at q2 hi hnn e9
 clear ha hb
 go_enter Try.func27,Try.ntmps27
 go_wp2
 go_quiet (fail)
 go_wp2
 go_quiet (fail)
 go_wp2
 go_quiet (fail)
 go_wp2
 go_ret
 exact⟨rfl,((below_dn _ _ _).trans (below_dn _ _ _)).trans (below_dn _ _ _)⟩
def cellC(x y s:Int)(n:Nat):Int×Int:=if homeC x y s then(clX x s n,clX y s n)else(-1, -1)
set_option maxRecDepth 100000 in
set_option maxHeartbeats 4000000 in
theorem bkCell(g v n:Nat)(s m x y:Int)(w:World)(hrow:Row w g (grR s n v m))(h:GrOk s n){a b:Int}(hab:(a,b)=cellC x y s n):
  Calls Try.prog 9 #[.pointer (some ⟨g,0,none⟩), .agg #[.int .i64 x, .int .i64 y]] w fun e w'=>e= .returned (.tuple #[.int .i64 a, .int .i64 b])∧Below w.heap.size w w':=by
 have hgl:=hrow.lt
 obtain⟨W,hW⟩: ∃ W,W=w.alloc (.cells #[.int .i64 x, .int .i64 y] 23):=⟨_,rfl⟩
 have bW:Below w.heap.size w W:=by rw [hW];exact(Below.refl _ _).alloc (Nat.le_refl _) _
 have zW:W.heap.size=w.heap.size+1:=by rw [hW];simp
 have RB:Row W w.heap.size [.int .i64 x, .int .i64 y]:=by rw [hW];exact Row.new w [.int .i64 x, .int .i64 y] _
 have RG:Row W g (grR s n v m):=hrow.below bW hgl
 have q0:=RB.cell 0 _ rfl
 have q1:=RB.cell 1 _ rfl
 have q2:=RG.cell 0 _ rfl
 have hgW:g<W.heap.size:=by omega
 have hwW:w.heap.size<W.heap.size:=by omega
 obtain⟨X,hX⟩: ∃ X,X=if homeC x y s then x % s else 0:=⟨_,rfl⟩
 obtain⟨Y0,hY⟩: ∃ Y0,Y0=if homeC x y s then y % s else 0:=⟨_,rfl⟩
 obtain⟨U,hU⟩: ∃ U,U=if homeC x y s then x/s else 0:=⟨_,rfl⟩
 obtain⟨V,hV⟩: ∃ V,V=if homeC x y s then y/s else 0:=⟨_,rfl⟩
 obtain⟨ok,hok⟩: ∃ ok,ok=homeC x y s:=⟨_,rfl⟩
 have C:Hid (∀ w',Calls Try.prog 19 #[.agg #[.int .i64 x, .int .i64 y], .int .i64 s] w' fun e w''=>e= .returned (.tuple #[.agg #[.int .i64 X, .int .i64 Y0], .agg #[.int .i64 U, .int .i64 V], .bool ok])∧Below w'.heap.size w' w''):=fun w'=>by rw [←hok]at hX hY hU hV;exact lHome x y s w' hok hX hY hU hV
 have HX:Hid _:=hX
 have HY:Hid _:=hY
 have HO:Hid _:=hok
 have HAB:Hid _:=hab
 clear hX hY hU hV hok hab
 go_enter Try.func9,Try.ntmps9
 go_wp2
 rw [←hW]
 clear hW
 have HSf:Hid (∀ w',Below W.heap.size W w'→(fun w'=>w'.cell? ⟨w.heap.size,0,none⟩=some (.int .i64 x)∧w'.cell? ⟨w.heap.size,1,none⟩=some (.int .i64 y)∧w'.cell? ⟨g,0,none⟩=some (.int .i64 s)∧Below W.heap.size W w') w'):=by
  unfold Hid
  intro w' hb
  exact⟨(hb.cell (p:=⟨w.heap.size,0,none⟩) hwW).trans q0,(hb.cell (p:=⟨w.heap.size,1,none⟩) hwW).trans q1,(hb.cell (p:=⟨g,0,none⟩) hgW).trans q2,hb⟩
 obtain⟨QQ,hQQ⟩: ∃ QQ:Exit→Act→World→Prop,QQ=fun e act wr=>e= .normal∧ ∃ (pa pb:Nat),act=⟨#[.pointer (some ⟨g,0,none⟩), .agg #[.int .i64 x, .int .i64 y],undef, .pointer (some ⟨w.heap.size,0,none⟩), .int .i64 (0), .int .i64 (0), .pointer (some ⟨pa,0,none⟩), .pointer (some ⟨pb,0,none⟩), .bool ok, .pointer (some ⟨g,0,none⟩), .bool false, .tuple #[.agg #[.int .i64 X, .int .i64 Y0], .agg #[.int .i64 U, .int .i64 V], .bool ok], .agg #[.int .i64 x, .int .i64 y], .pointer (some ⟨g,0,none⟩), .pointer (some ⟨g,0,none⟩), .pointer (some ⟨g,0,none⟩), .int .i64 (s), .tuple #[.agg #[.int .i64 X, .int .i64 Y0], .agg #[.int .i64 U, .int .i64 V], .bool ok], .agg #[.int .i64 X, .int .i64 Y0], .agg #[.int .i64 U, .int .i64 V], .bool ok,undef,undef,undef,undef,undef,undef,undef,undef,undef,undef], []⟩∧Row wr pa [.int .i64 X, .int .i64 Y0]∧W.heap.size≤pa∧Below W.heap.size W wr:=⟨_,rfl⟩
 have HQQ:Hid _:=hQQ
 clear hQQ
 refine wp_mono (Q:=QQ) ?_ ?_
 ·refine wp_region_held_drew (S:=fun w'=>w'.cell? ⟨w.heap.size,0,none⟩=some (.int .i64 x)∧w'.cell? ⟨w.heap.size,1,none⟩=some (.int .i64 y)∧w'.cell? ⟨g,0,none⟩=some (.int .i64 s)∧Below W.heap.size W w') (by kernel_rfl) ?_ (fun hHeld=>?_)
  ·exact HSf.out _ (Below.refl _ _).drew
  refine tQ 0 ?_
  simp only [Act.put,ps1,ps2,ps3]
  refine tQ 1 ?_
  simp only [Act.put,ps1,ps2,ps3]
  refine tQ 2 ?_
  simp only [Act.put,ps1,ps2,ps3]
  refine tQ 3 ?_
  simp only [Act.put,ps1,ps2,ps3]
  refine tQ 4 ?_
  simp only [Act.put,ps1,ps2,ps3]
  have BX:=hHeld.2.2.2
  generalize W.drew=X0 at hHeld BX ⊢
  refine wpAnyH_ready (rs:= [5,10,11]) (by kernel_rfl) (by simp) (AllReadyH.cons (i:=5) rfl (fun Kc hK=>?_) (AllReadyH.cons (i:=10) rfl (fun Kc hK=>?_) (AllReadyH.cons (i:=11) rfl (fun Kc hK=>?_) AllReadyH.nil)))
  ·skip
   go_simp
   (go_at_call 19;refine(C.out _).mono ?_;rintro e X1 ⟨rfl,e1⟩)
   refine hK.out _ _ (HSf.out _ (hHeld.2.2.2.trans (e1.mono hHeld.2.2.2.size))) (fun hHeld=>?_)
   clear hK Kc
   clear e1
   refine tQ 6 ?_
   simp only [Act.put,ps1,ps2,ps3]
   refine tQ 7 ?_
   simp only [Act.put,ps1,ps2,ps3]
   refine tQ 8 ?_
   simp only [Act.put,ps1,ps2,ps3]
   refine tQ 9 ?_
   simp only [Act.put,ps1,ps2,ps3]
   refine wpAnyH_ready (rs:= [10,11]) (by kernel_rfl) (by simp) (AllReadyH.cons (i:=10) rfl (fun Kc hK=>?_) (AllReadyH.cons (i:=11) rfl (fun Kc hK=>?_) AllReadyH.nil))
   ·skip
    go_simp
    have gpa:W.heap.size≤X1.heap.size:=hHeld.2.2.2.size
    refine hK.out _ _ (HSf.out _ (hHeld.2.2.2.alloc hHeld.2.2.2.size _)) (fun hHeld=>?_)
    clear hK Kc
    have y_pa:=Row.new X1 [.int .i64 (0), .int .i64 (0)] 23;have lpa:X1.heap.size<(X1.alloc (.cells #[.int .i64 (0), .int .i64 (0)] 23)).heap.size:=by simp
    have e2:Below X1.heap.size X1 (X1.alloc (.cells #[.int .i64 (0), .int .i64 (0)] 23)):=(Below.refl _ _).alloc (Nat.le_refl _) _
    clear e2
    generalize X1.alloc (.cells #[.int .i64 (0), .int .i64 (0)] 23)=X2 at y_pa lpa hHeld ⊢
    generalize X1.heap.size=pa at y_pa lpa gpa ⊢
    refine tcl 11 fun Kc hK=>?_
    go_simp
    have gpb:W.heap.size≤X2.heap.size:=hHeld.2.2.2.size
    refine hK.out _ _ (HSf.out _ (hHeld.2.2.2.alloc hHeld.2.2.2.size _)) (fun hHeld=>?_)
    clear hK Kc
    have y_pb:=Row.new X2 [.int .i64 (0), .int .i64 (0)] 50;have lpb:X2.heap.size<(X2.alloc (.cells #[.int .i64 (0), .int .i64 (0)] 50)).heap.size:=by simp
    have e3:Below X2.heap.size X2 (X2.alloc (.cells #[.int .i64 (0), .int .i64 (0)] 50)):=(Below.refl _ _).alloc (Nat.le_refl _) _
    have y_pa:=y_pa.below e3 lpa;have pq:=Nat.ne_of_lt lpa;have lpa:=Nat.lt_of_lt_of_le lpa e3.size
    clear e3
    generalize X2.alloc (.cells #[.int .i64 (0), .int .i64 (0)] 50)=X3 at y_pb lpb y_pa lpa hHeld ⊢
    generalize X2.heap.size=pb at y_pb lpb gpb pq ⊢
    have c00:=y_pa.cell 0 _ rfl;have c01:=y_pa.cell 1 _ rfl;have d00:=y_pa.free 0 (by simp);have d01:=y_pa.free 1 (by simp)
    refine tcl 12 fun Kc hK=>?_
    go_simp
    refine hK.out _ _ (HSf.out _ ((hHeld.2.2.2.setCell (by omega) _).setCell (by omega) _)) (fun hHeld=>?_)
    clear hK Kc
    have y2:=(y_pb.other (i:=0) (.int .i64 (X)) pq).other (i:=1) (.int .i64 (Y0)) pq
    have c10:=y2.cell 0 _ rfl;have c11:=y2.cell 1 _ rfl;have d10:=y2.free 0 (by simp);have d11:=y2.free 1 (by simp)
    refine tcl 13 fun Kc hK=>?_
    go_simp
    refine hK.out _ _ (HSf.out _ ((hHeld.2.2.2.setCell (by omega) _).setCell (by omega) _)) (fun hHeld=>?_)
    clear hK Kc
    refine tQ 14 ?_
    simp only [Act.put,ps1,ps2,ps3]
    refine wpAnyH_done (by kernel_rfl) ?_ _
    rw [HQQ.out]
    exact⟨rfl,pa,pb,rfl,(((y_pa.set 0 (.int .i64 (X)) (by simp)).set 1 (.int .i64 (Y0)) (by simp)).other (.int .i64 (U)) (fun e=>pq e.symm)).other (.int .i64 (V)) (fun e=>pq e.symm),by omega,hHeld.2.2.2⟩
   ·skip
    go_simp
    have gpb:W.heap.size≤X1.heap.size:=hHeld.2.2.2.size
    refine hK.out _ _ (HSf.out _ (hHeld.2.2.2.alloc hHeld.2.2.2.size _)) (fun hHeld=>?_)
    clear hK Kc
    have y_pb:=Row.new X1 [.int .i64 (0), .int .i64 (0)] 50;have lpb:X1.heap.size<(X1.alloc (.cells #[.int .i64 (0), .int .i64 (0)] 50)).heap.size:=by simp
    have e4:Below X1.heap.size X1 (X1.alloc (.cells #[.int .i64 (0), .int .i64 (0)] 50)):=(Below.refl _ _).alloc (Nat.le_refl _) _
    clear e4
    generalize X1.alloc (.cells #[.int .i64 (0), .int .i64 (0)] 50)=X4 at y_pb lpb hHeld ⊢
    generalize X1.heap.size=pb at y_pb lpb gpb ⊢
    refine tcl 10 fun Kc hK=>?_
    go_simp
    have gpa:W.heap.size≤X4.heap.size:=hHeld.2.2.2.size
    refine hK.out _ _ (HSf.out _ (hHeld.2.2.2.alloc hHeld.2.2.2.size _)) (fun hHeld=>?_)
    clear hK Kc
    have y_pa:=Row.new X4 [.int .i64 (0), .int .i64 (0)] 23;have lpa:X4.heap.size<(X4.alloc (.cells #[.int .i64 (0), .int .i64 (0)] 23)).heap.size:=by simp
    have e5:Below X4.heap.size X4 (X4.alloc (.cells #[.int .i64 (0), .int .i64 (0)] 23)):=(Below.refl _ _).alloc (Nat.le_refl _) _
    have y_pb:=y_pb.below e5 lpb;have pq:=Nat.ne_of_gt lpb;have lpb:=Nat.lt_of_lt_of_le lpb e5.size
    clear e5
    generalize X4.alloc (.cells #[.int .i64 (0), .int .i64 (0)] 23)=X5 at y_pa lpa y_pb lpb hHeld ⊢
    generalize X4.heap.size=pa at y_pa lpa gpa pq ⊢
    have c00:=y_pa.cell 0 _ rfl;have c01:=y_pa.cell 1 _ rfl;have d00:=y_pa.free 0 (by simp);have d01:=y_pa.free 1 (by simp)
    refine tcl 12 fun Kc hK=>?_
    go_simp
    refine hK.out _ _ (HSf.out _ ((hHeld.2.2.2.setCell (by omega) _).setCell (by omega) _)) (fun hHeld=>?_)
    clear hK Kc
    have y2:=(y_pb.other (i:=0) (.int .i64 (X)) pq).other (i:=1) (.int .i64 (Y0)) pq
    have c10:=y2.cell 0 _ rfl;have c11:=y2.cell 1 _ rfl;have d10:=y2.free 0 (by simp);have d11:=y2.free 1 (by simp)
    refine tcl 13 fun Kc hK=>?_
    go_simp
    refine hK.out _ _ (HSf.out _ ((hHeld.2.2.2.setCell (by omega) _).setCell (by omega) _)) (fun hHeld=>?_)
    clear hK Kc
    refine tQ 14 ?_
    simp only [Act.put,ps1,ps2,ps3]
    refine wpAnyH_done (by kernel_rfl) ?_ _
    rw [HQQ.out]
    exact⟨rfl,pa,pb,rfl,(((y_pa.set 0 (.int .i64 (X)) (by simp)).set 1 (.int .i64 (Y0)) (by simp)).other (.int .i64 (U)) (fun e=>pq e.symm)).other (.int .i64 (V)) (fun e=>pq e.symm),by omega,hHeld.2.2.2⟩
  ·skip
   go_simp
   have gpa:W.heap.size≤X0.heap.size:=hHeld.2.2.2.size
   refine hK.out _ _ (HSf.out _ (hHeld.2.2.2.alloc hHeld.2.2.2.size _)) (fun hHeld=>?_)
   clear hK Kc
   have y_pa:=Row.new X0 [.int .i64 (0), .int .i64 (0)] 23;have lpa:X0.heap.size<(X0.alloc (.cells #[.int .i64 (0), .int .i64 (0)] 23)).heap.size:=by simp
   have e6:Below X0.heap.size X0 (X0.alloc (.cells #[.int .i64 (0), .int .i64 (0)] 23)):=(Below.refl _ _).alloc (Nat.le_refl _) _
   clear e6
   generalize X0.alloc (.cells #[.int .i64 (0), .int .i64 (0)] 23)=X6 at y_pa lpa hHeld ⊢
   generalize X0.heap.size=pa at y_pa lpa gpa ⊢
   refine wpAnyH_ready (rs:= [5,11]) (by kernel_rfl) (by simp) (AllReadyH.cons (i:=5) rfl (fun Kc hK=>?_) (AllReadyH.cons (i:=11) rfl (fun Kc hK=>?_) AllReadyH.nil))
   ·skip
    go_simp
    (go_at_call 19;refine(C.out _).mono ?_;rintro e X7 ⟨rfl,e7⟩)
    refine hK.out _ _ (HSf.out _ (hHeld.2.2.2.trans (e7.mono hHeld.2.2.2.size))) (fun hHeld=>?_)
    clear hK Kc
    have y_pa:=y_pa.below e7 lpa;have lpa:=Nat.lt_of_lt_of_le lpa e7.size
    clear e7
    refine tQ 6 ?_
    simp only [Act.put,ps1,ps2,ps3]
    refine tQ 7 ?_
    simp only [Act.put,ps1,ps2,ps3]
    refine tQ 8 ?_
    simp only [Act.put,ps1,ps2,ps3]
    refine tQ 9 ?_
    simp only [Act.put,ps1,ps2,ps3]
    refine tcl 11 fun Kc hK=>?_
    go_simp
    have gpb:W.heap.size≤X7.heap.size:=hHeld.2.2.2.size
    refine hK.out _ _ (HSf.out _ (hHeld.2.2.2.alloc hHeld.2.2.2.size _)) (fun hHeld=>?_)
    clear hK Kc
    have y_pb:=Row.new X7 [.int .i64 (0), .int .i64 (0)] 50;have lpb:X7.heap.size<(X7.alloc (.cells #[.int .i64 (0), .int .i64 (0)] 50)).heap.size:=by simp
    have e8:Below X7.heap.size X7 (X7.alloc (.cells #[.int .i64 (0), .int .i64 (0)] 50)):=(Below.refl _ _).alloc (Nat.le_refl _) _
    have y_pa:=y_pa.below e8 lpa;have pq:=Nat.ne_of_lt lpa;have lpa:=Nat.lt_of_lt_of_le lpa e8.size
    clear e8
    generalize X7.alloc (.cells #[.int .i64 (0), .int .i64 (0)] 50)=X8 at y_pb lpb y_pa lpa hHeld ⊢
    generalize X7.heap.size=pb at y_pb lpb gpb pq ⊢
    have c00:=y_pa.cell 0 _ rfl;have c01:=y_pa.cell 1 _ rfl;have d00:=y_pa.free 0 (by simp);have d01:=y_pa.free 1 (by simp)
    refine tcl 12 fun Kc hK=>?_
    go_simp
    refine hK.out _ _ (HSf.out _ ((hHeld.2.2.2.setCell (by omega) _).setCell (by omega) _)) (fun hHeld=>?_)
    clear hK Kc
    have y2:=(y_pb.other (i:=0) (.int .i64 (X)) pq).other (i:=1) (.int .i64 (Y0)) pq
    have c10:=y2.cell 0 _ rfl;have c11:=y2.cell 1 _ rfl;have d10:=y2.free 0 (by simp);have d11:=y2.free 1 (by simp)
    refine tcl 13 fun Kc hK=>?_
    go_simp
    refine hK.out _ _ (HSf.out _ ((hHeld.2.2.2.setCell (by omega) _).setCell (by omega) _)) (fun hHeld=>?_)
    clear hK Kc
    refine tQ 14 ?_
    simp only [Act.put,ps1,ps2,ps3]
    refine wpAnyH_done (by kernel_rfl) ?_ _
    rw [HQQ.out]
    exact⟨rfl,pa,pb,rfl,(((y_pa.set 0 (.int .i64 (X)) (by simp)).set 1 (.int .i64 (Y0)) (by simp)).other (.int .i64 (U)) (fun e=>pq e.symm)).other (.int .i64 (V)) (fun e=>pq e.symm),by omega,hHeld.2.2.2⟩
   ·skip
    go_simp
    have gpb:W.heap.size≤X6.heap.size:=hHeld.2.2.2.size
    refine hK.out _ _ (HSf.out _ (hHeld.2.2.2.alloc hHeld.2.2.2.size _)) (fun hHeld=>?_)
    clear hK Kc
    have y_pb:=Row.new X6 [.int .i64 (0), .int .i64 (0)] 50;have lpb:X6.heap.size<(X6.alloc (.cells #[.int .i64 (0), .int .i64 (0)] 50)).heap.size:=by simp
    have e9:Below X6.heap.size X6 (X6.alloc (.cells #[.int .i64 (0), .int .i64 (0)] 50)):=(Below.refl _ _).alloc (Nat.le_refl _) _
    have y_pa:=y_pa.below e9 lpa;have pq:=Nat.ne_of_lt lpa;have lpa:=Nat.lt_of_lt_of_le lpa e9.size
    clear e9
    generalize X6.alloc (.cells #[.int .i64 (0), .int .i64 (0)] 50)=X9 at y_pb lpb y_pa lpa hHeld ⊢
    generalize X6.heap.size=pb at y_pb lpb gpb pq ⊢
    refine tcl 5 fun Kc hK=>?_
    go_simp
    (go_at_call 19;refine(C.out _).mono ?_;rintro e X10 ⟨rfl,e10⟩)
    refine hK.out _ _ (HSf.out _ (hHeld.2.2.2.trans (e10.mono hHeld.2.2.2.size))) (fun hHeld=>?_)
    clear hK Kc
    have y_pa:=y_pa.below e10 lpa;have lpa:=Nat.lt_of_lt_of_le lpa e10.size
    have y_pb:=y_pb.below e10 lpb;have lpb:=Nat.lt_of_lt_of_le lpb e10.size
    clear e10
    refine tQ 6 ?_
    simp only [Act.put,ps1,ps2,ps3]
    refine tQ 7 ?_
    simp only [Act.put,ps1,ps2,ps3]
    refine tQ 8 ?_
    simp only [Act.put,ps1,ps2,ps3]
    refine tQ 9 ?_
    simp only [Act.put,ps1,ps2,ps3]
    have c00:=y_pa.cell 0 _ rfl;have c01:=y_pa.cell 1 _ rfl;have d00:=y_pa.free 0 (by simp);have d01:=y_pa.free 1 (by simp)
    refine tcl 12 fun Kc hK=>?_
    go_simp
    refine hK.out _ _ (HSf.out _ ((hHeld.2.2.2.setCell (by omega) _).setCell (by omega) _)) (fun hHeld=>?_)
    clear hK Kc
    have y2:=(y_pb.other (i:=0) (.int .i64 (X)) pq).other (i:=1) (.int .i64 (Y0)) pq
    have c10:=y2.cell 0 _ rfl;have c11:=y2.cell 1 _ rfl;have d10:=y2.free 0 (by simp);have d11:=y2.free 1 (by simp)
    refine tcl 13 fun Kc hK=>?_
    go_simp
    refine hK.out _ _ (HSf.out _ ((hHeld.2.2.2.setCell (by omega) _).setCell (by omega) _)) (fun hHeld=>?_)
    clear hK Kc
    refine tQ 14 ?_
    simp only [Act.put,ps1,ps2,ps3]
    refine wpAnyH_done (by kernel_rfl) ?_ _
    rw [HQQ.out]
    exact⟨rfl,pa,pb,rfl,(((y_pa.set 0 (.int .i64 (X)) (by simp)).set 1 (.int .i64 (Y0)) (by simp)).other (.int .i64 (U)) (fun e=>pq e.symm)).other (.int .i64 (V)) (fun e=>pq e.symm),by omega,hHeld.2.2.2⟩
  ·skip
   go_simp
   have gpb:W.heap.size≤X0.heap.size:=hHeld.2.2.2.size
   refine hK.out _ _ (HSf.out _ (hHeld.2.2.2.alloc hHeld.2.2.2.size _)) (fun hHeld=>?_)
   clear hK Kc
   have y_pb:=Row.new X0 [.int .i64 (0), .int .i64 (0)] 50;have lpb:X0.heap.size<(X0.alloc (.cells #[.int .i64 (0), .int .i64 (0)] 50)).heap.size:=by simp
   have e11:Below X0.heap.size X0 (X0.alloc (.cells #[.int .i64 (0), .int .i64 (0)] 50)):=(Below.refl _ _).alloc (Nat.le_refl _) _
   clear e11
   generalize X0.alloc (.cells #[.int .i64 (0), .int .i64 (0)] 50)=X11 at y_pb lpb hHeld ⊢
   generalize X0.heap.size=pb at y_pb lpb gpb ⊢
   refine wpAnyH_ready (rs:= [5,10]) (by kernel_rfl) (by simp) (AllReadyH.cons (i:=5) rfl (fun Kc hK=>?_) (AllReadyH.cons (i:=10) rfl (fun Kc hK=>?_) AllReadyH.nil))
   ·skip
    go_simp
    (go_at_call 19;refine(C.out _).mono ?_;rintro e X12 ⟨rfl,e12⟩)
    refine hK.out _ _ (HSf.out _ (hHeld.2.2.2.trans (e12.mono hHeld.2.2.2.size))) (fun hHeld=>?_)
    clear hK Kc
    have y_pb:=y_pb.below e12 lpb;have lpb:=Nat.lt_of_lt_of_le lpb e12.size
    clear e12
    refine tQ 6 ?_
    simp only [Act.put,ps1,ps2,ps3]
    refine tQ 7 ?_
    simp only [Act.put,ps1,ps2,ps3]
    refine tQ 8 ?_
    simp only [Act.put,ps1,ps2,ps3]
    refine tQ 9 ?_
    simp only [Act.put,ps1,ps2,ps3]
    refine tcl 10 fun Kc hK=>?_
    go_simp
    have gpa:W.heap.size≤X12.heap.size:=hHeld.2.2.2.size
    refine hK.out _ _ (HSf.out _ (hHeld.2.2.2.alloc hHeld.2.2.2.size _)) (fun hHeld=>?_)
    clear hK Kc
    have y_pa:=Row.new X12 [.int .i64 (0), .int .i64 (0)] 23;have lpa:X12.heap.size<(X12.alloc (.cells #[.int .i64 (0), .int .i64 (0)] 23)).heap.size:=by simp
    have e13:Below X12.heap.size X12 (X12.alloc (.cells #[.int .i64 (0), .int .i64 (0)] 23)):=(Below.refl _ _).alloc (Nat.le_refl _) _
    have y_pb:=y_pb.below e13 lpb;have pq:=Nat.ne_of_gt lpb;have lpb:=Nat.lt_of_lt_of_le lpb e13.size
    clear e13
    generalize X12.alloc (.cells #[.int .i64 (0), .int .i64 (0)] 23)=X13 at y_pa lpa y_pb lpb hHeld ⊢
    generalize X12.heap.size=pa at y_pa lpa gpa pq ⊢
    have c00:=y_pa.cell 0 _ rfl;have c01:=y_pa.cell 1 _ rfl;have d00:=y_pa.free 0 (by simp);have d01:=y_pa.free 1 (by simp)
    refine tcl 12 fun Kc hK=>?_
    go_simp
    refine hK.out _ _ (HSf.out _ ((hHeld.2.2.2.setCell (by omega) _).setCell (by omega) _)) (fun hHeld=>?_)
    clear hK Kc
    have y2:=(y_pb.other (i:=0) (.int .i64 (X)) pq).other (i:=1) (.int .i64 (Y0)) pq
    have c10:=y2.cell 0 _ rfl;have c11:=y2.cell 1 _ rfl;have d10:=y2.free 0 (by simp);have d11:=y2.free 1 (by simp)
    refine tcl 13 fun Kc hK=>?_
    go_simp
    refine hK.out _ _ (HSf.out _ ((hHeld.2.2.2.setCell (by omega) _).setCell (by omega) _)) (fun hHeld=>?_)
    clear hK Kc
    refine tQ 14 ?_
    simp only [Act.put,ps1,ps2,ps3]
    refine wpAnyH_done (by kernel_rfl) ?_ _
    rw [HQQ.out]
    exact⟨rfl,pa,pb,rfl,(((y_pa.set 0 (.int .i64 (X)) (by simp)).set 1 (.int .i64 (Y0)) (by simp)).other (.int .i64 (U)) (fun e=>pq e.symm)).other (.int .i64 (V)) (fun e=>pq e.symm),by omega,hHeld.2.2.2⟩
   ·skip
    go_simp
    have gpa:W.heap.size≤X11.heap.size:=hHeld.2.2.2.size
    refine hK.out _ _ (HSf.out _ (hHeld.2.2.2.alloc hHeld.2.2.2.size _)) (fun hHeld=>?_)
    clear hK Kc
    have y_pa:=Row.new X11 [.int .i64 (0), .int .i64 (0)] 23;have lpa:X11.heap.size<(X11.alloc (.cells #[.int .i64 (0), .int .i64 (0)] 23)).heap.size:=by simp
    have e14:Below X11.heap.size X11 (X11.alloc (.cells #[.int .i64 (0), .int .i64 (0)] 23)):=(Below.refl _ _).alloc (Nat.le_refl _) _
    have y_pb:=y_pb.below e14 lpb;have pq:=Nat.ne_of_gt lpb;have lpb:=Nat.lt_of_lt_of_le lpb e14.size
    clear e14
    generalize X11.alloc (.cells #[.int .i64 (0), .int .i64 (0)] 23)=X14 at y_pa lpa y_pb lpb hHeld ⊢
    generalize X11.heap.size=pa at y_pa lpa gpa pq ⊢
    refine tcl 5 fun Kc hK=>?_
    go_simp
    (go_at_call 19;refine(C.out _).mono ?_;rintro e X15 ⟨rfl,e15⟩)
    refine hK.out _ _ (HSf.out _ (hHeld.2.2.2.trans (e15.mono hHeld.2.2.2.size))) (fun hHeld=>?_)
    clear hK Kc
    have y_pb:=y_pb.below e15 lpb;have lpb:=Nat.lt_of_lt_of_le lpb e15.size
    have y_pa:=y_pa.below e15 lpa;have lpa:=Nat.lt_of_lt_of_le lpa e15.size
    clear e15
    refine tQ 6 ?_
    simp only [Act.put,ps1,ps2,ps3]
    refine tQ 7 ?_
    simp only [Act.put,ps1,ps2,ps3]
    refine tQ 8 ?_
    simp only [Act.put,ps1,ps2,ps3]
    refine tQ 9 ?_
    simp only [Act.put,ps1,ps2,ps3]
    have c00:=y_pa.cell 0 _ rfl;have c01:=y_pa.cell 1 _ rfl;have d00:=y_pa.free 0 (by simp);have d01:=y_pa.free 1 (by simp)
    refine tcl 12 fun Kc hK=>?_
    go_simp
    refine hK.out _ _ (HSf.out _ ((hHeld.2.2.2.setCell (by omega) _).setCell (by omega) _)) (fun hHeld=>?_)
    clear hK Kc
    have y2:=(y_pb.other (i:=0) (.int .i64 (X)) pq).other (i:=1) (.int .i64 (Y0)) pq
    have c10:=y2.cell 0 _ rfl;have c11:=y2.cell 1 _ rfl;have d10:=y2.free 0 (by simp);have d11:=y2.free 1 (by simp)
    refine tcl 13 fun Kc hK=>?_
    go_simp
    refine hK.out _ _ (HSf.out _ ((hHeld.2.2.2.setCell (by omega) _).setCell (by omega) _)) (fun hHeld=>?_)
    clear hK Kc
    refine tQ 14 ?_
    simp only [Act.put,ps1,ps2,ps3]
    refine wpAnyH_done (by kernel_rfl) ?_ _
    rw [HQQ.out]
    exact⟨rfl,pa,pb,rfl,(((y_pa.set 0 (.int .i64 (X)) (by simp)).set 1 (.int .i64 (Y0)) (by simp)).other (.int .i64 (U)) (fun e=>pq e.symm)).other (.int .i64 (V)) (fun e=>pq e.symm),by omega,hHeld.2.2.2⟩
 rw [HQQ.out]
 rintro e act Y ⟨rfl,pa,pb,rfl,RP,gP,bY⟩
 clear HQQ QQ HSf
 have zY:=bY.size
 have hpa:pa<Y.heap.size:=RP.lt
 have bwY:Below w.heap.size w Y:=bW.trans (bY.mono (by omega))
 have RGY:Row Y g (grR s n v m):=RG.below bY hgW
 have hB:=HO.out
 cases ok
 ·have e0:(a,b)=((-1:Int),(-1:Int)):=by have e:=HAB.out;unfold cellC at e;rw [←HO.out]at e;exact e
  obtain⟨rfl,rfl⟩:a= -1∧b= -1:=by simpa using e0
  clear e0 hB
  go_wp2
  exact bodyPost_ret (v:= .tuple #[.int .i64 (-1), .int .i64 (-1)]) (by simp [results,Try.results9,go_sem]) rfl ⟨rfl,bwY⟩
 ·have e0:(a,b)=(clX x s n,clX y s n):=by have e:=HAB.out;unfold cellC at e;rw [←HO.out]at e;exact e
  obtain⟨ha,hb⟩:a=clX x s n∧b=clX y s n:=by simpa using e0
  have eX:X=x % s:=by have e:=HX.out;rw [←HO.out]at e;exact e
  have eY:Y0=y % s:=by have e:=HY.out;rw [←HO.out]at e;exact e
  have s0:0<s:=by have:=h.1;omega
  have HA:Hid (a=X*(n:Int)/s):=by unfold Hid;rw [ha,eX];rfl
  have HBb:Hid (b=Y0*(n:Int)/s):=by unfold Hid;rw [hb,eY];rfl
  have bX:Hid (0≤X∧X<s):=by unfold Hid;rw [eX];exact⟨Int.emod_nonneg _ (by omega),Int.emod_lt_of_pos _ s0⟩
  have bY0:Hid (0≤Y0∧Y0<s):=by unfold Hid;rw [eY];exact⟨Int.emod_nonneg _ (by omega),Int.emod_lt_of_pos _ s0⟩
  have c0:=RP.cell 0 _ rfl
  have c1:=RP.cell 1 _ rfl
  have hgY:g<Y.heap.size:=by omega
  have CA:Hid (∀ w',Below Y.heap.size Y w'→Calls Try.prog 20 #[.pointer (some ⟨g,0,none⟩), .int .i64 X] w' fun e w''=>e= .returned (.int .i64 a)∧Below w'.heap.size w' w''):=fun w' hb=>bkPart g v n s m X w' (RGY.below hb hgY) h bX.out.1 bX.out.2 HA.out
  have CB:Hid (∀ w',Below Y.heap.size Y w'→Calls Try.prog 20 #[.pointer (some ⟨g,0,none⟩), .int .i64 Y0] w' fun e w''=>e= .returned (.int .i64 b)∧Below w'.heap.size w' w''):=fun w' hb=>bkPart g v n s m Y0 w' (RGY.below hb hgY) h bY0.out.1 bY0.out.2 HBb.out
  clear e0 hB ha hb eX eY
  go_wp2
  have HSi:Hid (∀ w',Below (Y.heap.size) Y w'→(fun w'=>w'.cell? ⟨pa,0,none⟩=some (.int .i64 (X))∧w'.cell? ⟨pa,1,none⟩=some (.int .i64 (Y0))∧Below (Y.heap.size) Y w') w'):=by
   unfold Hid
   intro w' hb
   exact⟨(hb.cell (p:=⟨pa,0,none⟩) hpa).trans c0,(hb.cell (p:=⟨pa,1,none⟩) hpa).trans c1,hb⟩
  refine wp_region_held_drew (S:=fun w'=>w'.cell? ⟨pa,0,none⟩=some (.int .i64 (X))∧w'.cell? ⟨pa,1,none⟩=some (.int .i64 (Y0))∧Below (Y.heap.size) Y w') (by kernel_rfl) ?_ (fun hHeld=>?_)
  ·exact HSi.out _ ((Below.refl _ _).drew)
  refine tn 0 ?_;refine tn 1 ?_;refine tn 2 ?_;refine tn 4 ?_;refine tn 5 ?_;refine tn 6 ?_
  simp only [Act.put,ps1,ps2,ps3]
  refine tcl 3 fun Kc hK=>?_
  go_simp
  (go_at_call 20;refine(CA.out _ hHeld.2.2).mono ?_;rintro e w8 ⟨rfl,bo8⟩)
  refine hK.out _ _ ?_ (fun hHeld=>?_)
  ·exact HSi.out _ (hHeld.2.2.trans (bo8.mono hHeld.2.2.size))
  clear hK Kc
  refine tcl 7 fun Kc hK=>?_
  go_simp
  (go_at_call 20;refine(CB.out _ hHeld.2.2).mono ?_;rintro e w9 ⟨rfl,bo9⟩)
  refine hK.out _ _ ?_ (fun hHeld=>?_)
  ·exact HSi.out _ (hHeld.2.2.trans (bo9.mono hHeld.2.2.size))
  clear hK Kc
  refine tn 8 ?_;refine tn 9 ?_
  simp only [Act.put,ps1,ps2,ps3]
  refine wpAnyH_done (by kernel_rfl) ?_ _
  have bF:=hHeld.2.2
  go_wp2
  exact bodyPost_ret (v:= .tuple #[.int .i64 a, .int .i64 b]) (by simp [results,Try.results9,go_sem]) rfl ⟨rfl,bwY.trans (bF.mono (by omega))⟩
set_option maxRecDepth 100000 in
set_option maxHeartbeats 1000000 in
theorem bkCell0(p:Value)(x y:Int)(w:World)(hp:p= .agg #[.int .i64 x, .int .i64 y]):Calls Try.prog 9 #[.pointer none,p] w fun e w'=>e= .returned (.tuple #[.int .i64 (-1), .int .i64 (-1)])∧Below w.heap.size w w':=by
 subst hp
 go_enter Try.func9,Try.ntmps9
 go_wp2
 exact bodyPost_ret (v:= .tuple #[.int .i64 (-1), .int .i64 (-1)]) (by simp [results,Try.results9,go_sem]) rfl ⟨rfl,(Below.refl _ _).alloc (Nat.le_refl _) _⟩
theorem cell_dec(x y s:Int)(n:Nat)(h:GrOk s n):(cellC x y s n=(-1, -1)∧homeC x y s=false)∨ ∃ a b:Nat,cellC x y s n=((a:Int),(b:Int))∧a<n∧b<n∧homeC x y s=true:=by
 unfold cellC
 cases hh:homeC x y s
 ·exact Or.inl ⟨rfl,rfl⟩
 ·right
  have h1:=clX_in (x:=x) h
  have h2:=clX_in (x:=y) h
  exact⟨(clX x s n).toNat,(clX y s n).toNat,by simp only [if_true];rw [Int.toNat_of_nonneg h1.1,Int.toNat_of_nonneg h2.1],by omega,by omega,rfl⟩
def lstC(x y s:Int)(n:Nat):Option Nat:=if homeC x y s then some ((clX x s n).toNat*n+(clX y s n).toNat)else none
theorem lst_in{x y s:Int}{n k:Nat}(h:GrOk s n)(hk:lstC x y s n=some k):k<n*n:=by
 unfold lstC at hk
 have h1:=clX_in (x:=x) h
 have h2:=clX_in (x:=y) h
 split at hk
 ·cases hk;exact idx_in (by omega) (by omega)
 ·cases hk
set_option maxRecDepth 100000 in
set_option maxHeartbeats 1000000 in
theorem bkList(g v n:Nat)(s m x y:Int)(w:World)(hrow:Row w g (grR s n v m))(h:GrOk s n){r:Option Addr}(hr:r=(lstC x y s n).map fun k=>⟨v,k,none⟩):
  Calls Try.prog 22 #[.pointer (some ⟨g,0,none⟩), .agg #[.int .i64 x, .int .i64 y]] w fun e w'=>e= .returned (.pointer r)∧Below w.heap.size w w':=by
 have hgl:=hrow.lt
 obtain⟨W,hW⟩: ∃ W,W=w.alloc (.cells #[.int .i64 x, .int .i64 y] 23):=⟨_,rfl⟩
 have bW:Below w.heap.size w W:=by rw [hW];exact(Below.refl _ _).alloc (Nat.le_refl _) _
 have zW:W.heap.size=w.heap.size+1:=by rw [hW];simp
 have RG:Row W g (grR s n v m):=hrow.below bW hgl
 rcases cell_dec x y s n h with⟨hc,hh⟩|⟨a,b,hc,ha,hb,hh⟩
 ·obtain rfl:r=none:=by rw [hr];unfold lstC;rw [hh];rfl
  have HC:Hid _:=hc
  clear hc hh hr
  go_enter Try.func22,Try.ntmps22
  go_wp2_with (go_at_call 9;fail)
  rw [←hW]
  clear hW
  refine(bkCell g v n s m x y W RG h HC.out.symm).mono ?_
  rintro e w1 ⟨rfl,b1⟩
  go_wp2
  go_ret
  exact⟨rfl,bW.trans (b1.mono (by omega))⟩
 ·have e1:clX x s n=(a:Int)∧clX y s n=(b:Int):=by have e:=hc;unfold cellC at e;rw [hh]at e;simpa using e
  obtain rfl:r=some ⟨v,a*n+b,none⟩:=by rw [hr];unfold lstC;rw [hh,e1.1,e1.2];rfl
  have HC:Hid _:=hc
  have e2:(a:Int) % (n:Int)=a:=Int.emod_eq_of_lt (by omega) (by omega)
  have e3:(b:Int) % (n:Int)=b:=Int.emod_eq_of_lt (by omega) (by omega)
  have n4:=h.2.2.2
  have E:Hid (∀ w',Row w' g (grR s n v m)→Calls Try.prog 27 #[.pointer (some ⟨g,0,none⟩), .int .i64 (a:Int), .int .i64 (b:Int)] w' fun e w''=>e= .returned (.pointer (some ⟨v,a*n+b,none⟩))∧Below w'.heap.size w' w''):=
   fun w' hr'=>bkAt g v n s m a b w' hr' h ⟨by omega,by omega⟩ ⟨by omega,by omega⟩ a b e2.symm e3.symm
  clear hc hh hr e1 e2 e3
  go_enter Try.func22,Try.ntmps22
  go_wp2_with (go_at_call 9;fail)
  rw [←hW]
  clear hW
  refine(bkCell g v n s m x y W RG h HC.out.symm).mono ?_
  rintro e w1 ⟨rfl,b1⟩
  have hs1:=b1.size
  have a0: ¬(a:Int)<0:=by omega
  go_wp2_with (go_at_call 27;fail)
  refine(E.out _ (RG.below b1 (by omega))).mono ?_
  rintro e w2 ⟨rfl,b2⟩
  go_wp2
  go_ret
  exact⟨rfl,(bW.trans (b1.mono (by omega))).trans (b2.mono (by omega))⟩
set_option maxRecDepth 100000 in
set_option maxHeartbeats 1000000 in
theorem bkList0(x y:Int)(w:World):Calls Try.prog 22 #[.pointer none, .agg #[.int .i64 x, .int .i64 y]] w fun e w'=>e= .returned (.pointer none)∧Below w.heap.size w w':=by
 go_enter Try.func22,Try.ntmps22
 go_wp2_with (go_at_call 9;fail)
 refine(bkCell0 _ x y _ rfl).mono ?_
 rintro e w1 ⟨rfl,b1⟩
 go_wp2
 go_ret
 exact⟨rfl,((Below.refl _ w).alloc (Nat.le_refl _) _).trans (b1.mono (by simp))⟩
set_option maxRecDepth 100000 in
theorem bkLen(g v n:Nat)(s m:Int)(w:World)(hrow:Row w g (grR s n v m)):Calls Try.prog 16 #[.pointer (some ⟨g,0,none⟩)] w fun e w'=>e= .returned (.int .i64 m)∧Below w.heap.size w w':=by
 have q:=hrow.cell 3 _ rfl
 go_enter Try.func16,Try.ntmps16
 go_wp2
 go_ret
 exact⟨rfl,Below.refl _ _⟩
set_option maxRecDepth 100000 in
theorem bkLen0(w:World):Calls Try.prog 16 #[.pointer none] w fun e w'=>e= .returned (.int .i64 0)∧Below w.heap.size w w':=by
 go_enter Try.func16,Try.ntmps16
 go_wp2
 go_ret
 exact⟨rfl,Below.refl _ _⟩
end Go.Proofs.Ytliajdokamlnnaa
