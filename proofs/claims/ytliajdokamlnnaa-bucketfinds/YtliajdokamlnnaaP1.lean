/-
  Joined texts, part 1:
  Rows of values in one block of memory: what is read of them behind a store, a draw, a new 
  Slices in memory, wherever they begin in their block: what is read of them behind a store,
  Objects that calls change in place: which blocks a call may write (Keep F: all others stay
  Slices of elements of several cells in memory of one's own: what is kept, append onto them
  Lists of ints in memory of one's own: the library's BinarySearch, Insert and Delete over t
  Numbers as digits to the base 4294967296: which digits a sum, a difference, a product has.
  What nat's Trim and Of answer; sums and differences of words.
  Sums and differences of words.
  What nat's Add answers.
  Numbers as digits to the base 65536: which digits a sum, a difference, a product has. It i
  How many digits a number needs, to the base 65536, and its digits without noughts at the e
  The arithmetic of a difference, and of a division by a small number, digit by digit. It im
  The arithmetic of a product, digit by digit. It imports nothing of the program.
  Digits to the base 65536, cut, joined, held against each other. It imports nothing of the 
  A region whose order is open, an operation at a time: one that is wanted and yields in eve
  What zelligeref03's Trim and Of answer.
  What nat's Cmp answers.
  What nat's Cmp answers where both numbers have the same length.
  What nat answers, with letters for the lengths: the contracts of the other texts, said onc
  Slices apart from a block, so that what is stored there leaves them as they are; and what 
  Whole numbers in memory; what package whole's signed and plus answer.
  What package whole's Add, Sub, Neg, Norm and Mul answer.
  What package whole's Floor answers.
-/
import Derived.WalkKit
import Derived.WalkSmall
import Derived.Laws.OwnMore
import Derived.Test.YtliajdokamlnnaaRows
import Derived.WalkSpells
import Derived.Deep.QuietTactic
import Derived.BigQuiet
import Derived.RegionTactic
import Derived.ChangeAlike
import Derived.OwnWalk
import Derived.Laws.AppendOwnNone
import Derived.Maps.AppendAt
import Derived.Shelf.Spec.SlicesInsertGrow
import Derived.Shelf.Slices.SearchI
import Derived.Shelf.Slices.Empties
import Derived.Lib.RowBridge
import Derived.Lib.LazyBuf
import Derived.Laws.BitsAllLaws
import Derived.Deep.RegionWith
import Derived.Deep.RegionHeld3
import Derived.Deep.AppendLies
import Derived.RangeFuncNested
import Derived.RangeFuncBound
import Derived.RangeFuncCalls
import Derived.RangeFuncLeaves
import Derived.RangeFuncBox
import Derived.Shelf.Abstract
import Derived.Shelf.RegionOpen
import Derived.OwnWalkIn
import Derived.TacticsInMore
import Derived.LoopNIn
import Derived.LoopIn
import Derived.Lib.ItoaNum
import Derived.Lib.IndexBytes
import Derived.Laws.BytesArg
namespace Go.Proofs.Ytliajdokamlnnaa
open Go.RowKit
def Row(w:World)(b:Nat)(xs:List Value):Prop:= ∀ j v,xs[j]? =some v→w.cell? ⟨b,j,none⟩=some v∧w.frozen? ⟨b,j,none⟩=false
theorem Row.cell{w:World}{b:Nat}{xs:List Value}(h:Row w b xs)(j:Nat)(v:Value)(hj:xs[j]? =some v):w.cell? ⟨b,j,none⟩=some v:=(h j v hj).1
theorem Row.free{w:World}{b:Nat}{xs:List Value}(h:Row w b xs)(j:Nat)(hj:j<xs.length):w.frozen? ⟨b,j,none⟩=false:=(h j xs[j] (List.getElem?_eq_getElem hj)).2
theorem Row.set{w:World}{b:Nat}{xs:List Value}(h:Row w b xs)(i:Nat)(v:Value)(hi:i<xs.length):Row (w.setCell ⟨b,i,none⟩ v) b (xs.set i v):=by
 intro j u hu
 rw [World.frozen?_setCell]
 by_cases e:i=j
 ·subst e
  rw [List.getElem?_set_self hi]at hu
  simp only [Option.some.injEq]at hu
  subst hu
  exact⟨World.cell?_setCell_same _ _ _ (h.cell i xs[i] (List.getElem?_eq_getElem hi)),h.free i hi⟩
 ·rw [List.getElem?_set_ne e]at hu
  rw [World.cell?_setCell_other _ _ _ _ (by intro q;simp only [Addr.mk.injEq]at q;omega)]
  exact h j u hu
theorem Row.below{w w':World}{b B:Nat}{xs:List Value}(h:Row w b xs)(hb:Below B w w')(hB:b<B):Row w' b xs:=by
 intro j u hu
 rw [hb.cell (p:=⟨b,j,none⟩) hB,hb.frozen (p:=⟨b,j,none⟩) hB]
 exact h j u hu
theorem Row.other{w:World}{b c i:Nat}{xs:List Value}(h:Row w b xs)(v:Value)(hc:c≠b):Row (w.setCell ⟨c,i,none⟩ v) b xs:=by
 intro j u hu
 rw [World.frozen?_setCell,World.cell?_setCell_other _ _ _ _ (by intro q;simp only [Addr.mk.injEq]at q;omega)]
 exact h j u hu
theorem Row.new(w:World)(xs:List Value)(t:TypeId):Row (w.alloc (.cells xs.toArray t)) w.heap.size xs:=by
 intro j u hu
 rw [World.cell?_alloc_new,World.frozen?_alloc_new]
 exact⟨by simpa using hu,rfl⟩
theorem Row.alloc{w:World}{b:Nat}{xs:List Value}(h:Row w b xs)(o:Obj)(hb:b<w.heap.size):Row (w.alloc o) b xs:=
 h.below (((Below.refl _ _).alloc (Nat.le_refl _) o)) hb
end Go.Proofs.Ytliajdokamlnnaa
namespace Go.Proofs.Ytliajdokamlnnaa
open Go.RowKit
set_option linter.unusedVariables false
def Seg(w:World)(b o:Nat)(xs:List Value):Prop:= ∀ j v,xs[j]? =some v→w.cell? ⟨b,o+j,none⟩=some v∧w.frozen? ⟨b,o+j,none⟩=false
theorem Seg.cell{w:World}{b o:Nat}{xs:List Value}(h:Seg w b o xs)(j:Nat)(v:Value)(hj:xs[j]? =some v):w.cell? ⟨b,o+j,none⟩=some v:=(h j v hj).1
theorem Seg.free{w:World}{b o:Nat}{xs:List Value}(h:Seg w b o xs)(j:Nat)(hj:j<xs.length):w.frozen? ⟨b,o+j,none⟩=false:=(h j xs[j] (List.getElem?_eq_getElem hj)).2
theorem Seg.set{w:World}{b o:Nat}{xs:List Value}(h:Seg w b o xs)(i:Nat)(v:Value)(hi:i<xs.length):Seg (w.setCell ⟨b,o+i,none⟩ v) b o (xs.set i v):=by
 intro j u hu
 rw [World.frozen?_setCell]
 by_cases e:i=j
 ·subst e
  rw [List.getElem?_set_self hi]at hu
  simp only [Option.some.injEq]at hu
  subst hu
  exact⟨World.cell?_setCell_same _ _ _ (h.cell i xs[i] (List.getElem?_eq_getElem hi)),h.free i hi⟩
 ·rw [List.getElem?_set_ne e]at hu
  rw [World.cell?_setCell_other _ _ _ _ (by intro q;simp only [Addr.mk.injEq]at q;omega)]
  exact h j u hu
theorem Seg.other{w:World}{b c o i:Nat}{xs:List Value}(h:Seg w b o xs)(v:Value)(hc:c≠b):Seg (w.setCell ⟨c,i,none⟩ v) b o xs:=by
 intro j u hu
 rw [World.frozen?_setCell,World.cell?_setCell_other _ _ _ _ (by intro q;simp only [Addr.mk.injEq]at q;omega)]
 exact h j u hu
theorem Seg.block{w w':World}{b o:Nat}{xs:List Value}(h:Seg w b o xs)(hb:w'.heap[b]? =w.heap[b]?):Seg w' b o xs:=by
 intro j u hu
 rw [World.cell?_of_block (w:=w) (a:=⟨b,o+j,none⟩) hb,World.frozen?_of_block (w:=w) (a:=⟨b,o+j,none⟩) hb]
 exact h j u hu
theorem Seg.below{w w':World}{b o B:Nat}{xs:List Value}(h:Seg w b o xs)(hb:Below B w w')(hB:b<B):Seg w' b o xs:=h.block (hb.block b hB)
structure Sl(w:World)(a:Option Addr)(n cap:Nat)(xs:List Value):Prop where
 len:xs.length=n
 room:n≤cap
 big:cap≤maxLen
 nil:a=none→n=0∧cap=0
 seg:n=0∨ ∃ b o,a=some ⟨b,o,none⟩∧b<w.heap.size∧Seg w b o xs
theorem Sl.below{w w':World}{a:Option Addr}{n cap:Nat}{xs:List Value}(h:Sl w a n cap xs)(hb:Below w.heap.size w w'):Sl w' a n cap xs:=by
 refine⟨h.len,h.room,h.big,h.nil,h.seg.imp id ?_⟩
 rintro⟨b,o,e,hlt,hs⟩
 exact⟨b,o,e,Nat.lt_of_lt_of_le hlt hb.size,hs.below hb hlt⟩
theorem Sl.at{w:World}{a:Option Addr}{n cap:Nat}{xs:List Value}(h:Sl w a n cap xs)(hn:0<n): ∃ b o,a=some ⟨b,o,none⟩∧b<w.heap.size∧Seg w b o xs:=h.seg.resolve_left (by omega)
theorem sl_nil(w:World):Sl w none 0 0 []:=⟨rfl,Nat.le_refl _,Nat.zero_le _,fun _=>⟨rfl,rfl⟩,Or.inl rfl⟩
abbrev Own(w:World)(base:Nat)(T:TypeId)(a:Option Addr)(n cap:Nat)(xs:List Value):Prop:=w.ownsRow base T 1 (.slice a n cap) n xs
theorem Own.sl{w:World}{base n cap:Nat}{T:TypeId}{a:Option Addr}{xs:List Value}(h:Own w base T a n cap xs):Sl w a n cap xs:=by
 obtain⟨hl,⟨h1,h2⟩|⟨g,cap',cur,hv,hb,hg,h1,h2,h3,h4⟩⟩:=h
 ·cases h1
  refine⟨by omega,Nat.le_refl _,Nat.zero_le _,fun _=>⟨rfl,rfl⟩,Or.inl rfl⟩
 ·cases hv
  refine⟨by omega,h1,h2,(by intro e;cases e),Or.inr ⟨g,0,rfl,(Array.getElem?_eq_some_iff.1 hg).1,?_⟩⟩
  intro j u hu
  have hj:j<n:=by
   have:=(List.getElem?_eq_some_iff.1 hu).1
   omega
  rw [←h4,Nat.mul_one,List.getElem?_take,if_pos hj]at hu
  refine⟨by simp [World.cell?,hg];simpa using hu,by simp [World.frozen?,hg]⟩
theorem Own.mono{w:World}{base base' n cap:Nat}{T:TypeId}{a:Option Addr}{xs:List Value}(h:Own w base T a n cap xs)(hb:base'≤base):Own w base' T a n cap xs:=by
 obtain⟨hl,h1|⟨g,cap',cur,hv,hb',r⟩⟩:=h
 ·exact⟨hl,Or.inl h1⟩
 ·exact⟨hl,Or.inr ⟨g,cap',cur,hv,by omega,r⟩⟩
theorem Own.below{w w':World}{base n cap:Nat}{T:TypeId}{a:Option Addr}{xs:List Value}(h:Own w base T a n cap xs)(hb:Below w.heap.size w w'):Own w' base T a n cap xs:=by
 obtain⟨hl,h1|⟨g,cap',cur,hv,hb',hg,r⟩⟩:=h
 ·exact⟨hl,Or.inl h1⟩
 ·exact⟨hl,Or.inr ⟨g,cap',cur,hv,hb',by rw [hb.block g (Array.getElem?_eq_some_iff.1 hg).1];exact hg,r⟩⟩
theorem Own.take{w:World}{base n cap m:Nat}{T:TypeId}{a:Option Addr}{xs:List Value}(h:Own w base T a n cap xs)(hm:m≤n):Own w base T a m cap (xs.take m):=by
 obtain⟨hl,⟨h1,h2⟩|⟨g,cap',cur,hv,hb',hg,h1,h2,h3,h4⟩⟩:=h
 ·subst h2
  obtain rfl:m=0:=by omega
  cases h1
  exact⟨by simp,Or.inl ⟨rfl,rfl⟩⟩
 ·cases hv
  refine⟨by rw [List.length_take,hl];omega,Or.inr ⟨g,cap,cur,rfl,hb',hg,by omega,h2,h3,?_⟩⟩
  rw [←h4,List.take_take,Nat.mul_one,Nat.mul_one,Nat.min_eq_left hm]
theorem Own.at{w:World}{base n cap:Nat}{T:TypeId}{a:Option Addr}{xs:List Value}(h:Own w base T a n cap xs)(hn:0<n): ∃ b,a=some ⟨b,0,none⟩∧b<w.heap.size∧base≤b∧Seg w b 0 xs:=by
 obtain⟨b,o,e,h1,h2⟩:=h.sl.at hn
 subst e
 obtain⟨hl,⟨h1',_⟩|⟨g,cap',cur,hv,hb',r⟩⟩:=h
 ·cases h1'
 ·cases hv
  exact⟨b,rfl,h1,hb',h2⟩
structure Wr(w w':World)(b lo hi:Nat):Prop where
 grown:w.grownBy w' (some b)
 cells: ∀ c t f,w.heap[b]? =some (.cells c t f)→ ∃ c',w'.heap[b]? =some (.cells c' t f)∧c'.size=c.size∧ ∀ o,(o<lo∨hi≤o)→c'[o]? =c[o]?
theorem Wr.refl(w:World)(b lo hi:Nat):Wr w w b lo hi:=⟨World.grownBy.refl _ _,fun c t f h=>⟨c,h,rfl,fun _ _=>rfl⟩⟩
theorem Wr.trans{w w' w'':World}{b lo hi:Nat}(h:Wr w w' b lo hi)(k:Wr w' w'' b lo hi):Wr w w'' b lo hi:=by
 refine⟨⟨k.grown.os.trans h.grown.os,k.grown.tape.trans h.grown.tape,k.grown.output.trans h.grown.output,Nat.le_trans h.grown.size k.grown.size,fun i hi hne=>(k.grown.block i (Nat.lt_of_lt_of_le hi h.grown.size) hne).trans (h.grown.block i hi hne)⟩,fun c t f hc=>?_⟩
 obtain⟨c1,e1,s1,o1⟩:=h.cells c t f hc
 obtain⟨c2,e2,s2,o2⟩:=k.cells c1 t f e1
 exact⟨c2,e2,s2.trans s1,fun o ho=>(o2 o ho).trans (o1 o ho)⟩
theorem Wr.set{w w':World}{b lo hi i:Nat}(h:Wr w w' b lo hi)(v:Value)(h1:lo≤i)(h2:i<hi):Wr w (w'.setCell ⟨b,i,none⟩ v) b lo hi:=by
 refine h.trans ⟨⟨rfl,rfl,rfl,by simp,fun k hk hne=>Below.heap_setCell _ _ _ _ (by simpa using hne)⟩,fun c t f hc=>?_⟩
 refine⟨c.setIfInBounds i v,?_,by simp,fun o ho=>?_⟩
 ·simp [World.setCell,Array.getElem?_modify,hc]
 ·rw [Array.getElem?_setIfInBounds_ne (by omega)]
theorem Wr.own{w w':World}{b lo hi n cap base:Nat}{T:TypeId}{a:Option Addr}{xs:List Value}(h:Wr w w' b lo hi)(hs:Own w base T a n cap xs)(hne: ∀ o,a≠some ⟨b,o,none⟩):Own w' base T a n cap xs:=by
 obtain⟨hl,h1|⟨g,cap',cur,hv,hb',hg,r⟩⟩:=hs
 ·exact⟨hl,Or.inl h1⟩
 ·cases hv
  exact⟨hl,Or.inr ⟨g,cap,cur,rfl,hb',by rw [h.grown.block g (Array.getElem?_eq_some_iff.1 hg).1 (fun e=>hne 0 (by cases e;rfl))];exact hg,r⟩⟩
theorem Wr.owned{w w':World}{b lo hi n cap base:Nat}{T:TypeId}{xs ys:List Value}(h:Wr w w' b lo hi)(hs:Own w base T (some ⟨b,0,none⟩) n cap xs)(hy:ys.length=n)(hseg:Seg w' b 0 ys):Own w' base T (some ⟨b,0,none⟩) n cap ys:=by
 obtain⟨hl,⟨h1,_⟩|⟨g,cap',cur,hv,hb',hg,h1,h2,h3,h4⟩⟩:=hs
 ·cases h1
 ·cases hv
  obtain⟨c',e,s,ho⟩:=h.cells _ _ _ hg
  refine⟨by omega,Or.inr ⟨b,cap,c',rfl,hb',e,h1,h2,by omega,?_⟩⟩
  refine List.ext_getElem? fun j=>?_
  rw [List.getElem?_take,Nat.mul_one]
  by_cases hj:j<n
  ·rw [if_pos hj]
   have:=(hseg j ys[j] (List.getElem?_eq_getElem (by omega))).1
   simp [World.cell?,e]at this
   rw [Array.getElem?_toList,this,List.getElem?_eq_getElem (by omega)]
  ·rw [if_neg hj,List.getElem?_eq_none (by omega)]
theorem seg_of_own{w:World}{base b n cap:Nat}{T:TypeId}{xs:List Value}(h:Own w base T (some ⟨b,0,none⟩) n cap xs):Seg w b 0 xs∧b<w.heap.size∧base≤b:=by
 obtain⟨hl,⟨h1,_⟩|⟨g,cap',cur,hv,hb',hg,h1,h2,h3,h4⟩⟩:=h
 ·cases h1
 ·cases hv
  refine⟨?_,(Array.getElem?_eq_some_iff.1 hg).1,hb'⟩
  intro j u hu
  have hj:=(List.getElem?_eq_some_iff.1 hu).1
  rw [←h4,Nat.mul_one,List.getElem?_take,if_pos (by omega)]at hu
  rw [Nat.zero_add]
  refine⟨by simp [World.cell?,hg];simpa using hu,by simp [World.frozen?,hg]⟩
structure Keep(F:Nat→Prop)(w w':World):Prop where
 os:w'.os=w.os
 tape:w'.tape=w.tape
 output:w'.output=w.output
 size:w.heap.size≤w'.heap.size
 block: ∀ k,k<w.heap.size→ ¬F k→w'.heap[k]? =w.heap[k]?
theorem Keep.refl(F:Nat→Prop)(w:World):Keep F w w:=⟨rfl,rfl,rfl,Nat.le_refl _,fun _ _ _=>rfl⟩
theorem Keep.trans{F G:Nat→Prop}{a b c:World}(h:Keep F a b)(k:Keep G b c)(hG: ∀ i,G i→F i∨a.heap.size≤i):Keep F a c:=
 ⟨k.os.trans h.os,k.tape.trans h.tape,k.output.trans h.output,Nat.le_trans h.size k.size,fun i hi hF=>(k.block i (Nat.lt_of_lt_of_le hi h.size) (fun g=>(hG i g).elim hF (fun x=>by omega))).trans (h.block i hi hF)⟩
theorem Keep.of{F:Nat→Prop}{w w':World}(h:Below w.heap.size w w'):Keep F w w':=⟨h.os,h.tape,h.output,h.size,fun k hk _=>h.block k hk⟩
theorem Keep.to{F:Nat→Prop}{a b c:World}(h:Keep F a b)(k:Below b.heap.size b c):Keep F a c:=h.trans (Keep.of (F:=fun _=>False) k) (fun _ x=>x.elim)
theorem Keep.drew{F:Nat→Prop}{a w:World}(h:Keep F a w):Keep F a w.drew:=⟨h.os,h.tape,h.output,h.size,h.block⟩
theorem Keep.alloc{F:Nat→Prop}{a w:World}(h:Keep F a w)(o:Obj):Keep F a (w.alloc o):=h.to ((Below.refl _ _).alloc (Nat.le_refl _) o)
theorem Keep.set{F:Nat→Prop}{a w:World}(h:Keep F a w){p:Addr}(hp:F p.block∨a.heap.size≤p.block)(u:Value):Keep F a (w.setCell p u):=
 h.trans (G:=fun k=>k=p.block) ⟨rfl,rfl,rfl,by simp [World.setCell],fun k _ hk=>Below.heap_setCell _ _ _ _ hk⟩ (fun i hi=>by subst hi;exact hp)
theorem Keep.below{F:Nat→Prop}{w w':World}{B:Nat}(h:Keep F w w')(hB:B≤w.heap.size)(hF: ∀ k,F k→B≤k):Below B w w':=
 ⟨h.os,h.tape,h.output,h.size,fun k hk=>h.block k (by omega) (fun f=>by have:=hF k f;omega)⟩
theorem Row.keep{F:Nat→Prop}{w w':World}{b:Nat}{xs:List Value}(h:Row w b xs)(hk:Keep F w w')(hb:b<w.heap.size)(hF: ¬F b):Row w' b xs:=by
 intro j u hu
 rw [World.cell?_of_block (w:=w) (a:=⟨b,j,none⟩) (hk.block b hb hF),World.frozen?_of_block (w:=w) (a:=⟨b,j,none⟩) (hk.block b hb hF)]
 exact h j u hu
def Slot(a:Option Addr)(k:Nat):Prop:= ∃ o,a=some ⟨k,o,none⟩
theorem Own.keep{F:Nat→Prop}{w w':World}{base n cap:Nat}{T:TypeId}{a:Option Addr}{xs:List Value}(h:Own w base T a n cap xs)(hk:Keep F w w')(hF: ∀ k,Slot a k→ ¬F k):Own w' base T a n cap xs:=by
 obtain⟨hl,h1|⟨g,cap',cur,hv,hb',hg,r⟩⟩:=h
 ·exact⟨hl,Or.inl h1⟩
 ·refine⟨hl,Or.inr ⟨g,cap',cur,hv,hb',?_,r⟩⟩
  rw [hk.block g (Array.getElem?_eq_some_iff.1 hg).1 (hF g (by cases hv;exact⟨0,rfl⟩))]
  exact hg
theorem Own.lt{w:World}{base n cap:Nat}{T:TypeId}{a:Option Addr}{xs:List Value}(h:Own w base T a n cap xs){k:Nat}(hk:Slot a k):k<w.heap.size∧base≤k:=by
 obtain⟨o,rfl⟩:=hk
 obtain⟨hl,⟨h1,_⟩|⟨g,cap',cur,hv,hb',hg,r⟩⟩:=h
 ·cases h1
 ·cases hv
  exact⟨(Array.getElem?_eq_some_iff.1 hg).1,hb'⟩
theorem Row.lt{w:World}{b:Nat}{x:Value}{xs:List Value}(h:Row w b (x::xs)):b<w.heap.size:=by
 have h0:=(h 0 x rfl).1
 refine Nat.lt_of_not_le fun hle=>?_
 unfold World.cell? at h0
 rw [Array.getElem?_eq_none hle]at h0
 simp at h0
def ints(L:List Int):List Value:=L.map fun x=> .int .i64 x
theorem ints_length(L:List Int):(ints L).length=L.length:=by simp [ints]
theorem ints_at{L:List Int}{k:Nat}{x:Int}(h:L[k]? =some x):(ints L)[k]? =some (.int .i64 x):=by simp [ints,h]
theorem ints_append(L M:List Int):ints (L++M)=ints L++ints M:=by simp [ints]
theorem ints_one(L:List Int): ∀ v∈ints L,v.oneCell'=true:=by
 intro v hv
 simp only [ints,List.mem_map]at hv
 obtain⟨x,_,rfl⟩:=hv
 rfl
theorem own_none(w:World)(base:Nat)(T:TypeId):Own w base T none 0 0 []:=⟨rfl,Or.inl ⟨rfl,rfl⟩⟩
theorem info_of{P:Program}{t:TypeId}{z:Value}{s b:Nat}(h:(P.info? t).map (fun i=>(i.zero,i.size,i.bytes))=some (some z,s,b)): ∃ i,P.info? t=some i∧i.zero=some z∧i.size=s∧i.bytes=b:=by
 cases hi:P.info? t with
 |none=>rw [hi]at h;cases h
 |some i=>
  rw [hi]at h
  simp only [Option.map_some,Option.some.injEq,Prod.mk.injEq]at h
  exact⟨i,rfl,h.1,h.2.1,h.2.2⟩
abbrev OwnS(w:World)(base:Nat)(T:TypeId)(s:Nat)(a:Option Addr)(n cap:Nat)(xs:List Value):Prop:=w.ownsRow base T s (.slice a n cap) n xs
section
variable {w w' : World} {base n cap s : Nat} {T : TypeId} {a : Option Addr} {xs : List Value}
theorem OwnS.room(h:OwnS w base T s a n cap xs):n≤cap∧cap≤maxLen:=by
 obtain⟨hl,⟨h1,h2⟩|⟨g,cap',cur,hv,hb',hg,h1,h2,_⟩⟩:=h
 ·cases h1;exact⟨Nat.le_refl _,by unfold maxLen;omega⟩
 ·cases hv;exact⟨h1,h2⟩
theorem OwnS.none_of(h:OwnS w base T s none n cap xs):n=0∧cap=0∧xs= []:=by
 obtain⟨hl,⟨h1,h2⟩|⟨g,cap',cur,hv,_⟩⟩:=h
 ·cases h1;exact⟨rfl,rfl,List.eq_nil_of_length_eq_zero (by omega)⟩
 ·cases hv
end
section
variable {α : Type} {f : α → List Value}
end
end Go.Proofs.Ytliajdokamlnnaa
namespace Go.Proofs.Ytliajdokamlnnaa
open Go.RowKit Go.Shelf Go.Sort Go.Lib
set_option linter.unusedVariables false
def rIns:Ren where
 f:=fun|21=>25|27=>40|28=>41|35=>53|39=>61|n=>n
 t:=fun|0=>0|3=>3|4=>4|22=>58|n=>n
 g:=fun n=>n
theorem lIns:Lays2.n21 Try.prog rIns where
 mixed:=by kernel_rfl
 f21:=Try.func25.trans (congrArg some (by kernel_rfl))
 f27:=Try.func40.trans (congrArg some (by kernel_rfl))
 f28:=Try.func41.trans (congrArg some (by kernel_rfl))
 f35:=Try.func53.trans (congrArg some (by kernel_rfl))
 f39:=Try.func61.trans (congrArg some (by kernel_rfl))
 t0:=Try.underlying0
 a0:=Try.isAgg0
 z0:=Try.sizeOf0
 v0:=Try.zeroValue0
 t3:=Try.underlying3
 a3:=Try.isAgg3
 z3:=Try.sizeOf3
 v3:=Try.zeroValue3
 t4:=Try.underlying4
 a4:=Try.isAgg4
 z4:=Try.sizeOf4
 v4:=Try.zeroValue4
 t22:=Try.underlying58
 a22:=Try.isAgg58
 z22:=Try.sizeOf58
 v22:=Try.zeroValue58
 i3:=by kernel_rfl
def rSea:Ren where
 f:=fun|25=>23|31=>38|32=>39|37=>52|n=>n
 t:=fun|0=>0|3=>3|4=>4|22=>58|40=>81|n=>n
 g:=fun n=>n
theorem lSea:Lays2.n25 Try.prog rSea where
 mixed:=by kernel_rfl
 f25:=Try.func23.trans (congrArg some (by kernel_rfl))
 f31:=Try.func38.trans (congrArg some (by kernel_rfl))
 f32:=Try.func39.trans (congrArg some (by kernel_rfl))
 f37:=Try.func52.trans (congrArg some (by kernel_rfl))
 t0:=Try.underlying0
 a0:=Try.isAgg0
 z0:=Try.sizeOf0
 v0:=Try.zeroValue0
 t3:=Try.underlying3
 a3:=Try.isAgg3
 z3:=Try.sizeOf3
 v3:=Try.zeroValue3
 t4:=Try.underlying4
 a4:=Try.isAgg4
 z4:=Try.sizeOf4
 v4:=Try.zeroValue4
 t22:=Try.underlying58
 a22:=Try.isAgg58
 z22:=Try.sizeOf58
 v22:=Try.zeroValue58
 t40:=Try.underlying81
 a40:=Try.isAgg81
 z40:=Try.sizeOf81
 v40:=Try.zeroValue81
section
variable {w w' : World} {base n cap g : Nat} {T : TypeId} {xs : List Value} {f : Nat → Value}
theorem own_row(h:Own w base T (some ⟨g,0,none⟩) n cap xs):(∃ f,w.rowIs g T cap f∧ ∀ j u,xs[j]? =some u→f j=u)∧base≤g∧n≤cap∧cap≤maxLen∧xs.length=n:=by
 obtain⟨hl,⟨h1,_⟩|⟨g',cap',cur,hv,hb,hg,h1,h2,h3,h4⟩⟩:=h
 ·cases h1
 ·cases hv
  rw [Nat.mul_one]at h3 h4 hl
  refine⟨⟨fun j=>cur[j]?.getD default,⟨cur,hg,h3,fun i hi=>?_⟩,fun j u hu=>?_⟩,hb,h1,h2,hl⟩
  ·simp [Array.getElem?_eq_getElem (show i<cur.size by omega)]
  ·have hj:=(List.getElem?_eq_some_iff.1 hu).1
   rw [←h4,List.getElem?_take,if_pos (by omega),Array.getElem?_toList]at hu
   simp [hu]
theorem row_own(hb:base≤g)(hr:w.rowIs g T cap f)(hl:xs.length=n)(hn:n≤cap)(hc:cap≤maxLen)(hx: ∀ j u,xs[j]? =some u→f j=u):Own w base T (some ⟨g,0,none⟩) n cap xs:=by
 obtain⟨c,h1,h2,h3⟩:=hr
 refine⟨by omega,Or.inr ⟨g,cap,c,rfl,hb,h1,hn,hc,by omega,?_⟩⟩
 apply List.ext_getElem?
 intro j
 rw [List.getElem?_take,Nat.mul_one]
 by_cases hj:j<n
 ·rw [if_pos hj,Array.getElem?_toList,h3 j (by omega)]
  obtain⟨u,hu⟩: ∃ u,xs[j]? =some u:=⟨xs[j],List.getElem?_eq_getElem (by omega)⟩
  rw [hu,hx j u hu]
 ·rw [if_neg hj,List.getElem?_eq_none (by omega)]
theorem Keep.cells{F:Nat→Prop}{a:World}{b:Nat}(hb:F b∨a.heap.size≤b): ∀ (vs:List Value) (o:Nat) (w:World),Keep F a w→Keep F a (w.setCells b o vs)
 | [],_,_,h=>h
 |v::r,o,w,h=>Keep.cells hb r (o+1) _ (h.set (p:=⟨b,o,none⟩) hb v)
theorem slot_self{g:Nat}{o:Nat}:Slot (some ⟨g,o,none⟩) g:=⟨o,rfl⟩
theorem slot_one{g k:Nat}{o:Nat}(h:Slot (some ⟨g,o,none⟩) k):k=g:=by obtain⟨q,e⟩:=h;cases e;rfl
theorem slot_no{k:Nat}(h:Slot none k):False:=by obtain⟨q,e⟩:=h;cases e
end
def plc(xs:List Int)(v:Int):Nat:=xs.countP (· <v)
def insL(xs:List Int)(v:Int):List Int:=xs.take (plc xs v)++v::xs.drop (plc xs v)
theorem plc_le(xs:List Int)(v:Int):plc xs v≤xs.length:=List.countP_le_length
def GotIns(base:Nat)(a:Option Addr)(xs:List Int)(w:World)(e:Ending)(w':World):Prop:=
 ∃ a' c',e= .returned (.slice a' xs.length c')∧Own w' base 3 a' xs.length c' (ints xs)∧Keep (Slot a) w w'∧ ∀ k,Slot a' k→Slot a k∨w.heap.size≤k
theorem ints_get{L:List Int}{j:Nat}{u:Value}(h:(ints L)[j]? =some u): ∃ x,L[j]? =some x∧u= .int .i64 x:=by
 simp only [ints,List.getElem?_map,Option.map_eq_some_iff]at h
 obtain⟨x,h1,h2⟩:=h
 exact⟨x,h1,h2.symm⟩
theorem ins_at{xs:List Int}{i:Nat}{v:Int}(hi:i≤xs.length)(j:Nat):(xs.take i++v::xs.drop i)[j]? =if j<i then xs[j]? else if j=i then some v else xs[j- 1]? :=by
 by_cases h1:j<i
 ·rw [if_pos h1,List.getElem?_append_left (by simp;omega),List.getElem?_take,if_pos h1]
 ·rw [if_neg h1,List.getElem?_append_right (by simp;omega),List.length_take,Nat.min_eq_left hi]
  by_cases h2:j=i
  ·subst h2;simp
  ·rw [if_neg h2,show j- i=(j- i- 1)+1 by omega,List.getElem?_cons_succ,List.getElem?_drop]
   congr 1
   omega
theorem shape_of{w:World}{g cap:Nat}{T:TypeId}{f:Nat→Value}(h:w.rowIs g T cap f):w.shape? g=some (T,cap):=by
 obtain⟨c,h1,h2,_⟩:=h
 unfold World.shape?
 rw [h1,←h2]
set_option maxHeartbeats 1000000 in
theorem lbInsert(base:Nat)(a:Option Addr)(c i vb:Nat)(xs:List Int)(v:Int)(w:World)(h:Own w base 3 a xs.length c (ints xs))(hb:base≤w.heap.size)(hi:i≤xs.length)(hl:xs.length≤1000)
  (hv:w.rowIs vb 3 1 (fun _=> .int .i64 v)) (hvb: ¬Slot a vb):
  Calls Try.prog 25 #[.slice a xs.length c, .int .i64 i, .slice (some ⟨vb,0,none⟩) 1 1] w (GotIns base a (xs.take i++v::xs.drop i) w):=by
 have hlen:(xs.take i++v::xs.drop i).length=xs.length+1:=by simp;omega
 have hvs: ∀ (j:Nat) (u:Value), [Value.int .i64 v][j]? =some u→w.cell? ⟨vb,0+j,none⟩=some u:=by
  intro j u hu
  have hj:=(List.getElem?_eq_some_iff.1 hu).1
  simp at hj
  subst hj
  simp at hu
  rw [←hu]
  exact hv.cell (by omega)
 have h1v: ∀ u∈ [Value.int .i64 v],u.oneCell'=true:=by intro u hu;simp at hu;subst hu;rfl
 by_cases hroom:c<xs.length+1
 ·-- a new row
  have hge:=grownCap_ge w (xs.length+1) c 3
  have hle:=grownCap_le_maxLen w (xs.length+1) c 3 (by unfold maxLen;omega)
  by_cases he:i=xs.length
  ·subst he
   have hcs: ∀ ad,a=some ad→ ∀ (j:Nat) (u:Value),(ints xs)[j]? =some u→w.cell? (ad.add j)=some u:=by
    rintro ad rfl j u hu
    have hj:=(List.getElem?_eq_some_iff.1 hu).1
    rw [ints_length]at hj
    obtain⟨b,e,_,_,hs⟩:=h.at (by omega)
    cases e
    rw [Addr.add_lit]
    exact(hs.cell j u hu)
   have hc:=Any2.slices_Insert_int_end_grow lIns a xs.length c vb 0 1 1 (ints xs) [.int .i64 v] w (by omega) (by have:=OwnS.room h;omega) hroom (by omega) (ints_length _) rfl (fun e=>by subst e;exact(OwnS.none_of h).1) hcs hvs h1v
   refine hc.mono ?_
   rintro e w' ⟨rfl,rfl⟩
   refine⟨some ⟨w.heap.size,0,none⟩,grownCap w (xs.length+1) c 3,by rw [hlen];rfl,?_,(Keep.refl _ _).drew.alloc _,fun k hk=>Or.inr (Nat.le_of_eq (slot_one hk).symm)⟩
   rw [hlen]
   have hcz:((ints xs++ [Value.int .i64 v]).toArray++Builtin.zeroCells (Value.int .i64 0).cells (grownCap w (xs.length+1) c 3- (xs.length+1))).size=grownCap w (xs.length+1) c 3:=by
    rw [Array.size_append,size_zeroCells]
    simp [ints_length,Value.cells]
    omega
   have hr:=World.rowIs_alloc w.drew ((ints xs++ [Value.int .i64 v]).toArray++Builtin.zeroCells (Value.int .i64 0).cells (grownCap w (xs.length+1) c 3- (xs.length+1))) 3 (fun j=>(((ints xs++ [Value.int .i64 v]).toArray++Builtin.zeroCells (Value.int .i64 0).cells (grownCap w (xs.length+1) c 3- (xs.length+1)))[j]?).getD default) (fun j hj=>by rw [Array.getElem?_eq_getElem hj];rfl)
   rw [hcz]at hr
   refine row_own hb hr (by rw [ints_length,hlen]) hge hle ?_
   intro j u hu
   have hj:=(List.getElem?_eq_some_iff.1 hu).1
   rw [ints_length,hlen]at hj
   have e1:ints xs++ [Value.int .i64 v]=ints (List.take xs.length xs++v::List.drop xs.length xs):=by rw [List.take_length,List.drop_length,ints_append];rfl
   try dsimp only
   rw [e1,Array.getElem?_append_left (by simp [ints_length];omega),List.getElem?_toArray,hu]
   rfl
  ·have hil:i<xs.length:=by omega
   obtain⟨b,ea,hbl,hbb,hs⟩:=h.at (by omega)
   subst ea
   have hc:=Any2.slices_Insert_int_grow lIns b 0 xs.length c i vb 0 1 1 (ints xs) [.int .i64 v] w hil (by omega) (by have:=OwnS.room h;omega) hroom (by omega) (ints_length _) rfl (fun j u hu=>hs.cell j u hu) hvs (ints_one _) h1v
   refine hc.mono ?_
   rintro e w' ⟨rfl,rfl⟩
   have hr0:=World.rowIs_alloc w ((List.take i (ints xs)).toArray++Builtin.zeroCells (Value.int .i64 0).cells (xs.length+1- i)++Builtin.zeroCells (Value.int .i64 0).cells (grownCap w (xs.length+1) c 3- (xs.length+1))) 3 (fun j=>((((List.take i (ints xs)).toArray++Builtin.zeroCells (Value.int .i64 0).cells (xs.length+1- i)++Builtin.zeroCells (Value.int .i64 0).cells (grownCap w (xs.length+1) c 3- (xs.length+1))))[j]?).getD default) (fun j hj=>by rw [Array.getElem?_eq_getElem hj];rfl)
   have hcz:((List.take i (ints xs)).toArray++Builtin.zeroCells (Value.int .i64 0).cells (xs.length+1- i)++Builtin.zeroCells (Value.int .i64 0).cells (grownCap w (xs.length+1) c 3- (xs.length+1))).size=grownCap w (xs.length+1) c 3:=by
    rw [Array.size_append,Array.size_append,size_zeroCells,size_zeroCells]
    simp [ints_length,Value.cells]
    omega
   rw [hcz]at hr0
   have hr1:=rowIs_setCells [.int .i64 v] i _ _ hr0.drew
   have hr2:=rowIs_setCells (List.drop i (ints xs)) (i+1) _ _ hr1.drew
   refine⟨some ⟨w.heap.size,0,none⟩,grownCap w (xs.length+1) c 3,by rw [hlen];rfl,?_,Keep.cells (Or.inr (Nat.le_refl _)) _ _ _ (Keep.cells (Or.inr (Nat.le_refl _)) _ _ _ ((Keep.refl _ _).alloc _).drew).drew,fun k hk=>Or.inr (Nat.le_of_eq (slot_one hk).symm)⟩
   rw [hlen]
   refine row_own hb hr2 (by rw [ints_length,hlen]) hge hle ?_
   intro j u hu
   obtain⟨x,hx,rfl⟩:=ints_get hu
   rw [ins_at hi]at hx
   have hj:=(List.getElem?_eq_some_iff.1 hu).1
   rw [ints_length,hlen]at hj
   try dsimp only
   by_cases h1:j<i
   ·rw [if_pos h1]at hx
    rw [if_neg (by omega),if_neg (by omega),Array.getElem?_append_left (by simp [ints_length,size_zeroCells];omega),Array.getElem?_append_left (by simp [ints_length];omega),List.getElem?_toArray,List.getElem?_take,if_pos h1,ints_at hx]
    rfl
   ·rw [if_neg h1]at hx
    by_cases h2:j=i
    ·subst h2
     rw [if_pos rfl]at hx
     rw [if_neg (by omega),if_pos (by simp)]
     simpa using hx
    ·rw [if_neg h2]at hx
     rw [if_pos (by simp [ints_length];omega),List.getElem?_drop,show i+(j- (i+1))=j- 1 by omega,ints_at hx]
     rfl
 ·-- there is room
  obtain⟨b,ea⟩: ∃ b,a=some ⟨b,0,none⟩:=by
   obtain⟨_,⟨h1,h2⟩|⟨g,cap',cur,h1,_⟩⟩:=h
   ·simp only [Value.slice.injEq]at h1;exact absurd (by omega) hroom
   ·cases h1;exact⟨g,rfl⟩
  subst ea
  obtain⟨⟨f,hr,hf⟩,hbb,hn,hm,_⟩:=own_row h
  have hneb:vb≠b:=fun e=>hvb (e▸slot_self)
  by_cases he:i=xs.length
  ·subst he
   have hc:=Any2.slices_Insert_int_end_room lIns b 0 xs.length c vb 0 1 1 [.int .i64 v] w (by omega) (by omega) (by unfold maxLen at hm;omega) rfl (fun j hj=>by rw [hr.cell (by omega)];rfl) (fun j hj=>hr.frozen _) hvs h1v
   refine hc.mono ?_
   rintro e w' ⟨rfl,rfl⟩
   refine⟨_,c,by rw [hlen],?_,Keep.cells (Or.inl slot_self) _ _ _ (Keep.refl _ _),fun k hk=>Or.inl hk⟩
   rw [hlen]
   refine row_own hbb (rowIs_setCells [.int .i64 v] (0+xs.length) _ _ hr) (by rw [ints_length,hlen]) (by omega) hm ?_
   intro j u hu
   obtain⟨x,hx,rfl⟩:=ints_get hu
   rw [ins_at hi]at hx
   have hj:=(List.getElem?_eq_some_iff.1 hu).1
   rw [ints_length,hlen]at hj
   try dsimp only
   by_cases h1:j<xs.length
   ·rw [if_pos h1]at hx
    rw [if_neg (by omega)]
    exact hf j _ (ints_at hx)
   ·obtain rfl:j=xs.length:=by omega
    rw [if_neg h1,if_pos rfl]at hx
    rw [if_pos (by simp)]
    simpa using hx
  ·have hil:i<xs.length:=by omega
   have hc:=Any2.slices_Insert_int_shift lIns b 0 xs.length c i vb 0 1 1 (ints xs) [.int .i64 v] w hil (by omega) (by omega) (by unfold maxLen at hm;omega) hneb (ints_length _) rfl
    (fun j u hu=>by rw [Nat.zero_add,hr.cell (by have:=(List.getElem?_eq_some_iff.1 hu).1;rw [ints_length]at this;omega),hf j u hu]) (fun j hj=>by rw [Nat.zero_add,hr.cell (by omega)];rfl) (fun j hj=>hr.frozen _) hvs (ints_one _) h1v
    3 3 1 c (shape_of hv) (shape_of hr) (by omega) (hv.frozen _) (hv.frozen _)
   refine hc.mono ?_
   rintro e w' ⟨rfl,rfl⟩
   refine⟨_,c,by rw [hlen],?_,Keep.cells (Or.inl slot_self) _ _ _ (Keep.cells (Or.inl slot_self) _ _ _ (Keep.refl _ _).drew),fun k hk=>Or.inl hk⟩
   rw [hlen]
   refine row_own hbb (rowIs_setCells [.int .i64 v] (0+i) _ _ (rowIs_setCells (List.drop i (ints xs)) (0+(i+1)) _ _ hr.drew)) (by rw [ints_length,hlen]) (by omega) hm ?_
   intro j u hu
   obtain⟨x,hx,rfl⟩:=ints_get hu
   rw [ins_at hi]at hx
   have hj:=(List.getElem?_eq_some_iff.1 hu).1
   rw [ints_length,hlen]at hj
   try dsimp only
   by_cases h1:j<i
   ·rw [if_pos h1]at hx
    rw [if_neg (by omega),if_neg (by omega)]
    exact hf j _ (ints_at hx)
   ·rw [if_neg h1]at hx
    by_cases h2:j=i
    ·subst h2
     rw [if_pos rfl]at hx
     rw [if_pos (by simp)]
     simpa using hx
    ·rw [if_neg h2]at hx
     rw [if_neg (by simp;omega),if_pos (by simp [ints_length];omega),List.getElem?_drop,show i+(j- (0+(i+1)))=j- 1 by omega,ints_at hx]
     rfl
theorem lbSearch(base:Nat)(a:Option Addr)(c:Nat)(xs:List Int)(v:Int)(w:World)(h:Own w base 3 a xs.length c (ints xs))(hl:xs.length≤1000)(hs:xs.Pairwise (· ≤ ·)):
  Calls Try.prog 23 #[.slice a xs.length c, .int .i64 v] w fun e w'=>e= .returned (.tuple #[.int .i64 (plc xs v:Nat), .bool (xs.contains v)])∧ ∃ q,w'=w.drewN q:=by
 cases a with
 |none=>
  obtain⟨h1,h2,h3⟩:=OwnS.none_of h
  obtain rfl:xs= []:=List.eq_nil_of_length_eq_zero h1
  refine(Any.slices_BinarySearch_int_empty lSea none c v w).mono ?_
  rintro e w' ⟨rfl,rfl⟩
  exact⟨rfl,0,rfl⟩
 |some ad=>
  obtain⟨b,rfl⟩: ∃ b,ad=⟨b,0,none⟩:=by
   obtain⟨_,⟨h1,h2⟩|⟨g,cap',cur,h1,_⟩⟩:=h
   ·cases h1
   ·cases h1;exact⟨g,rfl⟩
  obtain⟨⟨f,hr,hf⟩,hbb,hn,hm,_⟩:=own_row h
  have hc:=Any.slices_BinarySearch_int lSea b 0 xs.length c xs v w (Nat.le_refl _) (by omega) (fun j hj=>by
   have hg:xs[j]? =some xs[j]:=List.getElem?_eq_getElem hj
   rw [Nat.zero_add,hr.cell (by omega),hf j _ (ints_at hg)]
   simp [List.getD,hg]) (by rw [List.take_length];exact hs)
  rw [List.take_length]at hc
  exact hc
end Go.Proofs.Ytliajdokamlnnaa
namespace Go.Proofs.Ytliajdokamlnnaa.wd
open Go.RowKit
def dg(v:Int)(i:Nat):Int:=v/4294967296^i % 4294967296
theorem dg_range(v:Int)(i:Nat):0≤dg v i∧dg v i<4294967296:=by unfold dg;omega
theorem p256(i:Nat):(0:Int)<4294967296^i:=Int.pow_pos (by decide)
def dcells(n:Nat)(v:Int):List Value:=(List.range n).map fun j=> .int .u32 (dg v j)
theorem dcells_at(n:Nat)(v:Int)(i:Nat)(h:i<n):(dcells n v)[i]? =some (.int .u32 (dg v i)):=by simp [dcells,h]
end Go.Proofs.Ytliajdokamlnnaa.wd
namespace Go.Proofs.Ytliajdokamlnnaa
open Go.RowKit
set_option linter.unusedVariables false
theorem infoInt:(Try.prog.info? 3).map (fun i=>(i.zero,i.size,i.bytes))=some (some (.int .i64 0),1,8):=by kernel_rfl
theorem Below.to{w w':World}(h:w.grownBy w' none):Below w.heap.size w w':=(Below.refl _ w).grown h (Nat.le_refl _) (fun k e=>by cases e)
theorem dcells_two(x:Nat)(h:x<18446744073709551616):wd.dcells 2 (x:Int)= [.int .u32 ((x:Int) % 4294967296), .int .u32 ((x:Int)/4294967296)]:=by
 simp [wd.dcells,List.range_succ,wd.dg]
 omega
theorem own_two(w:World)(x:Nat)(h:x<18446744073709551616):Own (w.alloc (.cells #[.int .u32 ((x:Int) % 4294967296), .int .u32 ((x:Int)/4294967296)] 94)) w.heap.size 94 (some ⟨w.heap.size,0,none⟩) 2 2 (wd.dcells 2 x):=by
 rw [dcells_two x h]
 exact World.ownsRow_lit w _ 2 (Nat.le_refl _) (by decide) rfl
theorem make_any{P:Program}(w:World){ops:Array Oper}{rest:List Oper}{o:Oper}{a:Act}{Q:Exit→Act→World→Prop}
  (hg:o.guard=none) (l c:Operand) (t:TypeId) (hop:o.op=Op.makeSlice t l c)
  (base:Nat) (e:TypeId) (i:TypeInfo) (z:Value) (h1:P.underlying t=some (.slice e)) (h2:P.info? e=some i) (h3:i.zero=some z) (h4:i.size=1) (hz:z.cells= #[z])
  (kl kc:IntKind) (L C:Int) (n:Nat) (hl:a.eval l= .int kl L) (hc:a.eval c= .int kc C) (hL:L=(n:Int)) (hC:C=(n:Int)) (b2:i.bytes*n≤281474976710656) (b3:n≤maxLen) (b4:base≤w.heap.size)
  (hK: ∀ w',Own w' base e (some ⟨w.heap.size,0,none⟩) n n (List.replicate n z)→Below w.heap.size w w'→wpList P ops Q rest (a.put o.dst (.slice (some ⟨w.heap.size,0,none⟩) n n)) w'):
  wpList P ops Q (o::rest) a w:=by
 refine wpList_make_full w hg l c t hop base e i z 1 h1 h2 h3 h4 kl kc L C n hl hc hL hC b2 b3 b4 ?_
 intro w' h hgr
 rw [hz,Nat.mul_one,toList_madeCells_one]at h
 exact hK w' h (Below.to hgr)
theorem Own.set{w:World}{base b n cap i:Nat}{T:TypeId}{xs:List Value}(h:Own w base T (some ⟨b,0,none⟩) n cap xs)(v:Value)(hi:i<n):Own (w.setCell ⟨b,i,none⟩ v) base T (some ⟨b,0,none⟩) n cap (xs.set i v):=by
 have hs:=(seg_of_own h).1.set i v (by have:=h.sl.len;omega)
 rw [Nat.zero_add]at hs
 exact((Wr.refl w b 0 n).set v (Nat.zero_le _) hi).owned h (by rw [List.length_set];exact h.sl.len) hs
theorem Own.cell{w:World}{base b n cap:Nat}{T:TypeId}{xs:List Value}(h:Own w base T (some ⟨b,0,none⟩) n cap xs)(j:Nat)(v:Value)(hj:xs[j]? =some v):w.cell? ⟨b,j,none⟩=some v:=by
 have:=(seg_of_own h).1.cell j v hj
 rwa [Nat.zero_add]at this
theorem Own.free{w:World}{base b n cap:Nat}{T:TypeId}{xs:List Value}(h:Own w base T (some ⟨b,0,none⟩) n cap xs)(j:Nat)(hj:j<n):w.frozen? ⟨b,j,none⟩=false:=by
 have:=(seg_of_own h).1.free j (by have:=h.sl.len;omega)
 rwa [Nat.zero_add]at this
end Go.Proofs.Ytliajdokamlnnaa
namespace Go.Proofs.Ytliajdokamlnnaa.hf
open Go.RowKit
def dg(v:Int)(i:Nat):Int:=v/65536^i % 65536
theorem dg_range(v:Int)(i:Nat):0≤dg v i∧dg v i<65536:=by unfold dg;omega
theorem p256(i:Nat):(0:Int)<65536^i:=Int.pow_pos (by decide)
def fill(n:Nat)(p:Nat→Bool)(u v:Int):List Value:=(List.range n).map fun j=> .int .i64 (if p j then dg u j else dg v j)
def dcells(n:Nat)(v:Int):List Value:=(List.range n).map fun j=> .int .i64 (dg v j)
def mix(n i:Nat)(u v:Int):List Value:=fill n (fun j=>decide (j<i)) u v
theorem fill_length(n:Nat)(p:Nat→Bool)(u v:Int):(fill n p u v).length=n:=by simp [fill]
theorem dcells_length(n:Nat)(v:Int):(dcells n v).length=n:=by simp [dcells]
theorem dcells_at(n:Nat)(v:Int)(i:Nat)(h:i<n):(dcells n v)[i]? =some (.int .i64 (dg v i)):=by simp [dcells,h]
theorem fill_at(n:Nat)(p:Nat→Bool)(u v:Int)(i:Nat)(h:i<n):(fill n p u v)[i]? =some (.int .i64 (if p i then dg u i else dg v i)):=by simp [fill,h]
theorem mix_at(n k:Nat)(u v:Int)(i:Nat)(h:i<n)(hk:k≤i):(mix n k u v)[i]? =some (.int .i64 (dg v i)):=by
 rw [mix,fill_at _ _ _ _ _ h];simp;omega
theorem fill_congr{n:Nat}{p q:Nat→Bool}{u v u' v':Int}(h: ∀ j,j<n→(if p j then dg u j else dg v j)=(if q j then dg u' j else dg v' j)):fill n p u v=fill n q u' v':=by
 unfold fill
 refine List.map_congr_left fun j hj=>?_
 rw [h j (by simpa using hj)]
theorem fill_set(n:Nat)(p:Nat→Bool)(u v:Int)(i:Nat):(fill n p u v).set i (.int .i64 (dg u i))=fill n (fun j=>p j||j==i) u v:=by
 refine List.ext_getElem? fun j=>?_
 rw [List.getElem?_set]
 by_cases e:i=j
 ·subst e
  by_cases h:i<n
  ·rw [if_pos rfl,if_pos (by rw [fill_length];exact h),fill_at _ _ _ _ _ h];simp
  ·rw [if_pos rfl,if_neg (by rw [fill_length];exact h),List.getElem?_eq_none (by rw [fill_length];omega)]
 ·by_cases h:j<n
  ·rw [if_neg e,fill_at _ _ _ _ _ h,fill_at _ _ _ _ _ h]
   have e':(j==i)=false:=by simp;omega
   simp [e']
  ·rw [if_neg e,List.getElem?_eq_none (by simp [fill_length];omega),List.getElem?_eq_none (by simp [fill_length];omega)]
theorem mix_set(n i:Nat)(u v:Int):(mix n i u v).set i (.int .i64 (dg u i))=mix n (i+1) u v:=by
 unfold mix
 rw [fill_set]
 refine fill_congr fun j _=>?_
 have:(decide (j<i)||j==i)=decide (j<i+1):=by rw [Bool.eq_iff_iff];simp;omega
 rw [this]
theorem mix_zero(n:Nat)(u v:Int):mix n 0 u v=dcells n v:=by unfold mix fill dcells;simp
theorem mix_full(n:Nat)(u v:Int):mix n n u v=dcells n u:=by
 unfold mix fill dcells
 refine List.map_congr_left fun j hj=>?_
 have:j<n:=by simpa using hj
 simp [this]
theorem dg_congr{u v:Int}{i j:Nat}(t:Int)(h:u=v+t*65536^i)(hj:j<i):dg u j=dg v j:=by
 unfold dg
 obtain⟨d,rfl⟩: ∃ d,i=j+1+d:=⟨i- (j+1),by omega⟩
 have e:t*(65536:Int)^(j+1+d)=(65536*(t*65536^d))*65536^j:=by
  rw [show j+1+d=d+1+j by omega,Int.pow_add,Int.pow_succ,←Int.mul_assoc,←Int.mul_assoc,Int.mul_comm (t*65536^d) 65536]
 rw [h,e,Int.add_mul_ediv_right _ _ (Int.ne_of_gt (p256 j))]
 omega
def carry(x y:Int)(i:Nat):Int:=(x % 65536^i+y % 65536^i)/65536^i
theorem carry_zero(x y:Int):carry x y 0=0:=by simp [carry]
theorem emod_succ(x:Int)(i:Nat):x % 65536^(i+1)=dg x i*65536^i+x % 65536^i:=by
 unfold dg
 have hp:=p256 i
 have h1:=Int.mul_ediv_add_emod x (65536^i)
 have h2:=Int.mul_ediv_add_emod (x/65536^i) 65536
 have b:=Int.emod_nonneg x (Int.ne_of_gt hp)
 have b':=Int.emod_lt_of_pos x hp
 have c:=Int.emod_nonneg (x/65536^i) (show(65536:Int)≠0 by decide)
 have c':=Int.emod_lt_of_pos (x/65536^i) (show(0:Int)<65536 by decide)
 have e:x=(x/65536^i % 65536*65536^i+x % 65536^i)+(x/65536^i/65536)*65536^(i+1):=by
  have:(x/65536^i/65536)*(65536:Int)^(i+1)=(65536*(x/65536^i/65536))*65536^i:=by rw [Int.pow_succ,Int.mul_comm ((65536:Int)^i) 65536,←Int.mul_assoc,Int.mul_comm _ 65536]
  rw [this]
  have h3:(65536*(x/65536^i/65536))*(65536:Int)^i+x/65536^i % 65536*65536^i=x/65536^i*65536^i:=by rw [←Int.add_mul,h2]
  have h4:x/65536^i*(65536:Int)^i=65536^i*(x/65536^i):=Int.mul_comm _ _
  omega
 have l0:0≤x/65536^i % 65536*65536^i+x % 65536^i:=Int.add_nonneg (Int.mul_nonneg c (Int.le_of_lt hp)) b
 have l1:x/65536^i % 65536*65536^i+x % 65536^i<65536^(i+1):=by
  have:x/65536^i % 65536*(65536:Int)^i≤65535*65536^i:=Int.mul_le_mul_of_nonneg_right (by omega) (Int.le_of_lt hp)
  rw [Int.pow_succ]
  omega
 have key:x % 65536^(i+1)=(x/65536^i % 65536*65536^i+x % 65536^i) % 65536^(i+1):=by
  have:=congrArg (· % (65536:Int)^(i+1)) e
  simpa [Int.add_mul_emod_self_right]using this
 rw [key,Int.emod_eq_of_lt l0 l1]
theorem carry_sum(x y:Int)(i:Nat):(x % 65536^(i+1)+y % 65536^(i+1))/65536^i=carry x y i+dg x i+dg y i:=by
 rw [emod_succ,emod_succ]
 unfold carry
 have e:dg x i*65536^i+x % 65536^i+(dg y i*65536^i+y % 65536^i)=(x % 65536^i+y % 65536^i)+(dg x i+dg y i)*65536^i:=by rw [Int.add_mul];omega
 rw [e,Int.add_mul_ediv_right _ _ (Int.ne_of_gt (p256 i))]
 omega
theorem carry_succ(x y:Int)(i:Nat):carry x y (i+1)=(carry x y i+dg x i+dg y i)/65536:=by
 rw [←carry_sum]
 show(x % 65536^(i+1)+y % 65536^(i+1))/65536^(i+1)=_
 have hp:=p256 i
 rw [Int.pow_succ,Int.ediv_ediv,if_neg (by omega)]
 omega
theorem add_digit(x y:Int)(i:Nat):(carry x y i+dg x i+dg y i) % 65536=dg (x+y) i:=by
 unfold dg carry
 have hp:=p256 i
 have h1:=Int.mul_ediv_add_emod x (65536^i)
 have h2:=Int.mul_ediv_add_emod y (65536^i)
 have e:x+y=(x % 65536^i+y % 65536^i)+(x/65536^i+y/65536^i)*65536^i:=by
  have a1:x/65536^i*(65536:Int)^i=65536^i*(x/65536^i):=Int.mul_comm _ _
  have a2:y/65536^i*(65536:Int)^i=65536^i*(y/65536^i):=Int.mul_comm _ _
  rw [Int.add_mul];omega
 have e2:(x+y)/65536^i=(x % 65536^i+y % 65536^i)/65536^i+(x/65536^i+y/65536^i):=by
  conv=>lhs;rw [e]
  exact Int.add_mul_ediv_right _ _ (Int.ne_of_gt hp)
 rw [e2]
 omega
theorem carry_range(x y:Int)(i:Nat):0≤carry x y i∧carry x y i≤1:=by
 unfold carry
 have hp:=p256 i
 have a:=Int.emod_nonneg x (Int.ne_of_gt hp)
 have a':=Int.emod_lt_of_pos x hp
 have b:=Int.emod_nonneg y (Int.ne_of_gt hp)
 have b':=Int.emod_lt_of_pos y hp
 refine⟨Int.ediv_nonneg (by omega) (by omega),?_⟩
 have:(x % 65536^i+y % 65536^i)/65536^i<2:=Int.ediv_lt_of_lt_mul hp (by omega)
 omega
end Go.Proofs.Ytliajdokamlnnaa.hf
namespace Go.Proofs.Ytliajdokamlnnaa.hf
open Go.RowKit
set_option linter.unusedVariables false
def IsLen(v n:Nat):Prop:=v<65536^n∧(n=0∨65536^(n- 1)≤v)
theorem isLen_one{v n m:Nat}(h:IsLen v n)(h':IsLen v m):n=m:=by
 obtain⟨a,b⟩:=h
 obtain⟨a',b'⟩:=h'
 rcases Nat.lt_trichotomy n m with e|e|e
 ·rcases b' with b'|b'
  ·omega
  ·have:=Nat.pow_le_pow_right (n:=65536) (by decide) (show n≤m- 1 by omega)
   omega
 ·exact e
 ·rcases b with b|b
  ·omega
  ·have:=Nat.pow_le_pow_right (n:=65536) (by decide) (show m≤n- 1 by omega)
   omega
theorem isLen_cut: ∀ (n v:Nat),v<65536^n→ ∃ m,m≤n∧IsLen v m
 |0,v,h=>⟨0,Nat.le_refl _,h,Or.inl rfl⟩
 |n+1,v,h=>by
  by_cases c:v<65536^n
  ·obtain⟨m,h1,h2⟩:=isLen_cut n v c
   exact⟨m,by omega,h2⟩
  ·exact⟨n+1,Nat.le_refl _,h,Or.inr (by simp;omega)⟩
def nlen(v:Nat):Nat:=if h:v=0 then 0 else nlen (v/65536)+1
 termination_by v
 decreasing_by exact Nat.div_lt_self (Nat.pos_of_ne_zero h) (by decide)
theorem nlen_is(v:Nat):IsLen v (nlen v):=by
 induction v using Nat.strongRecOn with
 |ind v ih=>
  unfold nlen
  split
  ·rename_i h
   rw [h]
   exact⟨by decide,Or.inl rfl⟩
  ·rename_i h
   obtain⟨h1,h2⟩:=ih (v/65536) (Nat.div_lt_self (Nat.pos_of_ne_zero h) (by decide))
   refine⟨?_,Or.inr ?_⟩
   ·rw [Nat.pow_succ]
    exact(Nat.div_lt_iff_lt_mul (by decide)).1 h1
   ·rw [Nat.add_sub_cancel]
    rcases h2 with h2|h2
    ·rw [h2]
     exact Nat.pos_of_ne_zero h
    ·rcases Nat.eq_zero_or_pos (nlen (v/65536))with h3|h3
     ·rw [h3]
      exact Nat.pos_of_ne_zero h
     ·have h4:=(Nat.le_div_iff_mul_le (by decide)).1 h2
      rw [←Nat.pow_succ]at h4
      rwa [show(nlen (v/65536)- 1).succ=nlen (v/65536) by omega]at h4
theorem nlen_eq{v n:Nat}(h:IsLen v n):nlen v=n:=isLen_one (nlen_is v) h
theorem nlen_le{v n:Nat}(h:v<65536^n):nlen v≤n:=by
 obtain⟨m,h1,h2⟩:=isLen_cut n v h
 rw [nlen_eq h2];exact h1
theorem nlen_zero:nlen 0=0:=nlen_eq ⟨by decide,Or.inl rfl⟩
theorem nlen_lt(v:Nat):v<65536^nlen v:=(nlen_is v).1
theorem nlen_pos{v:Nat}(h:0<v):0<nlen v:=by
 rcases Nat.lt_or_ge 0 (nlen v)with l|l
 ·exact l
 ·have:=nlen_lt v
  rw [show nlen v=0 by omega]at this
  simp at this
  omega
theorem lt_of_nlen{u v:Nat}(h:nlen u<nlen v):u<v:=by
 obtain⟨_,b⟩:=nlen_is v
 rcases b with b|b
 ·omega
 ·have:=nlen_lt u
  have:=Nat.pow_le_pow_right (n:=65536) (by decide) (show nlen u≤nlen v- 1 by omega)
  omega
theorem pow_cast(k:Nat):((65536^k:Nat):Int)=(65536:Int)^k:=by rw [Int.natCast_pow];rfl
theorem dg_nat(v k:Nat):dg (v:Int) k=((v/65536^k % 65536:Nat):Int):=by
 unfold dg
 rw [←pow_cast]
 omega
theorem dg_over{v k:Nat}(h:v<65536^k):dg (v:Int) k=0:=by rw [dg_nat,Nat.div_eq_of_lt h];rfl
theorem dg_top{v n:Nat}(h:IsLen v (n+1)):dg (v:Int) n≠0:=by
 obtain⟨a,b⟩:=h
 have b:65536^n≤v:=by
  rcases b with b|b
  ·omega
  ·exact b
 rw [dg_nat]
 have h1:1≤v/65536^n:=(Nat.one_le_div_iff (Nat.pow_pos (by decide))).2 b
 have h2:v/65536^n<65536:=by
  rw [Nat.pow_succ]at a
  exact Nat.div_lt_of_lt_mul a
 rw [Nat.mod_eq_of_lt h2]
 omega
theorem lt_of_dg_zero{v n:Nat}(h:v<65536^(n+1))(z:dg (v:Int) n=0):v<65536^n:=by
 rcases Nat.lt_or_ge v (65536^n)with l|l
 ·exact l
 ·exact absurd z (dg_top ⟨h,Or.inr (by simpa using l)⟩)
theorem eq_of_dcells: ∀ (n:Nat) (u v:Nat),u<65536^n→v<65536^n→(∀ j,j<n→dg (u:Int) j=dg (v:Int) j)→u=v:=by
 intro n
 induction n with
 |zero=>intro u v hu hv _;simp at hu hv;omega
 |succ n ih=>
  intro u v hu hv h
  have e:=ih (u % 65536^n) (v % 65536^n) (Nat.mod_lt _ (Nat.pow_pos (by decide))) (Nat.mod_lt _ (Nat.pow_pos (by decide))) (fun j hj=>by
   have a: ∀ x:Nat,dg ((x % 65536^n:Nat):Int) j=dg (x:Int) j:=fun x=>by
    refine dg_congr (i:=n) (-((x/65536^n:Nat):Int)) ?_ hj
    have:=Nat.mod_add_div x (65536^n)
    rw [←pow_cast,Int.neg_mul,←Int.natCast_mul,Nat.mul_comm (x/65536^n)]
    omega
   rw [a,a]
   exact h j (by omega))
  have t:=h n (by omega)
  rw [dg_nat,dg_nat]at t
  have du:u/65536^n<65536:=by rw [Nat.pow_succ]at hu;exact Nat.div_lt_of_lt_mul hu
  have dv:v/65536^n<65536:=by rw [Nat.pow_succ]at hv;exact Nat.div_lt_of_lt_mul hv
  rw [Nat.mod_eq_of_lt du,Nat.mod_eq_of_lt dv]at t
  have t':u/65536^n=v/65536^n:=by omega
  have h1:=Nat.mod_add_div u (65536^n)
  have h2:=Nat.mod_add_div v (65536^n)
  rw [e,t']at h1
  omega
def bor(x y:Int):Int:=if x<y then 1 else 0
def bw(x y:Int)(i:Nat):Int:= -((x % 65536^i- y % 65536^i)/65536^i)
theorem bw_zero(x y:Int):bw x y 0=0:=by simp [bw,Int.emod_one]
theorem bw_sum(x y:Int)(i:Nat):(x % 65536^(i+1)- y % 65536^(i+1))/65536^i=dg x i- dg y i- bw x y i:=by
 rw [emod_succ,emod_succ]
 unfold bw
 have e:dg x i*65536^i+x % 65536^i- (dg y i*65536^i+y % 65536^i)=(x % 65536^i- y % 65536^i)+(dg x i- dg y i)*65536^i:=by rw [Int.sub_mul];omega
 rw [e,Int.add_mul_ediv_right _ _ (Int.ne_of_gt (p256 i))]
 omega
theorem bw_range(x y:Int)(i:Nat):0≤bw x y i∧bw x y i≤1:=by
 unfold bw
 have hp:=p256 i
 have a:=Int.emod_nonneg x (Int.ne_of_gt hp)
 have a':=Int.emod_lt_of_pos x hp
 have b:=Int.emod_nonneg y (Int.ne_of_gt hp)
 have b':=Int.emod_lt_of_pos y hp
 have h1:(x % 65536^i- y % 65536^i)/65536^i<1:=Int.ediv_lt_of_lt_mul hp (by omega)
 have h2: -1≤(x % 65536^i- y % 65536^i)/65536^i:=Int.le_ediv_of_mul_le hp (by omega)
 omega
theorem bw_succ(x y:Int)(i:Nat):bor (dg x i) (dg y i+bw x y i)=bw x y (i+1):=by
 have e:bw x y (i+1)= -((dg x i- dg y i- bw x y i)/65536):=by
  rw [←bw_sum]
  show -((x % 65536^(i+1)- y % 65536^(i+1))/65536^(i+1))=_
  have hp:=p256 i
  rw [Int.pow_succ,Int.ediv_ediv,if_neg (by omega)]
  omega
 rw [e]
 have h:=bw_range x y i
 have a:=dg_range x i
 have b:=dg_range y i
 unfold bor
 split<;>omega
theorem sub_digit(x y:Int)(i:Nat):(dg x i- dg y i- bw x y i) % 65536=dg (x- y) i:=by
 unfold dg bw
 have hp:=p256 i
 have h1:=Int.mul_ediv_add_emod x (65536^i)
 have h2:=Int.mul_ediv_add_emod y (65536^i)
 have e:x- y=(x % 65536^i- y % 65536^i)+(x/65536^i- y/65536^i)*65536^i:=by
  have a1:x/65536^i*(65536:Int)^i=65536^i*(x/65536^i):=Int.mul_comm _ _
  have a2:y/65536^i*(65536:Int)^i=65536^i*(y/65536^i):=Int.mul_comm _ _
  rw [Int.sub_mul];omega
 have e2:(x- y)/65536^i=(x % 65536^i- y % 65536^i)/65536^i+(x/65536^i- y/65536^i):=by
  conv=>lhs;rw [e]
  exact Int.add_mul_ediv_right _ _ (Int.ne_of_gt hp)
 rw [e2]
 omega
end Go.Proofs.Ytliajdokamlnnaa.hf
namespace Go.Proofs.Ytliajdokamlnnaa.hf
set_option linter.unusedVariables false
def tk(O xi y:Int)(i k:Nat):Int:=O % 65536^(i+k)+xi*65536^i*(y % 65536^k)
def cy(O xi y:Int)(i k:Nat):Int:=tk O xi y i k/65536^(i+k)
theorem pow_ik(i k:Nat):(65536:Int)^(i+k)=65536^i*65536^k:=Int.pow_add _ _ _
theorem tk_succ(O xi y:Int)(i k:Nat):tk O xi y i (k+1)=tk O xi y i k+(dg O (i+k)+xi*dg y k)*65536^(i+k):=by
 unfold tk
 rw [←Nat.add_assoc,emod_succ,emod_succ,Int.add_mul,Int.mul_add,pow_ik]
 have e:xi*65536^i*(dg y k*65536^k)=xi*dg y k*(65536^i*65536^k):=by
  rw [Int.mul_assoc xi,Int.mul_left_comm (65536^i) (dg y k),Int.mul_assoc xi (dg y k)]
 rw [e];omega
theorem cy_sum(O xi y:Int)(i k:Nat):tk O xi y i (k+1)/65536^(i+k)=cy O xi y i k+dg O (i+k)+xi*dg y k:=by
 rw [tk_succ,Int.add_mul_ediv_right _ _ (Int.ne_of_gt (p256 _))];unfold cy;omega
theorem cy_succ(O xi y:Int)(i k:Nat):cy O xi y i (k+1)=(cy O xi y i k+dg O (i+k)+xi*dg y k)/65536:=by
 rw [←cy_sum]
 show tk O xi y i (k+1)/65536^(i+k+1)=_
 have hp:=p256 (i+k)
 rw [Int.pow_succ,Int.ediv_ediv,if_neg (by omega)];omega
theorem mul_digit(O xi y:Int)(i k:Nat):(cy O xi y i k+dg O (i+k)+xi*dg y k) % 65536=dg (O+xi*65536^i*y) (i+k):=by
 rw [←cy_sum]
 show dg (tk O xi y i (k+1)) (i+k)=_
 refine(dg_congr (i:=i+k+1) (O/65536^(i+k+1)+xi*(y/65536^(k+1))) ?_ (by omega)).symm
 unfold tk
 have h1:=Int.mul_ediv_add_emod O (65536^(i+k+1))
 have h2:=Int.mul_ediv_add_emod y (65536^(k+1))
 have e0:i+(k+1)=i+k+1:=by omega
 rw [e0,Int.add_mul]
 have e1:O/65536^(i+k+1)*(65536:Int)^(i+k+1)=65536^(i+k+1)*(O/65536^(i+k+1)):=Int.mul_comm _ _
 have e2:xi*(y/65536^(k+1))*(65536:Int)^(i+k+1)=xi*65536^i*(65536^(k+1)*(y/65536^(k+1))):=by
  rw [←e0,pow_ik i (k+1)]
  generalize (65536:Int)^(k+1)=K
  rw [Int.mul_assoc xi,Int.mul_assoc xi,Int.mul_left_comm (y/K) (65536^i) K,Int.mul_comm (y/K) K]
 have e3:xi*65536^i*y=xi*65536^i*(65536^(k+1)*(y/65536^(k+1)))+xi*65536^i*(y % 65536^(k+1)):=by rw [←Int.mul_add,h2]
 rw [e1,e2,e3];omega
theorem cy_zero(O xi y:Int)(i:Nat):cy O xi y i 0=0:=by
 unfold cy tk
 have hp:=p256 i
 have a:=Int.emod_nonneg O (Int.ne_of_gt hp)
 have a':=Int.emod_lt_of_pos O hp
 have e:y % (65536:Int)^0=0:=by simp [Int.emod_one]
 rw [e]
 simp only [Nat.add_zero,Int.mul_zero,Int.add_zero]
 exact Int.ediv_eq_zero_of_lt a a'
theorem cy_range(O xi y:Int)(i k:Nat)(h0:0≤xi)(h1:xi<65536):0≤cy O xi y i k∧cy O xi y i k≤65535:=by
 unfold cy tk
 have hp:=p256 (i+k)
 have hi:=p256 i
 have hk:=p256 k
 have a:=Int.emod_nonneg O (Int.ne_of_gt hp)
 have a':=Int.emod_lt_of_pos O hp
 have b:=Int.emod_nonneg y (Int.ne_of_gt hk)
 have b':=Int.emod_lt_of_pos y hk
 have c:0≤xi*65536^i*(y % 65536^k):=Int.mul_nonneg (Int.mul_nonneg h0 (Int.le_of_lt hi)) b
 have c':xi*65536^i*(y % 65536^k)≤65535*65536^(i+k):=by
  rw [pow_ik,←Int.mul_assoc]
  exact Int.mul_le_mul (Int.mul_le_mul_of_nonneg_right (by omega) (Int.le_of_lt hi)) (by omega) b (Int.mul_nonneg (by decide) (Int.le_of_lt hi))
 refine⟨Int.ediv_nonneg (by omega) (by omega),?_⟩
 have:(O % 65536^(i+k)+xi*65536^i*(y % 65536^k))/65536^(i+k)<65536:=Int.ediv_lt_of_lt_mul hp (by omega)
 omega
theorem mul_next(x y:Int)(i:Nat):x % 65536^i*y+dg x i*65536^i*y=x % 65536^(i+1)*y:=by rw [emod_succ,Int.add_mul];omega
theorem mix_start(n i:Nat)(O xi y:Int):mix n i (O+xi*65536^i*y) O=dcells n O:=by
 rw [←mix_zero n O O]
 refine fill_congr fun j _=>?_
 by_cases h:j<i
 ·have e:dg (O+xi*65536^i*y) j=dg O j:=dg_congr (i:=i) (xi*y) (by rw [Int.mul_assoc,Int.mul_comm (65536^i) y,←Int.mul_assoc]) h
  simp [h,e]
 ·simp [h]
end Go.Proofs.Ytliajdokamlnnaa.hf
namespace Go.Proofs.Ytliajdokamlnnaa.hf
open Go.RowKit
set_option linter.unusedVariables false
theorem dg_div(v:Int)(i j:Nat):dg (v/65536^i) j=dg v (i+j):=by
 unfold dg
 have hp:=p256 i
 rw [Int.pow_add,Int.ediv_ediv,if_neg (by omega)]
 omega
theorem dcells_take(n m:Nat)(v:Int)(h:m≤n):(dcells n v).take m=dcells m v:=by
 unfold dcells
 rw [←List.map_take,List.take_range,Nat.min_eq_left h]
theorem dcells_join(n m:Nat)(u v:Int):dcells n u++dcells m v=dcells (n+m) (u % 65536^n+v*65536^n):=by
 refine List.ext_getElem? fun j=>?_
 by_cases h:j<n
 ·rw [List.getElem?_append_left (by rw [dcells_length];exact h),dcells_at _ _ _ h,dcells_at _ _ _ (by omega)]
  have h1:=Int.mul_ediv_add_emod u (65536^n)
  rw [dg_congr (u:=u) (v:=u % 65536^n+v*65536^n) (i:=n) (u/65536^n- v) (by rw [Int.sub_mul];have:u/65536^n*(65536:Int)^n=65536^n*(u/65536^n):=Int.mul_comm _ _;omega) h]
 ·rw [List.getElem?_append_right (by rw [dcells_length];omega),dcells_length]
  by_cases h2:j<n+m
  ·rw [dcells_at _ _ _ (by omega),dcells_at _ _ _ h2]
   have hp:=p256 n
   have a:=Int.emod_nonneg u (Int.ne_of_gt hp)
   have a':=Int.emod_lt_of_pos u hp
   have e:(u % 65536^n+v*65536^n)/65536^n=v:=by
    rw [Int.add_mul_ediv_right _ _ (Int.ne_of_gt hp),Int.ediv_eq_zero_of_lt a a'];omega
   have:=dg_div (u % 65536^n+v*65536^n) n (j- n)
   rw [e,show n+(j- n)=j by omega]at this
   rw [this]
  ·rw [List.getElem?_eq_none (by rw [dcells_length];omega),List.getElem?_eq_none (by rw [dcells_length];omega)]
theorem dcells_zero(n:Nat):dcells n 0=List.replicate n (.int .i64 0):=by
 refine List.ext_getElem? fun j=>?_
 by_cases h:j<n
 ·rw [dcells_at _ _ _ h,List.getElem?_replicate,if_pos h];simp [dg]
 ·rw [List.getElem?_eq_none (by rw [dcells_length];omega),List.getElem?_eq_none (by simp;omega)]
theorem dcells_succ(t:Nat)(a:Int):dcells (t+1) a=dcells t a++ [.int .i64 (dg a t)]:=by
 unfold dcells;rw [List.range_succ,List.map_append];rfl
theorem nlen_eq_zero{u:Nat}:nlen u=0↔u=0:=by
 refine⟨fun h=>?_,fun h=>by rw [h,nlen_zero]⟩
 have:=nlen_lt u
 rw [h]at this
 simpa using this
theorem div_step(u k:Nat):u/65536^k=65536*(u/65536^(k+1))+u/65536^k % 65536:=by
 rw [Nat.pow_succ,←Nat.div_div_eq_div_mul];omega
theorem lt_of_top{u v k:Nat}(h:u/65536^(k+1)=v/65536^(k+1))(hd:dg (u:Int) k<dg (v:Int) k):u<v:=by
 rw [dg_nat,dg_nat]at hd
 have h1:=div_step u k
 have h2:=div_step v k
 rcases Nat.lt_or_ge u v with l|l
 ·exact l
 ·have:=Nat.div_le_div_right (c:=65536^k) l
  omega
theorem pow_nat(k:Nat):0<65536^k:=Nat.pow_pos (by decide)
end Go.Proofs.Ytliajdokamlnnaa.hf
namespace Go.Proofs.Ytliajdokamlnnaa
variable {P : Program} {md : Region.Mode} {Q : Exit → Act → World → Prop} {S : World → Prop}
theorem ps1{α:Type _}{xs:List α}{i:Nat}{a:α}:xs.toArray.setIfInBounds i a=(xs.set i a).toArray:=List.setIfInBounds_toArray ..
theorem ps2{α:Type _}{x:α}{xs:List α}{a:α}:(x::xs).set 0 a=a::xs:=List.set_cons_zero
theorem ps3{α:Type _}{x:α}{xs:List α}{n:Nat}{a:α}:(x::xs).set (n+1) a=x::xs.set n a:=List.set_cons_succ
theorem take_yes{l:List Oper}{i:Nat}{oi:Oper}{v:Value}{fuel:Nat}{listed:Array Bool}{a:Act}{w:World}(hi:l[i]? =some oi)
  (hs:Region.noSelect l.toArray=true) (hf:Region.free md l.toArray listed i=true) (hr:(Region.ready md l.toArray listed).contains i=true)
  (hQ: ∀ c a w,Q (.panic c) (a.put oi.dst v) w→Q (.panic c) a w) (hw:Region.wanted oi (yielded l.toArray a.tmps)=true) (hS:S w)
  (hy: ∀ w,S w→(execOp a.eval oi).run P w= .ok (.value v) w)
  (h:wpAnyH P md l.toArray Q S fuel (listed.setIfInBounds i true) (a.put oi.dst v) w):wpAnyH P md l.toArray Q S (fuel+1) listed a w:=
 wpAnyH_take (by simpa using hi) hs hf hr hQ (Or.inl ⟨hw,hy⟩) hS h
theorem tn(i:Nat){l:List Oper}{oi:Oper}{v:Value}{fuel:Nat}{listed:Array Bool}{a:Act}{w:World}(h:wpAnyH P md l.toArray Q S fuel (listed.setIfInBounds i true) (a.put oi.dst v) w)(hi:l[i]? =some oi:=by rfl)
  (hy: ∀ w,S w→(execOp a.eval oi).run P w= .ok (.value v) w:=by(intro w hSw;(try dsimp only at hSw);go_simp<;>with_reducible rfl))
  (hs:Region.noSelect l.toArray=true:=by kernel_rfl) (hf:Region.free md l.toArray listed i=true:=by kernel_rfl) (hr:(Region.ready md l.toArray listed).contains i=true:=by kernel_rfl)
  (hQ: ∀ c a w,Q (.panic c) (a.put oi.dst v) w→Q (.panic c) a w:=by exact fun _ _ _ h=>h) (hw:Region.wanted oi (yielded l.toArray a.tmps)=true:=by rfl) (hS:S w:=by assumption):wpAnyH P md l.toArray Q S (fuel+1) listed a w:=
 take_yes hi hs hf hr hQ hw hS hy h
theorem tz{l:List Oper}{i:Nat}{oi:Oper}{v:Value}{fuel:Nat}{listed:Array Bool}{a:Act}{w:World}(hi:l[i]? =some oi)(h:wpAnyH P md l.toArray Q S fuel (listed.setIfInBounds i true) (a.put oi.dst v) w)
  (hy: ∀ w,S w→(execOp a.eval oi).run P w= .ok (.value v) w:=by(intro w hSw;(try dsimp only at hSw);go_simp<;>with_reducible rfl))
  (hs:Region.noSelect l.toArray=true:=by kernel_rfl) (hf:Region.free md l.toArray listed i=true:=by kernel_rfl) (hr:(Region.ready md l.toArray listed).contains i=true:=by kernel_rfl)
  (hQ: ∀ c a w,Q (.panic c) (a.put oi.dst v) w→Q (.panic c) a w:=by exact fun _ _ _ h=>h) (hw:Region.wanted oi (yielded l.toArray a.tmps)=true:=by rfl) (hS:S w:=by assumption):wpAnyH P md l.toArray Q S (fuel+1) listed a w:=
 take_yes hi hs hf hr hQ hw hS hy h
theorem tQ(i:Nat){l:List Oper}{oi:Oper}{v:Value}{fuel:Nat}{listed:Array Bool}{a:Go.Act}{w:World}(h:wpAnyH P md l.toArray Q S fuel (listed.setIfInBounds i true) (a.put oi.dst v) w)(hi:l[i]? =some oi:=by rfl)
  (hQ: ∀ c a w,Q (.panic c) (a.put oi.dst v) w→Q (.panic c) a w:=by(intro _ _ _ h;rw [HQQ.out]at h;exact Exit.noConfusion h.1))
  (hy: ∀ w,S w→(execOp a.eval oi).run P w= .ok (.value v) w:=by(intro w hSw;(try dsimp only at hSw);go_simp<;>with_reducible rfl))
  (hs:Region.noSelect l.toArray=true:=by kernel_rfl) (hf:Region.free md l.toArray listed i=true:=by kernel_rfl) (hr:(Region.ready md l.toArray listed).contains i=true:=by kernel_rfl)
  (hw:Region.wanted oi (yielded l.toArray a.tmps)=true:=by rfl) (hS:S w:=by assumption):wpAnyH P md l.toArray Q S (fuel+1) listed a w:=
 take_yes hi hs hf hr hQ hw hS hy h
theorem take_no{l:List Oper}{i:Nat}{oi:Oper}{fuel:Nat}{listed:Array Bool}{a:Act}{w:World}(hi:l[i]? =some oi)
  (hs:Region.noSelect l.toArray=true) (hf:Region.free md l.toArray listed i=true) (hr:(Region.ready md l.toArray listed).contains i=true)
  (hQ: ∀ c a w,Q (.panic c) (a.put oi.dst undef) w→Q (.panic c) a w) (hw:Region.wanted oi (yielded l.toArray a.tmps)=false) (hS:S w)
  (h:wpAnyH P md l.toArray Q S fuel (listed.setIfInBounds i true) (a.put oi.dst undef) w):wpAnyH P md l.toArray Q S (fuel+1) listed a w:=
 wpAnyH_take (v:=undef) (by simpa using hi) hs hf hr hQ (Or.inr ⟨hw,rfl⟩) hS h
theorem tno(i:Nat){l:List Oper}{oi:Oper}{fuel:Nat}{listed:Array Bool}{a:Go.Act}{w:World}(h:wpAnyH P md l.toArray Q S fuel (listed.setIfInBounds i true) (a.put oi.dst undef) w)(hi:l[i]? =some oi:=by rfl)
  (hs:Region.noSelect l.toArray=true:=by kernel_rfl) (hf:Region.free md l.toArray listed i=true:=by kernel_rfl) (hr:(Region.ready md l.toArray listed).contains i=true:=by kernel_rfl)
  (hQ: ∀ c a w,Q (.panic c) (a.put oi.dst undef) w→Q (.panic c) a w:=by exact fun _ _ _ h=>h) (hw:Region.wanted oi (yielded l.toArray a.tmps)=false:=by rfl) (hS:S w:=by assumption):wpAnyH P md l.toArray Q S (fuel+1) listed a w:=
 take_no hi hs hf hr hQ hw hS h
theorem take_call{l:List Oper}{i:Nat}{o:Oper}{fuel:Nat}{listed:Array Bool}{a:Act}{w:World}(ho:l[i]? =some o)(hr:Region.ready md l.toArray listed= [i])
  (h: ∀ K':Act→World→Prop,Shut (∀ a w,S w→(S w→wpAnyH P md l.toArray Q S fuel (listed.setIfInBounds i true) a w)→K' a w)→if Region.wanted o (yielded l.toArray a.tmps)=true then Oper.wp P o a w K' Q else K' (a.put o.dst undef) w):
  wpAnyH P md l.toArray Q S (fuel+1) listed a w:=
 wpAnyH_ready hr (by simp) (AllReadyH.cons (by simpa using ho) h AllReadyH.nil)
theorem tcl(i:Nat){l:List Oper}{o:Oper}{fuel:Nat}{listed:Array Bool}{a:Go.Act}{w:World}
  (h: ∀ K':Go.Act→World→Prop,Shut (∀ a w,S w→(S w→wpAnyH P md l.toArray Q S fuel (listed.setIfInBounds i true) a w)→K' a w)→if Region.wanted o (yielded l.toArray a.tmps)=true then Oper.wp P o a w K' Q else K' (a.put o.dst undef) w)
  (ho:l[i]? =some o:=by rfl) (hr:Region.ready md l.toArray listed= [i]:=by kernel_rfl):wpAnyH P md l.toArray Q S (fuel+1) listed a w:=
 take_call ho hr h
end Go.Proofs.Ytliajdokamlnnaa
namespace Go.Proofs.Ytliajdokamlnnaa
open Go.RowKit
set_option linter.unusedVariables false
set_option maxRecDepth 100000 in
set_option maxHeartbeats 400000 in
theorem rtrim_own(a:Option Addr)(l cap u base:Nat)(w:World)(hown:Own w base 3 a l cap (hf.dcells l (u:Int)))(hu:u<65536^l):
  Calls Try.prog 57 #[.slice a l cap] w fun e w'=>e= .returned (.slice a (hf.nlen u) cap)∧w=w'∧Own w base 3 a (hf.nlen u) cap (hf.dcells (hf.nlen u) (u:Int)):=by
 have hs:=Own.sl hown
 have hcap:=hs.big
 have hroom:=hs.room
 unfold maxLen at hcap
 have HO:Hid (Own w base 3 a (hf.nlen u) cap (hf.dcells (hf.nlen u) (u:Int))):=by
  have:=Own.take hown (hf.nlen_le hu)
  rwa [hf.dcells_take _ _ _ (hf.nlen_le hu)]at this
 have hsh:(a=none∧cap=0)∨ ∃ g,a=some ⟨g,0,none⟩:=by
  obtain⟨_,⟨h1,_⟩|⟨g,cap',cur,hv,_⟩⟩:=hown
  ·cases h1;exact Or.inl ⟨rfl,rfl⟩
  ·cases hv;exact Or.inr ⟨g,rfl⟩
 rcases hsh with⟨rfl,rfl⟩|⟨g,rfl⟩
 ·obtain rfl:l=0:=by omega
  have hz:Hid (hf.nlen u=0):=hf.nlen_eq_zero.2 (by simpa using hu)
  clear hown hs
  go_enter Try.func57,Try.ntmps57
  go_wp2
  go_loop [3] (fun i=>i= .int .i64 0) (fun i=>(intOf i).toNat)
  case atStart=>rfl
  case round=>
   obtain rfl:=hrel
   go_wp2
   go_ret
   exact⟨by rw [hz.out];rfl,rfl,HO.out⟩
 ·go_enter Try.func57,Try.ntmps57
  go_wp2
  go_loop [3] (fun i=> ∃ k:Nat,k≤l∧u<65536^k∧i= .int .i64 (k:Int)) (fun i=>(intOf i).toNat)
  case atStart=>exact⟨l,Nat.le_refl _,hu,rfl⟩
  case round=>
   obtain⟨k,hk,huk,rfl⟩:=hrel
   rcases k with _|k
   ·have hz:Hid (hf.nlen u=0):=hf.nlen_eq_zero.2 (by simpa using huk)
    clear hu huk
    go_wp2
    go_ret
    exact⟨by rw [hz.out];rfl,rfl,HO.out⟩
   ·have c1:w.cell? ⟨g,k,none⟩=some (.int .i64 (hf.dg u k)):=Own.cell hown k _ (hf.dcells_at _ _ _ (by omega))
    have e1:((k+1:Nat):Int)- 1=(k:Int):=by omega
    by_cases hd:hf.dg (u:Int) k=0
    ·have hd':(hf.dg (u:Int) k==0)=true:=by rw [hd];rfl
     have Hn:Hid (u<65536^k):=hf.lt_of_dg_zero huk hd
     clear hd huk hu hown
     go_wp2
     go_round
     case rel=>exact⟨k,by omega,Hn.out,by go_num⟩
     case measure=>simp [intOf]
    ·have hd':(hf.dg (u:Int) k==0)=false:=by simpa using hd
     have Hl:Hid (hf.nlen u=k+1):=by
      refine hf.nlen_eq ⟨huk,Or.inr ?_⟩
      rcases Nat.lt_or_ge u (65536^k)with h|h
      ·exact absurd (hf.dg_over h) hd
      ·simpa using h
     clear hd huk hu hown
     go_wp2
     go_ret
     exact⟨by rw [Hl.out];rfl,rfl,HO.out⟩
theorem halves(u:Int)(k:Nat):hf.dg u (2*k)=wd.dg u k % 65536∧hf.dg u (2*k+1)=wd.dg u k/65536:=by
 unfold hf.dg wd.dg
 have e:(65536:Int)^(2*k)=4294967296^k:=by rw [Int.pow_mul];rfl
 have e2:(65536:Int)^(2*k+1)=4294967296^k*65536:=by rw [Int.pow_succ,e]
 have hp:=wd.p256 k
 rw [e,e2]
 have:u/(4294967296^k*65536)=u/4294967296^k/65536:=by rw [Int.ediv_ediv,if_neg (by omega)];omega
 rw [this]
 omega
theorem pow_halves(k:Nat):65536^(2*k)=4294967296^k:=by rw [Nat.pow_mul]
theorem hf_two(t:Nat)(u:Int):hf.dcells (2*(t+1)) u=hf.dcells (2*t) u++ [.int .i64 (wd.dg u t % 65536), .int .i64 (wd.dg u t/65536)]:=by
 rw [show 2*(t+1)=2*t+1+1 by omega,hf.dcells_succ,hf.dcells_succ,(halves u t).1,(halves u t).2,List.append_assoc]
 rfl
def OfRel(w:World)(u l:Nat)(v i:Value)(wr:World):Prop:= ∃ (k cap:Nat) (a:Option Addr),k≤l∧i= .int .i64 (k:Int)∧v= .slice a (2*k) cap∧Own wr w.heap.size 3 a (2*k) cap (hf.dcells (2*k) (u:Int))∧Below w.heap.size w wr
theorem ofRel_next{w wr w2 w4:World}{u l k cap cap' g':Nat}{a:Option Addr}(hk:k<l)(hown:Own wr w.heap.size 3 a (2*k) cap (hf.dcells (2*k) (u:Int)))(hbel:Below w.heap.size w wr)
  (h4:w4.ownsRow w.heap.size 3 1 (.slice (some ⟨g',0,none⟩) (2*k+2) cap') (2*k+2) (hf.dcells (2*k) (u:Int)++ [.int .i64 (wd.dg u k % 65536), .int .i64 (wd.dg u k/65536)]))
  (h2:Below wr.heap.size wr w2) (hgr:w2.grownBy w4 (Value.slice a (2*k) cap).ownBlock):OfRel w u l (.slice (some ⟨g',0,none⟩) (2*k+2) cap') (.int .i64 ((k:Int)+1)) w4:=by
 have hs:=hbel.size
 refine⟨k+1,cap',_,hk,by simp,rfl,?_,(hbel.trans (h2.mono hs)).grown hgr (by have:=h2.size;omega) (fun k' hk'=>(World.ownsRow.lt hown k' hk').1)⟩
 rw [hf_two]
 exact h4
theorem own_empty(w:World)(base:Nat)(T:TypeId)(hb:base≤w.heap.size):Own (w.alloc (.cells #[] T)) base T (some ⟨w.heap.size,0,none⟩) 0 0 []:=World.ownsRow_lit w #[] 0 hb (by decide) rfl
set_option maxRecDepth 100000 in
set_option maxHeartbeats 1000000 in
theorem rof_any(a:Option Addr)(l ca u:Nat)(w:World)(ha:Sl w a l ca (wd.dcells l (u:Int)))(hu:u<4294967296^l)(hl:l≤1000000000):
  Calls Try.prog 50 #[.slice a l ca] w fun e w'=> ∃ a' cap',e= .returned (.slice a' (hf.nlen u) cap')∧Own w' w.heap.size 3 a' (hf.nlen u) cap' (hf.dcells (hf.nlen u) (u:Int))∧Below w.heap.size w w':=by
 obtain⟨i0,hi0,hz0,hz1,hz2⟩:=info_parts infoInt
 have HU:Hid (u<65536^(2*l)):=by unfold Hid;rw [pow_halves];exact hu
 have hown0:=own_empty w w.heap.size 3 (Nat.le_refl _)
 clear hu
 go_enter Try.func50,Try.ntmps50
 go_wp2
 go_loopw [3,4] (fun v i wr=>OfRel w u l v i wr) (fun _ i _=>l- (intOf i).toNat)
 case atStart=>exact⟨0,0,_,by omega,rfl,rfl,hown0,(Below.refl _ _).alloc (Nat.le_refl _) _⟩
 case round=>
  clear hown0
  obtain⟨k,cap,v,hk,rfl,rfl,hown,hbel⟩:=hrel
  by_cases hlt:k<l
  ·obtain⟨ba,oa,rfl,hba,hseg⟩:=ha.at (by omega)
   have hroom:=ha.room
   have c0:w.cell? ⟨ba,oa+k,none⟩=some (.int .u32 (wd.dg u k)):=hseg.cell k _ (wd.dcells_at _ _ _ hlt)
   have c1:wr.cell? ⟨ba,oa+k,none⟩=some (.int .u32 (wd.dg u k)):=(hbel.cell (p:=⟨ba,oa+k,none⟩) hba).trans (hseg.cell k _ (wd.dcells_at _ _ _ hlt))
   have hsz:=hbel.size
   have hba2:ba<wr.heap.size:=by omega
   obtain⟨d0,d1⟩:=wd.dg_range u k
   have E1:IntKind.i64.wrap ((wd.dg (u:Int) k).tmod 65536)=wd.dg u k % 65536:=by rw [Int.tmod_eq_emod_of_nonneg d0,IntKind.wrap_i64];omega
   have E2:IntKind.i64.wrap (IntKind.u32.wrap ((wd.dg (u:Int) k).tdiv 65536))=wd.dg u k/65536:=by rw [Int.tdiv_eq_ediv_of_nonneg d0,IntKind.wrap_u32',IntKind.wrap_i64];omega
   have HN:Hid _:=fun w2 w4 g' cap'=>ofRel_next (w2:=w2) (w4:=w4) (g':=g') (cap':=cap') hlt hown hbel
   go_wp2
   refine wp_region_held_drew (S:=(fun w'=>w'.cell? ⟨ba,oa+k,none⟩=some (.int .u32 (wd.dg u k))∧Below w.heap.size w w')) (by kernel_rfl) ?_ (fun hHeld=>?_)
   ·first|exact⟨c1,hbel⟩|exact⟨c1,hbel.drew⟩|exact⟨((hHeld.2.alloc hHeld.2.size _).cell (p:=⟨ba,oa+k,none⟩) hba).trans c0,hHeld.2.alloc hHeld.2.size _⟩|exact⟨((hbel.alloc hbel.size _).drew.cell (p:=⟨ba,oa+k,none⟩) hba).trans c0,(hbel.alloc hbel.size _).drew⟩
   refine tn 0 ?_;refine tn 1 ?_;refine tn 2 ?_;refine tn 3 ?_;refine tn 4 ?_;refine tn 5 ?_;refine tn 6 ?_;refine tn 7 ?_;refine tn 8 ?_;refine tn 9 ?_;refine tn 10 ?_;refine tn 11 ?_;refine tn 12 ?_
   simp only [Act.put,ps1,ps2,ps3]
   refine take_call (i:=13) rfl (by kernel_rfl) (fun K hK=>?_)
   go_simp
   refine hK.out _ _ ?_ (fun hHeld=>?_)
   ·first|exact⟨c1,hbel⟩|exact⟨c1,hbel.drew⟩|exact⟨((hHeld.2.alloc hHeld.2.size _).cell (p:=⟨ba,oa+k,none⟩) hba).trans c0,hHeld.2.alloc hHeld.2.size _⟩|exact⟨((hbel.alloc hbel.size _).drew.cell (p:=⟨ba,oa+k,none⟩) hba).trans c0,(hbel.alloc hbel.size _).drew⟩
   clear hK K
   refine take_call (i:=14) rfl (by kernel_rfl) (fun K hK=>?_)
   refine step_append_lies _ rfl (.tmp 12) (.tmp 25) 58 rfl w.heap.size 3 i0 (.int .i64 0) 1 8 Try.underlying58 hi0 hz0 hz1 hz2 rfl (by decide) (.slice v (2*k) cap) (2*k) (hf.dcells (2*k) (u:Int)) rfl (World.ownsRow.alloc hown _) ⟨wr.heap.size,0,none⟩ 2 2 [.int .i64 (wd.dg u k % 65536), .int .i64 (wd.dg u k/65536)] rfl rfl (World.news_of_block (heap_alloc_new wr _)) (ints_oneCell .i64 [wd.dg u k % 65536,wd.dg u k/65536]) (by decide) (by unfold maxLen;omega) (by omega) (by simp;omega) _ rfl ?_;intro g' cap' w4 hown4 hgrow4 hat4 hlt4
   refine hK.out _ _ ?_ (fun hHeld=>?_)
   ·exact⟨(((hHeld.2.grown hgrow4 (by simp;omega) (fun k' hk'=>(World.ownsRow.lt hown k' hk').1))).cell (p:=⟨ba,oa+k,none⟩) hba).trans c0,hHeld.2.grown hgrow4 (by simp;omega) (fun k' hk'=>(World.ownsRow.lt hown k' hk').1)⟩
   clear hK K
   refine tz (i:=15) rfl ?_
   simp only [Act.put,ps1,ps2,ps3]
   refine wpAnyH_done (by kernel_rfl) ?_ _
   go_wp2
   go_roundw
   case rel=>exact HN.out _ w4 g' cap' hown4 ((Below.refl _ _).alloc (Nat.le_refl _) _).drew hgrow4
   case measure=>simp [intOf];omega
  ·obtain rfl:k=l:=by omega
   go_wp2_with (go_at_call 57;refine(rtrim_own _ _ _ u _ _ hown HU.out).mono ?_;rintro e w' ⟨rfl,hw,hown2⟩;subst hw)
   go_ret
   exact⟨v,cap,rfl,hown2,hbel⟩
end Go.Proofs.Ytliajdokamlnnaa
namespace Go.Proofs.Ytliajdokamlnnaa
open Go.RowKit Go.Shelf
set_option linter.unusedVariables false
attribute [local go_sem] Oper.semAt_some
def cmpI(x y:Int):Int:=if x<y then -1 else if y<x then 1 else 0
end Go.Proofs.Ytliajdokamlnnaa
namespace Go.Proofs.Ytliajdokamlnnaa
open Go.RowKit Go.Shelf
set_option linter.unusedVariables false
attribute [local go_sem] Oper.semAt_some
theorem cmpI_self(x:Int):cmpI x x=0:=by unfold cmpI;simp
end Go.Proofs.Ytliajdokamlnnaa
namespace Go.Proofs.Ytliajdokamlnnaa
open Go.RowKit
set_option linter.unusedVariables false
structure NI(w:World)(a:Option Addr)(l c u:Nat):Prop where
 sl:Sl w a l c (wd.dcells l (u:Int))
 lt:u<4294967296^l
 few:l≤1000000
def NA(k:Nat)(a:Option Addr)(l:Nat):Prop:=l=0∨ ∀ o,a≠some ⟨k,o,none⟩
def Far(base:Nat)(a:Option Addr)(l:Nat):Prop:= ∀ k,k<base→NA k a l
theorem Far.mono{base base':Nat}{a:Option Addr}{l:Nat}(h:Far base a l)(hb:base'≤base):Far base' a l:=fun k hk=>h k (by omega)
theorem Sl.na{w:World}{a:Option Addr}{l c k:Nat}{xs:List Value}(h:Sl w a l c xs)(hk:w.heap.size≤k):NA k a l:=by
 rcases Nat.eq_zero_or_pos l with e|e
 ·exact Or.inl e
 ·obtain⟨b,o,rfl,hb,_⟩:=h.at e
  exact Or.inr fun o' e'=>by cases e';omega
theorem Sl.put{w:World}{a:Option Addr}{l c b:Nat}{xs:List Value}(h:Sl w a l c xs)(hn:NA b a l)(i:Nat)(v:Value):Sl (w.setCell ⟨b,i,none⟩ v) a l c xs:=by
 refine⟨h.len,h.room,h.big,h.nil,?_⟩
 rcases hn with e|hn
 ·exact Or.inl e
 ·refine h.seg.imp id ?_
  rintro⟨k,o,e,hk,hs⟩
  exact⟨k,o,e,by simpa using hk,hs.other v (by rintro rfl;exact hn o e)⟩
theorem Own.far{w:World}{base n cap:Nat}{T:TypeId}{a:Option Addr}{xs:List Value}(h:Own w base T a n cap xs):Far base a n:=by
 intro k hk
 right
 intro o e
 obtain⟨hl,⟨h1,_⟩|⟨g,cap',cur,hv,hb',r⟩⟩:=h
 ·rw [e]at h1
  cases h1
 ·rw [e]at hv
  cases hv
  omega
theorem cell_on{w w':World}{p:Addr}{v:Value}(hb:Below w.heap.size w w')(h:w.cell? p=some v):w'.cell? p=some v:=by
 refine(hb.cell (p:=p) ?_).trans h
 refine Nat.lt_of_not_le fun hle=>?_
 unfold World.cell? at h
 rw [Array.getElem?_eq_none hle]at h
 simp at h
theorem free_on{w w':World}{p:Addr}{v:Value}{f:Bool}(hb:Below w.heap.size w w')(h:w.cell? p=some v)(hf:w.frozen? p=f):w'.frozen? p=f:=by
 refine(hb.frozen (p:=p) ?_).trans hf
 refine Nat.lt_of_not_le fun hle=>?_
 unfold World.cell? at h
 rw [Array.getElem?_eq_none hle]at h
 simp at h
structure Bx(w:World)(b:Nat)(x y:Value):Prop where
 c0:w.cell? ⟨b,0,none⟩=some x
 c1:w.cell? ⟨b,1,none⟩=some y
 f0:w.frozen? ⟨b,0,none⟩=false
 f1:w.frozen? ⟨b,1,none⟩=false
theorem Bx.on{w w':World}{b:Nat}{x y:Value}(h:Bx w b x y)(hb:Below w.heap.size w w'):Bx w' b x y:=⟨cell_on hb h.c0,cell_on hb h.c1,free_on hb h.c0 h.f0,free_on hb h.c1 h.f1⟩
theorem bx_new(w:World)(x y:Value)(t:TypeId):Bx (w.alloc (.cells #[x,y] t)) w.heap.size x y:=by
 have h:=Row.new w [x,y] t
 exact⟨h.cell 0 _ rfl,h.cell 1 _ rfl,h.free 0 (by simp),h.free 1 (by simp)⟩
theorem bx_lt{w:World}{b:Nat}{x y:Value}(h:Bx w b x y):b<w.heap.size:=by
 refine Nat.lt_of_not_le fun hle=>?_
 have:=h.c0
 unfold World.cell? at this
 rw [Array.getElem?_eq_none hle]at this
 simp at this
theorem Bx.put{w:World}{b k i:Nat}{x y v:Value}(h:Bx w b x y)(hk:k≠b):Bx (w.setCell ⟨k,i,none⟩ v) b x y:=by
 have hne: ∀ j,(⟨k,i,none⟩:Addr)≠⟨b,j,none⟩:=fun j e=>by cases e;exact hk rfl
 refine⟨?_,?_,by rw [World.frozen?_setCell];exact h.f0,by rw [World.frozen?_setCell];exact h.f1⟩
 ·rw [World.cell?_setCell_other _ _ _ _ (by intro q;simp only [Addr.mk.injEq]at q;omega)];exact h.c0
 ·rw [World.cell?_setCell_other _ _ _ _ (by intro q;simp only [Addr.mk.injEq]at q;omega)];exact h.c1
theorem Bx.set{w:World}{b:Nat}{x y u v:Value}(h:Bx w b x y):Bx ((w.setCell ⟨b,0,none⟩ u).setCell ⟨b,1,none⟩ v) b u v:=by
 refine⟨?_,?_,by rw [World.frozen?_setCell,World.frozen?_setCell];exact h.f0,by rw [World.frozen?_setCell,World.frozen?_setCell];exact h.f1⟩
 ·rw [World.cell?_setCell_other _ _ _ _ (by intro q;simp only [Addr.mk.injEq]at q;omega)]
  exact World.cell?_setCell_same _ _ _ h.c0
 ·have h1:(w.setCell ⟨b,0,none⟩ u).cell? ⟨b,1,none⟩=some y:=by
   rw [World.cell?_setCell_other _ _ _ _ (by intro q;simp only [Addr.mk.injEq]at q;omega)]
   exact h.c1
  exact World.cell?_setCell_same _ _ _ h1
theorem below_put2{B b:Nat}{w w':World}(h:Below B w w')(hb:B≤b)(u v:Value):Below B w ((w'.setCell ⟨b,0,none⟩ u).setCell ⟨b,1,none⟩ v):=(h.setCell hb _).setCell hb _
theorem also{w w1 w2:World}(h:Below w.heap.size w w1)(k:Below w1.heap.size w1 w2):Below w.heap.size w w2:=h.trans (k.mono h.size)
theorem box1(w:World)(x1 y1 z1 z2:Value)(t1 t2:TypeId):Below w.heap.size w ((w.alloc (.cells #[x1,y1] t1)).alloc (.cells #[z1,z2] t2))∧Bx ((w.alloc (.cells #[x1,y1] t1)).alloc (.cells #[z1,z2] t2)) w.heap.size x1 y1∧
  Bx ((w.alloc (.cells #[x1,y1] t1)).alloc (.cells #[z1,z2] t2)) (w.heap.size+1) z1 z2∧w.heap.size+1<((w.alloc (.cells #[x1,y1] t1)).alloc (.cells #[z1,z2] t2)).heap.size:=by
 have h1:=(bx_new w x1 y1 t1).on ((Below.refl _ _).alloc (Nat.le_refl _) (.cells #[z1,z2] t2))
 have h2:=bx_new (w.alloc (.cells #[x1,y1] t1)) z1 z2 t2
 rw [World.size_alloc]at h2
 exact⟨((Below.refl _ _).alloc (Nat.le_refl _) _).alloc (by simp) _,h1,h2,by simp⟩
theorem box2(w:World)(x1 y1 x2 y2 z1 z2:Value)(t1 t2 t3:TypeId):Below w.heap.size w (((w.alloc (.cells #[x1,y1] t1)).alloc (.cells #[x2,y2] t2)).alloc (.cells #[z1,z2] t3))∧Bx (((w.alloc (.cells #[x1,y1] t1)).alloc (.cells #[x2,y2] t2)).alloc (.cells #[z1,z2] t3)) w.heap.size x1 y1∧
  Bx (((w.alloc (.cells #[x1,y1] t1)).alloc (.cells #[x2,y2] t2)).alloc (.cells #[z1,z2] t3)) (w.heap.size+1) x2 y2∧Bx (((w.alloc (.cells #[x1,y1] t1)).alloc (.cells #[x2,y2] t2)).alloc (.cells #[z1,z2] t3)) (w.heap.size+1+1) z1 z2∧
  w.heap.size+1+1<(((w.alloc (.cells #[x1,y1] t1)).alloc (.cells #[x2,y2] t2)).alloc (.cells #[z1,z2] t3)).heap.size:=by
 obtain⟨h1,h2,h3,h4⟩:=box1 w x1 y1 x2 y2 t1 t2
 have hb:Below ((w.alloc (.cells #[x1,y1] t1)).alloc (.cells #[x2,y2] t2)).heap.size ((w.alloc (.cells #[x1,y1] t1)).alloc (.cells #[x2,y2] t2)) (((w.alloc (.cells #[x1,y1] t1)).alloc (.cells #[x2,y2] t2)).alloc (.cells #[z1,z2] t3)):=(Below.refl _ _).alloc (Nat.le_refl _) _
 have h5:=bx_new ((w.alloc (.cells #[x1,y1] t1)).alloc (.cells #[x2,y2] t2)) z1 z2 t3
 rw [World.size_alloc,World.size_alloc]at h5
 exact⟨also h1 hb,h2.on hb,h3.on hb,h5,by simp⟩
theorem keepB1{n:Nat}{v1 v2:Value}{w0 w w':World}(h:w.cell? ⟨n,0,none⟩=some v1∧w.cell? ⟨n,1,none⟩=some v2∧Below w0.heap.size w0 w)(hb:Below w.heap.size w w'):w'.cell? ⟨n,0,none⟩=some v1∧w'.cell? ⟨n,1,none⟩=some v2∧Below w0.heap.size w0 w':=
 ⟨cell_on hb h.1,cell_on hb h.2.1,also h.2.2 hb⟩
theorem keepB2{n:Nat}{v1 v2 v3 v4:Value}{w0 w w':World}(h:w.cell? ⟨n,0,none⟩=some v1∧w.cell? ⟨n,1,none⟩=some v2∧w.cell? ⟨n+1,0,none⟩=some v3∧w.cell? ⟨n+1,1,none⟩=some v4∧Below w0.heap.size w0 w)(hb:Below w.heap.size w w'):
  w'.cell? ⟨n,0,none⟩=some v1∧w'.cell? ⟨n,1,none⟩=some v2∧w'.cell? ⟨n+1,0,none⟩=some v3∧w'.cell? ⟨n+1,1,none⟩=some v4∧Below w0.heap.size w0 w':=
 ⟨cell_on hb h.1,cell_on hb h.2.1,cell_on hb h.2.2.1,cell_on hb h.2.2.2.1,also h.2.2.2.2 hb⟩
theorem keepS1{n k:Nat}{v1 v2:Value}{w0 w:World}(h:w.cell? ⟨n,0,none⟩=some v1∧w.cell? ⟨n,1,none⟩=some v2∧Below w0.heap.size w0 w)(hk:n<k)(hB:w0.heap.size≤k)(u v:Value):
  ((w.setCell ⟨k,0,none⟩ u).setCell ⟨k,1,none⟩ v).cell? ⟨n,0,none⟩=some v1∧((w.setCell ⟨k,0,none⟩ u).setCell ⟨k,1,none⟩ v).cell? ⟨n,1,none⟩=some v2∧Below w0.heap.size w0 ((w.setCell ⟨k,0,none⟩ u).setCell ⟨k,1,none⟩ v):=by
 have hne: ∀ i j:Nat,(⟨k,i,none⟩:Addr)≠⟨n,j,none⟩:=fun i j e=>by simp only [Addr.mk.injEq]at e;omega
 exact⟨by rw [World.cell?_setCell_other _ _ _ _ (hne _ _),World.cell?_setCell_other _ _ _ _ (hne _ _)];exact h.1,by rw [World.cell?_setCell_other _ _ _ _ (hne _ _),World.cell?_setCell_other _ _ _ _ (hne _ _)];exact h.2.1,below_put2 h.2.2 hB u v⟩
theorem keepS2{n k:Nat}{v1 v2 v3 v4:Value}{w0 w:World}(h:w.cell? ⟨n,0,none⟩=some v1∧w.cell? ⟨n,1,none⟩=some v2∧w.cell? ⟨n+1,0,none⟩=some v3∧w.cell? ⟨n+1,1,none⟩=some v4∧Below w0.heap.size w0 w)(hk:n+1<k)(hB:w0.heap.size≤k)(u v:Value):
  ((w.setCell ⟨k,0,none⟩ u).setCell ⟨k,1,none⟩ v).cell? ⟨n,0,none⟩=some v1∧((w.setCell ⟨k,0,none⟩ u).setCell ⟨k,1,none⟩ v).cell? ⟨n,1,none⟩=some v2∧((w.setCell ⟨k,0,none⟩ u).setCell ⟨k,1,none⟩ v).cell? ⟨n+1,0,none⟩=some v3∧((w.setCell ⟨k,0,none⟩ u).setCell ⟨k,1,none⟩ v).cell? ⟨n+1,1,none⟩=some v4∧Below w0.heap.size w0 ((w.setCell ⟨k,0,none⟩ u).setCell ⟨k,1,none⟩ v):=by
 obtain⟨h1,h2,h3,h4,h5⟩:=h
 obtain⟨a1,a2,_⟩:=keepS1 ⟨h1,h2,h5⟩ (by omega) hB u v
 obtain⟨b1,b2,b3⟩:=keepS1 ⟨h3,h4,h5⟩ hk hB u v
 exact⟨a1,a2,b1,b2,b3⟩
theorem Bx.drew{w:World}{b:Nat}{x y:Value}(h:Bx w b x y):Bx w.drew b x y:=⟨h.c0,h.c1,h.f0,h.f1⟩
def flQ(x y:Int):Int:=x.sign*y.sign*((x.natAbs/y.natAbs:Nat):Int)- (if x.sign*y.sign<0∧x.natAbs % y.natAbs≠0 then 1 else 0)
def flR(x y:Int):Int:=x- flQ x y*y
theorem box3(w:World)(x1 y1 x2 y2 z1 z2 s1 s2:Value)(t1 t2 t3 t4:TypeId): ∃ W,W=(((w.alloc (.cells #[x1,y1] t1)).alloc (.cells #[x2,y2] t2)).alloc (.cells #[z1,z2] t3)).alloc (.cells #[s1,s2] t4)∧Below w.heap.size w W∧Bx W w.heap.size x1 y1∧Bx W (w.heap.size+1) x2 y2∧Bx W (w.heap.size+1+1) z1 z2∧Bx W (w.heap.size+1+1+1) s1 s2∧w.heap.size+1+1+1<W.heap.size:=by
 obtain⟨h1,h2,h3,h4,h5⟩:=box2 w x1 y1 x2 y2 z1 z2 t1 t2 t3
 have hb:=(Below.refl (((w.alloc (.cells #[x1,y1] t1)).alloc (.cells #[x2,y2] t2)).alloc (.cells #[z1,z2] t3)).heap.size (((w.alloc (.cells #[x1,y1] t1)).alloc (.cells #[x2,y2] t2)).alloc (.cells #[z1,z2] t3))).alloc (Nat.le_refl _) (.cells #[s1,s2] t4)
 have h6:=bx_new (((w.alloc (.cells #[x1,y1] t1)).alloc (.cells #[x2,y2] t2)).alloc (.cells #[z1,z2] t3)) s1 s2 t4
 rw [World.size_alloc,World.size_alloc,World.size_alloc]at h6
 exact⟨_,rfl,also h1 hb,h2.on hb,h3.on hb,h4.on hb,h6,by simp⟩
end Go.Proofs.Ytliajdokamlnnaa
