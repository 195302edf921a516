/-
  Joined texts, part 1:
  Rows of values in one block of memory: what is read of them behind a store, a draw, a new 
  Slices in memory, wherever they begin in their block: what is read of them behind a store,
  Objects that calls change in place: which blocks a call may write (Keep F: all others stay
  The numbers of an arena: those that are lent and those that came back are all below its to
  Numbers as digits to the base 4294967296: which digits a sum, a difference, a product has.
  What nat's Trim and Of answer; sums and differences of words.
  Sums and differences of words.
  What nat's Add answers.
  Numbers as digits to the base 65536: which digits a sum, a difference, a product has. It i
  How many digits a number needs, to the base 65536, and its digits without noughts at the e
  The arithmetic of a difference, and of a division by a small number, digit by digit. It im
  The arithmetic of a product, digit by digit. It imports nothing of the program.
  Digits to the base 65536, cut, joined, held against each other. It imports nothing of the 
  A region whose order is open, an operation at a time: one that is wanted and yields in eve
  What zelligeref03's Trim and Of answer.
  What nat's divideLong answers, and DivMod where the divisor has two words at least.
  What nat's Cmp answers.
  What nat's Cmp answers where both numbers have the same length.
  What nat answers, with letters for the lengths: the contracts of the other texts, said onc
  Slices apart from a block, so that what is stored there leaves them as they are; and what 
  Whole numbers in memory; what package whole's signed and plus answer.
  What package whole's Add, Sub, Neg, Norm and Mul answer.
  What package whole's Floor answers.
-/
import Derived.WalkKit
import Derived.WalkSmall
import Derived.Laws.OwnMore
import Derived.Test.YtaadknpjbogkbaaGreatRows
import Derived.WalkSpells
import Derived.Deep.QuietTactic
import Derived.BigQuiet
import Derived.RegionTactic
import Derived.ChangeAlike
import Derived.OwnWalk
import Derived.Laws.AppendOwnNone
import Derived.Maps.AppendAt
import Derived.Laws.BitsAllLaws
import Derived.Deep.RegionWith
import Derived.Deep.RegionHeld3
import Derived.Deep.AppendLies
import Derived.Shelf.Abstract
import Derived.Lib.ItoaNum
import Derived.RangeFuncNested
import Derived.RangeFuncBound
import Derived.RangeFuncCalls
import Derived.RangeFuncLeaves
import Derived.RangeFuncBox
import Derived.Shelf.RegionOpen
import Derived.OwnWalkIn
import Derived.TacticsInMore
import Derived.LoopNIn
import Derived.LoopIn
import Derived.Lib.IndexBytes
import Derived.Laws.BytesArg
namespace Go.Proofs.YtaadknpjbogkbaaGreat
open Go.RowKit
def Row(w:World)(b:Nat)(xs:List Value):Prop:= ∀ j v,xs[j]? =some v→w.cell? ⟨b,j,none⟩=some v∧w.frozen? ⟨b,j,none⟩=false
theorem Row.cell{w:World}{b:Nat}{xs:List Value}(h:Row w b xs)(j:Nat)(v:Value)(hj:xs[j]? =some v):w.cell? ⟨b,j,none⟩=some v:=(h j v hj).1
theorem Row.free{w:World}{b:Nat}{xs:List Value}(h:Row w b xs)(j:Nat)(hj:j<xs.length):w.frozen? ⟨b,j,none⟩=false:=(h j xs[j] (List.getElem?_eq_getElem hj)).2
theorem Row.drewN{w:World}{b:Nat}{xs:List Value}(h:Row w b xs)(n:Nat):Row (w.drewN n) b xs:=h
theorem Row.drew{w:World}{b:Nat}{xs:List Value}(h:Row w b xs):Row w.drew b xs:=h
theorem Row.set{w:World}{b:Nat}{xs:List Value}(h:Row w b xs)(i:Nat)(v:Value)(hi:i<xs.length):Row (w.setCell ⟨b,i,none⟩ v) b (xs.set i v):=by
 intro j u hu
 rw [World.frozen?_setCell]
 by_cases e:i=j
 ·subst e
  rw [List.getElem?_set_self hi]at hu
  simp only [Option.some.injEq]at hu
  subst hu
  exact⟨World.cell?_setCell_same _ _ _ (h.cell i xs[i] (List.getElem?_eq_getElem hi)),h.free i hi⟩
 ·rw [List.getElem?_set_ne e]at hu
  rw [World.cell?_setCell_other _ _ _ _ (by intro q;simp only [Addr.mk.injEq]at q;omega)]
  exact h j u hu
theorem Row.below{w w':World}{b B:Nat}{xs:List Value}(h:Row w b xs)(hb:Below B w w')(hB:b<B):Row w' b xs:=by
 intro j u hu
 rw [hb.cell (p:=⟨b,j,none⟩) hB,hb.frozen (p:=⟨b,j,none⟩) hB]
 exact h j u hu
theorem Row.other{w:World}{b c i:Nat}{xs:List Value}(h:Row w b xs)(v:Value)(hc:c≠b):Row (w.setCell ⟨c,i,none⟩ v) b xs:=by
 intro j u hu
 rw [World.frozen?_setCell,World.cell?_setCell_other _ _ _ _ (by intro q;simp only [Addr.mk.injEq]at q;omega)]
 exact h j u hu
theorem Row.new(w:World)(xs:List Value)(t:TypeId):Row (w.alloc (.cells xs.toArray t)) w.heap.size xs:=by
 intro j u hu
 rw [World.cell?_alloc_new,World.frozen?_alloc_new]
 exact⟨by simpa using hu,rfl⟩
theorem Row.alloc{w:World}{b:Nat}{xs:List Value}(h:Row w b xs)(o:Obj)(hb:b<w.heap.size):Row (w.alloc o) b xs:=
 h.below (((Below.refl _ _).alloc (Nat.le_refl _) o)) hb
end Go.Proofs.YtaadknpjbogkbaaGreat
namespace Go.Proofs.YtaadknpjbogkbaaGreat
open Go.RowKit
set_option linter.unusedVariables false
def Seg(w:World)(b o:Nat)(xs:List Value):Prop:= ∀ j v,xs[j]? =some v→w.cell? ⟨b,o+j,none⟩=some v∧w.frozen? ⟨b,o+j,none⟩=false
theorem Seg.cell{w:World}{b o:Nat}{xs:List Value}(h:Seg w b o xs)(j:Nat)(v:Value)(hj:xs[j]? =some v):w.cell? ⟨b,o+j,none⟩=some v:=(h j v hj).1
theorem Seg.free{w:World}{b o:Nat}{xs:List Value}(h:Seg w b o xs)(j:Nat)(hj:j<xs.length):w.frozen? ⟨b,o+j,none⟩=false:=(h j xs[j] (List.getElem?_eq_getElem hj)).2
theorem Seg.set{w:World}{b o:Nat}{xs:List Value}(h:Seg w b o xs)(i:Nat)(v:Value)(hi:i<xs.length):Seg (w.setCell ⟨b,o+i,none⟩ v) b o (xs.set i v):=by
 intro j u hu
 rw [World.frozen?_setCell]
 by_cases e:i=j
 ·subst e
  rw [List.getElem?_set_self hi]at hu
  simp only [Option.some.injEq]at hu
  subst hu
  exact⟨World.cell?_setCell_same _ _ _ (h.cell i xs[i] (List.getElem?_eq_getElem hi)),h.free i hi⟩
 ·rw [List.getElem?_set_ne e]at hu
  rw [World.cell?_setCell_other _ _ _ _ (by intro q;simp only [Addr.mk.injEq]at q;omega)]
  exact h j u hu
theorem Seg.other{w:World}{b c o i:Nat}{xs:List Value}(h:Seg w b o xs)(v:Value)(hc:c≠b):Seg (w.setCell ⟨c,i,none⟩ v) b o xs:=by
 intro j u hu
 rw [World.frozen?_setCell,World.cell?_setCell_other _ _ _ _ (by intro q;simp only [Addr.mk.injEq]at q;omega)]
 exact h j u hu
theorem Seg.block{w w':World}{b o:Nat}{xs:List Value}(h:Seg w b o xs)(hb:w'.heap[b]? =w.heap[b]?):Seg w' b o xs:=by
 intro j u hu
 rw [World.cell?_of_block (w:=w) (a:=⟨b,o+j,none⟩) hb,World.frozen?_of_block (w:=w) (a:=⟨b,o+j,none⟩) hb]
 exact h j u hu
theorem Seg.below{w w':World}{b o B:Nat}{xs:List Value}(h:Seg w b o xs)(hb:Below B w w')(hB:b<B):Seg w' b o xs:=h.block (hb.block b hB)
theorem Seg.take{w:World}{b o:Nat}{xs:List Value}(h:Seg w b o xs)(n:Nat):Seg w b o (xs.take n):=by
 intro j u hu
 rw [List.getElem?_take]at hu
 split at hu
 ·exact h j u hu
 ·cases hu
theorem Seg.drop{w:World}{b o:Nat}{xs:List Value}(h:Seg w b o xs)(n:Nat):Seg w b (o+n) (xs.drop n):=by
 intro j u hu
 rw [List.getElem?_drop]at hu
 have:=h (n+j) u hu
 rwa [show o+n+j=o+(n+j) by omega]
theorem Row.seg{w:World}{b:Nat}{xs:List Value}(h:Row w b xs):Seg w b 0 xs:=by
 intro j u hu
 rw [Nat.zero_add]
 exact h j u hu
structure Sl(w:World)(a:Option Addr)(n cap:Nat)(xs:List Value):Prop where
 len:xs.length=n
 room:n≤cap
 big:cap≤maxLen
 nil:a=none→n=0∧cap=0
 seg:n=0∨ ∃ b o,a=some ⟨b,o,none⟩∧b<w.heap.size∧Seg w b o xs
theorem Sl.below{w w':World}{a:Option Addr}{n cap:Nat}{xs:List Value}(h:Sl w a n cap xs)(hb:Below w.heap.size w w'):Sl w' a n cap xs:=by
 refine⟨h.len,h.room,h.big,h.nil,h.seg.imp id ?_⟩
 rintro⟨b,o,e,hlt,hs⟩
 exact⟨b,o,e,Nat.lt_of_lt_of_le hlt hb.size,hs.below hb hlt⟩
theorem Sl.at{w:World}{a:Option Addr}{n cap:Nat}{xs:List Value}(h:Sl w a n cap xs)(hn:0<n): ∃ b o,a=some ⟨b,o,none⟩∧b<w.heap.size∧Seg w b o xs:=h.seg.resolve_left (by omega)
theorem sl_nil(w:World):Sl w none 0 0 []:=⟨rfl,Nat.le_refl _,Nat.zero_le _,fun _=>⟨rfl,rfl⟩,Or.inl rfl⟩
abbrev Own(w:World)(base:Nat)(T:TypeId)(a:Option Addr)(n cap:Nat)(xs:List Value):Prop:=w.ownsRow base T 1 (.slice a n cap) n xs
theorem Own.sl{w:World}{base n cap:Nat}{T:TypeId}{a:Option Addr}{xs:List Value}(h:Own w base T a n cap xs):Sl w a n cap xs:=by
 obtain⟨hl,⟨h1,h2⟩|⟨g,cap',cur,hv,hb,hg,h1,h2,h3,h4⟩⟩:=h
 ·cases h1
  refine⟨by omega,Nat.le_refl _,Nat.zero_le _,fun _=>⟨rfl,rfl⟩,Or.inl rfl⟩
 ·cases hv
  refine⟨by omega,h1,h2,(by intro e;cases e),Or.inr ⟨g,0,rfl,(Array.getElem?_eq_some_iff.1 hg).1,?_⟩⟩
  intro j u hu
  have hj:j<n:=by
   have:=(List.getElem?_eq_some_iff.1 hu).1
   omega
  rw [←h4,Nat.mul_one,List.getElem?_take,if_pos hj]at hu
  refine⟨by simp [World.cell?,hg];simpa using hu,by simp [World.frozen?,hg]⟩
theorem Own.form{w:World}{base n:Nat}{T:TypeId}{v:Value}{xs:List Value}(h:w.ownsRow base T 1 v n xs): ∃ a cap,v= .slice a n cap∧Own w base T a n cap xs:=by
 obtain⟨hl,⟨h1,h2⟩|⟨g,cap',cur,hv,hb,hg,h1,h2,h3,h4⟩⟩:=h
 ·subst h1 h2
  exact⟨none,0,rfl,hl,Or.inl ⟨rfl,rfl⟩⟩
 ·subst hv
  exact⟨_,_,rfl,hl,Or.inr ⟨g,cap',cur,rfl,hb,hg,h1,h2,h3,h4⟩⟩
theorem Own.mono{w:World}{base base' n cap:Nat}{T:TypeId}{a:Option Addr}{xs:List Value}(h:Own w base T a n cap xs)(hb:base'≤base):Own w base' T a n cap xs:=by
 obtain⟨hl,h1|⟨g,cap',cur,hv,hb',r⟩⟩:=h
 ·exact⟨hl,Or.inl h1⟩
 ·exact⟨hl,Or.inr ⟨g,cap',cur,hv,by omega,r⟩⟩
theorem Own.below{w w':World}{base n cap:Nat}{T:TypeId}{a:Option Addr}{xs:List Value}(h:Own w base T a n cap xs)(hb:Below w.heap.size w w'):Own w' base T a n cap xs:=by
 obtain⟨hl,h1|⟨g,cap',cur,hv,hb',hg,r⟩⟩:=h
 ·exact⟨hl,Or.inl h1⟩
 ·exact⟨hl,Or.inr ⟨g,cap',cur,hv,hb',by rw [hb.block g (Array.getElem?_eq_some_iff.1 hg).1];exact hg,r⟩⟩
theorem Own.take{w:World}{base n cap m:Nat}{T:TypeId}{a:Option Addr}{xs:List Value}(h:Own w base T a n cap xs)(hm:m≤n):Own w base T a m cap (xs.take m):=by
 obtain⟨hl,⟨h1,h2⟩|⟨g,cap',cur,hv,hb',hg,h1,h2,h3,h4⟩⟩:=h
 ·subst h2
  obtain rfl:m=0:=by omega
  cases h1
  exact⟨by simp,Or.inl ⟨rfl,rfl⟩⟩
 ·cases hv
  refine⟨by rw [List.length_take,hl];omega,Or.inr ⟨g,cap,cur,rfl,hb',hg,by omega,h2,h3,?_⟩⟩
  rw [←h4,List.take_take,Nat.mul_one,Nat.mul_one,Nat.min_eq_left hm]
theorem Own.at{w:World}{base n cap:Nat}{T:TypeId}{a:Option Addr}{xs:List Value}(h:Own w base T a n cap xs)(hn:0<n): ∃ b,a=some ⟨b,0,none⟩∧b<w.heap.size∧base≤b∧Seg w b 0 xs:=by
 obtain⟨b,o,e,h1,h2⟩:=h.sl.at hn
 subst e
 obtain⟨hl,⟨h1',_⟩|⟨g,cap',cur,hv,hb',r⟩⟩:=h
 ·cases h1'
 ·cases hv
  exact⟨b,rfl,h1,hb',h2⟩
structure Wr(w w':World)(b lo hi:Nat):Prop where
 grown:w.grownBy w' (some b)
 cells: ∀ c t f,w.heap[b]? =some (.cells c t f)→ ∃ c',w'.heap[b]? =some (.cells c' t f)∧c'.size=c.size∧ ∀ o,(o<lo∨hi≤o)→c'[o]? =c[o]?
theorem Wr.refl(w:World)(b lo hi:Nat):Wr w w b lo hi:=⟨World.grownBy.refl _ _,fun c t f h=>⟨c,h,rfl,fun _ _=>rfl⟩⟩
theorem Wr.trans{w w' w'':World}{b lo hi:Nat}(h:Wr w w' b lo hi)(k:Wr w' w'' b lo hi):Wr w w'' b lo hi:=by
 refine⟨⟨k.grown.os.trans h.grown.os,k.grown.tape.trans h.grown.tape,k.grown.output.trans h.grown.output,Nat.le_trans h.grown.size k.grown.size,fun i hi hne=>(k.grown.block i (Nat.lt_of_lt_of_le hi h.grown.size) hne).trans (h.grown.block i hi hne)⟩,fun c t f hc=>?_⟩
 obtain⟨c1,e1,s1,o1⟩:=h.cells c t f hc
 obtain⟨c2,e2,s2,o2⟩:=k.cells c1 t f e1
 exact⟨c2,e2,s2.trans s1,fun o ho=>(o2 o ho).trans (o1 o ho)⟩
theorem Wr.set{w w':World}{b lo hi i:Nat}(h:Wr w w' b lo hi)(v:Value)(h1:lo≤i)(h2:i<hi):Wr w (w'.setCell ⟨b,i,none⟩ v) b lo hi:=by
 refine h.trans ⟨⟨rfl,rfl,rfl,by simp,fun k hk hne=>Below.heap_setCell _ _ _ _ (by simpa using hne)⟩,fun c t f hc=>?_⟩
 refine⟨c.setIfInBounds i v,?_,by simp,fun o ho=>?_⟩
 ·simp [World.setCell,Array.getElem?_modify,hc]
 ·rw [Array.getElem?_setIfInBounds_ne (by omega)]
theorem Wr.own{w w':World}{b lo hi n cap base:Nat}{T:TypeId}{a:Option Addr}{xs:List Value}(h:Wr w w' b lo hi)(hs:Own w base T a n cap xs)(hne: ∀ o,a≠some ⟨b,o,none⟩):Own w' base T a n cap xs:=by
 obtain⟨hl,h1|⟨g,cap',cur,hv,hb',hg,r⟩⟩:=hs
 ·exact⟨hl,Or.inl h1⟩
 ·cases hv
  exact⟨hl,Or.inr ⟨g,cap,cur,rfl,hb',by rw [h.grown.block g (Array.getElem?_eq_some_iff.1 hg).1 (fun e=>hne 0 (by cases e;rfl))];exact hg,r⟩⟩
theorem Wr.owned{w w':World}{b lo hi n cap base:Nat}{T:TypeId}{xs ys:List Value}(h:Wr w w' b lo hi)(hs:Own w base T (some ⟨b,0,none⟩) n cap xs)(hy:ys.length=n)(hseg:Seg w' b 0 ys):Own w' base T (some ⟨b,0,none⟩) n cap ys:=by
 obtain⟨hl,⟨h1,_⟩|⟨g,cap',cur,hv,hb',hg,h1,h2,h3,h4⟩⟩:=hs
 ·cases h1
 ·cases hv
  obtain⟨c',e,s,ho⟩:=h.cells _ _ _ hg
  refine⟨by omega,Or.inr ⟨b,cap,c',rfl,hb',e,h1,h2,by omega,?_⟩⟩
  refine List.ext_getElem? fun j=>?_
  rw [List.getElem?_take,Nat.mul_one]
  by_cases hj:j<n
  ·rw [if_pos hj]
   have:=(hseg j ys[j] (List.getElem?_eq_getElem (by omega))).1
   simp [World.cell?,e]at this
   rw [Array.getElem?_toList,this,List.getElem?_eq_getElem (by omega)]
  ·rw [if_neg hj,List.getElem?_eq_none (by omega)]
theorem seg_of_own{w:World}{base b n cap:Nat}{T:TypeId}{xs:List Value}(h:Own w base T (some ⟨b,0,none⟩) n cap xs):Seg w b 0 xs∧b<w.heap.size∧base≤b:=by
 obtain⟨hl,⟨h1,_⟩|⟨g,cap',cur,hv,hb',hg,h1,h2,h3,h4⟩⟩:=h
 ·cases h1
 ·cases hv
  refine⟨?_,(Array.getElem?_eq_some_iff.1 hg).1,hb'⟩
  intro j u hu
  have hj:=(List.getElem?_eq_some_iff.1 hu).1
  rw [←h4,Nat.mul_one,List.getElem?_take,if_pos (by omega)]at hu
  rw [Nat.zero_add]
  refine⟨by simp [World.cell?,hg];simpa using hu,by simp [World.frozen?,hg]⟩
structure Keep(F:Nat→Prop)(w w':World):Prop where
 os:w'.os=w.os
 tape:w'.tape=w.tape
 output:w'.output=w.output
 size:w.heap.size≤w'.heap.size
 block: ∀ k,k<w.heap.size→ ¬F k→w'.heap[k]? =w.heap[k]?
theorem Keep.refl(F:Nat→Prop)(w:World):Keep F w w:=⟨rfl,rfl,rfl,Nat.le_refl _,fun _ _ _=>rfl⟩
theorem Keep.trans{F G:Nat→Prop}{a b c:World}(h:Keep F a b)(k:Keep G b c)(hG: ∀ i,G i→F i∨a.heap.size≤i):Keep F a c:=
 ⟨k.os.trans h.os,k.tape.trans h.tape,k.output.trans h.output,Nat.le_trans h.size k.size,fun i hi hF=>(k.block i (Nat.lt_of_lt_of_le hi h.size) (fun g=>(hG i g).elim hF (fun x=>by omega))).trans (h.block i hi hF)⟩
theorem Keep.of{F:Nat→Prop}{w w':World}(h:Below w.heap.size w w'):Keep F w w':=⟨h.os,h.tape,h.output,h.size,fun k hk _=>h.block k hk⟩
theorem Keep.to{F:Nat→Prop}{a b c:World}(h:Keep F a b)(k:Below b.heap.size b c):Keep F a c:=h.trans (Keep.of (F:=fun _=>False) k) (fun _ x=>x.elim)
theorem Keep.drew{F:Nat→Prop}{a w:World}(h:Keep F a w):Keep F a w.drew:=⟨h.os,h.tape,h.output,h.size,h.block⟩
theorem Keep.alloc{F:Nat→Prop}{a w:World}(h:Keep F a w)(o:Obj):Keep F a (w.alloc o):=h.to ((Below.refl _ _).alloc (Nat.le_refl _) o)
theorem Keep.set{F:Nat→Prop}{a w:World}(h:Keep F a w){p:Addr}(hp:F p.block∨a.heap.size≤p.block)(u:Value):Keep F a (w.setCell p u):=
 h.trans (G:=fun k=>k=p.block) ⟨rfl,rfl,rfl,by simp [World.setCell],fun k _ hk=>Below.heap_setCell _ _ _ _ hk⟩ (fun i hi=>by subst hi;exact hp)
theorem Keep.grown{F:Nat→Prop}{a w w':World}{row:Option Nat}(h:Keep F a w)(hg:w.grownBy w' row)(hr: ∀ k,row=some k→F k∨a.heap.size≤k):Keep F a w':=
 h.trans (G:=fun k=>row=some k) ⟨hg.os,hg.tape,hg.output,hg.size,fun k hk hn=>hg.block k hk (fun e=>hn e.symm)⟩ hr
theorem Keep.below{F:Nat→Prop}{w w':World}{B:Nat}(h:Keep F w w')(hB:B≤w.heap.size)(hF: ∀ k,F k→B≤k):Below B w w':=
 ⟨h.os,h.tape,h.output,h.size,fun k hk=>h.block k (by omega) (fun f=>by have:=hF k f;omega)⟩
theorem Keep.mono{F G:Nat→Prop}{w w':World}(h:Keep F w w')(hG: ∀ k,F k→G k):Keep G w w':=⟨h.os,h.tape,h.output,h.size,fun k hk hn=>h.block k hk (fun f=>hn (hG k f))⟩
theorem Row.keep{F:Nat→Prop}{w w':World}{b:Nat}{xs:List Value}(h:Row w b xs)(hk:Keep F w w')(hb:b<w.heap.size)(hF: ¬F b):Row w' b xs:=by
 intro j u hu
 rw [World.cell?_of_block (w:=w) (a:=⟨b,j,none⟩) (hk.block b hb hF),World.frozen?_of_block (w:=w) (a:=⟨b,j,none⟩) (hk.block b hb hF)]
 exact h j u hu
def Slot(a:Option Addr)(k:Nat):Prop:= ∃ o,a=some ⟨k,o,none⟩
theorem Own.keep{F:Nat→Prop}{w w':World}{base n cap:Nat}{T:TypeId}{a:Option Addr}{xs:List Value}(h:Own w base T a n cap xs)(hk:Keep F w w')(hF: ∀ k,Slot a k→ ¬F k):Own w' base T a n cap xs:=by
 obtain⟨hl,h1|⟨g,cap',cur,hv,hb',hg,r⟩⟩:=h
 ·exact⟨hl,Or.inl h1⟩
 ·refine⟨hl,Or.inr ⟨g,cap',cur,hv,hb',?_,r⟩⟩
  rw [hk.block g (Array.getElem?_eq_some_iff.1 hg).1 (hF g (by cases hv;exact⟨0,rfl⟩))]
  exact hg
theorem Own.lt{w:World}{base n cap:Nat}{T:TypeId}{a:Option Addr}{xs:List Value}(h:Own w base T a n cap xs){k:Nat}(hk:Slot a k):k<w.heap.size∧base≤k:=by
 obtain⟨o,rfl⟩:=hk
 obtain⟨hl,⟨h1,_⟩|⟨g,cap',cur,hv,hb',hg,r⟩⟩:=h
 ·cases h1
 ·cases hv
  exact⟨(Array.getElem?_eq_some_iff.1 hg).1,hb'⟩
theorem Own.put{w:World}{base n cap k i:Nat}{T:TypeId}{a:Option Addr}{xs:List Value}(h:Own w base T a n cap xs)(hk: ¬Slot a k)(u:Value):Own (w.setCell ⟨k,i,none⟩ u) base T a n cap xs:=
 h.keep ((Keep.refl (fun x=>x=k) w).set (Or.inl rfl) u) (fun j hj e=>hk (e▸hj))
theorem Row.lt{w:World}{b:Nat}{x:Value}{xs:List Value}(h:Row w b (x::xs)):b<w.heap.size:=by
 have h0:=(h 0 x rfl).1
 refine Nat.lt_of_not_le fun hle=>?_
 unfold World.cell? at h0
 rw [Array.getElem?_eq_none hle]at h0
 simp at h0
theorem own_slot{w:World}{base n cap:Nat}{T:TypeId}{a:Option Addr}{xs:List Value}(h:Own w base T a n cap xs){k:Nat}(e:(Value.slice a n cap).ownBlock=some k):Slot a k:=by
 cases a with
 |none=>cases e
 |some q=>obtain⟨_,⟨h5,_⟩|⟨g,_,_,hv,_⟩⟩:=h;cases h5;cases hv;cases e;exact⟨0,rfl⟩
def ints(L:List Int):List Value:=L.map fun x=> .int .i64 x
theorem ints_length(L:List Int):(ints L).length=L.length:=by simp [ints]
theorem ints_at{L:List Int}{k:Nat}{x:Int}(h:L[k]? =some x):(ints L)[k]? =some (.int .i64 x):=by simp [ints,h]
theorem ints_append(L M:List Int):ints (L++M)=ints L++ints M:=by simp [ints]
theorem ints_one(L:List Int): ∀ v∈ints L,v.oneCell'=true:=by
 intro v hv
 simp only [ints,List.mem_map]at hv
 obtain⟨x,_,rfl⟩:=hv
 rfl
theorem own_none(w:World)(base:Nat)(T:TypeId):Own w base T none 0 0 []:=⟨rfl,Or.inl ⟨rfl,rfl⟩⟩
theorem own_new(w:World)(base:Nat)(T:TypeId)(hb:base≤w.heap.size):Own (w.alloc (.cells #[] T)) base T (some ⟨w.heap.size,0,none⟩) 0 0 []:=World.ownsRow_lit w #[] 0 hb (by decide) rfl
theorem app_at{P:Program}(w:World){ops:Array Oper}{rest:List Oper}{o:Oper}{a:Act}{Q:Exit→Act→World→Prop}(hgd:o.guard=none)(s x:Operand)(t:TypeId)
  (ho:o.op= .call { callee:= .builtin .append,args:= #[s,x],argTypes:= #[t,t] })
  (base:Nat) (e:TypeId) (i:TypeInfo) (z:Value) (bytes:Nat) (ht:P.underlying t=some (.slice e)) (hi:P.info? e=some i) (hz:i.zero=some z)
  (hsize:i.size=1) (hby:i.bytes=bytes) (hzs:z.cells.size=1)
  (a0:Option Addr) (n0 c0:Nat) (xs:List Value) (hs:a.eval s= .slice a0 n0 c0) (hown:Own w base e a0 n0 c0 xs)
  (ao:Option Addr) (m c:Nat) (news:List Value) (hx:a.eval x= .slice ao m c) (hsl:Sl w ao m c news) (h1: ∀ u∈news,u.oneCell'=true)
  (h63:n0+m≤maxLen) (hbytes:(n0+m)*bytes≤140737488355328) (hbase:base≤w.heap.size)
  (h: ∀ a' cap' w',Own w' base e a' (n0+m) cap' (xs++news)→w.grownBy w' (Value.slice a0 n0 c0).ownBlock→(∀ k,Slot a' k→Slot a0 k∨w.heap.size≤k)→wpList P ops Q rest (a.put o.dst (.slice a' (n0+m) cap')) w'):wpList P ops Q (o::rest) a w:=by
 cases ao with
 |none=>
  obtain⟨rfl,rfl⟩:=hsl.nil rfl
  obtain rfl:news= []:=List.eq_nil_of_length_eq_zero hsl.len
  refine wpList_append_own_none hgd s x t ho base e i 1 ht hi _ n0 xs hs hown hx ?_
  exact h a0 c0 w (by simpa using hown) (World.grownBy.refl _ _) (fun k hk=>Or.inl hk)
 |some ad=>
  refine wpList_append_own_at w hgd s x t ho base e i z 1 bytes ht hi hz hsize hby hzs (by decide) _ n0 xs hs hown ad m c news hx (by rw [hsl.len];omega) ?_ h1 h63 hbytes hbase ?_
  ·intro j u hu
   have hj:=(List.getElem?_eq_some_iff.1 hu).1
   obtain⟨b,off,e1,hb,hseg⟩:=hsl.at (by have:=hsl.len;omega)
   cases e1
   rw [Addr.add_lit]
   exact hseg.cell j u hu
  ·intro v' w' h1 h2 _ h4
   obtain⟨a',cap',rfl,h3⟩:=Own.form h1
   refine h a' cap' w' h3 h2 ?_
   rintro k ⟨q,rfl⟩
   rcases h4 with h4|h4
   ·cases a0 with
    |none=>cases h4
    |some b0=>
     have:k=b0.block:=by simpa [Value.ownBlock]using h4
     subst this
     obtain⟨hl,⟨h5,_⟩|⟨g,cap',cur,hv,r⟩⟩:=hown
     ·cases h5
     ·cases hv;exact Or.inl ⟨0,rfl⟩
   ·have:k=w.heap.size:=by simpa [Value.ownBlock]using h4
    exact Or.inr (by omega)
theorem infoI:(Tryz.prog.info? 3).map (fun i=>(i.zero,i.size,i.bytes))=some (some (.int .i64 0),1,8):=by kernel_rfl
theorem info_of{P:Program}{t:TypeId}{z:Value}{s b:Nat}(h:(P.info? t).map (fun i=>(i.zero,i.size,i.bytes))=some (some z,s,b)): ∃ i,P.info? t=some i∧i.zero=some z∧i.size=s∧i.bytes=b:=by
 cases hi:P.info? t with
 |none=>rw [hi]at h;cases h
 |some i=>
  rw [hi]at h
  simp only [Option.map_some,Option.some.injEq,Prod.mk.injEq]at h
  exact⟨i,rfl,h.1,h.2.1,h.2.2⟩
theorem sl_one(w:World)(x:Int)(T:TypeId):Sl (w.alloc (.cells #[.int .i64 x] T)) (some ⟨w.heap.size,0,none⟩) 1 1 [.int .i64 x]:=
 ⟨rfl,Nat.le_refl _,by unfold maxLen;omega,(by intro e;cases e),Or.inr ⟨_,_,rfl,by simp,(Row.new w [.int .i64 x] T).seg⟩⟩
def tkN(B:List Int)(T:Nat):Int:=match B.getLast? with|some x=>x|none=>(T:Int)
def tkT(B:List Int)(T:Nat):Nat:=if B= []then T+1 else T
theorem tkN_nil(T:Nat):tkN [] T=(T:Int):=rfl
theorem tkN_last(B:List Int)(x:Int)(T:Nat):tkN (B++ [x]) T=x:=by simp [tkN]
theorem tkT_last(B:List Int)(x:Int)(T:Nat):tkT (B++ [x]) T=T:=by simp [tkT]
theorem nil_or_last(B:List Int):B= []∨ ∃ B' x,B=B'++ [x]:=by
 by_cases h:B= []
 ·exact Or.inl h
 ·exact Or.inr ⟨B.dropLast,B.getLast h,(List.dropLast_concat_getLast h).symm⟩
def allN(L:List Int)(k:Nat):List Int:=((List.range k).map (fun i:Nat=>(i:Int))).filter (fun y=>decide (y∈L))
theorem allN_next(L:List Int)(k:Nat):allN L (k+1)=allN L k++(if(k:Int)∈L then [(k:Int)]else []):=by
 unfold allN
 rw [List.range_succ,List.map_append,List.filter_append]
 by_cases e:(k:Int)∈L<;>simp [e]
theorem allN_len(L:List Int)(k:Nat):(allN L k).length≤k:=by
 unfold allN
 exact Nat.le_trans (List.length_filter_le _ _) (by simp)
theorem allN_mem{L:List Int}{k:Nat}{x:Int}(h:x∈allN L k):x∈L∧0≤x∧x<k:=by
 unfold allN at h
 rw [List.mem_filter,List.mem_map]at h
 obtain⟨⟨i,hi,rfl⟩,h2⟩:=h
 rw [List.mem_range]at hi
 exact⟨by simpa using h2,by omega,by omega⟩
structure ArOk(L B:List Int)(T:Nat):Prop where
 num:L.length+B.length=T
 nd:(L++B).Nodup
 rg: ∀ x∈L++B,0≤x∧x<T
theorem mem_allN{L:List Int}{k:Nat}{x:Int}(h:x∈L)(h0:0≤x)(h1:x<k):x∈allN L k:=by
 unfold allN
 rw [List.mem_filter,List.mem_map]
 exact⟨⟨x.toNat,by rw [List.mem_range];omega,by omega⟩,by simpa using h⟩
theorem ArOk.new:ArOk [] [] 0:=⟨rfl,by simp,fun x h=>by simp at h⟩
theorem ArOk.take{L B:List Int}{T:Nat}(h:ArOk L B T):ArOk (L++ [tkN B T]) B.dropLast (tkT B T)∧ ¬tkN B T∈L:=by
 rcases nil_or_last B with rfl|⟨B',x,rfl⟩
 ·have hn: ¬(T:Int)∈L:=fun m=>by have:=h.rg _ (List.mem_append_left _ m);omega
  refine⟨⟨?_,?_,?_⟩,hn⟩
  ·have:=h.num;simp [tkT]at*;exact this
  ·have:=h.nd
   simp only [List.append_nil,List.dropLast_nil,tkN_nil]at*
   rw [List.nodup_append]
   exact⟨this,by simp,fun a ha b hb=>by simp at hb;subst hb;exact fun e=>hn (e▸ha)⟩
  ·intro x hx
   simp only [List.append_nil,List.dropLast_nil,tkN_nil,List.mem_append,List.mem_singleton]at hx
   have ht:tkT [] T=T+1:=rfl
   rw [ht]
   rcases hx with hx|rfl
   ·have:=h.rg x (List.mem_append_left _ hx);omega
   ·omega
 ·rw [tkN_last,tkT_last,List.dropLast_concat]
  have hp:(L++ [x]++B').Perm (L++(B'++ [x])):=by
   rw [List.append_assoc]
   exact List.Perm.append_left _ List.perm_append_comm
  have hn: ¬x∈L:=fun m=>by
   have:=(List.nodup_append.1 h.nd).2.2 x m x (by simp)
   exact this rfl
  refine⟨⟨?_,hp.nodup_iff.2 h.nd,fun y hy=>h.rg y (hp.mem_iff.1 hy)⟩,hn⟩
  have:=h.num
  simp at*
  omega
theorem filter_ne_perm{L:List Int}{n:Int}(hd:L.Nodup)(hn:n∈L):(L.filter (fun y=>decide (y≠n))++ [n]).Perm L:=by
 induction L with
 |nil=>cases hn
 |cons a L ih=>
  rw [List.nodup_cons]at hd
  by_cases e:a=n
  ·subst e
   have hf:L.filter (fun y=>decide (y≠a))=L:=by
    rw [List.filter_eq_self]
    intro y hy
    exact decide_eq_true (fun e=>hd.1 (e▸hy))
   rw [List.filter_cons_of_neg (by simp),hf]
   exact List.perm_append_comm
  ·rw [List.filter_cons_of_pos (by simp [e]),List.cons_append]
   exact(ih hd.2 (List.mem_of_ne_of_mem (fun q=>e q.symm) hn)).cons a
theorem ArOk.free{L B:List Int}{T:Nat}{n:Int}(h:ArOk L B T)(hn:n∈L):ArOk (L.filter (fun y=>decide (y≠n))) (B++ [n]) T:=by
 have hp:(L.filter (fun y=>decide (y≠n))++(B++ [n])).Perm (L++B):=by
  have h1:=filter_ne_perm (List.nodup_append.1 h.nd).1 hn
  have h2:(L.filter (fun y=>decide (y≠n))++(B++ [n])).Perm (L.filter (fun y=>decide (y≠n))++([n]++B)):=List.Perm.append_left _ List.perm_append_comm
  rw [←List.append_assoc _ [n] B]at h2
  exact h2.trans (h1.append_right B)
 refine⟨?_,hp.nodup_iff.2 h.nd,fun y hy=>h.rg y (hp.mem_iff.1 hy)⟩
 have:=hp.length_eq
 have:=h.num
 simp only [List.length_append]at*
 omega
end Go.Proofs.YtaadknpjbogkbaaGreat
namespace Go.Proofs.YtaadknpjbogkbaaGreat.wd
open Go.RowKit
def dg(v:Int)(i:Nat):Int:=v/4294967296^i % 4294967296
theorem dg_range(v:Int)(i:Nat):0≤dg v i∧dg v i<4294967296:=by unfold dg;omega
theorem p256(i:Nat):(0:Int)<4294967296^i:=Int.pow_pos (by decide)
def dcells(n:Nat)(v:Int):List Value:=(List.range n).map fun j=> .int .u32 (dg v j)
theorem dcells_at(n:Nat)(v:Int)(i:Nat)(h:i<n):(dcells n v)[i]? =some (.int .u32 (dg v i)):=by simp [dcells,h]
end Go.Proofs.YtaadknpjbogkbaaGreat.wd
namespace Go.Proofs.YtaadknpjbogkbaaGreat
open Go.RowKit
set_option linter.unusedVariables false
theorem infoInt:(Tryz.prog.info? 3).map (fun i=>(i.zero,i.size,i.bytes))=some (some (.int .i64 0),1,8):=by kernel_rfl
theorem Below.to{w w':World}(h:w.grownBy w' none):Below w.heap.size w w':=(Below.refl _ w).grown h (Nat.le_refl _) (fun k e=>by cases e)
theorem dcells_two(x:Nat)(h:x<18446744073709551616):wd.dcells 2 (x:Int)= [.int .u32 ((x:Int) % 4294967296), .int .u32 ((x:Int)/4294967296)]:=by
 simp [wd.dcells,List.range_succ,wd.dg]
 omega
theorem own_two(w:World)(x:Nat)(h:x<18446744073709551616):Own (w.alloc (.cells #[.int .u32 ((x:Int) % 4294967296), .int .u32 ((x:Int)/4294967296)] 161)) w.heap.size 161 (some ⟨w.heap.size,0,none⟩) 2 2 (wd.dcells 2 x):=by
 rw [dcells_two x h]
 exact World.ownsRow_lit w _ 2 (Nat.le_refl _) (by decide) rfl
theorem make_any{P:Program}(w:World){ops:Array Oper}{rest:List Oper}{o:Oper}{a:Act}{Q:Exit→Act→World→Prop}
  (hg:o.guard=none) (l c:Operand) (t:TypeId) (hop:o.op=Op.makeSlice t l c)
  (base:Nat) (e:TypeId) (i:TypeInfo) (z:Value) (h1:P.underlying t=some (.slice e)) (h2:P.info? e=some i) (h3:i.zero=some z) (h4:i.size=1) (hz:z.cells= #[z])
  (kl kc:IntKind) (L C:Int) (n:Nat) (hl:a.eval l= .int kl L) (hc:a.eval c= .int kc C) (hL:L=(n:Int)) (hC:C=(n:Int)) (b2:i.bytes*n≤281474976710656) (b3:n≤maxLen) (b4:base≤w.heap.size)
  (hK: ∀ w',Own w' base e (some ⟨w.heap.size,0,none⟩) n n (List.replicate n z)→Below w.heap.size w w'→wpList P ops Q rest (a.put o.dst (.slice (some ⟨w.heap.size,0,none⟩) n n)) w'):
  wpList P ops Q (o::rest) a w:=by
 refine wpList_make_full w hg l c t hop base e i z 1 h1 h2 h3 h4 kl kc L C n hl hc hL hC b2 b3 b4 ?_
 intro w' h hgr
 rw [hz,Nat.mul_one,toList_madeCells_one]at h
 exact hK w' h (Below.to hgr)
theorem Own.set{w:World}{base b n cap i:Nat}{T:TypeId}{xs:List Value}(h:Own w base T (some ⟨b,0,none⟩) n cap xs)(v:Value)(hi:i<n):Own (w.setCell ⟨b,i,none⟩ v) base T (some ⟨b,0,none⟩) n cap (xs.set i v):=by
 have hs:=(seg_of_own h).1.set i v (by have:=h.sl.len;omega)
 rw [Nat.zero_add]at hs
 exact((Wr.refl w b 0 n).set v (Nat.zero_le _) hi).owned h (by rw [List.length_set];exact h.sl.len) hs
theorem Own.cell{w:World}{base b n cap:Nat}{T:TypeId}{xs:List Value}(h:Own w base T (some ⟨b,0,none⟩) n cap xs)(j:Nat)(v:Value)(hj:xs[j]? =some v):w.cell? ⟨b,j,none⟩=some v:=by
 have:=(seg_of_own h).1.cell j v hj
 rwa [Nat.zero_add]at this
theorem Own.free{w:World}{base b n cap:Nat}{T:TypeId}{xs:List Value}(h:Own w base T (some ⟨b,0,none⟩) n cap xs)(j:Nat)(hj:j<n):w.frozen? ⟨b,j,none⟩=false:=by
 have:=(seg_of_own h).1.free j (by have:=h.sl.len;omega)
 rwa [Nat.zero_add]at this
end Go.Proofs.YtaadknpjbogkbaaGreat
namespace Go.Proofs.YtaadknpjbogkbaaGreat.hf
open Go.RowKit
def dg(v:Int)(i:Nat):Int:=v/65536^i % 65536
theorem dg_range(v:Int)(i:Nat):0≤dg v i∧dg v i<65536:=by unfold dg;omega
theorem p256(i:Nat):(0:Int)<65536^i:=Int.pow_pos (by decide)
def fill(n:Nat)(p:Nat→Bool)(u v:Int):List Value:=(List.range n).map fun j=> .int .i64 (if p j then dg u j else dg v j)
def dcells(n:Nat)(v:Int):List Value:=(List.range n).map fun j=> .int .i64 (dg v j)
def mix(n i:Nat)(u v:Int):List Value:=fill n (fun j=>decide (j<i)) u v
theorem fill_length(n:Nat)(p:Nat→Bool)(u v:Int):(fill n p u v).length=n:=by simp [fill]
theorem dcells_length(n:Nat)(v:Int):(dcells n v).length=n:=by simp [dcells]
theorem dcells_at(n:Nat)(v:Int)(i:Nat)(h:i<n):(dcells n v)[i]? =some (.int .i64 (dg v i)):=by simp [dcells,h]
theorem fill_at(n:Nat)(p:Nat→Bool)(u v:Int)(i:Nat)(h:i<n):(fill n p u v)[i]? =some (.int .i64 (if p i then dg u i else dg v i)):=by simp [fill,h]
theorem mix_at(n k:Nat)(u v:Int)(i:Nat)(h:i<n)(hk:k≤i):(mix n k u v)[i]? =some (.int .i64 (dg v i)):=by
 rw [mix,fill_at _ _ _ _ _ h];simp;omega
theorem fill_congr{n:Nat}{p q:Nat→Bool}{u v u' v':Int}(h: ∀ j,j<n→(if p j then dg u j else dg v j)=(if q j then dg u' j else dg v' j)):fill n p u v=fill n q u' v':=by
 unfold fill
 refine List.map_congr_left fun j hj=>?_
 rw [h j (by simpa using hj)]
theorem fill_set(n:Nat)(p:Nat→Bool)(u v:Int)(i:Nat):(fill n p u v).set i (.int .i64 (dg u i))=fill n (fun j=>p j||j==i) u v:=by
 refine List.ext_getElem? fun j=>?_
 rw [List.getElem?_set]
 by_cases e:i=j
 ·subst e
  by_cases h:i<n
  ·rw [if_pos rfl,if_pos (by rw [fill_length];exact h),fill_at _ _ _ _ _ h];simp
  ·rw [if_pos rfl,if_neg (by rw [fill_length];exact h),List.getElem?_eq_none (by rw [fill_length];omega)]
 ·by_cases h:j<n
  ·rw [if_neg e,fill_at _ _ _ _ _ h,fill_at _ _ _ _ _ h]
   have e':(j==i)=false:=by simp;omega
   simp [e']
  ·rw [if_neg e,List.getElem?_eq_none (by simp [fill_length];omega),List.getElem?_eq_none (by simp [fill_length];omega)]
theorem mix_set(n i:Nat)(u v:Int):(mix n i u v).set i (.int .i64 (dg u i))=mix n (i+1) u v:=by
 unfold mix
 rw [fill_set]
 refine fill_congr fun j _=>?_
 have:(decide (j<i)||j==i)=decide (j<i+1):=by rw [Bool.eq_iff_iff];simp;omega
 rw [this]
theorem mix_zero(n:Nat)(u v:Int):mix n 0 u v=dcells n v:=by unfold mix fill dcells;simp
theorem mix_full(n:Nat)(u v:Int):mix n n u v=dcells n u:=by
 unfold mix fill dcells
 refine List.map_congr_left fun j hj=>?_
 have:j<n:=by simpa using hj
 simp [this]
theorem dg_congr{u v:Int}{i j:Nat}(t:Int)(h:u=v+t*65536^i)(hj:j<i):dg u j=dg v j:=by
 unfold dg
 obtain⟨d,rfl⟩: ∃ d,i=j+1+d:=⟨i- (j+1),by omega⟩
 have e:t*(65536:Int)^(j+1+d)=(65536*(t*65536^d))*65536^j:=by
  rw [show j+1+d=d+1+j by omega,Int.pow_add,Int.pow_succ,←Int.mul_assoc,←Int.mul_assoc,Int.mul_comm (t*65536^d) 65536]
 rw [h,e,Int.add_mul_ediv_right _ _ (Int.ne_of_gt (p256 j))]
 omega
def carry(x y:Int)(i:Nat):Int:=(x % 65536^i+y % 65536^i)/65536^i
theorem carry_zero(x y:Int):carry x y 0=0:=by simp [carry]
theorem emod_succ(x:Int)(i:Nat):x % 65536^(i+1)=dg x i*65536^i+x % 65536^i:=by
 unfold dg
 have hp:=p256 i
 have h1:=Int.mul_ediv_add_emod x (65536^i)
 have h2:=Int.mul_ediv_add_emod (x/65536^i) 65536
 have b:=Int.emod_nonneg x (Int.ne_of_gt hp)
 have b':=Int.emod_lt_of_pos x hp
 have c:=Int.emod_nonneg (x/65536^i) (show(65536:Int)≠0 by decide)
 have c':=Int.emod_lt_of_pos (x/65536^i) (show(0:Int)<65536 by decide)
 have e:x=(x/65536^i % 65536*65536^i+x % 65536^i)+(x/65536^i/65536)*65536^(i+1):=by
  have:(x/65536^i/65536)*(65536:Int)^(i+1)=(65536*(x/65536^i/65536))*65536^i:=by rw [Int.pow_succ,Int.mul_comm ((65536:Int)^i) 65536,←Int.mul_assoc,Int.mul_comm _ 65536]
  rw [this]
  have h3:(65536*(x/65536^i/65536))*(65536:Int)^i+x/65536^i % 65536*65536^i=x/65536^i*65536^i:=by rw [←Int.add_mul,h2]
  have h4:x/65536^i*(65536:Int)^i=65536^i*(x/65536^i):=Int.mul_comm _ _
  omega
 have l0:0≤x/65536^i % 65536*65536^i+x % 65536^i:=Int.add_nonneg (Int.mul_nonneg c (Int.le_of_lt hp)) b
 have l1:x/65536^i % 65536*65536^i+x % 65536^i<65536^(i+1):=by
  have:x/65536^i % 65536*(65536:Int)^i≤65535*65536^i:=Int.mul_le_mul_of_nonneg_right (by omega) (Int.le_of_lt hp)
  rw [Int.pow_succ]
  omega
 have key:x % 65536^(i+1)=(x/65536^i % 65536*65536^i+x % 65536^i) % 65536^(i+1):=by
  have:=congrArg (· % (65536:Int)^(i+1)) e
  simpa [Int.add_mul_emod_self_right]using this
 rw [key,Int.emod_eq_of_lt l0 l1]
theorem carry_sum(x y:Int)(i:Nat):(x % 65536^(i+1)+y % 65536^(i+1))/65536^i=carry x y i+dg x i+dg y i:=by
 rw [emod_succ,emod_succ]
 unfold carry
 have e:dg x i*65536^i+x % 65536^i+(dg y i*65536^i+y % 65536^i)=(x % 65536^i+y % 65536^i)+(dg x i+dg y i)*65536^i:=by rw [Int.add_mul];omega
 rw [e,Int.add_mul_ediv_right _ _ (Int.ne_of_gt (p256 i))]
 omega
theorem carry_succ(x y:Int)(i:Nat):carry x y (i+1)=(carry x y i+dg x i+dg y i)/65536:=by
 rw [←carry_sum]
 show(x % 65536^(i+1)+y % 65536^(i+1))/65536^(i+1)=_
 have hp:=p256 i
 rw [Int.pow_succ,Int.ediv_ediv,if_neg (by omega)]
 omega
theorem add_digit(x y:Int)(i:Nat):(carry x y i+dg x i+dg y i) % 65536=dg (x+y) i:=by
 unfold dg carry
 have hp:=p256 i
 have h1:=Int.mul_ediv_add_emod x (65536^i)
 have h2:=Int.mul_ediv_add_emod y (65536^i)
 have e:x+y=(x % 65536^i+y % 65536^i)+(x/65536^i+y/65536^i)*65536^i:=by
  have a1:x/65536^i*(65536:Int)^i=65536^i*(x/65536^i):=Int.mul_comm _ _
  have a2:y/65536^i*(65536:Int)^i=65536^i*(y/65536^i):=Int.mul_comm _ _
  rw [Int.add_mul];omega
 have e2:(x+y)/65536^i=(x % 65536^i+y % 65536^i)/65536^i+(x/65536^i+y/65536^i):=by
  conv=>lhs;rw [e]
  exact Int.add_mul_ediv_right _ _ (Int.ne_of_gt hp)
 rw [e2]
 omega
theorem carry_range(x y:Int)(i:Nat):0≤carry x y i∧carry x y i≤1:=by
 unfold carry
 have hp:=p256 i
 have a:=Int.emod_nonneg x (Int.ne_of_gt hp)
 have a':=Int.emod_lt_of_pos x hp
 have b:=Int.emod_nonneg y (Int.ne_of_gt hp)
 have b':=Int.emod_lt_of_pos y hp
 refine⟨Int.ediv_nonneg (by omega) (by omega),?_⟩
 have:(x % 65536^i+y % 65536^i)/65536^i<2:=Int.ediv_lt_of_lt_mul hp (by omega)
 omega
end Go.Proofs.YtaadknpjbogkbaaGreat.hf
namespace Go.Proofs.YtaadknpjbogkbaaGreat.hf
open Go.RowKit
set_option linter.unusedVariables false
def IsLen(v n:Nat):Prop:=v<65536^n∧(n=0∨65536^(n- 1)≤v)
theorem isLen_one{v n m:Nat}(h:IsLen v n)(h':IsLen v m):n=m:=by
 obtain⟨a,b⟩:=h
 obtain⟨a',b'⟩:=h'
 rcases Nat.lt_trichotomy n m with e|e|e
 ·rcases b' with b'|b'
  ·omega
  ·have:=Nat.pow_le_pow_right (n:=65536) (by decide) (show n≤m- 1 by omega)
   omega
 ·exact e
 ·rcases b with b|b
  ·omega
  ·have:=Nat.pow_le_pow_right (n:=65536) (by decide) (show m≤n- 1 by omega)
   omega
theorem isLen_cut: ∀ (n v:Nat),v<65536^n→ ∃ m,m≤n∧IsLen v m
 |0,v,h=>⟨0,Nat.le_refl _,h,Or.inl rfl⟩
 |n+1,v,h=>by
  by_cases c:v<65536^n
  ·obtain⟨m,h1,h2⟩:=isLen_cut n v c
   exact⟨m,by omega,h2⟩
  ·exact⟨n+1,Nat.le_refl _,h,Or.inr (by simp;omega)⟩
def nlen(v:Nat):Nat:=if h:v=0 then 0 else nlen (v/65536)+1
 termination_by v
 decreasing_by exact Nat.div_lt_self (Nat.pos_of_ne_zero h) (by decide)
theorem nlen_is(v:Nat):IsLen v (nlen v):=by
 induction v using Nat.strongRecOn with
 |ind v ih=>
  unfold nlen
  split
  ·rename_i h
   rw [h]
   exact⟨by decide,Or.inl rfl⟩
  ·rename_i h
   obtain⟨h1,h2⟩:=ih (v/65536) (Nat.div_lt_self (Nat.pos_of_ne_zero h) (by decide))
   refine⟨?_,Or.inr ?_⟩
   ·rw [Nat.pow_succ]
    exact(Nat.div_lt_iff_lt_mul (by decide)).1 h1
   ·rw [Nat.add_sub_cancel]
    rcases h2 with h2|h2
    ·rw [h2]
     exact Nat.pos_of_ne_zero h
    ·rcases Nat.eq_zero_or_pos (nlen (v/65536))with h3|h3
     ·rw [h3]
      exact Nat.pos_of_ne_zero h
     ·have h4:=(Nat.le_div_iff_mul_le (by decide)).1 h2
      rw [←Nat.pow_succ]at h4
      rwa [show(nlen (v/65536)- 1).succ=nlen (v/65536) by omega]at h4
theorem nlen_eq{v n:Nat}(h:IsLen v n):nlen v=n:=isLen_one (nlen_is v) h
theorem nlen_le{v n:Nat}(h:v<65536^n):nlen v≤n:=by
 obtain⟨m,h1,h2⟩:=isLen_cut n v h
 rw [nlen_eq h2];exact h1
theorem nlen_zero:nlen 0=0:=nlen_eq ⟨by decide,Or.inl rfl⟩
theorem nlen_lt(v:Nat):v<65536^nlen v:=(nlen_is v).1
theorem nlen_pos{v:Nat}(h:0<v):0<nlen v:=by
 rcases Nat.lt_or_ge 0 (nlen v)with l|l
 ·exact l
 ·have:=nlen_lt v
  rw [show nlen v=0 by omega]at this
  simp at this
  omega
theorem lt_of_nlen{u v:Nat}(h:nlen u<nlen v):u<v:=by
 obtain⟨_,b⟩:=nlen_is v
 rcases b with b|b
 ·omega
 ·have:=nlen_lt u
  have:=Nat.pow_le_pow_right (n:=65536) (by decide) (show nlen u≤nlen v- 1 by omega)
  omega
theorem pow_cast(k:Nat):((65536^k:Nat):Int)=(65536:Int)^k:=by rw [Int.natCast_pow];rfl
theorem dg_nat(v k:Nat):dg (v:Int) k=((v/65536^k % 65536:Nat):Int):=by
 unfold dg
 rw [←pow_cast]
 omega
theorem dg_over{v k:Nat}(h:v<65536^k):dg (v:Int) k=0:=by rw [dg_nat,Nat.div_eq_of_lt h];rfl
theorem dg_top{v n:Nat}(h:IsLen v (n+1)):dg (v:Int) n≠0:=by
 obtain⟨a,b⟩:=h
 have b:65536^n≤v:=by
  rcases b with b|b
  ·omega
  ·exact b
 rw [dg_nat]
 have h1:1≤v/65536^n:=(Nat.one_le_div_iff (Nat.pow_pos (by decide))).2 b
 have h2:v/65536^n<65536:=by
  rw [Nat.pow_succ]at a
  exact Nat.div_lt_of_lt_mul a
 rw [Nat.mod_eq_of_lt h2]
 omega
theorem lt_of_dg_zero{v n:Nat}(h:v<65536^(n+1))(z:dg (v:Int) n=0):v<65536^n:=by
 rcases Nat.lt_or_ge v (65536^n)with l|l
 ·exact l
 ·exact absurd z (dg_top ⟨h,Or.inr (by simpa using l)⟩)
theorem eq_of_dcells: ∀ (n:Nat) (u v:Nat),u<65536^n→v<65536^n→(∀ j,j<n→dg (u:Int) j=dg (v:Int) j)→u=v:=by
 intro n
 induction n with
 |zero=>intro u v hu hv _;simp at hu hv;omega
 |succ n ih=>
  intro u v hu hv h
  have e:=ih (u % 65536^n) (v % 65536^n) (Nat.mod_lt _ (Nat.pow_pos (by decide))) (Nat.mod_lt _ (Nat.pow_pos (by decide))) (fun j hj=>by
   have a: ∀ x:Nat,dg ((x % 65536^n:Nat):Int) j=dg (x:Int) j:=fun x=>by
    refine dg_congr (i:=n) (-((x/65536^n:Nat):Int)) ?_ hj
    have:=Nat.mod_add_div x (65536^n)
    rw [←pow_cast,Int.neg_mul,←Int.natCast_mul,Nat.mul_comm (x/65536^n)]
    omega
   rw [a,a]
   exact h j (by omega))
  have t:=h n (by omega)
  rw [dg_nat,dg_nat]at t
  have du:u/65536^n<65536:=by rw [Nat.pow_succ]at hu;exact Nat.div_lt_of_lt_mul hu
  have dv:v/65536^n<65536:=by rw [Nat.pow_succ]at hv;exact Nat.div_lt_of_lt_mul hv
  rw [Nat.mod_eq_of_lt du,Nat.mod_eq_of_lt dv]at t
  have t':u/65536^n=v/65536^n:=by omega
  have h1:=Nat.mod_add_div u (65536^n)
  have h2:=Nat.mod_add_div v (65536^n)
  rw [e,t']at h1
  omega
def bor(x y:Int):Int:=if x<y then 1 else 0
def bw(x y:Int)(i:Nat):Int:= -((x % 65536^i- y % 65536^i)/65536^i)
theorem bw_zero(x y:Int):bw x y 0=0:=by simp [bw,Int.emod_one]
theorem bw_sum(x y:Int)(i:Nat):(x % 65536^(i+1)- y % 65536^(i+1))/65536^i=dg x i- dg y i- bw x y i:=by
 rw [emod_succ,emod_succ]
 unfold bw
 have e:dg x i*65536^i+x % 65536^i- (dg y i*65536^i+y % 65536^i)=(x % 65536^i- y % 65536^i)+(dg x i- dg y i)*65536^i:=by rw [Int.sub_mul];omega
 rw [e,Int.add_mul_ediv_right _ _ (Int.ne_of_gt (p256 i))]
 omega
theorem bw_range(x y:Int)(i:Nat):0≤bw x y i∧bw x y i≤1:=by
 unfold bw
 have hp:=p256 i
 have a:=Int.emod_nonneg x (Int.ne_of_gt hp)
 have a':=Int.emod_lt_of_pos x hp
 have b:=Int.emod_nonneg y (Int.ne_of_gt hp)
 have b':=Int.emod_lt_of_pos y hp
 have h1:(x % 65536^i- y % 65536^i)/65536^i<1:=Int.ediv_lt_of_lt_mul hp (by omega)
 have h2: -1≤(x % 65536^i- y % 65536^i)/65536^i:=Int.le_ediv_of_mul_le hp (by omega)
 omega
theorem bw_succ(x y:Int)(i:Nat):bor (dg x i) (dg y i+bw x y i)=bw x y (i+1):=by
 have e:bw x y (i+1)= -((dg x i- dg y i- bw x y i)/65536):=by
  rw [←bw_sum]
  show -((x % 65536^(i+1)- y % 65536^(i+1))/65536^(i+1))=_
  have hp:=p256 i
  rw [Int.pow_succ,Int.ediv_ediv,if_neg (by omega)]
  omega
 rw [e]
 have h:=bw_range x y i
 have a:=dg_range x i
 have b:=dg_range y i
 unfold bor
 split<;>omega
theorem sub_digit(x y:Int)(i:Nat):(dg x i- dg y i- bw x y i) % 65536=dg (x- y) i:=by
 unfold dg bw
 have hp:=p256 i
 have h1:=Int.mul_ediv_add_emod x (65536^i)
 have h2:=Int.mul_ediv_add_emod y (65536^i)
 have e:x- y=(x % 65536^i- y % 65536^i)+(x/65536^i- y/65536^i)*65536^i:=by
  have a1:x/65536^i*(65536:Int)^i=65536^i*(x/65536^i):=Int.mul_comm _ _
  have a2:y/65536^i*(65536:Int)^i=65536^i*(y/65536^i):=Int.mul_comm _ _
  rw [Int.sub_mul];omega
 have e2:(x- y)/65536^i=(x % 65536^i- y % 65536^i)/65536^i+(x/65536^i- y/65536^i):=by
  conv=>lhs;rw [e]
  exact Int.add_mul_ediv_right _ _ (Int.ne_of_gt hp)
 rw [e2]
 omega
end Go.Proofs.YtaadknpjbogkbaaGreat.hf
namespace Go.Proofs.YtaadknpjbogkbaaGreat.hf
set_option linter.unusedVariables false
def tk(O xi y:Int)(i k:Nat):Int:=O % 65536^(i+k)+xi*65536^i*(y % 65536^k)
def cy(O xi y:Int)(i k:Nat):Int:=tk O xi y i k/65536^(i+k)
theorem pow_ik(i k:Nat):(65536:Int)^(i+k)=65536^i*65536^k:=Int.pow_add _ _ _
theorem tk_succ(O xi y:Int)(i k:Nat):tk O xi y i (k+1)=tk O xi y i k+(dg O (i+k)+xi*dg y k)*65536^(i+k):=by
 unfold tk
 rw [←Nat.add_assoc,emod_succ,emod_succ,Int.add_mul,Int.mul_add,pow_ik]
 have e:xi*65536^i*(dg y k*65536^k)=xi*dg y k*(65536^i*65536^k):=by
  rw [Int.mul_assoc xi,Int.mul_left_comm (65536^i) (dg y k),Int.mul_assoc xi (dg y k)]
 rw [e];omega
theorem cy_sum(O xi y:Int)(i k:Nat):tk O xi y i (k+1)/65536^(i+k)=cy O xi y i k+dg O (i+k)+xi*dg y k:=by
 rw [tk_succ,Int.add_mul_ediv_right _ _ (Int.ne_of_gt (p256 _))];unfold cy;omega
theorem cy_succ(O xi y:Int)(i k:Nat):cy O xi y i (k+1)=(cy O xi y i k+dg O (i+k)+xi*dg y k)/65536:=by
 rw [←cy_sum]
 show tk O xi y i (k+1)/65536^(i+k+1)=_
 have hp:=p256 (i+k)
 rw [Int.pow_succ,Int.ediv_ediv,if_neg (by omega)];omega
theorem mul_digit(O xi y:Int)(i k:Nat):(cy O xi y i k+dg O (i+k)+xi*dg y k) % 65536=dg (O+xi*65536^i*y) (i+k):=by
 rw [←cy_sum]
 show dg (tk O xi y i (k+1)) (i+k)=_
 refine(dg_congr (i:=i+k+1) (O/65536^(i+k+1)+xi*(y/65536^(k+1))) ?_ (by omega)).symm
 unfold tk
 have h1:=Int.mul_ediv_add_emod O (65536^(i+k+1))
 have h2:=Int.mul_ediv_add_emod y (65536^(k+1))
 have e0:i+(k+1)=i+k+1:=by omega
 rw [e0,Int.add_mul]
 have e1:O/65536^(i+k+1)*(65536:Int)^(i+k+1)=65536^(i+k+1)*(O/65536^(i+k+1)):=Int.mul_comm _ _
 have e2:xi*(y/65536^(k+1))*(65536:Int)^(i+k+1)=xi*65536^i*(65536^(k+1)*(y/65536^(k+1))):=by
  rw [←e0,pow_ik i (k+1)]
  generalize (65536:Int)^(k+1)=K
  rw [Int.mul_assoc xi,Int.mul_assoc xi,Int.mul_left_comm (y/K) (65536^i) K,Int.mul_comm (y/K) K]
 have e3:xi*65536^i*y=xi*65536^i*(65536^(k+1)*(y/65536^(k+1)))+xi*65536^i*(y % 65536^(k+1)):=by rw [←Int.mul_add,h2]
 rw [e1,e2,e3];omega
theorem cy_zero(O xi y:Int)(i:Nat):cy O xi y i 0=0:=by
 unfold cy tk
 have hp:=p256 i
 have a:=Int.emod_nonneg O (Int.ne_of_gt hp)
 have a':=Int.emod_lt_of_pos O hp
 have e:y % (65536:Int)^0=0:=by simp [Int.emod_one]
 rw [e]
 simp only [Nat.add_zero,Int.mul_zero,Int.add_zero]
 exact Int.ediv_eq_zero_of_lt a a'
theorem cy_range(O xi y:Int)(i k:Nat)(h0:0≤xi)(h1:xi<65536):0≤cy O xi y i k∧cy O xi y i k≤65535:=by
 unfold cy tk
 have hp:=p256 (i+k)
 have hi:=p256 i
 have hk:=p256 k
 have a:=Int.emod_nonneg O (Int.ne_of_gt hp)
 have a':=Int.emod_lt_of_pos O hp
 have b:=Int.emod_nonneg y (Int.ne_of_gt hk)
 have b':=Int.emod_lt_of_pos y hk
 have c:0≤xi*65536^i*(y % 65536^k):=Int.mul_nonneg (Int.mul_nonneg h0 (Int.le_of_lt hi)) b
 have c':xi*65536^i*(y % 65536^k)≤65535*65536^(i+k):=by
  rw [pow_ik,←Int.mul_assoc]
  exact Int.mul_le_mul (Int.mul_le_mul_of_nonneg_right (by omega) (Int.le_of_lt hi)) (by omega) b (Int.mul_nonneg (by decide) (Int.le_of_lt hi))
 refine⟨Int.ediv_nonneg (by omega) (by omega),?_⟩
 have:(O % 65536^(i+k)+xi*65536^i*(y % 65536^k))/65536^(i+k)<65536:=Int.ediv_lt_of_lt_mul hp (by omega)
 omega
theorem mul_next(x y:Int)(i:Nat):x % 65536^i*y+dg x i*65536^i*y=x % 65536^(i+1)*y:=by rw [emod_succ,Int.add_mul];omega
theorem mix_start(n i:Nat)(O xi y:Int):mix n i (O+xi*65536^i*y) O=dcells n O:=by
 rw [←mix_zero n O O]
 refine fill_congr fun j _=>?_
 by_cases h:j<i
 ·have e:dg (O+xi*65536^i*y) j=dg O j:=dg_congr (i:=i) (xi*y) (by rw [Int.mul_assoc,Int.mul_comm (65536^i) y,←Int.mul_assoc]) h
  simp [h,e]
 ·simp [h]
end Go.Proofs.YtaadknpjbogkbaaGreat.hf
namespace Go.Proofs.YtaadknpjbogkbaaGreat.hf
open Go.RowKit
set_option linter.unusedVariables false
theorem dg_div(v:Int)(i j:Nat):dg (v/65536^i) j=dg v (i+j):=by
 unfold dg
 have hp:=p256 i
 rw [Int.pow_add,Int.ediv_ediv,if_neg (by omega)]
 omega
theorem dcells_take(n m:Nat)(v:Int)(h:m≤n):(dcells n v).take m=dcells m v:=by
 unfold dcells
 rw [←List.map_take,List.take_range,Nat.min_eq_left h]
theorem dcells_join(n m:Nat)(u v:Int):dcells n u++dcells m v=dcells (n+m) (u % 65536^n+v*65536^n):=by
 refine List.ext_getElem? fun j=>?_
 by_cases h:j<n
 ·rw [List.getElem?_append_left (by rw [dcells_length];exact h),dcells_at _ _ _ h,dcells_at _ _ _ (by omega)]
  have h1:=Int.mul_ediv_add_emod u (65536^n)
  rw [dg_congr (u:=u) (v:=u % 65536^n+v*65536^n) (i:=n) (u/65536^n- v) (by rw [Int.sub_mul];have:u/65536^n*(65536:Int)^n=65536^n*(u/65536^n):=Int.mul_comm _ _;omega) h]
 ·rw [List.getElem?_append_right (by rw [dcells_length];omega),dcells_length]
  by_cases h2:j<n+m
  ·rw [dcells_at _ _ _ (by omega),dcells_at _ _ _ h2]
   have hp:=p256 n
   have a:=Int.emod_nonneg u (Int.ne_of_gt hp)
   have a':=Int.emod_lt_of_pos u hp
   have e:(u % 65536^n+v*65536^n)/65536^n=v:=by
    rw [Int.add_mul_ediv_right _ _ (Int.ne_of_gt hp),Int.ediv_eq_zero_of_lt a a'];omega
   have:=dg_div (u % 65536^n+v*65536^n) n (j- n)
   rw [e,show n+(j- n)=j by omega]at this
   rw [this]
  ·rw [List.getElem?_eq_none (by rw [dcells_length];omega),List.getElem?_eq_none (by rw [dcells_length];omega)]
theorem dcells_zero(n:Nat):dcells n 0=List.replicate n (.int .i64 0):=by
 refine List.ext_getElem? fun j=>?_
 by_cases h:j<n
 ·rw [dcells_at _ _ _ h,List.getElem?_replicate,if_pos h];simp [dg]
 ·rw [List.getElem?_eq_none (by rw [dcells_length];omega),List.getElem?_eq_none (by simp;omega)]
theorem dcells_succ(t:Nat)(a:Int):dcells (t+1) a=dcells t a++ [.int .i64 (dg a t)]:=by
 unfold dcells;rw [List.range_succ,List.map_append];rfl
theorem nlen_eq_zero{u:Nat}:nlen u=0↔u=0:=by
 refine⟨fun h=>?_,fun h=>by rw [h,nlen_zero]⟩
 have:=nlen_lt u
 rw [h]at this
 simpa using this
theorem div_step(u k:Nat):u/65536^k=65536*(u/65536^(k+1))+u/65536^k % 65536:=by
 rw [Nat.pow_succ,←Nat.div_div_eq_div_mul];omega
theorem lt_of_top{u v k:Nat}(h:u/65536^(k+1)=v/65536^(k+1))(hd:dg (u:Int) k<dg (v:Int) k):u<v:=by
 rw [dg_nat,dg_nat]at hd
 have h1:=div_step u k
 have h2:=div_step v k
 rcases Nat.lt_or_ge u v with l|l
 ·exact l
 ·have:=Nat.div_le_div_right (c:=65536^k) l
  omega
theorem pow_nat(k:Nat):0<65536^k:=Nat.pow_pos (by decide)
end Go.Proofs.YtaadknpjbogkbaaGreat.hf
namespace Go.Proofs.YtaadknpjbogkbaaGreat
variable {P : Program} {md : Region.Mode} {Q : Exit → Act → World → Prop} {S : World → Prop}
theorem ps1{α:Type _}{xs:List α}{i:Nat}{a:α}:xs.toArray.setIfInBounds i a=(xs.set i a).toArray:=List.setIfInBounds_toArray ..
theorem ps2{α:Type _}{x:α}{xs:List α}{a:α}:(x::xs).set 0 a=a::xs:=List.set_cons_zero
theorem ps3{α:Type _}{x:α}{xs:List α}{n:Nat}{a:α}:(x::xs).set (n+1) a=x::xs.set n a:=List.set_cons_succ
theorem take_yes{l:List Oper}{i:Nat}{oi:Oper}{v:Value}{fuel:Nat}{listed:Array Bool}{a:Act}{w:World}(hi:l[i]? =some oi)
  (hs:Region.noSelect l.toArray=true) (hf:Region.free md l.toArray listed i=true) (hr:(Region.ready md l.toArray listed).contains i=true)
  (hQ: ∀ c a w,Q (.panic c) (a.put oi.dst v) w→Q (.panic c) a w) (hw:Region.wanted oi (yielded l.toArray a.tmps)=true) (hS:S w)
  (hy: ∀ w,S w→(execOp a.eval oi).run P w= .ok (.value v) w)
  (h:wpAnyH P md l.toArray Q S fuel (listed.setIfInBounds i true) (a.put oi.dst v) w):wpAnyH P md l.toArray Q S (fuel+1) listed a w:=
 wpAnyH_take (by simpa using hi) hs hf hr hQ (Or.inl ⟨hw,hy⟩) hS h
theorem tn(i:Nat){l:List Oper}{oi:Oper}{v:Value}{fuel:Nat}{listed:Array Bool}{a:Act}{w:World}(h:wpAnyH P md l.toArray Q S fuel (listed.setIfInBounds i true) (a.put oi.dst v) w)(hi:l[i]? =some oi:=by rfl)
  (hy: ∀ w,S w→(execOp a.eval oi).run P w= .ok (.value v) w:=by(intro w hSw;(try dsimp only at hSw);go_simp<;>with_reducible rfl))
  (hs:Region.noSelect l.toArray=true:=by kernel_rfl) (hf:Region.free md l.toArray listed i=true:=by kernel_rfl) (hr:(Region.ready md l.toArray listed).contains i=true:=by kernel_rfl)
  (hQ: ∀ c a w,Q (.panic c) (a.put oi.dst v) w→Q (.panic c) a w:=by exact fun _ _ _ h=>h) (hw:Region.wanted oi (yielded l.toArray a.tmps)=true:=by rfl) (hS:S w:=by assumption):wpAnyH P md l.toArray Q S (fuel+1) listed a w:=
 take_yes hi hs hf hr hQ hw hS hy h
theorem tz{l:List Oper}{i:Nat}{oi:Oper}{v:Value}{fuel:Nat}{listed:Array Bool}{a:Act}{w:World}(hi:l[i]? =some oi)(h:wpAnyH P md l.toArray Q S fuel (listed.setIfInBounds i true) (a.put oi.dst v) w)
  (hy: ∀ w,S w→(execOp a.eval oi).run P w= .ok (.value v) w:=by(intro w hSw;(try dsimp only at hSw);go_simp<;>with_reducible rfl))
  (hs:Region.noSelect l.toArray=true:=by kernel_rfl) (hf:Region.free md l.toArray listed i=true:=by kernel_rfl) (hr:(Region.ready md l.toArray listed).contains i=true:=by kernel_rfl)
  (hQ: ∀ c a w,Q (.panic c) (a.put oi.dst v) w→Q (.panic c) a w:=by exact fun _ _ _ h=>h) (hw:Region.wanted oi (yielded l.toArray a.tmps)=true:=by rfl) (hS:S w:=by assumption):wpAnyH P md l.toArray Q S (fuel+1) listed a w:=
 take_yes hi hs hf hr hQ hw hS hy h
theorem tQ(i:Nat){l:List Oper}{oi:Oper}{v:Value}{fuel:Nat}{listed:Array Bool}{a:Go.Act}{w:World}(h:wpAnyH P md l.toArray Q S fuel (listed.setIfInBounds i true) (a.put oi.dst v) w)(hi:l[i]? =some oi:=by rfl)
  (hQ: ∀ c a w,Q (.panic c) (a.put oi.dst v) w→Q (.panic c) a w:=by(intro _ _ _ h;rw [HQQ.out]at h;exact Exit.noConfusion h.1))
  (hy: ∀ w,S w→(execOp a.eval oi).run P w= .ok (.value v) w:=by(intro w hSw;(try dsimp only at hSw);go_simp<;>with_reducible rfl))
  (hs:Region.noSelect l.toArray=true:=by kernel_rfl) (hf:Region.free md l.toArray listed i=true:=by kernel_rfl) (hr:(Region.ready md l.toArray listed).contains i=true:=by kernel_rfl)
  (hw:Region.wanted oi (yielded l.toArray a.tmps)=true:=by rfl) (hS:S w:=by assumption):wpAnyH P md l.toArray Q S (fuel+1) listed a w:=
 take_yes hi hs hf hr hQ hw hS hy h
theorem ty{l:List Oper}{i:Nat}{oi:Oper}{v:Value}{fuel:Nat}{listed:Array Bool}{a:Act}{w:World}(hi:l[i]? =some oi)
  (hy: ∀ w,S w→(execOp a.eval oi).run P w= .ok (.value v) w) (h:wpAnyH P md l.toArray Q S fuel (listed.setIfInBounds i true) (a.put oi.dst v) w)
  (hs:Region.noSelect l.toArray=true:=by kernel_rfl) (hf:Region.free md l.toArray listed i=true:=by kernel_rfl) (hr:(Region.ready md l.toArray listed).contains i=true:=by kernel_rfl)
  (hQ: ∀ c a w,Q (.panic c) (a.put oi.dst v) w→Q (.panic c) a w:=by exact fun _ _ _ h=>h) (hw:Region.wanted oi (yielded l.toArray a.tmps)=true:=by rfl) (hS:S w:=by assumption):wpAnyH P md l.toArray Q S (fuel+1) listed a w:=
 take_yes hi hs hf hr hQ hw hS hy h
theorem take_no{l:List Oper}{i:Nat}{oi:Oper}{fuel:Nat}{listed:Array Bool}{a:Act}{w:World}(hi:l[i]? =some oi)
  (hs:Region.noSelect l.toArray=true) (hf:Region.free md l.toArray listed i=true) (hr:(Region.ready md l.toArray listed).contains i=true)
  (hQ: ∀ c a w,Q (.panic c) (a.put oi.dst undef) w→Q (.panic c) a w) (hw:Region.wanted oi (yielded l.toArray a.tmps)=false) (hS:S w)
  (h:wpAnyH P md l.toArray Q S fuel (listed.setIfInBounds i true) (a.put oi.dst undef) w):wpAnyH P md l.toArray Q S (fuel+1) listed a w:=
 wpAnyH_take (v:=undef) (by simpa using hi) hs hf hr hQ (Or.inr ⟨hw,rfl⟩) hS h
theorem tno(i:Nat){l:List Oper}{oi:Oper}{fuel:Nat}{listed:Array Bool}{a:Go.Act}{w:World}(h:wpAnyH P md l.toArray Q S fuel (listed.setIfInBounds i true) (a.put oi.dst undef) w)(hi:l[i]? =some oi:=by rfl)
  (hs:Region.noSelect l.toArray=true:=by kernel_rfl) (hf:Region.free md l.toArray listed i=true:=by kernel_rfl) (hr:(Region.ready md l.toArray listed).contains i=true:=by kernel_rfl)
  (hQ: ∀ c a w,Q (.panic c) (a.put oi.dst undef) w→Q (.panic c) a w:=by exact fun _ _ _ h=>h) (hw:Region.wanted oi (yielded l.toArray a.tmps)=false:=by rfl) (hS:S w:=by assumption):wpAnyH P md l.toArray Q S (fuel+1) listed a w:=
 take_no hi hs hf hr hQ hw hS h
theorem take_call{l:List Oper}{i:Nat}{o:Oper}{fuel:Nat}{listed:Array Bool}{a:Act}{w:World}(ho:l[i]? =some o)(hr:Region.ready md l.toArray listed= [i])
  (h: ∀ K':Act→World→Prop,Shut (∀ a w,S w→(S w→wpAnyH P md l.toArray Q S fuel (listed.setIfInBounds i true) a w)→K' a w)→if Region.wanted o (yielded l.toArray a.tmps)=true then Oper.wp P o a w K' Q else K' (a.put o.dst undef) w):
  wpAnyH P md l.toArray Q S (fuel+1) listed a w:=
 wpAnyH_ready hr (by simp) (AllReadyH.cons (by simpa using ho) h AllReadyH.nil)
theorem tcl(i:Nat){l:List Oper}{o:Oper}{fuel:Nat}{listed:Array Bool}{a:Go.Act}{w:World}
  (h: ∀ K':Go.Act→World→Prop,Shut (∀ a w,S w→(S w→wpAnyH P md l.toArray Q S fuel (listed.setIfInBounds i true) a w)→K' a w)→if Region.wanted o (yielded l.toArray a.tmps)=true then Oper.wp P o a w K' Q else K' (a.put o.dst undef) w)
  (ho:l[i]? =some o:=by rfl) (hr:Region.ready md l.toArray listed= [i]:=by kernel_rfl):wpAnyH P md l.toArray Q S (fuel+1) listed a w:=
 take_call ho hr h
end Go.Proofs.YtaadknpjbogkbaaGreat
namespace Go.Proofs.YtaadknpjbogkbaaGreat
open Go.RowKit
set_option linter.unusedVariables false
set_option maxRecDepth 100000 in
set_option maxHeartbeats 400000 in
theorem rtrim_own(a:Option Addr)(l cap u base:Nat)(w:World)(hown:Own w base 3 a l cap (hf.dcells l (u:Int)))(hu:u<65536^l):
  Calls Tryz.prog 116 #[.slice a l cap] w fun e w'=>e= .returned (.slice a (hf.nlen u) cap)∧w=w'∧Own w base 3 a (hf.nlen u) cap (hf.dcells (hf.nlen u) (u:Int)):=by
 have hs:=Own.sl hown
 have hcap:=hs.big
 have hroom:=hs.room
 unfold maxLen at hcap
 have HO:Hid (Own w base 3 a (hf.nlen u) cap (hf.dcells (hf.nlen u) (u:Int))):=by
  have:=Own.take hown (hf.nlen_le hu)
  rwa [hf.dcells_take _ _ _ (hf.nlen_le hu)]at this
 have hsh:(a=none∧cap=0)∨ ∃ g,a=some ⟨g,0,none⟩:=by
  obtain⟨_,⟨h1,_⟩|⟨g,cap',cur,hv,_⟩⟩:=hown
  ·cases h1;exact Or.inl ⟨rfl,rfl⟩
  ·cases hv;exact Or.inr ⟨g,rfl⟩
 rcases hsh with⟨rfl,rfl⟩|⟨g,rfl⟩
 ·obtain rfl:l=0:=by omega
  have hz:Hid (hf.nlen u=0):=hf.nlen_eq_zero.2 (by simpa using hu)
  clear hown hs
  go_enter Tryz.func116,Tryz.ntmps116
  go_wp2
  go_loop [3] (fun i=>i= .int .i64 0) (fun i=>(intOf i).toNat)
  case atStart=>rfl
  case round=>
   obtain rfl:=hrel
   go_wp2
   go_ret
   exact⟨by rw [hz.out];rfl,rfl,HO.out⟩
 ·go_enter Tryz.func116,Tryz.ntmps116
  go_wp2
  go_loop [3] (fun i=> ∃ k:Nat,k≤l∧u<65536^k∧i= .int .i64 (k:Int)) (fun i=>(intOf i).toNat)
  case atStart=>exact⟨l,Nat.le_refl _,hu,rfl⟩
  case round=>
   obtain⟨k,hk,huk,rfl⟩:=hrel
   rcases k with _|k
   ·have hz:Hid (hf.nlen u=0):=hf.nlen_eq_zero.2 (by simpa using huk)
    clear hu huk
    go_wp2
    go_ret
    exact⟨by rw [hz.out];rfl,rfl,HO.out⟩
   ·have c1:w.cell? ⟨g,k,none⟩=some (.int .i64 (hf.dg u k)):=Own.cell hown k _ (hf.dcells_at _ _ _ (by omega))
    have e1:((k+1:Nat):Int)- 1=(k:Int):=by omega
    by_cases hd:hf.dg (u:Int) k=0
    ·have hd':(hf.dg (u:Int) k==0)=true:=by rw [hd];rfl
     have Hn:Hid (u<65536^k):=hf.lt_of_dg_zero huk hd
     clear hd huk hu hown
     go_wp2
     go_round
     case rel=>exact⟨k,by omega,Hn.out,by go_num⟩
     case measure=>simp [intOf]
    ·have hd':(hf.dg (u:Int) k==0)=false:=by simpa using hd
     have Hl:Hid (hf.nlen u=k+1):=by
      refine hf.nlen_eq ⟨huk,Or.inr ?_⟩
      rcases Nat.lt_or_ge u (65536^k)with h|h
      ·exact absurd (hf.dg_over h) hd
      ·simpa using h
     clear hd huk hu hown
     go_wp2
     go_ret
     exact⟨by rw [Hl.out];rfl,rfl,HO.out⟩
theorem halves(u:Int)(k:Nat):hf.dg u (2*k)=wd.dg u k % 65536∧hf.dg u (2*k+1)=wd.dg u k/65536:=by
 unfold hf.dg wd.dg
 have e:(65536:Int)^(2*k)=4294967296^k:=by rw [Int.pow_mul];rfl
 have e2:(65536:Int)^(2*k+1)=4294967296^k*65536:=by rw [Int.pow_succ,e]
 have hp:=wd.p256 k
 rw [e,e2]
 have:u/(4294967296^k*65536)=u/4294967296^k/65536:=by rw [Int.ediv_ediv,if_neg (by omega)];omega
 rw [this]
 omega
theorem pow_halves(k:Nat):65536^(2*k)=4294967296^k:=by rw [Nat.pow_mul]
theorem hf_two(t:Nat)(u:Int):hf.dcells (2*(t+1)) u=hf.dcells (2*t) u++ [.int .i64 (wd.dg u t % 65536), .int .i64 (wd.dg u t/65536)]:=by
 rw [show 2*(t+1)=2*t+1+1 by omega,hf.dcells_succ,hf.dcells_succ,(halves u t).1,(halves u t).2,List.append_assoc]
 rfl
def OfRel(w:World)(u l:Nat)(v i:Value)(wr:World):Prop:= ∃ (k cap:Nat) (a:Option Addr),k≤l∧i= .int .i64 (k:Int)∧v= .slice a (2*k) cap∧Own wr w.heap.size 3 a (2*k) cap (hf.dcells (2*k) (u:Int))∧Below w.heap.size w wr
theorem ofRel_next{w wr w2 w4:World}{u l k cap cap' g':Nat}{a:Option Addr}(hk:k<l)(hown:Own wr w.heap.size 3 a (2*k) cap (hf.dcells (2*k) (u:Int)))(hbel:Below w.heap.size w wr)
  (h4:w4.ownsRow w.heap.size 3 1 (.slice (some ⟨g',0,none⟩) (2*k+2) cap') (2*k+2) (hf.dcells (2*k) (u:Int)++ [.int .i64 (wd.dg u k % 65536), .int .i64 (wd.dg u k/65536)]))
  (h2:Below wr.heap.size wr w2) (hgr:w2.grownBy w4 (Value.slice a (2*k) cap).ownBlock):OfRel w u l (.slice (some ⟨g',0,none⟩) (2*k+2) cap') (.int .i64 ((k:Int)+1)) w4:=by
 have hs:=hbel.size
 refine⟨k+1,cap',_,hk,by simp,rfl,?_,(hbel.trans (h2.mono hs)).grown hgr (by have:=h2.size;omega) (fun k' hk'=>(World.ownsRow.lt hown k' hk').1)⟩
 rw [hf_two]
 exact h4
theorem own_empty(w:World)(base:Nat)(T:TypeId)(hb:base≤w.heap.size):Own (w.alloc (.cells #[] T)) base T (some ⟨w.heap.size,0,none⟩) 0 0 []:=World.ownsRow_lit w #[] 0 hb (by decide) rfl
set_option maxRecDepth 100000 in
set_option maxHeartbeats 1000000 in
theorem rof_any(a:Option Addr)(l ca u:Nat)(w:World)(ha:Sl w a l ca (wd.dcells l (u:Int)))(hu:u<4294967296^l)(hl:l≤1000000000):
  Calls Tryz.prog 82 #[.slice a l ca] w fun e w'=> ∃ a' cap',e= .returned (.slice a' (hf.nlen u) cap')∧Own w' w.heap.size 3 a' (hf.nlen u) cap' (hf.dcells (hf.nlen u) (u:Int))∧Below w.heap.size w w':=by
 obtain⟨i0,hi0,hz0,hz1,hz2⟩:=info_parts infoInt
 have HU:Hid (u<65536^(2*l)):=by unfold Hid;rw [pow_halves];exact hu
 have hown0:=own_empty w w.heap.size 3 (Nat.le_refl _)
 clear hu
 go_enter Tryz.func82,Tryz.ntmps82
 go_wp2
 go_loopw [3,4] (fun v i wr=>OfRel w u l v i wr) (fun _ i _=>l- (intOf i).toNat)
 case atStart=>exact⟨0,0,_,by omega,rfl,rfl,hown0,(Below.refl _ _).alloc (Nat.le_refl _) _⟩
 case round=>
  clear hown0
  obtain⟨k,cap,v,hk,rfl,rfl,hown,hbel⟩:=hrel
  by_cases hlt:k<l
  ·obtain⟨ba,oa,rfl,hba,hseg⟩:=ha.at (by omega)
   have hroom:=ha.room
   have c0:w.cell? ⟨ba,oa+k,none⟩=some (.int .u32 (wd.dg u k)):=hseg.cell k _ (wd.dcells_at _ _ _ hlt)
   have c1:wr.cell? ⟨ba,oa+k,none⟩=some (.int .u32 (wd.dg u k)):=(hbel.cell (p:=⟨ba,oa+k,none⟩) hba).trans (hseg.cell k _ (wd.dcells_at _ _ _ hlt))
   have hsz:=hbel.size
   have hba2:ba<wr.heap.size:=by omega
   obtain⟨d0,d1⟩:=wd.dg_range u k
   have E1:IntKind.i64.wrap ((wd.dg (u:Int) k).tmod 65536)=wd.dg u k % 65536:=by rw [Int.tmod_eq_emod_of_nonneg d0,IntKind.wrap_i64];omega
   have E2:IntKind.i64.wrap (IntKind.u32.wrap ((wd.dg (u:Int) k).tdiv 65536))=wd.dg u k/65536:=by rw [Int.tdiv_eq_ediv_of_nonneg d0,IntKind.wrap_u32',IntKind.wrap_i64];omega
   have HN:Hid _:=fun w2 w4 g' cap'=>ofRel_next (w2:=w2) (w4:=w4) (g':=g') (cap':=cap') hlt hown hbel
   go_wp2
   refine wp_region_held_drew (S:=(fun w'=>w'.cell? ⟨ba,oa+k,none⟩=some (.int .u32 (wd.dg u k))∧Below w.heap.size w w')) (by kernel_rfl) ?_ (fun hHeld=>?_)
   ·first|exact⟨c1,hbel⟩|exact⟨c1,hbel.drew⟩|exact⟨((hHeld.2.alloc hHeld.2.size _).cell (p:=⟨ba,oa+k,none⟩) hba).trans c0,hHeld.2.alloc hHeld.2.size _⟩|exact⟨((hbel.alloc hbel.size _).drew.cell (p:=⟨ba,oa+k,none⟩) hba).trans c0,(hbel.alloc hbel.size _).drew⟩
   refine tn 0 ?_;refine tn 1 ?_;refine tn 2 ?_;refine tn 3 ?_;refine tn 4 ?_;refine tn 5 ?_;refine tn 6 ?_;refine tn 7 ?_;refine tn 8 ?_;refine tn 9 ?_;refine tn 10 ?_;refine tn 11 ?_;refine tn 12 ?_
   simp only [Act.put,ps1,ps2,ps3]
   refine take_call (i:=13) rfl (by kernel_rfl) (fun K hK=>?_)
   go_simp
   refine hK.out _ _ ?_ (fun hHeld=>?_)
   ·first|exact⟨c1,hbel⟩|exact⟨c1,hbel.drew⟩|exact⟨((hHeld.2.alloc hHeld.2.size _).cell (p:=⟨ba,oa+k,none⟩) hba).trans c0,hHeld.2.alloc hHeld.2.size _⟩|exact⟨((hbel.alloc hbel.size _).drew.cell (p:=⟨ba,oa+k,none⟩) hba).trans c0,(hbel.alloc hbel.size _).drew⟩
   clear hK K
   refine take_call (i:=14) rfl (by kernel_rfl) (fun K hK=>?_)
   refine step_append_lies _ rfl (.tmp 12) (.tmp 25) 99 rfl w.heap.size 3 i0 (.int .i64 0) 1 8 Tryz.underlying99 hi0 hz0 hz1 hz2 rfl (by decide) (.slice v (2*k) cap) (2*k) (hf.dcells (2*k) (u:Int)) rfl (World.ownsRow.alloc hown _) ⟨wr.heap.size,0,none⟩ 2 2 [.int .i64 (wd.dg u k % 65536), .int .i64 (wd.dg u k/65536)] rfl rfl (World.news_of_block (heap_alloc_new wr _)) (ints_oneCell .i64 [wd.dg u k % 65536,wd.dg u k/65536]) (by decide) (by unfold maxLen;omega) (by omega) (by simp;omega) _ rfl ?_;intro g' cap' w4 hown4 hgrow4 hat4 hlt4
   refine hK.out _ _ ?_ (fun hHeld=>?_)
   ·exact⟨(((hHeld.2.grown hgrow4 (by simp;omega) (fun k' hk'=>(World.ownsRow.lt hown k' hk').1))).cell (p:=⟨ba,oa+k,none⟩) hba).trans c0,hHeld.2.grown hgrow4 (by simp;omega) (fun k' hk'=>(World.ownsRow.lt hown k' hk').1)⟩
   clear hK K
   refine tz (i:=15) rfl ?_
   simp only [Act.put,ps1,ps2,ps3]
   refine wpAnyH_done (by kernel_rfl) ?_ _
   go_wp2
   go_roundw
   case rel=>exact HN.out _ w4 g' cap' hown4 ((Below.refl _ _).alloc (Nat.le_refl _) _).drew hgrow4
   case measure=>simp [intOf];omega
  ·obtain rfl:k=l:=by omega
   go_wp2_with (go_at_call 116;refine(rtrim_own _ _ _ u _ _ hown HU.out).mono ?_;rintro e w' ⟨rfl,hw,hown2⟩;subst hw)
   go_ret
   exact⟨v,cap,rfl,hown2,hbel⟩
def rk(A D k:Nat):Nat:=A/4294967296^k % D*4294967296^k+A % 4294967296^k
end Go.Proofs.YtaadknpjbogkbaaGreat
namespace Go.Proofs.YtaadknpjbogkbaaGreat
open Go.RowKit Go.Shelf
set_option linter.unusedVariables false
attribute [local go_sem] Oper.semAt_some
def cmpI(x y:Int):Int:=if x<y then -1 else if y<x then 1 else 0
end Go.Proofs.YtaadknpjbogkbaaGreat
namespace Go.Proofs.YtaadknpjbogkbaaGreat
open Go.RowKit Go.Shelf
set_option linter.unusedVariables false
attribute [local go_sem] Oper.semAt_some
theorem cmpI_self(x:Int):cmpI x x=0:=by unfold cmpI;simp
end Go.Proofs.YtaadknpjbogkbaaGreat
namespace Go.Proofs.YtaadknpjbogkbaaGreat
open Go.RowKit
set_option linter.unusedVariables false
structure NI(w:World)(a:Option Addr)(l c u:Nat):Prop where
 sl:Sl w a l c (wd.dcells l (u:Int))
 lt:u<4294967296^l
 few:l≤1000000
def NA(k:Nat)(a:Option Addr)(l:Nat):Prop:=l=0∨ ∀ o,a≠some ⟨k,o,none⟩
def Far(base:Nat)(a:Option Addr)(l:Nat):Prop:= ∀ k,k<base→NA k a l
theorem Far.mono{base base':Nat}{a:Option Addr}{l:Nat}(h:Far base a l)(hb:base'≤base):Far base' a l:=fun k hk=>h k (by omega)
theorem Sl.na{w:World}{a:Option Addr}{l c k:Nat}{xs:List Value}(h:Sl w a l c xs)(hk:w.heap.size≤k):NA k a l:=by
 rcases Nat.eq_zero_or_pos l with e|e
 ·exact Or.inl e
 ·obtain⟨b,o,rfl,hb,_⟩:=h.at e
  exact Or.inr fun o' e'=>by cases e';omega
theorem Sl.put{w:World}{a:Option Addr}{l c b:Nat}{xs:List Value}(h:Sl w a l c xs)(hn:NA b a l)(i:Nat)(v:Value):Sl (w.setCell ⟨b,i,none⟩ v) a l c xs:=by
 refine⟨h.len,h.room,h.big,h.nil,?_⟩
 rcases hn with e|hn
 ·exact Or.inl e
 ·refine h.seg.imp id ?_
  rintro⟨k,o,e,hk,hs⟩
  exact⟨k,o,e,by simpa using hk,hs.other v (by rintro rfl;exact hn o e)⟩
theorem Own.far{w:World}{base n cap:Nat}{T:TypeId}{a:Option Addr}{xs:List Value}(h:Own w base T a n cap xs):Far base a n:=by
 intro k hk
 right
 intro o e
 obtain⟨hl,⟨h1,_⟩|⟨g,cap',cur,hv,hb',r⟩⟩:=h
 ·rw [e]at h1
  cases h1
 ·rw [e]at hv
  cases hv
  omega
theorem cell_on{w w':World}{p:Addr}{v:Value}(hb:Below w.heap.size w w')(h:w.cell? p=some v):w'.cell? p=some v:=by
 refine(hb.cell (p:=p) ?_).trans h
 refine Nat.lt_of_not_le fun hle=>?_
 unfold World.cell? at h
 rw [Array.getElem?_eq_none hle]at h
 simp at h
theorem free_on{w w':World}{p:Addr}{v:Value}{f:Bool}(hb:Below w.heap.size w w')(h:w.cell? p=some v)(hf:w.frozen? p=f):w'.frozen? p=f:=by
 refine(hb.frozen (p:=p) ?_).trans hf
 refine Nat.lt_of_not_le fun hle=>?_
 unfold World.cell? at h
 rw [Array.getElem?_eq_none hle]at h
 simp at h
structure Bx(w:World)(b:Nat)(x y:Value):Prop where
 c0:w.cell? ⟨b,0,none⟩=some x
 c1:w.cell? ⟨b,1,none⟩=some y
 f0:w.frozen? ⟨b,0,none⟩=false
 f1:w.frozen? ⟨b,1,none⟩=false
theorem Bx.on{w w':World}{b:Nat}{x y:Value}(h:Bx w b x y)(hb:Below w.heap.size w w'):Bx w' b x y:=⟨cell_on hb h.c0,cell_on hb h.c1,free_on hb h.c0 h.f0,free_on hb h.c1 h.f1⟩
theorem bx_new(w:World)(x y:Value)(t:TypeId):Bx (w.alloc (.cells #[x,y] t)) w.heap.size x y:=by
 have h:=Row.new w [x,y] t
 exact⟨h.cell 0 _ rfl,h.cell 1 _ rfl,h.free 0 (by simp),h.free 1 (by simp)⟩
theorem bx_lt{w:World}{b:Nat}{x y:Value}(h:Bx w b x y):b<w.heap.size:=by
 refine Nat.lt_of_not_le fun hle=>?_
 have:=h.c0
 unfold World.cell? at this
 rw [Array.getElem?_eq_none hle]at this
 simp at this
theorem Bx.put{w:World}{b k i:Nat}{x y v:Value}(h:Bx w b x y)(hk:k≠b):Bx (w.setCell ⟨k,i,none⟩ v) b x y:=by
 have hne: ∀ j,(⟨k,i,none⟩:Addr)≠⟨b,j,none⟩:=fun j e=>by cases e;exact hk rfl
 refine⟨?_,?_,by rw [World.frozen?_setCell];exact h.f0,by rw [World.frozen?_setCell];exact h.f1⟩
 ·rw [World.cell?_setCell_other _ _ _ _ (by intro q;simp only [Addr.mk.injEq]at q;omega)];exact h.c0
 ·rw [World.cell?_setCell_other _ _ _ _ (by intro q;simp only [Addr.mk.injEq]at q;omega)];exact h.c1
theorem Bx.set{w:World}{b:Nat}{x y u v:Value}(h:Bx w b x y):Bx ((w.setCell ⟨b,0,none⟩ u).setCell ⟨b,1,none⟩ v) b u v:=by
 refine⟨?_,?_,by rw [World.frozen?_setCell,World.frozen?_setCell];exact h.f0,by rw [World.frozen?_setCell,World.frozen?_setCell];exact h.f1⟩
 ·rw [World.cell?_setCell_other _ _ _ _ (by intro q;simp only [Addr.mk.injEq]at q;omega)]
  exact World.cell?_setCell_same _ _ _ h.c0
 ·have h1:(w.setCell ⟨b,0,none⟩ u).cell? ⟨b,1,none⟩=some y:=by
   rw [World.cell?_setCell_other _ _ _ _ (by intro q;simp only [Addr.mk.injEq]at q;omega)]
   exact h.c1
  exact World.cell?_setCell_same _ _ _ h1
theorem below_put2{B b:Nat}{w w':World}(h:Below B w w')(hb:B≤b)(u v:Value):Below B w ((w'.setCell ⟨b,0,none⟩ u).setCell ⟨b,1,none⟩ v):=(h.setCell hb _).setCell hb _
theorem also{w w1 w2:World}(h:Below w.heap.size w w1)(k:Below w1.heap.size w1 w2):Below w.heap.size w w2:=h.trans (k.mono h.size)
theorem box1(w:World)(x1 y1 z1 z2:Value)(t1 t2:TypeId):Below w.heap.size w ((w.alloc (.cells #[x1,y1] t1)).alloc (.cells #[z1,z2] t2))∧Bx ((w.alloc (.cells #[x1,y1] t1)).alloc (.cells #[z1,z2] t2)) w.heap.size x1 y1∧
  Bx ((w.alloc (.cells #[x1,y1] t1)).alloc (.cells #[z1,z2] t2)) (w.heap.size+1) z1 z2∧w.heap.size+1<((w.alloc (.cells #[x1,y1] t1)).alloc (.cells #[z1,z2] t2)).heap.size:=by
 have h1:=(bx_new w x1 y1 t1).on ((Below.refl _ _).alloc (Nat.le_refl _) (.cells #[z1,z2] t2))
 have h2:=bx_new (w.alloc (.cells #[x1,y1] t1)) z1 z2 t2
 rw [World.size_alloc]at h2
 exact⟨((Below.refl _ _).alloc (Nat.le_refl _) _).alloc (by simp) _,h1,h2,by simp⟩
theorem box2(w:World)(x1 y1 x2 y2 z1 z2:Value)(t1 t2 t3:TypeId):Below w.heap.size w (((w.alloc (.cells #[x1,y1] t1)).alloc (.cells #[x2,y2] t2)).alloc (.cells #[z1,z2] t3))∧Bx (((w.alloc (.cells #[x1,y1] t1)).alloc (.cells #[x2,y2] t2)).alloc (.cells #[z1,z2] t3)) w.heap.size x1 y1∧
  Bx (((w.alloc (.cells #[x1,y1] t1)).alloc (.cells #[x2,y2] t2)).alloc (.cells #[z1,z2] t3)) (w.heap.size+1) x2 y2∧Bx (((w.alloc (.cells #[x1,y1] t1)).alloc (.cells #[x2,y2] t2)).alloc (.cells #[z1,z2] t3)) (w.heap.size+1+1) z1 z2∧
  w.heap.size+1+1<(((w.alloc (.cells #[x1,y1] t1)).alloc (.cells #[x2,y2] t2)).alloc (.cells #[z1,z2] t3)).heap.size:=by
 obtain⟨h1,h2,h3,h4⟩:=box1 w x1 y1 x2 y2 t1 t2
 have hb:Below ((w.alloc (.cells #[x1,y1] t1)).alloc (.cells #[x2,y2] t2)).heap.size ((w.alloc (.cells #[x1,y1] t1)).alloc (.cells #[x2,y2] t2)) (((w.alloc (.cells #[x1,y1] t1)).alloc (.cells #[x2,y2] t2)).alloc (.cells #[z1,z2] t3)):=(Below.refl _ _).alloc (Nat.le_refl _) _
 have h5:=bx_new ((w.alloc (.cells #[x1,y1] t1)).alloc (.cells #[x2,y2] t2)) z1 z2 t3
 rw [World.size_alloc,World.size_alloc]at h5
 exact⟨also h1 hb,h2.on hb,h3.on hb,h5,by simp⟩
theorem keepB1{n:Nat}{v1 v2:Value}{w0 w w':World}(h:w.cell? ⟨n,0,none⟩=some v1∧w.cell? ⟨n,1,none⟩=some v2∧Below w0.heap.size w0 w)(hb:Below w.heap.size w w'):w'.cell? ⟨n,0,none⟩=some v1∧w'.cell? ⟨n,1,none⟩=some v2∧Below w0.heap.size w0 w':=
 ⟨cell_on hb h.1,cell_on hb h.2.1,also h.2.2 hb⟩
theorem keepB2{n:Nat}{v1 v2 v3 v4:Value}{w0 w w':World}(h:w.cell? ⟨n,0,none⟩=some v1∧w.cell? ⟨n,1,none⟩=some v2∧w.cell? ⟨n+1,0,none⟩=some v3∧w.cell? ⟨n+1,1,none⟩=some v4∧Below w0.heap.size w0 w)(hb:Below w.heap.size w w'):
  w'.cell? ⟨n,0,none⟩=some v1∧w'.cell? ⟨n,1,none⟩=some v2∧w'.cell? ⟨n+1,0,none⟩=some v3∧w'.cell? ⟨n+1,1,none⟩=some v4∧Below w0.heap.size w0 w':=
 ⟨cell_on hb h.1,cell_on hb h.2.1,cell_on hb h.2.2.1,cell_on hb h.2.2.2.1,also h.2.2.2.2 hb⟩
theorem keepS1{n k:Nat}{v1 v2:Value}{w0 w:World}(h:w.cell? ⟨n,0,none⟩=some v1∧w.cell? ⟨n,1,none⟩=some v2∧Below w0.heap.size w0 w)(hk:n<k)(hB:w0.heap.size≤k)(u v:Value):
  ((w.setCell ⟨k,0,none⟩ u).setCell ⟨k,1,none⟩ v).cell? ⟨n,0,none⟩=some v1∧((w.setCell ⟨k,0,none⟩ u).setCell ⟨k,1,none⟩ v).cell? ⟨n,1,none⟩=some v2∧Below w0.heap.size w0 ((w.setCell ⟨k,0,none⟩ u).setCell ⟨k,1,none⟩ v):=by
 have hne: ∀ i j:Nat,(⟨k,i,none⟩:Addr)≠⟨n,j,none⟩:=fun i j e=>by simp only [Addr.mk.injEq]at e;omega
 exact⟨by rw [World.cell?_setCell_other _ _ _ _ (hne _ _),World.cell?_setCell_other _ _ _ _ (hne _ _)];exact h.1,by rw [World.cell?_setCell_other _ _ _ _ (hne _ _),World.cell?_setCell_other _ _ _ _ (hne _ _)];exact h.2.1,below_put2 h.2.2 hB u v⟩
theorem keepS2{n k:Nat}{v1 v2 v3 v4:Value}{w0 w:World}(h:w.cell? ⟨n,0,none⟩=some v1∧w.cell? ⟨n,1,none⟩=some v2∧w.cell? ⟨n+1,0,none⟩=some v3∧w.cell? ⟨n+1,1,none⟩=some v4∧Below w0.heap.size w0 w)(hk:n+1<k)(hB:w0.heap.size≤k)(u v:Value):
  ((w.setCell ⟨k,0,none⟩ u).setCell ⟨k,1,none⟩ v).cell? ⟨n,0,none⟩=some v1∧((w.setCell ⟨k,0,none⟩ u).setCell ⟨k,1,none⟩ v).cell? ⟨n,1,none⟩=some v2∧((w.setCell ⟨k,0,none⟩ u).setCell ⟨k,1,none⟩ v).cell? ⟨n+1,0,none⟩=some v3∧((w.setCell ⟨k,0,none⟩ u).setCell ⟨k,1,none⟩ v).cell? ⟨n+1,1,none⟩=some v4∧Below w0.heap.size w0 ((w.setCell ⟨k,0,none⟩ u).setCell ⟨k,1,none⟩ v):=by
 obtain⟨h1,h2,h3,h4,h5⟩:=h
 obtain⟨a1,a2,_⟩:=keepS1 ⟨h1,h2,h5⟩ (by omega) hB u v
 obtain⟨b1,b2,b3⟩:=keepS1 ⟨h3,h4,h5⟩ hk hB u v
 exact⟨a1,a2,b1,b2,b3⟩
theorem Bx.drew{w:World}{b:Nat}{x y:Value}(h:Bx w b x y):Bx w.drew b x y:=⟨h.c0,h.c1,h.f0,h.f1⟩
def flQ(x y:Int):Int:=x.sign*y.sign*((x.natAbs/y.natAbs:Nat):Int)- (if x.sign*y.sign<0∧x.natAbs % y.natAbs≠0 then 1 else 0)
def flR(x y:Int):Int:=x- flQ x y*y
theorem box3(w:World)(x1 y1 x2 y2 z1 z2 s1 s2:Value)(t1 t2 t3 t4:TypeId): ∃ W,W=(((w.alloc (.cells #[x1,y1] t1)).alloc (.cells #[x2,y2] t2)).alloc (.cells #[z1,z2] t3)).alloc (.cells #[s1,s2] t4)∧Below w.heap.size w W∧Bx W w.heap.size x1 y1∧Bx W (w.heap.size+1) x2 y2∧Bx W (w.heap.size+1+1) z1 z2∧Bx W (w.heap.size+1+1+1) s1 s2∧w.heap.size+1+1+1<W.heap.size:=by
 obtain⟨h1,h2,h3,h4,h5⟩:=box2 w x1 y1 x2 y2 z1 z2 t1 t2 t3
 have hb:=(Below.refl (((w.alloc (.cells #[x1,y1] t1)).alloc (.cells #[x2,y2] t2)).alloc (.cells #[z1,z2] t3)).heap.size (((w.alloc (.cells #[x1,y1] t1)).alloc (.cells #[x2,y2] t2)).alloc (.cells #[z1,z2] t3))).alloc (Nat.le_refl _) (.cells #[s1,s2] t4)
 have h6:=bx_new (((w.alloc (.cells #[x1,y1] t1)).alloc (.cells #[x2,y2] t2)).alloc (.cells #[z1,z2] t3)) s1 s2 t4
 rw [World.size_alloc,World.size_alloc,World.size_alloc]at h6
 exact⟨_,rfl,also h1 hb,h2.on hb,h3.on hb,h4.on hb,h6,by simp⟩
end Go.Proofs.YtaadknpjbogkbaaGreat
