/-
  Joined texts, part 2:
  What bucket's New, Put and Drop do.
  What bucket's Put and Drop do.
  The order in which bucket looks at cells: mathematics alone.
  bucket's ring and outwards: what a loop over them is handed.
  What bucket's Near answers.
  What zelligeref03 answers, with letters for the lengths.
  What zelligeref04's Of, Same, make1, Neg, Add, Sub, Mul and Cmp answer.
  What zelligeref15's far, least and Put answer.
  bucket's Near whole; the laws' own lives and good; the walks of BucketCells and BucketNews
-/
import Derived.Test.YtliajdokamlnnaaP1
import Derived.RangeFuncNested
import Derived.RangeFuncBound
import Derived.RangeFuncCalls
import Derived.RangeFuncLeaves
import Derived.RangeFuncBox
import Derived.Shelf.Abstract
import Derived.Shelf.RegionOpen
import Derived.WalkKit
import Derived.OwnWalkIn
import Derived.TacticsInMore
import Derived.LoopNIn
import Derived.LoopIn
import Derived.Test.YtliajdokamlnnaaRows
import Derived.Lib.ItoaNum
import Derived.Deep.AppendLies
import Derived.Laws.BitsAllLaws
import Derived.Deep.RegionWith
import Derived.WalkSpells
import Derived.Deep.QuietTactic
import Derived.BigQuiet
import Derived.RegionTactic
import Derived.ChangeAlike
namespace Go.Proofs.Ytliajdokamlnnaa
open Go.RowKit
set_option linter.unusedVariables false
theorem infoL:(Try.prog.info? 58).map (fun i=>(i.zero,i.size,i.bytes))=some (some (.slice none 0 0),1,24):=by kernel_rfl
def LeftB(Ob:(Nat→Prop)→World→Prop)(F:Nat→Prop)(w w':World):Prop:=Keep F w w'∧ ∃ F',Ob F' w'∧ ∀ k,F' k→F k∨w.heap.size≤k
def upd{α:Type}(f:Nat→α)(k:Nat)(x:α):Nat→α:=fun j=>if j=k then x else f j
theorem upd_same{α:Type}{f:Nat→α}{k:Nat}{x:α}:upd f k x k=x:=by unfold upd;rw [if_pos rfl]
theorem upd_other{α:Type}{f:Nat→α}{k j:Nat}{x:α}(h:j≠k):upd f k x j=f j:=by unfold upd;rw [if_neg h]
theorem GrO.turn{w w3:World}{base g v n k c':Nat}{s m m':Int}{A:Nat→Option Addr×Nat}{L:Nat→List Int}{a':Option Addr}{xs:List Int}(h:GrO w base g v s n A L m)(hk:k<n*n)
  (ow:Own w3 base 3 a' xs.length c' (ints xs)) (hK:Keep (Slot (A k).1) w w3) (hs: ∀ b,Slot a' b→Slot (A k).1 b∨w.heap.size≤b):
  GrO ((w3.setCell ⟨v,k,none⟩ (.slice a' xs.length c')).setCell ⟨g,3,none⟩ (.int .i64 m')) base g v s n (upd A k (a',c')) (upd L k xs) m':=by
 have hgl:=h.row.lt
 have hvl:=h.vl
 have ng: ¬Slot (A k).1 g:=fun e=>(h.off k hk g e).1 rfl
 have nv: ¬Slot (A k).1 v:=fun e=>(h.off k hk v e).2 rfl
 have ng': ¬Slot a' g:=fun e=>(hs g e).elim ng (fun e=>by omega)
 have nv': ¬Slot a' v:=fun e=>(hs v e).elim nv (fun e=>by omega)
 have row3:=h.row.keep hK hgl ng
 have ver3: ∀ j,j<n*n→w3.cell? ⟨v,j,none⟩=some (.slice (A j).1 (L j).length (A j).2)∧w3.frozen? ⟨v,j,none⟩=false:=by
  intro j hj
  rw [World.cell?_of_block (w:=w) (a:=⟨v,j,none⟩) (hK.block v hvl nv),World.frozen?_of_block (w:=w) (a:=⟨v,j,none⟩) (hK.block v hvl nv)]
  exact h.ver j hj
 have K5:Keep (fun b=>b=v∨b=g) w3 ((w3.setCell ⟨v,k,none⟩ (.slice a' xs.length c')).setCell ⟨g,3,none⟩ (.int .i64 m')):=((Keep.refl _ _).set (Or.inl (Or.inl rfl)) _).set (Or.inl (Or.inr rfl)) _
 refine⟨?_,?_,?_,h.ne,Nat.lt_of_lt_of_le hvl (Nat.le_trans hK.size K5.size),?_,?_⟩
 ·exact(row3.other (i:=k) (.slice a' xs.length c') (fun e=>h.ne e.symm)).set 3 (.int .i64 m') (by simp [grR])
 ·intro j hj
  rw [World.frozen?_setCell,World.frozen?_setCell,World.cell?_setCell_other _ _ _ _ (by intro q;simp only [Addr.mk.injEq]at q;exact h.ne q.1)]
  refine⟨?_,(ver3 j hj).2⟩
  by_cases e:j=k
  ·subst e
   rw [upd_same,upd_same]
   exact World.cell?_setCell_same _ _ _ (ver3 j hj).1
  ·rw [upd_other e,upd_other e,World.cell?_setCell_other _ _ _ _ (by intro q;simp only [Addr.mk.injEq]at q;omega)]
   exact(ver3 j hj).1
 ·intro j hj
  by_cases e:j=k
  ·subst e
   rw [upd_same,upd_same]
   exact ow.keep K5 (fun b sb e=>e.elim (fun e=>nv' (e▸sb)) (fun e=>ng' (e▸sb)))
  ·rw [upd_other e,upd_other e]
   exact((h.own j hj).keep hK (fun b sb=>h.apart j k hj hk e b sb)).keep K5 (fun b sb e=>e.elim (h.off j hj b sb).2 (h.off j hj b sb).1)
 ·intro j hj b sb
  by_cases e:j=k
  ·subst e
   rw [upd_same]at sb
   exact⟨fun e=>ng' (e▸sb),fun e=>nv' (e▸sb)⟩
  ·rw [upd_other e]at sb
   exact h.off j hj b sb
 ·intro i j hi hj hij b sb sb'
  by_cases e:i=k
  ·subst e
   rw [upd_same]at sb
   rw [upd_other (Ne.symm hij)]at sb'
   exact(hs b sb).elim (fun s1=>h.apart i j hi hj hij b s1 sb') (fun e=>by have:=((h.own j hj).lt sb').1;omega)
  ·rw [upd_other e]at sb
   by_cases e2:j=k
   ·subst e2
    rw [upd_same]at sb'
    exact(hs b sb').elim (fun s1=>h.apart i j hi hj hij b sb s1) (fun e=>by have:=((h.own i hi).lt sb).1;omega)
   ·rw [upd_other e2]at sb'
    exact h.apart i j hi hj hij b sb sb'
theorem GrO.turned{w w2 w3:World}{base g v n k c':Nat}{s m m':Int}{A:Nat→Option Addr×Nat}{L:Nat→List Int}{a':Option Addr}{xs:List Int}{F:Nat→Prop}(h:GrO w base g v s n A L m)(hFg:F g)(hFv:F v)(hF: ∀ k,k<n*n→ ∀ b,Slot (A k).1 b→F b)(hft: ∀ k,F k→base≤k∧k<w.heap.size)(hk:k<n*n)
  (b2:Below w.heap.size w w2) (ow:Own w3 base 3 a' xs.length c' (ints xs)) (hK:Keep (Slot (A k).1) w2 w3) (hs: ∀ b,Slot a' b→Slot (A k).1 b∨w2.heap.size≤b):
  LeftB (GrP base g s n (upd L k xs) m') F w ((w3.setCell ⟨v,k,none⟩ (.slice a' xs.length c')).setCell ⟨g,3,none⟩ (.int .i64 m')):=by
 have h2:=h.keep hFg hFv hF (Keep.of (F:=fun _=>False) b2) (fun _ _ x=>x)
 have hT:=h2.turn (m':=m') hk ow hK hs
 have k3:Keep F w w3:=(Keep.of b2).trans hK (fun b sb=>Or.inl (hF k hk b sb))
 have k5:Keep F w ((w3.setCell ⟨v,k,none⟩ (.slice a' xs.length c')).setCell ⟨g,3,none⟩ (.int .i64 m')):=(k3.set (Or.inl hFv) _).set (Or.inl hFg) _
 have hz:w.heap.size≤w2.heap.size:=b2.size
 refine⟨k5,fun b=>F b∨(w.heap.size≤b∧b<w3.heap.size),⟨⟨v,_,hT,Or.inl hFg,Or.inl hFv,?_⟩,?_⟩,fun b hb=>hb.imp id (fun e=>e.1)⟩
 ·intro j hj b sb
  by_cases e:j=k
  ·subst e
   rw [upd_same]at sb
   exact(hs b sb).imp (hF j hj b) (fun e=>⟨by omega,(ow.lt sb).1⟩)
  ·rw [upd_other e]at sb
   exact Or.inl (hF j hj b sb)
 ·rintro b (hb|⟨h1,h3⟩)
  ·exact⟨(hft b hb).1,Nat.lt_of_lt_of_le (hft b hb).2 k5.size⟩
  ·have hb:base≤w.heap.size:=by have:=hft g hFg;omega
   have:=k5.size
   exact⟨by omega,by simp only [World.size_setCell];exact h3⟩
theorem GrP.stays{base g n:Nat}{s m:Int}{L:Nat→List Int}{F:Nat→Prop}{w w':World}(h:GrP base g s n L m F w)(hb:Below w.heap.size w w'):LeftB (GrP base g s n L m) F w w':=⟨Keep.of hb,F,h.below hb,fun k hk=>Or.inl hk⟩
def GotNew(base:Nat)(s:Int)(n:Nat)(w:World)(e:Ending)(w':World):Prop:= ∃ g F,e= .returned (.pointer (some ⟨g,0,none⟩))∧GrP base g s n (fun _=> []) 0 F w'∧(∀ k,F k→w.heap.size≤k)∧Below w.heap.size w w'
set_option maxRecDepth 100000 in
set_option maxHeartbeats 1000000 in
theorem bkNew(base:Nat)(s c:Int)(n:Nat)(w:World)(h:GrOk s n)(hc:c=(n:Int))(hb:base≤w.heap.size):
  Calls Try.prog 8 #[.int .i64 s, .int .i64 c] w (GotNew base s n w):=by
 obtain⟨i0,hi0,hz0,hz1,hz2⟩:=info_of infoL
 have h':=h
 obtain⟨a1,a2,a3,a4⟩:=h
 have hnn:n*n≤64*64:=Nat.mul_le_mul a4 a4
 have e1:wrap64 (c*c)=((n*n:Nat):Int):=by rw [hc,←Int.natCast_mul];exact wrap_in (by omega) (by omega)
 have e2: ¬s<1:=by omega
 have e3: ¬17179869184<s:=by omega
 have e4: ¬c<1:=by omega
 have e5: ¬64<c:=by omega
 have HC:Hid _:=hc
 have HN:Hid (n*n≤64*64):=hnn
 obtain⟨q,hq⟩: ∃ q,q=n*n:=⟨_,rfl⟩
 rw [←hq]at e1 hnn
 have HQ:Hid _:=hq
 clear hq hc a1 a2 a3 a4
 go_enter Try.func8,Try.ntmps8
 go_wp2_with (at_make;refine make_any _ rfl _ _ 46 rfl w.heap.size 58 i0 _ Try.underlying46 hi0 hz0 hz1 rfl _ _ _ _ q rfl rfl (by first|rfl|assumption) (by first|rfl|assumption) (by rw [hz2];omega) (by unfold maxLen;omega) (Nat.le_refl _) ?_;intro w1 ow1 b1)
 go_ret
 have zs:=b1.size
 obtain⟨⟨f,hr,hf⟩,hbb,hn,hm,_⟩:=own_row ow1
 have R:=Row.new w1 (grR s n w.heap.size 0) 48
 have bb:Below w1.heap.size w1 (w1.alloc (.cells (grR s n w.heap.size 0).toArray 48)):=(Below.refl _ _).alloc (Nat.le_refl _) _
 have hlt:=hr.lt
 refine⟨w1.heap.size,fun k=>k=w.heap.size∨k=w1.heap.size,rfl,⟨⟨w.heap.size,fun _=>(none,0),⟨?_,?_,?_,by omega,by simp;omega,?_,?_⟩,Or.inr rfl,Or.inl rfl,?_⟩,?_⟩,?_,?_⟩
 ·rw [HQ.out,HC.out];exact R
 ·intro k hk
  rw [←HQ.out]at hk
  have hr2:=hr.alloc (.cells (grR s n w.heap.size 0).toArray 48)
  rw [HQ.out,HC.out]
  refine⟨(hr2.cell hk).trans ?_,hr2.frozen k⟩
  rw [hf k (.slice none 0 0) (by rw [List.getElem?_replicate,if_pos hk])]
  rfl
 ·intro k hk;exact own_none _ _ _
 ·intro k hk b sb;exact(slot_no sb).elim
 ·intro k j hk hj hkj b sb;exact(slot_no sb).elim
 ·intro k hk b sb;exact(slot_no sb).elim
 ·rintro k (rfl|rfl)
  ·exact⟨hb,by simp;omega⟩
  ·exact⟨by omega,by simp⟩
 ·rintro k (rfl|rfl)
  ·exact Nat.le_refl _
  ·exact zs
 ·rw [HQ.out,HC.out];exact b1.trans (bb.mono zs)
set_option maxRecDepth 100000 in
theorem bkNew0(s c:Int)(w:World)(h: ¬(1≤s∧s≤17179869184∧1≤c∧c≤64)):Calls Try.prog 8 #[.int .i64 s, .int .i64 c] w fun e w'=>e= .returned (.pointer none)∧Below w.heap.size w w':=by
 by_cases e1:s<1
 ·clear h
  go_enter Try.func8,Try.ntmps8
  go_wp2
  go_ret
  exact⟨rfl,Below.refl _ _⟩
 by_cases e2:17179869184<s
 ·clear h
  go_enter Try.func8,Try.ntmps8
  go_wp2
  go_ret
  exact⟨rfl,Below.refl _ _⟩
 by_cases e3:c<1
 ·clear h
  go_enter Try.func8,Try.ntmps8
  go_wp2
  go_ret
  exact⟨rfl,Below.refl _ _⟩
 have e4:64<c:=by omega
 clear h
 go_enter Try.func8,Try.ntmps8
 go_wp2
 go_ret
 exact⟨rfl,Below.refl _ _⟩
def putL(L:Nat→List Int)(o:Option Nat)(v:Int):Nat→List Int:=match o with|none=>L|some k=>upd L k (insL (L k) v)
def putM(m:Int)(o:Option Nat):Int:=match o with|none=>m|some _=>m+1
theorem one_row(w:World)(v:Int):(w.alloc (.cells #[.int .i64 v] 3)).rowIs w.heap.size 3 1 (fun _=> .int .i64 v):=World.rowIs_alloc w #[.int .i64 v] 3 (fun _=> .int .i64 v) (fun i hi=>by simp at hi;subst hi;rfl)
theorem below_to{a b c:World}(h:Below a.heap.size a b)(k:Below b.heap.size b c):Below a.heap.size a c:=h.trans (k.mono h.size)
set_option maxRecDepth 100000 in
set_option maxHeartbeats 2000000 in
theorem bkPut(base g n:Nat)(s m v x y:Int)(L:Nat→List Int)(F:Nat→Prop)(w:World)(H:GrP base g s n L m F w)(h:GrOk s n)(hl: ∀ k,(L k).length≤1000)(hs: ∀ k,(L k).Pairwise (· ≤ ·))(hm: -1000000≤m∧m≤1000000):
  Calls Try.prog 14 #[.pointer (some ⟨g,0,none⟩), .int .i64 v, .agg #[.int .i64 x, .int .i64 y]] w fun e w'=>e= .returned (.tuple #[])∧LeftB (GrP base g s n (putL L (lstC x y s n) v) (putM m (lstC x y s n))) F w w':=by
 have H':=H
 obtain⟨⟨vv,A,hO,hFg,hFv,hFA⟩,hft⟩:=H'
 have hgl:=hO.row.lt
 obtain⟨W,hW⟩: ∃ W,W=w.alloc (.cells #[.int .i64 x, .int .i64 y] 23):=⟨_,rfl⟩
 have bW:Below w.heap.size w W:=by rw [hW];exact(Below.refl _ _).alloc (Nat.le_refl _) _
 have hOW:=hO.keep hFg hFv hFA (Keep.of (F:=fun _=>False) bW) (fun _ _ x=>x)
 rcases ho:lstC x y s n with _|k
 ·have HO:Hid _:=ho
  clear ho
  go_enter Try.func14,Try.ntmps14
  go_wp2_with (go_at_call 22;fail)
  rw [←hW]
  clear hW
  refine(bkList g vv n s m x y W hOW.row h (r:=none) (by rw [HO.out];rfl)).mono ?_
  rintro e w1 ⟨rfl,b1⟩
  go_wp2
  refine bodyPost_ret (results_none rfl _ _ _) rfl ?_
  exact⟨rfl,H.stays (below_to bW b1)⟩
 ·have hk:=lst_in h ho
  have HO:Hid _:=ho
  clear ho
  go_enter Try.func14,Try.ntmps14
  go_wp2_with (go_at_call 22;fail)
  rw [←hW]
  clear hW
  refine(bkList g vv n s m x y W hOW.row h (r:=some ⟨vv,k,none⟩) (by rw [HO.out];rfl)).mono ?_
  rintro e w1 ⟨rfl,b1⟩
  have b01:=below_to bW b1
  have hO1:=hO.keep hFg hFv hFA (Keep.of (F:=fun _=>False) b01) (fun _ _ x=>x)
  have q1:=(hO1.ver k hk).1
  go_wp2_with (go_at_call 23;fail)
  refine(lbSearch base (A k).1 (A k).2 (L k) v w1 (hO1.own k hk) (hl k) (hs k)).mono ?_
  rintro e w2 ⟨rfl,q,rfl⟩
  have q2:(w1.drewN q).cell? ⟨vv,k,none⟩=some (.slice (A k).1 (L k).length (A k).2):=q1
  have bd:=below_dn w1.heap.size w1 q
  generalize hw2:w1.drewN q=w2 at q2 bd ⊢
  have b02:=below_to b01 bd
  clear q1 hw2
  obtain⟨X,hX⟩: ∃ X,X=w2.alloc (.cells #[.int .i64 v] 3):=⟨_,rfl⟩
  have bX:Below w2.heap.size w2 X:=by rw [hX];exact(Below.refl _ _).alloc (Nat.le_refl _) _
  have b0X:=below_to b02 bX
  have hOX:=hO.keep hFg hFv hFA (Keep.of (F:=fun _=>False) b0X) (fun _ _ x=>x)
  have rX:X.rowIs w2.heap.size 3 1 (fun _=> .int .i64 v):=by rw [hX];exact one_row w2 v
  have nS: ¬Slot (A k).1 w2.heap.size:=fun e=>by have:=(hFA k hk _ e);have:=(hft _ this).2;have:=b02.size;omega
  have hbX:base≤X.heap.size:=by have:=(hft g hFg).1;have:=b0X.size;omega
  have hbool: ∀ bb:Bool,bb=(L k).contains v→True:=fun _ _=>trivial
  generalize (L k).contains v=there
  go_wp2_with (go_at_call 25;fail)
  rw [←hX]
  clear hX
  refine(lbInsert base (A k).1 (A k).2 (plc (L k) v) w2.heap.size (L k) v X (hOX.own k hk) hbX (plc_le _ _) (hl k) rX nS).mono ?_
  rintro e w3 ⟨a',c',rfl,ow,hK,hsl⟩
  have hOi:(L k).take (plc (L k) v)++v::(L k).drop (plc (L k) v)=insL (L k) v:=rfl
  rw [hOi]at ow ⊢
  have ver3:w3.cell? ⟨vv,k,none⟩=some (.slice (A k).1 (L k).length (A k).2)∧w3.frozen? ⟨vv,k,none⟩=false:=by
   rw [World.cell?_of_block (w:=X) (a:=⟨vv,k,none⟩) (hK.block vv hOX.vl (fun e=>(hOX.off k hk vv e).2 rfl)),World.frozen?_of_block (w:=X) (a:=⟨vv,k,none⟩) (hK.block vv hOX.vl (fun e=>(hOX.off k hk vv e).2 rfl))]
   exact hOX.ver k hk
  obtain⟨c3,d3⟩:=ver3
  have row3:=(hOX.row.keep hK hOX.row.lt (fun e=>(hOX.off k hk g e).1 rfl)).other (i:=k) (.slice a' (insL (L k) v).length c') (fun e=>hOX.ne e.symm)
  have r3:=row3.cell 3 _ rfl
  have r4:=row3.free 3 (by simp [grR])
  have ew:wrap64 (m+1)=m+1:=wrap_in (by omega) (by omega)
  have HT:Hid _:=hO.turned (m':=m+1) hFg hFv hFA hft hk b0X ow hK hsl
  clear ow hK hsl hOX hO1 hOW rX nS row3
  go_wp2
  go_end0
  exact⟨rfl,HT.out⟩
set_option maxRecDepth 100000 in
theorem bkPut0(v x y:Int)(w:World):Calls Try.prog 14 #[.pointer none, .int .i64 v, .agg #[.int .i64 x, .int .i64 y]] w fun e w'=>e= .returned (.tuple #[])∧Below w.heap.size w w':=by
 go_enter Try.func14,Try.ntmps14
 go_wp2_with (go_at_call 22;fail)
 refine(bkList0 x y _).mono ?_
 rintro e w1 ⟨rfl,b1⟩
 go_wp2
 refine bodyPost_ret (results_none rfl _ _ _) rfl ?_
 exact⟨rfl,below_to ((Below.refl _ w).alloc (Nat.le_refl _) _) b1⟩
set_option maxRecDepth 100000 in
theorem bkDrop0(v x y:Int)(w:World):Calls Try.prog 12 #[.pointer none, .int .i64 v, .agg #[.int .i64 x, .int .i64 y]] w fun e w'=>e= .returned (.tuple #[])∧Below w.heap.size w w':=by
 go_enter Try.func12,Try.ntmps12
 go_wp2_with (go_at_call 22;fail)
 refine(bkList0 x y _).mono ?_
 rintro e w1 ⟨rfl,b1⟩
 go_wp2
 refine bodyPost_ret (results_none rfl _ _ _) rfl ?_
 exact⟨rfl,below_to ((Below.refl _ w).alloc (Nat.le_refl _) _) b1⟩
def ups:Int→Nat→List Int
 |_,0=> []
 |a,n+1=>a::ups (a+1) n
theorem ups_mem{a:Int}{n:Nat}{x:Int}(h:x∈ups a n):a≤x∧x<a+n:=by
 induction n generalizing a with
 |zero=>cases h
 |succ n ih=>
  rcases List.mem_cons.1 h with rfl|h
  ·omega
  ·have:=ih h;omega
def colP(f:Nat)(r:Int):List (Int×Int):=if r= -(f:Int)∨r=(f:Int)then(ups (-(f:Int)) (2*f+1)).map fun k=>(r,k)else [(r, -(f:Int)),(r,(f:Int))]
def ringP(f:Nat):List (Int×Int):=(ups (-(f:Int)) (2*f+1)).flatMap (colP f)
def outP(n:Nat):List (Int×Int):=(ups 0 (n+1)).flatMap fun f=>ringP f.toNat
theorem col_in{f:Nat}{r:Int}{o:Int×Int}(h:o∈colP f r):o.1=r∧ -(f:Int)≤o.2∧o.2≤f:=by
 unfold colP at h
 split at h
 ·obtain⟨k,hk,rfl⟩:=List.mem_map.1 h
  have:=ups_mem hk
  exact⟨rfl,by dsimp only;omega,by dsimp only;omega⟩
 ·simp only [List.mem_cons,List.not_mem_nil,or_false]at h
  rcases h with rfl|rfl
  ·exact⟨rfl,by dsimp only;omega,by dsimp only;omega⟩
  ·exact⟨rfl,by dsimp only;omega,by dsimp only;omega⟩
theorem ring_in_r{f:Nat}{o:Int×Int}(h:o∈ringP f): -(f:Int)≤o.1∧o.1≤f∧ -(f:Int)≤o.2∧o.2≤f:=by
 unfold ringP at h
 obtain⟨r,hr,ho⟩:=List.mem_flatMap.1 h
 have:=ups_mem hr
 have:=col_in ho
 omega
theorem out_in{n:Nat}{o:Int×Int}(h:o∈outP n): -(n:Int)≤o.1∧o.1≤n∧ -(n:Int)≤o.2∧o.2≤n:=by
 unfold outP at h
 obtain⟨f,hf,ho⟩:=List.mem_flatMap.1 h
 have:=ups_mem hf
 have:=ring_in_r ho
 omega
def RemC(f:Nat)(st u:Int)(T:List Int):Prop:=(st=1∧u≤(f:Int)+1∧ -(f:Int)≤u∧T=ups u ((f:Int)+1- u).toNat)∨(st=2*(f:Int)∧1≤f∧((u= -(f:Int)∧T= [-(f:Int),(f:Int)])∨(u=(f:Int)∧T= [(f:Int)])∨(u=3*(f:Int)∧T= [])))
theorem RemC.go{f:Nat}{st u:Int}{T:List Int}(h:RemC f st u T)(hu:u≤f): ∃ T',T=u::T'∧RemC f st (u+st) T'∧1≤st∧ -(f:Int)≤u∧st≤2*(f:Int)+1:=by
 rcases h with⟨rfl,h1,h2,rfl⟩|⟨rfl,hf,h⟩
 ·have e:((f:Int)+1- u).toNat=((f:Int)+1- (u+1)).toNat+1:=by omega
  rw [e]
  exact⟨_,rfl,Or.inl ⟨rfl,by omega,by omega,rfl⟩,by omega,by omega,by omega⟩
 ·rcases h with⟨rfl,rfl⟩|⟨rfl,rfl⟩|⟨rfl,rfl⟩
  ·exact⟨_,rfl,Or.inr ⟨rfl,hf,Or.inr (Or.inl ⟨by omega,rfl⟩)⟩,by omega,by omega,by omega⟩
  ·exact⟨_,rfl,Or.inr ⟨rfl,hf,Or.inr (Or.inr ⟨by omega,rfl⟩)⟩,by omega,by omega,by omega⟩
  ·omega
theorem RemC.stop{f:Nat}{st u:Int}{T:List Int}(h:RemC f st u T)(hu: ¬u≤f):T= []:=by
 rcases h with⟨rfl,h1,h2,rfl⟩|⟨rfl,hf,h⟩
 ·rw [show((f:Int)+1- u).toNat=0 by omega];rfl
 ·rcases h with⟨rfl,rfl⟩|⟨rfl,rfl⟩|⟨rfl,rfl⟩
  ·omega
  ·omega
  ·rfl
theorem col_end{f:Nat}{r:Int}(h:r= -(f:Int)∨r=(f:Int)): ∃ T,colP f r=T.map (fun k=>(r,k))∧RemC f 1 (-(f:Int)) T:=by
 refine⟨ups (-(f:Int)) (2*f+1),by unfold colP;rw [if_pos h],Or.inl ⟨rfl,by omega,by omega,?_⟩⟩
 rw [show((f:Int)+1 - -(f:Int)).toNat=2*f+1 by omega]
theorem col_mid{f:Nat}{r:Int}(h: ¬(r= -(f:Int)∨r=(f:Int)))(h1: -(f:Int)≤r)(h2:r≤f): ∃ T,colP f r=T.map (fun k=>(r,k))∧RemC f (2*(f:Int)) (-(f:Int)) T:=
 ⟨[-(f:Int),(f:Int)],by unfold colP;rw [if_neg h];rfl,Or.inr ⟨rfl,by omega,Or.inl ⟨rfl,rfl⟩⟩⟩
def upF(m:Nat):Nat→List (Fin m)
 |0=> []
 |r+1=>if h:r<m then upF m r++ [⟨r,h⟩]else upF m r
theorem upF_next{m r:Nat}(h:r<m):upF m (r+1)=upF m r++ [⟨r,h⟩]:=by
 rw [upF,dif_pos h]
theorem upF_length{m r:Nat}(h:r≤m):(upF m r).length=r:=by
 induction r with
 |zero=>rfl
 |succ r ih=>rw [upF_next (by omega),List.length_append,ih (by omega)];rfl
theorem upF_mem{m r:Nat}(hr:r≤m)(x:Fin m):x∈upF m r↔x.1<r:=by
 induction r with
 |zero=>simp [upF]
 |succ r ih=>
  rw [upF_next (by omega),List.mem_append,ih (by omega)]
  simp only [List.mem_singleton,Fin.ext_iff]
  omega
def ixC(n:Nat)(a b:Int):Nat:=(a % (n:Int)).toNat*n+(b % (n:Int)).toNat
def hitC(L:Nat→List Int)(n:Nat)(a b:Int)(o:Int×Int):Option Int:=(L (ixC n (a+o.1) (b+o.2))).head?
def nearV(L:Nat→List Int)(n:Nat)(a b:Int):Int:=((outP n).findSome? (hitC L n a b)).getD (-1)
theorem find_none{α β:Type}{f:α→Option β}{Z:List α}(h: ∀ i (hi:i<Z.length),f Z[i]=none):Z.findSome? f=none:=by
 rw [List.findSome?_eq_none_iff]
 intro x hx
 obtain⟨i,hi,rfl⟩:=List.getElem_of_mem hx
 exact h i hi
theorem find_some{α β:Type}{f:α→Option β}{Z:List α}{r:Nat}{v:β}(hr:r<Z.length)(h: ∀ i (hi:i<r),f (Z[i]'(by omega))=none)(hv:f Z[r]=some v):Z.findSome? f=some v:=by
 induction Z generalizing r with
 |nil=>simp at hr
 |cons z Z ih=>
  cases r with
  |zero=>simp only [List.getElem_cons_zero]at hv;rw [List.findSome?_cons,hv]
  |succ r=>
   have h0:=h 0 (by omega)
   simp only [List.getElem_cons_zero]at h0
   rw [List.findSome?_cons,h0]
   exact ih (by simpa using hr) (fun i hi=>by have:=h (i+1) (by omega);simpa using this) (by simpa using hv)
theorem drop_cons{α:Type}{Z:List α}{r:Nat}{x:α}{T:List α}(h:Z.drop r=x::T): ∃ hr:r<Z.length,Z[r]=x∧Z.drop (r+1)=T:=by
 have hr:r<Z.length:=by
  refine Nat.lt_of_not_le fun e=>?_
  rw [List.drop_eq_nil_of_le e]at h
  cases h
 rw [List.drop_eq_getElem_cons hr]at h
 exact⟨hr,(List.cons.inj h).1,(List.cons.inj h).2⟩
theorem drop_len{α:Type}{Z A B:List α}{r q:Nat}(h:Z.drop r=A++B)(h':Z.drop q=B)(hr:r≤Z.length)(hq:q≤Z.length):q=r+A.length:=by
 have e1:=congrArg List.length h
 have e2:=congrArg List.length h'
 simp only [List.length_drop,List.length_append]at e1 e2
 omega
end Go.Proofs.Ytliajdokamlnnaa
namespace Go.Proofs.Ytliajdokamlnnaa
open Go.RowKit Go.Shelf
set_option linter.unusedVariables false
attribute [local go_sem] Oper.semAt_some
theorem bk_room{F:Fence}(hd:F.depth=none)(k:Nat):F.room k:=fun d h=>by rw [hd]at h;cases h
theorem bk_depth{F:Fence}(hd:F.depth=none){m:Nat}(m':Nat){P:Program}{l:Nat}{args:Array Value}{W:World}{R:Ending→World→Prop}(h:YieldAt F m P l args W R):YieldAt F m' P l args W R:=by
 obtain⟨fn,tmps,assign,body,hy,hR⟩:=h
 exact⟨fn,tmps,assign,body,hy,hR.1,fun c cs _=>hR.2 c cs (bk_room hd _)⟩
def YdF(F:Fence)(l n₀:Nat)(Z:List (Int×Int))(J Jx:List (Fin Z.length)→World→Prop):Prop:=
 ∀ (m:Nat) (r:Nat) (hr:r<Z.length) (a b:Int) (W:World),Z[r]=(a,b)→J (upF Z.length r) W→YieldAt F m Try.prog l #[.int .i64 a, .int .i64 b] W fun e W'=>
   (e= .returned (.bool true)∧J (upF Z.length (r+1)) W'∧Below n₀ W W')∨(e= .returned (.bool false)∧Jx (upF Z.length (r+1)) W')
def RgIn(n₀:Nat)(Z:List (Int×Int))(J:List (Fin Z.length)→World→Prop)(W0:World)(f:Nat)(st rt:Int)(rest:List (Int×Int))(u:Int)(wr:World):Prop:=
 ∃ (r:Nat) (T:List Int),RemC f st u T∧Z.drop r=T.map (fun k=>(rt,k))++rest∧r≤Z.length∧J (upF Z.length r) wr∧Below n₀ W0 wr
def RgOut(n₀:Nat)(Z:List (Int×Int))(J:List (Fin Z.length)→World→Prop)(W0:World)(f:Nat)(rest:List (Int×Int))(i:Nat)(wr:World):Prop:=
 ∃ r:Nat,Z.drop r=(ups ((i:Int)- f) (2*f+1- i)).flatMap (colP f)++rest∧r≤Z.length∧J (upF Z.length r) wr∧Below n₀ W0 wr
def RgPost(n₀:Nat)(Z:List (Int×Int))(J Jx:List (Fin Z.length)→World→Prop)(W:World)(r1:Nat)(e:Ending)(W':World):Prop:=
 (e= .returned (.bool true)∧J (upF Z.length r1) W'∧Below n₀ W W')∨(e= .returned (.bool false)∧ ∃ r,r<Z.length∧Jx (upF Z.length (r+1)) W')
set_option maxRecDepth 100000 in
set_option maxHeartbeats 4000000 in
theorem bkRing(F:Fence)(hd:F.depth=none)(h43:F.fn 43)(hro:F.round=none)(l n₀:Nat)(Z:List (Int×Int))(J Jx:List (Fin Z.length)→World→Prop)(hY:Hid (YdF F l n₀ Z J Jx))(f r0 r1:Nat)(rest:List (Int×Int))(hf:f≤64)(hr0:r0≤Z.length)(hZ:Hid (Z.drop r0=ringP f++rest))(hr1:Hid (r1=r0+(ringP f).length))(n:Nat)(W:World)(h0:J (upF Z.length r0) W):
  CallsIn F n Try.prog 43 #[.int .i64 (f:Int), .func (.yield l) #[] #[]] W (RgPost n₀ Z J Jx W r1):=by
 refine callsIn_of_wp Try.func43 rfl h43 ?_ hro
 simp only [Try.ntmps43,List.size_toArray,List.length_cons,List.length_nil,Nat.reduceAdd,Nat.reduceSub,Array.replicate_succ,Array.replicate_zero,List.push_toArray,List.append_toArray,List.nil_append,List.cons_append]
 have w1:wrap64 (-(f:Int))= -(f:Int):=wrap_in (by omega) (by omega)
 have w2:wrap64 (2*(f:Int))=2*(f:Int):=wrap_in (by omega) (by omega)
 gi_wp2
 gi_loopw [5] (fun x wr=> ∃ i:Nat,i≤2*f+1∧x= .int .i64 ((i:Int)- f)∧RgOut n₀ Z J W f rest i wr) (fun x _=>((f:Int)+1- intOf x).toNat)
 case atStart=>exact⟨0,by omega,by simp,r0,by rw [hZ.out];unfold ringP;simp,hr0,h0,Below.refl _ _⟩
 case round=>
  obtain⟨i,hi,rfl,r,hd0,hrl,hJ,hB⟩:=hrel
  obtain⟨rt,hrt⟩: ∃ rt:Int,rt=(i:Int)- f:=⟨_,rfl⟩
  have HRT:Hid _:=hrt
  by_cases hlt:i<2*f+1
  ·rw [←hrt]
   have hle:rt≤f:=by omega
   have hge: -(f:Int)≤rt:=by omega
   have hsplit:Hid (Z.drop r=colP f ((i:Int)- f)++((ups (((i+1:Nat):Int)- f) (2*f+1- (i+1))).flatMap (colP f)++rest)):=by
    unfold Hid
    rw [hd0,show 2*f+1- i=(2*f+1- (i+1))+1 by omega,ups,List.flatMap_cons,List.append_assoc,show(i:Int)- f+1=((i+1:Nat):Int)- f by omega]
   rw [←hrt]at hsplit
   clear hd0
   have w3:wrap64 (rt+1)=rt+1:=wrap_in (by omega) (by omega)
   clear hrt
   by_cases h1:rt= -(f:Int)
   ·skip
    have t1:(rt== -(f:Int))=true:=by simpa using h1
    obtain⟨T,hT1,hT2⟩:=col_end (f:=f) (r:=rt) (Or.inl h1)
    have HT:Hid (RemC f 1 (-(f:Int)) T):=hT2
    have HD1:Hid (Z.drop r=T.map (fun k=>(rt,k))++((ups (((i+1:Nat):Int)- f) (2*f+1- (i+1))).flatMap (colP f)++rest)):=by unfold Hid;rw [hsplit.out,hT1]
    clear hT1 hT2 hsplit
    have G1:Hid _:=h1
    clear h1
    gi_wp2
    gi_loopw [7] (fun x wr=> ∃ u:Int,x= .int .i64 u∧RgIn n₀ Z J W f 1 rt ((ups (((i+1:Nat):Int)- f) (2*f+1- (i+1))).flatMap (colP f)++rest) u wr) (fun x _=>((f:Int)+1- intOf x).toNat)
    case atStart=>exact⟨-(f:Int),rfl,r,T,HT.out,HD1.out,hrl,hJ,hB⟩
    case round=>
     clear hJ hB hrl
     obtain⟨u,rfl,q,T',hT',hd1,hql,hJ,hB⟩:=hrel
     by_cases hu:u≤(f:Int)
     ·obtain⟨T2,e2,hT2,s1,s2,s3⟩:=hT'.go hu
      rw [e2]at hd1
      obtain⟨hqr,hz,hd2⟩:=drop_cons hd1
      have hz':Hid (Z[q]=(rt,u)):=hz
      have HD2:Hid _:=hd2
      have HT2:Hid (RemC f 1 (u+1) T2):=hT2
      have wu:wrap64 (u+1)=u+1:=wrap_in (by omega) (by omega)
      clear hd1 hz hd2 hT' hT2 e2 HT HD1
      obtain⟨fn,tmps,assign,body,hy,hR⟩:=hY.out (n- 1) q hqr _ u wr hz'.out hJ
      gi_wp2
      refine hR.mono ?_
      rintro e W3 (⟨rfl,hJ3,hk3⟩|⟨rfl,hJx3⟩)
      ·gi_wp2
       go_roundw
       case rel=>exact⟨_,rfl,q+1,T2,HT2.out,HD2.out,hqr,hJ3,hB.trans hk3⟩
       case measure=>simp [intOf];omega
      ·gi_wp2
       go_ret
       exact Or.inr ⟨rfl,q,hqr,hJx3⟩
     ·have e2:=hT'.stop hu
      subst e2
      have HD2:Hid _:=hd1
      clear hd1 hT' HT HD1
      gi_wp2
      go_roundw
      case rel=>exact⟨i+1,by omega,by rw [HRT.out];congr 1;omega,q,by rw [HD2.out];simp only [List.map_nil,List.nil_append],hql,hJ,hB⟩
      case measure=>simp [intOf];omega
   by_cases h2:rt=(f:Int)
   ·skip
    have t1:(rt== -(f:Int))=false:=by simpa using h1
    have t2:(rt==(f:Int))=true:=by simpa using h2
    obtain⟨T,hT1,hT2⟩:=col_end (f:=f) (r:=rt) (Or.inr h2)
    have HT:Hid (RemC f 1 (-(f:Int)) T):=hT2
    have HD1:Hid (Z.drop r=T.map (fun k=>(rt,k))++((ups (((i+1:Nat):Int)- f) (2*f+1- (i+1))).flatMap (colP f)++rest)):=by unfold Hid;rw [hsplit.out,hT1]
    clear hT1 hT2 hsplit
    have G1:Hid _:=h1
    have G2:Hid _:=h2
    clear h1 h2
    gi_wp2
    gi_loopw [7] (fun x wr=> ∃ u:Int,x= .int .i64 u∧RgIn n₀ Z J W f 1 rt ((ups (((i+1:Nat):Int)- f) (2*f+1- (i+1))).flatMap (colP f)++rest) u wr) (fun x _=>((f:Int)+1- intOf x).toNat)
    case atStart=>exact⟨-(f:Int),rfl,r,T,HT.out,HD1.out,hrl,hJ,hB⟩
    case round=>
     clear hJ hB hrl
     obtain⟨u,rfl,q,T',hT',hd1,hql,hJ,hB⟩:=hrel
     by_cases hu:u≤(f:Int)
     ·obtain⟨T2,e2,hT2,s1,s2,s3⟩:=hT'.go hu
      rw [e2]at hd1
      obtain⟨hqr,hz,hd2⟩:=drop_cons hd1
      have hz':Hid (Z[q]=(rt,u)):=hz
      have HD2:Hid _:=hd2
      have HT2:Hid (RemC f 1 (u+1) T2):=hT2
      have wu:wrap64 (u+1)=u+1:=wrap_in (by omega) (by omega)
      clear hd1 hz hd2 hT' hT2 e2 HT HD1
      obtain⟨fn,tmps,assign,body,hy,hR⟩:=hY.out (n- 1) q hqr _ u wr hz'.out hJ
      gi_wp2
      refine hR.mono ?_
      rintro e W3 (⟨rfl,hJ3,hk3⟩|⟨rfl,hJx3⟩)
      ·gi_wp2
       go_roundw
       case rel=>exact⟨_,rfl,q+1,T2,HT2.out,HD2.out,hqr,hJ3,hB.trans hk3⟩
       case measure=>simp [intOf];omega
      ·gi_wp2
       go_ret
       exact Or.inr ⟨rfl,q,hqr,hJx3⟩
     ·have e2:=hT'.stop hu
      subst e2
      have HD2:Hid _:=hd1
      clear hd1 hT' HT HD1
      gi_wp2
      go_roundw
      case rel=>exact⟨i+1,by omega,by rw [HRT.out];congr 1;omega,q,by rw [HD2.out];simp only [List.map_nil,List.nil_append],hql,hJ,hB⟩
      case measure=>simp [intOf];omega
   ·skip
    have t1:(rt== -(f:Int))=false:=by simpa using h1
    have t2:(rt==(f:Int))=false:=by simpa using h2
    obtain⟨T,hT1,hT2⟩:=col_mid (f:=f) (r:=rt) (fun e=>e.elim h1 h2) hge hle
    have HT:Hid (RemC f (2*(f:Int)) (-(f:Int)) T):=hT2
    have HD1:Hid (Z.drop r=T.map (fun k=>(rt,k))++((ups (((i+1:Nat):Int)- f) (2*f+1- (i+1))).flatMap (colP f)++rest)):=by unfold Hid;rw [hsplit.out,hT1]
    clear hT1 hT2 hsplit
    have G1:Hid _:=h1
    have G2:Hid _:=h2
    clear h1 h2
    gi_wp2
    gi_loopw [7] (fun x wr=> ∃ u:Int,x= .int .i64 u∧RgIn n₀ Z J W f (2*(f:Int)) rt ((ups (((i+1:Nat):Int)- f) (2*f+1- (i+1))).flatMap (colP f)++rest) u wr) (fun x _=>((f:Int)+1- intOf x).toNat)
    case atStart=>exact⟨-(f:Int),rfl,r,T,HT.out,HD1.out,hrl,hJ,hB⟩
    case round=>
     clear hJ hB hrl
     obtain⟨u,rfl,q,T',hT',hd1,hql,hJ,hB⟩:=hrel
     by_cases hu:u≤(f:Int)
     ·obtain⟨T2,e2,hT2,s1,s2,s3⟩:=hT'.go hu
      rw [e2]at hd1
      obtain⟨hqr,hz,hd2⟩:=drop_cons hd1
      have hz':Hid (Z[q]=(rt,u)):=hz
      have HD2:Hid _:=hd2
      have HT2:Hid (RemC f (2*(f:Int)) (u+2*(f:Int)) T2):=hT2
      have wu:wrap64 (u+2*(f:Int))=u+2*(f:Int):=wrap_in (by omega) (by omega)
      clear hd1 hz hd2 hT' hT2 e2 HT HD1
      obtain⟨fn,tmps,assign,body,hy,hR⟩:=hY.out (n- 1) q hqr _ u wr hz'.out hJ
      gi_wp2
      refine hR.mono ?_
      rintro e W3 (⟨rfl,hJ3,hk3⟩|⟨rfl,hJx3⟩)
      ·gi_wp2
       go_roundw
       case rel=>exact⟨_,rfl,q+1,T2,HT2.out,HD2.out,hqr,hJ3,hB.trans hk3⟩
       case measure=>simp [intOf];omega
      ·gi_wp2
       go_ret
       exact Or.inr ⟨rfl,q,hqr,hJx3⟩
     ·have e2:=hT'.stop hu
      subst e2
      have HD2:Hid _:=hd1
      clear hd1 hT' HT HD1
      gi_wp2
      go_roundw
      case rel=>exact⟨i+1,by omega,by rw [HRT.out];congr 1;omega,q,by rw [HD2.out];simp only [List.map_nil,List.nil_append],hql,hJ,hB⟩
      case measure=>simp [intOf];omega
  ·clear HRT hrt
   obtain rfl:i=2*f+1:=by omega
   have hle: ¬(((2*f+1:Nat):Int)- f≤f):=by omega
   have HD:Hid (Z.drop r=rest):=by unfold Hid;rw [hd0,Nat.sub_self];rfl
   clear hd0
   have e1:Hid (r=r1):=by unfold Hid;rw [hr1.out];exact drop_len hZ.out HD.out hr0 hrl
   gi_wp2
   go_ret
   exact Or.inl ⟨rfl,by rw [←e1.out];exact hJ,hB⟩
theorem drop_ring{Z A B:List (Int×Int)}{r:Nat}(h:Z.drop r=A++B):Z.drop (r+A.length)=B∧(r≤Z.length→r+A.length≤Z.length):=by
 refine⟨?_,fun hr=>?_⟩
 ·rw [←List.drop_drop,h,List.drop_left]
 ·have e:=congrArg List.length h
  simp only [List.length_drop,List.length_append]at e
  omega
def OutPost(Z:List (Int×Int))(J Jx:List (Fin Z.length)→World→Prop)(e:Ending)(W':World):Prop:=
 (∃ v,e= .returned v)∧((∃ ys,ys=upF Z.length Z.length∧J ys W')∨(∃ pre,(∃ r,r<Z.length∧pre=upF Z.length (r+1))∧Jx pre W'))
set_option maxRecDepth 100000 in
set_option maxHeartbeats 4000000 in
theorem bkOut1(F:Fence)(hd:F.depth=none)(h42:F.fn 42)(h43:F.fn 43)(hro:F.round=none)(l n₀ m Bs:Nat)(hm:m≤64)(Z:List (Int×Int))(hZ:Hid (Z=outP m))(J Jx:List (Fin Z.length)→World→Prop)(hY:Hid (YdF F l n₀ Z J Jx))(n:Nat)(W:World)(hBs:W.cell? ⟨Bs,0,none⟩=some (.int .i64 (m:Int)))(h0:J [] W):
  CallsIn F n Try.prog 42 #[.func (.yield l) #[] #[], .pointer (some ⟨Bs,0,none⟩)] W (OutPost Z J Jx):=by
 refine callsIn_of_wp Try.func42 rfl h42 ?_ hro
 simp only [Try.ntmps42,List.size_toArray,List.length_cons,List.length_nil,Nat.reduceAdd,Nat.reduceSub,Array.replicate_succ,Array.replicate_zero,List.push_toArray,List.append_toArray,List.nil_append,List.cons_append]
 have w1:wrap64 ((m:Int)+1)=(m:Int)+1:=wrap_in (by omega) (by omega)
 gi_wp2
 gi_loopw [6] (fun x wr=> ∃ i:Nat,i≤m+1∧x= .int .i64 (i:Int)∧ ∃ r:Nat,Hid (Z.drop r=(ups (i:Int) (m+1- i)).flatMap fun f=>ringP f.toNat)∧r≤Z.length∧J (upF Z.length r) wr) (fun x _=>((m:Int)+1- intOf x).toNat)
 case atStart=>exact⟨0,by omega,rfl,0,by unfold Hid;rw [hZ.out];rfl,by omega,h0⟩
 case round=>
  obtain⟨i,hi,rfl,r,HD,hrl,hJ⟩:=hrel
  by_cases hlt:i<m+1
  ·have hlt':(i:Int)<(m:Int)+1:=by omega
   have hsp:Hid (Z.drop r=ringP i++(ups ((i+1:Nat):Int) (m+1- (i+1))).flatMap fun f=>ringP f.toNat):=by
    unfold Hid
    rw [HD.out,show m+1- i=(m+1- (i+1))+1 by omega,ups,List.flatMap_cons]
    rfl
   have w2:wrap64 ((i:Int)+1)=(i:Int)+1:=wrap_in (by omega) (by omega)
   have HR:Hid (CallsIn F (n- 1) Try.prog 43 #[.int .i64 (i:Int), .func (.yield l) #[] #[]] wr (RgPost n₀ Z J Jx wr (r+(ringP i).length))):=bkRing F hd h43 hro l n₀ Z J Jx hY i r _ _ (by omega) hrl hsp rfl (n- 1) wr hJ
   have hdd: ∀ k,F.room k:=fun k=>bk_room hd k
   gi_wp2_with ((try refine⟨hdd _,?_⟩);gi_at_call 43;refine CallsIn.mono HR.out ?_;clear HR;rintro e W1 (⟨rfl,hJ1,_⟩|⟨rfl,q,hq,hx⟩))
   ·go_roundw
    case rel=>exact⟨i+1,by omega,by simp,_,(drop_ring hsp.out).1,(drop_ring hsp.out).2 hrl,hJ1⟩
    case measure=>simp [intOf];omega
   ·refine bodyPost_ret (results_none rfl _ _ _) rfl ?_
    exact⟨⟨_,rfl⟩,Or.inr ⟨_,⟨q,hq,rfl⟩,hx⟩⟩
  ·obtain rfl:i=m+1:=by omega
   have hlt': ¬(((m+1:Nat):Int)<(m:Int)+1):=by omega
   have e1:Hid (r=Z.length):=by
    unfold Hid
    have e:=congrArg List.length HD.out
    rw [Nat.sub_self]at e
    simp only [List.length_drop,ups,List.flatMap_nil,List.length_nil]at e
    omega
   gi_wp2
   go_end0
   have hJ':=hJ
   rw [e1.out]at hJ'
   exact⟨⟨_,rfl⟩,Or.inl ⟨_,rfl,hJ'⟩⟩
set_option maxHeartbeats 1000000 in
theorem bkOut(F:Fence)(n:Nat)(h26:F.fn 26)(hro:F.round=none)(m:Int)(w:World):
  CallsIn F n Try.prog 26 #[.int .i64 m] w fun e w'=>e= .returned (.func (.func 42) #[] #[.pointer (some ⟨w.heap.size,0,none⟩)])∧w'=w.alloc (.cells #[.int .i64 m] 3):=by
 refine callsIn_of_wp Try.func26 rfl h26 ?_ hro
 simp only [Try.ntmps26,List.size_toArray,List.length_cons,List.length_nil,Nat.reduceAdd,Nat.reduceSub,Array.replicate_succ,Array.replicate_zero,List.push_toArray,List.append_toArray,List.nil_append,List.cons_append]
 gi_wp2
 go_ret
 exact⟨rfl,rfl⟩
theorem bkStops(F:Fence)(hd:F.depth=none)(n:Nat)(h42:F.fn 42)(h43:F.fn 43)(hro:F.round=none)(Bs n₀ m:Nat)(hm:m≤64)(w:World)(hBs:Bs<w.heap.size)(hc:w.cell? ⟨Bs,0,none⟩=some (.int .i64 (m:Int))):
  SeqStopsK F n Try.prog 42 #[.pointer (some ⟨Bs,0,none⟩)] (fun x:Fin (outP m).length=> #[Value.int .i64 ((outP m)[x.1]'x.2).1,Value.int .i64 ((outP m)[x.1]'x.2).2]) (Below n₀) (fun ys=>ys=upF (outP m).length (outP m).length)
   (fun pre=> ∃ r,r<(outP m).length∧pre=upF (outP m).length (r+1)) (outP m).length w:=fun l J Jx W hW _ _ hY h0=>by
 have hc':=(hW.cell (p:=⟨Bs,0,none⟩) hBs).trans hc
 refine bkOut1 F hd h42 h43 hro l n₀ m Bs hm (outP m) rfl J Jx ?_ n W hc' h0
 intro m' r hr a b W' hz hJ
 have h:=bk_depth hd m' (hY (upF (outP m).length r) ⟨r,hr⟩ W' hJ (by rw [upF_length (by omega)];exact hr))
 dsimp only at h
 rw [←upF_next hr]at h
 have hz1:((outP m)[r]'hr)=(a,b):=hz
 rw [hz1]at h
 exact h
end Go.Proofs.Ytliajdokamlnnaa
namespace Go.Proofs.Ytliajdokamlnnaa
open Go.RowKit Go.Shelf
set_option linter.unusedVariables false
attribute [local go_sem] Oper.semAt_some
def nearR(L:Nat→List Int)(x y s:Int)(n:Nat):Int:=if homeC x y s then nearV L n (clX x s n) (clX y s n)else -1
set_option maxRecDepth 100000 in
set_option maxHeartbeats 2000000 in
theorem bkNear_no(base g n:Nat)(s m x y:Int)(L:Nat→List Int)(F:Nat→Prop)(w:World)(H:GrP base g s n L m F w)(h:GrOk s n)(hh:homeC x y s=false):
  Calls Try.prog 17 #[.pointer (some ⟨g,0,none⟩), .agg #[.int .i64 x, .int .i64 y]] w fun e w'=>e= .returned (.int .i64 (-1))∧Below w.heap.size w w':=by
 obtain⟨⟨vv,A,hO,hFg,hFv,hFA⟩,hft⟩:=H
 have hgl:=hO.row.lt
 have hc:(-1, -1)=cellC x y s n:=by unfold cellC;rw [hh];rfl
 refine callsIn_wide.1 (callsIn_of_wp_marks (F:=Fence.wide) (n:=4) Try.func17 rfl trivial ?_ rfl)
 simp only [Try.ntmps17,List.size_toArray,List.length_cons,List.length_nil,Nat.reduceAdd,Nat.reduceSub,Array.replicate_succ,Array.replicate_zero,List.push_toArray,List.append_toArray,List.nil_append,List.cons_append]
 refine wpIn_wide.2 ?_
 obtain⟨W,hW⟩: ∃ W,W=((w.alloc (.cells #[.pointer (some ⟨g,0,none⟩)] 26)).alloc (.cells #[.int .i64 x, .int .i64 y] 23)).alloc (.cells #[.int .i64 0] 3):=⟨_,rfl⟩
 have bW:Below w.heap.size w W:=by rw [hW];exact(((Below.refl _ _).alloc (Nat.le_refl _) _).alloc (by simp) _).alloc (by simp;omega) _
 have zW:W.heap.size=w.heap.size+3:=by rw [hW];simp
 have R2:Row W (w.heap.size+1+1) [.int .i64 0]:=by
  have:=Row.new ((w.alloc (.cells #[.pointer (some ⟨g,0,none⟩)] 26)).alloc (.cells #[.int .i64 x, .int .i64 y] 23)) [.int .i64 0] 3
  rw [World.size_alloc,World.size_alloc]at this
  rw [hW];exact this
 go_wp2_with (go_at_call 9;fail)
 rw [←hW]
 clear hW
 refine(bkCell g vv n s m x y W (hO.row.below bW hgl) h hc).mono ?_
 rintro e w1 ⟨rfl,b1⟩
 have z1:=b1.size
 have hX:=(((Below.refl w1.heap.size w1).alloc (Nat.le_refl _) (.cells #[.int .i64 (-1)] 3)).alloc (by simp) (.cells #[.int .i64 (-1)] 3))
 have R3:=(R2.below b1 (by omega)).below hX (by omega)
 have q0:=R3.cell 0 _ rfl
 have f0:=R3.free 0 (by simp)
 have bF:Below w.heap.size w (((w1.alloc (.cells #[.int .i64 (-1)] 3)).alloc (.cells #[.int .i64 (-1)] 3)).setCell ⟨w.heap.size+1+1,0,none⟩ (.int .i64 (-1))):=(below_to (below_to bW b1) hX).setCell (by simp;omega) _
 have c0:=World.cell?_setCell_same _ _ (.int .i64 (-1)) q0
 go_wp2
 exact⟨.int .i64 (-1),by simp [results,Try.results17,go_sem,c0],rfl,bF⟩
set_option maxRecDepth 100000 in
set_option maxHeartbeats 2000000 in
theorem bkNear_yes(base g n:Nat)(s m x0 y:Int)(L:Nat→List Int)(F:Nat→Prop)(w:World)(H:GrP base g s n L m F w)(h:GrOk s n)(a b:Nat)(hc:((a:Int),(b:Int))=cellC x0 y s n)(ha:a<n)(hb:b<n){r:Int}(hr:r=nearV L n a b):
  Calls Try.prog 17 #[.pointer (some ⟨g,0,none⟩), .agg #[.int .i64 x0, .int .i64 y]] w fun e w'=>e= .returned (.int .i64 r)∧Below w.heap.size w w':=by
 obtain⟨⟨vv,A,hO,hFg,hFv,hFA⟩,hft⟩:=H
 have hgl:=hO.row.lt
 have HC:Hid _:=hc
 have HRR:Hid _:=hr
 clear hc hr
 refine callsIn_wide.1 (callsIn_of_wp_marks (F:=Fence.wide) (n:=4) Try.func17 rfl trivial ?_ rfl)
 simp only [Try.ntmps17,List.size_toArray,List.length_cons,List.length_nil,Nat.reduceAdd,Nat.reduceSub,Array.replicate_succ,Array.replicate_zero,List.push_toArray,List.append_toArray,List.nil_append,List.cons_append]
 refine wpIn_wide.2 ?_
 obtain⟨W,hW⟩: ∃ W,W=((w.alloc (.cells #[.pointer (some ⟨g,0,none⟩)] 26)).alloc (.cells #[.int .i64 x0, .int .i64 y] 23)).alloc (.cells #[.int .i64 0] 3):=⟨_,rfl⟩
 have bW:Below w.heap.size w W:=by rw [hW];exact(((Below.refl _ _).alloc (Nat.le_refl _) _).alloc (by simp) _).alloc (by simp;omega) _
 have zW:W.heap.size=w.heap.size+3:=by rw [hW];simp
 have R0:Row W w.heap.size [.pointer (some ⟨g,0,none⟩)]:=by rw [hW];exact((Row.new w [.pointer (some ⟨g,0,none⟩)] _).alloc _ (by simp)).alloc _ (by simp;omega)
 have R2:Row W (w.heap.size+1+1) [.int .i64 0]:=by
  have:=Row.new ((w.alloc (.cells #[.pointer (some ⟨g,0,none⟩)] 26)).alloc (.cells #[.int .i64 x0, .int .i64 y] 23)) [.int .i64 0] 3
  rw [World.size_alloc,World.size_alloc]at this
  rw [hW];exact this
 go_wp2_with (go_at_call 9;fail)
 rw [←hW]
 clear hW
 refine(bkCell g vv n s m x0 y W (hO.row.below bW hgl) h HC.out).mono ?_
 rintro e w1 ⟨rfl,b1⟩
 have z1:=b1.size
 have R01:=R0.below b1 (by omega)
 have R21:=R2.below b1 (by omega)
 have bw1:=below_to bW b1
 have row1:=hO.row.below bw1 hgl
 obtain⟨X,hX⟩: ∃ X,X=(w1.alloc (.cells #[.int .i64 (a:Int)] 3)).alloc (.cells #[.int .i64 (b:Int)] 3):=⟨_,rfl⟩
 have zX:X.heap.size=w1.heap.size+2:=by rw [hX];simp
 have b1X:Below w1.heap.size w1 X:=by rw [hX];exact((Below.refl _ _).alloc (Nat.le_refl _) _).alloc (by simp) _
 have RA:Row X w1.heap.size [.int .i64 (a:Int)]:=by rw [hX];exact(Row.new w1 [.int .i64 (a:Int)] 3).alloc _ (by simp)
 have RB:Row X (w1.heap.size+1) [.int .i64 (b:Int)]:=by
  rw [hX]
  have:=Row.new (w1.alloc (.cells #[.int .i64 (a:Int)] 3)) [.int .i64 (b:Int)] 3
  rw [World.size_alloc]at this
  exact this
 have qa:=RA.cell 0 _ rfl
 have qg:=(R01.below b1X (by omega)).cell 0 _ rfl
 have qn:=(row1.below b1X (by omega)).cell 1 _ rfl
 have a0: ¬(a:Int)<0:=by omega
 rw [hX]at qa qg qn
 go_wp2_with (go_at_call 26;fail)
 rw [←hX]
 clear hX qa qg qn
 refine(callsIn_wide.1 (bkOut Fence.wide 3 trivial rfl (n:Int) X)).mono ?_
 rintro e w3 ⟨rfl,hw3⟩
 have bY:Below X.heap.size X w3:=by rw [hw3];exact(Below.refl _ _).alloc (Nat.le_refl _) _
 have zY:w3.heap.size=X.heap.size+1:=by rw [hw3];simp
 have RN:Row w3 X.heap.size [.int .i64 (n:Int)]:=by rw [hw3];exact Row.new X [.int .i64 (n:Int)] 3
 clear hw3
 have R03:=(R01.below b1X (by omega)).below bY (by omega)
 have R23:=(R21.below b1X (by omega)).below bY (by omega)
 have RA3:=RA.below bY (by omega)
 have RB3:=RB.below bY (by omega)
 have b03:Below w.heap.size w w3:=below_to (below_to bw1 b1X) bY
 obtain⟨D,hD⟩: ∃ D,D=w1.heap.size:=⟨_,rfl⟩
 obtain⟨E,hE⟩: ∃ E,E=X.heap.size:=⟨_,rfl⟩
 rw [←hD]at RA3 RB3 zX z1
 rw [←hE]at RN zY zX
 rw [←hD,←hE]
 have y1:w.heap.size+3≤D:=by omega
 have y2:D+2≤E:=by omega
 have y3:E+1≤w3.heap.size:=by omega
 clear R0 R2 R01 R21 RA RB row1 b1X bY bw1 b1 bW hD hE zX zY z1 zW
 go_wp2
 refine(wpIn_wide (n:=4)).1 ?_
 refine wpIn_rangeFunc_ownG (α:=Fin (outP n).length) rfl (by decide) (gf:=42) (lb:= #[.pointer (some ⟨E,0,none⟩)]) rfl trivial (enters_of Try.func42 (by kernel_rfl) rfl)
  (bkStops Fence.wide rfl 3 trivial trivial rfl E w3.heap.size n h.2.2.2 w3 (by omega) (RN.cell 0 _ rfl)) belowK_t (belowK_b (Nat.le_refl _)) (Below.refl _ _) (fun _=>rfl)
  (fun pre V=>Hid (∀ x∈pre,hitC L n a b ((outP n)[x.1]'x.2)=none)∧Below w3.heap.size w3 V)
  (fun c pre V=>(c= .ret∧ ∃ ini last v,Hid (pre=ini++ [last])∧Hid (∀ x∈ini,hitC L n a b ((outP n)[x.1]'x.2)=none)∧Hid (hitC L n a b ((outP n)[last.1]'last.2)=some v)∧V.cell? ⟨w.heap.size+1+1,0,none⟩=some (.int .i64 v))∧Below w.heap.size w V)
  (OwnFrom.and (ownFrom_pure _ _) (ownFrom_below (Nat.le_refl _) (Nat.le_refl _)))
  (fun c=>OwnFrom.and (Own.from (fun s A B row hs hg hr=>by obtain⟨hc,ini,last,v,e1,e2,e3,e4⟩:=hs;exact⟨hc,ini,last,v,e1,e2,e3,cell_kept e4 hg hr⟩) _) (ownFrom_below (Nat.le_refl _) (by omega)))
  ⟨by unfold Hid;simp,Below.refl _ _⟩
  (fun x=>{ tmps:= #[.pointer (some ⟨g,0,none⟩), .agg #[.int .i64 x0, .int .i64 y], .pointer (some ⟨w.heap.size,0,none⟩), .pointer (some ⟨w.heap.size+1,0,none⟩), .pointer (some ⟨w.heap.size+1+1,0,none⟩), .pointer (some ⟨D,0,none⟩), .pointer (some ⟨D+1,0,none⟩), .int .i64 ((outP n)[x.1]'x.2).1, .int .i64 ((outP n)[x.1]'x.2).2,undef,
   .tuple #[.int .i64 (a:Int), .int .i64 (b:Int)], .pointer (some ⟨g,0,none⟩), .agg #[.int .i64 x0, .int .i64 y], .tuple #[.int .i64 (a:Int), .int .i64 (b:Int)], .int .i64 (a:Int), .int .i64 (b:Int), .int .i64 (a:Int), .bool (decide ((a:Int)<0)), .pointer (some ⟨g,0,none⟩), .pointer (some ⟨g,0,none⟩), .pointer (some ⟨g,1,none⟩), .int .i64 (n:Int),
   .func (.func 42) #[] #[.pointer (some ⟨E,0,none⟩)], .int .i64 ((outP n)[x.1]'x.2).1, .int .i64 ((outP n)[x.1]'x.2).2,undef,undef,undef,undef,undef,undef,undef,undef,undef,undef,undef,undef,undef,undef,undef,undef],defers:= [] }) ?assign ?body ?done ?stop
 case assign=>
  intro l x V K hK
  gi_wp2
  exact hK
 case body=>
  rintro l pre x V ⟨hp,hB3⟩ _
  have hB:Below w.heap.size w V:=below_to b03 hB3
  have zV:=hB3.size
  obtain⟨o1,o2,ho⟩: ∃ o1 o2,(outP n)[x.1]'x.2=(o1,o2):=⟨_,_,rfl⟩
  have hin:=out_in (List.getElem_mem x.2)
  rw [ho]at hin
  dsimp only at hin
  obtain⟨a2,ea2,la2⟩:=mod_in (c:=(a:Int)+o1) h.2.2.1
  obtain⟨b2,eb2,lb2⟩:=mod_in (c:=(b:Int)+o2) h.2.2.1
  have n4:=h.2.2.2
  have hk:=idx_in la2 lb2
  have ek:Hid (hitC L n a b ((outP n)[x.1]'x.2)=(L (a2*n+b2)).head?):=by
   unfold Hid hitC ixC
   rw [ho,←ea2,←eb2,Int.toNat_natCast,Int.toNat_natCast]
  have CA:Hid (Calls Try.prog 27 #[.pointer (some ⟨g,0,none⟩), .int .i64 ((a:Int)+o1), .int .i64 ((b:Int)+o2)] V fun e w'=>e= .returned (.pointer (some ⟨vv,a2*n+b2,none⟩))∧Below V.heap.size V w'):=bkAt g vv n s m _ _ V (hO.row.below hB hgl) h ⟨by omega,by omega⟩ ⟨by omega,by omega⟩ a2 b2 ea2 eb2
  generalize a2*n+b2=k at hk ek CA
  have wa:wrap64 ((a:Int)+o1)=(a:Int)+o1:=wrap_in (by omega) (by omega)
  have wb:wrap64 ((b:Int)+o2)=(b:Int)+o2:=wrap_in (by omega) (by omega)
  have hvV:vv<V.heap.size:=by have:=hO.vl;have:=hB.size;omega
  have hver:=(hB.cell (p:=⟨vv,k,none⟩) hO.vl).trans (hO.ver k hk).1
  have c1:=(R03.below hB3 (by omega)).cell 0 _ rfl
  have c2:=(RA3.below hB3 (by omega)).cell 0 _ rfl
  have c3:=(RB3.below hB3 (by omega)).cell 0 _ rfl
  have RR:=R23.below hB3 (by omega)
  have gk: ∀ V1,Below V.heap.size V V1→KeepsFrom w3.heap.size V V1:=fun V1 b1=>KeepsFrom.of_grownBy (row:=none) ⟨b1.os,b1.tape,b1.output,b1.size,fun k hk _=>b1.block k hk⟩ (fun j e=>by cases e)
  have GK:Hid _:=gk
  have HOO:Hid _:=ho
  simp only [ho]
  have HK:Hid _:=hk
  clear ho gk ea2 eb2 hin hk la2 lb2
  rcases hL:L k with _|⟨v,t⟩
  ·rw [hL]at hver ek
   clear hL
   gi_wp2_with (refine⟨trivial,?_⟩;gi_at_call 27;refine CallsIn.mono (CallsIn.inRound l (callsIn_wide.2 CA.out)) ?_;rintro e V1 ⟨rfl,b1⟩;have d1:=(b1.cell (p:=⟨vv,k,none⟩) hvV).trans hver)
   refine⟨GK.out _ b1,b1.mono zV,?_,hB3.trans (b1.mono zV)⟩
   intro y hy
   rcases List.mem_append.1 hy with hy|hy
   ·exact hp.out y hy
   ·simp at hy;subst hy;exact ek.out
  ·have hown:=hO.own k HK.out
   rw [hL]at hver ek hown
   clear hL
   obtain⟨bb,eb,hbl,_,hsg⟩:=hown.at (by simp)
   rw [eb]at hver
   have hroom:=OwnS.room hown
   have h0:=(hB.cell (p:=⟨bb,0,none⟩) hbl).trans (hsg.cell 0 (.int .i64 v) rfl)
   have hbV:bb<V.heap.size:=by have:=hB.size;omega
   gi_wp2_with (refine⟨trivial,?_⟩;gi_at_call 27;refine CallsIn.mono (CallsIn.inRound l (callsIn_wide.2 CA.out)) ?_;rintro e V1 ⟨rfl,b1⟩;have d1:=(b1.cell (p:=⟨vv,k,none⟩) hvV).trans hver;have d2:=(b1.cell (p:=⟨bb,0,none⟩) hbV).trans h0;have d3:=(RR.below b1 (by omega)).cell 0 _ rfl;have d4:=(RR.below b1 (by omega)).free 0 (by simp))
   refine⟨(GK.out _ b1).trans ((KeepsOthers.setCell _ _ _).from _),⟨rfl,pre,x,v,rfl,hp,ek,World.cell?_setCell_same _ _ _ d3⟩,(hB.trans (b1.mono hB.size)).setCell (by simp;omega) _⟩
 case done=>
  rintro D' ys V hD' rfl ⟨hp,hB3⟩ hK
  have c4:=(R23.below hB3 (by omega)).cell 0 _ rfl
  have f4:=(R23.below hB3 (by omega)).free 0 (by simp)
  have er:Hid (r= -1):=by
   unfold Hid
   rw [HRR.out]
   unfold nearV
   rw [find_none (fun i hi=>hp.out ⟨i,hi⟩ ((upF_mem (Nat.le_refl _) ⟨i,hi⟩).2 hi))]
   rfl
  have bF:Below w.heap.size w (V.setCell ⟨w.heap.size+1+1,0,none⟩ (.int .i64 (-1))):=(below_to b03 hB3).setCell (by simp;omega) _
  clear hp
  go_wp2
  have hK':=(KeepsOthers.setCell V ⟨w.heap.size+1+1,0,none⟩ (.int .i64 (-1))).same D' _ hK rfl
  refine⟨by simp, .inl ⟨_,_,rfl,run_takeDeferred hK',?_⟩⟩
  have hc5:=cell_kept (World.cell?_setCell_same V ⟨w.heap.size+1+1,0,none⟩ (.int .i64 (-1)) c4) (grownBy_putObj' _ D' (.deferred none)) (fun r e=>by cases e;exact⟨_,hK',rfl⟩)
  refine⟨.int .i64 (-1),?_,by rw [er.out],bF.trans (belowK_b (w:=w) (Nat.le_refl _) _ D' _ _ (by omega) hK' rfl rfl)⟩
  simp [results,Try.results17,go_sem,hc5]
 case stop=>
  rintro D' c pre V hD' ⟨q,hq,rfl⟩ ⟨⟨rfl,ini,last,v,e1,e2,e3,hcr⟩,hB⟩ hK
  have er:Hid (r=v):=by
   unfold Hid
   have e1:=e1.out
   rw [upF_next hq]at e1
   obtain⟨rfl,e5⟩:=List.append_inj' e1 rfl
   obtain rfl:(⟨q,hq⟩:Fin (outP n).length)=last:=by simpa using e5
   rw [HRR.out]
   unfold nearV
   rw [find_some hq (fun i hi=>e2.out ⟨i,by omega⟩ ((upF_mem (by omega) ⟨i,by omega⟩).2 hi)) e3.out]
   rfl
  clear e1 e2 e3
  refine wpIn_wide.2 ?_
  go_wp2
  refine⟨by simp, .inl ⟨_,_,rfl,run_takeDeferred hK,?_⟩⟩
  have hc5:=cell_kept hcr (grownBy_putObj' _ D' (.deferred none)) (fun r e=>by cases e;exact⟨_,hK,rfl⟩)
  refine⟨.int .i64 v,?_,by rw [er.out],hB.trans (belowK_b (w:=w) (Nat.le_refl _) V D' _ _ (by omega) hK rfl rfl)⟩
  simp [results,Try.results17,go_sem,hc5]
end Go.Proofs.Ytliajdokamlnnaa
namespace Go.Proofs.Ytliajdokamlnnaa
open Go.RowKit
set_option linter.unusedVariables false
structure HD(w:World)(a:Option Addr)(l c u:Nat):Prop where
 sl:Sl w a l c (hf.dcells l (u:Int))
 len:l=hf.nlen u
structure RN(w:World)(s:Int)(d:Option Addr)(l c:Nat)(z:Int):Prop where
 hd:HD w d l c z.natAbs
 sg:s=z.sign
abbrev Hl:=Int×Int×Int
def hC(h:Hl):List Value:= [.int .i64 h.1, .int .i64 h.2.1, .int .i64 h.2.2]
end Go.Proofs.Ytliajdokamlnnaa
namespace Go.Proofs.Ytliajdokamlnnaa
open Go.RowKit Go.Shelf
set_option linter.unusedVariables false
theorem near_yes{L:Nat→List Int}{x y s:Int}{n a b:Nat}(h:cellC x y s n=((a:Int),(b:Int)))(hh:homeC x y s=true):nearR L x y s n=nearV L n a b:=by
 unfold cellC at h
 rw [hh]at h
 simp only [if_true,Prod.mk.injEq]at h
 unfold nearR
 rw [hh,h.1,h.2]
 rfl
theorem bkNear(base g n:Nat)(s m x y:Int)(L:Nat→List Int)(F:Nat→Prop)(w:World)(H:GrP base g s n L m F w)(h:GrOk s n){r:Int}(hr:r=nearR L x y s n):
  Calls Try.prog 17 #[.pointer (some ⟨g,0,none⟩), .agg #[.int .i64 x, .int .i64 y]] w fun e w'=>e= .returned (.int .i64 r)∧Below w.heap.size w w':=by
 rcases cell_dec x y s n h with⟨hc,hh⟩|⟨a,b,hc,ha,hb,hh⟩
 ·have e:r= -1:=by rw [hr];unfold nearR;rw [hh];rfl
  subst e
  exact bkNear_no base g n s m x y L F w H h hh
 ·exact bkNear_yes base g n s m x y L F w H h a b hc.symm ha hb (by rw [hr,near_yes hc hh])
set_option maxRecDepth 100000 in
set_option maxHeartbeats 2000000 in
theorem bkNear0(x y:Int)(w:World):
  Calls Try.prog 17 #[.pointer none, .agg #[.int .i64 x, .int .i64 y]] w fun e w'=>e= .returned (.int .i64 (-1))∧Below w.heap.size w w':=by
 refine callsIn_wide.1 (callsIn_of_wp_marks (F:=Fence.wide) (n:=4) Try.func17 rfl trivial ?_ rfl)
 simp only [Try.ntmps17,List.size_toArray,List.length_cons,List.length_nil,Nat.reduceAdd,Nat.reduceSub,Array.replicate_succ,Array.replicate_zero,List.push_toArray,List.append_toArray,List.nil_append,List.cons_append]
 refine wpIn_wide.2 ?_
 obtain⟨W,hW⟩: ∃ W,W=((w.alloc (.cells #[.pointer none] 26)).alloc (.cells #[.int .i64 x, .int .i64 y] 23)).alloc (.cells #[.int .i64 0] 3):=⟨_,rfl⟩
 have bW:Below w.heap.size w W:=by rw [hW];exact(((Below.refl _ _).alloc (Nat.le_refl _) _).alloc (by simp) _).alloc (by simp;omega) _
 have zW:W.heap.size=w.heap.size+3:=by rw [hW];simp
 have R2:Row W (w.heap.size+1+1) [.int .i64 0]:=by
  have:=Row.new ((w.alloc (.cells #[.pointer none] 26)).alloc (.cells #[.int .i64 x, .int .i64 y] 23)) [.int .i64 0] 3
  rw [World.size_alloc,World.size_alloc]at this
  rw [hW];exact this
 go_wp2_with (go_at_call 9;fail)
 rw [←hW]
 clear hW
 refine(bkCell0 _ x y W rfl).mono ?_
 rintro e w1 ⟨rfl,b1⟩
 have z1:=b1.size
 have hX:=(((Below.refl w1.heap.size w1).alloc (Nat.le_refl _) (.cells #[.int .i64 (-1)] 3)).alloc (by simp) (.cells #[.int .i64 (-1)] 3))
 have R3:=(R2.below b1 (by omega)).below hX (by omega)
 have q0:=R3.cell 0 _ rfl
 have f0:=R3.free 0 (by simp)
 have bF:Below w.heap.size w (((w1.alloc (.cells #[.int .i64 (-1)] 3)).alloc (.cells #[.int .i64 (-1)] 3)).setCell ⟨w.heap.size+1+1,0,none⟩ (.int .i64 (-1))):=(below_to (below_to bW b1) hX).setCell (by simp;omega) _
 have c0:=World.cell?_setCell_same _ _ (.int .i64 (-1)) q0
 go_wp2
 exact⟨.int .i64 (-1),by simp [results,Try.results17,go_sem,c0],rfl,bF⟩
theorem LeftB.below{base g n:Nat}{s m:Int}{L:Nat→List Int}{F:Nat→Prop}{w0 w w':World}(h:LeftB (GrP base g s n L m) F w w')(h0:Below w0.heap.size w0 w)(hF: ∀ k,F k→w0.heap.size≤k): ∃ F',GrP base g s n L m F' w'∧(∀ k,F' k→w0.heap.size≤k)∧Below w0.heap.size w0 w':=by
 obtain⟨hk,F',hP,hF'⟩:=h
 have hz:=h0.size
 exact⟨F',hP,fun k hk'=>(hF' k hk').elim (hF k) (fun e=>by omega),h0.trans (hk.below hz hF)⟩
theorem ok105:GrOk 10 5:=⟨by omega,by omega,by omega,by omega⟩
def LvL:Nat→List Int:=putL (fun _=> []) (lstC 1 1 10 5) 7
theorem lv_cell:((4:Int),(4:Int))=cellC 9 (-1) 10 5:=by decide+kernel
theorem lv_near:(7:Int)=nearR LvL 9 9 10 5:=by decide+kernel
theorem lv_many:putM 0 (lstC 1 1 10 5)=1:=by decide+kernel
set_option maxRecDepth 100000 in
set_option maxHeartbeats 2000000 in
theorem bkLives(w:World):Calls Try.prog 11 #[] w fun e w'=>e= .returned (.bool true)∧Below w.heap.size w w':=by
 go_enter Try.func11,Try.ntmps11
 go_wp2_with (go_at_call 8;fail)
 refine(bkNew w.heap.size 10 5 5 w ok105 rfl (Nat.le_refl _)).mono ?_
 rintro e w1 ⟨g,F,rfl,H1,hF1,b1⟩
 have C1:Hid (Calls Try.prog 9 #[.pointer (some ⟨g,0,none⟩), .agg #[.int .i64 9, .int .i64 (-1)]] w1 fun e w'=>e= .returned (.tuple #[.int .i64 4, .int .i64 4])∧Below w1.heap.size w1 w'):=by
  obtain⟨⟨vv,A,hO,_⟩,_⟩:=H1
  exact bkCell g vv 5 10 0 9 (-1) w1 hO.row ok105 lv_cell
 go_wp2_with (go_at_call 9;fail)
 refine Calls.mono C1.out ?_
 rintro e w2 ⟨rfl,b2⟩
 have H2:=H1.below b2
 have b02:=below_to b1 b2
 clear C1
 have C2:Hid (Calls Try.prog 14 #[.pointer (some ⟨g,0,none⟩), .int .i64 7, .agg #[.int .i64 1, .int .i64 1]] w2 fun e w'=>e= .returned (.tuple #[])∧LeftB (GrP w.heap.size g 10 5 LvL 1) F w2 w'):=by
  have:=bkPut w.heap.size g 5 10 0 7 1 1 _ F w2 H2 ok105 (fun _=>by simp) (fun _=>List.Pairwise.nil) ⟨by omega,by omega⟩
  rw [lv_many]at this
  exact this
 go_wp2_with (go_at_call 14;fail)
 refine Calls.mono C2.out ?_
 rintro e w3 ⟨rfl,lf⟩
 clear C2
 obtain⟨F3,H3,hF3,b3⟩:=lf.below b02 hF1
 have C3:Hid (Calls Try.prog 17 #[.pointer (some ⟨g,0,none⟩), .agg #[.int .i64 9, .int .i64 9]] w3 fun e w'=>e= .returned (.int .i64 7)∧Below w3.heap.size w3 w'):=bkNear w.heap.size g 5 10 1 9 9 LvL F3 w3 H3 ok105 lv_near
 go_wp2_with (go_at_call 17;fail)
 refine Calls.mono C3.out ?_
 rintro e w4 ⟨rfl,b4⟩
 clear C3
 have H4:=H3.below b4
 have b04:=below_to b3 b4
 have C4:Hid (Calls Try.prog 16 #[.pointer (some ⟨g,0,none⟩)] w4 fun e w'=>e= .returned (.int .i64 1)∧Below w4.heap.size w4 w'):=by
  obtain⟨⟨vv,A,hO,_⟩,_⟩:=H4
  exact bkLen g vv 5 10 1 w4 hO.row
 go_wp2_with (go_at_call 16;fail)
 refine Calls.mono C4.out ?_
 rintro e w5 ⟨rfl,b5⟩
 clear C4
 go_wp2
 go_ret
 exact⟨rfl,below_to b04 b5⟩
end Go.Proofs.Ytliajdokamlnnaa
