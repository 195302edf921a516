/-
  Joined texts, part 6:
  bucket's lists and the reference's one list: how they hang together. Mathematics alone.
  bucket's Near whole; the laws' own lives and good; the walks of BucketCells and BucketNews
  Arguments of layer 15's laws, opened: an array of two points; a slice of acts.
-/
import Derived.Test.YtliajdokamlnnaaP5
import Derived.Test.YtliajdokamlnnaaP3
import Derived.Test.YtliajdokamlnnaaP1
import Derived.Test.YtliajdokamlnnaaP2
import Derived.Test.YtliajdokamlnnaaChecked
import Derived.Deep.Slices
import Derived.Laws.IdiomArrays
import Derived.ProofKit
import Derived.OpenShut
import Derived.ChangeSlices
import Derived.Lib.SmallJoins
namespace Go.Proofs.Ytliajdokamlnnaa
open Go.RowKit
set_option linter.unusedVariables false
theorem plc_cons{x v:Int}{xs:List Int}(h:(x::xs).Pairwise (· ≤ ·)):plc (x::xs) v=if x<v then plc xs v+1 else 0:=by
 unfold plc
 rw [List.countP_cons]
 by_cases e:x<v
 ·simp [e]
 ·rw [if_neg e]
  simp only [e,decide_false,Bool.false_eq_true,if_false,Nat.add_zero]
  refine List.countP_eq_zero.2 fun y hy=>?_
  have:=(List.pairwise_cons.1 h).1 y hy
  simp
  omega
theorem ins_cons{x v:Int}{xs:List Int}(h:(x::xs).Pairwise (· ≤ ·)):insL (x::xs) v=if x<v then x::insL xs v else v::x::xs:=by
 unfold insL
 rw [plc_cons h]
 by_cases e:x<v
 ·rw [if_pos e,if_pos e];simp
 ·rw [if_neg e,if_neg e];rfl
theorem del_cons{x v:Int}{xs:List Int}(h:(x::xs).Pairwise (· ≤ ·)):delL (x::xs) v=if x<v then x::delL xs v else xs:=by
 unfold delL
 rw [plc_cons h]
 by_cases e:x<v
 ·rw [if_pos e,if_pos e];simp
 ·rw [if_neg e,if_neg e];rfl
theorem ins_mem{v u:Int}{xs:List Int}(h:xs.Pairwise (· ≤ ·)):u∈insL xs v→u=v∨u∈xs:=by
 induction xs with
 |nil=>intro e;simp [insL]at e;exact Or.inl e
 |cons x xs ih=>
  rw [ins_cons h]
  split
  ·intro e
   rcases List.mem_cons.1 e with rfl|e
   ·exact Or.inr (List.mem_cons_self ..)
   ·exact(ih (List.pairwise_cons.1 h).2 e).imp id (List.mem_cons_of_mem _)
  ·intro e
   exact(List.mem_cons.1 e)
theorem ins_sorted{v:Int}{xs:List Int}(h:xs.Pairwise (· ≤ ·)):(insL xs v).Pairwise (· ≤ ·):=by
 induction xs with
 |nil=>simp [insL]
 |cons x xs ih=>
  have h2:=List.pairwise_cons.1 h
  rw [ins_cons h]
  by_cases e:x<v
  ·rw [if_pos e]
   refine List.pairwise_cons.2 ⟨fun u hu=>?_,ih h2.2⟩
   rcases ins_mem h2.2 hu with rfl|hu
   ·omega
   ·exact h2.1 u hu
  ·rw [if_neg e]
   refine List.pairwise_cons.2 ⟨fun u hu=>?_,h⟩
   rcases List.mem_cons.1 hu with rfl|hu
   ·omega
   ·have:=h2.1 u hu;omega
theorem ins_count{v:Int}{xs:List Int}(h:xs.Pairwise (· ≤ ·))(u:Int):(insL xs v).count u=xs.count u+if v=u then 1 else 0:=by
 induction xs with
 |nil=>simp [insL,plc,List.count_cons]
 |cons x xs ih=>
  have h2:=List.pairwise_cons.1 h
  rw [ins_cons h]
  by_cases e:x<v
  ·rw [if_pos e,List.count_cons,List.count_cons,ih h2.2];omega
  ·rw [if_neg e,List.count_cons];simp
theorem del_erase{v:Int}{xs:List Int}(h:xs.Pairwise (· ≤ ·))(hv:v∈xs):delL xs v=xs.erase v:=by
 induction xs with
 |nil=>cases hv
 |cons x xs ih=>
  have h2:=List.pairwise_cons.1 h
  rw [del_cons h]
  by_cases e:x<v
  ·rw [if_pos e,List.erase_cons_tail (by simp;omega)]
   rcases List.mem_cons.1 hv with rfl|hv
   ·omega
   ·rw [ih h2.2 hv]
  ·rw [if_neg e]
   have:x=v:=by
    rcases List.mem_cons.1 hv with rfl|hv
    ·rfl
    ·have:=h2.1 v hv;omega
   subst this
   rw [List.erase_cons_head]
theorem idx_inj{n a b c d:Nat}(hb:b<n)(hd:d<n)(h:a*n+b=c*n+d):a=c∧b=d:=by
 have e1:(a*n+b)/n=a:=by rw [Nat.mul_comm,Nat.mul_add_div (by omega),Nat.div_eq_of_lt hb];rfl
 have e2:(c*n+d)/n=c:=by rw [Nat.mul_comm,Nat.mul_add_div (by omega),Nat.div_eq_of_lt hd];rfl
 have:a=c:=by rw [←e1,←e2,h]
 subst this
 exact⟨rfl,by omega⟩
structure Corr(n B:Nat)(L:Nat→List Int)(M:List Hl):Prop where
 srt: ∀ k,(L k).Pairwise (· ≤ ·)
 cnt: ∀ a b,a<n→b<n→ ∀ v,(L (a*n+b)).count v=M.count (v,(a:Int),(b:Int))
 len: ∀ k,(L k).length≤B
 lm:M.length≤B
 pos: ∀ h∈M,(0:Int)≤h.2.1
theorem Corr.new(n:Nat):Corr n 0 (fun _=> []) []:=⟨fun _=>List.Pairwise.nil,fun _ _ _ _ _=>rfl,fun _=>Nat.le_refl _,Nat.le_refl _,fun _ h=>by cases h⟩
theorem Corr.more{n B:Nat}{L:Nat→List Int}{M:List Hl}(h:Corr n B L M):Corr n (B+1) L M:=⟨h.srt,h.cnt,fun k=>Nat.le_succ_of_le (h.len k),Nat.le_succ_of_le h.lm,h.pos⟩
theorem Corr.put{n B:Nat}{L:Nat→List Int}{M:List Hl}(h:Corr n B L M){a b:Nat}(ha:a<n)(hb:b<n)(v:Int):Corr n (B+1) (upd L (a*n+b) (insL (L (a*n+b)) v)) (M++ [(v,(a:Int),(b:Int))]):=by
 refine⟨fun k=>?_,fun c d hc hd u=>?_,fun k=>?_,?_,fun q hq=>?_⟩
 ·by_cases e:k=a*n+b
  ·subst e;rw [upd_same];exact ins_sorted (h.srt _)
  ·rw [upd_other e];exact h.srt k
 ·rw [List.count_append,←h.cnt c d hc hd u,List.count_singleton]
  by_cases e:c*n+d=a*n+b
  ·obtain⟨rfl,rfl⟩:=idx_inj hd hb e
   rw [upd_same,ins_count (h.srt _)]
   by_cases e2:v=u
   ·subst e2;simp
   ·rw [if_neg e2,if_neg (by simp [e2])]
  ·rw [upd_other e,if_neg (by
    intro e2
    simp only [beq_iff_eq,Prod.mk.injEq]at e2
    exact e (by rw [show c=a by omega,show d=b by omega]))]
   rfl
 ·by_cases e:k=a*n+b
  ·subst e;rw [upd_same,insL_length];have:=h.len (a*n+b);omega
  ·rw [upd_other e];have:=h.len k;omega
 ·rw [List.length_append];have:=h.lm;simp;omega
 ·rcases List.mem_append.1 hq with hq|hq
  ·exact h.pos q hq
  ·simp at hq;subst hq;dsimp only;omega
theorem Corr.has{n B:Nat}{L:Nat→List Int}{M:List Hl}(h:Corr n B L M){a b:Nat}(ha:a<n)(hb:b<n)(v:Int):v∈L (a*n+b)↔(v,(a:Int),(b:Int))∈M:=by
 rw [←List.count_pos_iff,←List.count_pos_iff,h.cnt a b ha hb v]
theorem Corr.drop{n B:Nat}{L:Nat→List Int}{M:List Hl}(h:Corr n B L M){a b:Nat}(ha:a<n)(hb:b<n)(v:Int)(hv:v∈L (a*n+b)):Corr n (B+1) (upd L (a*n+b) (delL (L (a*n+b)) v)) (M.erase (v,(a:Int),(b:Int))):=by
 have hm:=(h.has ha hb v).1 hv
 refine⟨fun k=>?_,fun c d hc hd u=>?_,fun k=>?_,?_,fun q hq=>?_⟩
 ·by_cases e:k=a*n+b
  ·subst e;rw [upd_same,del_erase (h.srt _) hv];exact(h.srt _).sublist (List.erase_sublist ..)
  ·rw [upd_other e];exact h.srt k
 ·rw [List.count_erase,←h.cnt c d hc hd u]
  by_cases e:c*n+d=a*n+b
  ·obtain⟨rfl,rfl⟩:=idx_inj hd hb e
   rw [upd_same,del_erase (h.srt _) hv,List.count_erase]
   by_cases e2:v=u
   ·subst e2;simp
   ·simp [e2]
  ·rw [upd_other e,if_neg (by
    intro e2
    simp only [beq_iff_eq,Prod.mk.injEq]at e2
    exact e (by rw [show c=a by omega,show d=b by omega]))]
   rfl
 ·by_cases e:k=a*n+b
  ·subst e;rw [upd_same,del_erase (h.srt _) hv,List.length_erase_of_mem hv];have:=h.len (a*n+b);omega
  ·rw [upd_other e];have:=h.len k;omega
 ·rw [List.length_erase_of_mem hm];have:=h.lm;omega
 ·exact h.pos q (List.mem_of_mem_erase hq)
theorem least_take(M:List Hl)(x y:Int): ∀ k,k≤M.length→((leastF (M.take k) x y).2=false→ ∀ v,(v,x,y) ∉ M.take k)∧((leastF (M.take k) x y).2=true→((leastF (M.take k) x y).1,x,y)∈M.take k∧ ∀ v,(v,x,y)∈M.take k→(leastF (M.take k) x y).1≤v)
 |0,_=>⟨fun _ v=>by simp,fun h=>by simp [leastF]at h⟩
 |k+1,hk=>by
  obtain⟨ih1,ih2⟩:=least_take M x y k (by omega)
  obtain⟨h,hh⟩: ∃ h,M[k]? =some h:=⟨M[k],List.getElem?_eq_getElem (by omega)⟩
  rw [least_next hh,List.take_add_one,hh,Option.toList_some]
  generalize leastF (M.take k) x y=F at ih1 ih2 ⊢
  obtain⟨F1,F2⟩:=F
  obtain⟨h1,h2,h3⟩:=h
  try dsimp only at ih1 ih2 ⊢
  unfold lsStep
  try dsimp only
  by_cases c:h2=x∧h3=y∧(F2=false∨h1<F1)
  ·rw [if_pos c]
   obtain⟨rfl,rfl,c⟩:=c
   refine⟨fun e=>by simp at e,fun _=>⟨by simp,fun v hv=>?_⟩⟩
   rcases List.mem_append.1 hv with hv|hv
   ·cases F2 with
    |false=>exact absurd hv (ih1 rfl v)
    |true=>
     have:=(ih2 rfl).2 v hv
     rcases c with c|c
     ·cases c
     ·dsimp only;omega
   ·simp at hv;dsimp only;omega
  ·rw [if_neg c]
   try dsimp only
   refine⟨fun e v hv=>?_,fun e=>⟨List.mem_append_left _ (ih2 e).1,fun v hv=>?_⟩⟩
   ·rcases List.mem_append.1 hv with hv|hv
    ·exact ih1 e v hv
    ·simp at hv;exact c ⟨hv.2.1.symm,hv.2.2.symm,Or.inl e⟩
   ·rcases List.mem_append.1 hv with hv|hv
    ·exact(ih2 e).2 v hv
    ·simp at hv
     obtain⟨rfl,rfl,rfl⟩:=hv
     refine Int.le_of_not_gt fun hlt=>c ⟨rfl,rfl,Or.inr hlt⟩
theorem Corr.least{n B:Nat}{L:Nat→List Int}{M:List Hl}(h:Corr n B L M){a b:Nat}(ha:a<n)(hb:b<n):(L (a*n+b)).head? =if(leastF M a b).2 then some (leastF M a b).1 else Option.none:=by
 obtain⟨s1,s2⟩:=least_take M a b M.length (Nat.le_refl _)
 rw [List.take_length]at s1 s2
 cases hL:L (a*n+b)with
 |nil=>
  cases hf:(leastF M a b).2
  ·rfl
  ·have:=(h.has ha hb _).2 (s2 hf).1
   rw [hL]at this
   cases this
 |cons v t=>
  have hv:v∈L (a*n+b):=by rw [hL];exact List.mem_cons_self ..
  have hm:=(h.has ha hb v).1 hv
  cases hf:(leastF M a b).2
  ·exact absurd hm (s1 hf v)
  ·have h1:=(s2 hf).2 v hm
   have h2:=(h.has ha hb _).2 (s2 hf).1
   rw [hL]at h2
   have h3:v≤(leastF M a b).1:=by
    rcases List.mem_cons.1 h2 with e|e
    ·omega
    ·have:=h.srt (a*n+b)
     rw [hL]at this
     exact(List.pairwise_cons.1 this).1 _ e
   simp only [List.head?_cons,if_true,Option.some.injEq]
   omega
theorem Corr.near{n B:Nat}{L:Nat→List Int}{M:List Hl}(h:Corr n B L M)(hn:1≤n)(x y:Int):nearV L n x y=nearM M n x y:=by
 unfold nearV nearM
 congr 2
 funext o
 unfold hitC hitR ixC
 obtain⟨a,ea,la⟩:=mod_in (c:=x+o.1) hn
 obtain⟨b,eb,lb⟩:=mod_in (c:=y+o.2) hn
 rw [←ea,←eb,Int.toNat_natCast,Int.toNat_natCast]
 exact h.least la lb
theorem lst_yes{x y s:Int}{n a b:Nat}(hc:cellC x y s n=((a:Int),(b:Int)))(hh:homeC x y s=true):lstC x y s n=some (a*n+b):=by
 unfold cellC at hc
 rw [hh]at hc
 simp only [if_true,Prod.mk.injEq]at hc
 unfold lstC
 rw [hh,hc.1,hc.2]
 rfl
theorem lst_no{x y s:Int}{n:Nat}(hh:homeC x y s=false):lstC x y s n=none:=by unfold lstC;rw [hh];rfl
theorem Corr.putAll{n B:Nat}{L:Nat→List Int}{M:List Hl}(h:Corr n B L M){s:Int}(ok:GrOk s n)(x y v:Int){a b:Int}(hab:(a,b)=cellC x y s n):Corr n (B+1) (putL L (lstC x y s n) v) (hput M (v,a,b))∧putM M.length (lstC x y s n)=((hput M (v,a,b)).length:Int):=by
 rcases cell_dec x y s n ok with⟨hc,hh⟩|⟨i,j,hc,hi,hj,hh⟩
 ·rw [hc]at hab
  obtain⟨rfl,rfl⟩:a= -1∧b= -1:=by simpa using hab
  rw [lst_no hh]
  exact⟨h.more,rfl⟩
 ·rw [hc]at hab
  obtain⟨rfl,rfl⟩:a=(i:Int)∧b=(j:Int):=by simpa using hab
  rw [lst_yes hc hh]
  have e:hput M (v,(i:Int),(j:Int))=M++ [(v,(i:Int),(j:Int))]:=by unfold hput;rw [if_neg (by dsimp only;omega)]
  rw [e]
  refine⟨h.put hi hj v,?_⟩
  simp [putM]
theorem Corr.dropAll{n B:Nat}{L:Nat→List Int}{M:List Hl}(h:Corr n B L M){s:Int}(ok:GrOk s n)(x y v:Int){a b:Int}(hab:(a,b)=cellC x y s n):Corr n (B+1) (dropL L (lstC x y s n) v) (M.erase (v,a,b))∧dropM L M.length (lstC x y s n) v=((M.erase (v,a,b)).length:Int):=by
 rcases cell_dec x y s n ok with⟨hc,hh⟩|⟨i,j,hc,hi,hj,hh⟩
 ·rw [hc]at hab
  obtain⟨rfl,rfl⟩:a= -1∧b= -1:=by simpa using hab
  rw [lst_no hh,List.erase_of_not_mem (fun hm=>by have:=h.pos _ hm;dsimp only at this;omega)]
  exact⟨h.more,rfl⟩
 ·rw [hc]at hab
  obtain⟨rfl,rfl⟩:a=(i:Int)∧b=(j:Int):=by simpa using hab
  rw [lst_yes hc hh]
  unfold dropL dropM
  dsimp only
  cases hv:(L (i*n+j)).contains v
  ·have hnm:v ∉ L (i*n+j):=by simpa using hv
   rw [List.erase_of_not_mem (fun hm=>hnm ((h.has hi hj v).2 hm))]
   exact⟨h.more,rfl⟩
  ·have hm:v∈L (i*n+j):=by simpa using hv
   have hM:=(h.has hi hj v).1 hm
   refine⟨h.drop hi hj v hm,?_⟩
   rw [List.length_erase_of_mem hM]
   have:=List.length_pos_of_mem hM
   simp only [if_true]
   omega
end Go.Proofs.Ytliajdokamlnnaa
namespace Go.Proofs.Ytliajdokamlnnaa
open Go.RowKit Go.Shelf
set_option linter.unusedVariables false
theorem near_yes{L:Nat→List Int}{x y s:Int}{n a b:Nat}(h:cellC x y s n=((a:Int),(b:Int)))(hh:homeC x y s=true):nearR L x y s n=nearV L n a b:=by
 unfold cellC at h
 rw [hh]at h
 simp only [if_true,Prod.mk.injEq]at h
 unfold nearR
 rw [hh,h.1,h.2]
 rfl
theorem bkNear(base g n:Nat)(s m x y:Int)(L:Nat→List Int)(F:Nat→Prop)(w:World)(H:GrP base g s n L m F w)(h:GrOk s n){r:Int}(hr:r=nearR L x y s n):
  Calls Try.prog 17 #[.pointer (some ⟨g,0,none⟩), .agg #[.int .i64 x, .int .i64 y]] w fun e w'=>e= .returned (.int .i64 r)∧Below w.heap.size w w':=by
 rcases cell_dec x y s n h with⟨hc,hh⟩|⟨a,b,hc,ha,hb,hh⟩
 ·have e:r= -1:=by rw [hr];unfold nearR;rw [hh];rfl
  subst e
  exact bkNear_no base g n s m x y L F w H h hh
 ·exact bkNear_yes base g n s m x y L F w H h a b hc.symm ha hb (by rw [hr,near_yes hc hh])
theorem LeftB.below{base g n:Nat}{s m:Int}{L:Nat→List Int}{F:Nat→Prop}{w0 w w':World}(h:LeftB (GrP base g s n L m) F w w')(h0:Below w0.heap.size w0 w)(hF: ∀ k,F k→w0.heap.size≤k): ∃ F',GrP base g s n L m F' w'∧(∀ k,F' k→w0.heap.size≤k)∧Below w0.heap.size w0 w':=by
 obtain⟨hk,F',hP,hF'⟩:=h
 have hz:=h0.size
 exact⟨F',hP,fun k hk'=>(hF' k hk').elim (hF k) (fun e=>by omega),h0.trans (hk.below hz hF)⟩
theorem ok105:GrOk 10 5:=⟨by omega,by omega,by omega,by omega⟩
def LvL:Nat→List Int:=putL (fun _=> []) (lstC 1 1 10 5) 7
theorem lv_cell:((4:Int),(4:Int))=cellC 9 (-1) 10 5:=by decide+kernel
theorem lv_near:(7:Int)=nearR LvL 9 9 10 5:=by decide+kernel
theorem lv_many:putM 0 (lstC 1 1 10 5)=1:=by decide+kernel
set_option maxRecDepth 100000 in
set_option maxHeartbeats 2000000 in
theorem bkLives(w:World):Calls Try.prog 11 #[] w fun e w'=>e= .returned (.bool true)∧Below w.heap.size w w':=by
 go_enter Try.func11,Try.ntmps11
 go_wp2_with (go_at_call 8;fail)
 refine(bkNew w.heap.size 10 5 5 w ok105 rfl (Nat.le_refl _)).mono ?_
 rintro e w1 ⟨g,F,rfl,H1,hF1,b1⟩
 have C1:Hid (Calls Try.prog 9 #[.pointer (some ⟨g,0,none⟩), .agg #[.int .i64 9, .int .i64 (-1)]] w1 fun e w'=>e= .returned (.tuple #[.int .i64 4, .int .i64 4])∧Below w1.heap.size w1 w'):=by
  obtain⟨⟨vv,A,hO,_⟩,_⟩:=H1
  exact bkCell g vv 5 10 0 9 (-1) w1 hO.row ok105 lv_cell
 go_wp2_with (go_at_call 9;fail)
 refine Calls.mono C1.out ?_
 rintro e w2 ⟨rfl,b2⟩
 have H2:=H1.below b2
 have b02:=below_to b1 b2
 clear C1
 have C2:Hid (Calls Try.prog 14 #[.pointer (some ⟨g,0,none⟩), .int .i64 7, .agg #[.int .i64 1, .int .i64 1]] w2 fun e w'=>e= .returned (.tuple #[])∧LeftB (GrP w.heap.size g 10 5 LvL 1) F w2 w'):=by
  have:=bkPut w.heap.size g 5 10 0 7 1 1 _ F w2 H2 ok105 (fun _=>by simp) (fun _=>List.Pairwise.nil) ⟨by omega,by omega⟩
  rw [lv_many]at this
  exact this
 go_wp2_with (go_at_call 14;fail)
 refine Calls.mono C2.out ?_
 rintro e w3 ⟨rfl,lf⟩
 clear C2
 obtain⟨F3,H3,hF3,b3⟩:=lf.below b02 hF1
 have C3:Hid (Calls Try.prog 17 #[.pointer (some ⟨g,0,none⟩), .agg #[.int .i64 9, .int .i64 9]] w3 fun e w'=>e= .returned (.int .i64 7)∧Below w3.heap.size w3 w'):=bkNear w.heap.size g 5 10 1 9 9 LvL F3 w3 H3 ok105 lv_near
 go_wp2_with (go_at_call 17;fail)
 refine Calls.mono C3.out ?_
 rintro e w4 ⟨rfl,b4⟩
 clear C3
 have H4:=H3.below b4
 have b04:=below_to b3 b4
 have C4:Hid (Calls Try.prog 16 #[.pointer (some ⟨g,0,none⟩)] w4 fun e w'=>e= .returned (.int .i64 1)∧Below w4.heap.size w4 w'):=by
  obtain⟨⟨vv,A,hO,_⟩,_⟩:=H4
  exact bkLen g vv 5 10 1 w4 hO.row
 go_wp2_with (go_at_call 16;fail)
 refine Calls.mono C4.out ?_
 rintro e w5 ⟨rfl,b5⟩
 clear C4
 go_wp2
 go_ret
 exact⟨rfl,below_to b04 b5⟩
end Go.Proofs.Ytliajdokamlnnaa
namespace Go.Proofs.Ytliajdokamlnnaa
open Go.RowKit
open Go.ChangeShapes Go.WideShapes Go.ChangeAt Go.Joins
set_option linter.unusedVariables false
set_option linter.constructorNameAsVariable false
theorem bv_I:Try.prog.cellsOf 2=1:=by kernel_rfl
theorem bv_i:Try.prog.cellsOf 3=1:=by kernel_rfl
theorem bv_b:Try.prog.cellsOf 4=1:=by kernel_rfl
theorem bv_P:Try.prog.cellsOf 23=2:=by kernel_rfl
theorem bv_p{H:Type}{enc:TypeId×Value→H}{W:World}{bs fuel:Nat}{sp:Nat→Bool}{hd:Bool}{c0 c1:Value}{y:DataW H×List MemPlace}(h:DataW.trod enc Try.prog W bs sp hd fuel 23 [c0,c1]=some y):
  ∃ a b:Int,c0= .int .i64 a∧c1= .int .i64 b∧y=(.agg [.lit (.int .i64 a), .lit (.int .i64 b)], [])∧(Lit.int .i64 a).wf=true∧(Lit.int .i64 b).wf=true:=by
 obtain⟨y0,y1,n,hx,_,h0,h1⟩:=trod_struct2 Try.underlying23 h
 have h0:DataW.trod enc Try.prog W bs sp hd n 2 [c0]=some y0:=by simpa [bv_I]using h0
 have h1:DataW.trod enc Try.prog W bs sp hd n 2 [c1]=some y1:=by simpa [bv_I]using h1
 obtain⟨a,e0,rfl,w0⟩:=DataW.trod_int Try.underlying2 h0
 obtain⟨b,e1,rfl,w1⟩:=DataW.trod_int Try.underlying2 h1
 simp at e0 e1 hx
 exact⟨a,b,e0,e1,hx,w0,w1⟩
theorem laidOutB15:laidOutB Try.prog=true:=by kernel_rfl
structure Ba where
 d:Bool
 v:Int
 x:Int
 y:Int
def baC(a:Ba):List Value:= [.bool a.d, .int .i64 a.v, .int .i64 a.x, .int .i64 a.y]
theorem baC_len(a:Ba):(baC a).length=4:=rfl
def Ba64(a:Ba):Prop:=(-9223372036854775808≤a.x∧a.x≤9223372036854775807)∧(-9223372036854775808≤a.y∧a.y≤9223372036854775807)
structure BaS(w:World)(a:Option Addr)(l c:Nat)(L:List Ba):Prop where
 len:L.length=l
 room:l≤c∧c≤maxLen
 seg:l=0∨ ∃ b o,a=some ⟨b,o,none⟩∧b<w.heap.size∧Seg w b o (flat baC L)
 ok: ∀ x∈L,Ba64 x
theorem bv_bd{x:Int}(h:(Lit.int .i64 x).wf=true): -9223372036854775808≤x∧x≤9223372036854775807:=by
 have h1:IntKind.i64.min= -9223372036854775808:=rfl
 have h2:IntKind.i64.max=9223372036854775807:=rfl
 simp only [Lit.wf,Bool.and_eq_true,decide_eq_true_eq,h1,h2]at h
 exact h
theorem bv_a:Try.prog.cellsOf 35=4:=by kernel_rfl
theorem bv_some{α:Type}{xs:List α}{n i:Nat}(hl:xs.length=n)(hi:i<n): ∃ y,xs[i]? =some y:=⟨xs[i],List.getElem?_eq_getElem (by omega)⟩
set_option maxRecDepth 100000 in
theorem bv_act{H:Type}{enc:TypeId×Value→H}{W:World}{bs:Nat}{sp:Nat→Bool}{hd:Bool}{fuel:Nat}{cs:List Value}{x:DataW H×List MemPlace}(h:DataW.trod enc Try.prog W bs sp hd fuel 35 cs=some x): ∃ a:Ba,Ba64 a∧ ∀ (j:Nat) (u:Value),(baC a)[j]? =some u→cs[j]? =some u:=by
 obtain⟨xs,n,_,_,hlen,hl,hf⟩:=DataW.trod_struct Try.underlying35 h
 rw [bv_a]at hlen
 obtain⟨y0,e0⟩:=bv_some (i:=0) hl (by decide)
 obtain⟨y1,e1⟩:=bv_some (i:=1) hl (by decide)
 obtain⟨y2,e2⟩:=bv_some (i:=2) hl (by decide)
 have h0:DataW.trod enc Try.prog W bs sp hd n 4 ((cs.drop 0).take (Try.prog.cellsOf 4))=some y0:=(hf 0 _ rfl).trans e0
 have h1:DataW.trod enc Try.prog W bs sp hd n 3 ((cs.drop 1).take (Try.prog.cellsOf 3))=some y1:=(hf 1 _ rfl).trans e1
 have h2:DataW.trod enc Try.prog W bs sp hd n 23 ((cs.drop 2).take (Try.prog.cellsOf 23))=some y2:=(hf 2 _ rfl).trans e2
 rw [bv_b]at h0
 rw [bv_i]at h1
 rw [bv_P]at h2
 obtain⟨c0,c1,c2,c3,rfl⟩: ∃ c0 c1 c2 c3,cs= [c0,c1,c2,c3]:=by
  match cs,hlen with
  | [c0,c1,c2,c3],_=>exact⟨c0,c1,c2,c3,rfl⟩
 have h0':DataW.trod enc Try.prog W bs sp hd n 4 [c0]=some y0:=h0
 have h1':DataW.trod enc Try.prog W bs sp hd n 3 [c1]=some y1:=h1
 have h2':DataW.trod enc Try.prog W bs sp hd n 23 [c2,c3]=some y2:=h2
 obtain⟨d,ed⟩: ∃ d:Bool,c0= .bool d:=by
  obtain⟨d,e,_⟩:=DataW.trod_bool Try.underlying4 h0'
  simp at e
  exact⟨d,e⟩
 obtain⟨v,ev,_,wv⟩:=DataW.trod_int Try.underlying3 h1'
 obtain⟨a,b,ea,eb,_,wa,wb⟩:=bv_p h2'
 simp at ev
 subst ed ev ea eb
 refine⟨⟨d,v,a,b⟩,⟨bv_bd wa,bv_bd wb⟩,fun j u hj=>hj⟩
theorem bv_list{α:Type}{Q:Nat→α→Prop}: ∀ n:Nat,(∀ i,i<n→ ∃ a,Q i a)→ ∃ L:List α,L.length=n∧ ∀ i a,L[i]? =some a→Q i a
 |0,_=>⟨[],rfl,fun i a h=>by simp at h⟩
 |n+1,h=>by
  obtain⟨L,hl,hq⟩:=bv_list n (fun i hi=>h i (by omega))
  obtain⟨a,ha⟩:=h n (by omega)
  refine⟨L++ [a],by simp [hl],fun i b hb=>?_⟩
  by_cases e:i<n
  ·rw [List.getElem?_append_left (by omega)]at hb
   exact hq i b hb
  ·have hlt:=(List.getElem?_eq_some_iff.1 hb).1
   simp [hl]at hlt
   obtain rfl:i=n:=by omega
   rw [List.getElem?_append_right (by omega),hl]at hb
   simp at hb
   subst hb
   exact ha
theorem bv_get{α:Type}{f:α→List Value}{s:Nat}(hf: ∀ x,(f x).length=s){L:List α}{q:Nat}{v:Value}(h:(flat f L)[q]? =some v): ∃ k j x,L[k]? =some x∧q=k*s+j∧j<s∧(f x)[j]? =some v:=by
 induction L generalizing q with
 |nil=>simp [flat]at h
 |cons a L ih=>
  rw [show flat f (a::L)=f a++flat f L from by simp [flat]]at h
  by_cases e:q<s
  ·rw [List.getElem?_append_left (by rw [hf];exact e)]at h
   exact⟨0,q,a,rfl,by omega,e,h⟩
  ·rw [List.getElem?_append_right (by rw [hf];omega),hf]at h
   obtain⟨k,j,x,h1,h2,h3,h4⟩:=ih h
   exact⟨k+1,j,x,by simpa using h1,by rw [Nat.add_mul];omega,h3,h4⟩
set_option maxRecDepth 100000 in
theorem bacts_view{H:Type}{enc:TypeId×Value→H}{W:World}{fuel:Nat}{a0:Option Addr}{len cap:Nat}{d:DataW H}{p:List MemPlace}
  (hf:DataW.trod enc Try.prog W 0 (fun _=>true) true fuel 32 (Value.slice a0 len cap).cells.toList=some (d,p)) (hfz:W.noneFrozen p) (hlt: ∀ x∈p,x.block<W.heap.size):
  ∃ L:List Ba,BaS W a0 len cap L:=by
 rcases Go.Deep.open_slice Try.underlying32 hf with⟨hcs,hx⟩|⟨a,len',cap',m,n,D,Pl,hcs,_,hl,hm,hmm,hx,hcell⟩
 ·simp [Value.cells]at hcs
  obtain⟨rfl,rfl,rfl⟩:=hcs
  exact⟨[],rfl,⟨Nat.le_refl _,by decide⟩,Or.inl rfl,fun x h=>by cases h⟩
 ·simp [Value.cells]at hcs
  obtain⟨rfl,rfl,rfl⟩:=hcs
  simp only [Prod.mk.injEq]at hx
  obtain⟨_,rfl⟩:=hx
  simp only [if_true]at hmm
  subst hmm
  rw [bv_a]at hfz hlt
  have each: ∀ i,i<len→ ∃ x:Ba,Ba64 x∧ ∀ (j:Nat) (u:Value),(baC x)[j]? =some u→W.cell? (a.add (i*4+j))=some u:=by
   intro i hi
   obtain⟨cs',h1,h2⟩:=hcell i (by omega)
   rw [bv_a]at h1
   obtain⟨_,hlen,hc⟩:=World.cells?_some h1
   obtain⟨x,h64,hx⟩:=bv_act h2
   refine⟨x,h64,fun j u hj=>?_⟩
   have hj4:=(List.getElem?_eq_some_iff.1 hj).1
   rw [baC_len]at hj4
   rw [←Addr.add_add,hc j hj4]
   exact hx j u hj
  obtain⟨L,hLl,hL⟩:=bv_list len each
  refine⟨L,hLl,⟨hl,hm⟩,?_,fun x hx=>?_⟩
  ·rcases Nat.eq_zero_or_pos len with h0|h0
   ·exact Or.inl h0
   right
   have hsp:a.spot=none:=by
    obtain⟨x,_,h1⟩:=each 0 h0
    have h1:=h1 0 _ rfl
    rw [show a.add (0*4+0)=a from rfl]at h1
    unfold World.cell? at h1
    split at h1
    ·split at h1
     ·cases h1
     ·rename_i hs
      simpa using hs
    ·cases h1
   obtain⟨b,o,sp⟩:=a
   dsimp only at hsp
   subst hsp
   have hmem: ∀ j,j<m*4→MemPlace.cell b (o+j)∈MemPlace.row ⟨b,o,none⟩ (m*4)++(List.range m).flatMap Pl:=fun j hj=>by
    refine List.mem_append_left _ ?_
    unfold MemPlace.row
    exact List.mem_map.2 ⟨j,List.mem_range.2 hj,rfl⟩
   refine⟨b,o,rfl,hlt _ (hmem 0 (by omega)),?_⟩
   intro q v hq
   obtain⟨k,j,x,h1,rfl,h3,h4⟩:=bv_get baC_len hq
   have hk:=(List.getElem?_eq_some_iff.1 h1).1
   have hc:=(hL k x h1).2 j v h4
   rw [Addr.add_lit]at hc
   exact⟨hc,hfz _ _ (hmem (k*4+j) (by omega))⟩
  ·obtain⟨k,hk⟩:=List.getElem?_of_mem hx
   exact(hL k x hk).1
theorem BaS.at{w w':World}{a:Option Addr}{l c k:Nat}{L:List Ba}{x:Ba}(h:BaS w a l c L)(hk:L[k]? =some x)(hb:Below w.heap.size w w'): ∃ b o,a=some ⟨b,o,none⟩∧b<w.heap.size∧w'.cell? ⟨b,o+k*4,none⟩=some (.bool x.d)∧w'.cell? ⟨b,o+k*4+1,none⟩=some (.int .i64 x.v)∧w'.cell? ⟨b,o+k*4+2,none⟩=some (.int .i64 x.x)∧w'.cell? ⟨b,o+k*4+3,none⟩=some (.int .i64 x.y):=by
 have hlt:=(List.getElem?_eq_some_iff.1 hk).1
 rcases h.seg with h0|⟨b,o,rfl,hbl,hs⟩
 ·have:=h.len;omega
 ·have hs':=hs.below hb hbl
  refine⟨b,o,rfl,hbl,?_,?_,?_,?_⟩
  ·exact hs'.cell (k*4+0) _ (flat_at baC_len hk (j:=0) rfl)
  ·exact hs'.cell (k*4+1) _ (flat_at baC_len hk (j:=1) rfl)
  ·exact hs'.cell (k*4+2) _ (flat_at baC_len hk (j:=2) rfl)
  ·exact hs'.cell (k*4+3) _ (flat_at baC_len hk (j:=3) rfl)
end Go.Proofs.Ytliajdokamlnnaa
