/-
  Joined texts, part 3:
  bucket's ring and outwards: what a loop over them is handed.
  What bucket's Near answers.
  What zelligeref03's Cmp, Add and Sub answer.
  What zelligeref03's Mul answers.
  What zelligeref03 answers, with letters for the lengths.
  What zelligeref03 answers, with letters for the lengths, apart from all that was there bef
-/
import Derived.Test.YtliajdokamlnnaaP2
import Derived.RangeFuncNested
import Derived.RangeFuncBound
import Derived.RangeFuncCalls
import Derived.RangeFuncLeaves
import Derived.RangeFuncBox
import Derived.Shelf.Abstract
import Derived.Shelf.RegionOpen
import Derived.WalkKit
import Derived.OwnWalkIn
import Derived.TacticsInMore
import Derived.LoopNIn
import Derived.LoopIn
import Derived.Test.YtliajdokamlnnaaRows
import Derived.Test.YtliajdokamlnnaaP1
import Derived.Lib.ItoaNum
namespace Go.Proofs.Ytliajdokamlnnaa
open Go.RowKit Go.Shelf
set_option linter.unusedVariables false
attribute [local go_sem] Oper.semAt_some
theorem bk_room{F:Fence}(hd:F.depth=none)(k:Nat):F.room k:=fun d h=>by rw [hd]at h;cases h
theorem bk_depth{F:Fence}(hd:F.depth=none){m:Nat}(m':Nat){P:Program}{l:Nat}{args:Array Value}{W:World}{R:Ending→World→Prop}(h:YieldAt F m P l args W R):YieldAt F m' P l args W R:=by
 obtain⟨fn,tmps,assign,body,hy,hR⟩:=h
 exact⟨fn,tmps,assign,body,hy,hR.1,fun c cs _=>hR.2 c cs (bk_room hd _)⟩
def YdF(F:Fence)(l n₀:Nat)(Z:List (Int×Int))(J Jx:List (Fin Z.length)→World→Prop):Prop:=
 ∀ (m:Nat) (r:Nat) (hr:r<Z.length) (a b:Int) (W:World),Z[r]=(a,b)→J (upF Z.length r) W→YieldAt F m Try.prog l #[.int .i64 a, .int .i64 b] W fun e W'=>
   (e= .returned (.bool true)∧J (upF Z.length (r+1)) W'∧Below n₀ W W')∨(e= .returned (.bool false)∧Jx (upF Z.length (r+1)) W')
def RgIn(n₀:Nat)(Z:List (Int×Int))(J:List (Fin Z.length)→World→Prop)(W0:World)(f:Nat)(st rt:Int)(rest:List (Int×Int))(u:Int)(wr:World):Prop:=
 ∃ (r:Nat) (T:List Int),RemC f st u T∧Z.drop r=T.map (fun k=>(rt,k))++rest∧r≤Z.length∧J (upF Z.length r) wr∧Below n₀ W0 wr
def RgOut(n₀:Nat)(Z:List (Int×Int))(J:List (Fin Z.length)→World→Prop)(W0:World)(f:Nat)(rest:List (Int×Int))(i:Nat)(wr:World):Prop:=
 ∃ r:Nat,Z.drop r=(ups ((i:Int)- f) (2*f+1- i)).flatMap (colP f)++rest∧r≤Z.length∧J (upF Z.length r) wr∧Below n₀ W0 wr
def RgPost(n₀:Nat)(Z:List (Int×Int))(J Jx:List (Fin Z.length)→World→Prop)(W:World)(r1:Nat)(e:Ending)(W':World):Prop:=
 (e= .returned (.bool true)∧J (upF Z.length r1) W'∧Below n₀ W W')∨(e= .returned (.bool false)∧ ∃ r,r<Z.length∧Jx (upF Z.length (r+1)) W')
set_option maxRecDepth 100000 in
set_option maxHeartbeats 4000000 in
theorem bkRing(F:Fence)(hd:F.depth=none)(h43:F.fn 43)(hro:F.round=none)(l n₀:Nat)(Z:List (Int×Int))(J Jx:List (Fin Z.length)→World→Prop)(hY:Hid (YdF F l n₀ Z J Jx))(f r0 r1:Nat)(rest:List (Int×Int))(hf:f≤64)(hr0:r0≤Z.length)(hZ:Hid (Z.drop r0=ringP f++rest))(hr1:Hid (r1=r0+(ringP f).length))(n:Nat)(W:World)(h0:J (upF Z.length r0) W):
  CallsIn F n Try.prog 43 #[.int .i64 (f:Int), .func (.yield l) #[] #[]] W (RgPost n₀ Z J Jx W r1):=by
 refine callsIn_of_wp Try.func43 rfl h43 ?_ hro
 simp only [Try.ntmps43,List.size_toArray,List.length_cons,List.length_nil,Nat.reduceAdd,Nat.reduceSub,Array.replicate_succ,Array.replicate_zero,List.push_toArray,List.append_toArray,List.nil_append,List.cons_append]
 have w1:wrap64 (-(f:Int))= -(f:Int):=wrap_in (by omega) (by omega)
 have w2:wrap64 (2*(f:Int))=2*(f:Int):=wrap_in (by omega) (by omega)
 gi_wp2
 gi_loopw [5] (fun x wr=> ∃ i:Nat,i≤2*f+1∧x= .int .i64 ((i:Int)- f)∧RgOut n₀ Z J W f rest i wr) (fun x _=>((f:Int)+1- intOf x).toNat)
 case atStart=>exact⟨0,by omega,by simp,r0,by rw [hZ.out];unfold ringP;simp,hr0,h0,Below.refl _ _⟩
 case round=>
  obtain⟨i,hi,rfl,r,hd0,hrl,hJ,hB⟩:=hrel
  obtain⟨rt,hrt⟩: ∃ rt:Int,rt=(i:Int)- f:=⟨_,rfl⟩
  have HRT:Hid _:=hrt
  by_cases hlt:i<2*f+1
  ·rw [←hrt]
   have hle:rt≤f:=by omega
   have hge: -(f:Int)≤rt:=by omega
   have hsplit:Hid (Z.drop r=colP f ((i:Int)- f)++((ups (((i+1:Nat):Int)- f) (2*f+1- (i+1))).flatMap (colP f)++rest)):=by
    unfold Hid
    rw [hd0,show 2*f+1- i=(2*f+1- (i+1))+1 by omega,ups,List.flatMap_cons,List.append_assoc,show(i:Int)- f+1=((i+1:Nat):Int)- f by omega]
   rw [←hrt]at hsplit
   clear hd0
   have w3:wrap64 (rt+1)=rt+1:=wrap_in (by omega) (by omega)
   clear hrt
   by_cases h1:rt= -(f:Int)
   ·skip
    have t1:(rt== -(f:Int))=true:=by simpa using h1
    obtain⟨T,hT1,hT2⟩:=col_end (f:=f) (r:=rt) (Or.inl h1)
    have HT:Hid (RemC f 1 (-(f:Int)) T):=hT2
    have HD1:Hid (Z.drop r=T.map (fun k=>(rt,k))++((ups (((i+1:Nat):Int)- f) (2*f+1- (i+1))).flatMap (colP f)++rest)):=by unfold Hid;rw [hsplit.out,hT1]
    clear hT1 hT2 hsplit
    have G1:Hid _:=h1
    clear h1
    gi_wp2
    gi_loopw [7] (fun x wr=> ∃ u:Int,x= .int .i64 u∧RgIn n₀ Z J W f 1 rt ((ups (((i+1:Nat):Int)- f) (2*f+1- (i+1))).flatMap (colP f)++rest) u wr) (fun x _=>((f:Int)+1- intOf x).toNat)
    case atStart=>exact⟨-(f:Int),rfl,r,T,HT.out,HD1.out,hrl,hJ,hB⟩
    case round=>
     clear hJ hB hrl
     obtain⟨u,rfl,q,T',hT',hd1,hql,hJ,hB⟩:=hrel
     by_cases hu:u≤(f:Int)
     ·obtain⟨T2,e2,hT2,s1,s2,s3⟩:=hT'.go hu
      rw [e2]at hd1
      obtain⟨hqr,hz,hd2⟩:=drop_cons hd1
      have hz':Hid (Z[q]=(rt,u)):=hz
      have HD2:Hid _:=hd2
      have HT2:Hid (RemC f 1 (u+1) T2):=hT2
      have wu:wrap64 (u+1)=u+1:=wrap_in (by omega) (by omega)
      clear hd1 hz hd2 hT' hT2 e2 HT HD1
      obtain⟨fn,tmps,assign,body,hy,hR⟩:=hY.out (n- 1) q hqr _ u wr hz'.out hJ
      gi_wp2
      refine hR.mono ?_
      rintro e W3 (⟨rfl,hJ3,hk3⟩|⟨rfl,hJx3⟩)
      ·gi_wp2
       go_roundw
       case rel=>exact⟨_,rfl,q+1,T2,HT2.out,HD2.out,hqr,hJ3,hB.trans hk3⟩
       case measure=>simp [intOf];omega
      ·gi_wp2
       go_ret
       exact Or.inr ⟨rfl,q,hqr,hJx3⟩
     ·have e2:=hT'.stop hu
      subst e2
      have HD2:Hid _:=hd1
      clear hd1 hT' HT HD1
      gi_wp2
      go_roundw
      case rel=>exact⟨i+1,by omega,by rw [HRT.out];congr 1;omega,q,by rw [HD2.out];simp only [List.map_nil,List.nil_append],hql,hJ,hB⟩
      case measure=>simp [intOf];omega
   by_cases h2:rt=(f:Int)
   ·skip
    have t1:(rt== -(f:Int))=false:=by simpa using h1
    have t2:(rt==(f:Int))=true:=by simpa using h2
    obtain⟨T,hT1,hT2⟩:=col_end (f:=f) (r:=rt) (Or.inr h2)
    have HT:Hid (RemC f 1 (-(f:Int)) T):=hT2
    have HD1:Hid (Z.drop r=T.map (fun k=>(rt,k))++((ups (((i+1:Nat):Int)- f) (2*f+1- (i+1))).flatMap (colP f)++rest)):=by unfold Hid;rw [hsplit.out,hT1]
    clear hT1 hT2 hsplit
    have G1:Hid _:=h1
    have G2:Hid _:=h2
    clear h1 h2
    gi_wp2
    gi_loopw [7] (fun x wr=> ∃ u:Int,x= .int .i64 u∧RgIn n₀ Z J W f 1 rt ((ups (((i+1:Nat):Int)- f) (2*f+1- (i+1))).flatMap (colP f)++rest) u wr) (fun x _=>((f:Int)+1- intOf x).toNat)
    case atStart=>exact⟨-(f:Int),rfl,r,T,HT.out,HD1.out,hrl,hJ,hB⟩
    case round=>
     clear hJ hB hrl
     obtain⟨u,rfl,q,T',hT',hd1,hql,hJ,hB⟩:=hrel
     by_cases hu:u≤(f:Int)
     ·obtain⟨T2,e2,hT2,s1,s2,s3⟩:=hT'.go hu
      rw [e2]at hd1
      obtain⟨hqr,hz,hd2⟩:=drop_cons hd1
      have hz':Hid (Z[q]=(rt,u)):=hz
      have HD2:Hid _:=hd2
      have HT2:Hid (RemC f 1 (u+1) T2):=hT2
      have wu:wrap64 (u+1)=u+1:=wrap_in (by omega) (by omega)
      clear hd1 hz hd2 hT' hT2 e2 HT HD1
      obtain⟨fn,tmps,assign,body,hy,hR⟩:=hY.out (n- 1) q hqr _ u wr hz'.out hJ
      gi_wp2
      refine hR.mono ?_
      rintro e W3 (⟨rfl,hJ3,hk3⟩|⟨rfl,hJx3⟩)
      ·gi_wp2
       go_roundw
       case rel=>exact⟨_,rfl,q+1,T2,HT2.out,HD2.out,hqr,hJ3,hB.trans hk3⟩
       case measure=>simp [intOf];omega
      ·gi_wp2
       go_ret
       exact Or.inr ⟨rfl,q,hqr,hJx3⟩
     ·have e2:=hT'.stop hu
      subst e2
      have HD2:Hid _:=hd1
      clear hd1 hT' HT HD1
      gi_wp2
      go_roundw
      case rel=>exact⟨i+1,by omega,by rw [HRT.out];congr 1;omega,q,by rw [HD2.out];simp only [List.map_nil,List.nil_append],hql,hJ,hB⟩
      case measure=>simp [intOf];omega
   ·skip
    have t1:(rt== -(f:Int))=false:=by simpa using h1
    have t2:(rt==(f:Int))=false:=by simpa using h2
    obtain⟨T,hT1,hT2⟩:=col_mid (f:=f) (r:=rt) (fun e=>e.elim h1 h2) hge hle
    have HT:Hid (RemC f (2*(f:Int)) (-(f:Int)) T):=hT2
    have HD1:Hid (Z.drop r=T.map (fun k=>(rt,k))++((ups (((i+1:Nat):Int)- f) (2*f+1- (i+1))).flatMap (colP f)++rest)):=by unfold Hid;rw [hsplit.out,hT1]
    clear hT1 hT2 hsplit
    have G1:Hid _:=h1
    have G2:Hid _:=h2
    clear h1 h2
    gi_wp2
    gi_loopw [7] (fun x wr=> ∃ u:Int,x= .int .i64 u∧RgIn n₀ Z J W f (2*(f:Int)) rt ((ups (((i+1:Nat):Int)- f) (2*f+1- (i+1))).flatMap (colP f)++rest) u wr) (fun x _=>((f:Int)+1- intOf x).toNat)
    case atStart=>exact⟨-(f:Int),rfl,r,T,HT.out,HD1.out,hrl,hJ,hB⟩
    case round=>
     clear hJ hB hrl
     obtain⟨u,rfl,q,T',hT',hd1,hql,hJ,hB⟩:=hrel
     by_cases hu:u≤(f:Int)
     ·obtain⟨T2,e2,hT2,s1,s2,s3⟩:=hT'.go hu
      rw [e2]at hd1
      obtain⟨hqr,hz,hd2⟩:=drop_cons hd1
      have hz':Hid (Z[q]=(rt,u)):=hz
      have HD2:Hid _:=hd2
      have HT2:Hid (RemC f (2*(f:Int)) (u+2*(f:Int)) T2):=hT2
      have wu:wrap64 (u+2*(f:Int))=u+2*(f:Int):=wrap_in (by omega) (by omega)
      clear hd1 hz hd2 hT' hT2 e2 HT HD1
      obtain⟨fn,tmps,assign,body,hy,hR⟩:=hY.out (n- 1) q hqr _ u wr hz'.out hJ
      gi_wp2
      refine hR.mono ?_
      rintro e W3 (⟨rfl,hJ3,hk3⟩|⟨rfl,hJx3⟩)
      ·gi_wp2
       go_roundw
       case rel=>exact⟨_,rfl,q+1,T2,HT2.out,HD2.out,hqr,hJ3,hB.trans hk3⟩
       case measure=>simp [intOf];omega
      ·gi_wp2
       go_ret
       exact Or.inr ⟨rfl,q,hqr,hJx3⟩
     ·have e2:=hT'.stop hu
      subst e2
      have HD2:Hid _:=hd1
      clear hd1 hT' HT HD1
      gi_wp2
      go_roundw
      case rel=>exact⟨i+1,by omega,by rw [HRT.out];congr 1;omega,q,by rw [HD2.out];simp only [List.map_nil,List.nil_append],hql,hJ,hB⟩
      case measure=>simp [intOf];omega
  ·clear HRT hrt
   obtain rfl:i=2*f+1:=by omega
   have hle: ¬(((2*f+1:Nat):Int)- f≤f):=by omega
   have HD:Hid (Z.drop r=rest):=by unfold Hid;rw [hd0,Nat.sub_self];rfl
   clear hd0
   have e1:Hid (r=r1):=by unfold Hid;rw [hr1.out];exact drop_len hZ.out HD.out hr0 hrl
   gi_wp2
   go_ret
   exact Or.inl ⟨rfl,by rw [←e1.out];exact hJ,hB⟩
theorem drop_ring{Z A B:List (Int×Int)}{r:Nat}(h:Z.drop r=A++B):Z.drop (r+A.length)=B∧(r≤Z.length→r+A.length≤Z.length):=by
 refine⟨?_,fun hr=>?_⟩
 ·rw [←List.drop_drop,h,List.drop_left]
 ·have e:=congrArg List.length h
  simp only [List.length_drop,List.length_append]at e
  omega
def OutPost(Z:List (Int×Int))(J Jx:List (Fin Z.length)→World→Prop)(e:Ending)(W':World):Prop:=
 (∃ v,e= .returned v)∧((∃ ys,ys=upF Z.length Z.length∧J ys W')∨(∃ pre,(∃ r,r<Z.length∧pre=upF Z.length (r+1))∧Jx pre W'))
set_option maxRecDepth 100000 in
set_option maxHeartbeats 4000000 in
theorem bkOut1(F:Fence)(hd:F.depth=none)(h42:F.fn 42)(h43:F.fn 43)(hro:F.round=none)(l n₀ m Bs:Nat)(hm:m≤64)(Z:List (Int×Int))(hZ:Hid (Z=outP m))(J Jx:List (Fin Z.length)→World→Prop)(hY:Hid (YdF F l n₀ Z J Jx))(n:Nat)(W:World)(hBs:W.cell? ⟨Bs,0,none⟩=some (.int .i64 (m:Int)))(h0:J [] W):
  CallsIn F n Try.prog 42 #[.func (.yield l) #[] #[], .pointer (some ⟨Bs,0,none⟩)] W (OutPost Z J Jx):=by
 refine callsIn_of_wp Try.func42 rfl h42 ?_ hro
 simp only [Try.ntmps42,List.size_toArray,List.length_cons,List.length_nil,Nat.reduceAdd,Nat.reduceSub,Array.replicate_succ,Array.replicate_zero,List.push_toArray,List.append_toArray,List.nil_append,List.cons_append]
 have w1:wrap64 ((m:Int)+1)=(m:Int)+1:=wrap_in (by omega) (by omega)
 gi_wp2
 gi_loopw [6] (fun x wr=> ∃ i:Nat,i≤m+1∧x= .int .i64 (i:Int)∧ ∃ r:Nat,Hid (Z.drop r=(ups (i:Int) (m+1- i)).flatMap fun f=>ringP f.toNat)∧r≤Z.length∧J (upF Z.length r) wr) (fun x _=>((m:Int)+1- intOf x).toNat)
 case atStart=>exact⟨0,by omega,rfl,0,by unfold Hid;rw [hZ.out];rfl,by omega,h0⟩
 case round=>
  obtain⟨i,hi,rfl,r,HD,hrl,hJ⟩:=hrel
  by_cases hlt:i<m+1
  ·have hlt':(i:Int)<(m:Int)+1:=by omega
   have hsp:Hid (Z.drop r=ringP i++(ups ((i+1:Nat):Int) (m+1- (i+1))).flatMap fun f=>ringP f.toNat):=by
    unfold Hid
    rw [HD.out,show m+1- i=(m+1- (i+1))+1 by omega,ups,List.flatMap_cons]
    rfl
   have w2:wrap64 ((i:Int)+1)=(i:Int)+1:=wrap_in (by omega) (by omega)
   have HR:Hid (CallsIn F (n- 1) Try.prog 43 #[.int .i64 (i:Int), .func (.yield l) #[] #[]] wr (RgPost n₀ Z J Jx wr (r+(ringP i).length))):=bkRing F hd h43 hro l n₀ Z J Jx hY i r _ _ (by omega) hrl hsp rfl (n- 1) wr hJ
   have hdd: ∀ k,F.room k:=fun k=>bk_room hd k
   gi_wp2_with ((try refine⟨hdd _,?_⟩);gi_at_call 43;refine CallsIn.mono HR.out ?_;clear HR;rintro e W1 (⟨rfl,hJ1,_⟩|⟨rfl,q,hq,hx⟩))
   ·go_roundw
    case rel=>exact⟨i+1,by omega,by simp,_,(drop_ring hsp.out).1,(drop_ring hsp.out).2 hrl,hJ1⟩
    case measure=>simp [intOf];omega
   ·refine bodyPost_ret (results_none rfl _ _ _) rfl ?_
    exact⟨⟨_,rfl⟩,Or.inr ⟨_,⟨q,hq,rfl⟩,hx⟩⟩
  ·obtain rfl:i=m+1:=by omega
   have hlt': ¬(((m+1:Nat):Int)<(m:Int)+1):=by omega
   have e1:Hid (r=Z.length):=by
    unfold Hid
    have e:=congrArg List.length HD.out
    rw [Nat.sub_self]at e
    simp only [List.length_drop,ups,List.flatMap_nil,List.length_nil]at e
    omega
   gi_wp2
   go_end0
   have hJ':=hJ
   rw [e1.out]at hJ'
   exact⟨⟨_,rfl⟩,Or.inl ⟨_,rfl,hJ'⟩⟩
set_option maxHeartbeats 1000000 in
theorem bkOut(F:Fence)(n:Nat)(h26:F.fn 26)(hro:F.round=none)(m:Int)(w:World):
  CallsIn F n Try.prog 26 #[.int .i64 m] w fun e w'=>e= .returned (.func (.func 42) #[] #[.pointer (some ⟨w.heap.size,0,none⟩)])∧w'=w.alloc (.cells #[.int .i64 m] 3):=by
 refine callsIn_of_wp Try.func26 rfl h26 ?_ hro
 simp only [Try.ntmps26,List.size_toArray,List.length_cons,List.length_nil,Nat.reduceAdd,Nat.reduceSub,Array.replicate_succ,Array.replicate_zero,List.push_toArray,List.append_toArray,List.nil_append,List.cons_append]
 gi_wp2
 go_ret
 exact⟨rfl,rfl⟩
theorem bkStops(F:Fence)(hd:F.depth=none)(n:Nat)(h42:F.fn 42)(h43:F.fn 43)(hro:F.round=none)(Bs n₀ m:Nat)(hm:m≤64)(w:World)(hBs:Bs<w.heap.size)(hc:w.cell? ⟨Bs,0,none⟩=some (.int .i64 (m:Int))):
  SeqStopsK F n Try.prog 42 #[.pointer (some ⟨Bs,0,none⟩)] (fun x:Fin (outP m).length=> #[Value.int .i64 ((outP m)[x.1]'x.2).1,Value.int .i64 ((outP m)[x.1]'x.2).2]) (Below n₀) (fun ys=>ys=upF (outP m).length (outP m).length)
   (fun pre=> ∃ r,r<(outP m).length∧pre=upF (outP m).length (r+1)) (outP m).length w:=fun l J Jx W hW _ _ hY h0=>by
 have hc':=(hW.cell (p:=⟨Bs,0,none⟩) hBs).trans hc
 refine bkOut1 F hd h42 h43 hro l n₀ m Bs hm (outP m) rfl J Jx ?_ n W hc' h0
 intro m' r hr a b W' hz hJ
 have h:=bk_depth hd m' (hY (upF (outP m).length r) ⟨r,hr⟩ W' hJ (by rw [upF_length (by omega)];exact hr))
 dsimp only at h
 rw [←upF_next hr]at h
 have hz1:((outP m)[r]'hr)=(a,b):=hz
 rw [hz1]at h
 exact h
end Go.Proofs.Ytliajdokamlnnaa
namespace Go.Proofs.Ytliajdokamlnnaa
open Go.RowKit Go.Shelf
set_option linter.unusedVariables false
attribute [local go_sem] Oper.semAt_some
def nearR(L:Nat→List Int)(x y s:Int)(n:Nat):Int:=if homeC x y s then nearV L n (clX x s n) (clX y s n)else -1
set_option maxRecDepth 100000 in
set_option maxHeartbeats 2000000 in
theorem bkNear_no(base g n:Nat)(s m x y:Int)(L:Nat→List Int)(F:Nat→Prop)(w:World)(H:GrP base g s n L m F w)(h:GrOk s n)(hh:homeC x y s=false):
  Calls Try.prog 17 #[.pointer (some ⟨g,0,none⟩), .agg #[.int .i64 x, .int .i64 y]] w fun e w'=>e= .returned (.int .i64 (-1))∧Below w.heap.size w w':=by
 obtain⟨⟨vv,A,hO,hFg,hFv,hFA⟩,hft⟩:=H
 have hgl:=hO.row.lt
 have hc:(-1, -1)=cellC x y s n:=by unfold cellC;rw [hh];rfl
 refine callsIn_wide.1 (callsIn_of_wp_marks (F:=Fence.wide) (n:=4) Try.func17 rfl trivial ?_ rfl)
 simp only [Try.ntmps17,List.size_toArray,List.length_cons,List.length_nil,Nat.reduceAdd,Nat.reduceSub,Array.replicate_succ,Array.replicate_zero,List.push_toArray,List.append_toArray,List.nil_append,List.cons_append]
 refine wpIn_wide.2 ?_
 obtain⟨W,hW⟩: ∃ W,W=((w.alloc (.cells #[.pointer (some ⟨g,0,none⟩)] 26)).alloc (.cells #[.int .i64 x, .int .i64 y] 23)).alloc (.cells #[.int .i64 0] 3):=⟨_,rfl⟩
 have bW:Below w.heap.size w W:=by rw [hW];exact(((Below.refl _ _).alloc (Nat.le_refl _) _).alloc (by simp) _).alloc (by simp;omega) _
 have zW:W.heap.size=w.heap.size+3:=by rw [hW];simp
 have R2:Row W (w.heap.size+1+1) [.int .i64 0]:=by
  have:=Row.new ((w.alloc (.cells #[.pointer (some ⟨g,0,none⟩)] 26)).alloc (.cells #[.int .i64 x, .int .i64 y] 23)) [.int .i64 0] 3
  rw [World.size_alloc,World.size_alloc]at this
  rw [hW];exact this
 go_wp2_with (go_at_call 9;fail)
 rw [←hW]
 clear hW
 refine(bkCell g vv n s m x y W (hO.row.below bW hgl) h hc).mono ?_
 rintro e w1 ⟨rfl,b1⟩
 have z1:=b1.size
 have hX:=(((Below.refl w1.heap.size w1).alloc (Nat.le_refl _) (.cells #[.int .i64 (-1)] 3)).alloc (by simp) (.cells #[.int .i64 (-1)] 3))
 have R3:=(R2.below b1 (by omega)).below hX (by omega)
 have q0:=R3.cell 0 _ rfl
 have f0:=R3.free 0 (by simp)
 have bF:Below w.heap.size w (((w1.alloc (.cells #[.int .i64 (-1)] 3)).alloc (.cells #[.int .i64 (-1)] 3)).setCell ⟨w.heap.size+1+1,0,none⟩ (.int .i64 (-1))):=(below_to (below_to bW b1) hX).setCell (by simp;omega) _
 have c0:=World.cell?_setCell_same _ _ (.int .i64 (-1)) q0
 go_wp2
 exact⟨.int .i64 (-1),by simp [results,Try.results17,go_sem,c0],rfl,bF⟩
set_option maxRecDepth 100000 in
set_option maxHeartbeats 2000000 in
theorem bkNear_yes(base g n:Nat)(s m x0 y:Int)(L:Nat→List Int)(F:Nat→Prop)(w:World)(H:GrP base g s n L m F w)(h:GrOk s n)(a b:Nat)(hc:((a:Int),(b:Int))=cellC x0 y s n)(ha:a<n)(hb:b<n){r:Int}(hr:r=nearV L n a b):
  Calls Try.prog 17 #[.pointer (some ⟨g,0,none⟩), .agg #[.int .i64 x0, .int .i64 y]] w fun e w'=>e= .returned (.int .i64 r)∧Below w.heap.size w w':=by
 obtain⟨⟨vv,A,hO,hFg,hFv,hFA⟩,hft⟩:=H
 have hgl:=hO.row.lt
 have HC:Hid _:=hc
 have HRR:Hid _:=hr
 clear hc hr
 refine callsIn_wide.1 (callsIn_of_wp_marks (F:=Fence.wide) (n:=4) Try.func17 rfl trivial ?_ rfl)
 simp only [Try.ntmps17,List.size_toArray,List.length_cons,List.length_nil,Nat.reduceAdd,Nat.reduceSub,Array.replicate_succ,Array.replicate_zero,List.push_toArray,List.append_toArray,List.nil_append,List.cons_append]
 refine wpIn_wide.2 ?_
 obtain⟨W,hW⟩: ∃ W,W=((w.alloc (.cells #[.pointer (some ⟨g,0,none⟩)] 26)).alloc (.cells #[.int .i64 x0, .int .i64 y] 23)).alloc (.cells #[.int .i64 0] 3):=⟨_,rfl⟩
 have bW:Below w.heap.size w W:=by rw [hW];exact(((Below.refl _ _).alloc (Nat.le_refl _) _).alloc (by simp) _).alloc (by simp;omega) _
 have zW:W.heap.size=w.heap.size+3:=by rw [hW];simp
 have R0:Row W w.heap.size [.pointer (some ⟨g,0,none⟩)]:=by rw [hW];exact((Row.new w [.pointer (some ⟨g,0,none⟩)] _).alloc _ (by simp)).alloc _ (by simp;omega)
 have R2:Row W (w.heap.size+1+1) [.int .i64 0]:=by
  have:=Row.new ((w.alloc (.cells #[.pointer (some ⟨g,0,none⟩)] 26)).alloc (.cells #[.int .i64 x0, .int .i64 y] 23)) [.int .i64 0] 3
  rw [World.size_alloc,World.size_alloc]at this
  rw [hW];exact this
 go_wp2_with (go_at_call 9;fail)
 rw [←hW]
 clear hW
 refine(bkCell g vv n s m x0 y W (hO.row.below bW hgl) h HC.out).mono ?_
 rintro e w1 ⟨rfl,b1⟩
 have z1:=b1.size
 have R01:=R0.below b1 (by omega)
 have R21:=R2.below b1 (by omega)
 have bw1:=below_to bW b1
 have row1:=hO.row.below bw1 hgl
 obtain⟨X,hX⟩: ∃ X,X=(w1.alloc (.cells #[.int .i64 (a:Int)] 3)).alloc (.cells #[.int .i64 (b:Int)] 3):=⟨_,rfl⟩
 have zX:X.heap.size=w1.heap.size+2:=by rw [hX];simp
 have b1X:Below w1.heap.size w1 X:=by rw [hX];exact((Below.refl _ _).alloc (Nat.le_refl _) _).alloc (by simp) _
 have RA:Row X w1.heap.size [.int .i64 (a:Int)]:=by rw [hX];exact(Row.new w1 [.int .i64 (a:Int)] 3).alloc _ (by simp)
 have RB:Row X (w1.heap.size+1) [.int .i64 (b:Int)]:=by
  rw [hX]
  have:=Row.new (w1.alloc (.cells #[.int .i64 (a:Int)] 3)) [.int .i64 (b:Int)] 3
  rw [World.size_alloc]at this
  exact this
 have qa:=RA.cell 0 _ rfl
 have qg:=(R01.below b1X (by omega)).cell 0 _ rfl
 have qn:=(row1.below b1X (by omega)).cell 1 _ rfl
 have a0: ¬(a:Int)<0:=by omega
 rw [hX]at qa qg qn
 go_wp2_with (go_at_call 26;fail)
 rw [←hX]
 clear hX qa qg qn
 refine(callsIn_wide.1 (bkOut Fence.wide 3 trivial rfl (n:Int) X)).mono ?_
 rintro e w3 ⟨rfl,hw3⟩
 have bY:Below X.heap.size X w3:=by rw [hw3];exact(Below.refl _ _).alloc (Nat.le_refl _) _
 have zY:w3.heap.size=X.heap.size+1:=by rw [hw3];simp
 have RN:Row w3 X.heap.size [.int .i64 (n:Int)]:=by rw [hw3];exact Row.new X [.int .i64 (n:Int)] 3
 clear hw3
 have R03:=(R01.below b1X (by omega)).below bY (by omega)
 have R23:=(R21.below b1X (by omega)).below bY (by omega)
 have RA3:=RA.below bY (by omega)
 have RB3:=RB.below bY (by omega)
 have b03:Below w.heap.size w w3:=below_to (below_to bw1 b1X) bY
 obtain⟨D,hD⟩: ∃ D,D=w1.heap.size:=⟨_,rfl⟩
 obtain⟨E,hE⟩: ∃ E,E=X.heap.size:=⟨_,rfl⟩
 rw [←hD]at RA3 RB3 zX z1
 rw [←hE]at RN zY zX
 rw [←hD,←hE]
 have y1:w.heap.size+3≤D:=by omega
 have y2:D+2≤E:=by omega
 have y3:E+1≤w3.heap.size:=by omega
 clear R0 R2 R01 R21 RA RB row1 b1X bY bw1 b1 bW hD hE zX zY z1 zW
 go_wp2
 refine(wpIn_wide (n:=4)).1 ?_
 refine wpIn_rangeFunc_ownG (α:=Fin (outP n).length) rfl (by decide) (gf:=42) (lb:= #[.pointer (some ⟨E,0,none⟩)]) rfl trivial (enters_of Try.func42 (by kernel_rfl) rfl)
  (bkStops Fence.wide rfl 3 trivial trivial rfl E w3.heap.size n h.2.2.2 w3 (by omega) (RN.cell 0 _ rfl)) belowK_t (belowK_b (Nat.le_refl _)) (Below.refl _ _) (fun _=>rfl)
  (fun pre V=>Hid (∀ x∈pre,hitC L n a b ((outP n)[x.1]'x.2)=none)∧Below w3.heap.size w3 V)
  (fun c pre V=>(c= .ret∧ ∃ ini last v,Hid (pre=ini++ [last])∧Hid (∀ x∈ini,hitC L n a b ((outP n)[x.1]'x.2)=none)∧Hid (hitC L n a b ((outP n)[last.1]'last.2)=some v)∧V.cell? ⟨w.heap.size+1+1,0,none⟩=some (.int .i64 v))∧Below w.heap.size w V)
  (OwnFrom.and (ownFrom_pure _ _) (ownFrom_below (Nat.le_refl _) (Nat.le_refl _)))
  (fun c=>OwnFrom.and (Own.from (fun s A B row hs hg hr=>by obtain⟨hc,ini,last,v,e1,e2,e3,e4⟩:=hs;exact⟨hc,ini,last,v,e1,e2,e3,cell_kept e4 hg hr⟩) _) (ownFrom_below (Nat.le_refl _) (by omega)))
  ⟨by unfold Hid;simp,Below.refl _ _⟩
  (fun x=>{ tmps:= #[.pointer (some ⟨g,0,none⟩), .agg #[.int .i64 x0, .int .i64 y], .pointer (some ⟨w.heap.size,0,none⟩), .pointer (some ⟨w.heap.size+1,0,none⟩), .pointer (some ⟨w.heap.size+1+1,0,none⟩), .pointer (some ⟨D,0,none⟩), .pointer (some ⟨D+1,0,none⟩), .int .i64 ((outP n)[x.1]'x.2).1, .int .i64 ((outP n)[x.1]'x.2).2,undef,
   .tuple #[.int .i64 (a:Int), .int .i64 (b:Int)], .pointer (some ⟨g,0,none⟩), .agg #[.int .i64 x0, .int .i64 y], .tuple #[.int .i64 (a:Int), .int .i64 (b:Int)], .int .i64 (a:Int), .int .i64 (b:Int), .int .i64 (a:Int), .bool (decide ((a:Int)<0)), .pointer (some ⟨g,0,none⟩), .pointer (some ⟨g,0,none⟩), .pointer (some ⟨g,1,none⟩), .int .i64 (n:Int),
   .func (.func 42) #[] #[.pointer (some ⟨E,0,none⟩)], .int .i64 ((outP n)[x.1]'x.2).1, .int .i64 ((outP n)[x.1]'x.2).2,undef,undef,undef,undef,undef,undef,undef,undef,undef,undef,undef,undef,undef,undef,undef,undef],defers:= [] }) ?assign ?body ?done ?stop
 case assign=>
  intro l x V K hK
  gi_wp2
  exact hK
 case body=>
  rintro l pre x V ⟨hp,hB3⟩ _
  have hB:Below w.heap.size w V:=below_to b03 hB3
  have zV:=hB3.size
  obtain⟨o1,o2,ho⟩: ∃ o1 o2,(outP n)[x.1]'x.2=(o1,o2):=⟨_,_,rfl⟩
  have hin:=out_in (List.getElem_mem x.2)
  rw [ho]at hin
  dsimp only at hin
  obtain⟨a2,ea2,la2⟩:=mod_in (c:=(a:Int)+o1) h.2.2.1
  obtain⟨b2,eb2,lb2⟩:=mod_in (c:=(b:Int)+o2) h.2.2.1
  have n4:=h.2.2.2
  have hk:=idx_in la2 lb2
  have ek:Hid (hitC L n a b ((outP n)[x.1]'x.2)=(L (a2*n+b2)).head?):=by
   unfold Hid hitC ixC
   rw [ho,←ea2,←eb2,Int.toNat_natCast,Int.toNat_natCast]
  have CA:Hid (Calls Try.prog 27 #[.pointer (some ⟨g,0,none⟩), .int .i64 ((a:Int)+o1), .int .i64 ((b:Int)+o2)] V fun e w'=>e= .returned (.pointer (some ⟨vv,a2*n+b2,none⟩))∧Below V.heap.size V w'):=bkAt g vv n s m _ _ V (hO.row.below hB hgl) h ⟨by omega,by omega⟩ ⟨by omega,by omega⟩ a2 b2 ea2 eb2
  generalize a2*n+b2=k at hk ek CA
  have wa:wrap64 ((a:Int)+o1)=(a:Int)+o1:=wrap_in (by omega) (by omega)
  have wb:wrap64 ((b:Int)+o2)=(b:Int)+o2:=wrap_in (by omega) (by omega)
  have hvV:vv<V.heap.size:=by have:=hO.vl;have:=hB.size;omega
  have hver:=(hB.cell (p:=⟨vv,k,none⟩) hO.vl).trans (hO.ver k hk).1
  have c1:=(R03.below hB3 (by omega)).cell 0 _ rfl
  have c2:=(RA3.below hB3 (by omega)).cell 0 _ rfl
  have c3:=(RB3.below hB3 (by omega)).cell 0 _ rfl
  have RR:=R23.below hB3 (by omega)
  have gk: ∀ V1,Below V.heap.size V V1→KeepsFrom w3.heap.size V V1:=fun V1 b1=>KeepsFrom.of_grownBy (row:=none) ⟨b1.os,b1.tape,b1.output,b1.size,fun k hk _=>b1.block k hk⟩ (fun j e=>by cases e)
  have GK:Hid _:=gk
  have HOO:Hid _:=ho
  simp only [ho]
  have HK:Hid _:=hk
  clear ho gk ea2 eb2 hin hk la2 lb2
  rcases hL:L k with _|⟨v,t⟩
  ·rw [hL]at hver ek
   clear hL
   gi_wp2_with (refine⟨trivial,?_⟩;gi_at_call 27;refine CallsIn.mono (CallsIn.inRound l (callsIn_wide.2 CA.out)) ?_;rintro e V1 ⟨rfl,b1⟩;have d1:=(b1.cell (p:=⟨vv,k,none⟩) hvV).trans hver)
   refine⟨GK.out _ b1,b1.mono zV,?_,hB3.trans (b1.mono zV)⟩
   intro y hy
   rcases List.mem_append.1 hy with hy|hy
   ·exact hp.out y hy
   ·simp at hy;subst hy;exact ek.out
  ·have hown:=hO.own k HK.out
   rw [hL]at hver ek hown
   clear hL
   obtain⟨bb,eb,hbl,_,hsg⟩:=hown.at (by simp)
   rw [eb]at hver
   have hroom:=OwnS.room hown
   have h0:=(hB.cell (p:=⟨bb,0,none⟩) hbl).trans (hsg.cell 0 (.int .i64 v) rfl)
   have hbV:bb<V.heap.size:=by have:=hB.size;omega
   gi_wp2_with (refine⟨trivial,?_⟩;gi_at_call 27;refine CallsIn.mono (CallsIn.inRound l (callsIn_wide.2 CA.out)) ?_;rintro e V1 ⟨rfl,b1⟩;have d1:=(b1.cell (p:=⟨vv,k,none⟩) hvV).trans hver;have d2:=(b1.cell (p:=⟨bb,0,none⟩) hbV).trans h0;have d3:=(RR.below b1 (by omega)).cell 0 _ rfl;have d4:=(RR.below b1 (by omega)).free 0 (by simp))
   refine⟨(GK.out _ b1).trans ((KeepsOthers.setCell _ _ _).from _),⟨rfl,pre,x,v,rfl,hp,ek,World.cell?_setCell_same _ _ _ d3⟩,(hB.trans (b1.mono hB.size)).setCell (by simp;omega) _⟩
 case done=>
  rintro D' ys V hD' rfl ⟨hp,hB3⟩ hK
  have c4:=(R23.below hB3 (by omega)).cell 0 _ rfl
  have f4:=(R23.below hB3 (by omega)).free 0 (by simp)
  have er:Hid (r= -1):=by
   unfold Hid
   rw [HRR.out]
   unfold nearV
   rw [find_none (fun i hi=>hp.out ⟨i,hi⟩ ((upF_mem (Nat.le_refl _) ⟨i,hi⟩).2 hi))]
   rfl
  have bF:Below w.heap.size w (V.setCell ⟨w.heap.size+1+1,0,none⟩ (.int .i64 (-1))):=(below_to b03 hB3).setCell (by simp;omega) _
  clear hp
  go_wp2
  have hK':=(KeepsOthers.setCell V ⟨w.heap.size+1+1,0,none⟩ (.int .i64 (-1))).same D' _ hK rfl
  refine⟨by simp, .inl ⟨_,_,rfl,run_takeDeferred hK',?_⟩⟩
  have hc5:=cell_kept (World.cell?_setCell_same V ⟨w.heap.size+1+1,0,none⟩ (.int .i64 (-1)) c4) (grownBy_putObj' _ D' (.deferred none)) (fun r e=>by cases e;exact⟨_,hK',rfl⟩)
  refine⟨.int .i64 (-1),?_,by rw [er.out],bF.trans (belowK_b (w:=w) (Nat.le_refl _) _ D' _ _ (by omega) hK' rfl rfl)⟩
  simp [results,Try.results17,go_sem,hc5]
 case stop=>
  rintro D' c pre V hD' ⟨q,hq,rfl⟩ ⟨⟨rfl,ini,last,v,e1,e2,e3,hcr⟩,hB⟩ hK
  have er:Hid (r=v):=by
   unfold Hid
   have e1:=e1.out
   rw [upF_next hq]at e1
   obtain⟨rfl,e5⟩:=List.append_inj' e1 rfl
   obtain rfl:(⟨q,hq⟩:Fin (outP n).length)=last:=by simpa using e5
   rw [HRR.out]
   unfold nearV
   rw [find_some hq (fun i hi=>e2.out ⟨i,by omega⟩ ((upF_mem (by omega) ⟨i,by omega⟩).2 hi)) e3.out]
   rfl
  clear e1 e2 e3
  refine wpIn_wide.2 ?_
  go_wp2
  refine⟨by simp, .inl ⟨_,_,rfl,run_takeDeferred hK,?_⟩⟩
  have hc5:=cell_kept hcr (grownBy_putObj' _ D' (.deferred none)) (fun r e=>by cases e;exact⟨_,hK,rfl⟩)
  refine⟨.int .i64 v,?_,by rw [er.out],hB.trans (belowK_b (w:=w) (Nat.le_refl _) V D' _ _ (by omega) hK rfl rfl)⟩
  simp [results,Try.results17,go_sem,hc5]
end Go.Proofs.Ytliajdokamlnnaa
namespace Go.Proofs.Ytliajdokamlnnaa
open Go.RowKit
set_option linter.unusedVariables false
theorem hf_top_eq{u v m k:Nat}(hk:k≤m)(hu:u<65536^m)(hv:v<65536^m)(h: ∀ j,k≤j→j<m→hf.dg (u:Int) j=hf.dg (v:Int) j):u/65536^k=v/65536^k:=by
 have hlt: ∀ x:Nat,x<65536^m→x/65536^k<65536^(m- k):=fun x hx=>by
  refine Nat.div_lt_of_lt_mul ?_
  rw [←Nat.pow_add,show k+(m- k)=m by omega]
  exact hx
 refine hf.eq_of_dcells (m- k) _ _ (hlt u hu) (hlt v hv) fun j hj=>?_
 rw [Int.natCast_ediv,Int.natCast_ediv,hf.pow_cast,hf.dg_div,hf.dg_div]
 exact h _ (by omega) (by omega)
theorem cmpI_lt{x y:Int}(h:x<y):cmpI x y= -1:=by unfold cmpI;rw [if_pos h]
theorem cmpI_gt{x y:Int}(h:y<x):cmpI x y=1:=by unfold cmpI;rw [if_neg (by omega),if_pos h]
set_option maxRecDepth 100000 in
set_option maxHeartbeats 1000000 in
theorem rcmp_any(a b:Option Addr)(ca cb u v:Nat)(w:World)(ha:Sl w a (hf.nlen u) ca (hf.dcells (hf.nlen u) (u:Int)))(hb:Sl w b (hf.nlen v) cb (hf.dcells (hf.nlen v) (v:Int))):
  Calls Try.prog 55 #[.slice a (hf.nlen u) ca, .slice b (hf.nlen v) cb] w fun e w'=>e= .returned (.int .i64 (cmpI u v))∧Below w.heap.size w w':=by
 have k1:=ha.big
 have k2:=ha.room
 have k3:=hb.big
 have k4:=hb.room
 unfold maxLen at k1 k3
 rcases Nat.lt_trichotomy (hf.nlen u) (hf.nlen v)with h|h|h
 ·have HC:Hid (cmpI u v= -1):=cmpI_lt (by have:=hf.lt_of_nlen h;omega)
  go_enter Try.func55,Try.ntmps55
  go_wp2
  go_ret
  exact⟨by rw [HC.out];rfl,(by first|exact Below.refl _ _|exact below_drewN (Below.refl _ _) _|exact below_drewN (below_drewN (Below.refl _ _) _) _|exact below_drewN (below_drewN (below_drewN (Below.refl _ _) _) _) _)⟩
 ·obtain⟨m,hm⟩: ∃ m,hf.nlen u=m:=⟨_,rfl⟩
  have hv:=hf.nlen_lt v
  have hu:=hf.nlen_lt u
  rw [←h]at hb hv k4 ⊢
  rw [hm]at ha hb hu hv k2 k4 ⊢
  have HU:Hid _:=hu
  have HV:Hid _:=hv
  clear hm hu hv h
  go_enter Try.func55,Try.ntmps55
  go_wp2
  go_loopw [5] (fun i wr=> ∃ r:Nat,r≤m∧i= .int .i64 ((r:Int)- 1)∧Hid (∀ j,r≤j→j<m→hf.dg (u:Int) j=hf.dg (v:Int) j)∧ ∃ n,wr=w.drewN n) (fun i _=>(intOf i+1).toNat)
  case atStart=>exact⟨m,Nat.le_refl _,rfl,fun j h1 h2=>absurd h1 (by omega),0,rfl⟩
  case round=>
   obtain⟨r,hr,rfl,HR,n,rfl⟩:=hrel
   rcases r with _|q
   ·have HE:Hid (cmpI u v=0):=by
     obtain rfl:u=v:=hf.eq_of_dcells m u v HU.out HV.out (fun j hj=>HR.out j (Nat.zero_le _) hj)
     exact cmpI_self _
    go_wp2
    go_ret
    exact⟨by rw [HE.out];rfl,(by first|exact Below.refl _ _|exact below_drewN (Below.refl _ _) _|exact below_drewN (below_drewN (Below.refl _ _) _) _|exact below_drewN (below_drewN (below_drewN (Below.refl _ _) _) _) _)⟩
   ·obtain⟨ba,oa,rfl,hba,hsa⟩:=ha.at (by omega)
    obtain⟨bb,ob,rfl,hbb,hsb⟩:=hb.at (by omega)
    have c1:w.cell? ⟨ba,oa+q,none⟩=some (.int .i64 (hf.dg u q)):=hsa.cell q _ (hf.dcells_at _ _ _ (by omega))
    have c2:w.cell? ⟨bb,ob+q,none⟩=some (.int .i64 (hf.dg v q)):=hsb.cell q _ (hf.dcells_at _ _ _ (by omega))
    have HT:Hid (u/65536^(q+1)=v/65536^(q+1)):=hf_top_eq (by omega) HU.out HV.out HR.out
    have e1:((q+1:Nat):Int)- 1=(q:Int):=by omega
    obtain⟨X,hX⟩: ∃ X,hf.dg (u:Int) q=X:=⟨_,rfl⟩
    obtain⟨Y,hY⟩: ∃ Y,hf.dg (v:Int) q=Y:=⟨_,rfl⟩
    rcases Int.lt_trichotomy X Y with l|l|l
    ·have HC:Hid (cmpI u v= -1):=cmpI_lt (by have:=hf.lt_of_top HT.out (by rw [hX,hY];exact l);omega)
     rw [hX]at c1
     rw [hY]at c2
     clear hX hY
     go_wp2
     go_quiet (fail)
     go_wp2
     go_ret
     exact⟨by rw [HC.out];rfl,(by first|exact Below.refl _ _|exact below_drewN (Below.refl _ _) _|exact below_drewN (below_drewN (Below.refl _ _) _) _|exact below_drewN (below_drewN (below_drewN (Below.refl _ _) _) _) _)⟩
    ·have HQ:Hid (∀ j,q≤j→j<m→hf.dg (u:Int) j=hf.dg (v:Int) j):=fun j h1 h2=>by
      rcases Nat.lt_or_ge q j with h3|h3
      ·exact HR.out j h3 h2
      ·obtain rfl:j=q:=by omega
       rw [hX,hY,l]
     have l1: ¬X<Y:=by omega
     have l2: ¬Y<X:=by omega
     rw [hX]at c1
     rw [hY]at c2
     clear hX hY l
     go_wp2
     go_quiet (fail)
     go_wp2
     go_quiet (fail)
     go_wp2
     go_roundw
     case rel=>exact⟨q,by omega,by go_num,HQ.out,_,rfl⟩
     case measure=>simp [intOf]
    ·have HC:Hid (cmpI u v=1):=cmpI_gt (by have:=hf.lt_of_top HT.out.symm (by rw [hX,hY];exact l);omega)
     have l1: ¬X<Y:=by omega
     rw [hX]at c1
     rw [hY]at c2
     clear hX hY
     go_wp2
     go_quiet (fail)
     go_wp2
     go_quiet (fail)
     go_wp2
     go_ret
     exact⟨by rw [HC.out];rfl,(by first|exact Below.refl _ _|exact below_drewN (Below.refl _ _) _|exact below_drewN (below_drewN (Below.refl _ _) _) _|exact below_drewN (below_drewN (below_drewN (Below.refl _ _) _) _) _)⟩
 ·have HC:Hid (cmpI u v=1):=cmpI_gt (by have:=hf.lt_of_nlen h;omega)
  have h': ¬(hf.nlen u:Int)<hf.nlen v:=by omega
  go_enter Try.func55,Try.ntmps55
  go_wp2
  go_ret
  exact⟨by rw [HC.out];rfl,(by first|exact Below.refl _ _|exact below_drewN (Below.refl _ _) _|exact below_drewN (below_drewN (Below.refl _ _) _) _|exact below_drewN (below_drewN (below_drewN (Below.refl _ _) _) _) _)⟩
theorem push_next{w wr w2 w4:World}{k cap cap' g':Nat}{a:Option Addr}{V x:Int}(hx:x=hf.dg V k)(hown:Own wr w.heap.size 3 a k cap (hf.dcells k V))(hbel:Below w.heap.size w wr)
  (h4:w4.ownsRow w.heap.size 3 1 (.slice (some ⟨g',0,none⟩) (k+1) cap') (k+1) (hf.dcells k V++ [.int .i64 x]))
  (h2:Below wr.heap.size wr w2) (hgr:w2.grownBy w4 (Value.slice a k cap).ownBlock):Own w4 w.heap.size 3 (some ⟨g',0,none⟩) (k+1) cap' (hf.dcells (k+1) V)∧Below w.heap.size w w4:=by
 have hs:=hbel.size
 refine⟨?_,(hbel.trans (h2.mono hs)).grown hgr (by have:=h2.size;omega) (fun k' hk'=>(World.ownsRow.lt hown k' hk').1)⟩
 rw [hf.dcells_succ,←hx]
 exact h4
def RAddRel(w:World)(u v l:Nat)(o c i:Value)(wr:World):Prop:= ∃ (k cap:Nat) (ao:Option Addr),k≤l∧i= .int .i64 (k:Int)∧c= .int .i64 (hf.carry u v k)∧o= .slice ao k cap∧Own wr w.heap.size 3 ao k cap (hf.dcells k ((u:Int)+v))∧Below w.heap.size w wr
theorem radd_next{w wr w2 w4:World}{u v l k cap cap' g':Nat}{ao:Option Addr}{x:Int}(hk:k<l)(hx:x=hf.carry u v k+hf.dg u k+hf.dg v k)(hown:Own wr w.heap.size 3 ao k cap (hf.dcells k ((u:Int)+v)))(hbel:Below w.heap.size w wr)
  (h4:w4.ownsRow w.heap.size 3 1 (.slice (some ⟨g',0,none⟩) (k+1) cap') (k+1) (hf.dcells k ((u:Int)+v)++ [.int .i64 (x % 65536)]))
  (h2:Below wr.heap.size wr w2) (hgr:w2.grownBy w4 (Value.slice ao k cap).ownBlock):RAddRel w u v l (.slice (some ⟨g',0,none⟩) (k+1) cap') (.int .i64 (x/65536)) (.int .i64 ((k:Int)+1)) w4:=by
 obtain⟨h5,h6⟩:=push_next (x:=x % 65536) (by rw [hx,hf.add_digit]) hown hbel h4 h2 hgr
 exact⟨k+1,cap',_,hk,by simp,by rw [hf.carry_succ,hx],rfl,h5,h6⟩
set_option maxRecDepth 100000 in
set_option maxHeartbeats 2000000 in
theorem radd_any(a b:Option Addr)(ca cb u v:Nat)(w:World)(ha:Sl w a (hf.nlen u) ca (hf.dcells (hf.nlen u) (u:Int)))(hb:Sl w b (hf.nlen v) cb (hf.dcells (hf.nlen v) (v:Int)))(hlu:hf.nlen u≤1000000000)(hlv:hf.nlen v≤1000000000):
  Calls Try.prog 54 #[.slice a (hf.nlen u) ca, .slice b (hf.nlen v) cb] w fun e w'=> ∃ a' cap',e= .returned (.slice a' (hf.nlen (u+v)) cap')∧Own w' w.heap.size 3 a' (hf.nlen (u+v)) cap' (hf.dcells (hf.nlen (u+v)) ((u+v:Nat):Int))∧Below w.heap.size w w':=by
 obtain⟨i0,hi0,hz0,hz1,hz2⟩:=info_parts infoInt
 have hown0:=own_empty w w.heap.size 3 (Nat.le_refl _)
 have hu:=hf.nlen_lt u
 have hv:=hf.nlen_lt v
 obtain⟨lu,hlu'⟩: ∃ l,hf.nlen u=l:=⟨_,rfl⟩
 obtain⟨lv,hlv'⟩: ∃ l,hf.nlen v=l:=⟨_,rfl⟩
 rw [hlu']at ha hlu hu ⊢
 rw [hlv']at hb hlv hv ⊢
 obtain⟨L,hL1,hL2,hL3⟩: ∃ L,lu≤L∧lv≤L∧(L≤lu∨L≤lv):=⟨max lu lv,by omega,by omega,by omega⟩
 have HU:Hid (∀ k,lu≤k→hf.dg (u:Int) k=0):=fun k hk=>hf.dg_over (Nat.lt_of_lt_of_le hu (Nat.pow_le_pow_right (by decide) hk))
 have HV:Hid (∀ k,lv≤k→hf.dg (v:Int) k=0):=fun k hk=>hf.dg_over (Nat.lt_of_lt_of_le hv (Nat.pow_le_pow_right (by decide) hk))
 have HS:Hid (u+v<65536^(L+1)):=by
  have h1:=Nat.pow_le_pow_right (n:=65536) (by decide) hL1
  have h2:=Nat.pow_le_pow_right (n:=65536) (by decide) hL2
  unfold Hid
  rw [Nat.pow_succ];omega
 have HE:Hid ((u:Int)+v=((u+v:Nat):Int)):=by unfold Hid;omega
 clear hu hv hlu' hlv'
 go_enter Try.func54,Try.ntmps54
 go_wp2
 go_loopw [5,6,7] (fun o c i wr=>RAddRel w u v L o c i wr) (fun _ _ i _=>L- (intOf i).toNat)
 case atStart=>exact⟨0,0,_,by omega,rfl,by rw [hf.carry_zero],rfl,hown0,(Below.refl _ _).alloc (Nat.le_refl _) _⟩
 case round=>
  clear hown0
  obtain⟨k,cap,ao,hk,rfl,rfl,rfl,hown,hbel⟩:=hrel
  have hsz:=hbel.size
  obtain⟨f0,f1⟩:=hf.carry_range u v k
  obtain⟨d0,d1⟩:=hf.dg_range u k
  obtain⟨e0,e1⟩:=hf.dg_range v k
  obtain⟨C,hC⟩: ∃ C,hf.carry (u:Int) v k=C:=⟨_,rfl⟩
  obtain⟨X,hX⟩: ∃ X,hf.dg (u:Int) k=X:=⟨_,rfl⟩
  obtain⟨Y,hY⟩: ∃ Y,hf.dg (v:Int) k=Y:=⟨_,rfl⟩
  rw [hC]at f0 f1
  rw [hX]at d0 d1
  rw [hY]at e0 e1
  by_cases h1:k<lu
  ·obtain⟨ba,oa,rfl,hba,hsa⟩:=ha.at (by omega)
   have r1:=ha.room
   have c1:wr.cell? ⟨ba,oa+k,none⟩=some (.int .i64 X):=(hbel.cell (p:=⟨ba,oa+k,none⟩) hba).trans (by rw [←hX];exact hsa.cell k _ (hf.dcells_at _ _ _ h1))
   by_cases h2:k<lv
   ·obtain⟨bb,ob,rfl,hbb,hsb⟩:=hb.at (by omega)
    have r2:=hb.room
    have c2:wr.cell? ⟨bb,ob+k,none⟩=some (.int .i64 Y):=(hbel.cell (p:=⟨bb,ob+k,none⟩) hbb).trans (by rw [←hY];exact hsb.cell k _ (hf.dcells_at _ _ _ h2))
    have HN:Hid _:=fun w2 w4 g' cap'=>radd_next (l:=L) (x:=C+X+Y) (w2:=w2) (w4:=w4) (g':=g') (cap':=cap') (by omega) (by rw [hC,hX,hY]) hown hbel
    rw [hC]
    clear hC hX hY
    go_wp2_with (at_builtin;refine wpList_append_lies _ rfl (.tmp 41) (.tmp 44) 58 rfl w.heap.size 3 i0 (.int .i64 0) 1 8 Try.underlying58 hi0 hz0 hz1 hz2 rfl (by decide) (.slice ao k cap) (k) (hf.dcells k ((u:Int)+v)) rfl (World.ownsRow.alloc hown _) ⟨wr.heap.size,0,none⟩ 1 1 [.int .i64 ((C+X+Y) % 65536)] rfl rfl (cell_one_new _ _ _) (ints_oneCell .i64 [(C+X+Y) % 65536]) (by decide) (by unfold maxLen;omega) (by omega) (by simp;omega) _ rfl ?_;intro g' cap' w4 hown4 hgrow4 hat4 hlt4)
    go_roundw
    case rel=>exact HN.out _ w4 g' cap' hown4 ((Below.refl _ _).alloc (Nat.le_refl _) _) hgrow4
    case measure=>simp [intOf];omega
   ·have HN:Hid _:=fun w2 w4 g' cap'=>radd_next (l:=L) (x:=C+X) (w2:=w2) (w4:=w4) (g':=g') (cap':=cap') (by omega) (by rw [hC,hX,HV.out k (by omega)];omega) hown hbel
    have h2': ¬(k:Int)<lv:=by omega
    rw [hC]
    clear hC hX hY
    go_wp2_with (at_builtin;refine wpList_append_lies _ rfl (.tmp 41) (.tmp 44) 58 rfl w.heap.size 3 i0 (.int .i64 0) 1 8 Try.underlying58 hi0 hz0 hz1 hz2 rfl (by decide) (.slice ao k cap) (k) (hf.dcells k ((u:Int)+v)) rfl (World.ownsRow.alloc hown _) ⟨wr.heap.size,0,none⟩ 1 1 [.int .i64 ((C+X) % 65536)] rfl rfl (cell_one_new _ _ _) (ints_oneCell .i64 [(C+X) % 65536]) (by decide) (by unfold maxLen;omega) (by omega) (by simp;omega) _ rfl ?_;intro g' cap' w4 hown4 hgrow4 hat4 hlt4)
    go_roundw
    case rel=>exact HN.out _ w4 g' cap' hown4 ((Below.refl _ _).alloc (Nat.le_refl _) _) hgrow4
    case measure=>simp [intOf];omega
  ·by_cases h2:k<lv
   ·obtain⟨bb,ob,rfl,hbb,hsb⟩:=hb.at (by omega)
    have r2:=hb.room
    have c2:wr.cell? ⟨bb,ob+k,none⟩=some (.int .i64 Y):=(hbel.cell (p:=⟨bb,ob+k,none⟩) hbb).trans (by rw [←hY];exact hsb.cell k _ (hf.dcells_at _ _ _ h2))
    have HN:Hid _:=fun w2 w4 g' cap'=>radd_next (l:=L) (x:=C+Y) (w2:=w2) (w4:=w4) (g':=g') (cap':=cap') (by omega) (by rw [hC,hY,HU.out k (by omega)];omega) hown hbel
    have h1': ¬(k:Int)<lu:=by omega
    rw [hC]
    clear hC hX hY
    go_wp2_with (at_builtin;refine wpList_append_lies _ rfl (.tmp 41) (.tmp 44) 58 rfl w.heap.size 3 i0 (.int .i64 0) 1 8 Try.underlying58 hi0 hz0 hz1 hz2 rfl (by decide) (.slice ao k cap) (k) (hf.dcells k ((u:Int)+v)) rfl (World.ownsRow.alloc hown _) ⟨wr.heap.size,0,none⟩ 1 1 [.int .i64 ((C+Y) % 65536)] rfl rfl (cell_one_new _ _ _) (ints_oneCell .i64 [(C+Y) % 65536]) (by decide) (by unfold maxLen;omega) (by omega) (by simp;omega) _ rfl ?_;intro g' cap' w4 hown4 hgrow4 hat4 hlt4)
    go_roundw
    case rel=>exact HN.out _ w4 g' cap' hown4 ((Below.refl _ _).alloc (Nat.le_refl _) _) hgrow4
    case measure=>simp [intOf];omega
   ·obtain rfl:k=L:=by omega
    have HC2:Hid (C=hf.dg ((u:Int)+v) k):=by
     have h:=hf.add_digit u v k
     rw [hC,hX,hY]at h
     have hx0:=HU.out k (by omega)
     have hy0:=HV.out k (by omega)
     rw [hX]at hx0
     rw [hY]at hy0
     unfold Hid
     omega
    have h1': ¬(k:Int)<lu:=by omega
    have h2': ¬(k:Int)<lv:=by omega
    have HN:Hid _:=fun w2 w4 g' cap'=>push_next (x:=C) (w2:=w2) (w4:=w4) (g':=g') (cap':=cap') HC2.out hown hbel
    rw [hC]
    clear hC hX hY
    go_wp2_with (first
     |(at_builtin;refine wpList_append_lies _ rfl (.tmp 48) (.tmp 50) 58 rfl w.heap.size 3 i0 (.int .i64 0) 1 8 Try.underlying58 hi0 hz0 hz1 hz2 rfl (by decide) (.slice ao k cap) (k) (hf.dcells k ((u:Int)+v)) rfl (World.ownsRow.alloc hown _) ⟨wr.heap.size,0,none⟩ 1 1 [.int .i64 (C)] rfl rfl (cell_one_new _ _ _) (ints_oneCell .i64 [C]) (by decide) (by unfold maxLen;omega) (by omega) (by simp;omega) _ rfl ?_;intro g' cap' w4 hown4 hgrow4 hat4 hlt4)
     |(go_at_call 57;have hnx:=HN.out _ w4 g' cap' hown4 ((Below.refl _ _).alloc (Nat.le_refl _) _) hgrow4;rw [HE.out]at hnx;refine(rtrim_own _ _ _ (u+v) _ _ hnx.1 HS.out).mono ?_;rintro e w' ⟨rfl,hw,hown5⟩;subst hw))
    go_ret
    exact⟨_,cap',rfl,hown5,hnx.2⟩
def RSubRel(w:World)(u v l:Nat)(o c i:Value)(wr:World):Prop:= ∃ (k cap:Nat) (ao:Option Addr),k≤l∧i= .int .i64 (k:Int)∧c= .int .i64 (hf.bw u v k)∧o= .slice ao k cap∧Own wr w.heap.size 3 ao k cap (hf.dcells k ((u:Int)- v))∧Below w.heap.size w wr
theorem rsub_next{w wr w2 w4:World}{u v l k cap cap' g':Nat}{ao:Option Addr}{x c:Int}(hk:k<l)(hx:(x=hf.dg u k- hf.dg v k- hf.bw u v k∧0≤x∧c=0)∨(x=hf.dg u k- hf.dg v k- hf.bw u v k+65536∧x<65536∧c=1))(hown:Own wr w.heap.size 3 ao k cap (hf.dcells k ((u:Int)- v)))(hbel:Below w.heap.size w wr)
  (h4:w4.ownsRow w.heap.size 3 1 (.slice (some ⟨g',0,none⟩) (k+1) cap') (k+1) (hf.dcells k ((u:Int)- v)++ [.int .i64 x]))
  (h2:Below wr.heap.size wr w2) (hgr:w2.grownBy w4 (Value.slice ao k cap).ownBlock):RSubRel w u v l (.slice (some ⟨g',0,none⟩) (k+1) cap') (.int .i64 c) (.int .i64 ((k:Int)+1)) w4:=by
 have d:=hf.dg_range u k
 have e:=hf.dg_range v k
 have f:=hf.bw_range u v k
 have hd:=hf.sub_digit u v k
 have hb:=hf.bw_succ u v k
 obtain⟨h5,h6⟩:=push_next (x:=x) (by rw [←hd];omega) hown hbel h4 h2 hgr
 refine⟨k+1,cap',_,hk,by simp,?_,rfl,h5,h6⟩
 rw [←hb]
 unfold hf.bor
 rcases hx with⟨h,h0,rfl⟩|⟨h,h0,rfl⟩
 ·rw [if_neg (by omega)]
 ·rw [if_pos (by omega)]
set_option maxRecDepth 100000 in
set_option maxHeartbeats 2000000 in
theorem rsub_any(a b:Option Addr)(ca cb u v:Nat)(w:World)(ha:Sl w a (hf.nlen u) ca (hf.dcells (hf.nlen u) (u:Int)))(hb:Sl w b (hf.nlen v) cb (hf.dcells (hf.nlen v) (v:Int)))(hlu:hf.nlen u≤1000000000)(hlv:hf.nlen v≤1000000000)(hle:v≤u):
  Calls Try.prog 56 #[.slice a (hf.nlen u) ca, .slice b (hf.nlen v) cb] w fun e w'=> ∃ a' cap',e= .returned (.slice a' (hf.nlen (u- v)) cap')∧Own w' w.heap.size 3 a' (hf.nlen (u- v)) cap' (hf.dcells (hf.nlen (u- v)) ((u- v:Nat):Int))∧Below w.heap.size w w':=by
 obtain⟨i0,hi0,hz0,hz1,hz2⟩:=info_parts infoInt
 have hown0:=own_empty w w.heap.size 3 (Nat.le_refl _)
 have hu:=hf.nlen_lt u
 have hv:=hf.nlen_lt v
 obtain⟨lu,hlu'⟩: ∃ l,hf.nlen u=l:=⟨_,rfl⟩
 obtain⟨lv,hlv'⟩: ∃ l,hf.nlen v=l:=⟨_,rfl⟩
 rw [hlu']at ha hlu hu ⊢
 rw [hlv']at hb hlv hv ⊢
 have HV:Hid (∀ k,lv≤k→hf.dg (v:Int) k=0):=fun k hk=>hf.dg_over (Nat.lt_of_lt_of_le hv (Nat.pow_le_pow_right (by decide) hk))
 have HS:Hid (u- v<65536^lu):=by unfold Hid;omega
 have HE:Hid ((u:Int)- v=((u- v:Nat):Int)):=by unfold Hid;omega
 clear hu hv hlu' hlv' hle
 go_enter Try.func56,Try.ntmps56
 go_wp2
 go_loopw [5,6,7] (fun o c i wr=>RSubRel w u v lu o c i wr) (fun _ _ i _=>lu- (intOf i).toNat)
 case atStart=>exact⟨0,0,_,by omega,rfl,by rw [hf.bw_zero],rfl,hown0,(Below.refl _ _).alloc (Nat.le_refl _) _⟩
 case round=>
  clear hown0
  obtain⟨k,cap,ao,hk,rfl,rfl,rfl,hown,hbel⟩:=hrel
  have hsz:=hbel.size
  obtain⟨f0,f1⟩:=hf.bw_range u v k
  obtain⟨d0,d1⟩:=hf.dg_range u k
  obtain⟨e0,e1⟩:=hf.dg_range v k
  obtain⟨C,hC⟩: ∃ C,hf.bw (u:Int) v k=C:=⟨_,rfl⟩
  obtain⟨X,hX⟩: ∃ X,hf.dg (u:Int) k=X:=⟨_,rfl⟩
  obtain⟨Y,hY⟩: ∃ Y,hf.dg (v:Int) k=Y:=⟨_,rfl⟩
  rw [hC]at f0 f1
  rw [hX]at d0 d1
  rw [hY]at e0 e1
  by_cases h1:k<lu
  ·obtain⟨ba,oa,rfl,hba,hsa⟩:=ha.at (by omega)
   have r1:=ha.room
   have c1:wr.cell? ⟨ba,oa+k,none⟩=some (.int .i64 X):=(hbel.cell (p:=⟨ba,oa+k,none⟩) hba).trans (by rw [←hX];exact hsa.cell k _ (hf.dcells_at _ _ _ h1))
   by_cases h2:k<lv
   ·obtain⟨bb,ob,rfl,hbb,hsb⟩:=hb.at (by omega)
    have r2:=hb.room
    have c2:wr.cell? ⟨bb,ob+k,none⟩=some (.int .i64 Y):=(hbel.cell (p:=⟨bb,ob+k,none⟩) hbb).trans (by rw [←hY];exact hsb.cell k _ (hf.dcells_at _ _ _ h2))
    by_cases hn:X- C- Y<0
    ·have HN:Hid _:=fun w2 w4 g' cap'=>rsub_next (l:=lu) (c:=1) (x:=X- C- Y+65536) (w2:=w2) (w4:=w4) (g':=g') (cap':=cap') (by omega) (Or.inr ⟨by rw [hC,hX,hY];omega,by omega,rfl⟩) hown hbel
     rw [hC]
     clear hC hX hY
     go_wp2_with (at_builtin;refine wpList_append_lies _ rfl (.tmp 36) (.tmp 38) 58 rfl w.heap.size 3 i0 (.int .i64 0) 1 8 Try.underlying58 hi0 hz0 hz1 hz2 rfl (by decide) (.slice ao k cap) (k) (hf.dcells k ((u:Int)- v)) rfl (World.ownsRow.alloc hown _) ⟨wr.heap.size,0,none⟩ 1 1 [.int .i64 (X- C- Y+65536)] rfl rfl (cell_one_new _ _ _) (ints_oneCell .i64 [X- C- Y+65536]) (by decide) (by unfold maxLen;omega) (by omega) (by simp;omega) _ rfl ?_;intro g' cap' w4 hown4 hgrow4 hat4 hlt4)
     go_roundw
     case rel=>exact HN.out _ w4 g' cap' hown4 ((Below.refl _ _).alloc (Nat.le_refl _) _) hgrow4
     case measure=>simp [intOf];omega
    ·have HN:Hid _:=fun w2 w4 g' cap'=>rsub_next (l:=lu) (c:=0) (x:=X- C- Y) (w2:=w2) (w4:=w4) (g':=g') (cap':=cap') (by omega) (Or.inl ⟨by rw [hC,hX,hY];omega,by omega,rfl⟩) hown hbel
     rw [hC]
     clear hC hX hY
     go_wp2_with (at_builtin;refine wpList_append_lies _ rfl (.tmp 36) (.tmp 38) 58 rfl w.heap.size 3 i0 (.int .i64 0) 1 8 Try.underlying58 hi0 hz0 hz1 hz2 rfl (by decide) (.slice ao k cap) (k) (hf.dcells k ((u:Int)- v)) rfl (World.ownsRow.alloc hown _) ⟨wr.heap.size,0,none⟩ 1 1 [.int .i64 (X- C- Y)] rfl rfl (cell_one_new _ _ _) (ints_oneCell .i64 [X- C- Y]) (by decide) (by unfold maxLen;omega) (by omega) (by simp;omega) _ rfl ?_;intro g' cap' w4 hown4 hgrow4 hat4 hlt4)
     go_roundw
     case rel=>exact HN.out _ w4 g' cap' hown4 ((Below.refl _ _).alloc (Nat.le_refl _) _) hgrow4
     case measure=>simp [intOf];omega
   ·have h2': ¬(k:Int)<lv:=by omega
    have hY0:=HV.out k (by omega)
    by_cases hn:X- C<0
    ·have HN:Hid _:=fun w2 w4 g' cap'=>rsub_next (l:=lu) (c:=1) (x:=X- C+65536) (w2:=w2) (w4:=w4) (g':=g') (cap':=cap') (by omega) (Or.inr ⟨by rw [hC,hX,hY0];omega,by omega,rfl⟩) hown hbel
     rw [hC]
     clear hC hX hY hY0
     go_wp2_with (at_builtin;refine wpList_append_lies _ rfl (.tmp 36) (.tmp 38) 58 rfl w.heap.size 3 i0 (.int .i64 0) 1 8 Try.underlying58 hi0 hz0 hz1 hz2 rfl (by decide) (.slice ao k cap) (k) (hf.dcells k ((u:Int)- v)) rfl (World.ownsRow.alloc hown _) ⟨wr.heap.size,0,none⟩ 1 1 [.int .i64 (X- C+65536)] rfl rfl (cell_one_new _ _ _) (ints_oneCell .i64 [X- C+65536]) (by decide) (by unfold maxLen;omega) (by omega) (by simp;omega) _ rfl ?_;intro g' cap' w4 hown4 hgrow4 hat4 hlt4)
     go_roundw
     case rel=>exact HN.out _ w4 g' cap' hown4 ((Below.refl _ _).alloc (Nat.le_refl _) _) hgrow4
     case measure=>simp [intOf];omega
    ·have HN:Hid _:=fun w2 w4 g' cap'=>rsub_next (l:=lu) (c:=0) (x:=X- C) (w2:=w2) (w4:=w4) (g':=g') (cap':=cap') (by omega) (Or.inl ⟨by rw [hC,hX,hY0];omega,by omega,rfl⟩) hown hbel
     rw [hC]
     clear hC hX hY hY0
     go_wp2_with (at_builtin;refine wpList_append_lies _ rfl (.tmp 36) (.tmp 38) 58 rfl w.heap.size 3 i0 (.int .i64 0) 1 8 Try.underlying58 hi0 hz0 hz1 hz2 rfl (by decide) (.slice ao k cap) (k) (hf.dcells k ((u:Int)- v)) rfl (World.ownsRow.alloc hown _) ⟨wr.heap.size,0,none⟩ 1 1 [.int .i64 (X- C)] rfl rfl (cell_one_new _ _ _) (ints_oneCell .i64 [X- C]) (by decide) (by unfold maxLen;omega) (by omega) (by simp;omega) _ rfl ?_;intro g' cap' w4 hown4 hgrow4 hat4 hlt4)
     go_roundw
     case rel=>exact HN.out _ w4 g' cap' hown4 ((Below.refl _ _).alloc (Nat.le_refl _) _) hgrow4
     case measure=>simp [intOf];omega
  ·obtain rfl:k=lu:=by omega
   rw [HE.out]at hown
   clear hC hX hY
   go_wp2_with (go_at_call 57;refine(rtrim_own _ _ _ (u- v) _ _ hown HS.out).mono ?_;rintro e w' ⟨rfl,hw,hown5⟩;subst hw)
   go_ret
   exact⟨_,cap,rfl,hown5,hbel⟩
def RMulIn(w:World)(b N lv i:Nat)(O x v:Int)(c kv:Value)(wr:World):Prop:= ∃ k:Nat,k≤lv∧kv= .int .i64 (k:Int)∧c= .int .i64 (hf.cy O x v i k)∧Own wr w.heap.size 3 (some ⟨b,0,none⟩) N N (hf.mix N (i+k) (O+x*65536^i*v) O)∧Below w.heap.size w wr
theorem rmul_next{w wr:World}{b N lv i k n:Nat}{O x v t:Int}(hk:k<lv)(hN:i+lv≤N)(ht:t=hf.cy O x v i k+hf.dg O (i+k)+x*hf.dg v k)(hown:Own wr w.heap.size 3 (some ⟨b,0,none⟩) N N (hf.mix N (i+k) (O+x*65536^i*v) O))(hbel:Below w.heap.size w wr):
  RMulIn w b N lv i O x v (.int .i64 (t/65536)) (.int .i64 ((k:Int)+1)) ((wr.drewN n).setCell ⟨b,i+k,none⟩ (.int .i64 (t % 65536))):=by
 have hown':Own (wr.drewN n) w.heap.size 3 (some ⟨b,0,none⟩) N N (hf.mix N (i+k) (O+x*65536^i*v) O):=hown
 refine⟨k+1,hk,by simp,by rw [ht,hf.cy_succ],?_,(below_drewN hbel n).setCell (seg_of_own hown).2.2 _⟩
 rw [ht,hf.mul_digit,←Nat.add_assoc,←hf.mix_set]
 exact Own.set hown' _ (by omega)
def RMulOut(w:World)(b lu lv u v:Nat)(iv:Value)(wr:World):Prop:= ∃ i:Nat,i≤lu∧iv= .int .i64 (i:Int)∧Own wr w.heap.size 3 (some ⟨b,0,none⟩) (lu+lv) (lu+lv) (hf.dcells (lu+lv) ((u % 65536^i*v:Nat):Int))∧Below w.heap.size w wr
theorem hpart_lt{u v k lb:Nat}(hv:v<65536^lb):u % 65536^k*v<65536^(k+lb):=by
 rw [Nat.pow_add]
 exact Nat.mul_lt_mul_of_lt_of_le (Nat.mod_lt _ (hf.pow_nat k)) (Nat.le_of_lt hv) (hf.pow_nat lb)
theorem hpart_next(u v k:Nat):((u % 65536^k*v:Nat):Int)+hf.dg u k*65536^k*v=((u % 65536^(k+1)*v:Nat):Int):=by
 rw [Int.natCast_mul,Int.natCast_mul,Int.natCast_emod,Int.natCast_emod,hf.pow_cast,hf.pow_cast]
 exact hf.mul_next u v k
theorem rmul_last{w wr:World}{b lu lv u v i:Nat}{c O X:Int}(hO:O=((u % 65536^i*v:Nat):Int))(hX:X=hf.dg (u:Int) i)(hi:i<lu)(hv:v<65536^lv)(hc:c=hf.cy O X v i lv)
  (hown:Own wr w.heap.size 3 (some ⟨b,0,none⟩) (lu+lv) (lu+lv) (hf.mix (lu+lv) (i+lv) (O+X*65536^i*v) O)) (hbel:Below w.heap.size w wr):
  RMulOut w b lu lv u v (.int .i64 ((i:Int)+1)) (wr.setCell ⟨b,i+lv,none⟩ (.int .i64 c)):=by
 subst hO hX
 refine⟨i+1,hi,by simp,?_,hbel.setCell (seg_of_own hown).2.2 _⟩
 have hd:=hf.mul_digit ((u % 65536^i*v:Nat):Int) (hf.dg u i) v i lv
 have h0:hf.dg ((u % 65536^i*v:Nat):Int) (i+lv)=0:=hf.dg_over (hpart_lt hv)
 have h1:hf.dg (v:Int) lv=0:=hf.dg_over hv
 have hr:=hf.cy_range ((u % 65536^i*v:Nat):Int) (hf.dg u i) v i lv (hf.dg_range u i).1 (hf.dg_range u i).2
 rw [h0,h1,←hc,Int.mul_zero]at hd
 rw [←hc]at hr
 have hc2:c=hf.dg (((u % 65536^i*v:Nat):Int)+hf.dg u i*65536^i*v) (i+lv):=by rw [←hd];omega
 have:=Own.set hown (i:=i+lv) (.int .i64 c) (by omega)
 rw [hc2,hf.mix_set]at this
 rw [hc2]
 have e:hf.mix (lu+lv) (i+lv+1) (((u % 65536^i*v:Nat):Int)+hf.dg u i*65536^i*v) ((u % 65536^i*v:Nat):Int)=hf.dcells (lu+lv) ((u % 65536^(i+1)*v:Nat):Int):=by
  rw [←hpart_next,←hf.mix_full (lu+lv) (((u % 65536^i*v:Nat):Int)+hf.dg u i*65536^i*v) ((u % 65536^i*v:Nat):Int)]
  refine hf.fill_congr fun j hj=>?_
  by_cases h:j<i+lv+1
  ·simp [h,hj]
  ·have z1:hf.dg ((u % 65536^i*v:Nat):Int) j=0:=hf.dg_over (Nat.lt_of_lt_of_le (hpart_lt hv) (Nat.pow_le_pow_right (by decide) (by omega)))
   have z2:hf.dg (((u % 65536^i*v:Nat):Int)+hf.dg u i*65536^i*v) j=0:=by
    rw [hpart_next]
    exact hf.dg_over (Nat.lt_of_lt_of_le (hpart_lt hv) (Nat.pow_le_pow_right (by decide) (by omega)))
   rw [z1,z2];simp
 rw [←e]
 exact this
set_option maxRecDepth 100000 in
set_option maxHeartbeats 2000000 in
theorem rmul_any(a b:Option Addr)(ca cb u v:Nat)(w:World)(ha:Sl w a (hf.nlen u) ca (hf.dcells (hf.nlen u) (u:Int)))(hb:Sl w b (hf.nlen v) cb (hf.dcells (hf.nlen v) (v:Int)))(hlu:hf.nlen u≤1000000000)(hlv:hf.nlen v≤1000000000):
  Calls Try.prog 60 #[.slice a (hf.nlen u) ca, .slice b (hf.nlen v) cb] w fun e w'=> ∃ a' cap',e= .returned (.slice a' (hf.nlen (u*v)) cap')∧Own w' w.heap.size 3 a' (hf.nlen (u*v)) cap' (hf.dcells (hf.nlen (u*v)) ((u*v:Nat):Int))∧Below w.heap.size w w':=by
 obtain⟨i0,hi0,hz0,hz1,hz2⟩:=info_parts infoInt
 have hu:=hf.nlen_lt u
 have hv:=hf.nlen_lt v
 obtain⟨lu,hlu'⟩: ∃ l,hf.nlen u=l:=⟨_,rfl⟩
 obtain⟨lv,hlv'⟩: ∃ l,hf.nlen v=l:=⟨_,rfl⟩
 rw [hlu']at ha hlu hu ⊢
 rw [hlv']at hb hlv hv ⊢
 have HM:Hid (u % 65536^lu=u):=Nat.mod_eq_of_lt hu
 have HV:Hid _:=hv
 have HS:Hid (u*v<65536^(lu+lv)):=by have:=hpart_lt (u:=u) (k:=lu) hv;rwa [HM.out]at this
 have hz0':hf.dcells (lu+lv) 0=List.replicate (lu+lv) (.int .i64 0):=hf.dcells_zero _
 have HZ:Hid _:=hz0'
 have hmax:lu+lv≤maxLen:=by unfold maxLen;omega
 clear hu hv hlu' hlv' hz0'
 go_enter Try.func60,Try.ntmps60
 go_wp2_with (at_make;refine make_any _ rfl (.tmp 13) (.tmp 13) 58 rfl w.heap.size 3 i0 (.int .i64 0) Try.underlying58 hi0 hz0 hz1 rfl .i64 .i64 _ _ (lu+lv) rfl rfl (by simp) (by simp) (by rw [hz2];omega) (by omega) (Nat.le_refl _) ?_;intro w1 hown hbel)
 rw [←HZ.out]at hown
 go_loopw [6] (fun iv wr=>RMulOut w w.heap.size lu lv u v iv wr) (fun iv _=>lu- (intOf iv).toNat)
 case atStart=>exact⟨0,by omega,rfl,by rw [Nat.pow_zero,Nat.mod_one,Nat.zero_mul];exact hown,hbel⟩
 case round=>
  clear hown hbel
  obtain⟨i,hi,rfl,hown,hbel⟩:=hrel
  by_cases hlt:i<lu
  ·obtain⟨ba,oa,rfl,hba,hsa⟩:=ha.at (by omega)
   have r1:=ha.room
   obtain⟨X,hX⟩: ∃ X,X=hf.dg (u:Int) i:=⟨_,rfl⟩
   obtain⟨O,hO⟩: ∃ O,O=((u % 65536^i*v:Nat):Int):=⟨_,rfl⟩
   obtain⟨x0,x1⟩:=hf.dg_range u i
   have c0:w.cell? ⟨ba,oa+i,none⟩=some (.int .i64 X):=by rw [hX];exact hsa.cell i _ (hf.dcells_at _ _ _ hlt)
   rw [←hX]at x0 x1
   have HI:Hid (RMulIn w w.heap.size (lu+lv) lv i O X v (.int .i64 0) (.int .i64 0) wr):=⟨0,by omega,rfl,by rw [hf.cy_zero],by rw [Nat.add_zero,hf.mix_start,hO];exact hown,hbel⟩
   have HL:Hid _:=fun(wr:World) (c:Int)=>rmul_last (w:=w) (wr:=wr) (b:=w.heap.size) (c:=c) hO hX hlt HV.out
   clear hown hbel hX hO
   go_wp2
   go_loopw [7,8] (fun c kv wr=>RMulIn w w.heap.size (lu+lv) lv i O X v c kv wr) (fun _ kv _=>lv- (intOf kv).toNat)
   case atStart=>exact HI.out
   case round=>
    obtain⟨k,hk,rfl,rfl,hown,hbel⟩:=hrel
    obtain⟨f0,f1⟩:=hf.cy_range O X v i k x0 x1
    by_cases hlk:k<lv
    ·obtain⟨bb,ob,rfl,hbb,hsb⟩:=hb.at (by omega)
     have r2:=hb.room
     have c1:wr.cell? ⟨ba,oa+i,none⟩=some (.int .i64 X):=(hbel.cell (p:=⟨ba,oa+i,none⟩) hba).trans c0
     have c2:wr.cell? ⟨bb,ob+k,none⟩=some (.int .i64 (hf.dg v k)):=(hbel.cell (p:=⟨bb,ob+k,none⟩) hbb).trans (hsb.cell k _ (hf.dcells_at _ _ _ hlk))
     have c3:wr.cell? ⟨w.heap.size,i+k,none⟩=some (.int .i64 (hf.dg O (i+k))):=Own.cell hown _ _ (hf.mix_at _ _ _ _ _ (by omega) (Nat.le_refl _))
     have c4:wr.frozen? ⟨w.heap.size,i+k,none⟩=false:=Own.free hown _ (by omega)
     obtain⟨d0,d1⟩:=hf.dg_range v k
     obtain⟨e0,e1⟩:=hf.dg_range O (i+k)
     have HN:Hid _:=fun n=>rmul_next (n:=n) hlk (by omega) rfl hown hbel
     obtain⟨C,hC⟩: ∃ C,hf.cy O X v i k=C:=⟨_,rfl⟩
     obtain⟨Y,hY⟩: ∃ Y,hf.dg (v:Int) k=Y:=⟨_,rfl⟩
     obtain⟨D,hD⟩: ∃ D,hf.dg O (i+k)=D:=⟨_,rfl⟩
     rw [hC]at f0 f1 HN ⊢
     rw [hY]at c2 d0 d1 HN
     rw [hD]at c3 e0 e1 HN
     have m0:0≤X*Y:=Int.mul_nonneg x0 d0
     have m1:X*Y≤4294836225:=by have:=Int.mul_le_mul (show X≤65535 by omega) (show Y≤65535 by omega) d0 (by decide);omega
     clear hown hC hY hD
     go_wp2
     go_quiet (fail)
     go_wp2
     go_roundw
     case rel=>exact HN.out _
     case measure=>simp [intOf];omega
    ·obtain rfl:k=lv:=by omega
     have c3:wr.cell? ⟨w.heap.size,i+k,none⟩=some (.int .i64 (hf.dg O (i+k))):=Own.cell hown _ _ (hf.mix_at _ _ _ _ _ (by omega) (Nat.le_refl _))
     have c4:wr.frozen? ⟨w.heap.size,i+k,none⟩=false:=Own.free hown _ (by omega)
     have HN:Hid _:=HL.out wr _ rfl hown hbel
     clear hown
     go_wp2
     go_roundw
     case rel=>exact HN.out
     case measure=>simp [intOf];omega
  ·obtain rfl:i=lu:=by omega
   rw [HM.out]at hown
   go_wp2_with (go_at_call 57;refine(rtrim_own _ _ _ (u*v) _ _ hown HS.out).mono ?_;rintro e w' ⟨rfl,hw,hown5⟩;subst hw)
   go_ret
   exact⟨_,_,rfl,hown5,hbel⟩
structure HD(w:World)(a:Option Addr)(l c u:Nat):Prop where
 sl:Sl w a l c (hf.dcells l (u:Int))
 len:l=hf.nlen u
theorem HD.below{w w':World}{a:Option Addr}{l c u:Nat}(h:HD w a l c u)(hb:Below w.heap.size w w'):HD w' a l c u:=⟨h.sl.below hb,h.len⟩
theorem hd_nil(w:World):HD w none 0 0 0:=⟨sl_nil w,hf.nlen_zero.symm⟩
theorem hfew{u K:Nat}(hu:u<4294967296^K)(hK:K≤500000):hf.nlen u≤1000000:=by
 have:hf.nlen u≤2*K:=hf.nlen_le (by rw [pow_halves];exact hu)
 omega
theorem hCmp(a b:Option Addr)(la lb ca cb u v:Nat)(w:World)(ha:HD w a la ca u)(hb:HD w b lb cb v){c:Int}(hc:c=cmpI u v):Calls Try.prog 55 #[.slice a la ca, .slice b lb cb] w fun e w'=>e= .returned (.int .i64 c)∧Below w.heap.size w w':=by
 obtain⟨ha,rfl⟩:=ha
 obtain⟨hb,rfl⟩:=hb
 subst hc
 exact rcmp_any a b ca cb u v w ha hb
theorem HD.put{w:World}{a:Option Addr}{l c u b:Nat}(h:HD w a l c u)(hn:NA b a l)(i:Nat)(v:Value):HD (w.setCell ⟨b,i,none⟩ v) a l c u:=⟨h.sl.put hn i v,h.len⟩
def GotHF(w:World)(u:Nat)(e:Ending)(w':World):Prop:= ∃ a l c,e= .returned (.slice a l c)∧HD w' a l c u∧Far w.heap.size a l∧Below w.heap.size w w'
theorem gotHF{w w':World}{u:Nat}{e:Ending}(h: ∃ a' cap',e= .returned (.slice a' (hf.nlen u) cap')∧Own w' w.heap.size 3 a' (hf.nlen u) cap' (hf.dcells (hf.nlen u) (u:Int))∧Below w.heap.size w w'):GotHF w u e w':=by
 obtain⟨a,c,he,ho,hb⟩:=h
 exact⟨a,_,c,he,⟨Own.sl ho,rfl⟩,Own.far ho,hb⟩
theorem hfOf(a:Option Addr)(l c u:Nat)(w:World)(h:NI w a l c u):Calls Try.prog 50 #[.slice a l c] w (GotHF w u):=
 (rof_any a l c u w h.sl h.lt (by have:=h.few;omega)).mono fun _ _ h=>gotHF h
theorem hfAdd(a b:Option Addr)(la lb ca cb u v:Nat)(w:World)(ha:HD w a la ca u)(hb:HD w b lb cb v)(fu:hf.nlen u≤1000000)(fv:hf.nlen v≤1000000):Calls Try.prog 54 #[.slice a la ca, .slice b lb cb] w (GotHF w (u+v)):=by
 obtain⟨ha,rfl⟩:=ha
 obtain⟨hb,rfl⟩:=hb
 exact(radd_any a b ca cb u v w ha hb (by omega) (by omega)).mono fun _ _ h=>gotHF h
theorem hfSub(a b:Option Addr)(la lb ca cb u v:Nat)(w:World)(ha:HD w a la ca u)(hb:HD w b lb cb v)(fu:hf.nlen u≤1000000)(fv:hf.nlen v≤1000000)(hle:v≤u):Calls Try.prog 56 #[.slice a la ca, .slice b lb cb] w (GotHF w (u- v)):=by
 obtain⟨ha,rfl⟩:=ha
 obtain⟨hb,rfl⟩:=hb
 exact(rsub_any a b ca cb u v w ha hb (by omega) (by omega) hle).mono fun _ _ h=>gotHF h
theorem hfMul(a b:Option Addr)(la lb ca cb u v:Nat)(w:World)(ha:HD w a la ca u)(hb:HD w b lb cb v)(fu:hf.nlen u≤1000000)(fv:hf.nlen v≤1000000):Calls Try.prog 60 #[.slice a la ca, .slice b lb cb] w (GotHF w (u*v)):=by
 obtain⟨ha,rfl⟩:=ha
 obtain⟨hb,rfl⟩:=hb
 exact(rmul_any a b ca cb u v w ha hb (by omega) (by omega)).mono fun _ _ h=>gotHF h
end Go.Proofs.Ytliajdokamlnnaa
