/-
  BucketNears: which vertex is near any point, behind any puttings and droppings.
-/
import Derived.Test.YtliajdokamlnnaaP1
import Derived.Test.YtliajdokamlnnaaP2
import Derived.Test.YtliajdokamlnnaaP3
import Derived.Test.YtliajdokamlnnaaP4
import Derived.Test.YtliajdokamlnnaaP5
import Derived.Test.YtliajdokamlnnaaP6
import Derived.Test.YtliajdokamlnnaaChecked
import Derived.Test.YtliajdokamlnnaaRows
import Derived.Deep.RegionHeld3
import Derived.ProofKit
import Derived.OpenShut
import Derived.Lib.SmallJoins
namespace Go.Proofs.Ytliajdokamlnnaa
open Go.RowKit
set_option linter.unusedVariables false

namespace bnears
open Go.ChangeShapes Go.WideShapes Go.ChangeAt Go.Joins
theorem bd_i64{x:Int}(h:(Lit.int .i64 x).wf=true): -9223372036854775808≤x∧x≤9223372036854775807:=by
  simp [Lit.wf,IntKind.min,IntKind.max,IntKind.signed,IntKind.bits]at h
  exact⟨by omega,by omega⟩
theorem bd_u8{x:Int}(h:(Lit.int .u8 x).wf=true):0≤x∧x≤255:=by
  simp [Lit.wf,IntKind.min,IntKind.max,IntKind.signed,IntKind.bits]at h
  exact⟨by omega,by omega⟩
theorem bd_u16{x:Int}(h:(Lit.int .u16 x).wf=true):0≤x∧x≤65535:=by
  simp [Lit.wf,IntKind.min,IntKind.max,IntKind.signed,IntKind.bits]at h
  exact⟨by omega,by omega⟩
/-- What holds when k acts are done. -/
def NsAt(W:World)(g n k:Nat)(m:Value)(wr:World):Prop:= ∃ (L:Nat→List Int) (M:List Hl) (F:Nat→Prop) (a:Option Addr) (c:Nat),m= .slice a M.length c∧GrP W.heap.size g 60 n L M.length F wr∧(∀ b,F b→W.heap.size≤b)∧HlL wr W.heap.size a c M∧(∀ b,Slot a b→ ¬F b)∧Corr n k L M∧Below W.heap.size W wr
/-- One act more. -/
theorem ns_next{W wr w5 w6:World}{g n k c c':Nat}{L L':Nat→List Int}{M M':List Hl}{m':Int}{F:Nat→Prop}{a a':Option Addr}(H:GrP W.heap.size g 60 n L M.length F wr)(hF: ∀ b,F b→W.heap.size≤b)(hO:HlL wr W.heap.size a c M)(hS: ∀ b,Slot a b→ ¬F b)(bW:Below W.heap.size W wr)
    (lf:LeftB (GrP W.heap.size g 60 n L' m') F wr w5) (hC:Corr n (k+1) L' M') (hm:m'=(M'.length:Int)) (hO':HlL w6 W.heap.size a' c' M') (hs': ∀ b,Slot a' b→Slot a b∨w5.heap.size≤b) (b6:Below w5.heap.size w5 w6):NsAt W g n (k+1) (.slice a' M'.length c') w6:=by
  obtain⟨hK,F',hP,hF'⟩:=lf
  subst hm
  have hz:=bW.size
  have hz5:=hK.size
  refine⟨L',M',F',a',c',rfl,hP.below b6,fun b hb=>(hF' b hb).elim (hF b) (fun e=>by omega),hO',fun b sb hb=>?_,hC,(bW.trans (hK.below hz hF)).trans (b6.mono (by omega))⟩
  have hlt:=(hP.2 b hb).2
  rcases hs' b sb with s1|s1
  · exact(hF' b hb).elim (hS b s1) (fun e=>by have:=(OwnS.lt hO s1).1;omega)
  · omega
theorem ns_below{W wr w':World}{g n k:Nat}{m:Value}(h:NsAt W g n k m wr)(b:Below wr.heap.size wr w'):NsAt W g n k m w':=by
  obtain⟨L,M,F,a,c,rfl,H,hF,hO,hS,hC,bW⟩:=h
  exact⟨L,M,F,a,c,rfl,H.below b,hF,OwnS.below hO b,hS,hC,bW.trans (b.mono bW.size)⟩
theorem ns_list{W wr w5:World}{g n c:Nat}{L':Nat→List Int}{M:List Hl}{m':Int}{F:Nat→Prop}{a:Option Addr}(hO:HlL wr W.heap.size a c M)(hS: ∀ b,Slot a b→ ¬F b)(lf:LeftB (GrP W.heap.size g 60 n L' m') F wr w5):HlL w5 W.heap.size a c M:=OwnS.keep hO lf.1 hS
set_option maxRecDepth 100000 in
set_option maxHeartbeats 8000000 in
theorem walk(n0:Int)(hn1:0≤n0)(hn2:n0≤255)(la:Option Addr)(l0 c0:Nat)(LA:List Ba)(x y:Int)(hx1: -9223372036854775808≤x)(hx2:x≤9223372036854775807)(hy1: -9223372036854775808≤y)(hy2:y≤9223372036854775807)(w:World)(hLA:BaS w la l0 c0 LA):
    Calls Try.prog 4 #[.int .u8 n0, .slice la l0 c0, .agg #[.int .i64 x, .int .i64 y]] w fun e w'=>e= .returned (.bool true)∧Below w.heap.size w w':=by
  obtain⟨W,hW⟩: ∃ W,W=w.alloc (.cells #[.int .i64 x, .int .i64 y] 23):=⟨_,rfl⟩
  have bW:Below w.heap.size w W:=by rw [hW];exact(Below.refl _ _).alloc (Nat.le_refl _) _
  have zW:W.heap.size=w.heap.size+1:=by rw [hW];simp
  have RW:Row W w.heap.size [.int .i64 x, .int .i64 y]:=by rw [hW];exact Row.new w _ _
  have r0:=RW.cell 0 _ rfl
  have r1:=RW.cell 1 _ rfl
  obtain⟨u,hu⟩: ∃ u,u=n0 % 12:=⟨_,rfl⟩
  obtain⟨n,hn⟩: ∃ n:Nat,(n:Int)=1+u:=⟨(1+u).toNat,by omega⟩
  have OK:Hid (GrOk 60 n):=⟨by omega,by omega,by omega,by omega⟩
  have N12:Hid (1≤n∧n≤12):=⟨by omega,by omega⟩
  have t1:n0.tmod 12=u:=by rw [hu];exact Int.tmod_eq_emod_of_nonneg hn1
  have t2:wrap64 u=u:=wrap_in (by omega) (by omega)
  have t3:wrap64 (1+u)=(n:Int):=by rw [hn];exact wrap_in (by clear t2;omega) (by clear t2;omega)
  have BX:Hid (-9223372036854775808≤x∧x≤9223372036854775807):=⟨hx1,hx2⟩
  have BY:Hid (-9223372036854775808≤y∧y≤9223372036854775807):=⟨hy1,hy2⟩
  have hLl:=hLA.len
  have hbig:l0≤maxLen:=Nat.le_trans hLA.room.1 hLA.room.2
  have hmx:l0≤9223372036854775807:=by clear t1 t2 t3;unfold maxLen at hbig;omega
  have hwl:w.heap.size<W.heap.size:=by clear t1 t2 t3;omega
  have hwe:w.heap.size≤W.heap.size:=by clear t1 t2 t3;omega
  clear hn hu hn1 hn2 hx1 hx2 hy1 hy2 zW hbig
  go_enter Try.func4,Try.ntmps4
  go_wp2_with (go_at_call 8;fail)
  rw [←hW]
  clear hW
  refine(bkNew W.heap.size 60 n n W OK.out rfl (Nat.le_refl _)).mono ?_
  rintro e w1 ⟨g,F,rfl,H1,hF1,b1⟩
  simp only [t3]
  clear t1 t2 t3 r0 r1
  have bA:Below w1.heap.size w1 (w1.alloc (.cells #[] 61)):=(Below.refl _ _).alloc (Nat.le_refl _) _
  have z1:=b1.size
  have hst:Hid (NsAt W g n 0 (.slice (some ⟨w1.heap.size,0,none⟩) 0 0) (w1.alloc (.cells #[] 61))):=
    ⟨_, [],F,_,_,rfl,H1.below bA,hF1,ownS_new w1 W.heap.size _ 3 z1,fun b sb hb=>by have:=(H1.2 b hb).2;rw [slot_one sb]at this;omega,Corr.new n,b1.trans (bA.mono z1)⟩
  go_wp2
  go_loopw [10,11] (fun m i wr=> ∃ k,k≤l0∧k≤40∧i= .int .i64 (k:Int)∧NsAt W g n k m wr) (fun _ i _=>40- (intOf i).toNat)
  case atStart=>exact⟨0,by omega,by omega,rfl,hst.out⟩
  case round=>
    clear hst bA H1 b1 z1 hF1
    obtain⟨k,hk,hk4,rfl,L,M,F,a,c,rfl,H,hF,hO,hS,hC,bWr⟩:=hrel
    have hB:Below w.heap.size w wr:=bW.trans (bWr.mono hwe)
    have hCl: ∀ j,(L j).length≤1000:=fun j=>by have:=hC.len j;omega
    have hMl:M.length≤1000:=by have:=hC.lm;omega
    have HC:Hid _:=hC
    have HCl:Hid _:=hCl
    have HMl:Hid _:=hMl
    have hm6:Hid (-1000000≤(M.length:Int)∧(M.length:Int)≤1000000):=⟨by omega,by omega⟩
    have hbz:Hid (W.heap.size≤wr.heap.size):=bWr.size
    clear hC hCl hMl
    by_cases hlt:k<l0∧k<40
    · obtain⟨q1,q2⟩:=hlt
      have q1':(k:Int)<(l0:Int):=by omega
      have q2':(k:Int)<40:=by omega
      obtain⟨ac,hac⟩: ∃ ac,LA[k]? =some ac:=⟨LA[k],List.getElem?_eq_getElem (by omega)⟩
      have h64:=hLA.ok ac (List.mem_of_getElem? hac)
      obtain⟨lb,lo,rfl,hlb,d0,d1,d2,d3⟩:=hLA.at hac hB
      obtain⟨_,_,elb,_,e0,e1,e2,e3⟩:=hLA.at hac (Below.refl w.heap.size w)
      cases elb
      obtain⟨dd,v,px,py⟩:=ac
      dsimp only at d0 d1 d2 d3 e0 e1 e2 e3 h64
      obtain⟨ca,cb,hab⟩: ∃ ca cb,(ca,cb)=cellC px py 60 n:=⟨_,_,rfl⟩
      have HAB:Hid _:=hab
      have H64:Hid _:=h64
      clear hab h64 hac
      have CR:Hid (Calls Try.prog 10 #[.agg #[.int .i64 px, .int .i64 py], .int .i64 60, .int .i64 (n:Int)] wr fun e w'=>e= .returned (.tuple #[.int .i64 ca, .int .i64 cb])∧Below wr.heap.size wr w'):=rkCell n 60 px py wr H64.out.1 H64.out.2 OK.out HAB.out
      go_wp2_with (go_at_call 10;fail)
      refine Calls.mono CR.out ?_
      rintro e w3 ⟨rfl,b3⟩
      clear CR d0 d1 d2 d3
      have H3:=H.below b3
      have hO3:HlL w3 W.heap.size a c M:=OwnS.below hO b3
      have bW3:Below W.heap.size W w3:=bWr.trans (b3.mono hbz.out)
      have hB3:Below w.heap.size w w3:=bW.trans (bW3.mono hwe)
      have z3:Hid (W.heap.size≤w3.heap.size):=bW3.size
      clear H hO hB bWr b3 hbz
      have d0:=(hB3.cell (p:=⟨lb,lo+k*4,none⟩) hlb).trans e0
      have d1:=(hB3.cell (p:=⟨lb,lo+k*4+1,none⟩) hlb).trans e1
      have d2:=(hB3.cell (p:=⟨lb,lo+k*4+2,none⟩) hlb).trans e2
      have d3:=(hB3.cell (p:=⟨lb,lo+k*4+3,none⟩) hlb).trans e3
      have wk:Hid (wrap64 ((k:Int)+1)=(k:Int)+1):=wrap_in (by omega) (by omega)
      cases dd
      · skip
        have CP:Hid (Calls Try.prog 14 #[.pointer (some ⟨g,0,none⟩), .int .i64 v, .agg #[.int .i64 px, .int .i64 py]] w3.drew fun e w'=>e= .returned (.tuple #[])∧LeftB (GrP W.heap.size g 60 n (putL L (lstC px py 60 n) v) (putM M.length (lstC px py 60 n))) F w3.drew w'):=bkPut W.heap.size g n 60 M.length v px py L F w3.drew (H3.below ((Below.refl _ _).drew)) OK.out HCl.out HC.out.srt hm6.out
        have hO3':HlL w3.drew W.heap.size a c M:=OwnS.below hO3 ((Below.refl _ _).drew)
        go_wp2
        have HSp:Hid (∀ w',(Below w.heap.size w w')→(fun w'=>w'.cell? ⟨lb,lo+k*4+1,none⟩=some (.int .i64 v)∧w'.cell? ⟨lb,lo+k*4+2,none⟩=some (.int .i64 px)∧w'.cell? ⟨lb,lo+k*4+3,none⟩=some (.int .i64 py)∧(Below w.heap.size w w')) w'):=by
          unfold Hid
          intro w' hb
          exact⟨(hb.cell (p:=⟨lb,lo+k*4+1,none⟩) hlb).trans e1,(hb.cell (p:=⟨lb,lo+k*4+2,none⟩) hlb).trans e2,(hb.cell (p:=⟨lb,lo+k*4+3,none⟩) hlb).trans e3,hb⟩
        refine wp_region_held_drew (S:=fun w'=>w'.cell? ⟨lb,lo+k*4+1,none⟩=some (.int .i64 v)∧w'.cell? ⟨lb,lo+k*4+2,none⟩=some (.int .i64 px)∧w'.cell? ⟨lb,lo+k*4+3,none⟩=some (.int .i64 py)∧(Below w.heap.size w w')) (by kernel_rfl) ?_ (fun hHeld=>?_)
        · exact HSp.out _ (hB3.drew)
        refine take_yes (i:=0) (v:=?vp0) rfl (by kernel_rfl) (by kernel_rfl) (by kernel_rfl) (fun _ _ _ h=>h) (by rfl) (by assumption) ?hyp0 ?restp0
        case hyp0=>(intro w hSw;(try dsimp only at hSw);first|(go_simp;done)|(go_simp;with_reducible rfl))
        simp only [Act.put,List.setIfInBounds_toArray,List.set_cons_zero,List.set_cons_succ]
        refine take_yes (i:=1) (v:=?vp1) rfl (by kernel_rfl) (by kernel_rfl) (by kernel_rfl) (fun _ _ _ h=>h) (by rfl) (by assumption) ?hyp1 ?restp1
        case hyp1=>(intro w hSw;(try dsimp only at hSw);first|(go_simp;done)|(go_simp;with_reducible rfl))
        simp only [Act.put,List.setIfInBounds_toArray,List.set_cons_zero,List.set_cons_succ]
        refine take_yes (i:=2) (v:=?vp2) rfl (by kernel_rfl) (by kernel_rfl) (by kernel_rfl) (fun _ _ _ h=>h) (by rfl) (by assumption) ?hyp2 ?restp2
        case hyp2=>(intro w hSw;(try dsimp only at hSw);first|(go_simp;done)|(go_simp;with_reducible rfl))
        simp only [Act.put,List.setIfInBounds_toArray,List.set_cons_zero,List.set_cons_succ]
        refine take_yes (i:=3) (v:=?vp3) rfl (by kernel_rfl) (by kernel_rfl) (by kernel_rfl) (fun _ _ _ h=>h) (by rfl) (by assumption) ?hyp3 ?restp3
        case hyp3=>(intro w hSw;(try dsimp only at hSw);first|(go_simp;done)|(go_simp;with_reducible rfl))
        simp only [Act.put,List.setIfInBounds_toArray,List.set_cons_zero,List.set_cons_succ]
        refine take_yes (i:=4) (v:=?vp4) rfl (by kernel_rfl) (by kernel_rfl) (by kernel_rfl) (fun _ _ _ h=>h) (by rfl) (by assumption) ?hyp4 ?restp4
        case hyp4=>(intro w hSw;(try dsimp only at hSw);first|(go_simp;done)|(go_simp;with_reducible rfl))
        simp only [Act.put,List.setIfInBounds_toArray,List.set_cons_zero,List.set_cons_succ]
        refine take_yes (i:=5) (v:=?vp5) rfl (by kernel_rfl) (by kernel_rfl) (by kernel_rfl) (fun _ _ _ h=>h) (by rfl) (by assumption) ?hyp5 ?restp5
        case hyp5=>(intro w hSw;(try dsimp only at hSw);first|(go_simp;done)|(go_simp;with_reducible rfl))
        simp only [Act.put,List.setIfInBounds_toArray,List.set_cons_zero,List.set_cons_succ]
        refine take_yes (i:=6) (v:=?vp6) rfl (by kernel_rfl) (by kernel_rfl) (by kernel_rfl) (fun _ _ _ h=>h) (by rfl) (by assumption) ?hyp6 ?restp6
        case hyp6=>(intro w hSw;(try dsimp only at hSw);first|(go_simp;done)|(go_simp;with_reducible rfl))
        simp only [Act.put,List.setIfInBounds_toArray,List.set_cons_zero,List.set_cons_succ]
        refine take_yes (i:=7) (v:=?vp7) rfl (by kernel_rfl) (by kernel_rfl) (by kernel_rfl) (fun _ _ _ h=>h) (by rfl) (by assumption) ?hyp7 ?restp7
        case hyp7=>(intro w hSw;(try dsimp only at hSw);first|(go_simp;done)|(go_simp;with_reducible rfl))
        simp only [Act.put,List.setIfInBounds_toArray,List.set_cons_zero,List.set_cons_succ]
        refine take_yes (i:=8) (v:=?vp8) rfl (by kernel_rfl) (by kernel_rfl) (by kernel_rfl) (fun _ _ _ h=>h) (by rfl) (by assumption) ?hyp8 ?restp8
        case hyp8=>(intro w hSw;(try dsimp only at hSw);first|(go_simp;done)|(go_simp;with_reducible rfl))
        simp only [Act.put,List.setIfInBounds_toArray,List.set_cons_zero,List.set_cons_succ]
        refine take_yes (i:=9) (v:=?vp9) rfl (by kernel_rfl) (by kernel_rfl) (by kernel_rfl) (fun _ _ _ h=>h) (by rfl) (by assumption) ?hyp9 ?restp9
        case hyp9=>(intro w hSw;(try dsimp only at hSw);first|(go_simp;done)|(go_simp;with_reducible rfl))
        simp only [Act.put,List.setIfInBounds_toArray,List.set_cons_zero,List.set_cons_succ]
        refine take_yes (i:=10) (v:=?vp10) rfl (by kernel_rfl) (by kernel_rfl) (by kernel_rfl) (fun _ _ _ h=>h) (by rfl) (by assumption) ?hyp10 ?restp10
        case hyp10=>(intro w hSw;(try dsimp only at hSw);first|(go_simp;done)|(go_simp;with_reducible rfl))
        simp only [Act.put,List.setIfInBounds_toArray,List.set_cons_zero,List.set_cons_succ]
        refine tcl 11 fun Kc hK=>?_
        go_simp
        (go_at_call 14;refine Calls.mono CP.out ?_;rintro e w5 ⟨rfl,lf⟩)
        refine hK.out _ _ ?_ (fun hHeld=>?_)
        · exact HSp.out _ (hHeld.2.2.2.trans ((lf.1.below (B:=w.heap.size) (Nat.le_trans hwe z3.out) (fun b hb=>Nat.le_trans hwe (hF b hb)))))
        clear hK Kc
        refine wpAnyH_done (by kernel_rfl) ?_ _
        have hB5:=hHeld.2.2.2
        clear CP hHeld
        have d1:=(hB5.cell (p:=⟨lb,lo+k*4+1,none⟩) hlb).trans e1
        have hO5:HlL w5 W.heap.size a c M:=ns_list hO3' hS lf
        have z5:W.heap.size≤w5.heap.size:=Nat.le_trans z3.out lf.1.size
        have CQ:Hid (Calls Try.prog 15 #[.slice a M.length c, .int .i64 v, .int .i64 ca, .int .i64 cb] w5 (GotHl W.heap.size a (hput M (v,ca,cb)) w5)):=rkPut W.heap.size c a M v ca cb w5 hO5 HMl.out z5
        have HA:=HC.out.putAll OK.out px py v HAB.out
        have LF:Hid _:=lf
        have HAA:Hid _:=HA
        clear lf HA
        go_wp2_with (go_at_call 15;fail)
        refine Calls.mono CQ.out ?_
        rintro e w6 ⟨a6,c6,rfl,hO6,hs6,b6⟩
        clear CQ
        have HNX:Hid (NsAt W g n (k+1) (.slice a6 (hput M (v,ca,cb)).length c6) w6):=ns_next (H3.below ((Below.refl _ _).drew)) hF hO3' hS bW3.drew LF.out HAA.out.1 HAA.out.2 hO6 hs6 b6
        have CL:Hid (Calls Try.prog 16 #[.pointer (some ⟨g,0,none⟩)] w6 fun e w'=>e= .returned (.int .i64 ((hput M (v,ca,cb)).length:Int))∧Below w6.heap.size w6 w'):=by
          obtain⟨_,F',hP,_⟩:=LF.out
          obtain⟨⟨vv,A,hOO,_⟩,_⟩:=hP.below b6
          rw [HAA.out.2]at hOO
          exact bkLen g vv n 60 _ w6 hOO.row
        go_wp2_with (go_at_call 16;fail)
        refine Calls.mono CL.out ?_
        rintro e w7 ⟨rfl,b7⟩
        clear CL
        have HN7:Hid (NsAt W g n (k+1) (.slice a6 (hput M (v,ca,cb)).length c6) w7):=ns_below HNX.out b7
        have wkk:=wk.out
        go_wp2
        clear wkk
        go_roundw
        case rel=>exact⟨k+1,by omega,by omega,by first|rfl|simp|rw [wk.out];simp,HN7.out⟩
        case measure=>(try rw [wk.out]);simp [intOf];omega
      · skip
        have CP:Hid (Calls Try.prog 12 #[.pointer (some ⟨g,0,none⟩), .int .i64 v, .agg #[.int .i64 px, .int .i64 py]] w3.drew fun e w'=>e= .returned (.tuple #[])∧LeftB (GrP W.heap.size g 60 n (dropL L (lstC px py 60 n) v) (dropM L M.length (lstC px py 60 n) v)) F w3.drew w'):=bkDrop W.heap.size g n 60 M.length v px py L F w3.drew (H3.below ((Below.refl _ _).drew)) OK.out HCl.out HC.out.srt hm6.out
        have hO3':HlL w3.drew W.heap.size a c M:=OwnS.below hO3 ((Below.refl _ _).drew)
        go_wp2
        have HSd:Hid (∀ w',(Below w.heap.size w w')→(fun w'=>w'.cell? ⟨lb,lo+k*4+1,none⟩=some (.int .i64 v)∧w'.cell? ⟨lb,lo+k*4+2,none⟩=some (.int .i64 px)∧w'.cell? ⟨lb,lo+k*4+3,none⟩=some (.int .i64 py)∧(Below w.heap.size w w')) w'):=by
          unfold Hid
          intro w' hb
          exact⟨(hb.cell (p:=⟨lb,lo+k*4+1,none⟩) hlb).trans e1,(hb.cell (p:=⟨lb,lo+k*4+2,none⟩) hlb).trans e2,(hb.cell (p:=⟨lb,lo+k*4+3,none⟩) hlb).trans e3,hb⟩
        refine wp_region_held_drew (S:=fun w'=>w'.cell? ⟨lb,lo+k*4+1,none⟩=some (.int .i64 v)∧w'.cell? ⟨lb,lo+k*4+2,none⟩=some (.int .i64 px)∧w'.cell? ⟨lb,lo+k*4+3,none⟩=some (.int .i64 py)∧(Below w.heap.size w w')) (by kernel_rfl) ?_ (fun hHeld=>?_)
        · exact HSd.out _ (hB3.drew)
        refine take_yes (i:=0) (v:=?vd0) rfl (by kernel_rfl) (by kernel_rfl) (by kernel_rfl) (fun _ _ _ h=>h) (by rfl) (by assumption) ?hyd0 ?restd0
        case hyd0=>(intro w hSw;(try dsimp only at hSw);first|(go_simp;done)|(go_simp;with_reducible rfl))
        simp only [Act.put,List.setIfInBounds_toArray,List.set_cons_zero,List.set_cons_succ]
        refine take_yes (i:=1) (v:=?vd1) rfl (by kernel_rfl) (by kernel_rfl) (by kernel_rfl) (fun _ _ _ h=>h) (by rfl) (by assumption) ?hyd1 ?restd1
        case hyd1=>(intro w hSw;(try dsimp only at hSw);first|(go_simp;done)|(go_simp;with_reducible rfl))
        simp only [Act.put,List.setIfInBounds_toArray,List.set_cons_zero,List.set_cons_succ]
        refine take_yes (i:=2) (v:=?vd2) rfl (by kernel_rfl) (by kernel_rfl) (by kernel_rfl) (fun _ _ _ h=>h) (by rfl) (by assumption) ?hyd2 ?restd2
        case hyd2=>(intro w hSw;(try dsimp only at hSw);first|(go_simp;done)|(go_simp;with_reducible rfl))
        simp only [Act.put,List.setIfInBounds_toArray,List.set_cons_zero,List.set_cons_succ]
        refine take_yes (i:=3) (v:=?vd3) rfl (by kernel_rfl) (by kernel_rfl) (by kernel_rfl) (fun _ _ _ h=>h) (by rfl) (by assumption) ?hyd3 ?restd3
        case hyd3=>(intro w hSw;(try dsimp only at hSw);first|(go_simp;done)|(go_simp;with_reducible rfl))
        simp only [Act.put,List.setIfInBounds_toArray,List.set_cons_zero,List.set_cons_succ]
        refine take_yes (i:=4) (v:=?vd4) rfl (by kernel_rfl) (by kernel_rfl) (by kernel_rfl) (fun _ _ _ h=>h) (by rfl) (by assumption) ?hyd4 ?restd4
        case hyd4=>(intro w hSw;(try dsimp only at hSw);first|(go_simp;done)|(go_simp;with_reducible rfl))
        simp only [Act.put,List.setIfInBounds_toArray,List.set_cons_zero,List.set_cons_succ]
        refine take_yes (i:=5) (v:=?vd5) rfl (by kernel_rfl) (by kernel_rfl) (by kernel_rfl) (fun _ _ _ h=>h) (by rfl) (by assumption) ?hyd5 ?restd5
        case hyd5=>(intro w hSw;(try dsimp only at hSw);first|(go_simp;done)|(go_simp;with_reducible rfl))
        simp only [Act.put,List.setIfInBounds_toArray,List.set_cons_zero,List.set_cons_succ]
        refine take_yes (i:=6) (v:=?vd6) rfl (by kernel_rfl) (by kernel_rfl) (by kernel_rfl) (fun _ _ _ h=>h) (by rfl) (by assumption) ?hyd6 ?restd6
        case hyd6=>(intro w hSw;(try dsimp only at hSw);first|(go_simp;done)|(go_simp;with_reducible rfl))
        simp only [Act.put,List.setIfInBounds_toArray,List.set_cons_zero,List.set_cons_succ]
        refine take_yes (i:=7) (v:=?vd7) rfl (by kernel_rfl) (by kernel_rfl) (by kernel_rfl) (fun _ _ _ h=>h) (by rfl) (by assumption) ?hyd7 ?restd7
        case hyd7=>(intro w hSw;(try dsimp only at hSw);first|(go_simp;done)|(go_simp;with_reducible rfl))
        simp only [Act.put,List.setIfInBounds_toArray,List.set_cons_zero,List.set_cons_succ]
        refine take_yes (i:=8) (v:=?vd8) rfl (by kernel_rfl) (by kernel_rfl) (by kernel_rfl) (fun _ _ _ h=>h) (by rfl) (by assumption) ?hyd8 ?restd8
        case hyd8=>(intro w hSw;(try dsimp only at hSw);first|(go_simp;done)|(go_simp;with_reducible rfl))
        simp only [Act.put,List.setIfInBounds_toArray,List.set_cons_zero,List.set_cons_succ]
        refine take_yes (i:=9) (v:=?vd9) rfl (by kernel_rfl) (by kernel_rfl) (by kernel_rfl) (fun _ _ _ h=>h) (by rfl) (by assumption) ?hyd9 ?restd9
        case hyd9=>(intro w hSw;(try dsimp only at hSw);first|(go_simp;done)|(go_simp;with_reducible rfl))
        simp only [Act.put,List.setIfInBounds_toArray,List.set_cons_zero,List.set_cons_succ]
        refine take_yes (i:=10) (v:=?vd10) rfl (by kernel_rfl) (by kernel_rfl) (by kernel_rfl) (fun _ _ _ h=>h) (by rfl) (by assumption) ?hyd10 ?restd10
        case hyd10=>(intro w hSw;(try dsimp only at hSw);first|(go_simp;done)|(go_simp;with_reducible rfl))
        simp only [Act.put,List.setIfInBounds_toArray,List.set_cons_zero,List.set_cons_succ]
        refine tcl 11 fun Kc hK=>?_
        go_simp
        (go_at_call 12;refine Calls.mono CP.out ?_;rintro e w5 ⟨rfl,lf⟩)
        refine hK.out _ _ ?_ (fun hHeld=>?_)
        · exact HSd.out _ (hHeld.2.2.2.trans ((lf.1.below (B:=w.heap.size) (Nat.le_trans hwe z3.out) (fun b hb=>Nat.le_trans hwe (hF b hb)))))
        clear hK Kc
        refine wpAnyH_done (by kernel_rfl) ?_ _
        have hB5:=hHeld.2.2.2
        clear CP hHeld
        have d1:=(hB5.cell (p:=⟨lb,lo+k*4+1,none⟩) hlb).trans e1
        have hO5:HlL w5 W.heap.size a c M:=ns_list hO3' hS lf
        have z5:W.heap.size≤w5.heap.size:=Nat.le_trans z3.out lf.1.size
        have CQ:Hid (Calls Try.prog 13 #[.slice a M.length c, .int .i64 v, .int .i64 ca, .int .i64 cb] w5 (GotHl W.heap.size a (M.erase (v,ca,cb)) w5)):=rkDrop W.heap.size c a M v ca cb w5 hO5 HMl.out z5
        have HA:=HC.out.dropAll OK.out px py v HAB.out
        have LF:Hid _:=lf
        have HAA:Hid _:=HA
        clear lf HA
        go_wp2_with (go_at_call 13;fail)
        refine Calls.mono CQ.out ?_
        rintro e w6 ⟨a6,c6,rfl,hO6,hs6,b6⟩
        clear CQ
        have HNX:Hid (NsAt W g n (k+1) (.slice a6 (M.erase (v,ca,cb)).length c6) w6):=ns_next (H3.below ((Below.refl _ _).drew)) hF hO3' hS bW3.drew LF.out HAA.out.1 HAA.out.2 hO6 hs6 b6
        have CL:Hid (Calls Try.prog 16 #[.pointer (some ⟨g,0,none⟩)] w6 fun e w'=>e= .returned (.int .i64 ((M.erase (v,ca,cb)).length:Int))∧Below w6.heap.size w6 w'):=by
          obtain⟨_,F',hP,_⟩:=LF.out
          obtain⟨⟨vv,A,hOO,_⟩,_⟩:=hP.below b6
          rw [HAA.out.2]at hOO
          exact bkLen g vv n 60 _ w6 hOO.row
        go_wp2_with (go_at_call 16;fail)
        refine Calls.mono CL.out ?_
        rintro e w7 ⟨rfl,b7⟩
        clear CL
        have HN7:Hid (NsAt W g n (k+1) (.slice a6 (M.erase (v,ca,cb)).length c6) w7):=ns_below HNX.out b7
        have wkk:=wk.out
        go_wp2
        clear wkk
        go_roundw
        case rel=>exact⟨k+1,by omega,by omega,by first|rfl|simp|rw [wk.out];simp,HN7.out⟩
        case measure=>(try rw [wk.out]);simp [intOf];omega
    · have hend:k=l0∨k=40:=by omega
      have hcond: ¬(k:Int)<(l0:Int)∨((k:Int)<(l0:Int)∧ ¬(k:Int)<40):=by omega
      clear hlt hend
      have RWr:=RW.below bWr hwl
      have r0:=RWr.cell 0 _ rfl
      have r1:=RWr.cell 1 _ rfl
      obtain⟨ca,cb,hab⟩: ∃ ca cb,(ca,cb)=cellC x y 60 n:=⟨_,_,rfl⟩
      have HAB:Hid _:=hab
      clear hab
      have CR:Hid (Calls Try.prog 10 #[.agg #[.int .i64 x, .int .i64 y], .int .i64 60, .int .i64 (n:Int)] wr fun e w'=>e= .returned (.tuple #[.int .i64 ca, .int .i64 cb])∧Below wr.heap.size wr w'):=rkCell n 60 x y wr BX.out BY.out OK.out HAB.out
      rcases hcond with hc1|⟨hc0,hc1⟩
      all_goals
        go_wp2_with (go_at_call 10;fail)
        refine Calls.mono CR.out ?_
        rintro e w3 ⟨rfl,b3⟩
        clear CR
        have bW3:Below W.heap.size W w3:=bWr.trans (b3.mono hbz.out)
        have hB3:Below w.heap.size w w3:=bW.trans (bW3.mono hwe)
        have R3:=RW.below bW3 hwl
        have q0:=R3.cell 0 _ rfl
        have q1:=R3.cell 1 _ rfl
        have H3:=H.below b3
        have hO3:HlL w3 W.heap.size a c M:=OwnS.below hO b3
        obtain⟨nr,hnr⟩: ∃ nr,nr=nearR L x y 60 n:=⟨_,rfl⟩
        have CN:Hid (Calls Try.prog 17 #[.pointer (some ⟨g,0,none⟩), .agg #[.int .i64 x, .int .i64 y]] w3 fun e w'=>e= .returned (.int .i64 nr)∧Below w3.heap.size w3 w'):=bkNear W.heap.size g n 60 M.length x y L F w3 H3 OK.out hnr
        have HNR:Hid _:=hnr
        clear hnr r0 r1
        go_wp2_with (go_at_call 17;fail)
        refine Calls.mono CN.out ?_
        rintro e w4 ⟨rfl,b4⟩
        clear CN
        have hO4:HlL w4 W.heap.size a c M:=OwnS.below hO3 b4
        have hB4:=hB3.trans (b4.mono hB3.size)
        have CM:Hid (Calls Try.prog 18 #[.slice a M.length c, .int .i64 (n:Int), .int .i64 ca, .int .i64 cb] w4 fun e w'=>e= .returned (.int .i64 nr)∧Below w4.heap.size w4 w'):=by
          have hab:=HAB.out
          rcases cell_dec x y 60 n OK.out with⟨hc,hh⟩|⟨i,j,hc,hi,hj,hh⟩
          · rw [hc]at hab
            obtain⟨rfl,rfl⟩:ca= -1∧cb= -1:=by simpa using hab
            have e:nr= -1:=by rw [HNR.out];unfold nearR;rw [hh];rfl
            rw [e]
            exact rkNear_no a M.length c n (-1) (-1) w4 (by omega) (by omega)
          · rw [hc]at hab
            obtain⟨rfl,rfl⟩:ca=(i:Int)∧cb=(j:Int):=by simpa using hab
            refine rkNear W.heap.size c n a M i j w4 hO4 HMl.out ⟨OK.out.2.2.1,OK.out.2.2.2⟩ ⟨by omega,by omega⟩ ⟨by omega,by omega⟩ ?_
            rw [HNR.out,near_yes hc hh,HC.out.near OK.out.2.2.1]
        go_wp2_with (go_at_call 18;fail)
        refine Calls.mono CM.out ?_
        rintro e w5 ⟨rfl,b5⟩
        clear CM
        have hB5:=hB4.trans (b5.mono hB4.size)
        go_wp2_with (go_at_call 11;fail)
        refine(bkLives w5).mono ?_
        rintro e w6 ⟨rfl,b6⟩
        go_wp2
        go_ret
        exact⟨rfl,hB5.trans (b6.mono hB5.size)⟩
theorem own:ownKnob Try.prog.godebug=none:=by kernel_rfl
theorem cells_pt:Try.prog.cellsOf 23=2:=by kernel_rfl
theorem reads_pt{H:Type}(enc:TypeId×Value→H)(W:World)(bs:Nat)(sp:Nat→Bool)(hd:Bool){a b:Int}(wa:(Lit.int .i64 a).wf=true)(wb:(Lit.int .i64 b).wf=true):DataW.Trod enc Try.prog W bs sp hd 23 (.agg #[.int .i64 a, .int .i64 b]) (.agg [.lit (.int .i64 a), .lit (.int .i64 b)]) []:=
  shut_agg2 (y0:=(.lit (.int .i64 a), [])) (y1:=(.lit (.int .i64 b), [])) Try.underlying23 (by kernel_rfl) cells_pt ⟨1,by simp [DataW.trod,Try.underlying2,wa]⟩ ⟨1,by simp [DataW.trod,Try.underlying2,wb]⟩
set_option maxRecDepth 100000 in
theorem lifted(os:Os)(started:os.Started)(H:Type)(enc:TypeId×Value→H):
    ReturnsInHanded {} Try.checked os 4 .any (Rows.bucketNearsSpec.pre6 enc Try.prog Try.f4 Rows.bucketNearsRow.domain false) (Rows.bucketNearsSpec.post enc Try.prog Try.f4 false true false false):=by
  refine returnsInHanded_of_change (C:=Try.checked) own started (by kernel_rfl) Try.func4
    (ChangeSpec.witness6 (enc:=enc) (C:=Try.checked) false ⟨#[], #[.int .u8 0, .slice none 0 0, .agg #[.int .i64 0, .int .i64 0]], []⟩ 8 (by kernel_rfl) (by kernel_rfl) (by kernel_rfl) (by kernel_rfl)) ?_
  intro W base args ds gs before hval0 hW hcnd _
  have hval: ∀ (j:Nat) t v,Try.f4.params[j]? =some t→args[j]? =some v→Value.okWide Try.prog W .any base t v:=hval0
  have hW':=hW
  obtain⟨p,q,hA0,hV,rfl,hfz,hnd⟩:=hW
  have hA:DataW.TrodAll enc Try.prog W 0 (fun _=>true) true Try.f4.params.toList args.toList ds p:=hA0
  rw [Try.params4]at hA hval
  obtain⟨v0,vs0,d0,ds0,p0,q0,hargs,rfl,rfl,h0,r0⟩:=trodAll_cons hA
  obtain⟨v1,vs1,d1,ds1,p1,q1,rfl,rfl,rfl,h1,r1⟩:=trodAll_cons r0
  obtain⟨v2,vs2,d2,ds2,p2,q2,rfl,rfl,rfl,h2,r2⟩:=trodAll_cons r1
  obtain⟨rfl,rfl,rfl⟩:=trodAll_nil r2
  obtain rfl:args= #[v0,v1,v2]:=by cases args;simp_all
  obtain⟨rfl,rfl⟩:=trodVars_none hV
  have hlt: ∀ x∈p0++p1++p2,x.block<W.heap.size:=fun x hx=>by simpa using hW'.lt x (by simpa using hx)
  obtain⟨a0,rfl,rfl,rfl,w0⟩:=open_int Try.underlying5 (hval 0 5 v0 rfl rfl) h0
  obtain⟨a1,l1,c1,rfl⟩:=okWide_slice Try.underlying32 (hval 1 32 v1 rfl rfl)
  have h1k:=h1
  obtain⟨f1,hf1⟩:=h1
  obtain⟨L1,hL1⟩:=bacts_view hf1 (fun b o h=>hfz b o (by simp [h])) (fun x hx=>hlt x (by simp [hx]))
  obtain⟨x2,y2,g2,k2,m2,rfl,rfl,rfl,hx2,hy2⟩:=open_agg2 Try.underlying23 (by kernel_rfl) cells_pt (hval 2 23 v2 rfl rfl) h2
  obtain⟨a2,ex2,rfl,wa2⟩:=DataW.trod_int Try.underlying2 hx2
  obtain⟨b2,ey2,rfl,wb2⟩:=DataW.trod_int Try.underlying2 hy2
  simp at ex2 ey2
  subst ex2 ey2
  clear hA0 hval0
  have hwalk:=walk a0 (bd_u8 w0).1 (bd_u8 w0).2 a1 l1 c1 L1 a2 b2 (bd_i64 wa2).1 (bd_i64 wa2).2 (bd_i64 wb2).1 (bd_i64 wb2).2 W hL1
  refine hwalk.mono fun e W' ⟨he,bel⟩=>?_
  subst he
  exact⟨_,rfl,_,_,_, [],_, [],hW',trodAll_mk1 (shut_bool Try.underlying4 _),(trodAll_cons_mk (shut_int Try.underlying5 w0) (trodAll_cons_mk (Below.trod laidOutB15 (by kernel_rfl) (of_decide_eq_true (by kernel_rfl)) h1k bel (fun x hx=>hlt x (by simp [hx]))) (trodAll_cons_mk (reads_pt enc _ _ _ _ wa2 wb2) trodAll_mk0))),rfl,bel.frame _,fun h=>by cases h⟩

/-- The statement. -/
theorem proved:Rows.BucketNearsSaid:=
  OpenClaim.holds_of_wide 4 Try.f4 rfl rfl rfl rfl rfl rfl rfl ⟨rfl,rfl,rfl,rfl,rfl⟩ rfl rfl rfl rfl rfl (by kernel_rfl) Try.func4 (by kernel_rfl)
    (of_decide_eq_true (by kernel_rfl)) (by unfold Func.isWrapper;first|(rw [if_pos (by decide+kernel)];kernel_rfl)|(rw [if_neg (by decide+kernel)];exact⟨rfl,rfl⟩))
    (fun os started H enc _=>lifted os started H enc)
#print axioms proved
end bnears
end Go.Proofs.Ytliajdokamlnnaa
