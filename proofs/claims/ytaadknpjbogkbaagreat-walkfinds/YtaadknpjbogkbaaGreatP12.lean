/-
  Joined texts, part 12:
  Both meshes, an act at a time: the law's own 'does'.
  Both meshes, act by act: the law's own 'Plays'.
  A slice of acts, and an array of two ints, that come as arguments, opened.
  A law's argument that is an array of three points: taken apart and put together again.
  A law's argument that is a face, fuel, and a point: taken apart and put together again.
  Maps in memory of one's own, as what they tell of each key, over the library's word for a 
-/
import Derived.Test.YtaadknpjbogkbaaGreatP11
import Derived.Test.YtaadknpjbogkbaaGreatP9
import Derived.Deep.Slices
import Derived.ProofKit
import Derived.OpenShut
import Derived.ChangeSlices
import Derived.Lib.SmallJoins
import Derived.Test.YtaadknpjbogkbaaGreatP2
import Derived.Test.YtaadknpjbogkbaaGreatChecked
import Derived.Laws.IdiomArrays
import Derived.Deep.Strs
import Derived.Test.YtaadknpjbogkbaaGreatP1
import Derived.Maps.RangeWalk
import Derived.Maps.Ext
import Derived.Sort.KeysCollected
namespace Go.Proofs.YtaadknpjbogkbaaGreat
open Go.RowKit
set_option linter.unusedVariables false
theorem offB_of{S:Ms}{m:Nat}(h:MsOk S m): ∀ c∈S.C,offB c.t:=fun c hc=>h.offs (h.fi c hc) (h.fo c hc)
theorem vt64_of{S:Ms}{m:Nat}(h:MsOk S m)(hm:m≤1000): ∀ v∈S.V,Vt64 v:=by
 intro v hv
 obtain⟨q1,q2,q3⟩:=h.vq v hv
 have h1:=h.vmem hv
 have h2:=h.vt
 have h3:=h.n1
 exact⟨⟨by omega,by omega⟩,⟨by omega,by omega⟩,⟨by omega,by omega⟩,q3⟩
theorem tr64_of{S:Ms}{m:Nat}(h:MsOk S m): ∀ c∈S.C,Tr64 c.t:=fun c hc=>⟨fun i=>(h.f64 c hc i).1,fun i=>(h.f64 c hc i).2.1,fun i=>(h.f64 c hc i).2.2⟩
theorem n64_of{S:Ms}{m:Nat}(h:MsOk S m):In64 S.n:=by have:=h.n1;exact⟨by omega,by omega⟩
theorem tr64_all{t:Tr}(h:Tr64 t): ∀ i,(-9223372036854775808≤t.v i∧t.v i≤9223372036854775807)∧(-9223372036854775808≤t.x i∧t.x i≤9223372036854775807)∧(-9223372036854775808≤t.y i∧t.y i≤9223372036854775807):=fun i=>⟨h.v i,h.x i,h.y i⟩
theorem mrAddF0(base p:Nat)(S:Ms)(m:Nat)(F:Nat→Prop)(t:Tr)(w:World)(hM:MeR base p S F w)(hk:MsOk S m)(hm:m≤1000)(ht:Tr64 t){e0:Int}(he:e0=fErr S t)(hne:e0≠0):
  Calls Tryz.prog 47 #[ptR p,trV t] w fun e w'=>e= .returned (.tuple #[.int .i64 (-1), .int .i64 e0])∧Below w.heap.size w w':=by
 have hl:=hM.look
 obtain⟨lv,lc,l1,l2,l3,l4⟩:=hk.lens
 have hV:S.V.length≤1000:=by omega
 have hC:S.C.length≤1000:=by omega
 have hn:=n64_of hk
 have hvs:=vt64_of hk hm
 cases h0:isV S t.v0 with
 |false=>
       obtain rfl:e0=1:=by rw [he];unfold fErr;rw [if_pos (Or.inl h0)]
       exact addF1_0 p S t w hl hV hn hvs ht h0
 |true=>
 cases h1:isV S t.v1 with
 |false=>
       obtain rfl:e0=1:=by rw [he];unfold fErr;rw [if_pos (Or.inr (Or.inl h1))]
       exact addF1_1 p S t w hl hV hn hvs ht h0 h1
 |true=>
 cases h2:isV S t.v2 with
 |false=>
       obtain rfl:e0=1:=by rw [he];unfold fErr;rw [if_pos (Or.inr (Or.inr h2))]
       exact addF1_2 p S t w hl hV hn hvs ht h0 h1 h2
 |true=>
 have hn1: ¬(isV S t.v0=false∨isV S t.v1=false∨isV S t.v2=false):=by rw [h0,h1,h2];simp
 have h6:(plOk S t 0=false∨plOk S t 1=false∨plOk S t 2=false∨(areaT S t).sign≠1∨there t S.C=true)∧e0=6:=by
  unfold fErr at he
  rw [if_neg hn1]at he
  split at he
  ·rename_i h;exact⟨h,he⟩
  ·exact absurd he hne
 obtain⟨h6,rfl⟩:=h6
 cases o0:plOk S t 0 with
 |false=>exact addF6_0 p S t w hl hV hn hvs ht h0 h1 h2 o0
 |true=>
 cases o1:plOk S t 1 with
 |false=>exact addF6_1 p S t w hl hV hn hvs ht h0 h1 h2 o0 o1
 |true=>
 cases o2:plOk S t 2 with
 |false=>exact addF6_2 p S t w hl hV hn hvs ht h0 h1 h2 o0 o1 o2
 |true=>
 by_cases hg:(areaT S t).sign=1
 ·have hth:there t S.C=true:=by rw [o0,o1,o2]at h6;simpa [hg]using h6
  have hto:offB t:=hk.offs (fun i hi=>by rcases(by omega:i=0∨i=1∨i=2)with rfl|rfl|rfl;exact h0;exact h1;exact h2) (fun i hi=>by rcases(by omega:i=0∨i=1∨i=2)with rfl|rfl|rfl;exact o0;exact o1;exact o2)
  refine(mrAddFl base p S F t w hM hV hC (by omega) (by omega) (by have:=hk.ft;omega) hn hvs ht hto (offB_of hk) h0 h1 h2 o0 o1 o2 hg rfl).mono ?_
  rintro e w' (⟨_,he,b⟩|⟨hf,_⟩)
  ·exact⟨he,b⟩
  ·rw [hth]at hf;cases hf
 ·exact addF6_3 p S t w hl hV hn hvs ht h0 h1 h2 o0 o1 o2 hg
theorem mrAddF(base p:Nat)(S:Ms)(m:Nat)(F:Nat→Prop)(t:Tr)(w:World)(hM:MeR base p S F w)(hk:MsOk S m)(hm:m≤1000)(ht:Tr64 t)(he:fErr S t=0):
  Calls Tryz.prog 47 #[ptR p,trV t] w fun e w'=>e= .returned (.tuple #[.int .i64 S.af.num, .int .i64 0])∧Left (MeR base p (S.addF t)) F w w':=by
 obtain⟨lv,lc,l1,l2,l3,l4⟩:=hk.lens
 obtain⟨q1,q2,q3,q4⟩:=fErr_ok he
 refine(mrAddFl base p S F t w hM (by omega) (by omega) (by omega) (by omega) (by have:=hk.ft;omega) (n64_of hk) (vt64_of hk hm) ht (hk.offs q1 q2) (offB_of hk) (q1 0 (by omega)) (q1 1 (by omega)) (q1 2 (by omega)) (q2 0 (by omega)) (q2 1 (by omega)) (q2 2 (by omega)) q3 rfl).mono ?_
 rintro e w' (⟨hf,_⟩|⟨_,he,hl⟩)
 ·rw [q4]at hf;cases hf
 ·exact⟨he,hl⟩
structure Act where
 kind:Int
 n:Int
 x:Int
 y:Int
 t:Tr
abbrev actV(a:Act):Value:= .agg #[.int .i64 a.kind, .int .i64 a.n, .int .i64 a.x, .int .i64 a.y, .int .i64 a.t.v0, .int .i64 a.t.v1, .int .i64 a.t.v2, .int .i64 a.t.x0, .int .i64 a.t.y0, .int .i64 a.t.x1, .int .i64 a.t.y1, .int .i64 a.t.x2, .int .i64 a.t.y2]
def actC(a:Act):List Value:= [.int .i64 a.kind, .int .i64 a.n, .int .i64 a.x, .int .i64 a.y, .int .i64 a.t.v0, .int .i64 a.t.v1, .int .i64 a.t.v2, .int .i64 a.t.x0, .int .i64 a.t.y0, .int .i64 a.t.x1, .int .i64 a.t.y1, .int .i64 a.t.x2, .int .i64 a.t.y2]
theorem actC_len(a:Act):(actC a).length=13:=rfl
structure Act64(a:Act):Prop where
 kind:In64 a.kind
 n:In64 a.n
 x:In64 a.x
 y:In64 a.y
 t:Tr64 a.t
structure BothM(MP:MeShape)(base pm px:Nat)(S:Ms)(m:Nat)(w:World):Prop where
 ex: ∃ Fm Fx,MP base pm S Fm w∧MeR base px S Fx w∧ ∀ k,Fm k→ ¬Fx k
 ok:MsOk S m
theorem keep_cell{F:Nat→Prop}{w w':World}{b j:Nat}{u:Value}(hk:Keep F w w')(hb:b<w.heap.size)(hF: ¬F b)(h:w.cell? ⟨b,j,none⟩=some u):w'.cell? ⟨b,j,none⟩=some u:=by
 rw [World.cell?_of_block (w:=w) (a:=⟨b,j,none⟩) (hk.block b hb hF)]
 exact h
set_option maxRecDepth 100000 in
set_option maxHeartbeats 2000000 in
theorem does_1n{MP:MeShape}(H:MeSpec MP)(base pm px:Nat)(S:Ms)(m:Nat)(Fm Fx:Nat→Prop)(a:Act)(w:World)(h1:MP base pm S Fm w)(h2:MeR base px S Fx w)(hd: ∀ k,Fm k→ ¬Fx k)(hk:MsOk S m)(hm:m≤999)(h64:Act64 a)(hkd:a.kind=1)(he:fErr S a.t≠0):
  Calls Tryz.prog 19 #[ptR pm,ptR px,actV a] w fun e w'=>e= .returned (.bool true)∧Below base w w'∧BothM MP base pm px (S) (m+1) w':=by
 have HH:Hid _:=H
 have HK:Hid _:=hk
 have hm0:m≤1000:=by omega
 have hbase:base≤w.heap.size:=by obtain⟨pv,pf,Fv,Ff,a,ca,b,cb,hrow,hv,hf,ha,hb,hp,_⟩:=h2.ex;have:=h2.ft px hp;omega
 obtain⟨W,hW⟩: ∃ W,W=w.alloc (.cells (actC a).toArray 61):=⟨_,rfl⟩
 have BW:Below w.heap.size w W:=by rw [hW];exact(Below.refl _ _).alloc (Nat.le_refl _) _
 have zW:W.heap.size=w.heap.size+1:=by rw [hW];simp
 have R0:Row W w.heap.size (actC a):=by rw [hW];exact Row.new w _ _
 have hW':w.alloc (.cells #[.int .i64 a.kind, .int .i64 a.n, .int .i64 a.x, .int .i64 a.y, .int .i64 a.t.v0, .int .i64 a.t.v1, .int .i64 a.t.v2, .int .i64 a.t.x0, .int .i64 a.t.y0, .int .i64 a.t.x1, .int .i64 a.t.y1, .int .i64 a.t.x2, .int .i64 a.t.y2] 61)=W:=hW.symm
 have M1:=HH.out.below h1 BW
 have M2:=h2.below BW
 have am: ¬Fm w.heap.size:=fun f=>by have:=(H.ft h1 _ f).2;omega
 have ax: ¬Fx w.heap.size:=fun f=>by have:=(h2.ft _ f).2;omega
 have fm: ∀ k,Fm k→k<w.heap.size:=fun k f=>(H.ft h1 k f).2
 have fx: ∀ k,Fx k→k<w.heap.size:=fun k f=>(h2.ft k f).2
 have bm: ∀ k,Fm k→base≤k:=fun k f=>(H.ft h1 k f).1
 have bx: ∀ k,Fx k→base≤k:=fun k f=>(h2.ft k f).1
 have c0:=R0.cell 0 _ rfl
 have c1:=R0.cell 1 _ rfl
 have c2:=R0.cell 2 _ rfl
 have c3:=R0.cell 3 _ rfl
 have c4:=R0.cell 4 _ rfl
 have c5:=R0.cell 5 _ rfl
 have c6:=R0.cell 6 _ rfl
 have c7:=R0.cell 7 _ rfl
 have c8:=R0.cell 8 _ rfl
 have c9:=R0.cell 9 _ rfl
 have c10:=R0.cell 10 _ rfl
 have c11:=R0.cell 11 _ rfl
 have c12:=R0.cell 12 _ rfl
 have B0:Below base w W:=BW.mono hbase
 have HM1:Hid _:=M1
 have HM2:Hid _:=M2
 clear hW H h1 h2 hk M1 M2
 have e1:(a.kind==1)=true:=by simpa using hkd
 clear  hkd
 obtain⟨e0,hee⟩: ∃ e0,e0=fErr S a.t:=⟨_,rfl⟩
 have HE:Hid _:=hee
 have HNE:Hid (e0≠0):=by unfold Hid;rw [hee];exact he
 clear hee he
 go_enter Tryz.func19,Tryz.ntmps19
 go_wp2_with (go_at_call 34;fail)
 clear hW' c0 c1 c2 c3 c4 c5 c6 c7 c8 c9 c10 c11 c12
 refine(HH.out.addF0 base pm S m Fm W HM1.out HK.out hm0 a.t e0 h64.t HE.out HNE.out).mono ?_
 rintro e w1 ⟨rfl,k1,F1,g1,s1⟩
 have kF1:=k1
 have R1:=R0.keep k1 (by omega) am
 have z1:=k1.size
 have M3:=HM2.out.keep k1 (fun k f g=>hd k g f)
 have hd1: ∀ k,F1 k→ ¬Fx k:=fun k f g=>(s1 k f).elim (fun f=>hd k f g) (fun e=>by have:=fx k g;omega)
 have b1:Below base W w1:=k1.below (by omega) bm
 have HG1:Hid _:=g1
 have HM3:Hid _:=M3
 have d4:=R1.cell 4 _ rfl
 have d5:=R1.cell 5 _ rfl
 have d6:=R1.cell 6 _ rfl
 have d7:=R1.cell 7 _ rfl
 have d8:=R1.cell 8 _ rfl
 have d9:=R1.cell 9 _ rfl
 have d10:=R1.cell 10 _ rfl
 have d11:=R1.cell 11 _ rfl
 have d12:=R1.cell 12 _ rfl
 go_wp2_with (go_at_call 47;fail)
 refine(mrAddF0 base px S m Fx a.t w1 HM3.out HK.out hm0 h64.t HE.out HNE.out).mono ?_
 rintro e w2 ⟨rfl,b2'⟩
 have k2:Keep Fx w1 w2:=Keep.of b2'
 have g2:=HM3.out.below b2'
 have s2: ∀ k,Fx k→Fx k∨w1.heap.size≤k:=fun k f=>Or.inl f
 obtain⟨F2,hF2⟩: ∃ F2,F2=Fx:=⟨_,rfl⟩
 rw [←hF2]at g2
 have s2: ∀ k,F2 k→Fx k∨w1.heap.size≤k:=fun k f=>Or.inl (by rw [hF2]at f;exact f)
 clear hF2
 go_wp2
 go_ret
 have Mm:=HH.out.keep HG1.out k2 (fun k f g=>hd1 k f g)
 have hd2: ∀ k,F1 k→ ¬F2 k:=fun k f g=>(s2 k g).elim (fun g=>hd1 k f g) (fun e=>by have:=(HH.out.ft HG1.out k f).2;omega)
 have b2:Below base w1 w2:=k2.below (by omega) bx
 exact⟨rfl,(B0.trans b1).trans b2,⟨⟨F1,F2,Mm,g2,hd2⟩,HK.out.mono (by omega)⟩⟩
set_option maxRecDepth 100000 in
set_option maxHeartbeats 2000000 in
theorem does_1y{MP:MeShape}(H:MeSpec MP)(base pm px:Nat)(S:Ms)(m:Nat)(Fm Fx:Nat→Prop)(a:Act)(w:World)(h1:MP base pm S Fm w)(h2:MeR base px S Fx w)(hd: ∀ k,Fm k→ ¬Fx k)(hk:MsOk S m)(hm:m≤999)(h64:Act64 a)(hkd:a.kind=1)(he:fErr S a.t=0):
  Calls Tryz.prog 19 #[ptR pm,ptR px,actV a] w fun e w'=>e= .returned (.bool true)∧Below base w w'∧BothM MP base pm px (S.addF a.t) (m+1) w':=by
 have HH:Hid _:=H
 have HK:Hid _:=hk
 have hm0:m≤1000:=by omega
 have hbase:base≤w.heap.size:=by obtain⟨pv,pf,Fv,Ff,a,ca,b,cb,hrow,hv,hf,ha,hb,hp,_⟩:=h2.ex;have:=h2.ft px hp;omega
 obtain⟨W,hW⟩: ∃ W,W=w.alloc (.cells (actC a).toArray 61):=⟨_,rfl⟩
 have BW:Below w.heap.size w W:=by rw [hW];exact(Below.refl _ _).alloc (Nat.le_refl _) _
 have zW:W.heap.size=w.heap.size+1:=by rw [hW];simp
 have R0:Row W w.heap.size (actC a):=by rw [hW];exact Row.new w _ _
 have hW':w.alloc (.cells #[.int .i64 a.kind, .int .i64 a.n, .int .i64 a.x, .int .i64 a.y, .int .i64 a.t.v0, .int .i64 a.t.v1, .int .i64 a.t.v2, .int .i64 a.t.x0, .int .i64 a.t.y0, .int .i64 a.t.x1, .int .i64 a.t.y1, .int .i64 a.t.x2, .int .i64 a.t.y2] 61)=W:=hW.symm
 have M1:=HH.out.below h1 BW
 have M2:=h2.below BW
 have am: ¬Fm w.heap.size:=fun f=>by have:=(H.ft h1 _ f).2;omega
 have ax: ¬Fx w.heap.size:=fun f=>by have:=(h2.ft _ f).2;omega
 have fm: ∀ k,Fm k→k<w.heap.size:=fun k f=>(H.ft h1 k f).2
 have fx: ∀ k,Fx k→k<w.heap.size:=fun k f=>(h2.ft k f).2
 have bm: ∀ k,Fm k→base≤k:=fun k f=>(H.ft h1 k f).1
 have bx: ∀ k,Fx k→base≤k:=fun k f=>(h2.ft k f).1
 have c0:=R0.cell 0 _ rfl
 have c1:=R0.cell 1 _ rfl
 have c2:=R0.cell 2 _ rfl
 have c3:=R0.cell 3 _ rfl
 have c4:=R0.cell 4 _ rfl
 have c5:=R0.cell 5 _ rfl
 have c6:=R0.cell 6 _ rfl
 have c7:=R0.cell 7 _ rfl
 have c8:=R0.cell 8 _ rfl
 have c9:=R0.cell 9 _ rfl
 have c10:=R0.cell 10 _ rfl
 have c11:=R0.cell 11 _ rfl
 have c12:=R0.cell 12 _ rfl
 have B0:Below base w W:=BW.mono hbase
 have HM1:Hid _:=M1
 have HM2:Hid _:=M2
 clear hW H h1 h2 hk M1 M2
 have e1:(a.kind==1)=true:=by simpa using hkd
 clear  hkd
 obtain⟨e0,hee⟩: ∃ e0,e0=fErr S a.t:=⟨_,rfl⟩
 have HE:Hid _:=hee
 have HNE:Hid (e0=0):=by unfold Hid;rw [hee];exact he
 clear hee he
 go_enter Tryz.func19,Tryz.ntmps19
 go_wp2_with (go_at_call 34;fail)
 clear hW' c0 c1 c2 c3 c4 c5 c6 c7 c8 c9 c10 c11 c12
 refine(HH.out.addF base pm S m Fm W HM1.out HK.out hm0 a.t h64.t (HE.out.symm.trans HNE.out)).mono ?_
 rintro e w1 ⟨rfl,k1,F1,g1,s1⟩
 have kF1:=k1
 have R1:=R0.keep k1 (by omega) am
 have z1:=k1.size
 have M3:=HM2.out.keep k1 (fun k f g=>hd k g f)
 have hd1: ∀ k,F1 k→ ¬Fx k:=fun k f g=>(s1 k f).elim (fun f=>hd k f g) (fun e=>by have:=fx k g;omega)
 have b1:Below base W w1:=k1.below (by omega) bm
 have HG1:Hid _:=g1
 have HM3:Hid _:=M3
 have d4:=R1.cell 4 _ rfl
 have d5:=R1.cell 5 _ rfl
 have d6:=R1.cell 6 _ rfl
 have d7:=R1.cell 7 _ rfl
 have d8:=R1.cell 8 _ rfl
 have d9:=R1.cell 9 _ rfl
 have d10:=R1.cell 10 _ rfl
 have d11:=R1.cell 11 _ rfl
 have d12:=R1.cell 12 _ rfl
 go_wp2_with (go_at_call 47;fail)
 refine(mrAddF base px S m Fx a.t w1 HM3.out HK.out hm0 h64.t (HE.out.symm.trans HNE.out)).mono ?_
 rintro e w2 ⟨rfl,k2,F2,g2,s2⟩
 go_wp2
 go_ret
 have Mm:=HH.out.keep HG1.out k2 (fun k f g=>hd1 k f g)
 have hd2: ∀ k,F1 k→ ¬F2 k:=fun k f g=>(s2 k g).elim (fun g=>hd1 k f g) (fun e=>by have:=(HH.out.ft HG1.out k f).2;omega)
 have b2:Below base w1 w2:=k2.below (by omega) bx
 exact⟨rfl,(B0.trans b1).trans b2,⟨⟨F1,F2,Mm,g2,hd2⟩,HK.out.addF (HE.out.symm.trans HNE.out) (tr64_all h64.t)⟩⟩
set_option maxRecDepth 100000 in
set_option maxHeartbeats 2000000 in
theorem does_2n{MP:MeShape}(H:MeSpec MP)(base pm px:Nat)(S:Ms)(m:Nat)(Fm Fx:Nat→Prop)(a:Act)(w:World)(h1:MP base pm S Fm w)(h2:MeR base px S Fx w)(hd: ∀ k,Fm k→ ¬Fx k)(hk:MsOk S m)(hm:m≤999)(h64:Act64 a)(n1:a.kind≠1)(hkd:a.kind=2)(hf:isF S a.n=false):
  Calls Tryz.prog 19 #[ptR pm,ptR px,actV a] w fun e w'=>e= .returned (.bool true)∧Below base w w'∧BothM MP base pm px (S) (m+1) w':=by
 have HH:Hid _:=H
 have HK:Hid _:=hk
 have hm0:m≤1000:=by omega
 have hbase:base≤w.heap.size:=by obtain⟨pv,pf,Fv,Ff,a,ca,b,cb,hrow,hv,hf,ha,hb,hp,_⟩:=h2.ex;have:=h2.ft px hp;omega
 obtain⟨W,hW⟩: ∃ W,W=w.alloc (.cells (actC a).toArray 61):=⟨_,rfl⟩
 have BW:Below w.heap.size w W:=by rw [hW];exact(Below.refl _ _).alloc (Nat.le_refl _) _
 have zW:W.heap.size=w.heap.size+1:=by rw [hW];simp
 have R0:Row W w.heap.size (actC a):=by rw [hW];exact Row.new w _ _
 have hW':w.alloc (.cells #[.int .i64 a.kind, .int .i64 a.n, .int .i64 a.x, .int .i64 a.y, .int .i64 a.t.v0, .int .i64 a.t.v1, .int .i64 a.t.v2, .int .i64 a.t.x0, .int .i64 a.t.y0, .int .i64 a.t.x1, .int .i64 a.t.y1, .int .i64 a.t.x2, .int .i64 a.t.y2] 61)=W:=hW.symm
 have M1:=HH.out.below h1 BW
 have M2:=h2.below BW
 have am: ¬Fm w.heap.size:=fun f=>by have:=(H.ft h1 _ f).2;omega
 have ax: ¬Fx w.heap.size:=fun f=>by have:=(h2.ft _ f).2;omega
 have fm: ∀ k,Fm k→k<w.heap.size:=fun k f=>(H.ft h1 k f).2
 have fx: ∀ k,Fx k→k<w.heap.size:=fun k f=>(h2.ft k f).2
 have bm: ∀ k,Fm k→base≤k:=fun k f=>(H.ft h1 k f).1
 have bx: ∀ k,Fx k→base≤k:=fun k f=>(h2.ft k f).1
 have c0:=R0.cell 0 _ rfl
 have c1:=R0.cell 1 _ rfl
 have c2:=R0.cell 2 _ rfl
 have c3:=R0.cell 3 _ rfl
 have c4:=R0.cell 4 _ rfl
 have c5:=R0.cell 5 _ rfl
 have c6:=R0.cell 6 _ rfl
 have c7:=R0.cell 7 _ rfl
 have c8:=R0.cell 8 _ rfl
 have c9:=R0.cell 9 _ rfl
 have c10:=R0.cell 10 _ rfl
 have c11:=R0.cell 11 _ rfl
 have c12:=R0.cell 12 _ rfl
 have B0:Below base w W:=BW.mono hbase
 have HM1:Hid _:=M1
 have HM2:Hid _:=M2
 clear hW H h1 h2 hk M1 M2
 have e1:(a.kind==1)=false:=by simpa using n1
 have e2:(a.kind==2)=true:=by simpa using hkd
 clear n1 hkd
 obtain⟨lv,lc,l1,l2,l3,l4⟩:=HK.out.lens
 go_enter Tryz.func19,Tryz.ntmps19
 have hA:w.heap.size<W.drew.heap.size:=by simp;omega
 have BD:Below W.heap.size W W.drew:=(Below.refl _ _).drew
 have HM1d:Hid _:=HH.out.below HM1.out BD
 have HM2d:Hid _:=HM2.out.below BD
 go_wp2
 clear hW'
 refine wp_region_held_drew (S:=fun w'=>w'.cell? ⟨w.heap.size,1,none⟩=some (.int .i64 a.n)) (by kernel_rfl) ?_ (fun hHeld=>?_)
 ·exact c1
 refine tn 0 ?_;refine tn 1 ?_;refine tn 2 ?_;refine tn 4 ?_;refine tn 5 ?_;refine tn 6 ?_
 simp only [Act.put,ps1,ps2,ps3]
 refine tcl 3 fun Kc hK=>?_
 go_simp
 (go_at_call 48;refine(HH.out.dropF0 base pm S m Fm W.drew HM1d.out HK.out hm0 a.n h64.n hf).mono ?_;rintro e w1 ⟨rfl,k1,F1,g1,s1⟩)
 refine hK.out _ _ ?_ (fun hHeld=>?_)
 ·exact keep_cell k1 hA am c1
 clear hK Kc
 have R1:=R0.drew.keep k1 (by omega) am
 have z1:=k1.size
 have hA1:w.heap.size<w1.heap.size:=(by simp at z1;omega)
 have M3:=HM2d.out.keep k1 (fun k f g=>hd k g f)
 have hd1: ∀ k,F1 k→ ¬Fx k:=fun k f g=>(s1 k f).elim (fun f=>hd k f g) (fun e=>by have:=fx k g;simp at e;omega)
 have b1:Below base W.drew w1:=k1.below (by simp;omega) bm
 have HG1:Hid _:=g1
 have HM3:Hid _:=M3
 clear g1 M3
 refine tcl 7 fun Kc hK=>?_
 go_simp
 (go_at_call 49;refine(mrDropF0 px S a.n w1 HM3.out.look (by omega) (by have:=of_decide_eq_false hf;omega)).mono ?_;rintro e w2 ⟨rfl,b2'⟩)
 refine hK.out _ _ ?_ (fun hHeld=>?_)
 ·exact keep_cell (Keep.of (F:=Fx) b2') hA1 ax (keep_cell k1 hA am c1)
 clear hK Kc
 have k2:Keep Fx w1 w2:=Keep.of b2'
 have g2:=HM3.out.below b2'
 obtain⟨F2,hF2⟩: ∃ F2,F2=Fx:=⟨_,rfl⟩
 rw [←hF2]at g2
 have s2: ∀ k,F2 k→Fx k∨w1.heap.size≤k:=fun k f=>Or.inl (by rw [hF2]at f;exact f)
 clear hF2
 refine tn 8 ?_;refine tn 9 ?_
 simp only [Act.put,ps1,ps2,ps3]
 refine wpAnyH_done (by kernel_rfl) ?_ _
 go_wp2
 go_ret
 have Mm:=HH.out.keep HG1.out k2 (fun k f g=>hd1 k f g)
 have hd2: ∀ k,F1 k→ ¬F2 k:=fun k f g=>(s2 k g).elim (fun g=>hd1 k f g) (fun e=>by have:=(HH.out.ft HG1.out k f).2;omega)
 have b2:Below base w1 w2:=k2.below (by omega) bx
 exact⟨rfl,(B0.drew.trans b1).trans b2,⟨⟨F1,F2,Mm,g2,hd2⟩,HK.out.mono (by omega)⟩⟩
set_option maxRecDepth 100000 in
set_option maxHeartbeats 2000000 in
theorem does_2y{MP:MeShape}(H:MeSpec MP)(base pm px:Nat)(S:Ms)(m:Nat)(Fm Fx:Nat→Prop)(a:Act)(w:World)(h1:MP base pm S Fm w)(h2:MeR base px S Fx w)(hd: ∀ k,Fm k→ ¬Fx k)(hk:MsOk S m)(hm:m≤999)(h64:Act64 a)(n1:a.kind≠1)(hkd:a.kind=2)(i:Nat)(c:Ce)(hc:S.C[i]? =some c)(hcf:c.no=a.n)(hi:fAt Ce.no a.n S.C 0=(i:Int)):
  Calls Tryz.prog 19 #[ptR pm,ptR px,actV a] w fun e w'=>e= .returned (.bool true)∧Below base w w'∧BothM MP base pm px (S.dropF a.n i) (m+1) w':=by
 have HH:Hid _:=H
 have HK:Hid _:=hk
 have hm0:m≤1000:=by omega
 have hbase:base≤w.heap.size:=by obtain⟨pv,pf,Fv,Ff,a,ca,b,cb,hrow,hv,hf,ha,hb,hp,_⟩:=h2.ex;have:=h2.ft px hp;omega
 obtain⟨W,hW⟩: ∃ W,W=w.alloc (.cells (actC a).toArray 61):=⟨_,rfl⟩
 have BW:Below w.heap.size w W:=by rw [hW];exact(Below.refl _ _).alloc (Nat.le_refl _) _
 have zW:W.heap.size=w.heap.size+1:=by rw [hW];simp
 have R0:Row W w.heap.size (actC a):=by rw [hW];exact Row.new w _ _
 have hW':w.alloc (.cells #[.int .i64 a.kind, .int .i64 a.n, .int .i64 a.x, .int .i64 a.y, .int .i64 a.t.v0, .int .i64 a.t.v1, .int .i64 a.t.v2, .int .i64 a.t.x0, .int .i64 a.t.y0, .int .i64 a.t.x1, .int .i64 a.t.y1, .int .i64 a.t.x2, .int .i64 a.t.y2] 61)=W:=hW.symm
 have M1:=HH.out.below h1 BW
 have M2:=h2.below BW
 have am: ¬Fm w.heap.size:=fun f=>by have:=(H.ft h1 _ f).2;omega
 have ax: ¬Fx w.heap.size:=fun f=>by have:=(h2.ft _ f).2;omega
 have fm: ∀ k,Fm k→k<w.heap.size:=fun k f=>(H.ft h1 k f).2
 have fx: ∀ k,Fx k→k<w.heap.size:=fun k f=>(h2.ft k f).2
 have bm: ∀ k,Fm k→base≤k:=fun k f=>(H.ft h1 k f).1
 have bx: ∀ k,Fx k→base≤k:=fun k f=>(h2.ft k f).1
 have c0:=R0.cell 0 _ rfl
 have c1:=R0.cell 1 _ rfl
 have c2:=R0.cell 2 _ rfl
 have c3:=R0.cell 3 _ rfl
 have c4:=R0.cell 4 _ rfl
 have c5:=R0.cell 5 _ rfl
 have c6:=R0.cell 6 _ rfl
 have c7:=R0.cell 7 _ rfl
 have c8:=R0.cell 8 _ rfl
 have c9:=R0.cell 9 _ rfl
 have c10:=R0.cell 10 _ rfl
 have c11:=R0.cell 11 _ rfl
 have c12:=R0.cell 12 _ rfl
 have B0:Below base w W:=BW.mono hbase
 have HM1:Hid _:=M1
 have HM2:Hid _:=M2
 clear hW H h1 h2 hk M1 M2
 have e1:(a.kind==1)=false:=by simpa using n1
 have e2:(a.kind==2)=true:=by simpa using hkd
 clear n1 hkd
 obtain⟨lv,lc,l1,l2,l3,l4⟩:=HK.out.lens
 go_enter Tryz.func19,Tryz.ntmps19
 have hA:w.heap.size<W.drew.heap.size:=by simp;omega
 have BD:Below W.heap.size W W.drew:=(Below.refl _ _).drew
 have HM1d:Hid _:=HH.out.below HM1.out BD
 have HM2d:Hid _:=HM2.out.below BD
 go_wp2
 clear hW'
 refine wp_region_held_drew (S:=fun w'=>w'.cell? ⟨w.heap.size,1,none⟩=some (.int .i64 a.n)) (by kernel_rfl) ?_ (fun hHeld=>?_)
 ·exact c1
 refine tn 0 ?_;refine tn 1 ?_;refine tn 2 ?_;refine tn 4 ?_;refine tn 5 ?_;refine tn 6 ?_
 simp only [Act.put,ps1,ps2,ps3]
 refine tcl 3 fun Kc hK=>?_
 go_simp
 (go_at_call 48;refine(HH.out.dropF base pm S m Fm W.drew HM1d.out HK.out hm0 a.n i c h64.n hc hcf).mono ?_;rintro e w1 ⟨rfl,k1,F1,g1,s1⟩)
 refine hK.out _ _ ?_ (fun hHeld=>?_)
 ·exact keep_cell k1 hA am c1
 clear hK Kc
 have R1:=R0.drew.keep k1 (by omega) am
 have z1:=k1.size
 have hA1:w.heap.size<w1.heap.size:=(by simp at z1;omega)
 have M3:=HM2d.out.keep k1 (fun k f g=>hd k g f)
 have hd1: ∀ k,F1 k→ ¬Fx k:=fun k f g=>(s1 k f).elim (fun f=>hd k f g) (fun e=>by have:=fx k g;simp at e;omega)
 have b1:Below base W.drew w1:=k1.below (by simp;omega) bm
 have HG1:Hid _:=g1
 have HM3:Hid _:=M3
 clear g1 M3
 refine tcl 7 fun Kc hK=>?_
 go_simp
 (go_at_call 49;refine(mrDropF base px S Fx a.n i w1 HM3.out (by omega) (by omega) (by omega) hi (List.getElem?_eq_some_iff.1 hc).1 (hcf▸(HK.out.fmem (List.mem_of_getElem? hc)).1)).mono ?_;rintro e w2 ⟨rfl,k2,F2,g2,s2⟩)
 refine hK.out _ _ ?_ (fun hHeld=>?_)
 ·exact keep_cell k2 hA1 ax (keep_cell k1 hA am c1)
 clear hK Kc
 refine tn 8 ?_;refine tn 9 ?_
 simp only [Act.put,ps1,ps2,ps3]
 refine wpAnyH_done (by kernel_rfl) ?_ _
 go_wp2
 go_ret
 have Mm:=HH.out.keep HG1.out k2 (fun k f g=>hd1 k f g)
 have hd2: ∀ k,F1 k→ ¬F2 k:=fun k f g=>(s2 k g).elim (fun g=>hd1 k f g) (fun e=>by have:=(HH.out.ft HG1.out k f).2;omega)
 have b2:Below base w1 w2:=k2.below (by omega) bx
 exact⟨rfl,(B0.drew.trans b1).trans b2,⟨⟨F1,F2,Mm,g2,hd2⟩,HK.out.dropF hc hcf⟩⟩
set_option maxRecDepth 100000 in
set_option maxHeartbeats 2000000 in
theorem does_3n{MP:MeShape}(H:MeSpec MP)(base pm px:Nat)(S:Ms)(m:Nat)(Fm Fx:Nat→Prop)(a:Act)(w:World)(h1:MP base pm S Fm w)(h2:MeR base px S Fx w)(hd: ∀ k,Fm k→ ¬Fx k)(hk:MsOk S m)(hm:m≤999)(h64:Act64 a)(n1:a.kind≠1)(n2:a.kind≠2)(hkd:a.kind=3)(hf:isV S a.n=false):
  Calls Tryz.prog 19 #[ptR pm,ptR px,actV a] w fun e w'=>e= .returned (.bool true)∧Below base w w'∧BothM MP base pm px (S) (m+1) w':=by
 have HH:Hid _:=H
 have HK:Hid _:=hk
 have hm0:m≤1000:=by omega
 have hbase:base≤w.heap.size:=by obtain⟨pv,pf,Fv,Ff,a,ca,b,cb,hrow,hv,hf,ha,hb,hp,_⟩:=h2.ex;have:=h2.ft px hp;omega
 obtain⟨W,hW⟩: ∃ W,W=w.alloc (.cells (actC a).toArray 61):=⟨_,rfl⟩
 have BW:Below w.heap.size w W:=by rw [hW];exact(Below.refl _ _).alloc (Nat.le_refl _) _
 have zW:W.heap.size=w.heap.size+1:=by rw [hW];simp
 have R0:Row W w.heap.size (actC a):=by rw [hW];exact Row.new w _ _
 have hW':w.alloc (.cells #[.int .i64 a.kind, .int .i64 a.n, .int .i64 a.x, .int .i64 a.y, .int .i64 a.t.v0, .int .i64 a.t.v1, .int .i64 a.t.v2, .int .i64 a.t.x0, .int .i64 a.t.y0, .int .i64 a.t.x1, .int .i64 a.t.y1, .int .i64 a.t.x2, .int .i64 a.t.y2] 61)=W:=hW.symm
 have M1:=HH.out.below h1 BW
 have M2:=h2.below BW
 have am: ¬Fm w.heap.size:=fun f=>by have:=(H.ft h1 _ f).2;omega
 have ax: ¬Fx w.heap.size:=fun f=>by have:=(h2.ft _ f).2;omega
 have fm: ∀ k,Fm k→k<w.heap.size:=fun k f=>(H.ft h1 k f).2
 have fx: ∀ k,Fx k→k<w.heap.size:=fun k f=>(h2.ft k f).2
 have bm: ∀ k,Fm k→base≤k:=fun k f=>(H.ft h1 k f).1
 have bx: ∀ k,Fx k→base≤k:=fun k f=>(h2.ft k f).1
 have c0:=R0.cell 0 _ rfl
 have c1:=R0.cell 1 _ rfl
 have c2:=R0.cell 2 _ rfl
 have c3:=R0.cell 3 _ rfl
 have c4:=R0.cell 4 _ rfl
 have c5:=R0.cell 5 _ rfl
 have c6:=R0.cell 6 _ rfl
 have c7:=R0.cell 7 _ rfl
 have c8:=R0.cell 8 _ rfl
 have c9:=R0.cell 9 _ rfl
 have c10:=R0.cell 10 _ rfl
 have c11:=R0.cell 11 _ rfl
 have c12:=R0.cell 12 _ rfl
 have B0:Below base w W:=BW.mono hbase
 have HM1:Hid _:=M1
 have HM2:Hid _:=M2
 clear hW H h1 h2 hk M1 M2
 have e1:(a.kind==1)=false:=by simpa using n1
 have e2:(a.kind==2)=false:=by simpa using n2
 have e3:(a.kind==3)=true:=by simpa using hkd
 clear n1 n2 hkd
 obtain⟨lv,lc,l1,l2,l3,l4⟩:=HK.out.lens
 go_enter Tryz.func19,Tryz.ntmps19
 have hA:w.heap.size<W.drew.heap.size:=by simp;omega
 have BD:Below W.heap.size W W.drew:=(Below.refl _ _).drew
 have HM1d:Hid _:=HH.out.below HM1.out BD
 have HM2d:Hid _:=HM2.out.below BD
 go_wp2
 clear hW'
 refine wp_region_held_drew (S:=fun w'=>w'.cell? ⟨w.heap.size,1,none⟩=some (.int .i64 a.n)) (by kernel_rfl) ?_ (fun hHeld=>?_)
 ·exact c1
 refine tn 0 ?_;refine tn 1 ?_;refine tn 2 ?_;refine tn 4 ?_;refine tn 5 ?_;refine tn 6 ?_
 simp only [Act.put,ps1,ps2,ps3]
 refine tcl 3 fun Kc hK=>?_
 go_simp
 (go_at_call 50;refine(HH.out.dropV0 base pm S m Fm W.drew HM1d.out HK.out hm0 a.n h64.n (Or.inl hf)).mono ?_;rintro e w1 ⟨rfl,k1,F1,g1,s1⟩)
 refine hK.out _ _ ?_ (fun hHeld=>?_)
 ·exact keep_cell k1 hA am c1
 clear hK Kc
 have R1:=R0.drew.keep k1 (by omega) am
 have z1:=k1.size
 have hA1:w.heap.size<w1.heap.size:=(by simp at z1;omega)
 have M3:=HM2d.out.keep k1 (fun k f g=>hd k g f)
 have hd1: ∀ k,F1 k→ ¬Fx k:=fun k f g=>(s1 k f).elim (fun f=>hd k f g) (fun e=>by have:=fx k g;simp at e;omega)
 have b1:Below base W.drew w1:=k1.below (by simp;omega) bm
 have HG1:Hid _:=g1
 have HM3:Hid _:=M3
 clear g1 M3
 refine tcl 7 fun Kc hK=>?_
 go_simp
 (go_at_call 51;refine(mrDropV0 px S a.n w1 HM3.out.look (by omega) (by omega) (by have:=of_decide_eq_false hf;omega)).mono ?_;rintro e w2 ⟨rfl,b2'⟩)
 refine hK.out _ _ ?_ (fun hHeld=>?_)
 ·exact keep_cell (Keep.of (F:=Fx) b2') hA1 ax (keep_cell k1 hA am c1)
 clear hK Kc
 have k2:Keep Fx w1 w2:=Keep.of b2'
 have g2:=HM3.out.below b2'
 obtain⟨F2,hF2⟩: ∃ F2,F2=Fx:=⟨_,rfl⟩
 rw [←hF2]at g2
 have s2: ∀ k,F2 k→Fx k∨w1.heap.size≤k:=fun k f=>Or.inl (by rw [hF2]at f;exact f)
 clear hF2
 refine tn 8 ?_;refine tn 9 ?_
 simp only [Act.put,ps1,ps2,ps3]
 refine wpAnyH_done (by kernel_rfl) ?_ _
 go_wp2
 go_ret
 have Mm:=HH.out.keep HG1.out k2 (fun k f g=>hd1 k f g)
 have hd2: ∀ k,F1 k→ ¬F2 k:=fun k f g=>(s2 k g).elim (fun g=>hd1 k f g) (fun e=>by have:=(HH.out.ft HG1.out k f).2;omega)
 have b2:Below base w1 w2:=k2.below (by omega) bx
 exact⟨rfl,(B0.drew.trans b1).trans b2,⟨⟨F1,F2,Mm,g2,hd2⟩,HK.out.mono (by omega)⟩⟩
set_option maxRecDepth 100000 in
set_option maxHeartbeats 2000000 in
theorem does_3m{MP:MeShape}(H:MeSpec MP)(base pm px:Nat)(S:Ms)(m:Nat)(Fm Fx:Nat→Prop)(a:Act)(w:World)(h1:MP base pm S Fm w)(h2:MeR base px S Fx w)(hd: ∀ k,Fm k→ ¬Fx k)(hk:MsOk S m)(hm:m≤999)(h64:Act64 a)(n1:a.kind≠1)(n2:a.kind≠2)(hkd:a.kind=3)(hf:isV S a.n=true)(hne:around S.C a.n≠ []):
  Calls Tryz.prog 19 #[ptR pm,ptR px,actV a] w fun e w'=>e= .returned (.bool true)∧Below base w w'∧BothM MP base pm px (S) (m+1) w':=by
 have HH:Hid _:=H
 have HK:Hid _:=hk
 have hm0:m≤1000:=by omega
 have hbase:base≤w.heap.size:=by obtain⟨pv,pf,Fv,Ff,a,ca,b,cb,hrow,hv,hf,ha,hb,hp,_⟩:=h2.ex;have:=h2.ft px hp;omega
 obtain⟨W,hW⟩: ∃ W,W=w.alloc (.cells (actC a).toArray 61):=⟨_,rfl⟩
 have BW:Below w.heap.size w W:=by rw [hW];exact(Below.refl _ _).alloc (Nat.le_refl _) _
 have zW:W.heap.size=w.heap.size+1:=by rw [hW];simp
 have R0:Row W w.heap.size (actC a):=by rw [hW];exact Row.new w _ _
 have hW':w.alloc (.cells #[.int .i64 a.kind, .int .i64 a.n, .int .i64 a.x, .int .i64 a.y, .int .i64 a.t.v0, .int .i64 a.t.v1, .int .i64 a.t.v2, .int .i64 a.t.x0, .int .i64 a.t.y0, .int .i64 a.t.x1, .int .i64 a.t.y1, .int .i64 a.t.x2, .int .i64 a.t.y2] 61)=W:=hW.symm
 have M1:=HH.out.below h1 BW
 have M2:=h2.below BW
 have am: ¬Fm w.heap.size:=fun f=>by have:=(H.ft h1 _ f).2;omega
 have ax: ¬Fx w.heap.size:=fun f=>by have:=(h2.ft _ f).2;omega
 have fm: ∀ k,Fm k→k<w.heap.size:=fun k f=>(H.ft h1 k f).2
 have fx: ∀ k,Fx k→k<w.heap.size:=fun k f=>(h2.ft k f).2
 have bm: ∀ k,Fm k→base≤k:=fun k f=>(H.ft h1 k f).1
 have bx: ∀ k,Fx k→base≤k:=fun k f=>(h2.ft k f).1
 have c0:=R0.cell 0 _ rfl
 have c1:=R0.cell 1 _ rfl
 have c2:=R0.cell 2 _ rfl
 have c3:=R0.cell 3 _ rfl
 have c4:=R0.cell 4 _ rfl
 have c5:=R0.cell 5 _ rfl
 have c6:=R0.cell 6 _ rfl
 have c7:=R0.cell 7 _ rfl
 have c8:=R0.cell 8 _ rfl
 have c9:=R0.cell 9 _ rfl
 have c10:=R0.cell 10 _ rfl
 have c11:=R0.cell 11 _ rfl
 have c12:=R0.cell 12 _ rfl
 have B0:Below base w W:=BW.mono hbase
 have HM1:Hid _:=M1
 have HM2:Hid _:=M2
 clear hW H h1 h2 hk M1 M2
 have e1:(a.kind==1)=false:=by simpa using n1
 have e2:(a.kind==2)=false:=by simpa using n2
 have e3:(a.kind==3)=true:=by simpa using hkd
 clear n1 n2 hkd
 obtain⟨lv,lc,l1,l2,l3,l4⟩:=HK.out.lens
 go_enter Tryz.func19,Tryz.ntmps19
 have hA:w.heap.size<W.drew.heap.size:=by simp;omega
 have BD:Below W.heap.size W W.drew:=(Below.refl _ _).drew
 have HM1d:Hid _:=HH.out.below HM1.out BD
 have HM2d:Hid _:=HM2.out.below BD
 go_wp2
 clear hW'
 refine wp_region_held_drew (S:=fun w'=>w'.cell? ⟨w.heap.size,1,none⟩=some (.int .i64 a.n)) (by kernel_rfl) ?_ (fun hHeld=>?_)
 ·exact c1
 refine tn 0 ?_;refine tn 1 ?_;refine tn 2 ?_;refine tn 4 ?_;refine tn 5 ?_;refine tn 6 ?_
 simp only [Act.put,ps1,ps2,ps3]
 refine tcl 3 fun Kc hK=>?_
 go_simp
 (go_at_call 50;refine(HH.out.dropV0 base pm S m Fm W.drew HM1d.out HK.out hm0 a.n h64.n (Or.inr hne)).mono ?_;rintro e w1 ⟨rfl,k1,F1,g1,s1⟩)
 refine hK.out _ _ ?_ (fun hHeld=>?_)
 ·exact keep_cell k1 hA am c1
 clear hK Kc
 have R1:=R0.drew.keep k1 (by omega) am
 have z1:=k1.size
 have hA1:w.heap.size<w1.heap.size:=(by simp at z1;omega)
 have M3:=HM2d.out.keep k1 (fun k f g=>hd k g f)
 have hd1: ∀ k,F1 k→ ¬Fx k:=fun k f g=>(s1 k f).elim (fun f=>hd k f g) (fun e=>by have:=fx k g;simp at e;omega)
 have b1:Below base W.drew w1:=k1.below (by simp;omega) bm
 have HG1:Hid _:=g1
 have HM3:Hid _:=M3
 clear g1 M3
 refine tcl 7 fun Kc hK=>?_
 go_simp
 (go_at_call 51;refine(mrDropV1 px S a.n w1 HM3.out.look (by omega) (by omega) (of_decide_eq_true hf) hne).mono ?_;rintro e w2 ⟨rfl,b2'⟩)
 refine hK.out _ _ ?_ (fun hHeld=>?_)
 ·exact keep_cell (Keep.of (F:=Fx) b2') hA1 ax (keep_cell k1 hA am c1)
 clear hK Kc
 have k2:Keep Fx w1 w2:=Keep.of b2'
 have g2:=HM3.out.below b2'
 obtain⟨F2,hF2⟩: ∃ F2,F2=Fx:=⟨_,rfl⟩
 rw [←hF2]at g2
 have s2: ∀ k,F2 k→Fx k∨w1.heap.size≤k:=fun k f=>Or.inl (by rw [hF2]at f;exact f)
 clear hF2
 refine tn 8 ?_;refine tn 9 ?_
 simp only [Act.put,ps1,ps2,ps3]
 refine wpAnyH_done (by kernel_rfl) ?_ _
 go_wp2
 go_ret
 have Mm:=HH.out.keep HG1.out k2 (fun k f g=>hd1 k f g)
 have hd2: ∀ k,F1 k→ ¬F2 k:=fun k f g=>(s2 k g).elim (fun g=>hd1 k f g) (fun e=>by have:=(HH.out.ft HG1.out k f).2;omega)
 have b2:Below base w1 w2:=k2.below (by omega) bx
 exact⟨rfl,(B0.drew.trans b1).trans b2,⟨⟨F1,F2,Mm,g2,hd2⟩,HK.out.mono (by omega)⟩⟩
set_option maxRecDepth 100000 in
set_option maxHeartbeats 2000000 in
theorem does_3y{MP:MeShape}(H:MeSpec MP)(base pm px:Nat)(S:Ms)(m:Nat)(Fm Fx:Nat→Prop)(a:Act)(w:World)(h1:MP base pm S Fm w)(h2:MeR base px S Fx w)(hd: ∀ k,Fm k→ ¬Fx k)(hk:MsOk S m)(hm:m≤999)(h64:Act64 a)(n1:a.kind≠1)(n2:a.kind≠2)(hkd:a.kind=3)(i:Nat)(c:Vt)(hc:S.V[i]? =some c)(hcf:c.no=a.n)(hi:fAt Vt.no a.n S.V 0=(i:Int))(hne:around S.C a.n= []):
  Calls Tryz.prog 19 #[ptR pm,ptR px,actV a] w fun e w'=>e= .returned (.bool true)∧Below base w w'∧BothM MP base pm px (S.dropV a.n i) (m+1) w':=by
 have HH:Hid _:=H
 have HK:Hid _:=hk
 have hm0:m≤1000:=by omega
 have hbase:base≤w.heap.size:=by obtain⟨pv,pf,Fv,Ff,a,ca,b,cb,hrow,hv,hf,ha,hb,hp,_⟩:=h2.ex;have:=h2.ft px hp;omega
 obtain⟨W,hW⟩: ∃ W,W=w.alloc (.cells (actC a).toArray 61):=⟨_,rfl⟩
 have BW:Below w.heap.size w W:=by rw [hW];exact(Below.refl _ _).alloc (Nat.le_refl _) _
 have zW:W.heap.size=w.heap.size+1:=by rw [hW];simp
 have R0:Row W w.heap.size (actC a):=by rw [hW];exact Row.new w _ _
 have hW':w.alloc (.cells #[.int .i64 a.kind, .int .i64 a.n, .int .i64 a.x, .int .i64 a.y, .int .i64 a.t.v0, .int .i64 a.t.v1, .int .i64 a.t.v2, .int .i64 a.t.x0, .int .i64 a.t.y0, .int .i64 a.t.x1, .int .i64 a.t.y1, .int .i64 a.t.x2, .int .i64 a.t.y2] 61)=W:=hW.symm
 have M1:=HH.out.below h1 BW
 have M2:=h2.below BW
 have am: ¬Fm w.heap.size:=fun f=>by have:=(H.ft h1 _ f).2;omega
 have ax: ¬Fx w.heap.size:=fun f=>by have:=(h2.ft _ f).2;omega
 have fm: ∀ k,Fm k→k<w.heap.size:=fun k f=>(H.ft h1 k f).2
 have fx: ∀ k,Fx k→k<w.heap.size:=fun k f=>(h2.ft k f).2
 have bm: ∀ k,Fm k→base≤k:=fun k f=>(H.ft h1 k f).1
 have bx: ∀ k,Fx k→base≤k:=fun k f=>(h2.ft k f).1
 have c0:=R0.cell 0 _ rfl
 have c1:=R0.cell 1 _ rfl
 have c2:=R0.cell 2 _ rfl
 have c3:=R0.cell 3 _ rfl
 have c4:=R0.cell 4 _ rfl
 have c5:=R0.cell 5 _ rfl
 have c6:=R0.cell 6 _ rfl
 have c7:=R0.cell 7 _ rfl
 have c8:=R0.cell 8 _ rfl
 have c9:=R0.cell 9 _ rfl
 have c10:=R0.cell 10 _ rfl
 have c11:=R0.cell 11 _ rfl
 have c12:=R0.cell 12 _ rfl
 have B0:Below base w W:=BW.mono hbase
 have HM1:Hid _:=M1
 have HM2:Hid _:=M2
 clear hW H h1 h2 hk M1 M2
 have e1:(a.kind==1)=false:=by simpa using n1
 have e2:(a.kind==2)=false:=by simpa using n2
 have e3:(a.kind==3)=true:=by simpa using hkd
 clear n1 n2 hkd
 obtain⟨lv,lc,l1,l2,l3,l4⟩:=HK.out.lens
 go_enter Tryz.func19,Tryz.ntmps19
 have hA:w.heap.size<W.drew.heap.size:=by simp;omega
 have BD:Below W.heap.size W W.drew:=(Below.refl _ _).drew
 have HM1d:Hid _:=HH.out.below HM1.out BD
 have HM2d:Hid _:=HM2.out.below BD
 go_wp2
 clear hW'
 refine wp_region_held_drew (S:=fun w'=>w'.cell? ⟨w.heap.size,1,none⟩=some (.int .i64 a.n)) (by kernel_rfl) ?_ (fun hHeld=>?_)
 ·exact c1
 refine tn 0 ?_;refine tn 1 ?_;refine tn 2 ?_;refine tn 4 ?_;refine tn 5 ?_;refine tn 6 ?_
 simp only [Act.put,ps1,ps2,ps3]
 refine tcl 3 fun Kc hK=>?_
 go_simp
 (go_at_call 50;refine(HH.out.dropV base pm S m Fm W.drew HM1d.out HK.out hm0 a.n i c h64.n hc hcf hne).mono ?_;rintro e w1 ⟨rfl,k1,F1,g1,s1⟩)
 refine hK.out _ _ ?_ (fun hHeld=>?_)
 ·exact keep_cell k1 hA am c1
 clear hK Kc
 have R1:=R0.drew.keep k1 (by omega) am
 have z1:=k1.size
 have hA1:w.heap.size<w1.heap.size:=(by simp at z1;omega)
 have M3:=HM2d.out.keep k1 (fun k f g=>hd k g f)
 have hd1: ∀ k,F1 k→ ¬Fx k:=fun k f g=>(s1 k f).elim (fun f=>hd k f g) (fun e=>by have:=fx k g;simp at e;omega)
 have b1:Below base W.drew w1:=k1.below (by simp;omega) bm
 have HG1:Hid _:=g1
 have HM3:Hid _:=M3
 clear g1 M3
 refine tcl 7 fun Kc hK=>?_
 go_simp
 (go_at_call 51;refine(mrDropV base px S Fx a.n i w1 HM3.out (by omega) (by omega) (by omega) (by omega) hi (List.getElem?_eq_some_iff.1 hc).1 (hcf▸(HK.out.vmem (List.mem_of_getElem? hc)).1) hne).mono ?_;rintro e w2 ⟨rfl,k2,F2,g2,s2⟩)
 refine hK.out _ _ ?_ (fun hHeld=>?_)
 ·exact keep_cell k2 hA1 ax (keep_cell k1 hA am c1)
 clear hK Kc
 refine tn 8 ?_;refine tn 9 ?_
 simp only [Act.put,ps1,ps2,ps3]
 refine wpAnyH_done (by kernel_rfl) ?_ _
 go_wp2
 go_ret
 have Mm:=HH.out.keep HG1.out k2 (fun k f g=>hd1 k f g)
 have hd2: ∀ k,F1 k→ ¬F2 k:=fun k f g=>(s2 k g).elim (fun g=>hd1 k f g) (fun e=>by have:=(HH.out.ft HG1.out k f).2;omega)
 have b2:Below base w1 w2:=k2.below (by omega) bx
 exact⟨rfl,(B0.drew.trans b1).trans b2,⟨⟨F1,F2,Mm,g2,hd2⟩,HK.out.dropV hc hcf hne⟩⟩
set_option maxRecDepth 100000 in
set_option maxHeartbeats 2000000 in
theorem does_0n{MP:MeShape}(H:MeSpec MP)(base pm px:Nat)(S:Ms)(m:Nat)(Fm Fx:Nat→Prop)(a:Act)(w:World)(h1:MP base pm S Fm w)(h2:MeR base px S Fx w)(hd: ∀ k,Fm k→ ¬Fx k)(hk:MsOk S m)(hm:m≤999)(h64:Act64 a)(n1:a.kind≠1)(n2:a.kind≠2)(n3:a.kind≠3)(hs:inSq S a.x a.y=false):
  Calls Tryz.prog 19 #[ptR pm,ptR px,actV a] w fun e w'=>e= .returned (.bool true)∧Below base w w'∧BothM MP base pm px (S) (m+1) w':=by
 have HH:Hid _:=H
 have HK:Hid _:=hk
 have hm0:m≤1000:=by omega
 have hbase:base≤w.heap.size:=by obtain⟨pv,pf,Fv,Ff,a,ca,b,cb,hrow,hv,hf,ha,hb,hp,_⟩:=h2.ex;have:=h2.ft px hp;omega
 obtain⟨W,hW⟩: ∃ W,W=w.alloc (.cells (actC a).toArray 61):=⟨_,rfl⟩
 have BW:Below w.heap.size w W:=by rw [hW];exact(Below.refl _ _).alloc (Nat.le_refl _) _
 have zW:W.heap.size=w.heap.size+1:=by rw [hW];simp
 have R0:Row W w.heap.size (actC a):=by rw [hW];exact Row.new w _ _
 have hW':w.alloc (.cells #[.int .i64 a.kind, .int .i64 a.n, .int .i64 a.x, .int .i64 a.y, .int .i64 a.t.v0, .int .i64 a.t.v1, .int .i64 a.t.v2, .int .i64 a.t.x0, .int .i64 a.t.y0, .int .i64 a.t.x1, .int .i64 a.t.y1, .int .i64 a.t.x2, .int .i64 a.t.y2] 61)=W:=hW.symm
 have M1:=HH.out.below h1 BW
 have M2:=h2.below BW
 have am: ¬Fm w.heap.size:=fun f=>by have:=(H.ft h1 _ f).2;omega
 have ax: ¬Fx w.heap.size:=fun f=>by have:=(h2.ft _ f).2;omega
 have fm: ∀ k,Fm k→k<w.heap.size:=fun k f=>(H.ft h1 k f).2
 have fx: ∀ k,Fx k→k<w.heap.size:=fun k f=>(h2.ft k f).2
 have bm: ∀ k,Fm k→base≤k:=fun k f=>(H.ft h1 k f).1
 have bx: ∀ k,Fx k→base≤k:=fun k f=>(h2.ft k f).1
 have c0:=R0.cell 0 _ rfl
 have c1:=R0.cell 1 _ rfl
 have c2:=R0.cell 2 _ rfl
 have c3:=R0.cell 3 _ rfl
 have c4:=R0.cell 4 _ rfl
 have c5:=R0.cell 5 _ rfl
 have c6:=R0.cell 6 _ rfl
 have c7:=R0.cell 7 _ rfl
 have c8:=R0.cell 8 _ rfl
 have c9:=R0.cell 9 _ rfl
 have c10:=R0.cell 10 _ rfl
 have c11:=R0.cell 11 _ rfl
 have c12:=R0.cell 12 _ rfl
 have B0:Below base w W:=BW.mono hbase
 have HM1:Hid _:=M1
 have HM2:Hid _:=M2
 clear hW H h1 h2 hk M1 M2
 have e1:(a.kind==1)=false:=by simpa using n1
 have e2:(a.kind==2)=false:=by simpa using n2
 have e3:(a.kind==3)=false:=by simpa using n3
 clear n1 n2 n3
 obtain⟨lv,lc,l1,l2,l3,l4⟩:=HK.out.lens
 go_enter Tryz.func19,Tryz.ntmps19
 have hA:w.heap.size<W.drew.heap.size:=by simp;omega
 have BD:Below W.heap.size W W.drew:=(Below.refl _ _).drew
 have HM1d:Hid _:=HH.out.below HM1.out BD
 have HM2d:Hid _:=HM2.out.below BD
 go_wp2
 clear hW'
 refine wp_region_held_drew (S:=fun w'=>w'.cell? ⟨w.heap.size,1,none⟩=some (.int .i64 a.n)∧w'.cell? ⟨w.heap.size,2,none⟩=some (.int .i64 a.x)∧w'.cell? ⟨w.heap.size,3,none⟩=some (.int .i64 a.y)) (by kernel_rfl) ?_ (fun hHeld=>?_)
 ·exact⟨c1,c2,c3⟩
 refine tn 0 ?_;refine tn 1 ?_;refine tn 2 ?_;refine tn 3 ?_;refine tn 4 ?_;refine tn 6 ?_;refine tn 7 ?_;refine tn 8 ?_;refine tn 9 ?_;refine tn 10 ?_
 simp only [Act.put,ps1,ps2,ps3]
 refine tcl 5 fun Kc hK=>?_
 go_simp
 (go_at_call 33;refine(HH.out.addV0 base pm S m Fm W.drew HM1d.out HK.out hm0 a.x a.y a.n h64.x h64.y h64.n hs).mono ?_;rintro e w1 ⟨rfl,k1,F1,g1,s1⟩)
 refine hK.out _ _ ?_ (fun hHeld=>?_)
 ·exact⟨keep_cell k1 hA am c1,keep_cell k1 hA am c2,keep_cell k1 hA am c3⟩
 clear hK Kc
 have R1:=R0.drew.keep k1 (by omega) am
 have z1:=k1.size
 have hA1:w.heap.size<w1.heap.size:=(by simp at z1;omega)
 have M3:=HM2d.out.keep k1 (fun k f g=>hd k g f)
 have hd1: ∀ k,F1 k→ ¬Fx k:=fun k f g=>(s1 k f).elim (fun f=>hd k f g) (fun e=>by have:=fx k g;simp at e;omega)
 have b1:Below base W.drew w1:=k1.below (by simp;omega) bm
 have HG1:Hid _:=g1
 have HM3:Hid _:=M3
 clear g1 M3
 refine tcl 11 fun Kc hK=>?_
 go_simp
 (go_at_call 52;refine(mrAddV0 px S a.x a.y a.n w1 HM3.out.look hs).mono ?_;rintro e w2 ⟨rfl,b2'⟩)
 refine hK.out _ _ ?_ (fun hHeld=>?_)
 ·exact⟨keep_cell (Keep.of (F:=Fx) b2') hA1 ax (keep_cell k1 hA am c1),keep_cell (Keep.of (F:=Fx) b2') hA1 ax (keep_cell k1 hA am c2),keep_cell (Keep.of (F:=Fx) b2') hA1 ax (keep_cell k1 hA am c3)⟩
 clear hK Kc
 have k2:Keep Fx w1 w2:=Keep.of b2'
 have g2:=HM3.out.below b2'
 obtain⟨F2,hF2⟩: ∃ F2,F2=Fx:=⟨_,rfl⟩
 rw [←hF2]at g2
 have s2: ∀ k,F2 k→Fx k∨w1.heap.size≤k:=fun k f=>Or.inl (by rw [hF2]at f;exact f)
 clear hF2
 refine tn 12 ?_;refine tn 13 ?_
 simp only [Act.put,ps1,ps2,ps3]
 refine wpAnyH_done (by kernel_rfl) ?_ _
 go_wp2
 go_ret
 have Mm:=HH.out.keep HG1.out k2 (fun k f g=>hd1 k f g)
 have hd2: ∀ k,F1 k→ ¬F2 k:=fun k f g=>(s2 k g).elim (fun g=>hd1 k f g) (fun e=>by have:=(HH.out.ft HG1.out k f).2;omega)
 have b2:Below base w1 w2:=k2.below (by omega) bx
 exact⟨rfl,(B0.drew.trans b1).trans b2,⟨⟨F1,F2,Mm,g2,hd2⟩,HK.out.mono (by omega)⟩⟩
set_option maxRecDepth 100000 in
set_option maxHeartbeats 2000000 in
theorem does_0y{MP:MeShape}(H:MeSpec MP)(base pm px:Nat)(S:Ms)(m:Nat)(Fm Fx:Nat→Prop)(a:Act)(w:World)(h1:MP base pm S Fm w)(h2:MeR base px S Fx w)(hd: ∀ k,Fm k→ ¬Fx k)(hk:MsOk S m)(hm:m≤999)(h64:Act64 a)(n1:a.kind≠1)(n2:a.kind≠2)(n3:a.kind≠3)(hs:inSq S a.x a.y=true):
  Calls Tryz.prog 19 #[ptR pm,ptR px,actV a] w fun e w'=>e= .returned (.bool true)∧Below base w w'∧BothM MP base pm px (S.addV a.x a.y a.n) (m+1) w':=by
 have HH:Hid _:=H
 have HK:Hid _:=hk
 have hm0:m≤1000:=by omega
 have hbase:base≤w.heap.size:=by obtain⟨pv,pf,Fv,Ff,a,ca,b,cb,hrow,hv,hf,ha,hb,hp,_⟩:=h2.ex;have:=h2.ft px hp;omega
 obtain⟨W,hW⟩: ∃ W,W=w.alloc (.cells (actC a).toArray 61):=⟨_,rfl⟩
 have BW:Below w.heap.size w W:=by rw [hW];exact(Below.refl _ _).alloc (Nat.le_refl _) _
 have zW:W.heap.size=w.heap.size+1:=by rw [hW];simp
 have R0:Row W w.heap.size (actC a):=by rw [hW];exact Row.new w _ _
 have hW':w.alloc (.cells #[.int .i64 a.kind, .int .i64 a.n, .int .i64 a.x, .int .i64 a.y, .int .i64 a.t.v0, .int .i64 a.t.v1, .int .i64 a.t.v2, .int .i64 a.t.x0, .int .i64 a.t.y0, .int .i64 a.t.x1, .int .i64 a.t.y1, .int .i64 a.t.x2, .int .i64 a.t.y2] 61)=W:=hW.symm
 have M1:=HH.out.below h1 BW
 have M2:=h2.below BW
 have am: ¬Fm w.heap.size:=fun f=>by have:=(H.ft h1 _ f).2;omega
 have ax: ¬Fx w.heap.size:=fun f=>by have:=(h2.ft _ f).2;omega
 have fm: ∀ k,Fm k→k<w.heap.size:=fun k f=>(H.ft h1 k f).2
 have fx: ∀ k,Fx k→k<w.heap.size:=fun k f=>(h2.ft k f).2
 have bm: ∀ k,Fm k→base≤k:=fun k f=>(H.ft h1 k f).1
 have bx: ∀ k,Fx k→base≤k:=fun k f=>(h2.ft k f).1
 have c0:=R0.cell 0 _ rfl
 have c1:=R0.cell 1 _ rfl
 have c2:=R0.cell 2 _ rfl
 have c3:=R0.cell 3 _ rfl
 have c4:=R0.cell 4 _ rfl
 have c5:=R0.cell 5 _ rfl
 have c6:=R0.cell 6 _ rfl
 have c7:=R0.cell 7 _ rfl
 have c8:=R0.cell 8 _ rfl
 have c9:=R0.cell 9 _ rfl
 have c10:=R0.cell 10 _ rfl
 have c11:=R0.cell 11 _ rfl
 have c12:=R0.cell 12 _ rfl
 have B0:Below base w W:=BW.mono hbase
 have HM1:Hid _:=M1
 have HM2:Hid _:=M2
 clear hW H h1 h2 hk M1 M2
 have e1:(a.kind==1)=false:=by simpa using n1
 have e2:(a.kind==2)=false:=by simpa using n2
 have e3:(a.kind==3)=false:=by simpa using n3
 clear n1 n2 n3
 obtain⟨lv,lc,l1,l2,l3,l4⟩:=HK.out.lens
 go_enter Tryz.func19,Tryz.ntmps19
 have hA:w.heap.size<W.drew.heap.size:=by simp;omega
 have BD:Below W.heap.size W W.drew:=(Below.refl _ _).drew
 have HM1d:Hid _:=HH.out.below HM1.out BD
 have HM2d:Hid _:=HM2.out.below BD
 go_wp2
 clear hW'
 refine wp_region_held_drew (S:=fun w'=>w'.cell? ⟨w.heap.size,1,none⟩=some (.int .i64 a.n)∧w'.cell? ⟨w.heap.size,2,none⟩=some (.int .i64 a.x)∧w'.cell? ⟨w.heap.size,3,none⟩=some (.int .i64 a.y)) (by kernel_rfl) ?_ (fun hHeld=>?_)
 ·exact⟨c1,c2,c3⟩
 refine tn 0 ?_;refine tn 1 ?_;refine tn 2 ?_;refine tn 3 ?_;refine tn 4 ?_;refine tn 6 ?_;refine tn 7 ?_;refine tn 8 ?_;refine tn 9 ?_;refine tn 10 ?_
 simp only [Act.put,ps1,ps2,ps3]
 refine tcl 5 fun Kc hK=>?_
 go_simp
 (go_at_call 33;refine(HH.out.addV base pm S m Fm W.drew HM1d.out HK.out hm0 a.x a.y a.n h64.x h64.y h64.n hs).mono ?_;rintro e w1 ⟨rfl,k1,F1,g1,s1⟩)
 refine hK.out _ _ ?_ (fun hHeld=>?_)
 ·exact⟨keep_cell k1 hA am c1,keep_cell k1 hA am c2,keep_cell k1 hA am c3⟩
 clear hK Kc
 have R1:=R0.drew.keep k1 (by omega) am
 have z1:=k1.size
 have hA1:w.heap.size<w1.heap.size:=(by simp at z1;omega)
 have M3:=HM2d.out.keep k1 (fun k f g=>hd k g f)
 have hd1: ∀ k,F1 k→ ¬Fx k:=fun k f g=>(s1 k f).elim (fun f=>hd k f g) (fun e=>by have:=fx k g;simp at e;omega)
 have b1:Below base W.drew w1:=k1.below (by simp;omega) bm
 have HG1:Hid _:=g1
 have HM3:Hid _:=M3
 clear g1 M3
 refine tcl 11 fun Kc hK=>?_
 go_simp
 (go_at_call 52;refine(mrAddV base px S Fx a.x a.y a.n w1 HM3.out (by omega) (by omega) (by omega) (by have:=HK.out.vt;omega) hs rfl).mono ?_;rintro e w2 ⟨rfl,k2,F2,g2,s2⟩)
 refine hK.out _ _ ?_ (fun hHeld=>?_)
 ·exact⟨keep_cell k2 hA1 ax (keep_cell k1 hA am c1),keep_cell k2 hA1 ax (keep_cell k1 hA am c2),keep_cell k2 hA1 ax (keep_cell k1 hA am c3)⟩
 clear hK Kc
 refine tn 12 ?_;refine tn 13 ?_
 simp only [Act.put,ps1,ps2,ps3]
 refine wpAnyH_done (by kernel_rfl) ?_ _
 go_wp2
 go_ret
 have Mm:=HH.out.keep HG1.out k2 (fun k f g=>hd1 k f g)
 have hd2: ∀ k,F1 k→ ¬F2 k:=fun k f g=>(s2 k g).elim (fun g=>hd1 k f g) (fun e=>by have:=(HH.out.ft HG1.out k f).2;omega)
 have b2:Below base w1 w2:=k2.below (by omega) bx
 exact⟨rfl,(B0.drew.trans b1).trans b2,⟨⟨F1,F2,Mm,g2,hd2⟩,HK.out.addV hs h64.n⟩⟩
theorem does_all{MP:MeShape}(H:MeSpec MP)(base pm px:Nat)(S:Ms)(m:Nat)(a:Act)(w:World)(hb:BothM MP base pm px S m w)(hm:m≤999)(h64:Act64 a):
  Calls Tryz.prog 19 #[ptR pm,ptR px,actV a] w fun e w'=>e= .returned (.bool true)∧Below base w w'∧ ∃ S',BothM MP base pm px S' (m+1) w'∧S'.n=S.n:=by
 obtain⟨Fm,Fx,h1,h2,hd⟩:=hb.ex
 have hk:=hb.ok
 have hf: ∀ S',S'.n=S.n→ ∀ (e:Ending) (w':World),(e= .returned (.bool true)∧Below base w w'∧BothM MP base pm px S' (m+1) w')→e= .returned (.bool true)∧Below base w w'∧ ∃ S',BothM MP base pm px S' (m+1) w'∧S'.n=S.n:=fun S' hn e w' ⟨x,y,z⟩=>⟨x,y,S',z,hn⟩
 by_cases n1:a.kind=1
 ·by_cases he:fErr S a.t=0
  ·exact(does_1y H base pm px S m Fm Fx a w h1 h2 hd hk hm h64 n1 he).mono (hf (S.addF a.t) rfl)
  ·exact(does_1n H base pm px S m Fm Fx a w h1 h2 hd hk hm h64 n1 he).mono (hf S rfl)
 ·by_cases n2:a.kind=2
  ·rcases fAt_cases Ce.no a.n S.C with⟨e1,_⟩|⟨i,c,e1,e2,e3⟩
   ·exact(does_2n H base pm px S m Fm Fx a w h1 h2 hd hk hm h64 n1 n2 (decide_eq_false (by rw [e1];decide))).mono (hf S rfl)
   ·exact(does_2y H base pm px S m Fm Fx a w h1 h2 hd hk hm h64 n1 n2 i c e2 e3 e1).mono (hf (S.dropF a.n i) rfl)
  ·by_cases n3:a.kind=3
   ·rcases fAt_cases Vt.no a.n S.V with⟨e1,_⟩|⟨i,c,e1,e2,e3⟩
    ·exact(does_3n H base pm px S m Fm Fx a w h1 h2 hd hk hm h64 n1 n2 n3 (decide_eq_false (by rw [e1];decide))).mono (hf S rfl)
    ·by_cases hne:around S.C a.n= []
     ·exact(does_3y H base pm px S m Fm Fx a w h1 h2 hd hk hm h64 n1 n2 n3 i c e2 e3 e1 hne).mono (hf (S.dropV a.n i) rfl)
     ·exact(does_3m H base pm px S m Fm Fx a w h1 h2 hd hk hm h64 n1 n2 n3 (decide_eq_true (by rw [e1];omega)) hne).mono (hf S rfl)
   ·cases hs:inSq S a.x a.y with
    |false=>exact(does_0n H base pm px S m Fm Fx a w h1 h2 hd hk hm h64 n1 n2 n3 hs).mono (hf S rfl)
    |true=>exact(does_0y H base pm px S m Fm Fx a w h1 h2 hd hk hm h64 n1 n2 n3 hs).mono (hf (S.addV a.x a.y a.n) rfl)
structure ActsAt(w:World)(a:Option Addr)(n c:Nat)(L:List Act):Prop where
 len:L.length=n
 room:n≤c∧c≤maxLen
 seg:n=0∨ ∃ b o,a=some ⟨b,o,none⟩∧b<w.heap.size∧Seg w b o (flat actC L)
 l64: ∀ x∈L,Act64 x
theorem ActsAt.below{w w':World}{a:Option Addr}{n c:Nat}{L:List Act}(h:ActsAt w a n c L)(hb:Below w.heap.size w w'):ActsAt w' a n c L:=by
 refine⟨h.len,h.room,h.seg.imp id ?_,h.l64⟩
 rintro⟨b,o,e,hlt,hs⟩
 exact⟨b,o,e,Nat.lt_of_lt_of_le hlt hb.size,hs.below hb hlt⟩
set_option maxRecDepth 100000 in
set_option maxHeartbeats 2000000 in
theorem plays_of{MP:MeShape}(H:MeSpec MP)(side:Int)(hs:1≤side∧side≤17179869184)(a:Option Addr)(n c:Nat)(L:List Act)(w:World)(hL:ActsAt w a n c L):
  Calls Tryz.prog 5 #[.int .i64 side, .slice a n c] w fun e w'=> ∃ (pm px:Nat) (S:Ms),e= .returned (.tuple #[ptR pm,ptR px, .bool true])∧BothM MP w.heap.size pm px S 40 w'∧S.n=side∧Below w.heap.size w w':=by
 have HH:Hid _:=H
 have HL:Hid _:=hL
 have hroom:=hL.room
 have hmx:maxLen≤9223372036854775807:=by unfold maxLen;omega
 clear H hL
 go_enter Tryz.func5,Tryz.ntmps5
 go_wp2_with (go_at_call 17;fail)
 refine(HH.out.new w.heap.size side w (Nat.le_refl _) hs).mono ?_
 rintro e w1 ⟨pm,Fm,rfl,g1,f1,b1⟩
 have HG1:Hid _:=g1
 go_wp2_with (go_at_call 18;fail)
 refine(mrNew w.heap.size side w1 b1.size).mono ?_
 rintro e w2 ⟨px,Fx,rfl,g2,f2,b2⟩
 have hB:Hid (BothM MP w.heap.size pm px (Ms.new side) 0 w2):=⟨⟨Fm,Fx,HH.out.below HG1.out b2,g2,fun k f g=>by have:=(HH.out.ft HG1.out k f).2;have:=f2 k g;omega⟩,MsOk.new side hs⟩
 have B2:Below w.heap.size w w2:=b1.trans (b2.mono b1.size)
 clear g1 g2
 go_wp2
 go_loopw [9] (fun q wr=> ∃ (k:Nat) (S:Ms),k≤40∧q= .int .i64 (k:Int)∧BothM MP w.heap.size pm px S k wr∧S.n=side∧Below w.heap.size w wr) (fun q _=>40- (RowKit.intOf q).toNat)
 case atStart=>exact⟨0,Ms.new side,by omega,rfl,hB.out,rfl,B2⟩
 case round=>
  clear hB B2
  obtain⟨k,S,hk,rfl,hbo,hsn,bel⟩:=hrel
  have HBO:Hid _:=hbo
  have HSN:Hid _:=hsn
  clear hbo hsn
  by_cases hlt:k<n
  ·by_cases h40:k<40
   ·have hlen:=HL.out.len
    obtain⟨x,hx⟩: ∃ x,L[k]? =some x:=⟨L[k],List.getElem?_eq_getElem (by omega)⟩
    obtain⟨b,o,rfl,hbl,hseg⟩:=(HL.out.seg).resolve_left (by omega)
    have h64:=HL.out.l64 x (List.mem_of_getElem? hx)
    have C: ∀ j u,(actC x)[j]? =some u→wr.cell? ⟨b,o+k*13+j,none⟩=some u:=fun j u hj=>by
     have:=hseg.cell _ u (flat_at actC_len hx hj)
     rw [←Nat.add_assoc]at this
     exact(bel.cell (p:=⟨b,o+k*13+j,none⟩) hbl).trans this
    have c0:wr.cell? ⟨b,o+k*13,none⟩=some (.int .i64 x.kind):=C 0 _ rfl
    have c1:=C 1 _ rfl
    have c2:=C 2 _ rfl
    have c3:=C 3 _ rfl
    have c4:=C 4 _ rfl
    have c5:=C 5 _ rfl
    have c6:=C 6 _ rfl
    have c7:=C 7 _ rfl
    have c8:=C 8 _ rfl
    have c9:=C 9 _ rfl
    have c10:=C 10 _ rfl
    have c11:=C 11 _ rfl
    have c12:=C 12 _ rfl
    clear C hseg hx hlen
    go_wp2_with (go_at_call 19;fail)
    refine(does_all HH.out w.heap.size pm px S k x wr HBO.out (by omega) h64).mono ?_
    rintro e w5 ⟨rfl,b5,S',hb5,hn5⟩
    go_wp2
    go_roundw
    case rel=>exact⟨k+1,S',by omega,by simp,hb5,hn5.trans HSN.out,bel.trans b5⟩
    case measure=>simp [RowKit.intOf];omega
   ·obtain rfl:k=40:=by omega
    go_wp2
    exact bodyPost_ret (v:= .tuple #[ptR pm,ptR px, .bool true]) (by simp [results,Tryz.results5,go_sem]) rfl ⟨pm,px,S,rfl,HBO.out,HSN.out,bel⟩
  ·go_wp2
   exact bodyPost_ret (v:= .tuple #[ptR pm,ptR px, .bool true]) (by simp [results,Tryz.results5,go_sem]) rfl ⟨pm,px,S,rfl,⟨HBO.out.ex,HBO.out.ok.mono hk⟩,HSN.out,bel⟩
end Go.Proofs.YtaadknpjbogkbaaGreat
namespace Go.Proofs.YtaadknpjbogkbaaGreat
open Go.ChangeShapes Go.WideShapes Go.ChangeAt Go.RowKit
set_option linter.unusedVariables false
set_option linter.constructorNameAsVariable false
theorem laidOutA:laidOutB Tryz.prog=true:=by kernel_rfl
theorem bd_act{x:Int}(h:(Lit.int .i64 x).wf=true):In64 x:=by
 have h1:IntKind.i64.min= -9223372036854775808:=rfl
 have h2:IntKind.i64.max=9223372036854775807:=rfl
 simp only [Lit.wf,Bool.and_eq_true,decide_eq_true_eq,h1,h2]at h
 exact h
def IntsTo(cs:List Value)(s:Nat):Prop:= ∀ j,j<s→ ∃ x,cs[j]? =some (.int .i64 x)∧In64 x
section
variable {H : Type} {enc : TypeId × Value → H} {W : World} {bs : Nat} {sp : Nat → Bool} {hd : Bool} {fuel : Nat} {cs : List Value} {x : DataW H × List MemPlace}
theorem IntsTo.part{o s:Nat}(h:IntsTo ((cs.drop o).take s) s): ∀ j,o≤j→j<o+s→ ∃ x,cs[j]? =some (.int .i64 x)∧In64 x:=by
 intro j h1 h2
 obtain⟨y,hy,h64⟩:=h (j- o) (by omega)
 rw [List.getElem?_take,if_pos (by omega),List.getElem?_drop,show o+(j- o)=j by omega]at hy
 exact⟨y,hy,h64⟩
theorem to_int{t:TypeId}(ht:Tryz.prog.underlying t=some (.int .i64))(h:DataW.trod enc Tryz.prog W bs sp hd fuel t cs=some x):IntsTo cs 1:=by
 obtain⟨n,rfl,_,hw⟩:=DataW.trod_int ht h
 intro j hj
 obtain rfl:j=0:=by omega
 exact⟨n,rfl,bd_act hw⟩
theorem some_at{α:Type}{xs:List α}{n i:Nat}(hl:xs.length=n)(hi:i<n): ∃ y,xs[i]? =some y:=⟨xs[i],List.getElem?_eq_getElem (by omega)⟩
theorem to_pt{t:TypeId}{f0 f1:Field}(ht:Tryz.prog.underlying t=some (.struct #[f0,f1]))(o0:f0.offset=0)(o1:f1.offset=1)(c0:Tryz.prog.cellsOf f0.type=1)(c1:Tryz.prog.cellsOf f1.type=1)(t0:Tryz.prog.underlying f0.type=some (.int .i64))(t1:Tryz.prog.underlying f1.type=some (.int .i64))
  (h:DataW.trod enc Tryz.prog W bs sp hd fuel t cs=some x):IntsTo cs 2:=by
 obtain⟨xs,n,_,_,_,hl,hf⟩:=DataW.trod_struct ht h
 obtain⟨y0,e0⟩:=some_at (i:=0) hl (by simp)
 obtain⟨y1,e1⟩:=some_at (i:=1) hl (by simp)
 have h0:=(hf 0 f0 rfl).trans e0
 have h1:=(hf 1 f1 rfl).trans e1
 rw [c0,o0]at h0
 rw [c1,o1]at h1
 intro j hj
 rcases(by omega:j=0∨j=1)with rfl|rfl
 ·exact(to_int t0 h0).part 0 (by omega) (by omega)
 ·exact(to_int t1 h1).part 1 (by omega) (by omega)
theorem cells_i:Tryz.prog.cellsOf 3=1:=by kernel_rfl
theorem cells_i64:Tryz.prog.cellsOf 2=1:=by kernel_rfl
theorem cells_p:Tryz.prog.cellsOf 24=2:=by kernel_rfl
theorem cells_o:Tryz.prog.cellsOf 32=2:=by kernel_rfl
theorem cells_3i:Tryz.prog.cellsOf 46=3:=by kernel_rfl
theorem cells_3o:Tryz.prog.cellsOf 47=6:=by kernel_rfl
theorem cells_t:Tryz.prog.cellsOf 49=9:=by kernel_rfl
theorem cells_a:Tryz.prog.cellsOf 61=13:=by kernel_rfl
theorem to_3i(h:DataW.trod enc Tryz.prog W bs sp hd fuel 46 cs=some x):IntsTo cs 3:=by
 obtain⟨xs,m,_,_,_,hl,hi⟩:=DataW.trod_array Tryz.underlying46 h
 intro j hj
 obtain⟨y,e⟩:=some_at (i:=j) hl hj
 have h0:=(hi j hj).trans e
 rw [cells_i,Nat.mul_one]at h0
 exact(to_int Tryz.underlying3 h0).part j (by omega) (by omega)
theorem to_3o(h:DataW.trod enc Tryz.prog W bs sp hd fuel 47 cs=some x):IntsTo cs 6:=by
 obtain⟨xs,m,_,_,_,hl,hi⟩:=DataW.trod_array Tryz.underlying47 h
 intro j hj
 obtain⟨y,e⟩:=some_at (i:=j/2) hl (by omega)
 have h0:=(hi (j/2) (by omega)).trans e
 rw [cells_o]at h0
 exact(to_pt Tryz.underlying32 rfl rfl cells_i cells_i Tryz.underlying3 Tryz.underlying3 h0).part j (by omega) (by omega)
theorem to_tri(h:DataW.trod enc Tryz.prog W bs sp hd fuel 49 cs=some x):IntsTo cs 9:=by
 obtain⟨y0,y1,n,_,_,h0,h1⟩:=trod_struct2 Tryz.underlying49 h
 have h0':DataW.trod enc Tryz.prog W bs sp hd n 46 ((cs.drop 0).take (Tryz.prog.cellsOf 46))=some y0:=h0
 have h1':DataW.trod enc Tryz.prog W bs sp hd n 47 ((cs.drop 3).take (Tryz.prog.cellsOf 47))=some y1:=h1
 rw [cells_3i]at h0'
 rw [cells_3o]at h1'
 intro j hj
 by_cases e:j<3
 ·exact(to_3i h0').part j (by omega) (by omega)
 ·exact(to_3o h1').part j (by omega) (by omega)
theorem to_act(h:DataW.trod enc Tryz.prog W bs sp hd fuel 61 cs=some x):IntsTo cs 13∧cs.length=13:=by
 obtain⟨xs,n,_,_,hlen,hl,hf⟩:=DataW.trod_struct Tryz.underlying61 h
 rw [cells_a]at hlen
 obtain⟨y0,e0⟩:=some_at (i:=0) hl (by decide)
 obtain⟨y1,e1⟩:=some_at (i:=1) hl (by decide)
 obtain⟨y2,e2⟩:=some_at (i:=2) hl (by decide)
 obtain⟨y3,e3⟩:=some_at (i:=3) hl (by decide)
 have h0:DataW.trod enc Tryz.prog W bs sp hd n 3 ((cs.drop 0).take (Tryz.prog.cellsOf 3))=some y0:=(hf 0 _ rfl).trans e0
 have h1:DataW.trod enc Tryz.prog W bs sp hd n 3 ((cs.drop 1).take (Tryz.prog.cellsOf 3))=some y1:=(hf 1 _ rfl).trans e1
 have h2:DataW.trod enc Tryz.prog W bs sp hd n 24 ((cs.drop 2).take (Tryz.prog.cellsOf 24))=some y2:=(hf 2 _ rfl).trans e2
 have h3:DataW.trod enc Tryz.prog W bs sp hd n 49 ((cs.drop 4).take (Tryz.prog.cellsOf 49))=some y3:=(hf 3 _ rfl).trans e3
 rw [cells_i]at h0 h1
 rw [cells_p]at h2
 rw [cells_t]at h3
 refine⟨fun j hj=>?_,hlen⟩
 rcases(by omega:j=0∨j=1∨(2≤j∧j<4)∨(4≤j∧j<13))with rfl|rfl|e|e
 ·exact(to_int Tryz.underlying3 h0).part 0 (by omega) (by omega)
 ·exact(to_int Tryz.underlying3 h1).part 1 (by omega) (by omega)
 ·exact(to_pt Tryz.underlying24 rfl rfl cells_i64 cells_i64 Tryz.underlying2 Tryz.underlying2 h2).part j (by omega) (by omega)
 ·exact(to_tri h3).part j (by omega) (by omega)
theorem act_of(h:DataW.trod enc Tryz.prog W bs sp hd fuel 61 cs=some x): ∃ a:Act,Act64 a∧ ∀ (j:Nat) (u:Value),(actC a)[j]? =some u→cs[j]? =some u:=by
 obtain⟨hi,hl⟩:=to_act h
 obtain⟨x0,g0,b0⟩:=hi 0 (by omega)
 obtain⟨x1,g1,b1⟩:=hi 1 (by omega)
 obtain⟨x2,g2,b2⟩:=hi 2 (by omega)
 obtain⟨x3,g3,b3⟩:=hi 3 (by omega)
 obtain⟨x4,g4,b4⟩:=hi 4 (by omega)
 obtain⟨x5,g5,b5⟩:=hi 5 (by omega)
 obtain⟨x6,g6,b6⟩:=hi 6 (by omega)
 obtain⟨x7,g7,b7⟩:=hi 7 (by omega)
 obtain⟨x8,g8,b8⟩:=hi 8 (by omega)
 obtain⟨x9,g9,b9⟩:=hi 9 (by omega)
 obtain⟨x10,g10,b10⟩:=hi 10 (by omega)
 obtain⟨x11,g11,b11⟩:=hi 11 (by omega)
 obtain⟨x12,g12,b12⟩:=hi 12 (by omega)
 refine⟨⟨x0,x1,x2,x3,⟨x4,x5,x6,x7,x8,x9,x10,x11,x12⟩⟩,⟨b0,b1,b2,b3,⟨fun i=>?_,fun i=>?_,fun i=>?_⟩⟩,?_⟩
 ·unfold Tr.v;split
  ·exact b4
  ·split
   ·exact b5
   ·exact b6
 ·unfold Tr.x;split
  ·exact b7
  ·split
   ·exact b9
   ·exact b11
 ·unfold Tr.y;split
  ·exact b8
  ·split
   ·exact b10
   ·exact b12
 ·intro j u hj
  have hj13:=(List.getElem?_eq_some_iff.1 hj).1
  rw [actC_len]at hj13
  rcases(by omega:j=0∨j=1∨j=2∨j=3∨j=4∨j=5∨j=6∨j=7∨j=8∨j=9∨j=10∨j=11∨j=12)with rfl|rfl|rfl|rfl|rfl|rfl|rfl|rfl|rfl|rfl|rfl|rfl|rfl
  ·exact g0.trans hj
  ·exact g1.trans hj
  ·exact g2.trans hj
  ·exact g3.trans hj
  ·exact g4.trans hj
  ·exact g5.trans hj
  ·exact g6.trans hj
  ·exact g7.trans hj
  ·exact g8.trans hj
  ·exact g9.trans hj
  ·exact g10.trans hj
  ·exact g11.trans hj
  ·exact g12.trans hj
end
theorem list_of{α:Type}{Q:Nat→α→Prop}: ∀ n:Nat,(∀ i,i<n→ ∃ a,Q i a)→ ∃ L:List α,L.length=n∧ ∀ i a,L[i]? =some a→Q i a
 |0,_=>⟨[],rfl,fun i a h=>by simp at h⟩
 |n+1,h=>by
  obtain⟨L,hl,hq⟩:=list_of n (fun i hi=>h i (by omega))
  obtain⟨a,ha⟩:=h n (by omega)
  refine⟨L++ [a],by simp [hl],fun i b hb=>?_⟩
  by_cases e:i<n
  ·rw [List.getElem?_append_left (by omega)]at hb
   exact hq i b hb
  ·have hlt:=(List.getElem?_eq_some_iff.1 hb).1
   simp [hl]at hlt
   obtain rfl:i=n:=by omega
   rw [List.getElem?_append_right (by omega),hl]at hb
   simp at hb
   subst hb
   exact ha
theorem flat_get{α:Type}{f:α→List Value}{s:Nat}(hf: ∀ x,(f x).length=s){L:List α}{q:Nat}{v:Value}(h:(flat f L)[q]? =some v): ∃ k j x,L[k]? =some x∧q=k*s+j∧j<s∧(f x)[j]? =some v:=by
 induction L generalizing q with
 |nil=>simp [flat]at h
 |cons a L ih=>
  rw [show flat f (a::L)=f a++flat f L from by simp [flat]]at h
  by_cases e:q<s
  ·rw [List.getElem?_append_left (by rw [hf];exact e)]at h
   exact⟨0,q,a,rfl,by omega,e,h⟩
  ·rw [List.getElem?_append_right (by rw [hf];omega),hf]at h
   obtain⟨k,j,x,h1,h2,h3,h4⟩:=ih h
   exact⟨k+1,j,x,by simpa using h1,by rw [Nat.add_mul];omega,h3,h4⟩
set_option maxRecDepth 100000 in
theorem acts_view{H:Type}{enc:TypeId×Value→H}{W:World}{fuel:Nat}{a0:Option Addr}{len cap:Nat}{d:DataW H}{p:List MemPlace}
  (hf:DataW.trod enc Tryz.prog W 0 (fun _=>true) true fuel 22 (Value.slice a0 len cap).cells.toList=some (d,p)) (hfz:W.noneFrozen p) (hlt: ∀ x∈p,x.block<W.heap.size):
  ∃ L:List Act,ActsAt W a0 len cap L:=by
 rcases Go.Deep.open_slice Tryz.underlying22 hf with⟨hcs,hx⟩|⟨a,len',cap',m,n,D,Pl,hcs,_,hl,hm,hmm,hx,hcell⟩
 ·simp [Value.cells]at hcs
  obtain⟨rfl,rfl,rfl⟩:=hcs
  exact⟨[],rfl,⟨Nat.le_refl _,by decide⟩,Or.inl rfl,fun x h=>by cases h⟩
 ·simp [Value.cells]at hcs
  obtain⟨rfl,rfl,rfl⟩:=hcs
  simp only [Prod.mk.injEq]at hx
  obtain⟨_,rfl⟩:=hx
  simp only [if_true]at hmm
  subst hmm
  rw [cells_a]at hfz hlt
  have each: ∀ i,i<len→ ∃ x:Act,Act64 x∧ ∀ (j:Nat) (u:Value),(actC x)[j]? =some u→W.cell? (a.add (i*13+j))=some u:=by
   intro i hi
   obtain⟨cs',h1,h2⟩:=hcell i (by omega)
   rw [cells_a]at h1
   obtain⟨_,hlen,hc⟩:=World.cells?_some h1
   obtain⟨x,h64,hx⟩:=act_of h2
   refine⟨x,h64,fun j u hj=>?_⟩
   have hj13:=(List.getElem?_eq_some_iff.1 hj).1
   rw [actC_len]at hj13
   rw [←Addr.add_add]
   rw [hc j hj13]
   exact hx j u hj
  obtain⟨L,hLl,hL⟩:=list_of len each
  refine⟨L,hLl,⟨hl,hm⟩,?_,fun x hx=>?_⟩
  ·rcases Nat.eq_zero_or_pos len with h0|h0
   ·exact Or.inl h0
   right
   have hsp:a.spot=none:=by
    obtain⟨x,_,h1⟩:=each 0 h0
    have h1:=h1 0 _ rfl
    rw [show a.add (0*13+0)=a from rfl]at h1
    unfold World.cell? at h1
    split at h1
    ·split at h1
     ·cases h1
     ·rename_i hs
      simpa using hs
    ·cases h1
   obtain⟨b,o,sp⟩:=a
   dsimp only at hsp
   subst hsp
   have hmem: ∀ j,j<m*13→MemPlace.cell b (o+j)∈MemPlace.row ⟨b,o,none⟩ (m*13)++(List.range m).flatMap Pl:=fun j hj=>by
    refine List.mem_append_left _ ?_
    unfold MemPlace.row
    exact List.mem_map.2 ⟨j,List.mem_range.2 hj,rfl⟩
   refine⟨b,o,rfl,hlt _ (hmem 0 (by omega)),?_⟩
   intro q v hq
   obtain⟨k,j,x,h1,rfl,h3,h4⟩:=flat_get actC_len hq
   have hk:=(List.getElem?_eq_some_iff.1 h1).1
   have hc:=(hL k x h1).2 j v h4
   rw [Addr.add_lit]at hc
   exact⟨hc,hfz _ _ (hmem (k*13+j) (by omega))⟩
  ·obtain⟨k,hk⟩:=List.getElem?_of_mem hx
   exact(hL k x hk).1
end Go.Proofs.YtaadknpjbogkbaaGreat
namespace Go.Proofs.YtaadknpjbogkbaaGreat
open Go.RowKit
open Go.ChangeShapes Go.WideShapes Go.ChangeAt Go.Joins
set_option linter.unusedVariables false
set_option linter.constructorNameAsVariable false
theorem cells3I:Tryz.prog.cellsOf 2=1:=by kernel_rfl
theorem cells3P:Tryz.prog.cellsOf 24=2:=by kernel_rfl
theorem trod_p{H:Type}{enc:TypeId×Value→H}{W:World}{bs fuel:Nat}{sp:Nat→Bool}{hd:Bool}{c0 c1:Value}{y:DataW H×List MemPlace}(h:DataW.trod enc Tryz.prog W bs sp hd fuel 24 [c0,c1]=some y):
  ∃ a b:Int,c0= .int .i64 a∧c1= .int .i64 b∧y=(.agg [.lit (.int .i64 a), .lit (.int .i64 b)], [])∧(Lit.int .i64 a).wf=true∧(Lit.int .i64 b).wf=true:=by
 obtain⟨y0,y1,n,hx,_,h0,h1⟩:=trod_struct2 Tryz.underlying24 h
 have h0:DataW.trod enc Tryz.prog W bs sp hd n 2 [c0]=some y0:=by simpa [cells3I]using h0
 have h1:DataW.trod enc Tryz.prog W bs sp hd n 2 [c1]=some y1:=by simpa [cells3I]using h1
 obtain⟨a,e0,rfl,w0⟩:=DataW.trod_int Tryz.underlying2 h0
 obtain⟨b,e1,rfl,w1⟩:=DataW.trod_int Tryz.underlying2 h1
 simp at e0 e1 hx
 exact⟨a,b,e0,e1,hx,w0,w1⟩
theorem list4y{cs:Array Value}(h:cs.size=4): ∃ c0 c1 c2 c3,cs= #[c0,c1,c2,c3]:=by
 obtain⟨l⟩:=cs
 match l,h with
 | [c0,c1,c2,c3],_=>exact⟨c0,c1,c2,c3,rfl⟩
theorem cellsWy:Tryz.prog.cellsOf 26=4:=by kernel_rfl
theorem cellsWi:Tryz.prog.cellsOf 3=1:=by kernel_rfl
set_option maxRecDepth 100000 in
theorem open_way{H:Type}{enc:TypeId×Value→H}{w W:World}{r:Reach}{b0 bs:Nat}{sp:Nat→Bool}{hd:Bool}{v:Value}{d:DataW H}{p:List MemPlace}(hv:Value.okWide Tryz.prog w r b0 26 v)(h:DataW.Trod enc Tryz.prog W bs sp hd 26 v d p):
  ∃ a0 a1 a2 a3:Int,v= .agg #[.int .i64 a0, .int .i64 a1, .int .i64 a2, .int .i64 a3]∧d= .agg [.lit (.int .i64 a0), .lit (.int .i64 a1), .agg [.lit (.int .i64 a2), .lit (.int .i64 a3)]]∧p= []∧(Lit.int .i64 a0).wf=true∧(Lit.int .i64 a1).wf=true∧(Lit.int .i64 a2).wf=true∧(Lit.int .i64 a3).wf=true:=by
 simp only [Value.okWide,Tryz.underlying26]at hv
 obtain⟨cs,rfl,hsz,_⟩:=hv
 obtain⟨c0,c1,c2,c3,rfl⟩:=list4y (hsz.trans cellsWy)
 obtain⟨fuel,hf⟩:=h
 obtain⟨y0,y1,y2,n,hx,_,h0,h1,h2⟩:=Go.Deep.trod_struct3 Tryz.underlying26 hf
 have h0:DataW.trod enc Tryz.prog W bs sp hd n 3 [c0]=some y0:=by simpa [cellsWi,Value.cells]using h0
 have h1:DataW.trod enc Tryz.prog W bs sp hd n 3 [c1]=some y1:=by simpa [cellsWi,Value.cells]using h1
 have h2:DataW.trod enc Tryz.prog W bs sp hd n 24 [c2,c3]=some y2:=by simpa [cells3P,cellsWi,Value.cells]using h2
 obtain⟨a0,e0,rfl,w0⟩:=DataW.trod_int Tryz.underlying3 h0
 obtain⟨a1,e1,rfl,w1⟩:=DataW.trod_int Tryz.underlying3 h1
 obtain⟨a3,a4,rfl,rfl,rfl,w3,w4⟩:=trod_p h2
 simp at hx e0 e1
 subst e0 e1
 exact⟨a0,a1,a3,a4,rfl,hx.1,hx.2,w0,w1,w3,w4⟩
set_option maxRecDepth 100000 in
theorem shut_way{H:Type}{enc:TypeId×Value→H}{W:World}{bs:Nat}{sp:Nat→Bool}{hd:Bool}{a0 a1 a2 a3:Int}(w0:(Lit.int .i64 a0).wf=true)(w1:(Lit.int .i64 a1).wf=true)(w2:(Lit.int .i64 a2).wf=true)(w3:(Lit.int .i64 a3).wf=true):
  DataW.Trod enc Tryz.prog W bs sp hd 26 (.agg #[.int .i64 a0, .int .i64 a1, .int .i64 a2, .int .i64 a3]) (.agg [.lit (.int .i64 a0), .lit (.int .i64 a1), .agg [.lit (.int .i64 a2), .lit (.int .i64 a3)]]) []:=by
 exact⟨3,by simp [DataW.trod,Tryz.underlying26,Tryz.underlying24,Tryz.underlying3,Tryz.underlying2,cellsWy,cellsWi,cells3I,cells3P,Value.cells,w0,w1,w2,w3]⟩
end Go.Proofs.YtaadknpjbogkbaaGreat
namespace Go.Proofs.YtaadknpjbogkbaaGreat
open Go.RowKit Go.Maps
set_option linter.unusedVariables false
abbrev rV(v:Value):Option (DataW Value×List MemPlace):=some (.held v, [])
def lk(o:Option Value)(zd:DataW Value):DataW Value:=match o with|some v=> .held v|none=>zd
structure KeyL(P:Program)(k:TypeId){α:Type}(K:α→Value):Prop where
 keyed:Keyed P k
 inj: ∀ a b,K a=K b→a=b
 sur: ∀ key kl,keyOf P k key=some kl→ ∃ a,key=K a
structure MapL(P:Program)(k:TypeId){α:Type}(K:α→Value)(w:World)(b:Nat)(g:α→Option Value):Prop where
 ex: ∃ (D:DataW Value) (n:Nat),w.ownsMap P k rV b n D∧ ∀ a kl,keyOf P k (K a)=some kl→ ∀ zd,D.atKey kl zd=lk (g a) zd
section
variable {α : Type} {P : Program} {k : TypeId} {K : α → Value} {w w' : World} {b : Nat} {g : α → Option Value}
theorem MapL.keep{F:Nat→Prop}(h:MapL P k K w b g)(hk:Keep F w w')(hF: ¬F b):MapL P k K w' b g:=by
 obtain⟨D,n,hown,hg⟩:=h.ex
 have hlt:=hown.lt
 obtain⟨es,clock,hb,r⟩:=hown
 exact⟨D,n,⟨es,clock,by rw [hk.block b hlt hF];exact hb,r⟩,hg⟩
theorem MapL.below(h:MapL P k K w b g)(hb:Below w.heap.size w w'):MapL P k K w' b g:=h.keep (Keep.of (F:=fun _=>False) hb) (fun x=>x)
theorem MapL.lt(h:MapL P k K w b g):b<w.heap.size:=by
 obtain⟨D,n,hown,hg⟩:=h.ex
 exact hown.lt
theorem MapL.new(w:World):MapL P k K (w.alloc (.map #[] 0)) w.heap.size (fun _=>none):=
 ⟨.map [],0,World.ownsMap_made w P k rV,fun a kl _ zd=>rfl⟩
theorem has_lk{D:DataW Value}{kl:Lit}{o:Option Value}(h: ∀ zd,D.atKey kl zd=lk o zd):Maps.has D kl=o.isSome:=by
 cases o with
 |none=>exact has_false_of_atKey h
 |some v=>exact has_true_of_atKey h
theorem turned_keep(h:w.grownBy w' (some b)):Keep (fun x=>x=b) w w':=(Keep.refl _ w).grown h (fun x e=>Or.inl (by cases e;rfl))
theorem nodup_sub{β:Type} [DecidableEq β]: ∀ {l m:List β},l.Nodup→(∀ x∈l,x∈m)→l.length≤m.length
 | [],m,_,_=>Nat.zero_le _
 |a::l,m,hn,hs=>by
  rw [List.nodup_cons]at hn
  have h1:a∈m:=hs a List.mem_cons_self
  have h2:=nodup_sub (m:=m.erase a) hn.2 (fun x hx=>(List.mem_erase_of_ne (fun e:x=a=>hn.1 (e▸hx))).2 (hs x (List.mem_cons_of_mem _ hx)))
  have h3:=List.length_erase_of_mem h1
  have h4:=List.length_pos_of_mem h1
  simp only [List.length_cons]
  omega
theorem MapL.bound(HK:KeyL P k K){D:DataW Value}{n:Nat}(hown:w.ownsMap P k rV b n D)(hg: ∀ a kl,keyOf P k (K a)=some kl→ ∀ zd,D.atKey kl zd=lk (g a) zd)(L:List α)(hL: ∀ a,(∃ kl,keyOf P k (K a)=some kl)→g a≠none→a∈L):w.ownsMap P k rV b L.length D∧Maps.size D≤L.length:=by
 classical
 have hsz:Maps.size D≤L.length:=by
  obtain⟨es,hD,hpw,_⟩:=hown.entries HK.keyed
  obtain⟨es',hD',hko⟩:=hown.keysOf
  obtain rfl:es=es':=by rw [hD]at hD';simpa using hD'
  subst hD
  rw [Maps.size_eq]
  have h1:(es.map fun p=>some p.1).Nodup:=by
   refine List.pairwise_map.2 (hpw.imp fun{p q} hne e=>hne ?_)
   exact Option.some.inj e
  have h2:=nodup_sub (m:=L.map fun a=>keyOf P k (K a)) h1 (by
   intro x hx
   obtain⟨p,hp,rfl⟩:=List.mem_map.1 hx
   obtain⟨v,hv⟩:=hko p hp
   obtain⟨a,rfl⟩:=HK.sur v _ hv
   refine List.mem_map.2 ⟨a,hL a ⟨_,hv⟩ ?_,hv⟩
   intro e
   have h3:=has_lk (hg a _ hv)
   rw [e]at h3
   have h4:Maps.has (.map es) p.1=true:=List.any_eq_true.2 ⟨p,hp,WideAt.sameKey_self (HK.keyed.key hv)⟩
   rw [h4]at h3
   cases h3)
  simpa using h2
 refine⟨?_,hsz⟩
 obtain⟨es,clock,hb,F,hs,hD⟩:=hown
 refine⟨es,clock,hb,F,?_,hD⟩
 have:Maps.size D=es.size:=by rw [hD];simp [Maps.size,length_sorted]
 omega
theorem MapL.look(HK:KeyL P k K){t et:TypeId}(ht:P.underlying t=some (.map k et))(h:MapL P k K w b g){a:α}{kl:Lit}(ha:keyOf P k (K a)=some kl){z:Value}(hz:(zeroValue et).run P w= .ok z w):
  (Instr.lookup t (.map (some b)) (K a) true).run P w= .ok (.tuple #[(g a).getD z, .bool (g a).isSome]) w:=by
 obtain⟨D,n,hown,hg⟩:=h.ex
 obtain⟨v,ps,hrun,hv⟩:=hown.look_ok HK.keyed ht hz (zd:= .held z) (zp:= []) rfl ha
 rw [hrun,has_lk (hg a kl ha)]
 rw [hg a kl ha]at hv
 have:v=(g a).getD z:=by
  cases e:g a with
  |none=>rw [e]at hv;simp [lk]at hv;simpa using hv.1
  |some u=>rw [e]at hv;simp [lk]at hv;simpa using hv.1
 rw [this]
theorem keyOf_ne(HK:KeyL P k K){a x:α}{kl kx:Lit}(ha:keyOf P k (K a)=some kl)(hx:keyOf P k (K x)=some kx)(hne:x≠a):kx≠kl:=fun e=>by
 subst e
 exact hne (HK.inj _ _ (HK.keyed.inj hx ha))
theorem MapL.update [DecidableEq α](HK:KeyL P k K){t et:TypeId}(ht:P.underlying t=some (.map k et))(h:MapL P k K w b g){a:α}{kl:Lit}(ha:keyOf P k (K a)=some kl)(v:Value)(L:List α)(hL: ∀ a,(∃ kl,keyOf P k (K a)=some kl)→g a≠none→a∈L)(hlen:L.length<maxLen):
  ∃ w',(Instr.mapUpdate t (.map (some b)) (K a) v).run P w= .ok () w'∧Keep (fun x=>x=b) w w'∧MapL P k K w' b (fun x=>if x=a then some v else g x):=by
 obtain⟨D,n,hown,hg⟩:=h.ex
 obtain⟨w',hrun,hown',hgr⟩:=(MapL.bound HK hown hg L hL).1.update HK.keyed ht hlen ha (d:= .held v) (ps:= []) rfl
 refine⟨w',hrun,turned_keep hgr,_,_,hown',fun x kx hx zd=>?_⟩
 by_cases e:x=a
 ·subst e
  obtain rfl:kx=kl:=by rw [hx]at ha;cases ha;rfl
  rw [atKey_put_same hown.isMap (HK.keyed.key hx)]
  simp [lk]
 ·rw [atKey_put_other (keyOf_ne HK ha hx e),hg x kx hx,if_neg e]
theorem MapL.drop [DecidableEq α](HK:KeyL P k K){t et:TypeId}(ht:P.underlying t=some (.map k et))(h:MapL P k K w b g){a:α}{kl:Lit}(ha:keyOf P k (K a)=some kl)(ty:TypeId):
  ∃ w',(Builtin.delete_ #[t,k] ty #[.map (some b),K a]).run P w= .ok (.tuple #[]) w'∧Keep (fun x=>x=b) w w'∧MapL P k K w' b (fun x=>if x=a then none else g x):=by
 obtain⟨D,n,hown,hg⟩:=h.ex
 obtain⟨w',hrun,hown',hgr⟩:=hown.drop HK.keyed ht ha ty
 refine⟨w',hrun,turned_keep (World.mapTurned.grown hgr),_,_,hown',fun x kx hx zd=>?_⟩
 by_cases e:x=a
 ·subst e
  obtain rfl:kx=kl:=by rw [hx]at ha;cases ha;rfl
  rw [atKey_del_same]
  simp [lk]
 ·rw [atKey_del_other (keyOf_ne HK ha hx e),hg x kx hx,if_neg e]
theorem MapL.len(HK:KeyL P k K){t et:TypeId}(ht:P.underlying t=some (.map k et))(h:MapL P k K w b g)(ty:TypeId):
  ∃ n:Nat,(∀ w',Below w.heap.size w w'→(Builtin.len_ #[t] ty #[.map (some b)]).run P w'= .ok (.int .i64 (n:Int)) w')∧(n=0↔ ∀ a,(∃ kl,keyOf P k (K a)=some kl)→g a=none):=by
 obtain⟨D,n,hown,hg⟩:=h.ex
 refine⟨Maps.size D,fun w' hb=>?_,?_⟩
 ·have h2:w'.ownsMap P k rV b n D:=by
   obtain⟨es,clock,hb1,r⟩:=hown
   exact⟨es,clock,by rw [hb.block b (Array.getElem?_eq_some_iff.1 hb1).1];exact hb1,r⟩
  exact h2.len ht ty
 ·constructor
  ·intro h0 a ⟨kl,hk⟩
   obtain⟨es,rfl⟩:=hown.isMap
   rw [Maps.size_eq]at h0
   obtain rfl:=List.eq_nil_of_length_eq_zero h0
   have h1:=has_lk (hg a kl hk)
   have h2:Maps.has (.map ([]:List (Lit×DataW Value))) kl=false:=rfl
   rw [h2]at h1
   cases e:g a with
   |none=>rfl
   |some v=>rw [e]at h1;cases h1
  ·intro hn
   have:=(MapL.bound HK hown hg [] (fun a hk hne=>absurd (hn a hk) hne)).2
   simpa using this
variable {ops : Array Oper} {rest : List Oper} {o : Oper} {act : Go.Act} {Q : Exit → Go.Act → World → Prop}
theorem wp_update_l [DecidableEq α]{C:Go.Act→World→Prop}(m x v:Operand)(t:TypeId)(hop:o.op=Op.mapUpdate t m x v)(et:TypeId)(HK:KeyL P k K)(ht:P.underlying t=some (.map k et))(b:Nat)(g:α→Option Value)
  (hm:act.eval m= .map (some b)) (hmap:MapL P k K w b g) (key:α) (kl:Lit) (val:Value) (hx:act.eval x=K key) (hv:act.eval v=val) (ha:keyOf P k (K key)=some kl) (L:List α) (hL: ∀ a,(∃ kl,keyOf P k (K a)=some kl)→g a≠none→a∈L) (hlen:L.length<maxLen)
  (h: ∀ w',Keep (fun x=>x=b) w w'→MapL P k K w' b (fun y=>if y=key then some val else g y)→C (act.put o.dst undef) w'):Oper.wp P o act w C Q:=by
 obtain⟨w',hrun,r1,r2⟩:=hmap.update HK ht ha val L hL hlen
 unfold Oper.wp
 simp [execOp,hop,hm,hx,hv,hrun,Result.andThen]
 exact h w' r1 r2
theorem step_update_l [DecidableEq α]{C:Go.Act→World→Prop}{E:Prop}(hg:o.guard=none)(m x v:Operand)(t:TypeId)(hop:o.op=Op.mapUpdate t m x v)(et:TypeId)(HK:KeyL P k K)(ht:P.underlying t=some (.map k et))(b:Nat)(g:α→Option Value)
  (hm:act.eval m= .map (some b)) (hmap:MapL P k K w b g) (key:α) (kl:Lit) (val:Value) (hx:act.eval x=K key) (hv:act.eval v=val) (ha:keyOf P k (K key)=some kl) (L:List α) (hL: ∀ a,(∃ kl,keyOf P k (K a)=some kl)→g a≠none→a∈L) (hlen:L.length<maxLen)
  (h: ∀ w',Keep (fun x=>x=b) w w'→MapL P k K w' b (fun y=>if y=key then some val else g y)→C (act.put o.dst undef) w'):if Region.wanted o (yielded ops act.tmps)=true then Oper.wp P o act w C Q else E:=by
 have hw:Region.wanted o (yielded ops act.tmps)=true:=by simp [Region.wanted,hg]
 rw [if_pos hw]
 exact wp_update_l m x v t hop et HK ht b g hm hmap key kl val hx hv ha L hL hlen h
theorem wp_delete_l [DecidableEq α]{C:Go.Act→World→Prop}(m x:Operand)(t:TypeId)(hop:o.op=Op.call { callee:=Callee.builtin Builtin.delete,args:= #[m,x],argTypes:= #[t,k] })(et:TypeId)(HK:KeyL P k K)(ht:P.underlying t=some (.map k et))(b:Nat)(g:α→Option Value)
  (hm:act.eval m= .map (some b)) (hmap:MapL P k K w b g) (key:α) (kl:Lit) (hx:act.eval x=K key) (ha:keyOf P k (K key)=some kl)
  (h: ∀ w',Keep (fun x=>x=b) w w'→MapL P k K w' b (fun y=>if y=key then none else g y)→C (act.put o.dst (.tuple #[])) w'):Oper.wp P o act w C Q:=by
 obtain⟨w',hrun,r1,r2⟩:=hmap.drop HK ht ha o.type
 unfold Oper.wp
 simp [execOp,hop,resolve,invoke,builtin,hm,hx,hrun,Result.andThen]
 exact h w' r1 r2
theorem step_delete_l [DecidableEq α]{C:Go.Act→World→Prop}{E:Prop}(hg:o.guard=none)(m x:Operand)(t:TypeId)(hop:o.op=Op.call { callee:=Callee.builtin Builtin.delete,args:= #[m,x],argTypes:= #[t,k] })(et:TypeId)(HK:KeyL P k K)(ht:P.underlying t=some (.map k et))(b:Nat)(g:α→Option Value)
  (hm:act.eval m= .map (some b)) (hmap:MapL P k K w b g) (key:α) (kl:Lit) (hx:act.eval x=K key) (ha:keyOf P k (K key)=some kl)
  (h: ∀ w',Keep (fun x=>x=b) w w'→MapL P k K w' b (fun y=>if y=key then none else g y)→C (act.put o.dst (.tuple #[])) w'):if Region.wanted o (yielded ops act.tmps)=true then Oper.wp P o act w C Q else E:=by
 have hw:Region.wanted o (yielded ops act.tmps)=true:=by simp [Region.wanted,hg]
 rw [if_pos hw]
 exact wp_delete_l m x t hop et HK ht b g hm hmap key kl hx ha h
end
end Go.Proofs.YtaadknpjbogkbaaGreat
