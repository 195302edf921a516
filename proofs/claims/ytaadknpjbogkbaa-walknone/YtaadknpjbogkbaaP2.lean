/-
  Joined texts, part 2:
  Meshes as lists: what stays true of them, whatever is put and taken. It imports nothing of
  Slices of elements of several cells in memory of one's own: what is kept, append onto them
  The document's mesh in memory; what zelligeref11's VertAt, FaceAt, Has and Around answer.
  The landed mesh in memory: an object of many blocks, each of one colour (its part); what s
  Blocks of three and of four cells: what they hold, and that they can be written.
  Blocks of two to four cells, made one behind the other, and what they hold behind a store 
  What package lift's Can, Sum, Less, Cmp answer, and what they call.
  A region whose order is open and whose last operation writes what the others read: the con
  What package lift's At and Home answer, and the laws' own look.
  Numbers as digits to the base 65536: which digits a sum, a difference, a product has. It i
  How many digits a number needs, to the base 65536, and its digits without noughts at the e
  What zelligeref03 answers, with letters for the lengths.
  What zelligeref11's Place answers.
-/
import Derived.Test.YtaadknpjbogkbaaP1
import Derived.WalkKit
import Derived.Shelf.Abstract
import Derived.Lib.ItoaNum
import Derived.Laws.BitsAllLaws
import Derived.Deep.RegionWith
import Derived.OwnWalk
import Derived.Laws.AppendOwnNone
import Derived.Test.YtaadknpjbogkbaaRows
import Derived.WalkSpells
import Derived.Deep.QuietTactic
import Derived.BigQuiet
import Derived.RegionTactic
import Derived.ChangeAlike
import Derived.Deep.AppendLies
namespace Go.Proofs.Ytaadknpjbogkbaa
open Go.RowKit
set_option linter.unusedVariables false
theorem pos_of{V:List Vt}(hs:V.Pairwise (fun a b=>a.no<b.no)){a:Vt}(ha:a∈V):pos V a.no=(a.x,a.y):=by
 unfold pos
 induction V with
 |nil=>cases ha
 |cons b V ih=>
  rw [List.pairwise_cons]at hs
  rcases List.mem_cons.1 ha with rfl|h
  ·simp
  ·have hne: ¬b.no=a.no:=by have:=hs.1 a h;omega
   rw [List.find?_cons_of_neg (by simpa using hne)]
   exact ih hs.2 h
theorem isV_iff{S:Ms}{v:Int}:isV S v=true↔ ∃ a∈S.V,a.no=v:=by
 unfold isV
 rw [decide_eq_true_iff]
 rcases fAt_cases Vt.no v S.V with⟨h1,h2⟩|⟨i,a,h1,h2,h3⟩
 ·rw [h1]
  exact⟨fun h=>absurd h (by decide),fun⟨a,ha,e⟩=>absurd e (h2 a ha)⟩
 ·rw [h1]
  exact⟨fun _=>⟨a,List.mem_of_getElem? h2,h3⟩,fun _=>by omega⟩
theorem isF_iff{S:Ms}{v:Int}:isF S v=true↔ ∃ a∈S.C,a.no=v:=by
 unfold isF
 rw [decide_eq_true_iff]
 rcases fAt_cases Ce.no v S.C with⟨h1,h2⟩|⟨i,a,h1,h2,h3⟩
 ·rw [h1]
  exact⟨fun h=>absurd h (by decide),fun⟨a,ha,e⟩=>absurd e (h2 a ha)⟩
 ·rw [h1]
  exact⟨fun _=>⟨a,List.mem_of_getElem? h2,h3⟩,fun _=>by omega⟩
theorem insBy_perm{α:Type}(f:α→Int)(x:α)(L:List α):(insBy f x L).Perm (x::L):=by
 induction L with
 |nil=>exact List.Perm.refl _
 |cons a L ih=>
  unfold insBy
  split
  ·exact List.Perm.refl _
  ·exact(ih.cons a).trans (List.Perm.swap x a L)
theorem insBy_sorted{α:Type}{f:α→Int}{x:α}{L:List α}(hs:L.Pairwise (fun a b=>f a<f b))(hx: ∀ a∈L,f a≠f x):(insBy f x L).Pairwise (fun a b=>f a<f b):=by
 induction L with
 |nil=>simp [insBy]
 |cons a L ih=>
  rw [List.pairwise_cons]at hs
  unfold insBy
  split
  ·rename_i h
   refine List.pairwise_cons.2 ⟨fun b hb=>?_,List.pairwise_cons.2 hs⟩
   rcases List.mem_cons.1 hb with rfl|hb
   ·exact h
   ·have:=hs.1 b hb;omega
  ·rename_i h
   refine List.pairwise_cons.2 ⟨fun b hb=>?_,ih hs.2 (fun b hb=>hx b (List.mem_cons_of_mem _ hb))⟩
   rcases insBy_mem.1 hb with rfl|hb
   ·have:=hx a List.mem_cons_self;omega
   ·exact hs.1 b hb
theorem same_symm(a b:Tr)(i k:Nat):same a i b k=same b k a i:=by
 unfold same
 exact decide_eq_decide.2 ⟨fun⟨h1,h2,h3,h4⟩=>⟨h1.symm,h2.symm,h3.symm,h4.symm⟩,fun⟨h1,h2,h3,h4⟩=>⟨h1.symm,h2.symm,h3.symm,h4.symm⟩⟩
theorem there_not{t:Tr}{C:List Ce}(h:there t C=false){c:Ce}(hc:c∈C){i k:Nat}(hi:i<3)(hk:k<3):same t i c.t k=false:=by
 unfold there at h
 rw [List.any_eq_false]at h
 have h1:=h c hc
 rw [Bool.not_eq_true,List.any_eq_false]at h1
 have h2:=h1 (3*i+k) (List.mem_range.2 (by omega))
 unfold twin at h2
 rw [show(3*i+k)/3=i by omega,show(3*i+k) % 3=k by omega]at h2
 simpa using h2
structure MsOk(S:Ms)(m:Nat):Prop where
 n1:1≤S.n∧S.n≤17179869184
 va:ArOk S.av.L S.av.B S.av.T
 fa:ArOk S.af.L S.af.B S.af.T
 vt:S.av.T≤m
 ft:S.af.T≤m
 vp:(S.V.map Vt.no).Perm S.av.L
 fp:(S.C.map Ce.no).Perm S.af.L
 vs:S.V.Pairwise (fun a b=>a.no<b.no)
 fs:S.C.Pairwise (fun a b=>a.no<b.no)
 vq: ∀ a∈S.V,(0≤a.x∧a.x<S.n)∧(0≤a.y∧a.y<S.n)∧(-9223372036854775808≤a.id∧a.id≤9223372036854775807)
 f64: ∀ c∈S.C, ∀ i,(-9223372036854775808≤c.t.v i∧c.t.v i≤9223372036854775807)∧(-9223372036854775808≤c.t.x i∧c.t.x i≤9223372036854775807)∧(-9223372036854775808≤c.t.y i∧c.t.y i≤9223372036854775807)
 fi: ∀ c∈S.C, ∀ i,i<3→isV S (c.t.v i)=true
 fo: ∀ c∈S.C, ∀ i,i<3→plOk S c.t i=true
 fl: ∀ c∈S.C,(areaT S c.t).sign=1
 fe: ∀ c∈S.C, ∀ c'∈S.C, ∀ i k,i<3→k<3→same c.t i c'.t k=true→c=c'∧i=k
section
variable {S : Ms} {m : Nat}
theorem MsOk.lens(h:MsOk S m):S.V.length≤m∧S.C.length≤m∧S.av.L.length≤m∧S.av.B.length≤m∧S.af.L.length≤m∧S.af.B.length≤m:=by
 have h1:=h.vp.length_eq
 have h2:=h.fp.length_eq
 have h3:=h.va.num
 have h4:=h.fa.num
 have h5:=h.vt
 have h6:=h.ft
 simp only [List.length_map]at h1 h2
 omega
theorem MsOk.vmem(h:MsOk S m){a:Vt}(ha:a∈S.V):a.no∈S.av.L∧0≤a.no∧a.no<S.av.T:=by
 have h1:a.no∈S.av.L:=h.vp.mem_iff.1 (List.mem_map_of_mem ha)
 have h2:=h.va.rg _ (List.mem_append_left _ h1)
 exact⟨h1,h2⟩
theorem MsOk.fmem(h:MsOk S m){a:Ce}(ha:a∈S.C):a.no∈S.af.L∧0≤a.no∧a.no<S.af.T:=by
 have h1:a.no∈S.af.L:=h.fp.mem_iff.1 (List.mem_map_of_mem ha)
 have h2:=h.fa.rg _ (List.mem_append_left _ h1)
 exact⟨h1,h2⟩
theorem MsOk.live(h:MsOk S m){v:Int}:v∈S.av.L↔isV S v=true:=by
 rw [isV_iff,←h.vp.mem_iff,List.mem_map]
theorem MsOk.liveF(h:MsOk S m){v:Int}:v∈S.af.L↔isF S v=true:=by
 rw [isF_iff,←h.fp.mem_iff,List.mem_map]
theorem plOk_eq{S':Ms}{t:Tr}{i:Nat}(hn:S'.n=S.n)(hp:pos S'.V (t.v i)=pos S.V (t.v i)):plOk S' t i=plOk S t i∧plX S' t i=plX S t i∧plY S' t i=plY S t i:=by
 have h1:plOk S' t i=plOk S t i:=by unfold plOk;rw [hn,hp]
 refine⟨h1,?_,?_⟩
 ·unfold plX;rw [h1,hn,hp]
 ·unfold plY;rw [h1,hn,hp]
theorem areaT_eq{S':Ms}{t:Tr}(hn:S'.n=S.n)(hp: ∀ i,i<3→pos S'.V (t.v i)=pos S.V (t.v i)):areaT S' t=areaT S t:=by
 unfold areaT
 rw [(plOk_eq hn (hp 0 (by omega))).2.1,(plOk_eq hn (hp 1 (by omega))).2.1,(plOk_eq hn (hp 2 (by omega))).2.1,(plOk_eq hn (hp 0 (by omega))).2.2,(plOk_eq hn (hp 1 (by omega))).2.2,(plOk_eq hn (hp 2 (by omega))).2.2]
theorem MsOk.new(n:Int)(hn:1≤n∧n≤17179869184):MsOk ⟨n,⟨[], [],0⟩,⟨[], [],0⟩, [], []⟩ 0:=
 ⟨hn,ArOk.new,ArOk.new,Nat.le_refl _,Nat.le_refl _,List.Perm.refl _,List.Perm.refl _,List.Pairwise.nil,List.Pairwise.nil,(fun a h=>by cases h),(fun a h=>by cases h),(fun a h=>by cases h),(fun a h=>by cases h),(fun a h=>by cases h),(fun a h=>by cases h)⟩
theorem MsOk.addV(h:MsOk S m){x y id:Int}(hq:inSq S x y=true)(hid: -9223372036854775808≤id∧id≤9223372036854775807):MsOk (S.addV x y id) (m+1):=by
 have htk:=h.va.take
 have hnew: ∀ a∈S.V,a.no≠S.av.num:=fun a ha e=>htk.2 (by have:=(h.vmem ha).1;rw [e]at this;exact this)
 obtain⟨q1,q2,q3,q4⟩:=of_decide_eq_true hq
 have hs':(S.addV x y id).V.Pairwise (fun a b=>a.no<b.no):=insBy_sorted h.vs hnew
 have hpos: ∀ v,isV S v=true→pos (S.addV x y id).V v=pos S.V v:=by
  intro v hv
  obtain⟨a,ha,rfl⟩:=isV_iff.1 hv
  rw [pos_of h.vs ha,pos_of hs' (insBy_mem.2 (Or.inr ha))]
 refine⟨h.n1,htk.1,h.fa,?_,Nat.le_trans h.ft (Nat.le_succ _),?_,h.fp,hs',h.fs,?_,h.f64,?_,?_,?_,h.fe⟩
 ·show tkT S.av.B S.av.T≤m+1
  have:=h.vt
  unfold tkT
  split<;>omega
 ·refine(List.Perm.map _ (insBy_perm _ _ _)).trans ?_
  exact(h.vp.cons _).trans (List.perm_append_comm (l₁:= [S.av.num]) (l₂:=S.av.L))
 ·intro a ha
  rcases insBy_mem.1 ha with rfl|ha
  ·exact⟨⟨q1,q2⟩,⟨q3,q4⟩,hid⟩
  ·exact h.vq a ha
 ·intro c hc i hi
  obtain⟨a,ha,e⟩:=isV_iff.1 (h.fi c hc i hi)
  exact isV_iff.2 ⟨a,insBy_mem.2 (Or.inr ha),e⟩
 ·intro c hc i hi
  rw [(plOk_eq (S:=S) (S':=S.addV x y id) rfl (hpos _ (h.fi c hc i hi))).1]
  exact h.fo c hc i hi
 ·intro c hc
  rw [areaT_eq (S:=S) (S':=S.addV x y id) rfl (fun i hi=>hpos _ (h.fi c hc i hi))]
  exact h.fl c hc
theorem area_line{px py x0 y0 x1 y1 x2 y2 n:Int}(h1:x1- x0=x2- x1)(h2:y1- y0=y2- y1):areaP (px+x0*n) (py+y0*n) (px+x1*n) (py+y1*n) (px+x2*n) (py+y2*n)=0:=by
 obtain rfl:x2=2*x1- x0:=by omega
 obtain rfl:y2=2*y1- y0:=by omega
 unfold areaP
 grind
theorem self_edge{t:Tr}(o: ∀ i,i<3→plOk S t i=true)(hg:(areaT S t).sign=1){i k:Nat}(hi:i<3)(hk:k<3)(h:same t i t k=true):i=k:=by
 have key: ∀ i,i<3→same t i t (nx i)=true→False:=by
  intro i hi h
  obtain⟨e1,e2,e3,e4⟩:=of_decide_eq_true h
  have X: ∀ j,j<3→plX S t j=(pos S.V (t.v j)).1+t.x j*S.n∧plY S t j=(pos S.V (t.v j)).2+t.y j*S.n:=by
   intro j hj
   unfold plX plY
   rw [o j hj]
   exact⟨rfl,rfl⟩
  have z:areaT S t=0:=by
   unfold areaT
   rw [(X 0 (by omega)).1,(X 0 (by omega)).2,(X 1 (by omega)).1,(X 1 (by omega)).2,(X 2 (by omega)).1,(X 2 (by omega)).2]
   rcases(by omega:i=0∨i=1∨i=2)with rfl|rfl|rfl
   ·have v1:t.v 1=t.v 0:=e1.symm
    have v2:t.v 2=t.v 0:=by rw [←v1];exact e2.symm
    rw [v1,v2]
    exact area_line e3 e4
   ·have v2:t.v 2=t.v 1:=e1.symm
    have v0:t.v 0=t.v 1:=by rw [←v2];exact e2.symm
    rw [v2,v0]
    rw [←area_turn]
    exact area_line e3 e4
   ·have v0:t.v 0=t.v 2:=e1.symm
    have v1:t.v 1=t.v 2:=by rw [←v0];exact e2.symm
    rw [v1,v0]
    rw [←area_turn,←area_turn]
    exact area_line e3 e4
  rw [z]at hg
  exact absurd hg (by decide)
 by_cases e:i=k
 ·exact e
 ·rcases(by unfold nx;omega:k=nx i∨i=nx k)with rfl|rfl
  ·exact(key i hi h).elim
  ·rw [same_symm]at h
   exact(key k hk h).elim
theorem fErr_ok{t:Tr}(h:fErr S t=0):(∀ i,i<3→isV S (t.v i)=true)∧(∀ i,i<3→plOk S t i=true)∧(areaT S t).sign=1∧there t S.C=false:=by
 unfold fErr at h
 split at h
 ·exact absurd h (by decide)
 ·rename_i h1
  split at h
  ·exact absurd h (by decide)
  ·rename_i h2
   simp only [not_or]at h1 h2
   refine⟨?_,?_,Decidable.of_not_not h2.2.2.2.1,by simpa using h2.2.2.2.2⟩
   ·intro i hi
    rcases(by omega:i=0∨i=1∨i=2)with rfl|rfl|rfl
    ·show isV S t.v0=true;simpa using h1.1
    ·show isV S t.v1=true;simpa using h1.2.1
    ·show isV S t.v2=true;simpa using h1.2.2
   ·intro i hi
    rcases(by omega:i=0∨i=1∨i=2)with rfl|rfl|rfl
    ·simpa using h2.1
    ·simpa using h2.2.1
    ·simpa using h2.2.2.1
theorem MsOk.addF(h:MsOk S m){t:Tr}(he:fErr S t=0)(h64: ∀ i,(-9223372036854775808≤t.v i∧t.v i≤9223372036854775807)∧(-9223372036854775808≤t.x i∧t.x i≤9223372036854775807)∧(-9223372036854775808≤t.y i∧t.y i≤9223372036854775807)):MsOk (S.addF t) (m+1):=by
 obtain⟨h1,h2,h3,h4⟩:=fErr_ok he
 have htk:=h.fa.take
 have hnew: ∀ a∈S.C,a.no≠S.af.num:=fun a ha e=>htk.2 (by have:=(h.fmem ha).1;rw [e]at this;exact this)
 refine⟨h.n1,h.va,htk.1,Nat.le_trans h.vt (Nat.le_succ _),?_,h.vp,?_,h.vs,insBy_sorted h.fs hnew,h.vq,?_,?_,?_,?_,?_⟩
 ·show tkT S.af.B S.af.T≤m+1
  have:=h.ft
  unfold tkT
  split<;>omega
 ·refine(List.Perm.map _ (insBy_perm _ _ _)).trans ?_
  exact(h.fp.cons _).trans (List.perm_append_comm (l₁:= [S.af.num]) (l₂:=S.af.L))
 ·intro c hc
  rcases insBy_mem.1 hc with rfl|hc
  ·exact h64
  ·exact h.f64 c hc
 ·intro c hc
  rcases insBy_mem.1 hc with rfl|hc
  ·exact h1
  ·exact h.fi c hc
 ·intro c hc
  rcases insBy_mem.1 hc with rfl|hc
  ·exact h2
  ·exact h.fo c hc
 ·intro c hc
  rcases insBy_mem.1 hc with rfl|hc
  ·exact h3
  ·exact h.fl c hc
 ·intro c hc c' hc' i k hi hk hs
  rcases insBy_mem.1 hc with rfl|hc<;>rcases insBy_mem.1 hc' with rfl|hc'
  ·exact⟨rfl,self_edge h2 h3 hi hk hs⟩
  ·rw [there_not h4 hc' hi hk]at hs
   exact absurd hs Bool.false_ne_true
  ·rw [same_symm,there_not h4 hc hk hi]at hs
   exact absurd hs Bool.false_ne_true
  ·exact h.fe c hc c' hc' i k hi hk hs
end
abbrev OwnS(w:World)(base:Nat)(T:TypeId)(s:Nat)(a:Option Addr)(n cap:Nat)(xs:List Value):Prop:=w.ownsRow base T s (.slice a n cap) n xs
section
variable {w w' : World} {base n cap s : Nat} {T : TypeId} {a : Option Addr} {xs : List Value}
theorem OwnS.keep{F:Nat→Prop}(h:OwnS w base T s a n cap xs)(hk:Keep F w w')(hF: ∀ k,Slot a k→ ¬F k):OwnS w' base T s a n cap xs:=by
 obtain⟨hl,h1|⟨g,cap',cur,hv,hb',hg,r⟩⟩:=h
 ·exact⟨hl,Or.inl h1⟩
 ·refine⟨hl,Or.inr ⟨g,cap',cur,hv,hb',?_,r⟩⟩
  rw [hk.block g (Array.getElem?_eq_some_iff.1 hg).1 (hF g (by cases hv;exact⟨0,rfl⟩))]
  exact hg
theorem OwnS.below(h:OwnS w base T s a n cap xs)(hb:Below w.heap.size w w'):OwnS w' base T s a n cap xs:=h.keep (Keep.of (F:=fun _=>False) hb) (fun _ _ x=>x)
theorem OwnS.lt(h:OwnS w base T s a n cap xs){k:Nat}(hk:Slot a k):k<w.heap.size∧base≤k:=by
 obtain⟨o,rfl⟩:=hk
 obtain⟨hl,⟨h1,_⟩|⟨g,cap',cur,hv,hb',hg,r⟩⟩:=h
 ·cases h1
 ·cases hv
  exact⟨(Array.getElem?_eq_some_iff.1 hg).1,hb'⟩
theorem OwnS.put{k i:Nat}(h:OwnS w base T s a n cap xs)(hk: ¬Slot a k)(u:Value):OwnS (w.setCell ⟨k,i,none⟩ u) base T s a n cap xs:=
 h.keep ((Keep.refl (fun x=>x=k) w).set (Or.inl rfl) u) (fun j hj e=>hk (e▸hj))
theorem OwnS.slot(h:OwnS w base T s a n cap xs){k:Nat}(e:(Value.slice a n cap).ownBlock=some k):Slot a k:=by
 cases a with
 |none=>cases e
 |some q=>obtain⟨_,⟨h5,_⟩|⟨g,_,_,hv,_⟩⟩:=h;cases h5;cases hv;cases e;exact⟨0,rfl⟩
theorem OwnS.mono{base':Nat}(h:OwnS w base T s a n cap xs)(hb:base'≤base):OwnS w base' T s a n cap xs:=by
 obtain⟨hl,h1|⟨g,cap',cur,hv,hb',r⟩⟩:=h
 ·exact⟨hl,Or.inl h1⟩
 ·exact⟨hl,Or.inr ⟨g,cap',cur,hv,by omega,r⟩⟩
theorem OwnS.len(h:OwnS w base T s a n cap xs):xs.length=n*s:=h.1
theorem OwnS.room(h:OwnS w base T s a n cap xs):n≤cap∧cap≤maxLen:=by
 obtain⟨hl,⟨h1,h2⟩|⟨g,cap',cur,hv,hb',hg,h1,h2,_⟩⟩:=h
 ·cases h1;exact⟨Nat.le_refl _,by unfold maxLen;omega⟩
 ·cases hv;exact⟨h1,h2⟩
theorem OwnS.at(h:OwnS w base T s a n cap xs)(hn:0<n): ∃ b,a=some ⟨b,0,none⟩∧b<w.heap.size∧base≤b∧Seg w b 0 xs:=by
 obtain⟨hl,⟨h1,h2⟩|⟨g,cap',cur,hv,hb',hg,h1,h2,h3,h4⟩⟩:=h
 ·omega
 ·cases hv
  refine⟨g,rfl,(Array.getElem?_eq_some_iff.1 hg).1,hb',?_⟩
  intro j u hu
  have hj:j<n*s:=by
   have:=(List.getElem?_eq_some_iff.1 hu).1
   omega
  rw [←h4,List.getElem?_take,if_pos hj]at hu
  refine⟨by simp [World.cell?,hg];simpa using hu,by simp [World.frozen?,hg]⟩
theorem ownS_none(w:World)(base:Nat)(T:TypeId)(s:Nat):OwnS w base T s none 0 0 []:=⟨by simp,Or.inl ⟨rfl,rfl⟩⟩
theorem OwnS.form{v:Value}(h:w.ownsRow base T s v n xs): ∃ a cap,v= .slice a n cap∧OwnS w base T s a n cap xs:=by
 obtain⟨hl,⟨h1,h2⟩|⟨g,cap',cur,hv,hb,hg,h1,h2,h3,h4⟩⟩:=h
 ·subst h1 h2
  exact⟨none,0,rfl,hl,Or.inl ⟨rfl,rfl⟩⟩
 ·subst hv
  exact⟨_,_,rfl,hl,Or.inr ⟨g,cap',cur,rfl,hb,hg,h1,h2,h3,h4⟩⟩
end
def News(w:World)(ad:Addr)(news:List Value):Prop:=(∀ j u,news[j]? =some u→w.cell? (ad.add j)=some u)
theorem app_atS{P:Program}(w:World){ops:Array Oper}{rest:List Oper}{o:Oper}{a:Act}{Q:Exit→Act→World→Prop}(hgd:o.guard=none)(s x:Operand)(t:TypeId)
  (ho:o.op= .call { callee:= .builtin .append,args:= #[s,x],argTypes:= #[t,t] })
  (base:Nat) (e:TypeId) (i:TypeInfo) (z:Value) (size bytes:Nat) (ht:P.underlying t=some (.slice e)) (hi:P.info? e=some i) (hz:i.zero=some z)
  (hsize:i.size=size) (hby:i.bytes=bytes) (hzs:z.cells.size=size) (hsz:0<size)
  (a0:Option Addr) (n0 c0:Nat) (xs:List Value) (hs:a.eval s= .slice a0 n0 c0) (hown:OwnS w base e size a0 n0 c0 xs)
  (ad:Addr) (m c:Nat) (news:List Value) (hx:a.eval x= .slice (some ad) m c) (hl:news.length=m*size) (hnews:News w ad news) (h1: ∀ u∈news,u.oneCell'=true)
  (h63:n0+m≤maxLen) (hbytes:(n0+m)*bytes≤140737488355328) (hbase:base≤w.heap.size)
  (h: ∀ a' cap' w',OwnS w' base e size a' (n0+m) cap' (xs++news)→w.grownBy w' (Value.slice a0 n0 c0).ownBlock→(∀ k,Slot a' k→Slot a0 k∨w.heap.size≤k)→wpList P ops Q rest (a.put o.dst (.slice a' (n0+m) cap')) w'):wpList P ops Q (o::rest) a w:=by
 refine wpList_append_own_at w hgd s x t ho base e i z size bytes ht hi hz hsize hby hzs hsz _ n0 xs hs hown ad m c news hx hl hnews h1 h63 hbytes hbase ?_
 intro v' w' h1 h2 _ h4
 obtain⟨a',cap',rfl,h3⟩:=OwnS.form h1
 refine h a' cap' w' h3 h2 ?_
 rintro k ⟨q,rfl⟩
 rcases h4 with h4|h4
 ·cases a0 with
  |none=>cases h4
  |some b0=>
   have:k=b0.block:=by simpa [Value.ownBlock]using h4
   subst this
   obtain⟨hl,⟨h5,_⟩|⟨g,cap',cur,hv,r⟩⟩:=hown
   ·cases h5
   ·cases hv;exact Or.inl ⟨0,rfl⟩
 ·have:k=w.heap.size:=by simpa [Value.ownBlock]using h4
  exact Or.inr (by omega)
theorem news_new(w:World)(xs:List Value)(T:TypeId):News (w.alloc (.cells xs.toArray T)) ⟨w.heap.size,0,none⟩ xs:=by
 intro j u hu
 rw [Addr.add_lit,Nat.zero_add]
 exact(Row.new w xs T).cell j u hu
def flat{α:Type}(f:α→List Value)(L:List α):List Value:=L.flatMap f
section
variable {α : Type} {f : α → List Value}
theorem flat_at{s:Nat}(hf: ∀ x,(f x).length=s){L:List α}{k j:Nat}{x:α}{u:Value}(hk:L[k]? =some x)(hj:(f x)[j]? =some u):(flat f L)[k*s+j]? =some u:=by
 induction L generalizing k with
 |nil=>simp at hk
 |cons a L ih=>
  rw [show flat f (a::L)=f a++flat f L from by simp [flat]]
  cases k with
  |zero=>
   simp only [List.getElem?_cons_zero,Option.some.injEq]at hk
   subst hk
   rw [List.getElem?_append_left (by have:=(List.getElem?_eq_some_iff.1 hj).1;omega)]
   simpa using hj
  |succ k=>
   rw [List.getElem?_append_right (by rw [hf,Nat.add_mul];omega),hf,show(k+1)*s+j- s=k*s+j by rw [Nat.add_mul];omega]
   exact ih (by simpa using hk)
end
abbrev ptR(p:Nat):Value:= .pointer (some ⟨p,0,none⟩)
def vtC(a:Vt):List Value:= [.int .i64 a.no, .int .i64 a.x, .int .i64 a.y, .int .i64 a.id]
def trC(t:Tr):List Value:= [.int .i64 t.v0, .int .i64 t.v1, .int .i64 t.v2, .int .i64 t.x0, .int .i64 t.y0, .int .i64 t.x1, .int .i64 t.y1, .int .i64 t.x2, .int .i64 t.y2]
def ceC(c:Ce):List Value:= .int .i64 c.no::trC c.t
abbrev trV(t:Tr):Value:= .agg #[.int .i64 t.v0, .int .i64 t.v1, .int .i64 t.v2, .int .i64 t.x0, .int .i64 t.y0, .int .i64 t.x1, .int .i64 t.y1, .int .i64 t.x2, .int .i64 t.y2]
theorem ceC_len(c:Ce):(ceC c).length=10:=rfl
end Go.Proofs.Ytaadknpjbogkbaa
namespace Go.Proofs.Ytaadknpjbogkbaa
open Go.RowKit Go.Maps
set_option linter.unusedVariables false
structure Mx where
 κ:Nat→Nat
 pv:Nat
 pf:Nat
 Fv:Nat→Prop
 Ff:Nat→Prop
 a:Option Addr
 nv:Nat
 ca:Nat
 b:Option Addr
 nf:Nat
 cb:Nat
 be:Nat
 xs:List Value
 ys:List Value
 M:Int→Nat
 ge:Eg→Option Value
 gf:Int→Int→Option Value
 Lv:Int→Prop
 n:Int
 av:Ar
 af:Ar
abbrev Mx.cells(X:Mx):List Value:= [.int .i64 X.n,ptR X.pv,ptR X.pf, .slice X.a X.nv X.ca, .slice X.b X.nf X.cb, .map (some X.be)]
abbrev EMap(w:World)(b:Nat)(g:Eg→Option Value):Prop:=MapL Try.prog 122 egV w b g
abbrev IMap(w:World)(b:Nat)(g:Int→Option Value):Prop:=MapL Try.prog 3 (Value.int .i64) w b g
structure MeI(base p:Nat)(X:Mx)(F:Nat→Prop)(w:World):Prop where
 row:Row w p X.cells
 arv:ArP base X.pv X.av.L X.av.B X.av.T X.Fv w
 arf:ArP base X.pf X.af.L X.af.B X.af.T X.Ff w
 own:OwnS w base 92 5 X.a X.nv X.ca X.xs
 onf:OwnS w base 65 9 X.b X.nf X.cb X.ys
 edg:EMap w X.be X.ge
 fcs: ∀ v,X.Lv v→IMap w (X.M v) (X.gf v)
 c0:F p∧X.κ p=0
 c1: ∀ k,X.Fv k→F k∧X.κ k=1
 c2: ∀ k,X.Ff k→F k∧X.κ k=2
 c3: ∀ k,Slot X.a k→F k∧X.κ k=3
 c4: ∀ k,Slot X.b k→F k∧X.κ k=4
 c5:F X.be∧X.κ X.be=5
 c6: ∀ v,X.Lv v→0≤v∧F (X.M v)∧X.κ (X.M v)=6+v.toNat
 ft: ∀ k,F k→base≤k∧k<w.heap.size
abbrev more(F:Nat→Prop)(s s':Nat):Nat→Prop:=fun k=>F k∨(s≤k∧k<s')
abbrev paint(κ:Nat→Nat)(s c:Nat):Nat→Nat:=fun k=>if k<s then κ k else c
section
variable {base p : Nat} {X : Mx} {F G : Nat → Prop} {w w' : World}
theorem MeI.keep(h:MeI base p X F w)(hk:Keep G w w')(hd: ∀ k,F k→ ¬G k):MeI base p X F w' where
 row:=h.row.keep hk h.row.lt (hd p h.c0.1)
 arv:=h.arv.keep hk (fun k s=>hd k (h.c1 k s).1)
 arf:=h.arf.keep hk (fun k s=>hd k (h.c2 k s).1)
 own:=h.own.keep hk (fun k s=>hd k (h.c3 k s).1)
 onf:=h.onf.keep hk (fun k s=>hd k (h.c4 k s).1)
 edg:=h.edg.keep hk (hd _ h.c5.1)
 fcs:=fun v hv=>(h.fcs v hv).keep hk (hd _ (h.c6 v hv).2.1)
 c0:=h.c0
 c1:=h.c1
 c2:=h.c2
 c3:=h.c3
 c4:=h.c4
 c5:=h.c5
 c6:=h.c6
 ft:=fun k hF=>⟨(h.ft k hF).1,Nat.lt_of_lt_of_le (h.ft k hF).2 hk.size⟩
theorem MeI.below(h:MeI base p X F w)(hb:Below w.heap.size w w'):MeI base p X F w':=h.keep (Keep.of (F:=fun _=>False) hb) (fun _ _ x=>x)
structure Stays(base p:Nat)(X:Mx)(F:Nat→Prop)(w':World)(c:Nat):Prop where
 row:c≠0→Row w' p X.cells
 arv:c≠1→ArP base X.pv X.av.L X.av.B X.av.T X.Fv w'
 arf:c≠2→ArP base X.pf X.af.L X.af.B X.af.T X.Ff w'
 own:c≠3→OwnS w' base 92 5 X.a X.nv X.ca X.xs
 onf:c≠4→OwnS w' base 65 9 X.b X.nf X.cb X.ys
 edg:c≠5→EMap w' X.be X.ge
 fcs: ∀ v,X.Lv v→c≠6+v.toNat→IMap w' (X.M v) (X.gf v)
theorem MeI.stays(h:MeI base p X F w)(hk:Keep G w w')(c:Nat)(hG: ∀ k,G k→F k→X.κ k=c):Stays base p X F w' c where
 row:=fun hc=>h.row.keep hk h.row.lt (fun g=>hc ((hG _ g h.c0.1).symm.trans h.c0.2))
 arv:=fun hc=>h.arv.keep hk (fun k s g=>hc ((hG _ g (h.c1 k s).1).symm.trans (h.c1 k s).2))
 arf:=fun hc=>h.arf.keep hk (fun k s g=>hc ((hG _ g (h.c2 k s).1).symm.trans (h.c2 k s).2))
 own:=fun hc=>h.own.keep hk (fun k s g=>hc ((hG _ g (h.c3 k s).1).symm.trans (h.c3 k s).2))
 onf:=fun hc=>h.onf.keep hk (fun k s g=>hc ((hG _ g (h.c4 k s).1).symm.trans (h.c4 k s).2))
 edg:=fun hc=>h.edg.keep hk (fun g=>hc ((hG _ g h.c5.1).symm.trans h.c5.2))
 fcs:=fun v hv hc=>(h.fcs v hv).keep hk (fun g=>hc ((hG _ g (h.c6 v hv).2.1).symm.trans (h.c6 v hv).2.2))
theorem paint_old{κ:Nat→Nat}{s c k:Nat}(h:k<s):paint κ s c k=κ k:=if_pos h
theorem paint_new{κ:Nat→Nat}{s c k:Nat}(h:s≤k):paint κ s c k=c:=if_neg (by omega)
theorem MeI.turnV(h:MeI base p X F w){A:Ar}{Fv':Nat→Prop}(hk:Keep X.Fv w w')(hA:ArP base X.pv A.L A.B A.T Fv' w')(hF: ∀ k,Fv' k→X.Fv k∨w.heap.size≤k):
  MeI base p { X with av:=A,Fv:=Fv',κ:=paint X.κ w.heap.size 1 } (more F w.heap.size w'.heap.size) w':=by
 have st:=h.stays hk 1 (fun k g _=>(h.c1 k g).2)
 have old: ∀ k,F k→paint X.κ w.heap.size 1 k=X.κ k:=fun k hF=>paint_old (h.ft k hF).2
 refine⟨st.row (by decide),hA,st.arf (by decide),st.own (by decide),st.onf (by decide),st.edg (by decide),(fun v hv=>st.fcs v hv (by omega)),⟨Or.inl h.c0.1,(old _ h.c0.1).trans h.c0.2⟩,?_,(fun k s=>⟨Or.inl (h.c2 k s).1,(old _ (h.c2 k s).1).trans (h.c2 k s).2⟩),(fun k s=>⟨Or.inl (h.c3 k s).1,(old _ (h.c3 k s).1).trans (h.c3 k s).2⟩),(fun k s=>⟨Or.inl (h.c4 k s).1,(old _ (h.c4 k s).1).trans (h.c4 k s).2⟩),⟨Or.inl h.c5.1,(old _ h.c5.1).trans h.c5.2⟩,(fun v hv=>⟨(h.c6 v hv).1,Or.inl (h.c6 v hv).2.1,(old _ (h.c6 v hv).2.1).trans (h.c6 v hv).2.2⟩),?_⟩
 ·intro k s
  rcases hF k s with g|g
  ·exact⟨Or.inl (h.c1 k g).1,(old _ (h.c1 k g).1).trans (h.c1 k g).2⟩
  ·exact⟨Or.inr ⟨g,(hA.ft k s).2⟩,paint_new g⟩
 ·intro k hk'
  have hb:base≤w.heap.size:=Nat.le_of_lt (Nat.lt_of_le_of_lt (h.ft p h.c0.1).1 (h.ft p h.c0.1).2)
  rcases hk' with g|⟨g1,g2⟩
  ·exact⟨(h.ft k g).1,Nat.lt_of_lt_of_le (h.ft k g).2 hk.size⟩
  ·exact⟨by omega,g2⟩
theorem MeI.turnF(h:MeI base p X F w){A:Ar}{Ff':Nat→Prop}(hk:Keep X.Ff w w')(hA:ArP base X.pf A.L A.B A.T Ff' w')(hF: ∀ k,Ff' k→X.Ff k∨w.heap.size≤k):
  MeI base p { X with af:=A,Ff:=Ff',κ:=paint X.κ w.heap.size 2 } (more F w.heap.size w'.heap.size) w':=by
 have st:=h.stays hk 2 (fun k g _=>(h.c2 k g).2)
 have old: ∀ k,F k→paint X.κ w.heap.size 2 k=X.κ k:=fun k hF=>paint_old (h.ft k hF).2
 refine⟨st.row (by decide),st.arv (by decide),hA,st.own (by decide),st.onf (by decide),st.edg (by decide),(fun v hv=>st.fcs v hv (by omega)),⟨Or.inl h.c0.1,(old _ h.c0.1).trans h.c0.2⟩,(fun k s=>⟨Or.inl (h.c1 k s).1,(old _ (h.c1 k s).1).trans (h.c1 k s).2⟩),?_,(fun k s=>⟨Or.inl (h.c3 k s).1,(old _ (h.c3 k s).1).trans (h.c3 k s).2⟩),(fun k s=>⟨Or.inl (h.c4 k s).1,(old _ (h.c4 k s).1).trans (h.c4 k s).2⟩),⟨Or.inl h.c5.1,(old _ h.c5.1).trans h.c5.2⟩,(fun v hv=>⟨(h.c6 v hv).1,Or.inl (h.c6 v hv).2.1,(old _ (h.c6 v hv).2.1).trans (h.c6 v hv).2.2⟩),?_⟩
 ·intro k s
  rcases hF k s with g|g
  ·exact⟨Or.inl (h.c2 k g).1,(old _ (h.c2 k g).1).trans (h.c2 k g).2⟩
  ·exact⟨Or.inr ⟨g,(hA.ft k s).2⟩,paint_new g⟩
 ·intro k hk'
  have hb:base≤w.heap.size:=Nat.le_of_lt (Nat.lt_of_le_of_lt (h.ft p h.c0.1).1 (h.ft p h.c0.1).2)
  rcases hk' with g|⟨g1,g2⟩
  ·exact⟨(h.ft k g).1,Nat.lt_of_lt_of_le (h.ft k g).2 hk.size⟩
  ·exact⟨by omega,g2⟩
theorem MeI.turnA(h:MeI base p X F w){w1:World}{a':Option Addr}{n' c':Nat}{xs':List Value}(hk:Keep (Slot X.a) w w1)(hO:OwnS w1 base 92 5 a' n' c' xs')(hS: ∀ k,Slot a' k→Slot X.a k∨w.heap.size≤k):
  MeI base p { X with a:=a',nv:=n',ca:=c',xs:=xs',κ:=paint X.κ w.heap.size 3 } (more F w.heap.size w1.heap.size) (w1.setCell ⟨p,3,none⟩ (.slice a' n' c'))∧Keep F w (w1.setCell ⟨p,3,none⟩ (.slice a' n' c')):=by
 have st:=h.stays hk 3 (fun k g _=>(h.c3 k g).2)
 have old: ∀ k,F k→paint X.κ w.heap.size 3 k=X.κ k:=fun k hF=>paint_old (h.ft k hF).2
 have hpl:=(h.ft p h.c0.1).2
 have hne: ∀ {k c:Nat},X.κ k=c→c≠0→k≠p:=fun{k c} hc h0 e=>h0 (hc.symm.trans (by rw [e];exact h.c0.2))
 have na: ¬Slot a' p:=fun s=>(hS p s).elim (fun s=>absurd ((h.c3 p s).2.symm.trans h.c0.2) (by decide)) (fun e=>by omega)
 have ks:Keep (fun k=>k=p) w1 (w1.setCell ⟨p,3,none⟩ (.slice a' n' c')):=(Keep.refl (fun k=>k=p) w1).set (Or.inl rfl) _
 have k2:Keep F w (w1.setCell ⟨p,3,none⟩ (.slice a' n' c')):=(hk.mono (fun k s=>(h.c3 k s).1)).trans ks (fun i e=>Or.inl (by rw [e];exact h.c0.1))
 have hb:base≤w.heap.size:=Nat.le_of_lt (Nat.lt_of_le_of_lt (h.ft p h.c0.1).1 hpl)
 refine⟨⟨?_,(st.arv (by decide)).keep ks (fun k s=>hne (h.c1 k s).2 (by decide)),(st.arf (by decide)).keep ks (fun k s=>hne (h.c2 k s).2 (by decide)),hO.put na _,(st.onf (by decide)).keep ks (fun k s=>hne (h.c4 k s).2 (by decide)),(st.edg (by decide)).keep ks (hne h.c5.2 (by decide)),(fun v hv=>(st.fcs v hv (by omega)).keep ks (hne (h.c6 v hv).2.2 (by omega))),⟨Or.inl h.c0.1,(old _ h.c0.1).trans h.c0.2⟩,(fun k s=>⟨Or.inl (h.c1 k s).1,(old _ (h.c1 k s).1).trans (h.c1 k s).2⟩),(fun k s=>⟨Or.inl (h.c2 k s).1,(old _ (h.c2 k s).1).trans (h.c2 k s).2⟩),?_,(fun k s=>⟨Or.inl (h.c4 k s).1,(old _ (h.c4 k s).1).trans (h.c4 k s).2⟩),⟨Or.inl h.c5.1,(old _ h.c5.1).trans h.c5.2⟩,(fun v hv=>⟨(h.c6 v hv).1,Or.inl (h.c6 v hv).2.1,(old _ (h.c6 v hv).2.1).trans (h.c6 v hv).2.2⟩),?_⟩,k2⟩
 ·exact(st.row (by decide)).set 3 (.slice a' n' c') (by simp)
 ·intro k s
  rcases hS k s with g|g
  ·exact⟨Or.inl (h.c3 k g).1,(old _ (h.c3 k g).1).trans (h.c3 k g).2⟩
  ·exact⟨Or.inr ⟨g,(hO.lt s).1⟩,paint_new g⟩
 ·intro k hk'
  rcases hk' with g|⟨g1,g2⟩
  ·exact⟨(h.ft k g).1,Nat.lt_of_lt_of_le (h.ft k g).2 k2.size⟩
  ·exact⟨by omega,by simpa using g2⟩
theorem MeI.turnB(h:MeI base p X F w){w1:World}{b':Option Addr}{n' c':Nat}{ys':List Value}(hk:Keep (Slot X.b) w w1)(hO:OwnS w1 base 65 9 b' n' c' ys')(hS: ∀ k,Slot b' k→Slot X.b k∨w.heap.size≤k):
  MeI base p { X with b:=b',nf:=n',cb:=c',ys:=ys',κ:=paint X.κ w.heap.size 4 } (more F w.heap.size w1.heap.size) (w1.setCell ⟨p,4,none⟩ (.slice b' n' c'))∧Keep F w (w1.setCell ⟨p,4,none⟩ (.slice b' n' c')):=by
 have st:=h.stays hk 4 (fun k g _=>(h.c4 k g).2)
 have old: ∀ k,F k→paint X.κ w.heap.size 4 k=X.κ k:=fun k hF=>paint_old (h.ft k hF).2
 have hpl:=(h.ft p h.c0.1).2
 have hne: ∀ {k c:Nat},X.κ k=c→c≠0→k≠p:=fun{k c} hc h0 e=>h0 (hc.symm.trans (by rw [e];exact h.c0.2))
 have na: ¬Slot b' p:=fun s=>(hS p s).elim (fun s=>absurd ((h.c4 p s).2.symm.trans h.c0.2) (by decide)) (fun e=>by omega)
 have ks:Keep (fun k=>k=p) w1 (w1.setCell ⟨p,4,none⟩ (.slice b' n' c')):=(Keep.refl (fun k=>k=p) w1).set (Or.inl rfl) _
 have k2:Keep F w (w1.setCell ⟨p,4,none⟩ (.slice b' n' c')):=(hk.mono (fun k s=>(h.c4 k s).1)).trans ks (fun i e=>Or.inl (by rw [e];exact h.c0.1))
 have hb:base≤w.heap.size:=Nat.le_of_lt (Nat.lt_of_le_of_lt (h.ft p h.c0.1).1 hpl)
 refine⟨⟨?_,(st.arv (by decide)).keep ks (fun k s=>hne (h.c1 k s).2 (by decide)),(st.arf (by decide)).keep ks (fun k s=>hne (h.c2 k s).2 (by decide)),(st.own (by decide)).keep ks (fun k s=>hne (h.c3 k s).2 (by decide)),hO.put na _,(st.edg (by decide)).keep ks (hne h.c5.2 (by decide)),(fun v hv=>(st.fcs v hv (by omega)).keep ks (hne (h.c6 v hv).2.2 (by omega))),⟨Or.inl h.c0.1,(old _ h.c0.1).trans h.c0.2⟩,(fun k s=>⟨Or.inl (h.c1 k s).1,(old _ (h.c1 k s).1).trans (h.c1 k s).2⟩),(fun k s=>⟨Or.inl (h.c2 k s).1,(old _ (h.c2 k s).1).trans (h.c2 k s).2⟩),(fun k s=>⟨Or.inl (h.c3 k s).1,(old _ (h.c3 k s).1).trans (h.c3 k s).2⟩),?_,⟨Or.inl h.c5.1,(old _ h.c5.1).trans h.c5.2⟩,(fun v hv=>⟨(h.c6 v hv).1,Or.inl (h.c6 v hv).2.1,(old _ (h.c6 v hv).2.1).trans (h.c6 v hv).2.2⟩),?_⟩,k2⟩
 ·exact(st.row (by decide)).set 4 (.slice b' n' c') (by simp)
 ·intro k s
  rcases hS k s with g|g
  ·exact⟨Or.inl (h.c4 k g).1,(old _ (h.c4 k g).1).trans (h.c4 k g).2⟩
  ·exact⟨Or.inr ⟨g,(hO.lt s).1⟩,paint_new g⟩
 ·intro k hk'
  rcases hk' with g|⟨g1,g2⟩
  ·exact⟨(h.ft k g).1,Nat.lt_of_lt_of_le (h.ft k g).2 k2.size⟩
  ·exact⟨by omega,by simpa using g2⟩
theorem MeI.turnE(h:MeI base p X F w){g:Eg→Option Value}(hk:Keep (fun k=>k=X.be) w w')(hM:EMap w' X.be g):MeI base p { X with ge:=g } F w':=by
 have st:=h.stays hk 5 (fun k g _=>by rw [g];exact h.c5.2)
 exact⟨st.row (by decide),st.arv (by decide),st.arf (by decide),st.own (by decide),st.onf (by decide),hM,(fun v hv=>st.fcs v hv (by omega)),h.c0,h.c1,h.c2,h.c3,h.c4,h.c5,h.c6,fun k hF=>⟨(h.ft k hF).1,Nat.lt_of_lt_of_le (h.ft k hF).2 hk.size⟩⟩
theorem MeI.turnM(h:MeI base p X F w){v:Int}(hv:X.Lv v){g:Int→Option Value}(hk:Keep (fun k=>k=X.M v) w w')(hM:IMap w' (X.M v) g):MeI base p { X with gf:=fun u=>if u=v then g else X.gf u } F w':=by
 have st:=h.stays hk (6+v.toNat) (fun k g _=>by rw [g];exact(h.c6 v hv).2.2)
 refine⟨st.row (by omega),st.arv (by omega),st.arf (by omega),st.own (by omega),st.onf (by omega),st.edg (by omega),?_,h.c0,h.c1,h.c2,h.c3,h.c4,h.c5,h.c6,fun k hF=>⟨(h.ft k hF).1,Nat.lt_of_lt_of_le (h.ft k hF).2 hk.size⟩⟩
 intro u hu
 show IMap w' (X.M u) (if u=v then g else X.gf u)
 by_cases e:u=v
 ·subst e
  rw [if_pos rfl]
  exact hM
 ·rw [if_neg e]
  exact st.fcs u hu (by have:=(h.c6 u hu).1;have:=(h.c6 v hv).1;omega)
theorem MeI.addM(h:MeI base p X F w){v:Int}(h0:0≤v){mb:Nat}{g:Int→Option Value}(hn: ¬F mb)(hM:IMap w mb g)(hbase:base≤mb):
  MeI base p { X with Lv:=fun u=>u=v∨(u≠v∧X.Lv u),M:=fun u=>if u=v then mb else X.M u,gf:=fun u=>if u=v then g else X.gf u,κ:=fun k=>if k=mb then 6+v.toNat else X.κ k } (fun k=>F k∨k=mb) w:=by
 have old: ∀ k,F k→(if k=mb then 6+v.toNat else X.κ k)=X.κ k:=fun k hF=>if_neg (fun e:k=mb=>hn (e▸hF))
 refine⟨h.row,h.arv,h.arf,h.own,h.onf,h.edg,?_,⟨Or.inl h.c0.1,(old _ h.c0.1).trans h.c0.2⟩,(fun k s=>⟨Or.inl (h.c1 k s).1,(old _ (h.c1 k s).1).trans (h.c1 k s).2⟩),(fun k s=>⟨Or.inl (h.c2 k s).1,(old _ (h.c2 k s).1).trans (h.c2 k s).2⟩),(fun k s=>⟨Or.inl (h.c3 k s).1,(old _ (h.c3 k s).1).trans (h.c3 k s).2⟩),(fun k s=>⟨Or.inl (h.c4 k s).1,(old _ (h.c4 k s).1).trans (h.c4 k s).2⟩),⟨Or.inl h.c5.1,(old _ h.c5.1).trans h.c5.2⟩,?_,?_⟩
 ·intro u hu
  show IMap w (if u=v then mb else X.M u) (if u=v then g else X.gf u)
  rcases hu with rfl|⟨e,hu⟩
  ·rw [if_pos rfl,if_pos rfl]
   exact hM
  ·rw [if_neg e,if_neg e]
   exact h.fcs u hu
 ·intro u hu
  show 0≤u∧(F (if u=v then mb else X.M u)∨(if u=v then mb else X.M u)=mb)∧(if(if u=v then mb else X.M u)=mb then 6+v.toNat else X.κ (if u=v then mb else X.M u))=6+u.toNat
  rcases hu with rfl|⟨e,hu⟩
  ·rw [if_pos rfl,if_pos rfl]
   exact⟨h0,Or.inr rfl,rfl⟩
  ·rw [if_neg e,old _ (h.c6 u hu).2.1]
   exact⟨(h.c6 u hu).1,Or.inl (h.c6 u hu).2.1,(h.c6 u hu).2.2⟩
 ·intro k hk
  rcases hk with g|rfl
  ·exact h.ft k g
  ·exact⟨hbase,hM.lt⟩
end
def vxC(a:Vt)(b:Nat):List Value:= [.int .i64 a.no, .int .i64 a.x, .int .i64 a.y, .int .i64 a.id, .map (some b)]
def eg(t:Tr)(i:Nat):Eg:=⟨t.v i,t.v (nx i),t.x (nx i)- t.x i,t.y (nx i)- t.y i⟩
abbrev stV(f i:Int):Value:= .agg #[.int .i64 f, .int .i64 i]
structure MeOk(X:Mx)(S:Ms):Prop where
 n:X.n=S.n
 av:X.av=S.av
 af:X.af=S.af
 nv:X.nv=S.av.T
 nf:X.nf=S.af.T
 Lv: ∀ v,X.Lv v↔isV S v=true
 vs: ∀ a∈S.V, ∀ j u,(vxC a (X.M a.no))[j]? =some u→X.xs[a.no.toNat*5+j]? =some u
 fs: ∀ c∈S.C, ∀ j u,(trC c.t)[j]? =some u→X.ys[c.no.toNat*9+j]? =some u
 ge1: ∀ c∈S.C, ∀ i,i<3→X.ge (eg c.t i)=some (stV c.no (i:Int))
 ge2: ∀ e,X.ge e≠none→ ∃ c∈S.C, ∃ i,i<3∧e=eg c.t i
 gf: ∀ a∈S.V, ∀ f,X.gf a.no f≠none↔f∈around S.C a.no
structure MeP(base p:Nat)(S:Ms)(F:Nat→Prop)(w:World):Prop where
 ex: ∃ X,MeI base p X F w∧MeOk X S
theorem MeP.keep{base p:Nat}{S:Ms}{F G:Nat→Prop}{w w':World}(h:MeP base p S F w)(hk:Keep G w w')(hd: ∀ k,F k→ ¬G k):MeP base p S F w':=by
 obtain⟨X,hX,hS⟩:=h.ex
 exact⟨X,hX.keep hk hd,hS⟩
theorem MeP.below{base p:Nat}{S:Ms}{F:Nat→Prop}{w w':World}(h:MeP base p S F w)(hb:Below w.heap.size w w'):MeP base p S F w':=h.keep (Keep.of (F:=fun _=>False) hb) (fun _ _ x=>x)
theorem MeP.ft{base p:Nat}{S:Ms}{F:Nat→Prop}{w:World}(h:MeP base p S F w): ∀ k,F k→base≤k∧k<w.heap.size:=by
 obtain⟨X,hX,hS⟩:=h.ex
 exact hX.ft
end Go.Proofs.Ytaadknpjbogkbaa
namespace Go.Proofs.Ytaadknpjbogkbaa
open Go.RowKit
set_option linter.unusedVariables false
structure B3(w:World)(b:Nat)(x0 x1 x2:Value):Prop where
 c0:w.cell? ⟨b,0,none⟩=some x0
 c1:w.cell? ⟨b,1,none⟩=some x1
 c2:w.cell? ⟨b,2,none⟩=some x2
 f0:w.frozen? ⟨b,0,none⟩=false
 f1:w.frozen? ⟨b,1,none⟩=false
 f2:w.frozen? ⟨b,2,none⟩=false
structure B4(w:World)(b:Nat)(x0 x1 x2 x3:Value):Prop where
 c0:w.cell? ⟨b,0,none⟩=some x0
 c1:w.cell? ⟨b,1,none⟩=some x1
 c2:w.cell? ⟨b,2,none⟩=some x2
 c3:w.cell? ⟨b,3,none⟩=some x3
 f0:w.frozen? ⟨b,0,none⟩=false
 f1:w.frozen? ⟨b,1,none⟩=false
 f2:w.frozen? ⟨b,2,none⟩=false
 f3:w.frozen? ⟨b,3,none⟩=false
theorem cell_put1{w:World}{n k i j:Nat}{v:Value}(h:w.cell? ⟨n,i,none⟩=some v)(hk:n≠k)(u:Value):(w.setCell ⟨k,j,none⟩ u).cell? ⟨n,i,none⟩=some v:=by
 rw [World.cell?_setCell_other _ _ _ _ (by intro q;simp only [Addr.mk.injEq]at q;omega)];exact h
theorem cell_put2{w:World}{n k i:Nat}{x:Value}(h:w.cell? ⟨n,i,none⟩=some x)(hk:n≠k)(u v:Value):((w.setCell ⟨k,0,none⟩ u).setCell ⟨k,1,none⟩ v).cell? ⟨n,i,none⟩=some x:=cell_put1 (cell_put1 h hk u) hk v
theorem bs_2(w:World)(x00 x01:Value)(t0:TypeId): ∃ W,W=(w.alloc (.cells #[x00,x01] t0))∧Below w.heap.size w W∧Bx W (w.heap.size) x00 x01∧w.heap.size<W.heap.size:=by
 have e0:Below w.heap.size w (w.alloc (.cells #[x00,x01] t0)):=(Below.refl _ _).alloc (Nat.le_refl _) _
 have h0:=bx_new w x00 x01 t0
 exact⟨_,rfl,e0,h0,by simp⟩
theorem bs_222(w:World)(x00 x01 x10 x11 x20 x21:Value)(t0 t1 t2:TypeId): ∃ W,W=(((w.alloc (.cells #[x00,x01] t0)).alloc (.cells #[x10,x11] t1)).alloc (.cells #[x20,x21] t2))∧Below w.heap.size w W∧Bx W (w.heap.size) x00 x01∧Bx W (w.heap.size+1) x10 x11∧Bx W (w.heap.size+1+1) x20 x21∧w.heap.size+1+1<W.heap.size:=by
 have e0:Below w.heap.size w (w.alloc (.cells #[x00,x01] t0)):=(Below.refl _ _).alloc (Nat.le_refl _) _
 have h0:=bx_new w x00 x01 t0
 have e1:Below (w.alloc (.cells #[x00,x01] t0)).heap.size (w.alloc (.cells #[x00,x01] t0)) ((w.alloc (.cells #[x00,x01] t0)).alloc (.cells #[x10,x11] t1)):=(Below.refl _ _).alloc (Nat.le_refl _) _
 have h1:=bx_new (w.alloc (.cells #[x00,x01] t0)) x10 x11 t1
 rw [World.size_alloc]at h1
 have e2:Below ((w.alloc (.cells #[x00,x01] t0)).alloc (.cells #[x10,x11] t1)).heap.size ((w.alloc (.cells #[x00,x01] t0)).alloc (.cells #[x10,x11] t1)) (((w.alloc (.cells #[x00,x01] t0)).alloc (.cells #[x10,x11] t1)).alloc (.cells #[x20,x21] t2)):=(Below.refl _ _).alloc (Nat.le_refl _) _
 have h2:=bx_new ((w.alloc (.cells #[x00,x01] t0)).alloc (.cells #[x10,x11] t1)) x20 x21 t2
 rw [World.size_alloc,World.size_alloc]at h2
 exact⟨_,rfl,also (also (e0) e1) e2,((h0.on e1).on e2),(h1.on e2),h2,by simp⟩
theorem bs_2222(w:World)(x00 x01 x10 x11 x20 x21 x30 x31:Value)(t0 t1 t2 t3:TypeId): ∃ W,W=((((w.alloc (.cells #[x00,x01] t0)).alloc (.cells #[x10,x11] t1)).alloc (.cells #[x20,x21] t2)).alloc (.cells #[x30,x31] t3))∧Below w.heap.size w W∧Bx W (w.heap.size) x00 x01∧Bx W (w.heap.size+1) x10 x11∧Bx W (w.heap.size+1+1) x20 x21∧Bx W (w.heap.size+1+1+1) x30 x31∧w.heap.size+1+1+1<W.heap.size:=by
 have e0:Below w.heap.size w (w.alloc (.cells #[x00,x01] t0)):=(Below.refl _ _).alloc (Nat.le_refl _) _
 have h0:=bx_new w x00 x01 t0
 have e1:Below (w.alloc (.cells #[x00,x01] t0)).heap.size (w.alloc (.cells #[x00,x01] t0)) ((w.alloc (.cells #[x00,x01] t0)).alloc (.cells #[x10,x11] t1)):=(Below.refl _ _).alloc (Nat.le_refl _) _
 have h1:=bx_new (w.alloc (.cells #[x00,x01] t0)) x10 x11 t1
 rw [World.size_alloc]at h1
 have e2:Below ((w.alloc (.cells #[x00,x01] t0)).alloc (.cells #[x10,x11] t1)).heap.size ((w.alloc (.cells #[x00,x01] t0)).alloc (.cells #[x10,x11] t1)) (((w.alloc (.cells #[x00,x01] t0)).alloc (.cells #[x10,x11] t1)).alloc (.cells #[x20,x21] t2)):=(Below.refl _ _).alloc (Nat.le_refl _) _
 have h2:=bx_new ((w.alloc (.cells #[x00,x01] t0)).alloc (.cells #[x10,x11] t1)) x20 x21 t2
 rw [World.size_alloc,World.size_alloc]at h2
 have e3:Below (((w.alloc (.cells #[x00,x01] t0)).alloc (.cells #[x10,x11] t1)).alloc (.cells #[x20,x21] t2)).heap.size (((w.alloc (.cells #[x00,x01] t0)).alloc (.cells #[x10,x11] t1)).alloc (.cells #[x20,x21] t2)) ((((w.alloc (.cells #[x00,x01] t0)).alloc (.cells #[x10,x11] t1)).alloc (.cells #[x20,x21] t2)).alloc (.cells #[x30,x31] t3)):=(Below.refl _ _).alloc (Nat.le_refl _) _
 have h3:=bx_new (((w.alloc (.cells #[x00,x01] t0)).alloc (.cells #[x10,x11] t1)).alloc (.cells #[x20,x21] t2)) x30 x31 t3
 rw [World.size_alloc,World.size_alloc,World.size_alloc]at h3
 exact⟨_,rfl,also (also (also (e0) e1) e2) e3,(((h0.on e1).on e2).on e3),((h1.on e2).on e3),(h2.on e3),h3,by simp⟩
theorem lCoord(c:Int)(w:World){b:Bool}(hb:b=inC c):Calls Try.prog 26 #[.int .i64 c] w fun e w'=>e= .returned (.bool b)∧Below w.heap.size w w':=by
 subst hb
 unfold inC
 go_enter Try.func26,Try.ntmps26
 go_wp2
 all_goals (go_ret;exact⟨by simp;omega,Below.refl _ _⟩)
theorem lSide(c:Int)(w:World){b:Bool}(hb:b=sideC c):Calls Try.prog 17 #[.int .i64 c] w fun e w'=>e= .returned (.bool b)∧Below w.heap.size w w':=by
 subst hb
 unfold sideC
 go_enter Try.func17,Try.ntmps17
 go_wp2
 all_goals (go_ret;exact⟨by simp;omega,Below.refl _ _⟩)
theorem lReach(i s:Int)(w:World)(hs:sideC s=true){b:Bool}(hb:b=reachC i s):Calls Try.prog 45 #[.int .i64 i, .int .i64 s] w fun e w'=>e= .returned (.bool b)∧Below w.heap.size w w':=by
 subst hb
 obtain⟨s1,s2⟩:=sideC_true.1 hs
 have hq:(2199023255552:Int).tdiv s=2199023255552/s:=tdiv_big (by omega)
 have q1:(0:Int)≤2199023255552/s:=Int.ediv_nonneg (by decide) (by omega)
 have q2:(2199023255552:Int)/s≤2199023255552:=Int.ediv_le_self _ (by decide)
 have hs0: ¬s=0:=by omega
 clear hs
 unfold reachC
 generalize (2199023255552:Int)/s=m at hq q1 q2 ⊢
 have hw1:wrap64 m=m:=wrap_in (by omega) (by omega)
 have hw2:wrap64 (-m)= -m:=wrap_in (by omega) (by omega)
 go_enter Try.func45,Try.ntmps45
 go_wp2
 all_goals (go_ret;exact⟨by simp;omega,Below.refl _ _⟩)
theorem lSum(x y z t:Int)(w:World){u v:Int}(hu:u=wrap64 (x+z))(hv:v=wrap64 (y+t)):Calls Try.prog 13 #[.agg #[.int .i64 x, .int .i64 y], .agg #[.int .i64 z, .int .i64 t]] w fun e w'=>e= .returned (.agg #[.int .i64 u, .int .i64 v])∧Below w.heap.size w w':=by
 subst hu hv
 go_enter Try.func13,Try.ntmps13
 go_wp2
 exact bodyPost_ret (v:= .agg #[.int .i64 (wrap64 (x+z)), .int .i64 (wrap64 (y+t))]) (by simp [results,Try.results13,go_sem]) rfl ⟨rfl,(((Below.refl _ _).alloc (Nat.le_refl _) _).alloc (by simp) _).alloc (by simp;omega) _⟩
theorem lLess(x y z t:Int)(w:World){u v:Int}(hu:u=wrap64 (x- z))(hv:v=wrap64 (y- t)):Calls Try.prog 36 #[.agg #[.int .i64 x, .int .i64 y], .agg #[.int .i64 z, .int .i64 t]] w fun e w'=>e= .returned (.agg #[.int .i64 u, .int .i64 v])∧Below w.heap.size w w':=by
 subst hu hv
 go_enter Try.func36,Try.ntmps36
 go_wp2
 exact bodyPost_ret (v:= .agg #[.int .i64 (wrap64 (x- z)), .int .i64 (wrap64 (y- t))]) (by simp [results,Try.results36,go_sem]) rfl ⟨rfl,(((Below.refl _ _).alloc (Nat.le_refl _) _).alloc (by simp) _).alloc (by simp;omega) _⟩
theorem fold_bound{c s:Int}(hs:sideC s=true)(hc:inC c=true): -1099511627776≤c/s∧c/s≤1099511627776∧0≤c % s∧c % s<s∧s≤1099511627776:=by
 obtain⟨s1,s2⟩:=sideC_true.1 hs
 obtain⟨c1,c2⟩:=inC_true.1 hc
 refine⟨(Int.le_ediv_iff_mul_le (by omega)).2 (by omega),?_,Int.emod_nonneg _ (by omega),Int.emod_lt_of_pos _ (by omega),s2⟩
 have:c/s<1099511627777:=(Int.ediv_lt_iff_lt_mul (by omega)).2 (by omega)
 omega
theorem lFold(c s:Int)(w:World)(hs:sideC s=true)(hc:inC c=true){u v:Int}(hu:u=c % s)(hv:v=c/s):Calls Try.prog 18 #[.int .i64 c, .int .i64 s] w fun e w'=>e= .returned (.tuple #[.int .i64 u, .int .i64 v])∧Below w.heap.size w w':=by
 obtain⟨d1,d2,m1,m2,s2⟩:=fold_bound hs hc
 obtain⟨s1,_⟩:=sideC_true.1 hs
 have hs0: ¬s=0:=by omega
 rw [←hu]at m1 m2
 rw [←hv]at d1 d2
 by_cases h:c.tmod s<0
 ·obtain⟨e1,e2⟩:=fold_neg (by omega) h
  rw [←hu]at e1
  rw [←hv]at e2
  clear hu hv hs hc
  generalize hm:c.tmod s=m at h e1
  generalize hq:c.tdiv s=q at e2
  have hw1:wrap64 q=q:=wrap_in (by omega) (by omega)
  have hw2:wrap64 (m+s)=u:=by rw [wrap_in (by omega) (by omega)];exact e1
  have hw3:wrap64 (q- 1)=v:=by rw [wrap_in (by omega) (by omega)];exact e2
  clear e1 e2 m1 m2 d1 d2
  go_enter Try.func18,Try.ntmps18
  go_wp2
  go_region
  go_wp2
  exact bodyPost_ret (v:= .tuple #[.int .i64 u, .int .i64 v]) (by simp [results,Try.results18,go_sem, *]) rfl ⟨rfl,(Below.refl _ _).drew⟩
 ·obtain⟨e1,e2⟩:=fold_pos (by omega) h
  rw [←hu]at e1
  rw [←hv]at e2
  clear hu hv hs hc
  rw [e1]at h
  have hw1:wrap64 v=v:=wrap_in (by omega) (by omega)
  clear m1 m2 d1 d2
  go_enter Try.func18,Try.ntmps18
  go_wp2
  go_region
  go_wp2
  exact bodyPost_ret (v:= .tuple #[.int .i64 u, .int .i64 v]) (by simp [results,Try.results18,go_sem, *]) rfl ⟨rfl,(Below.refl _ _).drew⟩
set_option maxRecDepth 100000 in
theorem lCan(x y:Int)(w:World){b:Bool}(hb:b=canC x y):Calls Try.prog 16 #[.agg #[.int .i64 x, .int .i64 y]] w fun e w'=>e= .returned (.bool b)∧Below w.heap.size w w':=by
 subst hb
 unfold canC
 cases hx:inC x
 ·skip
  obtain⟨W,hW,bW,x_p,sW⟩:=bs_2 w (.int .i64 x) (.int .i64 y) 23
  have zbW:=bW.size
  have BB:=bW
  go_enter Try.func16,Try.ntmps16
  go_wp2_with (go_at_call 26;fail)
  rw [←hW]
  clear hW
  refine(lCoord x W hx.symm).mono ?_
  rintro e w1 ⟨rfl,bw1⟩
  have zbw1:=bw1.size
  replace BB:=also BB bw1
  replace x_p:=x_p.on bw1
  have⟨x_p_0,x_p_1,x_p_2,x_p_3⟩:=x_p
  go_wp2
  go_ret
  exact⟨by simp,BB⟩
 ·skip
  obtain⟨W,hW,bW,x_p,sW⟩:=bs_2 w (.int .i64 x) (.int .i64 y) 23
  have zbW:=bW.size
  have BB:=bW
  go_enter Try.func16,Try.ntmps16
  go_wp2_with (go_at_call 26;fail)
  rw [←hW]
  clear hW
  refine(lCoord x W hx.symm).mono ?_
  rintro e w1 ⟨rfl,bw1⟩
  have zbw1:=bw1.size
  replace BB:=also BB bw1
  replace x_p:=x_p.on bw1
  have⟨x_p_0,x_p_1,x_p_2,x_p_3⟩:=x_p
  go_wp2_with (go_at_call 26;fail)
  refine(lCoord y w1 rfl).mono ?_
  rintro e w2 ⟨rfl,bw2⟩
  clear x_p_0 x_p_1 x_p_2 x_p_3
  have zbw2:=bw2.size
  replace BB:=also BB bw2
  replace x_p:=x_p.on bw2
  go_wp2
  go_ret
  exact⟨by simp,BB⟩
end Go.Proofs.Ytaadknpjbogkbaa
namespace Go.Proofs.Ytaadknpjbogkbaa
variable {P : Program} {md : Region.Mode} {Q : Exit → Act → World → Prop} {S : World → Prop} {z : Nat}
def anyL(P:Program)(md:Region.Mode)(ops:Array Oper)(Q:Exit→Act→World→Prop)(S:World→Prop)(z:Nat):Nat→Array Bool→Act→World→Prop
 |0,L,a,w=>Region.ready md ops L= []∧Q .normal a w
 |f+1,L,a,w=>(Region.ready md ops L= []→Q .normal a w)∧ ∀ i∈Region.ready md ops L,wpOp P ops Q i (fun a' w'=>(i≠z→S w')∧anyL P md ops Q S z f (L.setIfInBounds i true) a' w') a w
theorem anyL_any{ops:Array Oper}: ∀ (f:Nat) (L:Array Bool) (a:Act) (w:World),anyL P md ops Q S z f L a w→wpAny P md ops Q f L a w
 |0,_,_,_,h=>h
 |f+1,_,_,_,h=>⟨h.1,fun i hi=>wpOp_mono (fun a' w' h'=>anyL_any f _ a' w' h'.2) (h.2 i hi)⟩
theorem anyL_first{ops:Array Oper}{i:Nat}{oi:Oper}{v:Value}(hi:ops[i]? =some oi)(hs:Region.noSelect ops=true)
  (hz: ∀ oz,ops[z]? =some oz→ ∃ e∈oz.after,Region.binds md e=true∧e.on=i) (hzi:i≠z) (hQ: ∀ c a w,Q (.panic c) (a.put oi.dst v) w→Q (.panic c) a w):
  ∀ (f:Nat) (L:Array Bool) (a:Act) (w:World),Region.free md ops L i=true→i∈Region.ready md ops L→YieldsIf P ops S oi v a→S w→
   anyL P md ops Q S z f (L.setIfInBounds i true) (a.put oi.dst v) w→anyL P md ops Q S z (f+1) L a w:=by
 suffices H: ∀ (f:Nat) (L:Array Bool) (a:Act) (w:World),
   (∀ j oj,ops[j]? =some oj→j≠i→L.getD j true=false→(∀ e∈oj.after,Region.binds md e=true→e.on≠i)→oi.apart ops oj=true)→
   i∈Region.ready md ops L→YieldsIf P ops S oi v a→S w→anyL P md ops Q S z f (L.setIfInBounds i true) (a.put oi.dst v) w→anyL P md ops Q S z (f+1) L a w from
  fun f L a w hf hr hy hS h=>H f L a w (Region.free_spec hi hf) hr hy hS h
 have sel:=Region.noSelect_spec hs
 intro f
 induction f with
 |zero=>
  intro L a w _ hr hy hS h
  refine⟨fun e=>absurd hr (by rw [e];exact List.not_mem_nil),fun j hj=>?_⟩
  rcases Decidable.em (j=i)with rfl|hne
  ·exact hy.wpOp hi hS ⟨fun _=>hS,h⟩
  ·exact absurd (ready_mono hj hne) (by rw [h.1];exact List.not_mem_nil)
 |succ f ih=>
  intro L a w hfree hr hy hS h
  refine⟨fun e=>absurd hr (by rw [e];exact List.not_mem_nil),fun j hj=>?_⟩
  rcases Decidable.em (j=i)with rfl|hne
  ·exact hy.wpOp hi hS ⟨fun _=>hS,h⟩
  obtain⟨hun,oj,hoj,hall⟩:=mem_ready.1 hj
  have hi0:=(mem_ready.1 hr).1
  have hno: ∀ e∈oj.after,Region.binds md e=true→e.on≠i:=by
   intro e he hb q
   have h1:=hall e he hb
   rw [q]at h1
   rcases Nat.lt_or_ge i L.size with g|g
   ·simp [g]at hi0 h1
    rw [hi0]at h1
    cases h1
   ·simp [Array.getElem?_eq_none g]at h1
  have hjz:j≠z:=by
   rintro rfl
   obtain⟨e,he,hb,q⟩:=hz oj hoj
   exact hno e he hb q
  have h2:=wpOp_putIf hoj (hfree j oj hoj hne hun hno) (fun cs b=>sel i oi cs b hi) (fun cs b=>sel j oj cs b hoj) hQ hy (h.2 j (ready_mono hj hne))
  refine wpOp_mono (fun a' w' h3=>⟨h3.2.1,ih _ a' w' (fun k ok hk hki hku hkn=>hfree k ok hk hki ?_ hkn) (ready_mono hr (Ne.symm hne)) h3.1 (h3.2.1 hjz) ?_⟩) h2
  ·rcases Decidable.em (j=k)with rfl|q
   ·exact hun
   ·rwa [getD_set_ne true q]at hku
  ·rw [Array.setIfInBounds_comm _ _ hne]
   exact h3.2.2
def waitsFor(md:Region.Mode)(ops:Array Oper)(z i:Nat):Bool:=((ops[z]?).map fun o=>o.after.any fun e=>Region.binds md e && e.on==i).getD true
theorem waits_spec{ops:Array Oper}{i:Nat}(h:waitsFor md ops z i=true): ∀ oz,ops[z]? =some oz→ ∃ e∈oz.after,Region.binds md e=true∧e.on=i:=by
 intro oz ho
 unfold waitsFor at h
 rw [ho]at h
 simp only [Option.map_some,Option.getD_some]at h
 obtain⟨k,hk,hp⟩:=Array.any_eq_true.1 h
 rw [Bool.and_eq_true_iff]at hp
 exact⟨_,Array.getElem_mem hk,hp.1,by simpa using hp.2⟩
theorem takeL_yes{l:List Oper}{i:Nat}{oi:Oper}{v:Value}{f:Nat}{L:Array Bool}{a:Act}{w:World}(hi:l[i]? =some oi)
  (hs:Region.noSelect l.toArray=true) (hf:Region.free md l.toArray L i=true) (hr:(Region.ready md l.toArray L).contains i=true) (hz:waitsFor md l.toArray z i=true) (hzi:i≠z)
  (hQ: ∀ c a w,Q (.panic c) (a.put oi.dst v) w→Q (.panic c) a w) (hw:Region.wanted oi (yielded l.toArray a.tmps)=true) (hS:S w)
  (hy: ∀ w,S w→(execOp a.eval oi).run P w= .ok (.value v) w)
  (h:anyL P md l.toArray Q S z f (L.setIfInBounds i true) (a.put oi.dst v) w):anyL P md l.toArray Q S z (f+1) L a w:=
 anyL_first (by simpa using hi) hs (waits_spec hz) hzi hQ f L a w hf (by simpa using hr) (Or.inl ⟨hw,hy⟩) hS h
theorem tyL{l:List Oper}{i:Nat}{oi:Oper}{v:Value}{f:Nat}{L:Array Bool}{a:Act}{w:World}(hi:l[i]? =some oi)
  (hy: ∀ w,S w→(execOp a.eval oi).run P w= .ok (.value v) w) (h:anyL P md l.toArray Q S z f (L.setIfInBounds i true) (a.put oi.dst v) w)
  (hs:Region.noSelect l.toArray=true:=by kernel_rfl) (hf:Region.free md l.toArray L i=true:=by kernel_rfl) (hr:(Region.ready md l.toArray L).contains i=true:=by kernel_rfl) (hz:waitsFor md l.toArray z i=true:=by kernel_rfl) (hzi:i≠z:=by decide)
  (hQ: ∀ c a w,Q (.panic c) (a.put oi.dst v) w→Q (.panic c) a w:=by exact fun _ _ _ h=>h) (hw:Region.wanted oi (yielded l.toArray a.tmps)=true:=by rfl) (hS:S w:=by assumption):anyL P md l.toArray Q S z (f+1) L a w:=
 takeL_yes hi hs hf hr hz hzi hQ hw hS hy h
theorem takeL_call{l:List Oper}{i:Nat}{o:Oper}{f:Nat}{L:Array Bool}{a:Act}{w:World}(ho:l[i]? =some o)(hr:Region.ready md l.toArray L= [i])
  (h: ∀ K':Act→World→Prop,Shut (∀ a w,S w→(S w→anyL P md l.toArray Q S z f (L.setIfInBounds i true) a w)→K' a w)→if Region.wanted o (yielded l.toArray a.tmps)=true then Oper.wp P o a w K' Q else K' (a.put o.dst undef) w):
  anyL P md l.toArray Q S z (f+1) L a w:=by
 refine⟨fun e=>(by rw [hr]at e;cases e),fun j hj=>?_⟩
 rw [hr,List.mem_singleton]at hj
 subst hj
 exact wpOp_step (by simpa using ho) (fun K' hK=>h K' (fun a w hS hW=>hK a w ⟨fun _=>hS,hW hS⟩))
theorem takeL_last{l:List Oper}{o:Oper}{f:Nat}{L:Array Bool}{a:Act}{w:World}(ho:l[z]? =some o)(hr:Region.ready md l.toArray L= [z])
  (h: ∀ K':Act→World→Prop,Shut (∀ a w,anyL P md l.toArray Q S z f (L.setIfInBounds z true) a w→K' a w)→if Region.wanted o (yielded l.toArray a.tmps)=true then Oper.wp P o a w K' Q else K' (a.put o.dst undef) w):
  anyL P md l.toArray Q S z (f+1) L a w:=by
 refine⟨fun e=>(by rw [hr]at e;cases e),fun j hj=>?_⟩
 rw [hr,List.mem_singleton]at hj
 subst hj
 exact wpOp_step (by simpa using ho) (fun K' hK=>h K' (fun a w hW=>hK a w ⟨fun q=>absurd rfl q,hW⟩))
theorem anyL_done{l:List Oper}{L:Array Bool}{a:Act}{w:World}(hr:Region.ready md l.toArray L= [])(h:Q .normal a w): ∀ f,anyL P md l.toArray Q S z f L a w
 |0=>⟨hr,h⟩
 |_+1=>⟨fun _=>h,by rw [hr];exact fun _ h=>absurd h List.not_mem_nil⟩
theorem regionL{l:List Oper}(z:Nat){id:Nat}{a:Act}{w:World}(hm:P.follows .mixedOrders=true)(hS:S w.drew)
  (h:S w.drew→anyL P .any l.toArray Q S z l.toArray.size (Array.replicate l.toArray.size false) a w.drew):(Code.region id l.toArray true).wp P Q a w:=
 wp_region_any hm (anyL_any _ _ _ _ (h hS))
end Go.Proofs.Ytaadknpjbogkbaa
namespace Go.Proofs.Ytaadknpjbogkbaa
open Go.RowKit
set_option linter.unusedVariables false
theorem at_no_can{x y i k s:Int}(h:canC x y=false):atC x y i k s=false:=by unfold atC;rw [h];simp
theorem at_no_side{x y i k s:Int}(h:sideC s=false):atC x y i k s=false:=by unfold atC;rw [h];rfl
theorem at_no_right{x y i k s:Int}(hs:sideC s=true)(hr:reachC i s=false):atC x y i k s=false:=by
 cases h:atC x y i k s
 ·rfl
 ·obtain⟨_,q1,q2,_⟩:=atC_true.1 h
  have:=reach_in hs (canC_true.1 q1).1 q2
  rw [hr]at this;cases this
theorem at_no_up{x y i k s:Int}(hs:sideC s=true)(hr:reachC k s=false):atC x y i k s=false:=by
 cases h:atC x y i k s
 ·rfl
 ·obtain⟨_,q1,_,q2⟩:=atC_true.1 h
  have:=reach_in hs (canC_true.1 q1).2 q2
  rw [hr]at this;cases this
theorem at_no_there{x y i k s:Int}(h:canC (x+i*s) (y+k*s)=false):atC x y i k s=false:=by unfold atC;unfold canC at h ⊢;rw [h];simp
theorem at_yes{x y i k s:Int}(h1:canC x y=true)(h2:sideC s=true)(h:canC (x+i*s) (y+k*s)=true):atC x y i k s=true:=by unfold atC;unfold canC at h h1 ⊢;rw [h,h1,h2];rfl
theorem home_no_can{x y s:Int}(h:canC x y=false):homeC x y s=false:=by unfold homeC;rw [h];simp
theorem home_no_side{x y s:Int}(h:sideC s=false):homeC x y s=false:=by unfold homeC;rw [h];rfl
set_option maxRecDepth 100000 in
set_option maxHeartbeats 4000000 in
theorem lAt(x y i k s:Int)(w:World){u v:Int}{b:Bool}(hb:b=atC x y i k s)(hu:u=if b then x+i*s else 0)(hv:v=if b then y+k*s else 0):
  Calls Try.prog 33 #[.agg #[.int .i64 x, .int .i64 y], .agg #[.int .i64 i, .int .i64 k], .int .i64 s] w fun e w'=>e= .returned (.tuple #[.agg #[.int .i64 u, .int .i64 v], .bool b])∧Below w.heap.size w w':=by
 cases hc:canC x y
 ·skip
  have h0:=@at_no_can x y i k s hc
  obtain rfl:b=false:=by rw [hb,h0]
  obtain rfl:u=0:=hu
  obtain rfl:v=0:=hv
  clear hb h0
  obtain⟨W,hW,bW,x_p,x_o,x_z,sW⟩:=bs_222 w (.int .i64 x) (.int .i64 y) (.int .i64 i) (.int .i64 k) (.int .i64 0) (.int .i64 0) 23 27 23
  have zbW:=bW.size
  have BB:=bW
  go_enter Try.func33,Try.ntmps33
  go_wp2_with (go_at_call 16;fail)
  rw [←hW]
  clear hW
  refine(lCan x y W hc.symm).mono ?_
  rintro e w1 ⟨rfl,bw1⟩
  have zbw1:=bw1.size
  replace BB:=also BB bw1
  replace x_p:=x_p.on bw1
  replace x_o:=x_o.on bw1
  replace x_z:=x_z.on bw1
  have⟨x_p_0,x_p_1,x_p_2,x_p_3⟩:=x_p
  have⟨x_o_0,x_o_1,x_o_2,x_o_3⟩:=x_o
  have⟨x_z_0,x_z_1,x_z_2,x_z_3⟩:=x_z
  go_wp2
  exact bodyPost_ret (v:= .tuple #[.agg #[.int .i64 0, .int .i64 0], .bool false]) (by simp [results,Try.results33,go_sem, *]) rfl (⟨rfl,below_put2 BB (by omega) _ _⟩)
 ·skip
  cases hs:sideC s
  ·skip
   have h0:=@at_no_side x y i k s hs
   obtain rfl:b=false:=by rw [hb,h0]
   obtain rfl:u=0:=hu
   obtain rfl:v=0:=hv
   clear hb h0
   obtain⟨W,hW,bW,x_p,x_o,x_z,sW⟩:=bs_222 w (.int .i64 x) (.int .i64 y) (.int .i64 i) (.int .i64 k) (.int .i64 0) (.int .i64 0) 23 27 23
   have zbW:=bW.size
   have BB:=bW
   go_enter Try.func33,Try.ntmps33
   go_wp2_with (go_at_call 16;fail)
   rw [←hW]
   clear hW
   refine(lCan x y W hc.symm).mono ?_
   rintro e w1 ⟨rfl,bw1⟩
   have zbw1:=bw1.size
   replace BB:=also BB bw1
   replace x_p:=x_p.on bw1
   replace x_o:=x_o.on bw1
   replace x_z:=x_z.on bw1
   have⟨x_p_0,x_p_1,x_p_2,x_p_3⟩:=x_p
   have⟨x_o_0,x_o_1,x_o_2,x_o_3⟩:=x_o
   have⟨x_z_0,x_z_1,x_z_2,x_z_3⟩:=x_z
   go_wp2_with (go_at_call 17;fail)
   refine(lSide s w1 hs.symm).mono ?_
   rintro e w2 ⟨rfl,bw2⟩
   clear x_p_0 x_p_1 x_p_2 x_p_3 x_o_0 x_o_1 x_o_2 x_o_3 x_z_0 x_z_1 x_z_2 x_z_3
   have zbw2:=bw2.size
   replace BB:=also BB bw2
   replace x_p:=x_p.on bw2
   replace x_o:=x_o.on bw2
   replace x_z:=x_z.on bw2
   have⟨x_p_0,x_p_1,x_p_2,x_p_3⟩:=x_p
   have⟨x_o_0,x_o_1,x_o_2,x_o_3⟩:=x_o
   have⟨x_z_0,x_z_1,x_z_2,x_z_3⟩:=x_z
   go_wp2
   exact bodyPost_ret (v:= .tuple #[.agg #[.int .i64 0, .int .i64 0], .bool false]) (by simp [results,Try.results33,go_sem, *]) rfl (⟨rfl,below_put2 BB (by omega) _ _⟩)
  ·skip
   cases hr:reachC i s
   ·skip
    have h0:=@at_no_right x y i k s hs hr
    obtain rfl:b=false:=by rw [hb,h0]
    obtain rfl:u=0:=hu
    obtain rfl:v=0:=hv
    clear hb h0
    obtain⟨W,hW,bW,x_p,x_o,x_z,sW⟩:=bs_222 w (.int .i64 x) (.int .i64 y) (.int .i64 i) (.int .i64 k) (.int .i64 0) (.int .i64 0) 23 27 23
    have zbW:=bW.size
    have BB:=bW
    go_enter Try.func33,Try.ntmps33
    go_wp2_with (go_at_call 16;fail)
    rw [←hW]
    clear hW
    refine(lCan x y W hc.symm).mono ?_
    rintro e w1 ⟨rfl,bw1⟩
    have zbw1:=bw1.size
    replace BB:=also BB bw1
    replace x_p:=x_p.on bw1
    replace x_o:=x_o.on bw1
    replace x_z:=x_z.on bw1
    have⟨x_p_0,x_p_1,x_p_2,x_p_3⟩:=x_p
    have⟨x_o_0,x_o_1,x_o_2,x_o_3⟩:=x_o
    have⟨x_z_0,x_z_1,x_z_2,x_z_3⟩:=x_z
    go_wp2_with (go_at_call 17;fail)
    refine(lSide s w1 hs.symm).mono ?_
    rintro e w2 ⟨rfl,bw2⟩
    clear x_p_0 x_p_1 x_p_2 x_p_3 x_o_0 x_o_1 x_o_2 x_o_3 x_z_0 x_z_1 x_z_2 x_z_3
    have zbw2:=bw2.size
    replace BB:=also BB bw2
    replace x_p:=x_p.on bw2
    replace x_o:=x_o.on bw2
    replace x_z:=x_z.on bw2
    have⟨x_p_0,x_p_1,x_p_2,x_p_3⟩:=x_p
    have⟨x_o_0,x_o_1,x_o_2,x_o_3⟩:=x_o
    have⟨x_z_0,x_z_1,x_z_2,x_z_3⟩:=x_z
    go_wp2_with (go_at_call 45;fail)
    refine(lReach i s w2 hs hr.symm).mono ?_
    rintro e w3 ⟨rfl,bw3⟩
    clear x_p_0 x_p_1 x_p_2 x_p_3 x_o_0 x_o_1 x_o_2 x_o_3 x_z_0 x_z_1 x_z_2 x_z_3
    have zbw3:=bw3.size
    replace BB:=also BB bw3
    replace x_p:=x_p.on bw3
    replace x_o:=x_o.on bw3
    replace x_z:=x_z.on bw3
    have⟨x_p_0,x_p_1,x_p_2,x_p_3⟩:=x_p
    have⟨x_o_0,x_o_1,x_o_2,x_o_3⟩:=x_o
    have⟨x_z_0,x_z_1,x_z_2,x_z_3⟩:=x_z
    go_wp2
    exact bodyPost_ret (v:= .tuple #[.agg #[.int .i64 0, .int .i64 0], .bool false]) (by simp [results,Try.results33,go_sem, *]) rfl (⟨rfl,below_put2 BB (by omega) _ _⟩)
   ·skip
    cases ht:reachC k s
    ·skip
     have h0:=@at_no_up x y i k s hs ht
     obtain rfl:b=false:=by rw [hb,h0]
     obtain rfl:u=0:=hu
     obtain rfl:v=0:=hv
     clear hb h0
     obtain⟨W,hW,bW,x_p,x_o,x_z,sW⟩:=bs_222 w (.int .i64 x) (.int .i64 y) (.int .i64 i) (.int .i64 k) (.int .i64 0) (.int .i64 0) 23 27 23
     have zbW:=bW.size
     have BB:=bW
     go_enter Try.func33,Try.ntmps33
     go_wp2_with (go_at_call 16;fail)
     rw [←hW]
     clear hW
     refine(lCan x y W hc.symm).mono ?_
     rintro e w1 ⟨rfl,bw1⟩
     have zbw1:=bw1.size
     replace BB:=also BB bw1
     replace x_p:=x_p.on bw1
     replace x_o:=x_o.on bw1
     replace x_z:=x_z.on bw1
     have⟨x_p_0,x_p_1,x_p_2,x_p_3⟩:=x_p
     have⟨x_o_0,x_o_1,x_o_2,x_o_3⟩:=x_o
     have⟨x_z_0,x_z_1,x_z_2,x_z_3⟩:=x_z
     go_wp2_with (go_at_call 17;fail)
     refine(lSide s w1 hs.symm).mono ?_
     rintro e w2 ⟨rfl,bw2⟩
     clear x_p_0 x_p_1 x_p_2 x_p_3 x_o_0 x_o_1 x_o_2 x_o_3 x_z_0 x_z_1 x_z_2 x_z_3
     have zbw2:=bw2.size
     replace BB:=also BB bw2
     replace x_p:=x_p.on bw2
     replace x_o:=x_o.on bw2
     replace x_z:=x_z.on bw2
     have⟨x_p_0,x_p_1,x_p_2,x_p_3⟩:=x_p
     have⟨x_o_0,x_o_1,x_o_2,x_o_3⟩:=x_o
     have⟨x_z_0,x_z_1,x_z_2,x_z_3⟩:=x_z
     go_wp2_with (go_at_call 45;fail)
     refine(lReach i s w2 hs hr.symm).mono ?_
     rintro e w3 ⟨rfl,bw3⟩
     clear x_p_0 x_p_1 x_p_2 x_p_3 x_o_0 x_o_1 x_o_2 x_o_3 x_z_0 x_z_1 x_z_2 x_z_3
     have zbw3:=bw3.size
     replace BB:=also BB bw3
     replace x_p:=x_p.on bw3
     replace x_o:=x_o.on bw3
     replace x_z:=x_z.on bw3
     have⟨x_p_0,x_p_1,x_p_2,x_p_3⟩:=x_p
     have⟨x_o_0,x_o_1,x_o_2,x_o_3⟩:=x_o
     have⟨x_z_0,x_z_1,x_z_2,x_z_3⟩:=x_z
     go_wp2_with (go_at_call 45;fail)
     refine(lReach k s w3 hs ht.symm).mono ?_
     rintro e w4 ⟨rfl,bw4⟩
     clear x_p_0 x_p_1 x_p_2 x_p_3 x_o_0 x_o_1 x_o_2 x_o_3 x_z_0 x_z_1 x_z_2 x_z_3
     have zbw4:=bw4.size
     replace BB:=also BB bw4
     replace x_p:=x_p.on bw4
     replace x_o:=x_o.on bw4
     replace x_z:=x_z.on bw4
     have⟨x_p_0,x_p_1,x_p_2,x_p_3⟩:=x_p
     have⟨x_o_0,x_o_1,x_o_2,x_o_3⟩:=x_o
     have⟨x_z_0,x_z_1,x_z_2,x_z_3⟩:=x_z
     go_wp2
     exact bodyPost_ret (v:= .tuple #[.agg #[.int .i64 0, .int .i64 0], .bool false]) (by simp [results,Try.results33,go_sem, *]) rfl (⟨rfl,below_put2 BB (by omega) _ _⟩)
    ·skip
     cases hq:canC (x+i*s) (y+k*s)
     ·skip
      have h0:=@at_no_there x y i k s hq
      obtain rfl:b=false:=by rw [hb,h0]
      obtain rfl:u=0:=hu
      obtain rfl:v=0:=hv
      clear hb h0
      obtain⟨p1,p2⟩:=reach_prod hs hr
      obtain⟨p3,p4⟩:=reach_prod hs ht
      obtain⟨c1,c2⟩:=inC_true.1 (canC_true.1 hc).1
      obtain⟨c3,c4⟩:=inC_true.1 (canC_true.1 hc).2
      obtain⟨u,hu⟩: ∃ u,u=x+i*s:=⟨_,rfl⟩
      obtain⟨v,hv⟩: ∃ v,v=y+k*s:=⟨_,rfl⟩
      rw [←hu,←hv]at hq
      obtain⟨P,hP⟩: ∃ P,P=i*s:=⟨_,rfl⟩
      obtain⟨R,hR⟩: ∃ R,R=k*s:=⟨_,rfl⟩
      rw [←hP]at p1 p2 hu
      rw [←hR]at p3 p4 hv
      have hw1:wrap64 (i*s)=P:=by rw [←hP];exact wrap_in (by omega) (by omega)
      have hw2:wrap64 (k*s)=R:=by rw [←hR];exact wrap_in (by omega) (by omega)
      have hw3:wrap64 (x+P)=u:=by rw [hu];exact wrap_in (by omega) (by omega)
      have hw4:wrap64 (y+R)=v:=by rw [hv];exact wrap_in (by omega) (by omega)
      clear hP hR hu hv p1 p2 p3 p4 c1 c2 c3 c4
      obtain⟨W,hW,bW,x_p,x_o,x_z,sW⟩:=bs_222 w (.int .i64 x) (.int .i64 y) (.int .i64 i) (.int .i64 k) (.int .i64 0) (.int .i64 0) 23 27 23
      have zbW:=bW.size
      have BB:=bW
      go_enter Try.func33,Try.ntmps33
      go_wp2_with (go_at_call 16;fail)
      rw [←hW]
      clear hW
      refine(lCan x y W hc.symm).mono ?_
      rintro e w1 ⟨rfl,bw1⟩
      have zbw1:=bw1.size
      replace BB:=also BB bw1
      replace x_p:=x_p.on bw1
      replace x_o:=x_o.on bw1
      replace x_z:=x_z.on bw1
      have⟨x_p_0,x_p_1,x_p_2,x_p_3⟩:=x_p
      have⟨x_o_0,x_o_1,x_o_2,x_o_3⟩:=x_o
      have⟨x_z_0,x_z_1,x_z_2,x_z_3⟩:=x_z
      go_wp2_with (go_at_call 17;fail)
      refine(lSide s w1 hs.symm).mono ?_
      rintro e w2 ⟨rfl,bw2⟩
      clear x_p_0 x_p_1 x_p_2 x_p_3 x_o_0 x_o_1 x_o_2 x_o_3 x_z_0 x_z_1 x_z_2 x_z_3
      have zbw2:=bw2.size
      replace BB:=also BB bw2
      replace x_p:=x_p.on bw2
      replace x_o:=x_o.on bw2
      replace x_z:=x_z.on bw2
      have⟨x_p_0,x_p_1,x_p_2,x_p_3⟩:=x_p
      have⟨x_o_0,x_o_1,x_o_2,x_o_3⟩:=x_o
      have⟨x_z_0,x_z_1,x_z_2,x_z_3⟩:=x_z
      go_wp2_with (go_at_call 45;fail)
      refine(lReach i s w2 hs hr.symm).mono ?_
      rintro e w3 ⟨rfl,bw3⟩
      clear x_p_0 x_p_1 x_p_2 x_p_3 x_o_0 x_o_1 x_o_2 x_o_3 x_z_0 x_z_1 x_z_2 x_z_3
      have zbw3:=bw3.size
      replace BB:=also BB bw3
      replace x_p:=x_p.on bw3
      replace x_o:=x_o.on bw3
      replace x_z:=x_z.on bw3
      have⟨x_p_0,x_p_1,x_p_2,x_p_3⟩:=x_p
      have⟨x_o_0,x_o_1,x_o_2,x_o_3⟩:=x_o
      have⟨x_z_0,x_z_1,x_z_2,x_z_3⟩:=x_z
      go_wp2_with (go_at_call 45;fail)
      refine(lReach k s w3 hs ht.symm).mono ?_
      rintro e w4 ⟨rfl,bw4⟩
      clear x_p_0 x_p_1 x_p_2 x_p_3 x_o_0 x_o_1 x_o_2 x_o_3 x_z_0 x_z_1 x_z_2 x_z_3
      have zbw4:=bw4.size
      replace BB:=also BB bw4
      replace x_p:=x_p.on bw4
      replace x_o:=x_o.on bw4
      replace x_z:=x_z.on bw4
      have⟨x_p_0,x_p_1,x_p_2,x_p_3⟩:=x_p
      have⟨x_o_0,x_o_1,x_o_2,x_o_3⟩:=x_o
      have⟨x_z_0,x_z_1,x_z_2,x_z_3⟩:=x_z
      obtain⟨V,hV,bV,x_q,sV⟩:=bs_2 w4 (.int .i64 u) (.int .i64 v) 23
      have zbV:=bV.size
      replace BB:=also BB bV
      replace x_p:=x_p.on bV
      replace x_o:=x_o.on bV
      replace x_z:=x_z.on bV
      go_wp2_with (go_at_call 16;fail)
      rw [←hV]
      clear hV
      refine(lCan u v V hq.symm).mono ?_
      rintro e w5 ⟨rfl,bw5⟩
      clear x_p_0 x_p_1 x_p_2 x_p_3 x_o_0 x_o_1 x_o_2 x_o_3 x_z_0 x_z_1 x_z_2 x_z_3
      have zbw5:=bw5.size
      replace BB:=also BB bw5
      replace x_p:=x_p.on bw5
      replace x_o:=x_o.on bw5
      replace x_z:=x_z.on bw5
      replace x_q:=x_q.on bw5
      have⟨x_z_0,x_z_1,x_z_2,x_z_3⟩:=x_z
      have⟨x_q_0,x_q_1,x_q_2,x_q_3⟩:=x_q
      go_wp2
      exact bodyPost_ret (v:= .tuple #[.agg #[.int .i64 0, .int .i64 0], .bool false]) (by simp [results,Try.results33,go_sem, *]) rfl (⟨rfl,below_put2 BB (by omega) _ _⟩)
     ·skip
      have h0:=@at_yes x y i k s hc hs hq
      obtain rfl:b=true:=by rw [hb,h0]
      replace hu:u=x+i*s:=hu
      replace hv:v=y+k*s:=hv
      clear hb h0
      obtain⟨p1,p2⟩:=reach_prod hs hr
      obtain⟨p3,p4⟩:=reach_prod hs ht
      obtain⟨c1,c2⟩:=inC_true.1 (canC_true.1 hc).1
      obtain⟨c3,c4⟩:=inC_true.1 (canC_true.1 hc).2
      rw [←hu,←hv]at hq
      obtain⟨P,hP⟩: ∃ P,P=i*s:=⟨_,rfl⟩
      obtain⟨R,hR⟩: ∃ R,R=k*s:=⟨_,rfl⟩
      rw [←hP]at p1 p2 hu
      rw [←hR]at p3 p4 hv
      have hw1:wrap64 (i*s)=P:=by rw [←hP];exact wrap_in (by omega) (by omega)
      have hw2:wrap64 (k*s)=R:=by rw [←hR];exact wrap_in (by omega) (by omega)
      have hw3:wrap64 (x+P)=u:=by rw [hu];exact wrap_in (by omega) (by omega)
      have hw4:wrap64 (y+R)=v:=by rw [hv];exact wrap_in (by omega) (by omega)
      clear hP hR hu hv p1 p2 p3 p4 c1 c2 c3 c4
      obtain⟨W,hW,bW,x_p,x_o,x_z,sW⟩:=bs_222 w (.int .i64 x) (.int .i64 y) (.int .i64 i) (.int .i64 k) (.int .i64 0) (.int .i64 0) 23 27 23
      have zbW:=bW.size
      have BB:=bW
      go_enter Try.func33,Try.ntmps33
      go_wp2_with (go_at_call 16;fail)
      rw [←hW]
      clear hW
      refine(lCan x y W hc.symm).mono ?_
      rintro e w1 ⟨rfl,bw1⟩
      have zbw1:=bw1.size
      replace BB:=also BB bw1
      replace x_p:=x_p.on bw1
      replace x_o:=x_o.on bw1
      replace x_z:=x_z.on bw1
      have⟨x_p_0,x_p_1,x_p_2,x_p_3⟩:=x_p
      have⟨x_o_0,x_o_1,x_o_2,x_o_3⟩:=x_o
      have⟨x_z_0,x_z_1,x_z_2,x_z_3⟩:=x_z
      go_wp2_with (go_at_call 17;fail)
      refine(lSide s w1 hs.symm).mono ?_
      rintro e w2 ⟨rfl,bw2⟩
      clear x_p_0 x_p_1 x_p_2 x_p_3 x_o_0 x_o_1 x_o_2 x_o_3 x_z_0 x_z_1 x_z_2 x_z_3
      have zbw2:=bw2.size
      replace BB:=also BB bw2
      replace x_p:=x_p.on bw2
      replace x_o:=x_o.on bw2
      replace x_z:=x_z.on bw2
      have⟨x_p_0,x_p_1,x_p_2,x_p_3⟩:=x_p
      have⟨x_o_0,x_o_1,x_o_2,x_o_3⟩:=x_o
      have⟨x_z_0,x_z_1,x_z_2,x_z_3⟩:=x_z
      go_wp2_with (go_at_call 45;fail)
      refine(lReach i s w2 hs hr.symm).mono ?_
      rintro e w3 ⟨rfl,bw3⟩
      clear x_p_0 x_p_1 x_p_2 x_p_3 x_o_0 x_o_1 x_o_2 x_o_3 x_z_0 x_z_1 x_z_2 x_z_3
      have zbw3:=bw3.size
      replace BB:=also BB bw3
      replace x_p:=x_p.on bw3
      replace x_o:=x_o.on bw3
      replace x_z:=x_z.on bw3
      have⟨x_p_0,x_p_1,x_p_2,x_p_3⟩:=x_p
      have⟨x_o_0,x_o_1,x_o_2,x_o_3⟩:=x_o
      have⟨x_z_0,x_z_1,x_z_2,x_z_3⟩:=x_z
      go_wp2_with (go_at_call 45;fail)
      refine(lReach k s w3 hs ht.symm).mono ?_
      rintro e w4 ⟨rfl,bw4⟩
      clear x_p_0 x_p_1 x_p_2 x_p_3 x_o_0 x_o_1 x_o_2 x_o_3 x_z_0 x_z_1 x_z_2 x_z_3
      have zbw4:=bw4.size
      replace BB:=also BB bw4
      replace x_p:=x_p.on bw4
      replace x_o:=x_o.on bw4
      replace x_z:=x_z.on bw4
      have⟨x_p_0,x_p_1,x_p_2,x_p_3⟩:=x_p
      have⟨x_o_0,x_o_1,x_o_2,x_o_3⟩:=x_o
      have⟨x_z_0,x_z_1,x_z_2,x_z_3⟩:=x_z
      obtain⟨V,hV,bV,x_q,sV⟩:=bs_2 w4 (.int .i64 u) (.int .i64 v) 23
      have zbV:=bV.size
      replace BB:=also BB bV
      replace x_p:=x_p.on bV
      replace x_o:=x_o.on bV
      replace x_z:=x_z.on bV
      go_wp2_with (go_at_call 16;fail)
      rw [←hV]
      clear hV
      refine(lCan u v V hq.symm).mono ?_
      rintro e w5 ⟨rfl,bw5⟩
      clear x_p_0 x_p_1 x_p_2 x_p_3 x_o_0 x_o_1 x_o_2 x_o_3 x_z_0 x_z_1 x_z_2 x_z_3
      have zbw5:=bw5.size
      replace BB:=also BB bw5
      replace x_p:=x_p.on bw5
      replace x_o:=x_o.on bw5
      replace x_z:=x_z.on bw5
      replace x_q:=x_q.on bw5
      have⟨x_z_0,x_z_1,x_z_2,x_z_3⟩:=x_z
      have⟨x_q_0,x_q_1,x_q_2,x_q_3⟩:=x_q
      go_wp2
      exact bodyPost_ret (v:= .tuple #[.agg #[.int .i64 u, .int .i64 v], .bool true]) (by simp [results,Try.results33,go_sem, *]) rfl (⟨rfl,below_put2 BB (by omega) _ _⟩)
set_option maxRecDepth 100000 in
set_option maxHeartbeats 4000000 in
theorem lHome(x y s:Int)(w:World){a c p q:Int}{b:Bool}(hb:b=homeC x y s)(ha:a=if b then x % s else 0)(hc':c=if b then y % s else 0)(hp:p=if b then x/s else 0)(hq:q=if b then y/s else 0):
  Calls Try.prog 8 #[.agg #[.int .i64 x, .int .i64 y], .int .i64 s] w fun e w'=>e= .returned (.tuple #[.agg #[.int .i64 a, .int .i64 c], .agg #[.int .i64 p, .int .i64 q], .bool b])∧Below w.heap.size w w':=by
 cases hc:canC x y
 ·skip
  have h0:=@home_no_can x y s hc
  obtain rfl:b=false:=by rw [hb,h0]
  obtain rfl:a=0:=ha
  obtain rfl:c=0:=hc'
  obtain rfl:p=0:=hp
  obtain rfl:q=0:=hq
  clear hb h0
  obtain⟨W,hW,bW,x_p,x_z,x_t,sW⟩:=bs_222 w (.int .i64 x) (.int .i64 y) (.int .i64 0) (.int .i64 0) (.int .i64 0) (.int .i64 0) 23 23 27
  have zbW:=bW.size
  have BB:=bW
  go_enter Try.func8,Try.ntmps8
  go_wp2_with (go_at_call 16;fail)
  rw [←hW]
  clear hW
  refine(lCan x y W hc.symm).mono ?_
  rintro e w1 ⟨rfl,bw1⟩
  have zbw1:=bw1.size
  replace BB:=also BB bw1
  replace x_p:=x_p.on bw1
  replace x_z:=x_z.on bw1
  replace x_t:=x_t.on bw1
  have⟨x_p_0,x_p_1,x_p_2,x_p_3⟩:=x_p
  have⟨x_z_0,x_z_1,x_z_2,x_z_3⟩:=x_z
  have⟨x_t_0,x_t_1,x_t_2,x_t_3⟩:=x_t
  go_wp2
  exact bodyPost_ret (v:= .tuple #[.agg #[.int .i64 0, .int .i64 0], .agg #[.int .i64 0, .int .i64 0], .bool false]) (by simp [results,Try.results8,go_sem, *]) rfl (⟨rfl,below_put2 (below_put2 BB (by omega) _ _) (by omega) _ _⟩)
 ·skip
  cases hs:sideC s
  ·skip
   have h0:=@home_no_side x y s hs
   obtain rfl:b=false:=by rw [hb,h0]
   obtain rfl:a=0:=ha
   obtain rfl:c=0:=hc'
   obtain rfl:p=0:=hp
   obtain rfl:q=0:=hq
   clear hb h0
   obtain⟨W,hW,bW,x_p,x_z,x_t,sW⟩:=bs_222 w (.int .i64 x) (.int .i64 y) (.int .i64 0) (.int .i64 0) (.int .i64 0) (.int .i64 0) 23 23 27
   have zbW:=bW.size
   have BB:=bW
   go_enter Try.func8,Try.ntmps8
   go_wp2_with (go_at_call 16;fail)
   rw [←hW]
   clear hW
   refine(lCan x y W hc.symm).mono ?_
   rintro e w1 ⟨rfl,bw1⟩
   have zbw1:=bw1.size
   replace BB:=also BB bw1
   replace x_p:=x_p.on bw1
   replace x_z:=x_z.on bw1
   replace x_t:=x_t.on bw1
   have⟨x_p_0,x_p_1,x_p_2,x_p_3⟩:=x_p
   have⟨x_z_0,x_z_1,x_z_2,x_z_3⟩:=x_z
   have⟨x_t_0,x_t_1,x_t_2,x_t_3⟩:=x_t
   go_wp2_with (go_at_call 17;fail)
   refine(lSide s w1 hs.symm).mono ?_
   rintro e w2 ⟨rfl,bw2⟩
   clear x_p_0 x_p_1 x_p_2 x_p_3 x_z_0 x_z_1 x_z_2 x_z_3 x_t_0 x_t_1 x_t_2 x_t_3
   have zbw2:=bw2.size
   replace BB:=also BB bw2
   replace x_p:=x_p.on bw2
   replace x_z:=x_z.on bw2
   replace x_t:=x_t.on bw2
   have⟨x_p_0,x_p_1,x_p_2,x_p_3⟩:=x_p
   have⟨x_z_0,x_z_1,x_z_2,x_z_3⟩:=x_z
   have⟨x_t_0,x_t_1,x_t_2,x_t_3⟩:=x_t
   go_wp2
   exact bodyPost_ret (v:= .tuple #[.agg #[.int .i64 0, .int .i64 0], .agg #[.int .i64 0, .int .i64 0], .bool false]) (by simp [results,Try.results8,go_sem, *]) rfl (⟨rfl,below_put2 (below_put2 BB (by omega) _ _) (by omega) _ _⟩)
  ·skip
   obtain rfl:b=true:=by rw [hb];unfold homeC;rw [hs,hc];rfl
   have Ha:Hid (a=x % s):=ha
   have Hc:Hid (c=y % s):=hc'
   have Hp:Hid (p=x/s):=hp
   have Hq:Hid (q=y/s):=hq
   clear hb ha hc' hp hq
   have HC1:Hid (inC x=true):=(canC_true.1 hc).1
   have HC2:Hid (inC y=true):=(canC_true.1 hc).2
   obtain⟨W,hW,bW,x_p,x_z,x_t,sW⟩:=bs_222 w (.int .i64 x) (.int .i64 y) (.int .i64 0) (.int .i64 0) (.int .i64 0) (.int .i64 0) 23 23 27
   have zbW:=bW.size
   have BB:=bW
   go_enter Try.func8,Try.ntmps8
   go_wp2_with (go_at_call 16;fail)
   rw [←hW]
   clear hW
   refine(lCan x y W hc.symm).mono ?_
   rintro e w1 ⟨rfl,bw1⟩
   have zbw1:=bw1.size
   replace BB:=also BB bw1
   replace x_p:=x_p.on bw1
   replace x_z:=x_z.on bw1
   replace x_t:=x_t.on bw1
   have⟨x_p_0,x_p_1,x_p_2,x_p_3⟩:=x_p
   have⟨x_z_0,x_z_1,x_z_2,x_z_3⟩:=x_z
   have⟨x_t_0,x_t_1,x_t_2,x_t_3⟩:=x_t
   go_wp2_with (go_at_call 17;fail)
   refine(lSide s w1 hs.symm).mono ?_
   rintro e w2 ⟨rfl,bw2⟩
   clear x_p_0 x_p_1 x_p_2 x_p_3 x_z_0 x_z_1 x_z_2 x_z_3 x_t_0 x_t_1 x_t_2 x_t_3
   have zbw2:=bw2.size
   replace BB:=also BB bw2
   replace x_p:=x_p.on bw2
   replace x_z:=x_z.on bw2
   replace x_t:=x_t.on bw2
   have⟨x_p_0,x_p_1,x_p_2,x_p_3⟩:=x_p
   have⟨x_z_0,x_z_1,x_z_2,x_z_3⟩:=x_z
   have⟨x_t_0,x_t_1,x_t_2,x_t_3⟩:=x_t
   go_wp2_with (go_at_call 18;fail)
   refine(lFold x s w2 hs HC1.out Ha.out Hp.out).mono ?_
   rintro e w3 ⟨rfl,bw3⟩
   clear x_p_0 x_p_1 x_p_2 x_p_3 x_z_0 x_z_1 x_z_2 x_z_3 x_t_0 x_t_1 x_t_2 x_t_3
   have zbw3:=bw3.size
   replace BB:=also BB bw3
   replace x_p:=x_p.on bw3
   replace x_z:=x_z.on bw3
   replace x_t:=x_t.on bw3
   have⟨x_p_0,x_p_1,x_p_2,x_p_3⟩:=x_p
   have⟨x_z_0,x_z_1,x_z_2,x_z_3⟩:=x_z
   have⟨x_t_0,x_t_1,x_t_2,x_t_3⟩:=x_t
   go_wp2_with (go_at_call 18;fail)
   refine(lFold y s w3 hs HC2.out Hc.out Hq.out).mono ?_
   rintro e w4 ⟨rfl,bw4⟩
   clear x_p_0 x_p_1 x_p_2 x_p_3 x_z_0 x_z_1 x_z_2 x_z_3 x_t_0 x_t_1 x_t_2 x_t_3
   have zbw4:=bw4.size
   replace BB:=also BB bw4
   replace x_p:=x_p.on bw4
   replace x_z:=x_z.on bw4
   replace x_t:=x_t.on bw4
   have⟨x_p_0,x_p_1,x_p_2,x_p_3⟩:=x_p
   have⟨x_z_0,x_z_1,x_z_2,x_z_3⟩:=x_z
   have⟨x_t_0,x_t_1,x_t_2,x_t_3⟩:=x_t
   go_wp2
   exact bodyPost_ret (v:= .tuple #[.agg #[.int .i64 a, .int .i64 c], .agg #[.int .i64 p, .int .i64 q], .bool true]) (by simp [results,Try.results8,go_sem, *]) rfl (⟨rfl,below_put2 (below_put2 BB (by omega) _ _) (by omega) _ _⟩)
end Go.Proofs.Ytaadknpjbogkbaa
namespace Go.Proofs.Ytaadknpjbogkbaa.hf
open Go.RowKit
def dg(v:Int)(i:Nat):Int:=v/65536^i % 65536
def dcells(n:Nat)(v:Int):List Value:=(List.range n).map fun j=> .int .i64 (dg v j)
end Go.Proofs.Ytaadknpjbogkbaa.hf
namespace Go.Proofs.Ytaadknpjbogkbaa.hf
open Go.RowKit
set_option linter.unusedVariables false
def nlen(v:Nat):Nat:=if h:v=0 then 0 else nlen (v/65536)+1
 termination_by v
 decreasing_by exact Nat.div_lt_self (Nat.pos_of_ne_zero h) (by decide)
end Go.Proofs.Ytaadknpjbogkbaa.hf
namespace Go.Proofs.Ytaadknpjbogkbaa
open Go.RowKit
set_option linter.unusedVariables false
structure HD(w:World)(a:Option Addr)(l c u:Nat):Prop where
 sl:Sl w a l c (hf.dcells l (u:Int))
 len:l=hf.nlen u
abbrev In64(x:Int):Prop:= -9223372036854775808≤x∧x≤9223372036854775807
structure Tr64(t:Tr):Prop where
 v: ∀ i,In64 (t.v i)
 x: ∀ i,In64 (t.x i)
 y: ∀ i,In64 (t.y i)
end Go.Proofs.Ytaadknpjbogkbaa
