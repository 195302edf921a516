/-
  Joined texts of this law, part 1.
-/
import Derived.Test.YtjmhfdimoeaplaaGreatP9
import Derived.Deep.Slices
import Derived.ProofKit
import Derived.OpenShut
import Derived.ChangeSlices
import Derived.Lib.SmallJoins
import Derived.Test.YtjmhfdimoeaplaaGreatP20
import Derived.Test.YtjmhfdimoeaplaaGreatP16
namespace Go.Proofs.YtjmhfdimoeaplaaGreat
open Go.ChangeShapes Go.WideShapes Go.ChangeAt Go.RowKit
set_option linter.unusedVariables false
set_option linter.constructorNameAsVariable false
theorem laidOutA:laidOutB Tryz.prog=true:=by kernel_rfl
def IntsTo(cs:List Value)(s:Nat):Prop:= ∀ j,j<s→ ∃ x,cs[j]? =some (.int .i64 x)∧In64 x
section
variable {H : Type} {enc : TypeId × Value → H} {W : World} {bs : Nat} {sp : Nat → Bool} {hd : Bool} {fuel : Nat} {cs : List Value} {x : DataW H × List MemPlace}
theorem IntsTo.part{o s:Nat}(h:IntsTo ((cs.drop o).take s) s): ∀ j,o≤j→j<o+s→ ∃ x,cs[j]? =some (.int .i64 x)∧In64 x:=by
 intro j h1 h2
 obtain⟨y,hy,h64⟩:=h (j- o) (by omega)
 rw[List.getElem?_take,if_pos (by omega),List.getElem?_drop,show o+(j- o)=j by omega]at hy
 exact⟨y,hy,h64⟩
theorem to_int{t:TypeId}(ht:Tryz.prog.underlying t=some (.int .i64))(h:DataW.trod enc Tryz.prog W bs sp hd fuel t cs=some x):IntsTo cs 1:=by
 obtain⟨n,rfl,_,hw⟩:=DataW.trod_int ht h
 intro j hj
 obtain rfl:j=0:=by omega
 exact⟨n,rfl,bd_act hw⟩
theorem some_at{α:Type}{xs:List α}{n i:Nat}(hl:xs.length=n)(hi:i<n): ∃ y,xs[i]? =some y:=⟨xs[i],List.getElem?_eq_getElem (by omega)⟩
theorem to_pt{t:TypeId}{f0 f1:Field}(ht:Tryz.prog.underlying t=some (.struct #[f0,f1]))(o0:f0.offset=0)(o1:f1.offset=1)(c0:Tryz.prog.cellsOf f0.type=1)(c1:Tryz.prog.cellsOf f1.type=1)(t0:Tryz.prog.underlying f0.type=some (.int .i64))(t1:Tryz.prog.underlying f1.type=some (.int .i64))
  (h:DataW.trod enc Tryz.prog W bs sp hd fuel t cs=some x):IntsTo cs 2:=by
 obtain⟨xs,n,_,_,_,hl,hf⟩:=DataW.trod_struct ht h
 obtain⟨y0,e0⟩:=some_at (i:=0) hl (by simp)
 obtain⟨y1,e1⟩:=some_at (i:=1) hl (by simp)
 have h0:=(hf 0 f0 rfl).trans e0
 have h1:=(hf 1 f1 rfl).trans e1
 rw[c0,o0]at h0
 rw[c1,o1]at h1
 intro j hj
 rcases(by omega:j=0∨j=1)with rfl|rfl
 ·exact(to_int t0 h0).part 0 (by omega) (by omega)
 ·exact(to_int t1 h1).part 1 (by omega) (by omega)
theorem cells_i:Tryz.prog.cellsOf 3=1:=by kernel_rfl
theorem cells_i64:Tryz.prog.cellsOf 2=1:=by kernel_rfl
theorem cells_p:Tryz.prog.cellsOf 24=2:=by kernel_rfl
theorem cells_o:Tryz.prog.cellsOf 28=2:=by kernel_rfl
theorem cells_3i:Tryz.prog.cellsOf 51=3:=by kernel_rfl
theorem cells_3o:Tryz.prog.cellsOf 52=6:=by kernel_rfl
theorem cells_t:Tryz.prog.cellsOf 54=9:=by kernel_rfl
theorem cells_a:Tryz.prog.cellsOf 156=13:=by kernel_rfl
theorem to_3i(h:DataW.trod enc Tryz.prog W bs sp hd fuel 51 cs=some x):IntsTo cs 3:=by
 obtain⟨xs,m,_,_,_,hl,hi⟩:=DataW.trod_array Tryz.underlying51 h
 intro j hj
 obtain⟨y,e⟩:=some_at (i:=j) hl hj
 have h0:=(hi j hj).trans e
 rw[cells_i,Nat.mul_one]at h0
 exact(to_int Tryz.underlying3 h0).part j (by omega) (by omega)
theorem to_3o(h:DataW.trod enc Tryz.prog W bs sp hd fuel 52 cs=some x):IntsTo cs 6:=by
 obtain⟨xs,m,_,_,_,hl,hi⟩:=DataW.trod_array Tryz.underlying52 h
 intro j hj
 obtain⟨y,e⟩:=some_at (i:=j/2) hl (by omega)
 have h0:=(hi (j/2) (by omega)).trans e
 rw[cells_o]at h0
 exact(to_pt Tryz.underlying28 rfl rfl cells_i cells_i Tryz.underlying3 Tryz.underlying3 h0).part j (by omega) (by omega)
theorem to_tri(h:DataW.trod enc Tryz.prog W bs sp hd fuel 54 cs=some x):IntsTo cs 9:=by
 obtain⟨y0,y1,n,_,_,h0,h1⟩:=trod_struct2 Tryz.underlying54 h
 have h0':DataW.trod enc Tryz.prog W bs sp hd n 51 ((cs.drop 0).take (Tryz.prog.cellsOf 51))=some y0:=h0
 have h1':DataW.trod enc Tryz.prog W bs sp hd n 52 ((cs.drop 3).take (Tryz.prog.cellsOf 52))=some y1:=h1
 rw[cells_3i]at h0'
 rw[cells_3o]at h1'
 intro j hj
 by_cases e:j<3
 ·exact(to_3i h0').part j (by omega) (by omega)
 ·exact(to_3o h1').part j (by omega) (by omega)
theorem to_act(h:DataW.trod enc Tryz.prog W bs sp hd fuel 156 cs=some x):IntsTo cs 13∧cs.length=13:=by
 obtain⟨xs,n,_,_,hlen,hl,hf⟩:=DataW.trod_struct Tryz.underlying156 h
 rw[cells_a]at hlen
 obtain⟨y0,e0⟩:=some_at (i:=0) hl (by decide)
 obtain⟨y1,e1⟩:=some_at (i:=1) hl (by decide)
 obtain⟨y2,e2⟩:=some_at (i:=2) hl (by decide)
 obtain⟨y3,e3⟩:=some_at (i:=3) hl (by decide)
 have h0:DataW.trod enc Tryz.prog W bs sp hd n 3 ((cs.drop 0).take (Tryz.prog.cellsOf 3))=some y0:=(hf 0 _ rfl).trans e0
 have h1:DataW.trod enc Tryz.prog W bs sp hd n 3 ((cs.drop 1).take (Tryz.prog.cellsOf 3))=some y1:=(hf 1 _ rfl).trans e1
 have h2:DataW.trod enc Tryz.prog W bs sp hd n 24 ((cs.drop 2).take (Tryz.prog.cellsOf 24))=some y2:=(hf 2 _ rfl).trans e2
 have h3:DataW.trod enc Tryz.prog W bs sp hd n 54 ((cs.drop 4).take (Tryz.prog.cellsOf 54))=some y3:=(hf 3 _ rfl).trans e3
 rw[cells_i]at h0 h1
 rw[cells_p]at h2
 rw[cells_t]at h3
 refine⟨fun j hj=>?_,hlen⟩
 rcases(by omega:j=0∨j=1∨(2≤j∧j<4)∨(4≤j∧j<13))with rfl|rfl|e|e
 ·exact(to_int Tryz.underlying3 h0).part 0 (by omega) (by omega)
 ·exact(to_int Tryz.underlying3 h1).part 1 (by omega) (by omega)
 ·exact(to_pt Tryz.underlying24 rfl rfl cells_i64 cells_i64 Tryz.underlying2 Tryz.underlying2 h2).part j (by omega) (by omega)
 ·exact(to_tri h3).part j (by omega) (by omega)
theorem act_of(h:DataW.trod enc Tryz.prog W bs sp hd fuel 156 cs=some x): ∃ a:Act,Act64 a∧ ∀ (j:Nat) (u:Value),(actC a)[j]? =some u→cs[j]? =some u:=by
 obtain⟨hi,hl⟩:=to_act h
 obtain⟨x0,g0,b0⟩:=hi 0 (by omega)
 obtain⟨x1,g1,b1⟩:=hi 1 (by omega)
 obtain⟨x2,g2,b2⟩:=hi 2 (by omega)
 obtain⟨x3,g3,b3⟩:=hi 3 (by omega)
 obtain⟨x4,g4,b4⟩:=hi 4 (by omega)
 obtain⟨x5,g5,b5⟩:=hi 5 (by omega)
 obtain⟨x6,g6,b6⟩:=hi 6 (by omega)
 obtain⟨x7,g7,b7⟩:=hi 7 (by omega)
 obtain⟨x8,g8,b8⟩:=hi 8 (by omega)
 obtain⟨x9,g9,b9⟩:=hi 9 (by omega)
 obtain⟨x10,g10,b10⟩:=hi 10 (by omega)
 obtain⟨x11,g11,b11⟩:=hi 11 (by omega)
 obtain⟨x12,g12,b12⟩:=hi 12 (by omega)
 refine⟨⟨x0,x1,x2,x3,⟨x4,x5,x6,x7,x8,x9,x10,x11,x12⟩⟩,⟨b0,b1,b2,b3,⟨fun i=>?_,fun i=>?_,fun i=>?_⟩⟩,?_⟩
 ·unfold Tr.v;split
  ·exact b4
  ·split
   ·exact b5
   ·exact b6
 ·unfold Tr.x;split
  ·exact b7
  ·split
   ·exact b9
   ·exact b11
 ·unfold Tr.y;split
  ·exact b8
  ·split
   ·exact b10
   ·exact b12
 ·intro j u hj
  have hj13:=(List.getElem?_eq_some_iff.1 hj).1
  rw[actC_len]at hj13
  rcases(by omega:j=0∨j=1∨j=2∨j=3∨j=4∨j=5∨j=6∨j=7∨j=8∨j=9∨j=10∨j=11∨j=12)with rfl|rfl|rfl|rfl|rfl|rfl|rfl|rfl|rfl|rfl|rfl|rfl|rfl
  ·exact g0.trans hj
  ·exact g1.trans hj
  ·exact g2.trans hj
  ·exact g3.trans hj
  ·exact g4.trans hj
  ·exact g5.trans hj
  ·exact g6.trans hj
  ·exact g7.trans hj
  ·exact g8.trans hj
  ·exact g9.trans hj
  ·exact g10.trans hj
  ·exact g11.trans hj
  ·exact g12.trans hj
end
theorem list_of{α:Type}{Q:Nat→α→Prop}: ∀ n:Nat,(∀ i,i<n→ ∃ a,Q i a)→ ∃ L:List α,L.length=n∧ ∀ i a,L[i]? =some a→Q i a
 |0,_=>⟨[],rfl,fun i a h=>by simp at h⟩
 |n+1,h=>by
  obtain⟨L,hl,hq⟩:=list_of n (fun i hi=>h i (by omega))
  obtain⟨a,ha⟩:=h n (by omega)
  refine⟨L++ [a],by simp[hl],fun i b hb=>?_⟩
  by_cases e:i<n
  ·rw[List.getElem?_append_left (by omega)]at hb
   exact hq i b hb
  ·have hlt:=(List.getElem?_eq_some_iff.1 hb).1
   simp[hl]at hlt
   obtain rfl:i=n:=by omega
   rw[List.getElem?_append_right (by omega),hl]at hb
   simp at hb
   subst hb
   exact ha
theorem flat_get{α:Type}{f:α→List Value}{s:Nat}(hf: ∀ x,(f x).length=s){L:List α}{q:Nat}{v:Value}(h:(flat f L)[q]? =some v): ∃ k j x,L[k]? =some x∧q=k*s+j∧j<s∧(f x)[j]? =some v:=by
 induction L generalizing q with
 |nil=>simp[flat]at h
 |cons a L ih=>
  rw[show flat f (a::L)=f a++flat f L from by simp[flat]]at h
  by_cases e:q<s
  ·rw[List.getElem?_append_left (by rw[hf];exact e)]at h
   exact⟨0,q,a,rfl,by omega,e,h⟩
  ·rw[List.getElem?_append_right (by rw[hf];omega),hf]at h
   obtain⟨k,j,x,h1,h2,h3,h4⟩:=ih h
   exact⟨k+1,j,x,by simpa using h1,by rw[Nat.add_mul];omega,h3,h4⟩
set_option maxRecDepth 100000 in
theorem acts_view{H:Type}{enc:TypeId×Value→H}{W:World}{fuel:Nat}{a0:Option Addr}{len cap:Nat}{d:DataW H}{p:List MemPlace}
  (hf:DataW.trod enc Tryz.prog W 0 (fun _=>true) true fuel 74 (Value.slice a0 len cap).cells.toList=some (d,p)) (hfz:W.noneFrozen p) (hlt: ∀ x∈p,x.block<W.heap.size):
  ∃ L:List Act,ActsAt W a0 len cap L:=by
 rcases Go.Deep.open_slice Tryz.underlying74 hf with⟨hcs,hx⟩|⟨a,len',cap',m,n,D,Pl,hcs,_,hl,hm,hmm,hx,hcell⟩
 ·simp[Value.cells]at hcs
  obtain⟨rfl,rfl,rfl⟩:=hcs
  exact⟨[],rfl,⟨Nat.le_refl _,by decide⟩,Or.inl rfl,fun x h=>by cases h⟩
 ·simp[Value.cells]at hcs
  obtain⟨rfl,rfl,rfl⟩:=hcs
  simp only[Prod.mk.injEq]at hx
  obtain⟨_,rfl⟩:=hx
  simp only[if_true]at hmm
  subst hmm
  rw[cells_a]at hfz hlt
  have each: ∀ i,i<len→ ∃ x:Act,Act64 x∧ ∀ (j:Nat) (u:Value),(actC x)[j]? =some u→W.cell? (a.add (i*13+j))=some u:=by
   intro i hi
   obtain⟨cs',h1,h2⟩:=hcell i (by omega)
   rw[cells_a]at h1
   obtain⟨_,hlen,hc⟩:=World.cells?_some h1
   obtain⟨x,h64,hx⟩:=act_of h2
   refine⟨x,h64,fun j u hj=>?_⟩
   have hj13:=(List.getElem?_eq_some_iff.1 hj).1
   rw[actC_len]at hj13
   rw[←Addr.add_add]
   rw[hc j hj13]
   exact hx j u hj
  obtain⟨L,hLl,hL⟩:=list_of len each
  refine⟨L,hLl,⟨hl,hm⟩,?_,fun x hx=>?_⟩
  ·rcases Nat.eq_zero_or_pos len with h0|h0
   ·exact Or.inl h0
   right
   have hsp:a.spot=none:=by
    obtain⟨x,_,h1⟩:=each 0 h0
    have h1:=h1 0 _ rfl
    rw[show a.add (0*13+0)=a from rfl]at h1
    unfold World.cell? at h1
    split at h1
    ·split at h1
     ·cases h1
     ·rename_i hs
      simpa using hs
    ·cases h1
   obtain⟨b,o,sp⟩:=a
   dsimp only at hsp
   subst hsp
   have hmem: ∀ j,j<m*13→MemPlace.cell b (o+j)∈MemPlace.row ⟨b,o,none⟩ (m*13)++(List.range m).flatMap Pl:=fun j hj=>by
    refine List.mem_append_left _ ?_
    unfold MemPlace.row
    exact List.mem_map.2 ⟨j,List.mem_range.2 hj,rfl⟩
   refine⟨b,o,rfl,hlt _ (hmem 0 (by omega)),?_⟩
   intro q v hq
   obtain⟨k,j,x,h1,rfl,h3,h4⟩:=flat_get actC_len hq
   have hk:=(List.getElem?_eq_some_iff.1 h1).1
   have hc:=(hL k x h1).2 j v h4
   rw[Addr.add_lit]at hc
   exact⟨hc,hfz _ _ (hmem (k*13+j) (by omega))⟩
  ·obtain⟨k,hk⟩:=List.getElem?_of_mem hx
   exact(hL k x hk).1
end Go.Proofs.YtjmhfdimoeaplaaGreat
namespace Go.Proofs.YtjmhfdimoeaplaaGreat
open Go.RowKit Go.Maps
set_option linter.unusedVariables false
set_option maxRecDepth 100000 in
set_option maxHeartbeats 4000000 in
theorem rgF0(t:Tr)(w:World):
  Calls Tryz.prog 82 #[trV t, .int .i64 0] w fun e w'=>e= .returned (.agg #[.int .i64 t.v1, .int .i64 (IntKind.i64.wrap (t.x1- t.x0)), .int .i64 (IntKind.i64.wrap (t.y1- t.y0))])∧Below w.heap.size w w':=by
 obtain⟨W,hW⟩: ∃ W,W=((w.alloc (.cells #[.int .i64 t.v0, .int .i64 t.v1, .int .i64 t.v2, .int .i64 t.x0, .int .i64 t.y0, .int .i64 t.x1, .int .i64 t.y1, .int .i64 t.x2, .int .i64 t.y2] 54)).alloc (.cells #[.int .i64 0, .int .i64 0, .int .i64 0] 122)):=⟨_,rfl⟩
 have bW:Below w.heap.size w W:=by rw[hW];exact(((Below.refl _ _).alloc (Nat.le_refl _) _).alloc (by simp<;>omega) _)
 have zW:W.heap.size=w.heap.size+2:=by rw[hW];simp
 have Rh:Row W (w.heap.size) [.int .i64 t.v0, .int .i64 t.v1, .int .i64 t.v2, .int .i64 t.x0, .int .i64 t.y0, .int .i64 t.x1, .int .i64 t.y1, .int .i64 t.x2, .int .i64 t.y2]:=by
  have h0:=Row.new w [.int .i64 t.v0, .int .i64 t.v1, .int .i64 t.v2, .int .i64 t.x0, .int .i64 t.y0, .int .i64 t.x1, .int .i64 t.y1, .int .i64 t.x2, .int .i64 t.y2] 54
  rw[hW];exact(h0.alloc _ (by simp<;>omega))
 have lh:w.heap.size<W.heap.size:=by omega
 have Rr:Row W (w.heap.size+1) [.int .i64 0, .int .i64 0, .int .i64 0]:=by
  have h0:=Row.new (w.alloc (.cells #[.int .i64 t.v0, .int .i64 t.v1, .int .i64 t.v2, .int .i64 t.x0, .int .i64 t.y0, .int .i64 t.x1, .int .i64 t.y1, .int .i64 t.x2, .int .i64 t.y2] 54)) [.int .i64 0, .int .i64 0, .int .i64 0] 122
  simp only[World.size_alloc]at h0
  rw[hW];exact h0
 have lr:w.heap.size+1<W.heap.size:=by omega
 have HW:((w.alloc (.cells #[.int .i64 t.v0, .int .i64 t.v1, .int .i64 t.v2, .int .i64 t.x0, .int .i64 t.y0, .int .i64 t.x1, .int .i64 t.y1, .int .i64 t.x2, .int .i64 t.y2] 54)).alloc (.cells #[.int .i64 0, .int .i64 0, .int .i64 0] 122))=W:=hW.symm
 clear hW
 have d0:=Rh.cell 1 _ rfl
 have d1:=Rh.cell 5 _ rfl
 have d2:=Rh.cell 6 _ rfl
 have d3:=Rh.cell 3 _ rfl
 have d4:=Rh.cell 4 _ rfl
 have n0: ¬(w.heap.size=w.heap.size+1):=by omega
 go_enter Tryz.func82,Tryz.ntmps82
 go_wp2
 have HSs:Hid (∀ w',Keep (fun k=>k=w.heap.size+1) W w'→(fun w'=>w'.cell? ⟨w.heap.size,1,none⟩=some (.int .i64 t.v1)∧w'.cell? ⟨w.heap.size,5,none⟩=some (.int .i64 t.x1)∧w'.cell? ⟨w.heap.size,6,none⟩=some (.int .i64 t.y1)∧w'.cell? ⟨w.heap.size,3,none⟩=some (.int .i64 t.x0)∧w'.cell? ⟨w.heap.size,4,none⟩=some (.int .i64 t.y0)∧Keep (fun k=>k=w.heap.size+1) W w') w'):=by
  unfold Hid
  intro w' hb
  exact⟨(hb.cell (p:=⟨w.heap.size,1,none⟩) lh n0).trans d0,(hb.cell (p:=⟨w.heap.size,5,none⟩) lh n0).trans d1,(hb.cell (p:=⟨w.heap.size,6,none⟩) lh n0).trans d2,(hb.cell (p:=⟨w.heap.size,3,none⟩) lh n0).trans d3,(hb.cell (p:=⟨w.heap.size,4,none⟩) lh n0).trans d4,hb⟩
 refine wp_region_held_drew (S:=fun w'=>w'.cell? ⟨w.heap.size,1,none⟩=some (.int .i64 t.v1)∧w'.cell? ⟨w.heap.size,5,none⟩=some (.int .i64 t.x1)∧w'.cell? ⟨w.heap.size,6,none⟩=some (.int .i64 t.y1)∧w'.cell? ⟨w.heap.size,3,none⟩=some (.int .i64 t.x0)∧w'.cell? ⟨w.heap.size,4,none⟩=some (.int .i64 t.y0)∧Keep (fun k=>k=w.heap.size+1) W w') (by kernel_rfl) ?_ (fun hHeld=>?_)
 ·exact HSs.out _ ((Keep.refl _ _).drew)
 refine tn 0 ?_;refine tn 1 ?_
 simp only[Act.put,ps1,ps2,ps3]
 refine tn 2 ?_;refine tn 3 ?_
 simp only[Act.put,ps1,ps2,ps3]
 refine tn 4 ?_;refine tn 5 ?_
 simp only[Act.put,ps1,ps2,ps3]
 refine tn 6 ?_;refine tn 7 ?_
 simp only[Act.put,ps1,ps2,ps3]
 refine tn 8 ?_;refine tn 9 ?_
 simp only[Act.put,ps1,ps2,ps3]
 refine tn 10 ?_;refine tn 11 ?_
 simp only[Act.put,ps1,ps2,ps3]
 refine tn 12 ?_;refine tn 13 ?_
 simp only[Act.put,ps1,ps2,ps3]
 refine tn 14 ?_;refine tn 15 ?_
 simp only[Act.put,ps1,ps2,ps3]
 refine tn 16 ?_;refine tn 17 ?_
 simp only[Act.put,ps1,ps2,ps3]
 refine tn 18 ?_;refine tn 19 ?_
 simp only[Act.put,ps1,ps2,ps3]
 refine tn 20 ?_;refine tn 21 ?_
 simp only[Act.put,ps1,ps2,ps3]
 refine tn 22 ?_;refine tn 23 ?_
 simp only[Act.put,ps1,ps2,ps3]
 refine tn 24 ?_;refine tn 25 ?_
 simp only[Act.put,ps1,ps2,ps3]
 refine tn 26 ?_;refine tn 27 ?_
 simp only[Act.put,ps1,ps2,ps3]
 have sc0:=Rr.cell 0 _ rfl
 have sf0:=Rr.free 0 (by simp)
 have sc1:=Rr.cell 1 _ rfl
 have sf1:=Rr.free 1 (by simp)
 have sc2:=Rr.cell 2 _ rfl
 have sf2:=Rr.free 2 (by simp)
 refine tcl 28 fun Kc hK=>?_
 go_simp
 refine hK.out _ _ ?_ (fun hHeld=>?_)
 ·exact HSs.out _ (((hHeld.2.2.2.2.2.set (Or.inl rfl) _).set (Or.inl rfl) _).set (Or.inl rfl) _)
 clear hK Kc
 refine wpAnyH_done (by kernel_rfl) ?_ _
 have kxx:=hHeld.2.2.2.2.2
 have R2:=((Rr.drew.set 0 (.int .i64 t.v1) (by simp)).set 1 (.int .i64 (IntKind.i64.wrap (t.x1- t.x0))) (by simp)).set 2 (.int .i64 (IntKind.i64.wrap (t.y1- t.y0))) (by simp)
 have BX:=bW.trans (kxx.below (B:=w.heap.size) (by omega) (fun k e=>by omega))
 have e0:=R2.cell 0 _ rfl
 have e1:=R2.cell 1 _ rfl
 have e2:=R2.cell 2 _ rfl
 clear hHeld HSs kxx Rr
 try go_wp2
 exact bodyPost_ret (v:= .agg #[.int .i64 t.v1, .int .i64 (IntKind.i64.wrap (t.x1- t.x0)), .int .i64 (IntKind.i64.wrap (t.y1- t.y0))]) (by simp[results,Tryz.results82,go_sem, *]) rfl ⟨rfl,BX⟩
set_option maxRecDepth 100000 in
set_option maxHeartbeats 4000000 in
theorem rgF1(t:Tr)(w:World):
  Calls Tryz.prog 82 #[trV t, .int .i64 1] w fun e w'=>e= .returned (.agg #[.int .i64 t.v2, .int .i64 (IntKind.i64.wrap (t.x2- t.x1)), .int .i64 (IntKind.i64.wrap (t.y2- t.y1))])∧Below w.heap.size w w':=by
 obtain⟨W,hW⟩: ∃ W,W=((w.alloc (.cells #[.int .i64 t.v0, .int .i64 t.v1, .int .i64 t.v2, .int .i64 t.x0, .int .i64 t.y0, .int .i64 t.x1, .int .i64 t.y1, .int .i64 t.x2, .int .i64 t.y2] 54)).alloc (.cells #[.int .i64 0, .int .i64 0, .int .i64 0] 122)):=⟨_,rfl⟩
 have bW:Below w.heap.size w W:=by rw[hW];exact(((Below.refl _ _).alloc (Nat.le_refl _) _).alloc (by simp<;>omega) _)
 have zW:W.heap.size=w.heap.size+2:=by rw[hW];simp
 have Rh:Row W (w.heap.size) [.int .i64 t.v0, .int .i64 t.v1, .int .i64 t.v2, .int .i64 t.x0, .int .i64 t.y0, .int .i64 t.x1, .int .i64 t.y1, .int .i64 t.x2, .int .i64 t.y2]:=by
  have h0:=Row.new w [.int .i64 t.v0, .int .i64 t.v1, .int .i64 t.v2, .int .i64 t.x0, .int .i64 t.y0, .int .i64 t.x1, .int .i64 t.y1, .int .i64 t.x2, .int .i64 t.y2] 54
  rw[hW];exact(h0.alloc _ (by simp<;>omega))
 have lh:w.heap.size<W.heap.size:=by omega
 have Rr:Row W (w.heap.size+1) [.int .i64 0, .int .i64 0, .int .i64 0]:=by
  have h0:=Row.new (w.alloc (.cells #[.int .i64 t.v0, .int .i64 t.v1, .int .i64 t.v2, .int .i64 t.x0, .int .i64 t.y0, .int .i64 t.x1, .int .i64 t.y1, .int .i64 t.x2, .int .i64 t.y2] 54)) [.int .i64 0, .int .i64 0, .int .i64 0] 122
  simp only[World.size_alloc]at h0
  rw[hW];exact h0
 have lr:w.heap.size+1<W.heap.size:=by omega
 have HW:((w.alloc (.cells #[.int .i64 t.v0, .int .i64 t.v1, .int .i64 t.v2, .int .i64 t.x0, .int .i64 t.y0, .int .i64 t.x1, .int .i64 t.y1, .int .i64 t.x2, .int .i64 t.y2] 54)).alloc (.cells #[.int .i64 0, .int .i64 0, .int .i64 0] 122))=W:=hW.symm
 clear hW
 have d0:=Rh.cell 2 _ rfl
 have d1:=Rh.cell 7 _ rfl
 have d2:=Rh.cell 8 _ rfl
 have d3:=Rh.cell 5 _ rfl
 have d4:=Rh.cell 6 _ rfl
 have n0: ¬(w.heap.size=w.heap.size+1):=by omega
 go_enter Tryz.func82,Tryz.ntmps82
 go_wp2
 have HSs:Hid (∀ w',Keep (fun k=>k=w.heap.size+1) W w'→(fun w'=>w'.cell? ⟨w.heap.size,2,none⟩=some (.int .i64 t.v2)∧w'.cell? ⟨w.heap.size,7,none⟩=some (.int .i64 t.x2)∧w'.cell? ⟨w.heap.size,8,none⟩=some (.int .i64 t.y2)∧w'.cell? ⟨w.heap.size,5,none⟩=some (.int .i64 t.x1)∧w'.cell? ⟨w.heap.size,6,none⟩=some (.int .i64 t.y1)∧Keep (fun k=>k=w.heap.size+1) W w') w'):=by
  unfold Hid
  intro w' hb
  exact⟨(hb.cell (p:=⟨w.heap.size,2,none⟩) lh n0).trans d0,(hb.cell (p:=⟨w.heap.size,7,none⟩) lh n0).trans d1,(hb.cell (p:=⟨w.heap.size,8,none⟩) lh n0).trans d2,(hb.cell (p:=⟨w.heap.size,5,none⟩) lh n0).trans d3,(hb.cell (p:=⟨w.heap.size,6,none⟩) lh n0).trans d4,hb⟩
 refine wp_region_held_drew (S:=fun w'=>w'.cell? ⟨w.heap.size,2,none⟩=some (.int .i64 t.v2)∧w'.cell? ⟨w.heap.size,7,none⟩=some (.int .i64 t.x2)∧w'.cell? ⟨w.heap.size,8,none⟩=some (.int .i64 t.y2)∧w'.cell? ⟨w.heap.size,5,none⟩=some (.int .i64 t.x1)∧w'.cell? ⟨w.heap.size,6,none⟩=some (.int .i64 t.y1)∧Keep (fun k=>k=w.heap.size+1) W w') (by kernel_rfl) ?_ (fun hHeld=>?_)
 ·exact HSs.out _ ((Keep.refl _ _).drew)
 refine tn 0 ?_;refine tn 1 ?_
 simp only[Act.put,ps1,ps2,ps3]
 refine tn 2 ?_;refine tn 3 ?_
 simp only[Act.put,ps1,ps2,ps3]
 refine tn 4 ?_;refine tn 5 ?_
 simp only[Act.put,ps1,ps2,ps3]
 refine tn 6 ?_;refine tn 7 ?_
 simp only[Act.put,ps1,ps2,ps3]
 refine tn 8 ?_;refine tn 9 ?_
 simp only[Act.put,ps1,ps2,ps3]
 refine tn 10 ?_;refine tn 11 ?_
 simp only[Act.put,ps1,ps2,ps3]
 refine tn 12 ?_;refine tn 13 ?_
 simp only[Act.put,ps1,ps2,ps3]
 refine tn 14 ?_;refine tn 15 ?_
 simp only[Act.put,ps1,ps2,ps3]
 refine tn 16 ?_;refine tn 17 ?_
 simp only[Act.put,ps1,ps2,ps3]
 refine tn 18 ?_;refine tn 19 ?_
 simp only[Act.put,ps1,ps2,ps3]
 refine tn 20 ?_;refine tn 21 ?_
 simp only[Act.put,ps1,ps2,ps3]
 refine tn 22 ?_;refine tn 23 ?_
 simp only[Act.put,ps1,ps2,ps3]
 refine tn 24 ?_;refine tn 25 ?_
 simp only[Act.put,ps1,ps2,ps3]
 refine tn 26 ?_;refine tn 27 ?_
 simp only[Act.put,ps1,ps2,ps3]
 have sc0:=Rr.cell 0 _ rfl
 have sf0:=Rr.free 0 (by simp)
 have sc1:=Rr.cell 1 _ rfl
 have sf1:=Rr.free 1 (by simp)
 have sc2:=Rr.cell 2 _ rfl
 have sf2:=Rr.free 2 (by simp)
 refine tcl 28 fun Kc hK=>?_
 go_simp
 refine hK.out _ _ ?_ (fun hHeld=>?_)
 ·exact HSs.out _ (((hHeld.2.2.2.2.2.set (Or.inl rfl) _).set (Or.inl rfl) _).set (Or.inl rfl) _)
 clear hK Kc
 refine wpAnyH_done (by kernel_rfl) ?_ _
 have kxx:=hHeld.2.2.2.2.2
 have R2:=((Rr.drew.set 0 (.int .i64 t.v2) (by simp)).set 1 (.int .i64 (IntKind.i64.wrap (t.x2- t.x1))) (by simp)).set 2 (.int .i64 (IntKind.i64.wrap (t.y2- t.y1))) (by simp)
 have BX:=bW.trans (kxx.below (B:=w.heap.size) (by omega) (fun k e=>by omega))
 have e0:=R2.cell 0 _ rfl
 have e1:=R2.cell 1 _ rfl
 have e2:=R2.cell 2 _ rfl
 clear hHeld HSs kxx Rr
 try go_wp2
 exact bodyPost_ret (v:= .agg #[.int .i64 t.v2, .int .i64 (IntKind.i64.wrap (t.x2- t.x1)), .int .i64 (IntKind.i64.wrap (t.y2- t.y1))]) (by simp[results,Tryz.results82,go_sem, *]) rfl ⟨rfl,BX⟩
set_option maxRecDepth 100000 in
set_option maxHeartbeats 4000000 in
theorem rgF2(t:Tr)(w:World):
  Calls Tryz.prog 82 #[trV t, .int .i64 2] w fun e w'=>e= .returned (.agg #[.int .i64 t.v0, .int .i64 (IntKind.i64.wrap (t.x0- t.x2)), .int .i64 (IntKind.i64.wrap (t.y0- t.y2))])∧Below w.heap.size w w':=by
 obtain⟨W,hW⟩: ∃ W,W=((w.alloc (.cells #[.int .i64 t.v0, .int .i64 t.v1, .int .i64 t.v2, .int .i64 t.x0, .int .i64 t.y0, .int .i64 t.x1, .int .i64 t.y1, .int .i64 t.x2, .int .i64 t.y2] 54)).alloc (.cells #[.int .i64 0, .int .i64 0, .int .i64 0] 122)):=⟨_,rfl⟩
 have bW:Below w.heap.size w W:=by rw[hW];exact(((Below.refl _ _).alloc (Nat.le_refl _) _).alloc (by simp<;>omega) _)
 have zW:W.heap.size=w.heap.size+2:=by rw[hW];simp
 have Rh:Row W (w.heap.size) [.int .i64 t.v0, .int .i64 t.v1, .int .i64 t.v2, .int .i64 t.x0, .int .i64 t.y0, .int .i64 t.x1, .int .i64 t.y1, .int .i64 t.x2, .int .i64 t.y2]:=by
  have h0:=Row.new w [.int .i64 t.v0, .int .i64 t.v1, .int .i64 t.v2, .int .i64 t.x0, .int .i64 t.y0, .int .i64 t.x1, .int .i64 t.y1, .int .i64 t.x2, .int .i64 t.y2] 54
  rw[hW];exact(h0.alloc _ (by simp<;>omega))
 have lh:w.heap.size<W.heap.size:=by omega
 have Rr:Row W (w.heap.size+1) [.int .i64 0, .int .i64 0, .int .i64 0]:=by
  have h0:=Row.new (w.alloc (.cells #[.int .i64 t.v0, .int .i64 t.v1, .int .i64 t.v2, .int .i64 t.x0, .int .i64 t.y0, .int .i64 t.x1, .int .i64 t.y1, .int .i64 t.x2, .int .i64 t.y2] 54)) [.int .i64 0, .int .i64 0, .int .i64 0] 122
  simp only[World.size_alloc]at h0
  rw[hW];exact h0
 have lr:w.heap.size+1<W.heap.size:=by omega
 have HW:((w.alloc (.cells #[.int .i64 t.v0, .int .i64 t.v1, .int .i64 t.v2, .int .i64 t.x0, .int .i64 t.y0, .int .i64 t.x1, .int .i64 t.y1, .int .i64 t.x2, .int .i64 t.y2] 54)).alloc (.cells #[.int .i64 0, .int .i64 0, .int .i64 0] 122))=W:=hW.symm
 clear hW
 have d0:=Rh.cell 0 _ rfl
 have d1:=Rh.cell 3 _ rfl
 have d2:=Rh.cell 4 _ rfl
 have d3:=Rh.cell 7 _ rfl
 have d4:=Rh.cell 8 _ rfl
 have n0: ¬(w.heap.size=w.heap.size+1):=by omega
 go_enter Tryz.func82,Tryz.ntmps82
 go_wp2
 have HSs:Hid (∀ w',Keep (fun k=>k=w.heap.size+1) W w'→(fun w'=>w'.cell? ⟨w.heap.size,0,none⟩=some (.int .i64 t.v0)∧w'.cell? ⟨w.heap.size,3,none⟩=some (.int .i64 t.x0)∧w'.cell? ⟨w.heap.size,4,none⟩=some (.int .i64 t.y0)∧w'.cell? ⟨w.heap.size,7,none⟩=some (.int .i64 t.x2)∧w'.cell? ⟨w.heap.size,8,none⟩=some (.int .i64 t.y2)∧Keep (fun k=>k=w.heap.size+1) W w') w'):=by
  unfold Hid
  intro w' hb
  exact⟨(hb.cell (p:=⟨w.heap.size,0,none⟩) lh n0).trans d0,(hb.cell (p:=⟨w.heap.size,3,none⟩) lh n0).trans d1,(hb.cell (p:=⟨w.heap.size,4,none⟩) lh n0).trans d2,(hb.cell (p:=⟨w.heap.size,7,none⟩) lh n0).trans d3,(hb.cell (p:=⟨w.heap.size,8,none⟩) lh n0).trans d4,hb⟩
 refine wp_region_held_drew (S:=fun w'=>w'.cell? ⟨w.heap.size,0,none⟩=some (.int .i64 t.v0)∧w'.cell? ⟨w.heap.size,3,none⟩=some (.int .i64 t.x0)∧w'.cell? ⟨w.heap.size,4,none⟩=some (.int .i64 t.y0)∧w'.cell? ⟨w.heap.size,7,none⟩=some (.int .i64 t.x2)∧w'.cell? ⟨w.heap.size,8,none⟩=some (.int .i64 t.y2)∧Keep (fun k=>k=w.heap.size+1) W w') (by kernel_rfl) ?_ (fun hHeld=>?_)
 ·exact HSs.out _ ((Keep.refl _ _).drew)
 refine tn 0 ?_;refine tn 1 ?_
 simp only[Act.put,ps1,ps2,ps3]
 refine tn 2 ?_;refine tn 3 ?_
 simp only[Act.put,ps1,ps2,ps3]
 refine tn 4 ?_;refine tn 5 ?_
 simp only[Act.put,ps1,ps2,ps3]
 refine tn 6 ?_;refine tn 7 ?_
 simp only[Act.put,ps1,ps2,ps3]
 refine tn 8 ?_;refine tn 9 ?_
 simp only[Act.put,ps1,ps2,ps3]
 refine tn 10 ?_;refine tn 11 ?_
 simp only[Act.put,ps1,ps2,ps3]
 refine tn 12 ?_;refine tn 13 ?_
 simp only[Act.put,ps1,ps2,ps3]
 refine tn 14 ?_;refine tn 15 ?_
 simp only[Act.put,ps1,ps2,ps3]
 refine tn 16 ?_;refine tn 17 ?_
 simp only[Act.put,ps1,ps2,ps3]
 refine tn 18 ?_;refine tn 19 ?_
 simp only[Act.put,ps1,ps2,ps3]
 refine tn 20 ?_;refine tn 21 ?_
 simp only[Act.put,ps1,ps2,ps3]
 refine tn 22 ?_;refine tn 23 ?_
 simp only[Act.put,ps1,ps2,ps3]
 refine tn 24 ?_;refine tn 25 ?_
 simp only[Act.put,ps1,ps2,ps3]
 refine tn 26 ?_;refine tn 27 ?_
 simp only[Act.put,ps1,ps2,ps3]
 have sc0:=Rr.cell 0 _ rfl
 have sf0:=Rr.free 0 (by simp)
 have sc1:=Rr.cell 1 _ rfl
 have sf1:=Rr.free 1 (by simp)
 have sc2:=Rr.cell 2 _ rfl
 have sf2:=Rr.free 2 (by simp)
 refine tcl 28 fun Kc hK=>?_
 go_simp
 refine hK.out _ _ ?_ (fun hHeld=>?_)
 ·exact HSs.out _ (((hHeld.2.2.2.2.2.set (Or.inl rfl) _).set (Or.inl rfl) _).set (Or.inl rfl) _)
 clear hK Kc
 refine wpAnyH_done (by kernel_rfl) ?_ _
 have kxx:=hHeld.2.2.2.2.2
 have R2:=((Rr.drew.set 0 (.int .i64 t.v0) (by simp)).set 1 (.int .i64 (IntKind.i64.wrap (t.x0- t.x2))) (by simp)).set 2 (.int .i64 (IntKind.i64.wrap (t.y0- t.y2))) (by simp)
 have BX:=bW.trans (kxx.below (B:=w.heap.size) (by omega) (fun k e=>by omega))
 have e0:=R2.cell 0 _ rfl
 have e1:=R2.cell 1 _ rfl
 have e2:=R2.cell 2 _ rfl
 clear hHeld HSs kxx Rr
 try go_wp2
 exact bodyPost_ret (v:= .agg #[.int .i64 t.v0, .int .i64 (IntKind.i64.wrap (t.x0- t.x2)), .int .i64 (IntKind.i64.wrap (t.y0- t.y2))]) (by simp[results,Tryz.results82,go_sem, *]) rfl ⟨rfl,BX⟩
set_option maxRecDepth 100000 in
set_option maxHeartbeats 4000000 in
theorem rgA0(t:Tr)(w:World):
  Calls Tryz.prog 83 #[trV t, .int .i64 0] w fun e w'=>e= .returned (.agg #[.int .i64 t.v2, .int .i64 (IntKind.i64.wrap (t.x2- t.x0)), .int .i64 (IntKind.i64.wrap (t.y2- t.y0))])∧Below w.heap.size w w':=by
 obtain⟨W,hW⟩: ∃ W,W=((w.alloc (.cells #[.int .i64 t.v0, .int .i64 t.v1, .int .i64 t.v2, .int .i64 t.x0, .int .i64 t.y0, .int .i64 t.x1, .int .i64 t.y1, .int .i64 t.x2, .int .i64 t.y2] 54)).alloc (.cells #[.int .i64 0, .int .i64 0, .int .i64 0] 122)):=⟨_,rfl⟩
 have bW:Below w.heap.size w W:=by rw[hW];exact(((Below.refl _ _).alloc (Nat.le_refl _) _).alloc (by simp<;>omega) _)
 have zW:W.heap.size=w.heap.size+2:=by rw[hW];simp
 have Rh:Row W (w.heap.size) [.int .i64 t.v0, .int .i64 t.v1, .int .i64 t.v2, .int .i64 t.x0, .int .i64 t.y0, .int .i64 t.x1, .int .i64 t.y1, .int .i64 t.x2, .int .i64 t.y2]:=by
  have h0:=Row.new w [.int .i64 t.v0, .int .i64 t.v1, .int .i64 t.v2, .int .i64 t.x0, .int .i64 t.y0, .int .i64 t.x1, .int .i64 t.y1, .int .i64 t.x2, .int .i64 t.y2] 54
  rw[hW];exact(h0.alloc _ (by simp<;>omega))
 have lh:w.heap.size<W.heap.size:=by omega
 have Rr:Row W (w.heap.size+1) [.int .i64 0, .int .i64 0, .int .i64 0]:=by
  have h0:=Row.new (w.alloc (.cells #[.int .i64 t.v0, .int .i64 t.v1, .int .i64 t.v2, .int .i64 t.x0, .int .i64 t.y0, .int .i64 t.x1, .int .i64 t.y1, .int .i64 t.x2, .int .i64 t.y2] 54)) [.int .i64 0, .int .i64 0, .int .i64 0] 122
  simp only[World.size_alloc]at h0
  rw[hW];exact h0
 have lr:w.heap.size+1<W.heap.size:=by omega
 have HW:((w.alloc (.cells #[.int .i64 t.v0, .int .i64 t.v1, .int .i64 t.v2, .int .i64 t.x0, .int .i64 t.y0, .int .i64 t.x1, .int .i64 t.y1, .int .i64 t.x2, .int .i64 t.y2] 54)).alloc (.cells #[.int .i64 0, .int .i64 0, .int .i64 0] 122))=W:=hW.symm
 clear hW
 have d0:=Rh.cell 2 _ rfl
 have d1:=Rh.cell 7 _ rfl
 have d2:=Rh.cell 8 _ rfl
 have d3:=Rh.cell 3 _ rfl
 have d4:=Rh.cell 4 _ rfl
 have n0: ¬(w.heap.size=w.heap.size+1):=by omega
 go_enter Tryz.func83,Tryz.ntmps83
 go_wp2
 have HSs:Hid (∀ w',Keep (fun k=>k=w.heap.size+1) W w'→(fun w'=>w'.cell? ⟨w.heap.size,2,none⟩=some (.int .i64 t.v2)∧w'.cell? ⟨w.heap.size,7,none⟩=some (.int .i64 t.x2)∧w'.cell? ⟨w.heap.size,8,none⟩=some (.int .i64 t.y2)∧w'.cell? ⟨w.heap.size,3,none⟩=some (.int .i64 t.x0)∧w'.cell? ⟨w.heap.size,4,none⟩=some (.int .i64 t.y0)∧Keep (fun k=>k=w.heap.size+1) W w') w'):=by
  unfold Hid
  intro w' hb
  exact⟨(hb.cell (p:=⟨w.heap.size,2,none⟩) lh n0).trans d0,(hb.cell (p:=⟨w.heap.size,7,none⟩) lh n0).trans d1,(hb.cell (p:=⟨w.heap.size,8,none⟩) lh n0).trans d2,(hb.cell (p:=⟨w.heap.size,3,none⟩) lh n0).trans d3,(hb.cell (p:=⟨w.heap.size,4,none⟩) lh n0).trans d4,hb⟩
 refine wp_region_held_drew (S:=fun w'=>w'.cell? ⟨w.heap.size,2,none⟩=some (.int .i64 t.v2)∧w'.cell? ⟨w.heap.size,7,none⟩=some (.int .i64 t.x2)∧w'.cell? ⟨w.heap.size,8,none⟩=some (.int .i64 t.y2)∧w'.cell? ⟨w.heap.size,3,none⟩=some (.int .i64 t.x0)∧w'.cell? ⟨w.heap.size,4,none⟩=some (.int .i64 t.y0)∧Keep (fun k=>k=w.heap.size+1) W w') (by kernel_rfl) ?_ (fun hHeld=>?_)
 ·exact HSs.out _ ((Keep.refl _ _).drew)
 refine tn 0 ?_;refine tn 1 ?_
 simp only[Act.put,ps1,ps2,ps3]
 refine tn 2 ?_;refine tn 3 ?_
 simp only[Act.put,ps1,ps2,ps3]
 refine tn 4 ?_;refine tn 5 ?_
 simp only[Act.put,ps1,ps2,ps3]
 refine tn 6 ?_;refine tn 7 ?_
 simp only[Act.put,ps1,ps2,ps3]
 refine tn 8 ?_;refine tn 9 ?_
 simp only[Act.put,ps1,ps2,ps3]
 refine tn 10 ?_;refine tn 11 ?_
 simp only[Act.put,ps1,ps2,ps3]
 refine tn 12 ?_;refine tn 13 ?_
 simp only[Act.put,ps1,ps2,ps3]
 refine tn 14 ?_;refine tn 15 ?_
 simp only[Act.put,ps1,ps2,ps3]
 refine tn 16 ?_;refine tn 17 ?_
 simp only[Act.put,ps1,ps2,ps3]
 refine tn 18 ?_;refine tn 19 ?_
 simp only[Act.put,ps1,ps2,ps3]
 refine tn 20 ?_;refine tn 21 ?_
 simp only[Act.put,ps1,ps2,ps3]
 refine tn 22 ?_;refine tn 23 ?_
 simp only[Act.put,ps1,ps2,ps3]
 refine tn 24 ?_;refine tn 25 ?_
 simp only[Act.put,ps1,ps2,ps3]
 refine tn 26 ?_;refine tn 27 ?_
 simp only[Act.put,ps1,ps2,ps3]
 have sc0:=Rr.cell 0 _ rfl
 have sf0:=Rr.free 0 (by simp)
 have sc1:=Rr.cell 1 _ rfl
 have sf1:=Rr.free 1 (by simp)
 have sc2:=Rr.cell 2 _ rfl
 have sf2:=Rr.free 2 (by simp)
 refine tcl 28 fun Kc hK=>?_
 go_simp
 refine hK.out _ _ ?_ (fun hHeld=>?_)
 ·exact HSs.out _ (((hHeld.2.2.2.2.2.set (Or.inl rfl) _).set (Or.inl rfl) _).set (Or.inl rfl) _)
 clear hK Kc
 refine wpAnyH_done (by kernel_rfl) ?_ _
 have kxx:=hHeld.2.2.2.2.2
 have R2:=((Rr.drew.set 0 (.int .i64 t.v2) (by simp)).set 1 (.int .i64 (IntKind.i64.wrap (t.x2- t.x0))) (by simp)).set 2 (.int .i64 (IntKind.i64.wrap (t.y2- t.y0))) (by simp)
 have BX:=bW.trans (kxx.below (B:=w.heap.size) (by omega) (fun k e=>by omega))
 have e0:=R2.cell 0 _ rfl
 have e1:=R2.cell 1 _ rfl
 have e2:=R2.cell 2 _ rfl
 clear hHeld HSs kxx Rr
 try go_wp2
 exact bodyPost_ret (v:= .agg #[.int .i64 t.v2, .int .i64 (IntKind.i64.wrap (t.x2- t.x0)), .int .i64 (IntKind.i64.wrap (t.y2- t.y0))]) (by simp[results,Tryz.results83,go_sem, *]) rfl ⟨rfl,BX⟩
set_option maxRecDepth 100000 in
set_option maxHeartbeats 4000000 in
theorem rgA1(t:Tr)(w:World):
  Calls Tryz.prog 83 #[trV t, .int .i64 1] w fun e w'=>e= .returned (.agg #[.int .i64 t.v0, .int .i64 (IntKind.i64.wrap (t.x0- t.x1)), .int .i64 (IntKind.i64.wrap (t.y0- t.y1))])∧Below w.heap.size w w':=by
 obtain⟨W,hW⟩: ∃ W,W=((w.alloc (.cells #[.int .i64 t.v0, .int .i64 t.v1, .int .i64 t.v2, .int .i64 t.x0, .int .i64 t.y0, .int .i64 t.x1, .int .i64 t.y1, .int .i64 t.x2, .int .i64 t.y2] 54)).alloc (.cells #[.int .i64 0, .int .i64 0, .int .i64 0] 122)):=⟨_,rfl⟩
 have bW:Below w.heap.size w W:=by rw[hW];exact(((Below.refl _ _).alloc (Nat.le_refl _) _).alloc (by simp<;>omega) _)
 have zW:W.heap.size=w.heap.size+2:=by rw[hW];simp
 have Rh:Row W (w.heap.size) [.int .i64 t.v0, .int .i64 t.v1, .int .i64 t.v2, .int .i64 t.x0, .int .i64 t.y0, .int .i64 t.x1, .int .i64 t.y1, .int .i64 t.x2, .int .i64 t.y2]:=by
  have h0:=Row.new w [.int .i64 t.v0, .int .i64 t.v1, .int .i64 t.v2, .int .i64 t.x0, .int .i64 t.y0, .int .i64 t.x1, .int .i64 t.y1, .int .i64 t.x2, .int .i64 t.y2] 54
  rw[hW];exact(h0.alloc _ (by simp<;>omega))
 have lh:w.heap.size<W.heap.size:=by omega
 have Rr:Row W (w.heap.size+1) [.int .i64 0, .int .i64 0, .int .i64 0]:=by
  have h0:=Row.new (w.alloc (.cells #[.int .i64 t.v0, .int .i64 t.v1, .int .i64 t.v2, .int .i64 t.x0, .int .i64 t.y0, .int .i64 t.x1, .int .i64 t.y1, .int .i64 t.x2, .int .i64 t.y2] 54)) [.int .i64 0, .int .i64 0, .int .i64 0] 122
  simp only[World.size_alloc]at h0
  rw[hW];exact h0
 have lr:w.heap.size+1<W.heap.size:=by omega
 have HW:((w.alloc (.cells #[.int .i64 t.v0, .int .i64 t.v1, .int .i64 t.v2, .int .i64 t.x0, .int .i64 t.y0, .int .i64 t.x1, .int .i64 t.y1, .int .i64 t.x2, .int .i64 t.y2] 54)).alloc (.cells #[.int .i64 0, .int .i64 0, .int .i64 0] 122))=W:=hW.symm
 clear hW
 have d0:=Rh.cell 0 _ rfl
 have d1:=Rh.cell 3 _ rfl
 have d2:=Rh.cell 4 _ rfl
 have d3:=Rh.cell 5 _ rfl
 have d4:=Rh.cell 6 _ rfl
 have n0: ¬(w.heap.size=w.heap.size+1):=by omega
 go_enter Tryz.func83,Tryz.ntmps83
 go_wp2
 have HSs:Hid (∀ w',Keep (fun k=>k=w.heap.size+1) W w'→(fun w'=>w'.cell? ⟨w.heap.size,0,none⟩=some (.int .i64 t.v0)∧w'.cell? ⟨w.heap.size,3,none⟩=some (.int .i64 t.x0)∧w'.cell? ⟨w.heap.size,4,none⟩=some (.int .i64 t.y0)∧w'.cell? ⟨w.heap.size,5,none⟩=some (.int .i64 t.x1)∧w'.cell? ⟨w.heap.size,6,none⟩=some (.int .i64 t.y1)∧Keep (fun k=>k=w.heap.size+1) W w') w'):=by
  unfold Hid
  intro w' hb
  exact⟨(hb.cell (p:=⟨w.heap.size,0,none⟩) lh n0).trans d0,(hb.cell (p:=⟨w.heap.size,3,none⟩) lh n0).trans d1,(hb.cell (p:=⟨w.heap.size,4,none⟩) lh n0).trans d2,(hb.cell (p:=⟨w.heap.size,5,none⟩) lh n0).trans d3,(hb.cell (p:=⟨w.heap.size,6,none⟩) lh n0).trans d4,hb⟩
 refine wp_region_held_drew (S:=fun w'=>w'.cell? ⟨w.heap.size,0,none⟩=some (.int .i64 t.v0)∧w'.cell? ⟨w.heap.size,3,none⟩=some (.int .i64 t.x0)∧w'.cell? ⟨w.heap.size,4,none⟩=some (.int .i64 t.y0)∧w'.cell? ⟨w.heap.size,5,none⟩=some (.int .i64 t.x1)∧w'.cell? ⟨w.heap.size,6,none⟩=some (.int .i64 t.y1)∧Keep (fun k=>k=w.heap.size+1) W w') (by kernel_rfl) ?_ (fun hHeld=>?_)
 ·exact HSs.out _ ((Keep.refl _ _).drew)
 refine tn 0 ?_;refine tn 1 ?_
 simp only[Act.put,ps1,ps2,ps3]
 refine tn 2 ?_;refine tn 3 ?_
 simp only[Act.put,ps1,ps2,ps3]
 refine tn 4 ?_;refine tn 5 ?_
 simp only[Act.put,ps1,ps2,ps3]
 refine tn 6 ?_;refine tn 7 ?_
 simp only[Act.put,ps1,ps2,ps3]
 refine tn 8 ?_;refine tn 9 ?_
 simp only[Act.put,ps1,ps2,ps3]
 refine tn 10 ?_;refine tn 11 ?_
 simp only[Act.put,ps1,ps2,ps3]
 refine tn 12 ?_;refine tn 13 ?_
 simp only[Act.put,ps1,ps2,ps3]
 refine tn 14 ?_;refine tn 15 ?_
 simp only[Act.put,ps1,ps2,ps3]
 refine tn 16 ?_;refine tn 17 ?_
 simp only[Act.put,ps1,ps2,ps3]
 refine tn 18 ?_;refine tn 19 ?_
 simp only[Act.put,ps1,ps2,ps3]
 refine tn 20 ?_;refine tn 21 ?_
 simp only[Act.put,ps1,ps2,ps3]
 refine tn 22 ?_;refine tn 23 ?_
 simp only[Act.put,ps1,ps2,ps3]
 refine tn 24 ?_;refine tn 25 ?_
 simp only[Act.put,ps1,ps2,ps3]
 refine tn 26 ?_;refine tn 27 ?_
 simp only[Act.put,ps1,ps2,ps3]
 have sc0:=Rr.cell 0 _ rfl
 have sf0:=Rr.free 0 (by simp)
 have sc1:=Rr.cell 1 _ rfl
 have sf1:=Rr.free 1 (by simp)
 have sc2:=Rr.cell 2 _ rfl
 have sf2:=Rr.free 2 (by simp)
 refine tcl 28 fun Kc hK=>?_
 go_simp
 refine hK.out _ _ ?_ (fun hHeld=>?_)
 ·exact HSs.out _ (((hHeld.2.2.2.2.2.set (Or.inl rfl) _).set (Or.inl rfl) _).set (Or.inl rfl) _)
 clear hK Kc
 refine wpAnyH_done (by kernel_rfl) ?_ _
 have kxx:=hHeld.2.2.2.2.2
 have R2:=((Rr.drew.set 0 (.int .i64 t.v0) (by simp)).set 1 (.int .i64 (IntKind.i64.wrap (t.x0- t.x1))) (by simp)).set 2 (.int .i64 (IntKind.i64.wrap (t.y0- t.y1))) (by simp)
 have BX:=bW.trans (kxx.below (B:=w.heap.size) (by omega) (fun k e=>by omega))
 have e0:=R2.cell 0 _ rfl
 have e1:=R2.cell 1 _ rfl
 have e2:=R2.cell 2 _ rfl
 clear hHeld HSs kxx Rr
 try go_wp2
 exact bodyPost_ret (v:= .agg #[.int .i64 t.v0, .int .i64 (IntKind.i64.wrap (t.x0- t.x1)), .int .i64 (IntKind.i64.wrap (t.y0- t.y1))]) (by simp[results,Tryz.results83,go_sem, *]) rfl ⟨rfl,BX⟩
set_option maxRecDepth 100000 in
set_option maxHeartbeats 4000000 in
theorem rgA2(t:Tr)(w:World):
  Calls Tryz.prog 83 #[trV t, .int .i64 2] w fun e w'=>e= .returned (.agg #[.int .i64 t.v1, .int .i64 (IntKind.i64.wrap (t.x1- t.x2)), .int .i64 (IntKind.i64.wrap (t.y1- t.y2))])∧Below w.heap.size w w':=by
 obtain⟨W,hW⟩: ∃ W,W=((w.alloc (.cells #[.int .i64 t.v0, .int .i64 t.v1, .int .i64 t.v2, .int .i64 t.x0, .int .i64 t.y0, .int .i64 t.x1, .int .i64 t.y1, .int .i64 t.x2, .int .i64 t.y2] 54)).alloc (.cells #[.int .i64 0, .int .i64 0, .int .i64 0] 122)):=⟨_,rfl⟩
 have bW:Below w.heap.size w W:=by rw[hW];exact(((Below.refl _ _).alloc (Nat.le_refl _) _).alloc (by simp<;>omega) _)
 have zW:W.heap.size=w.heap.size+2:=by rw[hW];simp
 have Rh:Row W (w.heap.size) [.int .i64 t.v0, .int .i64 t.v1, .int .i64 t.v2, .int .i64 t.x0, .int .i64 t.y0, .int .i64 t.x1, .int .i64 t.y1, .int .i64 t.x2, .int .i64 t.y2]:=by
  have h0:=Row.new w [.int .i64 t.v0, .int .i64 t.v1, .int .i64 t.v2, .int .i64 t.x0, .int .i64 t.y0, .int .i64 t.x1, .int .i64 t.y1, .int .i64 t.x2, .int .i64 t.y2] 54
  rw[hW];exact(h0.alloc _ (by simp<;>omega))
 have lh:w.heap.size<W.heap.size:=by omega
 have Rr:Row W (w.heap.size+1) [.int .i64 0, .int .i64 0, .int .i64 0]:=by
  have h0:=Row.new (w.alloc (.cells #[.int .i64 t.v0, .int .i64 t.v1, .int .i64 t.v2, .int .i64 t.x0, .int .i64 t.y0, .int .i64 t.x1, .int .i64 t.y1, .int .i64 t.x2, .int .i64 t.y2] 54)) [.int .i64 0, .int .i64 0, .int .i64 0] 122
  simp only[World.size_alloc]at h0
  rw[hW];exact h0
 have lr:w.heap.size+1<W.heap.size:=by omega
 have HW:((w.alloc (.cells #[.int .i64 t.v0, .int .i64 t.v1, .int .i64 t.v2, .int .i64 t.x0, .int .i64 t.y0, .int .i64 t.x1, .int .i64 t.y1, .int .i64 t.x2, .int .i64 t.y2] 54)).alloc (.cells #[.int .i64 0, .int .i64 0, .int .i64 0] 122))=W:=hW.symm
 clear hW
 have d0:=Rh.cell 1 _ rfl
 have d1:=Rh.cell 5 _ rfl
 have d2:=Rh.cell 6 _ rfl
 have d3:=Rh.cell 7 _ rfl
 have d4:=Rh.cell 8 _ rfl
 have n0: ¬(w.heap.size=w.heap.size+1):=by omega
 go_enter Tryz.func83,Tryz.ntmps83
 go_wp2
 have HSs:Hid (∀ w',Keep (fun k=>k=w.heap.size+1) W w'→(fun w'=>w'.cell? ⟨w.heap.size,1,none⟩=some (.int .i64 t.v1)∧w'.cell? ⟨w.heap.size,5,none⟩=some (.int .i64 t.x1)∧w'.cell? ⟨w.heap.size,6,none⟩=some (.int .i64 t.y1)∧w'.cell? ⟨w.heap.size,7,none⟩=some (.int .i64 t.x2)∧w'.cell? ⟨w.heap.size,8,none⟩=some (.int .i64 t.y2)∧Keep (fun k=>k=w.heap.size+1) W w') w'):=by
  unfold Hid
  intro w' hb
  exact⟨(hb.cell (p:=⟨w.heap.size,1,none⟩) lh n0).trans d0,(hb.cell (p:=⟨w.heap.size,5,none⟩) lh n0).trans d1,(hb.cell (p:=⟨w.heap.size,6,none⟩) lh n0).trans d2,(hb.cell (p:=⟨w.heap.size,7,none⟩) lh n0).trans d3,(hb.cell (p:=⟨w.heap.size,8,none⟩) lh n0).trans d4,hb⟩
 refine wp_region_held_drew (S:=fun w'=>w'.cell? ⟨w.heap.size,1,none⟩=some (.int .i64 t.v1)∧w'.cell? ⟨w.heap.size,5,none⟩=some (.int .i64 t.x1)∧w'.cell? ⟨w.heap.size,6,none⟩=some (.int .i64 t.y1)∧w'.cell? ⟨w.heap.size,7,none⟩=some (.int .i64 t.x2)∧w'.cell? ⟨w.heap.size,8,none⟩=some (.int .i64 t.y2)∧Keep (fun k=>k=w.heap.size+1) W w') (by kernel_rfl) ?_ (fun hHeld=>?_)
 ·exact HSs.out _ ((Keep.refl _ _).drew)
 refine tn 0 ?_;refine tn 1 ?_
 simp only[Act.put,ps1,ps2,ps3]
 refine tn 2 ?_;refine tn 3 ?_
 simp only[Act.put,ps1,ps2,ps3]
 refine tn 4 ?_;refine tn 5 ?_
 simp only[Act.put,ps1,ps2,ps3]
 refine tn 6 ?_;refine tn 7 ?_
 simp only[Act.put,ps1,ps2,ps3]
 refine tn 8 ?_;refine tn 9 ?_
 simp only[Act.put,ps1,ps2,ps3]
 refine tn 10 ?_;refine tn 11 ?_
 simp only[Act.put,ps1,ps2,ps3]
 refine tn 12 ?_;refine tn 13 ?_
 simp only[Act.put,ps1,ps2,ps3]
 refine tn 14 ?_;refine tn 15 ?_
 simp only[Act.put,ps1,ps2,ps3]
 refine tn 16 ?_;refine tn 17 ?_
 simp only[Act.put,ps1,ps2,ps3]
 refine tn 18 ?_;refine tn 19 ?_
 simp only[Act.put,ps1,ps2,ps3]
 refine tn 20 ?_;refine tn 21 ?_
 simp only[Act.put,ps1,ps2,ps3]
 refine tn 22 ?_;refine tn 23 ?_
 simp only[Act.put,ps1,ps2,ps3]
 refine tn 24 ?_;refine tn 25 ?_
 simp only[Act.put,ps1,ps2,ps3]
 refine tn 26 ?_;refine tn 27 ?_
 simp only[Act.put,ps1,ps2,ps3]
 have sc0:=Rr.cell 0 _ rfl
 have sf0:=Rr.free 0 (by simp)
 have sc1:=Rr.cell 1 _ rfl
 have sf1:=Rr.free 1 (by simp)
 have sc2:=Rr.cell 2 _ rfl
 have sf2:=Rr.free 2 (by simp)
 refine tcl 28 fun Kc hK=>?_
 go_simp
 refine hK.out _ _ ?_ (fun hHeld=>?_)
 ·exact HSs.out _ (((hHeld.2.2.2.2.2.set (Or.inl rfl) _).set (Or.inl rfl) _).set (Or.inl rfl) _)
 clear hK Kc
 refine wpAnyH_done (by kernel_rfl) ?_ _
 have kxx:=hHeld.2.2.2.2.2
 have R2:=((Rr.drew.set 0 (.int .i64 t.v1) (by simp)).set 1 (.int .i64 (IntKind.i64.wrap (t.x1- t.x2))) (by simp)).set 2 (.int .i64 (IntKind.i64.wrap (t.y1- t.y2))) (by simp)
 have BX:=bW.trans (kxx.below (B:=w.heap.size) (by omega) (fun k e=>by omega))
 have e0:=R2.cell 0 _ rfl
 have e1:=R2.cell 1 _ rfl
 have e2:=R2.cell 2 _ rfl
 clear hHeld HSs kxx Rr
 try go_wp2
 exact bodyPost_ret (v:= .agg #[.int .i64 t.v1, .int .i64 (IntKind.i64.wrap (t.x1- t.x2)), .int .i64 (IntKind.i64.wrap (t.y1- t.y2))]) (by simp[results,Tryz.results83,go_sem, *]) rfl ⟨rfl,BX⟩
theorem rgFol(t:Tr)(i:Nat)(hi:i<3)(ho: ∀ i,(-4611686018427387904<t.x i∧t.x i<4611686018427387904)∧(-4611686018427387904<t.y i∧t.y i<4611686018427387904))(w:World):
  Calls Tryz.prog 82 #[trV t, .int .i64 (i:Int)] w fun e w'=>e= .returned (.agg #[.int .i64 (folK t i).1, .int .i64 (folK t i).2.1, .int .i64 (folK t i).2.2])∧Below w.heap.size w w':=by
 have h0:=ho 0
 have h1:=ho 1
 have h2:=ho 2
 simp[Tr.x,Tr.y]at h0 h1 h2
 rcases lt3 hi with rfl|rfl|rfl
 ·have e:folK t 0=(t.v1,IntKind.i64.wrap (t.x1- t.x0),IntKind.i64.wrap (t.y1- t.y0)):=by
   rw[wrap_i64,wrap_i64,wrap_in (by omega) (by omega),wrap_in (by omega) (by omega)]
   simp[folK,nx,Tr.v,Tr.x,Tr.y]
  rw[e]
  exact rgF0 t w
 ·have e:folK t 1=(t.v2,IntKind.i64.wrap (t.x2- t.x1),IntKind.i64.wrap (t.y2- t.y1)):=by
   rw[wrap_i64,wrap_i64,wrap_in (by omega) (by omega),wrap_in (by omega) (by omega)]
   simp[folK,nx,Tr.v,Tr.x,Tr.y]
  rw[e]
  exact rgF1 t w
 ·have e:folK t 2=(t.v0,IntKind.i64.wrap (t.x0- t.x2),IntKind.i64.wrap (t.y0- t.y2)):=by
   rw[wrap_i64,wrap_i64,wrap_in (by omega) (by omega),wrap_in (by omega) (by omega)]
   simp[folK,nx,Tr.v,Tr.x,Tr.y]
  rw[e]
  exact rgF2 t w
theorem rgAhd(t:Tr)(i:Nat)(hi:i<3)(ho: ∀ i,(-4611686018427387904<t.x i∧t.x i<4611686018427387904)∧(-4611686018427387904<t.y i∧t.y i<4611686018427387904))(w:World):
  Calls Tryz.prog 83 #[trV t, .int .i64 (i:Int)] w fun e w'=>e= .returned (.agg #[.int .i64 (ahdK t i).1, .int .i64 (ahdK t i).2.1, .int .i64 (ahdK t i).2.2])∧Below w.heap.size w w':=by
 have h0:=ho 0
 have h1:=ho 1
 have h2:=ho 2
 simp[Tr.x,Tr.y]at h0 h1 h2
 rcases lt3 hi with rfl|rfl|rfl
 ·have e:ahdK t 0=(t.v2,IntKind.i64.wrap (t.x2- t.x0),IntKind.i64.wrap (t.y2- t.y0)):=by
   rw[wrap_i64,wrap_i64,wrap_in (by omega) (by omega),wrap_in (by omega) (by omega)]
   simp[ahdK,nx,Tr.v,Tr.x,Tr.y]
  rw[e]
  exact rgA0 t w
 ·have e:ahdK t 1=(t.v0,IntKind.i64.wrap (t.x0- t.x1),IntKind.i64.wrap (t.y0- t.y1)):=by
   rw[wrap_i64,wrap_i64,wrap_in (by omega) (by omega),wrap_in (by omega) (by omega)]
   simp[ahdK,nx,Tr.v,Tr.x,Tr.y]
  rw[e]
  exact rgA1 t w
 ·have e:ahdK t 2=(t.v1,IntKind.i64.wrap (t.x1- t.x2),IntKind.i64.wrap (t.y1- t.y2)):=by
   rw[wrap_i64,wrap_i64,wrap_in (by omega) (by omega),wrap_in (by omega) (by omega)]
   simp[ahdK,nx,Tr.v,Tr.x,Tr.y]
  rw[e]
  exact rgA2 t w
end Go.Proofs.YtjmhfdimoeaplaaGreat
