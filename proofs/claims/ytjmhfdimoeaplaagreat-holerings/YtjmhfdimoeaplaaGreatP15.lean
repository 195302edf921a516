/-
  Joined texts, part 15:
  slices.Sorted(maps.Keys(m)) at a map[int]struct{}: the library's contracts laid over this 
  The landed mesh's Around: the keys of a vertex's map of faces, sorted.
  The landed mesh does what a mesh must do.
  What the program's mesh must do, of what the seat has of it, and that the landed one does 
  Which of two triangles is taken, where four points lie on a circle: the order of points, w
  Of the points to the left of an edge, what does away with what is an order: so of some the
  The faces of the Delaunay mesh of a set of points of the plane: those that turn left and t
  The faces at one corner: they go about it once. It imports nothing of the program.
  The faces that a point does away with: they hang together, and the way from each of them t
  Sites on a torus: their lifts, faces by vertices and offs, normal forms, lists of faces in
  How the document's own mesh is reckoned: the nearest lift, the lift that goes with an edge
  Meshes that are the Delaunay mesh of sites on a torus: their edges, which face lies across
  What stands about a vertex: wedges, each with the one to its left, the ring. It imports no
-/
import Derived.Test.YtjmhfdimoeaplaaGreatP10
import Derived.Shelf.SlIterI.Nil
import Derived.Shelf.SortM.Plain
import Derived.Shelf.SortM.SortNone
import Derived.Ground.GgzProg
import Derived.Ground.SlgmProg
import Derived.Shelf.AbstractIn
import Derived.Test.YtjmhfdimoeaplaaGreatP14
import Derived.Test.YtjmhfdimoeaplaaGreatP9
import Derived.Test.YtjmhfdimoeaplaaGreatP7
import Derived.Test.YtjmhfdimoeaplaaGreatP2
namespace Go.Proofs.YtjmhfdimoeaplaaGreat
open Go.RowKit Go.Maps Go.Sort Go.Shelf
set_option linter.unusedVariables false
def keysAR:Ren where
 f:=fun|7=>206|10=>230|n=>n
 t:=fun|23=>133|26=>3|3=>110|28=>280|0=>0|27=>279|33=>143|4=>4|n=>n
 g:=fun n=>n
theorem keysA:SlLaysZI.n7 Tryz.prog keysAR where
 mixed:=by kernel_rfl
 f7:=⟨Tryz.f206.name,by decide,Tryz.func206.trans (congrArg some (by kernel_rfl))⟩
 f10:=⟨Tryz.f230.name,by decide,Tryz.func230.trans (congrArg some (by kernel_rfl))⟩
 t0:=Tryz.underlying0
 a0:=Tryz.isAgg0
 z0:=Tryz.sizeOf0
 v0:=Tryz.zeroValue0
 t4:=Tryz.underlying4
 a4:=Tryz.isAgg4
 z4:=Tryz.sizeOf4
 v4:=Tryz.zeroValue4
 t23:=Tryz.underlying133
 a23:=Tryz.isAgg133
 z23:=Tryz.sizeOf133
 v23:=Tryz.zeroValue133
 t26:=Tryz.underlying3
 a26:=Tryz.isAgg3
 z26:=Tryz.sizeOf3
 v26:=Tryz.zeroValue3
 t27:=Tryz.underlying279
 a27:=Tryz.isAgg279
 z27:=Tryz.sizeOf279
 v27:=Tryz.zeroValue279
 t28:=Tryz.underlying280
 a28:=Tryz.isAgg280
 z28:=Tryz.sizeOf280
 v28:=Tryz.zeroValue280
 t33:=Tryz.underlying143
 a33:=Tryz.isAgg143
 z33:=Tryz.sizeOf143
 v33:=Tryz.zeroValue143
def sortedAR:Ren where
 f:=fun|6=>205|8=>228|9=>229|11=>239|13=>116|12=>240|23=>175|24=>176|14=>242|15=>243|16=>244|17=>245|18=>246|19=>247|20=>248|21=>249|22=>250|25=>251|26=>217|27=>218|28=>252|29=>253|30=>177|31=>254|n=>n
 t:=fun|26=>3|28=>280|24=>60|0=>0|3=>3|37=>175|48=>174|50=>147|4=>4|40=>254|39=>253|45=>258|5=>5|9=>9|51=>291|55=>295|57=>306|58=>307|33=>143|n=>n
 g:=fun n=>n
theorem sortedA:SlLaysZI.n6 Tryz.prog sortedAR where
 mixed:=by kernel_rfl
 f6:=⟨Tryz.f205.name,by decide,Tryz.func205.trans (congrArg some (by kernel_rfl))⟩
 f8:=⟨Tryz.f228.name,by decide,Tryz.func228.trans (congrArg some (by kernel_rfl))⟩
 f11:=⟨Tryz.f239.name,by decide,Tryz.func239.trans (congrArg some (by kernel_rfl))⟩
 t0:=Tryz.underlying0
 a0:=Tryz.isAgg0
 z0:=Tryz.sizeOf0
 v0:=Tryz.zeroValue0
 t24:=Tryz.underlying60
 a24:=Tryz.isAgg60
 z24:=Tryz.sizeOf60
 v24:=Tryz.zeroValue60
 t26:=Tryz.underlying3
 a26:=Tryz.isAgg3
 z26:=Tryz.sizeOf3
 v26:=Tryz.zeroValue3
 t28:=Tryz.underlying280
 a28:=Tryz.isAgg280
 z28:=Tryz.sizeOf280
 v28:=Tryz.zeroValue280
 i26:=by kernel_rfl
def sortAR:Ren where
 f:=fun|5=>229|8=>116|7=>240|19=>175|20=>176|10=>242|11=>243|12=>244|13=>245|14=>246|15=>247|16=>248|17=>249|18=>250|30=>251|31=>217|32=>218|33=>252|34=>253|35=>177|40=>254|n=>n
 t:=fun|23=>60|25=>3|3=>3|32=>175|22=>60|0=>0|44=>174|46=>147|4=>4|36=>254|35=>253|41=>258|5=>5|9=>9|53=>291|57=>295|63=>306|64=>307|n=>n
 g:=fun n=>n
theorem sortA:SlLaysM.n5 Tryz.prog sortAR where
 mixed:=by kernel_rfl
 f5:=⟨Tryz.f229.name,by decide,Tryz.func229.trans (congrArg some (by kernel_rfl))⟩
 f7:=⟨Tryz.f240.name,by decide,Tryz.func240.trans (congrArg some (by kernel_rfl))⟩
 f8:=Tryz.func116.trans (congrArg some (by kernel_rfl))
 f10:=⟨Tryz.f242.name,by decide,Tryz.func242.trans (congrArg some (by kernel_rfl))⟩
 f11:=⟨Tryz.f243.name,by decide,Tryz.func243.trans (congrArg some (by kernel_rfl))⟩
 f12:=⟨Tryz.f244.name,by decide,Tryz.func244.trans (congrArg some (by kernel_rfl))⟩
 f13:=⟨Tryz.f245.name,by decide,Tryz.func245.trans (congrArg some (by kernel_rfl))⟩
 f14:=⟨Tryz.f246.name,by decide,Tryz.func246.trans (congrArg some (by kernel_rfl))⟩
 f15:=⟨Tryz.f247.name,by decide,Tryz.func247.trans (congrArg some (by kernel_rfl))⟩
 f16:=⟨Tryz.f248.name,by decide,Tryz.func248.trans (congrArg some (by kernel_rfl))⟩
 f17:=⟨Tryz.f249.name,by decide,Tryz.func249.trans (congrArg some (by kernel_rfl))⟩
 f18:=⟨Tryz.f250.name,by decide,Tryz.func250.trans (congrArg some (by kernel_rfl))⟩
 f19:=Tryz.func175.trans (congrArg some (by kernel_rfl))
 f20:=Tryz.func176.trans (congrArg some (by kernel_rfl))
 f30:=⟨Tryz.f251.name,by decide,Tryz.func251.trans (congrArg some (by kernel_rfl))⟩
 f31:=Tryz.func217.trans (congrArg some (by kernel_rfl))
 f32:=Tryz.func218.trans (congrArg some (by kernel_rfl))
 f33:=⟨Tryz.f252.name,by decide,Tryz.func252.trans (congrArg some (by kernel_rfl))⟩
 f34:=⟨Tryz.f253.name,by decide,Tryz.func253.trans (congrArg some (by kernel_rfl))⟩
 f35:=⟨Tryz.f177.name,by decide,Tryz.func177.trans (congrArg some (by kernel_rfl))⟩
 f40:=⟨Tryz.f254.name,by decide,Tryz.func254.trans (congrArg some (by kernel_rfl))⟩
 t0:=Tryz.underlying0
 a0:=Tryz.isAgg0
 z0:=Tryz.sizeOf0
 v0:=Tryz.zeroValue0
 t3:=Tryz.underlying3
 a3:=Tryz.isAgg3
 z3:=Tryz.sizeOf3
 v3:=Tryz.zeroValue3
 t4:=Tryz.underlying4
 a4:=Tryz.isAgg4
 z4:=Tryz.sizeOf4
 v4:=Tryz.zeroValue4
 t5:=Tryz.underlying5
 a5:=Tryz.isAgg5
 z5:=Tryz.sizeOf5
 v5:=Tryz.zeroValue5
 t9:=Tryz.underlying9
 a9:=Tryz.isAgg9
 z9:=Tryz.sizeOf9
 v9:=Tryz.zeroValue9
 t22:=Tryz.underlying60
 a22:=Tryz.isAgg60
 z22:=Tryz.sizeOf60
 v22:=Tryz.zeroValue60
 t23:=Tryz.underlying60
 a23:=Tryz.isAgg60
 z23:=Tryz.sizeOf60
 v23:=Tryz.zeroValue60
 t25:=Tryz.underlying3
 a25:=Tryz.isAgg3
 z25:=Tryz.sizeOf3
 v25:=Tryz.zeroValue3
 t32:=Tryz.underlying175
 a32:=Tryz.isAgg175
 z32:=Tryz.sizeOf175
 v32:=Tryz.zeroValue175
 t35:=Tryz.underlying253
 a35:=Tryz.isAgg253
 z35:=Tryz.sizeOf253
 v35:=Tryz.zeroValue253
 t36:=Tryz.underlying254
 a36:=Tryz.isAgg254
 z36:=Tryz.sizeOf254
 v36:=Tryz.zeroValue254
 t41:=Tryz.underlying258
 a41:=Tryz.isAgg258
 z41:=Tryz.sizeOf258
 v41:=Tryz.zeroValue258
 t44:=Tryz.underlying174
 a44:=Tryz.isAgg174
 z44:=Tryz.sizeOf174
 v44:=Tryz.zeroValue174
 t46:=Tryz.underlying147
 a46:=Tryz.isAgg147
 z46:=Tryz.sizeOf147
 v46:=Tryz.zeroValue147
 t53:=Tryz.underlying291
 a53:=Tryz.isAgg291
 z53:=Tryz.sizeOf291
 v53:=Tryz.zeroValue291
 t57:=Tryz.underlying295
 a57:=Tryz.isAgg295
 z57:=Tryz.sizeOf295
 v57:=Tryz.zeroValue295
 t63:=Tryz.underlying306
 a63:=Tryz.isAgg306
 z63:=Tryz.sizeOf306
 v63:=Tryz.zeroValue306
 t64:=Tryz.underlying307
 a64:=Tryz.isAgg307
 z64:=Tryz.sizeOf307
 v64:=Tryz.zeroValue307
theorem sortsI(m:Nat):AnyZI.SortsIn Tryz.prog sortedAR Fence.wide m:=
 ⟨fun blk off cap ss W hH hblk hsz=>callsIn_wide.2 (AnyM.slices_Sort_int sortA blk off cap ss W hH hblk hsz),
  fun p cap W=>callsIn_wide.2 (AnyM.slices_Sort_int_none sortA p cap W)⟩
abbrev itV(b:Nat):Value:= .func (.func 230) #[] #[.pointer (some ⟨b,0,none⟩)]
theorem keysC(mb:Option Nat)(W:World):Calls Tryz.prog 206 #[.map mb] W fun e w'=>e= .returned (itV W.heap.size)∧w'=W.alloc (.cells #[.map mb] 133):=by
 have cK:CallsIn Fence.wide 5 Tryz.prog 206 #[.map mb] W fun e w'=>e= .returned (itV W.heap.size)∧w'=W.alloc (.cells #[.map mb] 133):=AnyZI.keys_in keysA Fence.wide 5 trivial rfl mb W
 exact(callsIn_wide (n:=5)).1 cK
theorem sortedC{H:Type}(b nn:Nat)(D0:DataW H)(R:Value→Option (DataW H×List MemPlace))(w:World)(hown:w.ownsMap Tryz.prog 3 R b nn D0)(hmax:Maps.size D0≤maxLen)(hbytes:Maps.size D0*8≤140737488355328):
  Calls Tryz.prog 205 #[itV w.heap.size] (w.alloc (.cells #[.map (some b)] 133)) fun e w'=> ∃ (v:Value) (ss:List Int),e= .returned v∧ss.Perm (intKeys D0)∧
   w'.ownsRow w.heap.size 3 1 v ss.length ((ss.mergeSort (fun x y=>decide (x≤y))).map encZ)∧(v= .slice none 0 0↔ss= [])∧Below w.heap.size w w':=by
 have hbl:=hown.lt
 have hseq:SeqGives Fence.wide 2 Tryz.prog 230 #[.pointer (some ⟨w.heap.size,0,none⟩)] encZ (fun ss=>ss.Perm (intKeys D0)) (Maps.size D0) (w.alloc (.cells #[.map (some b)] 133)):=
  AnyZI.keys_gives (ρ:=keysAR) { keysA with } Fence.wide _ trivial rfl (by omega) w.heap.size b nn D0 _ (by simp) (by simp) (by
   obtain⟨es,clock,hb,Ft,hs,hD⟩:=hown
   exact⟨es,clock,(Below.heap_alloc _ _ b hbl).trans hb,Ft,hs,hD⟩)
 have cS:=AnyZI.sorted_in sortedA Fence.wide 5 trivial trivial trivial trivial rfl (by omega) (sortsI _) (enters_of Tryz.func229 (by kernel_rfl) rfl) 230 #[.pointer (some ⟨w.heap.size,0,none⟩)] trivial (enters_of Tryz.func230 (by kernel_rfl) rfl) _ _ hmax hbytes _ hseq
 change CallsIn _ _ Tryz.prog 205 _ _ _ at cS
 refine((callsIn_wide (n:=5)).1 cS).mono ?_
 rintro e w' ⟨v,ss,rfl,hS,hrow,hnil,hb⟩
 exact⟨v,ss,rfl,hS,ownsRow_base_a hrow (by simp),hnil,((Below.refl _ w).alloc (Nat.le_refl _) _).trans (hb.mono (by simp))⟩
end Go.Proofs.YtjmhfdimoeaplaaGreat
namespace Go.Proofs.YtjmhfdimoeaplaaGreat
open Go.RowKit Go.Maps Go.Sort
set_option linter.unusedVariables false
theorem around_sorted{S:Ms}{m:Nat}(hk:MsOk S m)(v:Int):(around S.C v).Pairwise (· < ·):=by
 unfold around
 rw [List.pairwise_map]
 exact hk.fs.filter _
theorem merge_around{S:Ms}{m:Nat}(hk:MsOk S m)(v:Int){ss:List Int}(h:ss.Perm (around S.C v)):ss.mergeSort (fun x y=>decide (x≤y))=around S.C v:=by
 rw [mergeSort_of_perm_i h]
 exact List.mergeSort_of_pairwise ((around_sorted hk v).imp (fun{a b} h=>by simp only [decide_eq_true_eq];omega))
theorem keys_perm{w:World}{b n:Nat}{D:DataW Value}{g:Int→Option Value}(hown:w.ownsMap Tryz.prog 3 rV b n D)(hg: ∀ a kl,keyOf Tryz.prog 3 (.int .i64 a)=some kl→Maps.has D kl=(g a).isSome){L:List Int}(hn:L.Nodup)(h64: ∀ x∈L,I64 x)(hL: ∀ x,g x≠none↔x∈L):L.Perm (intKeys D):=by
 refine CollectedI.perm (left:=fun _=>false) ⟨hn,fun x=>?_⟩ hown (int_keyed Tryz.underlying3) Tryz.underlying3 (fun _=>rfl)
 constructor
 ·intro hx
  refine⟨?_,rfl⟩
  rw [hg x _ (intKey (h64 x hx))]
  cases e:g x with
  |none=>exact absurd e ((hL x).2 hx)
  |some u=>rfl
 ·rintro⟨h1,_⟩
  obtain⟨es,rfl,hko⟩:=hown.keysOf
  have h1':=h1
  rw [has_eq,List.any_eq_true]at h1
  obtain⟨q,hq,hs⟩:=h1
  obtain⟨u,hu⟩:=hko q hq
  obtain⟨y,rfl,hy,_⟩:=Maps.keyOf_i64 Tryz.underlying3 hu
  rw [hy]at hs
  have e:y=x:=by simpa [Lit.sameKey]using hs
  subst e
  have h2:=hg y _ hu
  rw [hy,h1']at h2
  refine(hL y).1 (fun e=>?_)
  rw [e]at h2
  cases h2
theorem gotL_nil(w w':World)(h:Below w.heap.size w w'):GotL w [] (.returned (.slice none 0 0)) w':=⟨none,0,rfl,own_none _ _ _,h⟩
theorem around_no{S:Ms}{m:Nat}(hk:MsOk S m){v:Int}(h:isV S v=false):around S.C v= []:=by
 refine List.eq_nil_iff_forall_not_mem.2 (fun x hx=>?_)
 obtain⟨c,hc,_,j,hj,e⟩:=around_iff.1 hx
 have:=hk.fi c hc j hj
 rw [e,h]at this
 cases this
set_option maxRecDepth 100000 in
theorem mAround(base p:Nat)(X:Mx)(S:Ms)(m:Nat)(F:Nat→Prop)(w:World)(h:MeI base p X F w)(hS:MeOk X S)(hk:MsOk S m)(hm:m≤1000)(v:Int)(hv:In64 v){M:List Int}(hM:M=around S.C v):
  Calls Tryz.prog 149 #[ptR p, .int .i64 v] w (GotL w M):=by
 have hT:X.av.T≤1000:=by rw [hS.av];have:=hk.vt;omega
 have HI:Hid _:=h
 have HD:Hid (isV S v=decide (v∈X.av.L)):=isV_dec hS hk v
 cases hb:isV S v with
 |false=>
  rw [hb]at HD
  have hM0:M= []:=hM.trans (around_no hk hb)
  subst hM0
  clear h hS hk hM
  go_enter Tryz.func149,Tryz.ntmps149
  go_wp2_with (go_at_call 70;fail)
  refine(mHasV base p X F w HI.out hT v hv HD.out).mono ?_
  rintro e w1 ⟨rfl,b1⟩
  go_wp2
  go_ret
  exact gotL_nil _ _ b1
 |true=>
  rw [hb]at HD
  obtain⟨a,ha,rfl⟩:=isV_iff.1 hb
  obtain⟨g,k,hXa,hg,hak,hkn,hcap,hc⟩:=h.vcell hS hk ha
  have q3:=h.row.cell 3 _ rfl
  rw [hXa]at q3
  have u4:=(hc 4 _ rfl).1
  have lp:=h.row.lt
  have HF:Hid _:=h.fcs a.no ((hS.Lv _).2 hb)
  have HG:Hid (∀ f,X.gf a.no f≠none↔f∈around S.C a.no):=hS.gf a ha
  have HK:Hid _:=hk
  have HM:Hid _:=hM
  have h64:Hid (∀ x∈around S.C a.no,I64 x∧x∈S.C.map Ce.no):=by
   intro x hx
   obtain⟨c,hc,rfl,_⟩:=around_iff.1 hx
   have:=hk.fmem hc
   have:=hk.ft
   exact⟨⟨by omega,by omega⟩,List.mem_map.2 ⟨c,hc,rfl⟩⟩
  have hCl:Hid (S.C.length≤1000):=by
   have h1:=hk.fp.length_eq
   have h2:=hk.ft
   have h3:=nodup_sub (l:=S.C.map Ce.no) (m:=(List.range S.af.T).map fun k:Nat=>(k:Int)) (List.pairwise_map.2 (hk.fs.imp (fun{a b} h=>by omega))) (by
    intro x hx
    obtain⟨c,hc,rfl⟩:=List.mem_map.1 hx
    have:=(hk.fmem hc).2
    exact List.mem_map.2 ⟨c.no.toNat,List.mem_range.2 (by omega),by omega⟩)
   simp only [List.length_map,List.length_range]at h3
   unfold Hid
   omega
  obtain⟨mb,hmb⟩: ∃ v,v=X.M a.no:=⟨_,rfl⟩
  rw [←hmb]at u4 HF
  obtain⟨nv,hnv⟩: ∃ v,v=X.nv:=⟨_,rfl⟩
  obtain⟨ca,hca⟩: ∃ v,v=X.ca:=⟨_,rfl⟩
  rw [←hnv,←hca]at q3
  rw [←hnv]at hkn
  have hlt:(k:Int)<(nv:Int):=by omega
  have HAK:Hid _:=hak
  have hv':In64 (k:Int):=hak▸hv
  rw [hak]
  rw [hak]at HD
  clear h hS hk hM hc hXa hnv hca hmb ha hb hcap hak hv
  go_enter Tryz.func149,Tryz.ntmps149
  go_wp2_with (go_at_call 70;fail)
  refine(mHasV base p X F w HI.out hT (k:Int) hv' HD.out).mono ?_
  rintro e w1 ⟨rfl,b1⟩
  replace q3:=(b1.cell (p:=⟨p,3,none⟩) lp).trans q3
  replace u4:=(b1.cell (p:=⟨g,k*5+4,none⟩) hg).trans u4
  go_wp2_with (go_at_call 206;refine(keysC (some mb) w1).mono ?_;rintro e w2 ⟨rfl,rfl⟩;fail)
  refine(keysC (some mb) w1).mono ?_
  rintro e w2 ⟨rfl,rfl⟩
  go_wp2_with (go_at_call 205;fail)
  obtain⟨D,n,hown,hgD⟩:=(MapL.below HF.out b1).ex
  have hsz:=(MapL.bound intL hown hgD (S.C.map Ce.no) (fun x _ hne=>(h64.out x ((HG.out x).1 hne)).2)).2
  rw [List.length_map]at hsz
  have hper:=keys_perm hown (fun a kl ha=>has_lk (hgD a kl ha)) ((around_sorted HK.out a.no).imp (fun{a b} h=>by omega)) (fun x hx=>(h64.out x hx).1) HG.out
  refine(sortedC mb n D rV w1 hown (by have:=hCl.out;unfold maxLen;omega) (by have:=hCl.out;omega)).mono ?_
  rintro e w3 ⟨v,ss,rfl,hss,hrow,hnil,b3⟩
  go_wp2
  go_ret
  have hp2:ss.Perm (around S.C a.no):=hss.trans hper.symm
  rw [merge_around HK.out a.no hp2,hp2.length_eq,←HM.out]at hrow
  obtain⟨a',c',rfl,hO⟩:=OwnS.form hrow
  exact⟨a',c',rfl,ownsRow_base_a hO b1.size,b1.trans (b3.mono b1.size)⟩
end Go.Proofs.YtjmhfdimoeaplaaGreat
namespace Go.Proofs.YtjmhfdimoeaplaaGreat
open Go.RowKit Go.Maps
set_option linter.unusedVariables false
theorem faceOf_zero{S:Ms}{f:Int}(h:isF S f=false):faceOf S f=trZero:=by
 unfold faceOf
 rw [m_faceOf_no h]
theorem crossed_no{S:Ms}{f i:Int}(h:isF S f=false):crossed S f i=none:=by
 unfold crossed
 rw [m_faceOf_no h]
theorem noFace{base p:Nat}{X:Mx}{S:Ms}{m:Nat}{F:Nat→Prop}{w:World}(h:MeI base p X F w)(hS:MeOk X S)(hk:MsOk S m)(hm:m≤1000){f:Int}(hf:In64 f)(hn:isF S f=false): ∀ w',Below w.heap.size w w'→Calls Tryz.prog 56 #[ptR p, .int .i64 f] w' fun e w''=>e= .returned (.tuple #[trV trZero, .bool false])∧Below w'.heap.size w' w'':=
 fun w' hb=>mFaceL base p X S m F w' (h.below hb) hS hk hm f hf (faceOf_zero hn).symm hn.symm
theorem tr64v{t:Tr}(h:Tr64 t){i:Nat}(hi:i<3):In64 (t.v i):=h.v i
theorem meSpec:MeSpec MeP where
 keep:=MeP.keep
 ft:=MeP.ft
 new base n w hb hn:=mNew base n w hb hn
 side base p S m F w h hk hm:=by
  obtain⟨X,hX,hS⟩:=h.ex
  rw [←hS.n]
  exact mSide base p X F w hX
 addV0 base p S m F w h hk hm x y id _ _ _ hq:=by
  obtain⟨X,hX,hS⟩:=h.ex
  refine(mAddV0 base p X F w hX x y id ?_).mono ?_
  ·rw [hS.n]
   intro hh
   have:inSq S x y=true:=decide_eq_true ⟨hh.1.1,hh.1.2,hh.2.1,hh.2.2⟩
   rw [hq]at this
   cases this
  ·rintro e w' ⟨rfl,b⟩
   exact⟨rfl,h.left b⟩
 addV base p S m F w h hk hm x y id _ _ _ hq:=by
  obtain⟨X,hX,hS⟩:=h.ex
  exact mAddV base p X S m F w hX hS hk hm x y id hq
 dropV0 base p S m F w h hk hm v hv hno:=by
  obtain⟨X,hX,hS⟩:=h.ex
  refine(mDropV0 base p X S m F w hX hS hk hm v hv hno).mono ?_
  rintro e w' ⟨rfl,b⟩
  exact⟨rfl,h.left b⟩
 dropV base p S m F w h hk hm v i a hv ha hav har:=by
  obtain⟨X,hX,hS⟩:=h.ex
  subst hav
  exact mDropV base p X S m F w hX hS hk hm i a ha har
 vert base p S m F w h hk hm v hv:=by
  obtain⟨X,hX,hS⟩:=h.ex
  exact mVert base p X S m F w hX hS hk hm v hv
 addF0 base p S m F w h hk hm t e0 ht he hne:=by
  obtain⟨X,hX,hS⟩:=h.ex
  subst he
  refine(mAddF base p X S m F w hX hS hk hm t ?_).mono ?_
  ·exact fun i hi=>tr64v ht hi
  ·rintro e w' (⟨_,rfl,b⟩|⟨h0,_⟩)
   ·exact⟨rfl,h.left b⟩
   ·exact absurd h0 hne
 addF base p S m F w h hk hm t ht h0:=by
  obtain⟨X,hX,hS⟩:=h.ex
  refine(mAddF base p X S m F w hX hS hk hm t ?_).mono ?_
  ·exact fun i hi=>tr64v ht hi
  ·rintro e w' (⟨hne,_⟩|⟨_,rfl,b⟩)
   ·exact absurd h0 hne
   ·exact⟨rfl,b⟩
 dropF0 base p S m F w h hk hm f hf hn:=by
  obtain⟨X,hX,hS⟩:=h.ex
  refine(mDropF0 (ptR p) f w (noFace hX hS hk hm hf hn w (Below.refl _ _))).mono ?_
  rintro e w' ⟨rfl,b⟩
  exact⟨rfl,h.left b⟩
 dropF base p S m F w h hk hm f i c hf hc hcf:=by
  obtain⟨X,hX,hS⟩:=h.ex
  subst hcf
  exact mDropF base p X S m F w hX hS hk hm i c hc
 face base p S m F w h hk hm f hf:=by
  obtain⟨X,hX,hS⟩:=h.ex
  exact mFace base p X S m F w hX hS hk hm f hf
 corner0 base p S m F w h hk hm f i hf hi hn:=by
  obtain⟨X,hX,hS⟩:=h.ex
  exact mCorner0 (ptR p) f i w (noFace hX hS hk hm hf hn)
 corner base p S m F w h hk hm f i hf hi hb:=by
  obtain⟨X,hX,hS⟩:=h.ex
  exact mCorner base p X S m F w hX hS hk hm f i hf hi hb
 across base p S m F w h hk hm f i hf hi:=by
  obtain⟨X,hX,hS⟩:=h.ex
  cases hb:isF S f with
  |true=>exact mAcross base p X S m F w hX hS hk hm f i hf hi hb
  |false=>
   rw [crossed_no hb]
   exact mAcross0 (ptR p) f i w (noFace hX hS hk hm hf hb)
 around base p S m F w h hk hm v hv M hM:=by
  obtain⟨X,hX,hS⟩:=h.ex
  exact mAround base p X S m F w hX hS hk hm v hv hM
 dump base p S m F w h hk hm:=by
  obtain⟨X,hX,hS⟩:=h.ex
  exact mDump base p X S m F w hX hS hk hm
 check base p S m F w h hk hm r hr:=by
  obtain⟨X,hX,hS⟩:=h.ex
  exact mCheck base p X S m F w hX hS hk hm hr
structure MeSp(MP:MeShape):Prop where
 keep: ∀ {base p:Nat} {S:Ms} {F G:Nat→Prop} {w w':World},MP base p S F w→Keep G w w'→(∀ k,F k→ ¬G k)→MP base p S F w'
 ft: ∀ {base p:Nat} {S:Ms} {F:Nat→Prop} {w:World},MP base p S F w→ ∀ k,F k→base≤k∧k<w.heap.size
 new: ∀ (base:Nat) (n:Int) (w:World),base≤w.heap.size→1≤n∧n≤17179869184→Calls Tryz.prog 45 #[.int .i64 n] w fun e w'=> ∃ (p:Nat) (F:Nat→Prop),e= .returned (ptR p)∧MP base p (Ms.new n) F w'∧(∀ k,F k→w.heap.size≤k)∧Below w.heap.size w w'
 side: ∀ (base p:Nat) (S:Ms) (m:Nat) (F:Nat→Prop) (w:World),MP base p S F w→MsOk S m→m≤1000→Calls Tryz.prog 68 #[ptR p] w fun e w'=>e= .returned (.int .i64 S.n)∧Below w.heap.size w w'
 addV0: ∀ (base p:Nat) (S:Ms) (m:Nat) (F:Nat→Prop) (w:World),MP base p S F w→MsOk S m→m≤1000→ ∀ x y id:Int,In64 x→In64 y→In64 id→inSq S x y=false→Calls Tryz.prog 46 #[ptR p, .agg #[.int .i64 x, .int .i64 y], .int .i64 id] w fun e w'=>e= .returned (.int .i64 (-1))∧Left (MP base p S) F w w'
 addV: ∀ (base p:Nat) (S:Ms) (m:Nat) (F:Nat→Prop) (w:World),MP base p S F w→MsOk S m→m≤1000→ ∀ x y id:Int,In64 x→In64 y→In64 id→inSq S x y=true→Calls Tryz.prog 46 #[ptR p, .agg #[.int .i64 x, .int .i64 y], .int .i64 id] w fun e w'=>e= .returned (.int .i64 S.av.num)∧Left (MP base p (S.addV x y id)) F w w'
 dropV0: ∀ (base p:Nat) (S:Ms) (m:Nat) (F:Nat→Prop) (w:World),MP base p S F w→MsOk S m→m≤1000→ ∀ v:Int,In64 v→(isV S v=false∨around S.C v≠ [])→Calls Tryz.prog 146 #[ptR p, .int .i64 v] w fun e w'=>e= .returned (.bool false)∧Left (MP base p S) F w w'
 dropV: ∀ (base p:Nat) (S:Ms) (m:Nat) (F:Nat→Prop) (w:World),MP base p S F w→MsOk S m→m≤1000→ ∀ (v:Int) (i:Nat) (a:Vt),In64 v→S.V[i]? =some a→a.no=v→around S.C v= []→Calls Tryz.prog 146 #[ptR p, .int .i64 v] w fun e w'=>e= .returned (.bool true)∧Left (MP base p (S.dropV v i)) F w w'
 vert: ∀ (base p:Nat) (S:Ms) (m:Nat) (F:Nat→Prop) (w:World),MP base p S F w→MsOk S m→m≤1000→ ∀ v:Int,In64 v→Calls Tryz.prog 26 #[ptR p, .int .i64 v] w fun e w'=>e= .returned (.tuple #[vtV (vertOf S v), .bool (isV S v)])∧Below w.heap.size w w'
 addF0: ∀ (base p:Nat) (S:Ms) (m:Nat) (F:Nat→Prop) (w:World),MP base p S F w→MsOk S m→m≤1000→ ∀ (t:Tr) (e0:Int),Tr64 t→e0=fErr S t→e0≠0→Calls Tryz.prog 47 #[ptR p,trV t] w fun e w'=>e= .returned (.tuple #[.int .i64 (-1), .int .i64 e0])∧Left (MP base p S) F w w'
 addF: ∀ (base p:Nat) (S:Ms) (m:Nat) (F:Nat→Prop) (w:World),MP base p S F w→MsOk S m→m≤1000→ ∀ t:Tr,Tr64 t→fErr S t=0→Calls Tryz.prog 47 #[ptR p,trV t] w fun e w'=>e= .returned (.tuple #[.int .i64 S.af.num, .int .i64 0])∧Left (MP base p (S.addF t)) F w w'
 dropF0: ∀ (base p:Nat) (S:Ms) (m:Nat) (F:Nat→Prop) (w:World),MP base p S F w→MsOk S m→m≤1000→ ∀ f:Int,In64 f→isF S f=false→Calls Tryz.prog 66 #[ptR p, .int .i64 f] w fun e w'=>e= .returned (.bool false)∧Left (MP base p S) F w w'
 dropF: ∀ (base p:Nat) (S:Ms) (m:Nat) (F:Nat→Prop) (w:World),MP base p S F w→MsOk S m→m≤1000→ ∀ (f:Int) (i:Nat) (c:Ce),In64 f→S.C[i]? =some c→c.no=f→Calls Tryz.prog 66 #[ptR p, .int .i64 f] w fun e w'=>e= .returned (.bool true)∧Left (MP base p (S.dropF f i)) F w w'
 face: ∀ (base p:Nat) (S:Ms) (m:Nat) (F:Nat→Prop) (w:World),MP base p S F w→MsOk S m→m≤1000→ ∀ f:Int,In64 f→Calls Tryz.prog 56 #[ptR p, .int .i64 f] w fun e w'=>e= .returned (.tuple #[trV (faceOf S f), .bool (isF S f)])∧Below w.heap.size w w'
 corner0: ∀ (base p:Nat) (S:Ms) (m:Nat) (F:Nat→Prop) (w:World),MP base p S F w→MsOk S m→m≤1000→ ∀ f i:Int,In64 f→In64 i→isF S f=false→Calls Tryz.prog 110 #[ptR p, .int .i64 f, .int .i64 i] w fun e w'=>e= .returned (.tuple #[.agg #[.int .i64 0, .int .i64 0], .bool false])∧Below w.heap.size w w'
 corner: ∀ (base p:Nat) (S:Ms) (m:Nat) (F:Nat→Prop) (w:World),MP base p S F w→MsOk S m→m≤1000→ ∀ f i:Int,In64 f→In64 i→isF S f=true→Calls Tryz.prog 110 #[ptR p, .int .i64 f, .int .i64 i] w fun e w'=>e= .returned (.tuple #[.agg #[.int .i64 (plX S (faceOf S f) (corner i)), .int .i64 (plY S (faceOf S f) (corner i))], .bool true])∧Below w.heap.size w w'
 across: ∀ (base p:Nat) (S:Ms) (m:Nat) (F:Nat→Prop) (w:World),MP base p S F w→MsOk S m→m≤1000→ ∀ f i:Int,In64 f→In64 i→Calls Tryz.prog 113 #[ptR p, .int .i64 f, .int .i64 i] w fun e w'=>CrossIs (crossed S f i) i e∧Below w.heap.size w w'
 around: ∀ (base p:Nat) (S:Ms) (m:Nat) (F:Nat→Prop) (w:World),MP base p S F w→MsOk S m→m≤1000→ ∀ v:Int,In64 v→ ∀ M,M=around S.C v→Calls Tryz.prog 149 #[ptR p, .int .i64 v] w (GotL w M)
 dump: ∀ (base p:Nat) (S:Ms) (m:Nat) (F:Nat→Prop) (w:World),MP base p S F w→MsOk S m→m≤1000→Calls Tryz.prog 22 #[ptR p] w (GotDump w S)
 check: ∀ (base p:Nat) (S:Ms) (m:Nat) (F:Nat→Prop) (w:World),MP base p S F w→MsOk S m→m≤1000→ ∀ r:Int,(r=if whole S=true then 0 else 6)→Calls Tryz.prog 27 #[ptR p] w fun e w'=>e= .returned (.int .i64 r)∧Below w.heap.size w w'
theorem MeSp.below{MP:MeShape}(H:MeSp MP){base p:Nat}{S:Ms}{F:Nat→Prop}{w w':World}(h:MP base p S F w)(hb:Below w.heap.size w w'):MP base p S F w':=H.keep h (Keep.of (F:=fun _=>False) hb) (fun _ _ x=>x)
theorem faceOf_none{S:Ms}{f:Int}(h:isF S f=false):faceOf S f=trZero:=by
 unfold faceOf
 rw [m_faceOf_no h]
theorem crossed_nil{S:Ms}{f i:Int}(h:isF S f=false):crossed S f i=none:=by
 unfold crossed
 rw [m_faceOf_no h]
theorem noFaceS{base p:Nat}{X:Mx}{S:Ms}{m:Nat}{F:Nat→Prop}{w:World}(h:MeI base p X F w)(hS:MeOk X S)(hk:MsOk S m)(hm:m≤1000){f:Int}(hf:In64 f)(hn:isF S f=false): ∀ w',Below w.heap.size w w'→Calls Tryz.prog 56 #[ptR p, .int .i64 f] w' fun e w''=>e= .returned (.tuple #[trV trZero, .bool false])∧Below w'.heap.size w' w'':=
 fun w' hb=>mFaceL base p X S m F w' (h.below hb) hS hk hm f hf (faceOf_none hn).symm hn.symm
theorem tr64s{t:Tr}(h:Tr64 t){i:Nat}(hi:i<3):In64 (t.v i):=h.v i
theorem meSp:MeSp MeP where
 keep:=MeP.keep
 ft:=MeP.ft
 new base n w hb hn:=mNew base n w hb hn
 side base p S m F w h hk hm:=by
  obtain⟨X,hX,hS⟩:=h.ex
  rw [←hS.n]
  exact mSide base p X F w hX
 addV0 base p S m F w h hk hm x y id _ _ _ hq:=by
  obtain⟨X,hX,hS⟩:=h.ex
  refine(mAddV0 base p X F w hX x y id ?_).mono ?_
  ·rw [hS.n]
   intro hh
   have:inSq S x y=true:=decide_eq_true ⟨hh.1.1,hh.1.2,hh.2.1,hh.2.2⟩
   rw [hq]at this
   cases this
  ·rintro e w' ⟨rfl,b⟩
   exact⟨rfl,h.left b⟩
 addV base p S m F w h hk hm x y id _ _ _ hq:=by
  obtain⟨X,hX,hS⟩:=h.ex
  exact mAddV base p X S m F w hX hS hk hm x y id hq
 dropV0 base p S m F w h hk hm v hv hno:=by
  obtain⟨X,hX,hS⟩:=h.ex
  refine(mDropV0 base p X S m F w hX hS hk hm v hv hno).mono ?_
  rintro e w' ⟨rfl,b⟩
  exact⟨rfl,h.left b⟩
 dropV base p S m F w h hk hm v i a hv ha hav har:=by
  obtain⟨X,hX,hS⟩:=h.ex
  subst hav
  exact mDropV base p X S m F w hX hS hk hm i a ha har
 vert base p S m F w h hk hm v hv:=by
  obtain⟨X,hX,hS⟩:=h.ex
  exact mVert base p X S m F w hX hS hk hm v hv
 addF0 base p S m F w h hk hm t e0 ht he hne:=by
  obtain⟨X,hX,hS⟩:=h.ex
  subst he
  refine(mAddF base p X S m F w hX hS hk hm t ?_).mono ?_
  ·exact fun i hi=>tr64s ht hi
  ·rintro e w' (⟨_,rfl,b⟩|⟨h0,_⟩)
   ·exact⟨rfl,h.left b⟩
   ·exact absurd h0 hne
 addF base p S m F w h hk hm t ht h0:=by
  obtain⟨X,hX,hS⟩:=h.ex
  refine(mAddF base p X S m F w hX hS hk hm t ?_).mono ?_
  ·exact fun i hi=>tr64s ht hi
  ·rintro e w' (⟨hne,_⟩|⟨_,rfl,b⟩)
   ·exact absurd h0 hne
   ·exact⟨rfl,b⟩
 dropF0 base p S m F w h hk hm f hf hn:=by
  obtain⟨X,hX,hS⟩:=h.ex
  refine(mDropF0 (ptR p) f w (noFaceS hX hS hk hm hf hn w (Below.refl _ _))).mono ?_
  rintro e w' ⟨rfl,b⟩
  exact⟨rfl,h.left b⟩
 dropF base p S m F w h hk hm f i c hf hc hcf:=by
  obtain⟨X,hX,hS⟩:=h.ex
  subst hcf
  exact mDropF base p X S m F w hX hS hk hm i c hc
 face base p S m F w h hk hm f hf:=by
  obtain⟨X,hX,hS⟩:=h.ex
  exact mFace base p X S m F w hX hS hk hm f hf
 corner0 base p S m F w h hk hm f i hf hi hn:=by
  obtain⟨X,hX,hS⟩:=h.ex
  exact mCorner0 (ptR p) f i w (noFaceS hX hS hk hm hf hn)
 corner base p S m F w h hk hm f i hf hi hb:=by
  obtain⟨X,hX,hS⟩:=h.ex
  exact mCorner base p X S m F w hX hS hk hm f i hf hi hb
 across base p S m F w h hk hm f i hf hi:=by
  obtain⟨X,hX,hS⟩:=h.ex
  cases hb:isF S f with
  |true=>exact mAcross base p X S m F w hX hS hk hm f i hf hi hb
  |false=>
   rw [crossed_nil hb]
   exact mAcross0 (ptR p) f i w (noFaceS hX hS hk hm hf hb)
 around base p S m F w h hk hm v hv M hM:=by
  obtain⟨X,hX,hS⟩:=h.ex
  exact mAround base p X S m F w hX hS hk hm v hv hM
 dump base p S m F w h hk hm:=by
  obtain⟨X,hX,hS⟩:=h.ex
  exact mDump base p X S m F w hX hS hk hm
 check base p S m F w h hk hm r hr:=by
  obtain⟨X,hX,hS⟩:=h.ex
  exact mCheck base p X S m F w hX hS hk hm hr
end Go.Proofs.YtjmhfdimoeaplaaGreat
namespace Go.Proofs.YtjmhfdimoeaplaaGreat
open Go.RowKit
set_option linter.unusedVariables false
abbrev Pt:=Int×Int
def arQ(a b c:Pt):Int:=areaP a.1 a.2 b.1 b.2 c.1 c.2
def deQ(a b c d:Pt):Int:=detP a.1 a.2 b.1 b.2 c.1 c.2 d.1 d.2
def ltQ(p q:Pt):Bool:=decide (p.1<q.1∨(p.1=q.1∧p.2<q.2))
def lastQ(p a b c:Pt):Bool:=ltQ a p && (ltQ b p && ltQ c p)
def tieQ(a b c d:Pt):Bool:=if lastQ d a b c then false else if lastQ c a b d then decide (0<arQ a b d)else if lastQ b a c d then decide (0<arQ a d c)else decide (0<arQ d b c)
def cirQ(a b c d:Pt):Bool:=if deQ a b c d=0 then tieQ a b c d else decide (0<deQ a b c d)
theorem lt_iff{p q:Pt}:ltQ p q=true↔(p.1<q.1∨(p.1=q.1∧p.2<q.2)):=by unfold ltQ;exact decide_eq_true_iff
theorem lt_no{p q:Pt}:ltQ p q=false↔ ¬(p.1<q.1∨(p.1=q.1∧p.2<q.2)):=by unfold ltQ;exact decide_eq_false_iff_not
theorem pt_ne{p q:Pt}(h:p≠q):p.1≠q.1∨p.2≠q.2:=by
 rcases Decidable.em (p.1=q.1)with h1|h1
 ·exact Or.inr fun h2=>h (Prod.ext h1 h2)
 ·exact Or.inl h1
theorem lt_tri{p q:Pt}(h:p≠q):(ltQ p q=true∧ltQ q p=false)∨(ltQ q p=true∧ltQ p q=false):=by
 have:=pt_ne h
 rw [lt_iff,lt_no,lt_iff,lt_no]
 omega
theorem lt_trans{p q r:Pt}(h:ltQ p q=true)(k:ltQ q r=true):ltQ p r=true:=by
 rw [lt_iff]at*
 omega
theorem lt_irr(p:Pt):ltQ p p=false:=by rw [lt_no];omega
theorem lt_anti{p q:Pt}(h:ltQ p q=true):ltQ q p=false:=by rw [lt_iff]at h;rw [lt_no];omega
theorem cmp_last(x y z t:Int):decide (0<cmpP x y z t)=ltQ (z,t) (x,y):=by
 unfold cmpP cmpI ltQ
 rw [decide_eq_decide]
 dsimp only
 split
 ·split
  ·constructor<;>intro h<;>omega
  ·split<;>constructor<;>intro h<;>omega
 ·split
  ·constructor<;>intro h<;>omega
  ·split<;>constructor<;>intro h<;>omega
theorem last6{p x y z:Pt}(h1:ltQ x p=true)(h2:ltQ y p=true)(h3:ltQ z p=true):ltQ x p=true∧ltQ y p=true∧ltQ z p=true∧ltQ p x=false∧ltQ p y=false∧ltQ p z=false:=⟨h1,h2,h3,lt_anti h1,lt_anti h2,lt_anti h3⟩
theorem one_last{a b c d:Pt}(ab:a≠b)(ac:a≠c)(bc:b≠c)(da:d≠a)(db:d≠b)(dc:d≠c):
  (ltQ a d=true∧ltQ b d=true∧ltQ c d=true∧ltQ d a=false∧ltQ d b=false∧ltQ d c=false)∨
  (ltQ a c=true∧ltQ b c=true∧ltQ d c=true∧ltQ c a=false∧ltQ c b=false∧ltQ c d=false)∨
  (ltQ a b=true∧ltQ c b=true∧ltQ d b=true∧ltQ b a=false∧ltQ b c=false∧ltQ b d=false)∨
  (ltQ b a=true∧ltQ c a=true∧ltQ d a=true∧ltQ a b=false∧ltQ a c=false∧ltQ a d=false):=by
 rcases lt_tri ab with⟨x,_⟩|⟨x,_⟩<;>rcases lt_tri dc with⟨y,_⟩|⟨y,_⟩
 ·rcases lt_tri bc with⟨z,_⟩|⟨z,_⟩
  ·exact Or.inr (Or.inl (last6 (lt_trans x z) z y))
  ·exact Or.inr (Or.inr (Or.inl (last6 x z (lt_trans y z))))
 ·rcases lt_tri db with⟨z,_⟩|⟨z,_⟩
  ·exact Or.inr (Or.inr (Or.inl (last6 x (lt_trans y z) z)))
  ·exact Or.inl (last6 (lt_trans x z) z y)
 ·rcases lt_tri ac with⟨z,_⟩|⟨z,_⟩
  ·exact Or.inr (Or.inl (last6 z (lt_trans x z) y))
  ·exact Or.inr (Or.inr (Or.inr (last6 x z (lt_trans y z))))
 ·rcases lt_tri da with⟨z,_⟩|⟨z,_⟩
  ·exact Or.inr (Or.inr (Or.inr (last6 x (lt_trans y z) z)))
  ·exact Or.inl (last6 z (lt_trans x z) y)
theorem ar_ne{a b c:Pt}(h:0<arQ a b c):a≠b∧a≠c∧b≠c:=by
 refine⟨?_,?_,?_⟩<;>rintro rfl<;>unfold arQ areaP at h<;>grind
theorem sq_pos{x y:Int}(h:x≠0∨y≠0):0<x*x+y*y:=by
 have a:0≤x*x:=by rw [←Int.natAbs_mul_self];exact Int.natCast_nonneg _
 have b:0≤y*y:=by rw [←Int.natAbs_mul_self];exact Int.natCast_nonneg _
 rcases h with h|h
 ·have:x*x≠0:=fun e=>h (by rcases Int.mul_eq_zero.1 e with e|e<;>exact e)
  omega
 ·have:y*y≠0:=fun e=>h (by rcases Int.mul_eq_zero.1 e with e|e<;>exact e)
  omega
end Go.Proofs.YtjmhfdimoeaplaaGreat
namespace Go.Proofs.YtjmhfdimoeaplaaGreat
set_option linter.unusedVariables false
open Classical in
theorem sq_nonneg(x:Int):0≤x*x:=by rw [←Int.natAbs_mul_self];exact Int.natCast_nonneg _
def ipQ(p x u:Pt):Int:=(x.1- p.1)*(u.1- p.1)+(x.2- p.2)*(u.2- p.2)
theorem in_pos{p x:Pt}(h:x≠p):0<ipQ p x x:=by
 have:=pt_ne h
 exact sq_pos (by omega)
theorem nodup_len{α:Type} [DecidableEq α]: ∀ (A B:List α),A.Nodup→(∀ x∈A,x∈B)→A.length≤B.length
 | [],B,_,_=>Nat.zero_le _
 |x::t,B,hn,hs=>by
  rw [List.nodup_cons]at hn
  have hx:=hs x List.mem_cons_self
  have:=nodup_len t (B.erase x) hn.2 fun y hy=>(List.mem_erase_of_ne (fun e:y=x=>hn.1 (by rw [←e];exact hy))).2 (hs y (List.mem_cons_of_mem _ hy))
  rw [List.length_erase_of_mem hx]at this
  have:=List.length_pos_of_mem hx
  rw [List.length_cons]
  omega
open Classical in
theorem de_b(a b c p:Pt):deQ a b c p=ipQ b a a*arQ b c p+ipQ b c c*arQ a b p- arQ a b c*ipQ b p p:=by unfold deQ detP distP ipQ arQ areaP;grind
theorem de_a(a b c p:Pt):deQ a b c p=ipQ a b b*arQ c a p+ipQ a c c*arQ a b p- arQ a b c*ipQ a p p:=by unfold deQ detP distP ipQ arQ areaP;grind
theorem in_nonneg(p x:Pt):0≤ipQ p x x:=by
 unfold ipQ
 have:=sq_nonneg (x.1- p.1)
 have:=sq_nonneg (x.2- p.2)
 omega
theorem seg{a b c p:Pt}(h:0<arQ a b c)(hd:0≤deQ a b c p)(hp:arQ a b p<0):0<arQ b c p∧0<arQ c a p:=by
 obtain⟨ab,ac,bc⟩:=ar_ne h
 constructor
 ·rw [de_b]at hd
  have m1:=Int.mul_neg_of_pos_of_neg (in_pos (p:=b) (Ne.symm bc)) hp
  have m2:=Int.mul_nonneg (Int.le_of_lt h) (in_nonneg b p)
  rcases Int.lt_or_le 0 (arQ b c p)with k|k
  ·exact k
  ·have:=Int.mul_nonpos_of_nonneg_of_nonpos (in_nonneg b a) k
   omega
 ·rw [de_a]at hd
  have m1:=Int.mul_neg_of_pos_of_neg (in_pos (p:=a) (Ne.symm ac)) hp
  have m2:=Int.mul_nonneg (Int.le_of_lt h) (in_nonneg a p)
  rcases Int.lt_or_le 0 (arQ c a p)with k|k
  ·exact k
  ·have:=Int.mul_nonpos_of_nonneg_of_nonpos (in_nonneg a b) k
   omega
def movT(t:Tr)(x y:Int):Tr:=⟨t.v0,t.v1,t.v2,t.x0+x,t.y0+y,t.x1+x,t.y1+y,t.x2+x,t.y2+y⟩
def rotT(t:Tr):Tr:=⟨t.v1,t.v2,t.v0,t.x1,t.y1,t.x2,t.y2,t.x0,t.y0⟩
def turnT(t:Tr)(i:Nat):Tr:=if i=0 then⟨t.v0,t.v1,t.v2,0,0,t.x1- t.x0,t.y1- t.y0,t.x2- t.x0,t.y2- t.y0⟩else if i=1 then⟨t.v1,t.v2,t.v0,0,0,t.x2- t.x1,t.y2- t.y1,t.x0- t.x1,t.y0- t.y1⟩else⟨t.v2,t.v0,t.v1,0,0,t.x0- t.x2,t.y0- t.y2,t.x1- t.x2,t.y1- t.y2⟩
theorem turn_0(t:Tr):turnT t 0=movT t (-t.x0) (-t.y0):=by unfold turnT movT;simp only [if_true,Tr.mk.injEq,true_and];omega
theorem turn_1(t:Tr):turnT t 1=movT (rotT t) (-t.x1) (-t.y1):=by unfold turnT movT rotT;simp only [Tr.mk.injEq,if_neg (show ¬(1:Nat)=0 by omega),if_true,true_and];omega
theorem turn_2(t:Tr):turnT t 2=movT (rotT (rotT t)) (-t.x2) (-t.y2):=by unfold turnT movT rotT;simp only [Tr.mk.injEq,if_neg (show ¬(2:Nat)=0 by omega),if_neg (show ¬(2:Nat)=1 by omega),true_and];omega
def lexL:List Int→List Int→Int
 |a::s,b::t=>if a<b then -1 else if b<a then 1 else lexL s t
 |_,_=>0
def keyT(t:Tr):List Int:= [t.v0,t.x0,t.y0,t.v1,t.x1,t.y1,t.v2,t.x2,t.y2]
def cmpT(a b:Tr):Int:=lexL (keyT a) (keyT b)
def minT(a b:Tr):Tr:=if cmpT b a<0 then b else a
def normT(t:Tr):Tr:=minT (minT (turnT t 0) (turnT t 1)) (turnT t 2)
theorem min_cases(a b:Tr):minT a b=a∨minT a b=b:=by unfold minT;split;exact Or.inr rfl;exact Or.inl rfl
theorem norm_turn(t:Tr): ∃ i,i<3∧normT t=turnT t i:=by
 unfold normT
 rcases min_cases (minT (turnT t 0) (turnT t 1)) (turnT t 2)with h|h
 ·rw [h]
  rcases min_cases (turnT t 0) (turnT t 1)with k|k
  ·exact⟨0,by omega,k⟩
  ·exact⟨1,by omega,k⟩
 ·exact⟨2,by omega,h⟩
abbrev Kn:=Int×Int×Int
theorem ex_flat{α β:Type}(f:α→List β)(c:Nat)(hf: ∀ a,(f a).length=c): ∀ l:List α,(l.flatMap f).length=l.length*c
 | []=>by simp
 |a::l=>by rw [List.flatMap_cons,List.length_append,hf,ex_flat f c hf l,List.length_cons,Nat.succ_mul];omega
def rT(t:Tr)(i:Nat):Tr:=⟨t.v i,t.v (nx i),t.v (nx (nx i)),t.x i,t.y i,t.x (nx i),t.y (nx i),t.x (nx (nx i)),t.y (nx (nx i))⟩
theorem lt3{i:Nat}(h:i<3):i=0∨i=1∨i=2:=by omega
theorem nxT_lt(i:Nat):nx i<3:=by unfold nx;omega
theorem nx3{i:Nat}(h:i<3):nx (nx (nx i))=i:=by unfold nx;omega
theorem Tr.ext3{a b:Tr}(h: ∀ i,i<3→a.v i=b.v i∧a.x i=b.x i∧a.y i=b.y i):a=b:=by
 have h0:=h 0 (by omega)
 have h1:=h 1 (by omega)
 have h2:=h 2 (by omega)
 cases a;cases b
 simp [Tr.v,Tr.x,Tr.y]at h0 h1 h2
 simp [h0,h1,h2]
theorem norm_move{t z:Tr}(h:normT t=normT z): ∃ i x y,i<3∧t=movT (rT z i) x y:=by
 have key: ∀ u:Tr, ∃ i x y,i<3∧u=movT (rT (normT u) i) x y:=by
  intro u
  obtain⟨i,hi,e⟩:=norm_turn u
  rw [e]
  rcases lt3 hi with rfl|rfl|rfl
  ·rw [turn_0];exact⟨0,u.x0,u.y0,by omega,by cases u;simp [movT,rT,Tr.v,Tr.x,Tr.y,nx];omega⟩
  ·rw [turn_1];exact⟨2,u.x1,u.y1,by omega,by cases u;simp [movT,rT,rotT,Tr.v,Tr.x,Tr.y,nx];omega⟩
  ·rw [turn_2];exact⟨1,u.x2,u.y2,by omega,by cases u;simp [movT,rT,rotT,Tr.v,Tr.x,Tr.y,nx];omega⟩
 have key2: ∀ u:Tr, ∃ i x y,i<3∧normT u=movT (rT u i) x y:=by
  intro u
  obtain⟨i,hi,e⟩:=norm_turn u
  rw [e]
  rcases lt3 hi with rfl|rfl|rfl
  ·exact⟨0,_,_,by omega,turn_0 u⟩
  ·exact⟨1,_,_,by omega,turn_1 u⟩
  ·exact⟨2,_,_,by omega,turn_2 u⟩
 obtain⟨i,x,y,hi,e⟩:=key t
 obtain⟨k,x',y',hk,e'⟩:=key2 z
 rw [h,e']at e
 rw [e]
 rcases lt3 hi with rfl|rfl|rfl<;>rcases lt3 hk with rfl|rfl|rfl<;>cases z
 ·exact⟨0,x'+x,y'+y,by omega,by simp [movT,rT,Tr.v,Tr.x,Tr.y,nx];omega⟩
 ·exact⟨1,x'+x,y'+y,by omega,by simp [movT,rT,Tr.v,Tr.x,Tr.y,nx];omega⟩
 ·exact⟨2,x'+x,y'+y,by omega,by simp [movT,rT,Tr.v,Tr.x,Tr.y,nx];omega⟩
 ·exact⟨1,x'+x,y'+y,by omega,by simp [movT,rT,Tr.v,Tr.x,Tr.y,nx];omega⟩
 ·exact⟨2,x'+x,y'+y,by omega,by simp [movT,rT,Tr.v,Tr.x,Tr.y,nx];omega⟩
 ·exact⟨0,x'+x,y'+y,by omega,by simp [movT,rT,Tr.v,Tr.x,Tr.y,nx];omega⟩
 ·exact⟨2,x'+x,y'+y,by omega,by simp [movT,rT,Tr.v,Tr.x,Tr.y,nx];omega⟩
 ·exact⟨0,x'+x,y'+y,by omega,by simp [movT,rT,Tr.v,Tr.x,Tr.y,nx];omega⟩
 ·exact⟨1,x'+x,y'+y,by omega,by simp [movT,rT,Tr.v,Tr.x,Tr.y,nx];omega⟩
theorem acrT_some{t:Tr}{a:Nat}: ∀ {C:List Ce} {c:Ce} {k:Nat},acr t a C=some (c,k)→c∈C∧k<3∧opp t a c.t k=true
 | [],_,_,h=>by cases h
 |d::C,c,k,h=>by
  unfold acr at h
  split at h
  ·cases h;exact⟨List.mem_cons_self,by omega,by assumption⟩
  ·split at h
   ·cases h;exact⟨List.mem_cons_self,by omega,by assumption⟩
   ·split at h
    ·cases h;exact⟨List.mem_cons_self,by omega,by assumption⟩
    ·have:=acrT_some h
     exact⟨List.mem_cons_of_mem _ this.1,this.2⟩
theorem acrT_none{t:Tr}{a:Nat}: ∀ {C:List Ce},acr t a C=none→ ∀ c∈C, ∀ k,k<3→opp t a c.t k=false
 | [],_,c,hc,_,_=>by cases hc
 |d::C,h,c,hc,k,hk=>by
  unfold acr at h
  split at h
  ·cases h
  ·split at h
   ·cases h
   ·split at h
    ·cases h
    ·rcases List.mem_cons.1 hc with rfl|hc
     ·rcases lt3 hk with rfl|rfl|rfl<;>exact Bool.eq_false_iff.2 (by assumption)
     ·exact acrT_none h c hc k hk
abbrev Wg:=Ce×Nat
def folK(t:Tr)(i:Nat):Kn:=(t.v (nx i),t.x (nx i)- t.x i,t.y (nx i)- t.y i)
def ahdK(t:Tr)(i:Nat):Kn:=(t.v (nx (nx i)),t.x (nx (nx i))- t.x i,t.y (nx (nx i))- t.y i)
def EdgU(C:List Ce):Prop:= ∀ c∈C, ∀ c'∈C, ∀ i k,i<3→k<3→same c.t i c'.t k=true→c=c'∧i=k
structure IsWg(C:List Ce)(v:Int)(a:Wg):Prop where
 c:a.1∈C
 i:a.2<3
 v:a.1.t.v a.2=v
def stepW(C:List Ce)(a:Wg):Option Wg:=acr a.1.t (nx (nx a.2)) C
theorem fol_inj{C:List Ce}(U:EdgU C){v:Int}{a b:Wg}(ha:IsWg C v a)(hb:IsWg C v b)(h:folK a.1.t a.2=folK b.1.t b.2):a=b:=by
 obtain⟨c,i⟩:=a
 obtain⟨d,k⟩:=b
 have h1:=congrArg Prod.fst h
 have h2:=congrArg (fun z:Kn=>z.2.1) h
 have h3:=congrArg (fun z:Kn=>z.2.2) h
 obtain⟨e,e'⟩:=U c ha.c d hb.c i k ha.i hb.i (decide_eq_true ⟨ha.v.trans hb.v.symm,h1,h2,h3⟩)
 rw [e,e']
theorem ahd_inj{C:List Ce}(U:EdgU C){v:Int}{a b:Wg}(ha:IsWg C v a)(hb:IsWg C v b)(h:ahdK a.1.t a.2=ahdK b.1.t b.2):a=b:=by
 obtain⟨c,i⟩:=a
 obtain⟨d,k⟩:=b
 have h1:c.t.v (nx (nx i))=d.t.v (nx (nx k)):=congrArg Prod.fst h
 have h2:c.t.x (nx (nx i))- c.t.x i=d.t.x (nx (nx k))- d.t.x k:=congrArg (fun z:Kn=>z.2.1) h
 have h3:c.t.y (nx (nx i))- c.t.y i=d.t.y (nx (nx k))- d.t.y k:=congrArg (fun z:Kn=>z.2.2) h
 have hi:nx (nx (nx i))=i:=nx3 ha.i
 have hk:nx (nx (nx k))=k:=nx3 hb.i
 have ev:c.t.v i=d.t.v k:=ha.v.trans hb.v.symm
 obtain⟨e,e'⟩:=U c ha.c d hb.c (nx (nx i)) (nx (nx k)) (nxT_lt _) (nxT_lt _) (decide_eq_true ⟨h1,by rw [hi,hk];exact ev,by rw [hi,hk];omega,by rw [hi,hk];omega⟩)
 have a1:=ha.i
 have a2:=hb.i
 have:i=k:=by
  rw [←hi,←hk,e']
 rw [e,this]
theorem opp_wedge{t z:Tr}{i k:Nat}(hi:i<3)(h:opp t (nx (nx i)) z k=true):z.v k=t.v i∧folK z k=ahdK t i:=by
 unfold opp at h
 rw [decide_eq_true_iff,nx3 hi]at h
 obtain⟨h1,h2,h3,h4⟩:=h
 refine⟨h2.symm,?_⟩
 unfold folK ahdK
 rw [h1]
 refine Prod.ext rfl (Prod.ext ?_ ?_)<;>dsimp only<;>omega
theorem wedge_opp{t z:Tr}{i k:Nat}(hi:i<3)(hv:z.v k=t.v i)(h:folK z k=ahdK t i):opp t (nx (nx i)) z k=true:=by
 have h1:z.v (nx k)=t.v (nx (nx i)):=congrArg Prod.fst h
 have h2:z.x (nx k)- z.x k=t.x (nx (nx i))- t.x i:=congrArg (fun z:Kn=>z.2.1) h
 have h3:z.y (nx k)- z.y k=t.y (nx (nx i))- t.y i:=congrArg (fun z:Kn=>z.2.2) h
 unfold opp
 rw [decide_eq_true_iff,nx3 hi]
 exact⟨h1.symm,hv.symm,by omega,by omega⟩
theorem step_to{C:List Ce}{v:Int}{a b:Wg}(ha:IsWg C v a)(h:stepW C a=some b):IsWg C v b∧folK b.1.t b.2=ahdK a.1.t a.2:=by
 obtain⟨c,k⟩:=b
 obtain⟨h1,h2,h3⟩:=acrT_some h
 obtain⟨e1,e2⟩:=opp_wedge ha.i h3
 exact⟨⟨h1,h2,e1.trans ha.v⟩,e2⟩
theorem step_no{C:List Ce}{v:Int}{a:Wg}(ha:IsWg C v a)(h:stepW C a=none){b:Wg}(hb:IsWg C v b):folK b.1.t b.2≠ahdK a.1.t a.2:=by
 intro e
 have:=acrT_none h b.1 hb.c b.2 hb.i
 rw [wedge_opp ha.i (hb.v.trans ha.v.symm) e]at this
 cases this
theorem step_is{C:List Ce}(U:EdgU C){v:Int}{a b:Wg}(ha:IsWg C v a)(hb:IsWg C v b)(h:folK b.1.t b.2=ahdK a.1.t a.2):stepW C a=some b:=by
 cases e:stepW C a with
 |none=>exact absurd h (step_no ha e hb)
 |some d=>
  obtain⟨hd,k⟩:=step_to ha e
  rw [fol_inj U hd hb (k.trans h.symm)]
structure PathW(C:List Ce)(v:Int)(f:Wg)(W:List Wg):Prop where
 wg: ∀ a∈W,IsWg C v a
 zero:W[0]? =some f
 step: ∀ (i:Nat) (a b:Wg),W[i]? =some a→W[i+1]? =some b→stepW C a=some b
 ne: ∀ i:Nat,0<i→W[i]? ≠some f
theorem PathW.one{C:List Ce}{v:Int}{f:Wg}(h:IsWg C v f):PathW C v f [f]:=by
 refine⟨fun a ha=>?_,rfl,fun i a b _ hb=>?_,fun i hi hb=>?_⟩
 ·rw [List.mem_singleton]at ha;rw [ha];exact h
 ·rw [List.getElem?_cons_succ]at hb;simp at hb
 ·cases i with
  |zero=>omega
  |succ i=>rw [List.getElem?_cons_succ]at hb;simp at hb
theorem PathW.more{C:List Ce}{v:Int}{f a b:Wg}{W:List Wg}(h:PathW C v f (W++ [a]))(hs:stepW C a=some b)(hn:b≠f):PathW C v f (W++ [a]++ [b]):=by
 have hb:=(step_to (h.wg a (by simp)) hs).1
 refine⟨fun d hd=>?_,?_,fun i d e hd he=>?_,fun i hi he=>?_⟩
 ·rcases List.mem_append.1 hd with q|q
  ·exact h.wg d q
  ·rw [List.mem_singleton]at q;rw [q];exact hb
 ·rw [List.getElem?_append_left (by simp)];exact h.zero
 ·by_cases k:i+1<(W++ [a]).length
  ·rw [List.getElem?_append_left k]at he
   rw [List.getElem?_append_left (by omega)]at hd
   exact h.step i d e hd he
  ·have hl:(W++ [a]).length=W.length+1:=by simp
   have hi:i=W.length:=by
    have:=(List.getElem?_eq_some_iff.1 he).1
    simp at this
    omega
   subst hi
   rw [List.append_assoc,List.getElem?_append_right (Nat.le_refl _)]at hd
   rw [List.append_assoc,List.getElem?_append_right (by omega)]at he
   simp at hd he
   rw [←hd,←he]
   exact hs
 ·by_cases k:i<(W++ [a]).length
  ·rw [List.getElem?_append_left k]at he
   exact h.ne i hi he
  ·rw [List.getElem?_append_right (by omega)]at he
   have:=(List.getElem?_eq_some_iff.1 he).1
   simp at this
   have e0:i- (W++ [a]).length=0:=by simp;omega
   rw [e0]at he
   simp at he
   exact hn he
theorem PathW.nodup{C:List Ce}(U:EdgU C){v:Int}{f:Wg}{W:List Wg}(h:PathW C v f W):W.Nodup:=by
 have key: ∀ (i j:Nat) (a:Wg),i<j→W[i]? =some a→W[j]? =some a→False:=by
  intro i
  induction i with
  |zero=>intro j a hj h0 h1;rw [h.zero]at h0;cases h0;exact h.ne j hj h1
  |succ i ih=>
   intro j a hj h0 h1
   obtain⟨j,rfl⟩: ∃ q,j=q+1:=⟨j- 1,by omega⟩
   have li:=(List.getElem?_eq_some_iff.1 h0).1
   have lj:=(List.getElem?_eq_some_iff.1 h1).1
   have g0:W[i]? =some W[i]:=List.getElem?_eq_getElem (by omega)
   have g1:W[j]? =some W[j]:=List.getElem?_eq_getElem (by omega)
   have w0:=h.wg _ (List.mem_of_getElem? g0)
   have w1:=h.wg _ (List.mem_of_getElem? g1)
   have s0:=(step_to w0 (h.step i _ _ g0 h0)).2
   have s1:=(step_to w1 (h.step j _ _ g1 h1)).2
   have e:=ahd_inj U w0 w1 (s0.symm.trans s1)
   rw [←e]at g1
   exact ih j _ (by omega) g0 g1
 rw [List.nodup_iff_pairwise_ne,List.pairwise_iff_getElem]
 intro i j hi hj hij e
 exact key i j W[i] hij (List.getElem?_eq_getElem hi) (by rw [e];exact List.getElem?_eq_getElem hj)
def allW(C:List Ce):List Wg:=C.flatMap fun c=> [(c,0),(c,1),(c,2)]
theorem allW_mem{C:List Ce}{v:Int}{a:Wg}(h:IsWg C v a):a∈allW C:=by
 obtain⟨c,i⟩:=a
 refine List.mem_flatMap.2 ⟨c,h.c,?_⟩
 have hi:i<3:=h.i
 rcases lt3 hi with rfl|rfl|rfl<;>simp
theorem PathW.few{C:List Ce}(U:EdgU C){v:Int}{f:Wg}{W:List Wg}(h:PathW C v f W):W.length≤3*C.length:=by
 classical
 have:=nodup_len W (allW C) (h.nodup U) fun a ha=>allW_mem (h.wg a ha)
 have e:(allW C).length=C.length*3:=ex_flat _ 3 (fun c=>rfl) C
 omega
def ringR(C:List Ce)(f:Wg):Nat→Wg→List Wg→Option (List Wg)
 |0,_,_=>none
 |n+1,a,W=>match stepW C a with
  |none=>none
  |some b=>if b.1.no=f.1.no∧b.2=f.2 then some (W++ [a])else ringR C f n b (W++ [a])
theorem ring_out{C:List Ce}{f a:Wg}{W:List Wg}{n:Nat}(h:stepW C a=none):ringR C f (n+1) a W=none:=by
 unfold ringR;rw [h]
theorem ring_shut{C:List Ce}{f a b:Wg}{W:List Wg}{n:Nat}(h:stepW C a=some b)(e:b.1.no=f.1.no∧b.2=f.2):ringR C f (n+1) a W=some (W++ [a]):=by
 unfold ringR;rw [h];exact if_pos e
theorem ring_on{C:List Ce}{f a b:Wg}{W:List Wg}{n:Nat}(h:stepW C a=some b)(e: ¬(b.1.no=f.1.no∧b.2=f.2)):ringR C f (n+1) a W=ringR C f n b (W++ [a]):=by
 conv=>lhs;unfold ringR
 rw [h];exact if_neg e
def cornV(t:Tr)(v:Int):Nat:=if t.v0=v then 0 else if t.v1=v then 1 else 2
def firstW(C:List Ce)(v:Int):Option Wg:=match C.find? (fun c=>has c.t v)with
 |none=>none
 |some c=>some (c,cornV c.t v)
theorem corn_has{t:Tr}{v:Int}(h:has t v=true):cornV t v<3∧t.v (cornV t v)=v:=by
 unfold has at h
 rw [decide_eq_true_iff]at h
 unfold cornV
 by_cases h0:t.v0=v
 ·rw [if_pos h0];exact⟨by omega,h0⟩
 ·rw [if_neg h0]
  by_cases h1:t.v1=v
  ·rw [if_pos h1];exact⟨by omega,h1⟩
  ·rw [if_neg h1]
   refine⟨by omega,?_⟩
   rcases h with q|q|q
   ·exact absurd q h0
   ·exact absurd q h1
   ·exact q
theorem first_is{C:List Ce}{v:Int}{a:Wg}(h:firstW C v=some a):IsWg C v a:=by
 unfold firstW at h
 split at h
 ·cases h
 ·next c e=>
  cases h
  have hh:=List.find?_some e
  obtain⟨k1,k2⟩:=corn_has (t:=c.t) (v:=v) hh
  exact⟨List.mem_of_find?_eq_some e,k1,k2⟩
theorem first_no{C:List Ce}{v:Int}(h:firstW C v=none):around C v= []:=by
 unfold firstW at h
 split at h
 ·next e=>
  unfold around
  rw [List.map_eq_nil_iff,List.filter_eq_nil_iff]
  exact List.find?_eq_none.1 e
 ·cases h
theorem first_around{C:List Ce}{v:Int}{a:Wg}(h:firstW C v=some a): ∃ R,around C v=a.1.no::R:=by
 unfold firstW at h
 split at h
 ·cases h
 ·next c e=>
  cases h
  obtain⟨hp,A,B,rfl,hA⟩:=List.find?_eq_some_iff_append.1 e
  refine⟨(B.filter fun c=>has c.t v).map fun c=>c.no,?_⟩
  unfold around
  rw [List.filter_append,List.filter_eq_nil_iff.2 (fun d hd=>by simpa using hA d hd),List.nil_append,List.filter_cons,if_pos hp,List.map_cons]
def ringQ(C:List Ce)(v:Int):Option (List Wg):=match firstW C v with
 |none=>none
 |some f=>ringR C f (3*C.length+1) f []
theorem ringQ_no{C:List Ce}{v:Int}(h:firstW C v=none):ringQ C v=none:=by unfold ringQ;rw [h]
theorem ringQ_of{C:List Ce}{v:Int}{f:Wg}(h:firstW C v=some f):ringQ C v=ringR C f (3*C.length+1) f []:=by unfold ringQ;rw [h]
end Go.Proofs.YtjmhfdimoeaplaaGreat
