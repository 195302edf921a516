/-
  Joined texts, part 13:
  Edges and ints as a map's keys.
  What the program's arena must do (its own shape in memory is left open: AP): the laws of l
  The landed arena: what a place holds, the chain of those that came back; what isOut and ca
  The landed arena does what an arena must: New, Clear, Take, Free, All.
  The landed mesh in memory: an object of many blocks, each of one colour (its part); what s
  The landed mesh's small functions: third, canCoord, hasVert, edgeFrom, turned.
  The landed mesh's hasEdge, place.
  The landed mesh's every: what is asked of each corner, by whatever function.
-/
import Derived.Test.YtaadknpjbogkbaaGreatP12
import Derived.Test.YtaadknpjbogkbaaGreatRows
import Derived.DeepKeys4
import Derived.Lib.SlKeysI
import Derived.Test.YtaadknpjbogkbaaGreatP2
import Derived.Test.YtaadknpjbogkbaaGreatP7
import Derived.Test.YtaadknpjbogkbaaGreatP3
import Derived.Shelf.Abstract
namespace Go.Proofs.YtaadknpjbogkbaaGreat
open Go.RowKit Go.Maps
set_option linter.unusedVariables false
set_option linter.unusedSimpArgs false
set_option maxRecDepth 10000
structure Eg where
 f:Int
 t:Int
 x:Int
 y:Int
 deriving DecidableEq
abbrev egV(e:Eg):Value:= .agg #[.int .i64 e.f, .int .i64 e.t, .int .i64 e.x, .int .i64 e.y]
abbrev I64(x:Int):Prop:= -9223372036854775808≤x∧x≤9223372036854775807
def Eg.ok(e:Eg):Prop:=I64 e.f∧I64 e.t∧I64 e.x∧I64 e.y
theorem laidOut11:laidOutB Tryz.prog=true:=by kernel_rfl
theorem egRow:(143:TypeId)<Tryz.prog.types.size:=of_decide_eq_true (by kernel_rfl)
theorem egWide:(match Tryz.prog.underlying 143 with|some (.array _ _)|some (.struct _)=>true|_=>false)=true:=by kernel_rfl
theorem egKeyed:Keyed Tryz.prog 143:=Keyed.of_law (deep_law_laid laidOut11 (m:=3) (by omega) egRow (by kernel_rfl) egWide)
theorem two_le:2≤Tryz.prog.types.size:=of_decide_eq_true (by kernel_rfl)
theorem size_split{n:Nat}(h:2≤n): ∃ m,n+1=m+3:=⟨n- 2,by omega⟩
theorem egSize: ∃ m,Tryz.prog.types.size+1=m+3:=size_split two_le
theorem egType:Tryz.prog.keyType 143=true:=by kernel_rfl
theorem egCells:Tryz.prog.cellsOf 143=4:=by kernel_rfl
theorem offCells:Tryz.prog.cellsOf 32=2:=by kernel_rfl
theorem intCells:Tryz.prog.cellsOf 3=1:=by kernel_rfl
theorem wf_of{x:Int}(h:I64 x):(Lit.int .i64 x).wf=true:=by
 obtain⟨h1,h2⟩:=h
 show(decide (IntKind.i64.min≤x) && decide (x≤IntKind.i64.max))=true
 have e1:IntKind.i64.min= -9223372036854775808:=by decide
 have e2:IntKind.i64.max=9223372036854775807:=by decide
 rw [e1,e2]
 simp [h1,h2]
theorem of_wf{x:Int}(h:(Lit.int .i64 x).wf=true):I64 x:=by
 replace h:(decide (IntKind.i64.min≤x) && decide (x≤IntKind.i64.max))=true:=h
 have e1:IntKind.i64.min= -9223372036854775808:=by decide
 have e2:IntKind.i64.max=9223372036854775807:=by decide
 rw [e1,e2]at h
 simpa using h
theorem lits_struct{P:Program}{d:Nat}{t:TypeId}{fs:Array Field}{cs:List Value}(hu:P.underlying t=some (.struct fs))(hl:cs.length=P.cellsOf t)(ha:fs.all (·.name != "_")=true):P.keyLits (d+1) t cs=(fs.toList.mapM fun f=>P.keyLits d f.type ((cs.drop f.offset).take (P.cellsOf f.type))).map List.flatten:=by
 conv=>lhs;unfold Program.keyLits
 rw [hu]
 simp only [hl,ha,and_self,if_true]
theorem lits_int{P:Program}{d:Nat}{t:TypeId}{n:Int}(hu:P.underlying t=some (.int .i64))(hw:(Lit.int .i64 n).wf=true):P.keyLits (d+1) t [.int .i64 n]=some [.int .i64 n]:=by
 unfold Program.keyLits
 rw [hu]
 simp only [hw,and_self,if_true]
theorem lits_int_inv{P:Program}{d:Nat}{t:TypeId}{v:Value}{l:List Lit}(hu:P.underlying t=some (.int .i64))(h:P.keyLits (d+1) t [v]=some l): ∃ n,v= .int .i64 n∧I64 n:=by
 unfold Program.keyLits at h
 rw [hu]at h
 cases v<;>simp at h
 obtain⟨⟨rfl,hw⟩,_⟩:=h
 exact⟨_,rfl,of_wf hw⟩
theorem egLits{m:Nat}{a b c d:Value}:Tryz.prog.keyLits (m+3) 143 [a,b,c,d]=(Tryz.prog.keyLits (m+2) 3 [a]).bind fun la=>(Tryz.prog.keyLits (m+2) 3 [b]).bind fun lb=>(Tryz.prog.keyLits (m+1) 3 [c]).bind fun lc=>(Tryz.prog.keyLits (m+1) 3 [d]).bind fun ld=>some (la++(lb++(lc++ld))):=by
 rw [lits_struct Tryz.underlying143 (by rw [egCells];rfl) (by kernel_rfl)]
 simp only [List.mapM_cons,List.mapM_nil,intCells,offCells,List.drop_zero,List.drop_succ_cons,List.take_succ_cons,List.take_zero]
 rw [lits_struct Tryz.underlying32 (by rw [offCells];rfl) (by kernel_rfl)]
 simp only [List.mapM_cons,List.mapM_nil,intCells,offCells,List.drop_zero,List.drop_succ_cons,List.take_succ_cons,List.take_zero]
 cases Tryz.prog.keyLits (m+2) 3 [a]<;>cases Tryz.prog.keyLits (m+2) 3 [b]<;>cases Tryz.prog.keyLits (m+1) 3 [c]<;>cases Tryz.prog.keyLits (m+1) 3 [d]<;>simp
theorem egFormed(a b c d:Value):(Value.agg #[a,b,c,d]).formed Tryz.prog 143=true:=by simp [Value.formed,Tryz.underlying143,egCells]
theorem keyOf_eg(v:Value):keyOf Tryz.prog 143 v=if v.formed Tryz.prog 143=true then(Tryz.prog.keyLits (Tryz.prog.types.size+1) 143 v.cells.toList).map (fun ls=> .string (keyBytes ls))else none:=by
 unfold keyOf
 rw [Tryz.underlying143]
 simp only [egType,Bool.true_and]
theorem egKey{e:Eg}(h:e.ok): ∃ kl,keyOf Tryz.prog 143 (egV e)=some kl:=by
 obtain⟨m,hm⟩:=egSize
 obtain⟨h1,h2,h3,h4⟩:=h
 refine⟨.string (keyBytes ([.int .i64 e.f]++([.int .i64 e.t]++([.int .i64 e.x]++ [.int .i64 e.y])))),?_⟩
 rw [keyOf_eg,if_pos (egFormed _ _ _ _),hm]
 show Option.map _ (Tryz.prog.keyLits (m+3) 143 [.int .i64 e.f, .int .i64 e.t, .int .i64 e.x, .int .i64 e.y])=_
 rw [egLits,lits_int Tryz.underlying3 (wf_of h1),lits_int Tryz.underlying3 (wf_of h2),lits_int Tryz.underlying3 (wf_of h3),lits_int Tryz.underlying3 (wf_of h4)]
 rfl
theorem egSur(key:Value)(kl:Lit)(h:keyOf Tryz.prog 143 key=some kl): ∃ e,key=egV e∧e.ok:=by
 obtain⟨m,hm⟩:=egSize
 rw [keyOf_eg]at h
 by_cases hf:key.formed Tryz.prog 143=true
 ·rw [if_pos hf,hm]at h
  obtain⟨cs,rfl,hcs⟩: ∃ cs:Array Value,key= .agg cs∧cs.size=4:=by
   cases key<;>simp [Value.formed,Tryz.underlying143,egCells]at hf
   exact⟨_,rfl,hf⟩
  obtain⟨a,b,c,d,rfl⟩: ∃ a b c d,cs= #[a,b,c,d]:=by
   obtain⟨l⟩:=cs
   match l,hcs with
   | [a,b,c,d],_=>exact⟨a,b,c,d,rfl⟩
  rw [show(Value.agg #[a,b,c,d]).cells.toList= [a,b,c,d]from rfl,egLits]at h
  cases ha:Tryz.prog.keyLits (m+2) 3 [a]with
  |none=>rw [ha]at h;cases h
  |some la=>
   cases hb:Tryz.prog.keyLits (m+2) 3 [b]with
   |none=>rw [ha,hb]at h;cases h
   |some lb=>
    cases hc:Tryz.prog.keyLits (m+1) 3 [c]with
    |none=>rw [ha,hb,hc]at h;cases h
    |some lc=>
     cases hd:Tryz.prog.keyLits (m+1) 3 [d]with
     |none=>rw [ha,hb,hc,hd]at h;cases h
     |some ld=>
      obtain⟨x1,rfl,i1⟩:=lits_int_inv Tryz.underlying3 ha
      obtain⟨x2,rfl,i2⟩:=lits_int_inv Tryz.underlying3 hb
      obtain⟨x3,rfl,i3⟩:=lits_int_inv Tryz.underlying3 hc
      obtain⟨x4,rfl,i4⟩:=lits_int_inv Tryz.underlying3 hd
      exact⟨⟨x1,x2,x3,x4⟩,rfl,i1,i2,i3,i4⟩
 ·rw [if_neg hf]at h
  cases h
theorem egL:KeyL Tryz.prog 143 egV:=⟨egKeyed,fun a b h=>by obtain⟨a1,a2,a3,a4⟩:=a;obtain⟨b1,b2,b3,b4⟩:=b;simpa [egV]using h,fun key kl h=>by obtain⟨e,he,_⟩:=egSur key kl h;exact⟨e,he⟩⟩
theorem intL:KeyL Tryz.prog 3 (Value.int .i64):=⟨int_keyed Tryz.underlying3,fun a b h=>by simpa using h,fun key kl h=>by obtain⟨x,hx,_⟩:=Maps.keyOf_i64 Tryz.underlying3 h;exact⟨x,hx⟩⟩
theorem intKey{x:Int}(h:I64 x):keyOf Tryz.prog 3 (.int .i64 x)=some (.int .i64 x):=by
 simp [keyOf,Tryz.underlying3,mapKey,wf_of h]
end Go.Proofs.YtaadknpjbogkbaaGreat
namespace Go.Proofs.YtaadknpjbogkbaaGreat
open Go.RowKit
set_option linter.unusedVariables false
abbrev ptrV(p:Nat):Value:= .pointer (some ⟨p,0,none⟩)
abbrev outV:Value:= .iface 184 (.agg #[])
abbrev backV(b:Int):Value:= .iface 193 (.agg #[.int .i64 b])
def Chain(V:List Value):Int→List Int→Prop
 |_, []=>True
 |z,x::r=>z=x∧ ∃ b,V[x.toNat]? =some (backV b)∧Chain V b r
theorem Chain.mem{V:List Value}: ∀ {B:List Int} {z:Int},Chain V z B→ ∀ x∈B, ∃ b,V[x.toNat]? =some (backV b)
 | [],_,_,x,h=>by cases h
 |y::r,z,hc,x,h=>by
  obtain⟨_,b,hb,hr⟩:=hc
  rcases List.mem_cons.1 h with rfl|h
  ·exact⟨b,hb⟩
  ·exact hr.mem x h
theorem Chain.set{V:List Value}{n:Nat}{u:Value}: ∀ {B:List Int} {z:Int},Chain V z B→(∀ x∈B,x.toNat≠n)→Chain (V.set n u) z B
 | [],_,_,_=>trivial
 |y::r,z,hc,h=>by
  obtain⟨e,b,hb,hr⟩:=hc
  refine⟨e,b,?_,hr.set (fun x hx=>h x (List.mem_cons_of_mem _ hx))⟩
  rw [List.getElem?_set_ne (fun q=>h y (List.mem_cons_self) q.symm)]
  exact hb
structure ArP(base p:Nat)(L B:List Int)(T:Nat)(F:Nat→Prop)(w:World):Prop where
 ex: ∃ (a:Option Addr) (c:Nat) (z:Int) (V:List Value),Row w p [.slice a T c, .int .i64 (L.length:Int), .int .i64 z]∧Own w base 20 a T c V∧F p∧(∀ k,Slot a k→F k∧k≠p)∧(∀ x∈L,V[x.toNat]? =some outV)∧Chain V z B.reverse
 ft: ∀ k,F k→base≤k∧k<w.heap.size
 ok:ArOk L B T
 all: ∀ x:Int,0≤x→x<T→x∈L∨x∈B
theorem ArP.keep{base p:Nat}{L B:List Int}{T:Nat}{F G:Nat→Prop}{w w':World}(h:ArP base p L B T F w)(hk:Keep G w w')(hd: ∀ k,F k→ ¬G k):ArP base p L B T F w':=by
 obtain⟨a,c,z,V,hrow,ha,hp,hFa,hL,hB⟩:=h.ex
 exact⟨⟨a,c,z,V,hrow.keep hk hrow.lt (hd p hp),ha.keep hk (fun k s=>hd k (hFa k s).1),hp,hFa,hL,hB⟩,fun k hF=>⟨(h.ft k hF).1,Nat.lt_of_lt_of_le (h.ft k hF).2 hk.size⟩,h.ok,h.all⟩
theorem as_out(w:World):(Instr.typeAssert outV 20 184 true).run Tryz.prog w= .ok (.tuple #[.agg #[], .bool true]) w:=by kernel_rfl
theorem as_back(b:Int)(w:World):(Instr.typeAssert (backV b) 20 184 true).run Tryz.prog w= .ok (.tuple #[.agg #[], .bool false]) w:=by kernel_rfl
theorem back_of(b:Int)(w:World):(Instr.typeAssert (backV b) 20 193 false).run Tryz.prog w= .ok (.agg #[.int .i64 b]) w:=by kernel_rfl
theorem field_back(b:Int)(w:World):(Instr.field 193 (.agg #[.int .i64 b]) 0).run Tryz.prog w= .ok (.int .i64 b) w:=by kernel_rfl
theorem mkI_out(w:World):(Instr.makeInterface 184 (.agg #[])).run Tryz.prog w= .ok outV w:=run_makeInterface w _ _ (by kernel_rfl)
theorem mkI_back(x:Value)(w:World):(Instr.makeInterface 193 x).run Tryz.prog w= .ok (.iface 193 x) w:=run_makeInterface w _ _ (by kernel_rfl)
set_option maxRecDepth 100000 in
theorem isOut_yes(p:Nat)(b c T k:Nat)(xs:List Value)(w:World)(hrow:Row w p (.slice (some ⟨b,0,none⟩) T c::xs))(hk:k<T)(hT:T≤1000)(hq:w.cell? ⟨b,k,none⟩=some outV):
  Calls Tryz.prog 83 #[ptrV p, .int .i64 (k:Int)] w fun e w'=>e= .returned (.bool true)∧Below w.heap.size w w':=by
 have q0:=hrow.cell 0 _ rfl
 have ha:=as_out
 have hB: ∀ o,Below w.heap.size w (w.alloc o):=fun o=>(Below.refl _ _).alloc (Nat.le_refl _) _
 go_enter Tryz.func83,Tryz.ntmps83
 go_wp2
 go_ret
 exact⟨rfl,hB _⟩
set_option maxRecDepth 100000 in
theorem isOut_no(p:Nat)(b c T k:Nat)(xs:List Value)(bf:Int)(w:World)(hrow:Row w p (.slice (some ⟨b,0,none⟩) T c::xs))(hk:k<T)(hT:T≤1000)(hq:w.cell? ⟨b,k,none⟩=some (backV bf)):
  Calls Tryz.prog 83 #[ptrV p, .int .i64 (k:Int)] w fun e w'=>e= .returned (.bool false)∧Below w.heap.size w w':=by
 have q0:=hrow.cell 0 _ rfl
 have ha:=as_back bf
 have hB: ∀ o,Below w.heap.size w (w.alloc o):=fun o=>(Below.refl _ _).alloc (Nat.le_refl _) _
 go_enter Tryz.func83,Tryz.ntmps83
 go_wp2
 go_ret
 exact⟨rfl,hB _⟩
set_option maxRecDepth 100000 in
theorem cameBehind_at(p:Nat)(b c T k:Nat)(xs:List Value)(bf:Int)(w:World)(hrow:Row w p (.slice (some ⟨b,0,none⟩) T c::xs))(hk:k<T)(hT:T≤1000)(hq:w.cell? ⟨b,k,none⟩=some (backV bf)):
  Calls Tryz.prog 111 #[ptrV p, .int .i64 (k:Int)] w fun e w'=>e= .returned (.int .i64 bf)∧w'=w:=by
 have q0:=hrow.cell 0 _ rfl
 have ha:=back_of bf
 have hb:=field_back bf
 go_enter Tryz.func111,Tryz.ntmps111
 go_wp2
 go_ret
 exact⟨rfl,rfl⟩
theorem isOut_of{base p:Nat}{L B:List Int}{T:Nat}{F:Nat→Prop}{w:World}(h:ArP base p L B T F w)(hT:T≤1000)(k:Nat)(hk:k<T){r:Bool}(hr:r=decide ((k:Int)∈L)):
  Calls Tryz.prog 83 #[ptrV p, .int .i64 (k:Int)] w fun e w'=>e= .returned (.bool r)∧Below w.heap.size w w':=by
 obtain⟨a,c,z,V,hrow,ha,hp,hFa,hL,hB⟩:=h.ex
 obtain⟨b,rfl,hb,_,hseg⟩:=Own.at ha (by omega)
 by_cases hm:(k:Int)∈L
 ·rw [decide_eq_true hm]at hr
  subst hr
  have hq:=hseg.cell k outV (by have:=hL _ hm;simpa using this)
  rw [Nat.zero_add]at hq
  exact isOut_yes p b c T k _ w hrow hk hT hq
 ·rw [decide_eq_false hm]at hr
  subst hr
  obtain⟨bf,hv⟩:=hB.mem k (List.mem_reverse.2 ((h.all k (by omega) (by omega)).resolve_left hm))
  have hq:=hseg.cell k (backV bf) (by simpa using hv)
  rw [Nat.zero_add]at hq
  exact isOut_no p b c T k _ bf w hrow hk hT hq
set_option maxRecDepth 100000 in
theorem arLen{base p:Nat}{L B:List Int}{T:Nat}{F:Nat→Prop}{w:World}(h:ArP base p L B T F w)(n:Int)(hn:n=L.length):
  Calls Tryz.prog 121 #[ptrV p] w fun e w'=>e= .returned (.int .i64 n)∧Below w.heap.size w w':=by
 obtain⟨a,c,z,V,hrow,ha,hp,hFa,hL,hB⟩:=h.ex
 subst hn
 have q1:=hrow.cell 1 _ rfl
 go_enter Tryz.func121,Tryz.ntmps121
 go_wp2
 go_ret
 exact⟨rfl,Below.refl _ _⟩
set_option maxRecDepth 100000 in
theorem arLive{base p:Nat}{L B:List Int}{T:Nat}{F:Nat→Prop}{w:World}(h:ArP base p L B T F w)(hT:T≤1000)(n:Int)(hn: -9223372036854775808≤n∧n≤9223372036854775807){r:Bool}(hr:r=decide (n∈L)):
  Calls Tryz.prog 40 #[ptrV p, .int .i64 n] w fun e w'=>e= .returned (.bool r)∧Below w.heap.size w w':=by
 have H:Hid _:=h
 obtain⟨a,c,z,V,hrow,ha,hp,hFa,hL,hB⟩:=h.ex
 have q0:=hrow.cell 0 _ rfl
 have HR:Hid _:=hr
 by_cases h0:n<0
 ·obtain rfl:r=false:=by
   rw [hr]
   refine decide_eq_false fun m=>?_
   have:=h.ok.rg n (List.mem_append_left _ m)
   omega
  clear hr h
  go_enter Tryz.func40,Tryz.ntmps40
  go_wp2
  go_ret
  exact⟨rfl,Below.refl _ _⟩
 ·obtain⟨k,rfl⟩:=Int.eq_ofNat_of_zero_le (Int.not_lt.1 h0)
  by_cases hk:k<T
  ·have hlt:((k:Int)<(T:Int)):=by omega
   have hge:0≤(k:Int):=by omega
   clear hr h h0
   go_enter Tryz.func40,Tryz.ntmps40
   go_wp2_with (go_at_call 83;refine(isOut_of H.out hT k hk HR.out).mono ?_;rintro e w1 ⟨rfl,b1⟩)
   go_ret
   exact⟨rfl,b1⟩
  ·obtain rfl:r=false:=by
    rw [hr]
    refine decide_eq_false fun m=>?_
    have:=h.ok.rg _ (List.mem_append_left _ m)
    omega
   clear hr h
   go_enter Tryz.func40,Tryz.ntmps40
   go_wp2
   go_ret
   exact⟨rfl,Below.refl _ _⟩
theorem infoA:(Tryz.prog.info? 20).map (fun i=>(i.zero,i.size,i.bytes))=some (some .nilIface,1,16):=by kernel_rfl
theorem arNew_ok(w:World)(base:Nat)(t:TypeId)(hb:base≤w.heap.size):ArP base w.heap.size [] [] 0 (fun k=>k=w.heap.size) (w.alloc (.cells #[.slice none 0 0, .int .i64 0, .int .i64 0] t)):=
 ⟨⟨none,0,0, [],Row.new w [.slice none 0 0, .int .i64 0, .int .i64 0] t,own_none _ _ _,rfl,(fun k s=>by obtain⟨o,s⟩:=s;cases s),(fun x h=>by cases h),trivial⟩,fun k e=>⟨by omega,by simp;omega⟩,ArOk.new,fun x h0 h1=>by omega⟩
set_option maxRecDepth 100000 in
theorem arNew(base:Nat)(w:World)(hb:base≤w.heap.size):Calls Tryz.prog 46 #[] w fun e w'=> ∃ (p:Nat) (F:Nat→Prop),e= .returned (ptrV p)∧ArP base p [] [] 0 F w'∧(∀ k,F k→w.heap.size≤k)∧Below w.heap.size w w':=by
 have h0:=arNew_ok w base 167 hb
 have hB: ∀ o,Below w.heap.size w (w.alloc o):=fun o=>(Below.refl _ _).alloc (Nat.le_refl _) _
 go_enter Tryz.func46,Tryz.ntmps46
 go_wp2
 go_ret
 exact⟨_,_,rfl,h0,(fun k e=>by omega),hB _⟩
theorem ArP.lend{base p:Nat}{L:List Int}{T:Nat}{F:Nat→Prop}{w w1 w2 w3:World}{a a':Option Addr}{c c':Nat}{z:Int}{V:List Value}(hft: ∀ k,F k→base≤k∧k<w.heap.size)(hok:ArOk L [] T)(hall: ∀ x:Int,0≤x→x<T→x∈L∨x∈([]:List Int))(hL: ∀ x∈L,V[x.toNat]? =some outV)
  (hk:Keep F w w1) (hrow:Row w1 p [.slice a T c, .int .i64 ((T:Int)+1), .int .i64 z]) (ha:Own w1 base 20 a T c V) (hp:F p) (hFa: ∀ k,Slot a k→F k∧k≠p)
  (h2:Below w1.heap.size w1 w2) (h3:Own w3 base 20 a' (T+1) c' (V++ [outV])) (hg:w2.grownBy w3 (Value.slice a T c).ownBlock) (hs: ∀ k,Slot a' k→Slot a k∨w2.heap.size≤k):
  Left (ArP base p (L++ [(T:Int)]) [] (T+1)) F w (w3.setCell ⟨p,0,none⟩ (.slice a' (T+1) c')):=by
 have hown: ∀ k,(Value.slice a T c).ownBlock=some k→Slot a k:=fun k e=>own_slot ha e
 have k2:Keep F w w2:=hk.to h2
 have k3:Keep F w w3:=k2.grown hg (fun k e=>Or.inl (hFa k (hown k e)).1)
 have k4:Keep F w (w3.setCell ⟨p,0,none⟩ (.slice a' (T+1) c')):=k3.set (Or.inl hp) _
 have K23:Keep (fun k=>Slot a k) w1 w3:=(Keep.of h2).grown hg (fun k e=>Or.inl (hown k e))
 have hpl:p<w1.heap.size:=hrow.lt
 have row3:=hrow.keep K23 hpl (fun s=>(hFa p s).2 rfl)
 have na': ¬Slot a' p:=fun s=>(hs p s).elim (fun s=>(hFa p s).2 rfl) (fun e=>by have:=h2.size;omega)
 have hlen:L.length=T:=by have:=hok.num;simpa using this
 have hV:V.length=T:=ha.sl.len
 have hok':ArOk (L++ [(T:Int)]) [] (T+1):=hok.take.1
 refine⟨k4,fun k=>F k∨(w.heap.size≤k∧k<w3.heap.size),⟨⟨a',c',z,V++ [outV],?_,h3.put na' _,Or.inl hp,?_,?_,trivial⟩,?_,hok',?_⟩,fun k hk=>hk.imp id (fun e=>e.1)⟩
 ·have:=row3.set 0 (.slice a' (T+1) c') (by simp)
  rw [List.length_append,hlen]
  exact this
 ·intro k s
  refine⟨(hs k s).elim (fun s=>Or.inl (hFa k s).1) (fun e=>Or.inr ⟨by have:=h2.size;have:=hk.size;omega,(h3.lt s).1⟩),fun e=>na' (e▸s)⟩
 ·intro x hx
  rcases List.mem_append.1 hx with hx|hx
  ·rw [List.getElem?_append_left (by rw [hV];have:=hok.rg x (List.mem_append_left _ hx);omega)]
   exact hL x hx
  ·obtain rfl:x=(T:Int):=by simpa using hx
   rw [List.getElem?_append_right (by rw [hV];omega),hV]
   simp
 ·intro k hk'
  have:=k4.size
  have hb2:base≤w.heap.size:=by have:=hft p hp;omega
  rcases hk' with e|e
  ·exact⟨(hft k e).1,by have:=(hft k e).2;omega⟩
  ·exact⟨by omega,by simp;exact e.2⟩
 ·intro x h0 h1
  by_cases e:x=(T:Int)
  ·subst e;exact Or.inl (by simp)
  ·exact(hall x h0 (by omega)).imp (fun m=>List.mem_append_left _ m) id
theorem below_drewN(w:World)(n:Nat):Below w.heap.size w (w.drewN n):=⟨rfl,rfl,rfl,Nat.le_refl _,fun _ _=>rfl⟩
theorem out_one(w:World)(T:TypeId):Sl (w.alloc (.cells #[outV] T)) (some ⟨w.heap.size,0,none⟩) 1 1 [outV]:=
 ⟨rfl,Nat.le_refl _,by unfold maxLen;omega,(by intro e;cases e),Or.inr ⟨_,_,rfl,by simp,(Row.new w [outV] T).seg⟩⟩
set_option maxRecDepth 100000 in
theorem arTake0{base p:Nat}{L:List Int}{T:Nat}{F:Nat→Prop}{w:World}(h:ArP base p L [] T F w)(hT:T≤1000):
  Calls Tryz.prog 65 #[ptrV p] w fun e w'=>e= .returned (.int .i64 (T:Int))∧Left (ArP base p (L++ [(T:Int)]) [] (T+1)) F w w':=by
 obtain⟨a,c,z,V,hrow,ha,hp,hFa,hL,hB⟩:=h.ex
 obtain⟨i0,hi0,hz0,hz1,hz2⟩:=info_of infoA
 have hft:=h.ft
 have hlen:L.length=T:=by have:=h.ok.num;simpa using this
 rw [hlen]at hrow
 have q0:=hrow.cell 0 _ rfl
 have q1:=hrow.cell 1 _ rfl
 have f0:=hrow.free 0 (by simp)
 have f1:=hrow.free 1 (by simp)
 have row1:Row (w.setCell ⟨p,1,none⟩ (.int .i64 ((T:Int)+1))) p [.slice a T c, .int .i64 ((T:Int)+1), .int .i64 z]:=hrow.set 1 _ (by simp)
 have c10:=row1.cell 0 _ rfl
 have c11:=row1.cell 1 _ rfl
 have hgt:(T:Int)<(T:Int)+1:=by omega
 go_enter Tryz.func65,Tryz.ntmps65
 have hmi:=mkI_out
 have HL:Hid _:=hL
 have HA:Hid _:=h.all
 have HK:Hid _:=h.ok
 have hcap:T+1≤maxLen:=by unfold maxLen;omega
 clear hL h
 go_wp2
 go_quiet (fail)
 have B2:Below _ (w.setCell ⟨p,1,none⟩ (.int .i64 ((T:Int)+1))) (((w.setCell ⟨p,1,none⟩ (.int .i64 ((T:Int)+1))).drewN nq).alloc (.cells #[outV] 20)):=(below_drewN _ nq).alloc (Nat.le_refl _) _
 have k1:Keep F w (w.setCell ⟨p,1,none⟩ (.int .i64 ((T:Int)+1))):=(Keep.refl F w).set (Or.inl hp) _
 have a1:=ha.put (i:=1) (fun s=>(hFa p s).2 rfl) (.int .i64 ((T:Int)+1))
 have a2:=a1.below B2
 have one:=out_one ((w.setCell ⟨p,1,none⟩ (.int .i64 ((T:Int)+1))).drewN nq) 20
 have e1:((w.setCell ⟨p,1,none⟩ (.int .i64 ((T:Int)+1))).drewN nq).heap.size=w.heap.size:=by simp
 rw [e1]at one
 have hpb:=(hft p hp).1
 have hpl:=(hft p hp).2
 clear e1
 go_wp2_with (at_builtin;go_loud (refine app_at _ rfl (.tmp 27) (.tmp 30) 165 rfl base 20 i0 .nilIface 16 Tryz.underlying165 hi0 hz0 hz1 hz2 rfl a T c V rfl a2 _ 1 1 [outV] rfl one (by simp [Value.oneCell']) hcap (by omega) (by simp;omega) ?_;intro a3 c3 w3 h3 g3 s3;have row3:=row1.keep ((Keep.of (F:=fun k=>Slot a k) B2).grown g3 (fun k e=>Or.inl (own_slot a1 e))) row1.lt (fun s=>(hFa p s).2 rfl);have r30:=row3.free 0 (by simp);have r31:=row3.cell 0 _ rfl;have r32:=(row3.set 0 (.slice a3 (T+1) c3) (by simp)).cell 0 _ rfl))
 go_ret
 exact⟨rfl,ArP.lend hft HK.out HA.out HL.out k1 row1 a1 hp hFa B2 h3 g3 s3⟩
theorem ArP.again{base p:Nat}{L B:List Int}{T k b c:Nat}{F:Nat→Prop}{w w2:World}{bf:Int}{V:List Value}(h:ArP base p L (B++ [(k:Int)]) T F w)(hL: ∀ x∈L,V[x.toNat]? =some outV)(hB:Chain V bf B.reverse)
  (hk:Keep F w w2) (hrow:Row w2 p [.slice (some ⟨b,0,none⟩) T c, .int .i64 ((L.length:Int)+1), .int .i64 bf]) (ha:Own w2 base 20 (some ⟨b,0,none⟩) T c V) (hp:F p) (hFa: ∀ i,Slot (some ⟨b,0,none⟩) i→F i∧i≠p) (hkT:k<T):
  Left (ArP base p (L++ [(k:Int)]) B T) F w (w2.setCell ⟨b,k,none⟩ outV):=by
 have hb:F b∧b≠p:=hFa b ⟨0,rfl⟩
 have hV:V.length=T:=ha.sl.len
 have hok:=h.ok.take
 rw [tkN_last,tkT_last,List.dropLast_concat]at hok
 have hnd:=(List.nodup_append.1 h.ok.nd).2.1
 refine⟨hk.set (Or.inl hb.1) _,F,⟨⟨some ⟨b,0,none⟩,c,bf,V.set k outV,?_,(ha.stored k outV).1,hp,hFa,?_,hB.set ?_⟩,fun i e=>⟨(h.ft i e).1,?_⟩,hok.1,?_⟩,fun i e=>Or.inl e⟩
 ·have:=hrow.other (i:=k) outV hb.2
  rw [List.length_append]
  exact this
 ·intro x hx
  by_cases e:k=x.toNat
  ·rw [←e,List.getElem?_set_self (by omega)]
  ·rw [List.getElem?_set_ne e]
   rcases List.mem_append.1 hx with hx|hx
   ·exact hL x hx
   ·exact absurd (by simp at hx;subst hx;simp) e
 ·intro x hx e
  have h1:=h.ok.rg x (by simp at hx;simp [hx])
  have h2:=(List.nodup_append.1 hnd).2.2 x (by simpa using hx) (k:Int) (by simp)
  exact h2 (by omega)
 ·have:=(h.ft i e).2
  have:=hk.size
  simp
  omega
 ·intro x h0 h1
  rcases h.all x h0 h1 with m|m
  ·exact Or.inl (List.mem_append_left _ m)
  ·rcases List.mem_append.1 m with m|m
   ·exact Or.inr m
   ·exact Or.inl (List.mem_append_right _ m)
set_option maxRecDepth 100000 in
theorem arTake1{base p:Nat}{L B:List Int}{T k:Nat}{F:Nat→Prop}{w:World}(h:ArP base p L (B++ [(k:Int)]) T F w)(hT:T≤1000):
  Calls Tryz.prog 65 #[ptrV p] w fun e w'=>e= .returned (.int .i64 (k:Int))∧Left (ArP base p (L++ [(k:Int)]) B T) F w w':=by
 have H:Hid _:=h
 obtain⟨a,c,z,V,hrow,ha,hp,hFa,hL,hB⟩:=h.ex
 rw [List.reverse_append]at hB
 obtain⟨rfl,bf,hbf,hB⟩:=hB
 have hkT:k<T:=by have:=h.ok.rg (k:Int) (by simp);omega
 have hnum:L.length+1≤T:=by have:=h.ok.num;simp at this;omega
 obtain⟨b,rfl,hb,_,hseg⟩:=Own.at ha (by omega)
 have hbp:=hFa b ⟨0,rfl⟩
 have hroom:=ha.sl.room
 have hq:=hseg.cell k (backV bf) (by simpa using hbf)
 have hqf:=hseg.free k (by rw [ha.sl.len];exact hkT)
 rw [Nat.zero_add]at hq hqf
 have HL:Hid _:=hL
 have HB:Hid _:=hB
 have hpl:=(h.ft p hp).2
 have hpb: ¬p=b:=fun e=>hbp.2 e.symm
 obtain⟨m,hm⟩: ∃ m,m=L.length:=⟨_,rfl⟩
 rw [←hm]at hrow hnum
 have q0:=hrow.cell 0 _ rfl
 have q1:=hrow.cell 1 _ rfl
 have q2:=hrow.cell 2 _ rfl
 have f0:=hrow.free 0 (by simp)
 have f1:=hrow.free 1 (by simp)
 have f2:=hrow.free 2 (by simp)
 have row1:Row (w.setCell ⟨p,1,none⟩ (.int .i64 ((m:Int)+1))) p [.slice (some ⟨b,0,none⟩) T c, .int .i64 ((m:Int)+1), .int .i64 (k:Int)]:=hrow.set 1 _ (by simp)
 have row2:Row ((w.setCell ⟨p,1,none⟩ (.int .i64 ((m:Int)+1))).setCell ⟨p,2,none⟩ (.int .i64 bf)) p [.slice (some ⟨b,0,none⟩) T c, .int .i64 ((m:Int)+1), .int .i64 bf]:=row1.set 2 _ (by simp)
 have a2:=(ha.put (i:=1) (fun s=>(hFa p s).2 rfl) (.int .i64 ((m:Int)+1))).put (i:=2) (fun s=>(hFa p s).2 rfl) (.int .i64 bf)
 have K2:Keep F w ((w.setCell ⟨p,1,none⟩ (.int .i64 ((m:Int)+1))).setCell ⟨p,2,none⟩ (.int .i64 bf)):=((Keep.refl F w).set (Or.inl hp) _).set (Or.inl hp) _
 have c10:=row1.cell 0 _ rfl
 have c11:=row1.cell 1 _ rfl
 have c12:=row1.cell 2 _ rfl
 have c20:=row2.cell 0 _ rfl
 have hno: ¬(T:Int)<(m:Int)+1:=by omega
 have hq1:(w.setCell ⟨p,1,none⟩ (.int .i64 ((m:Int)+1))).cell? ⟨b,k,none⟩=some (backV bf):=by
  rw [World.cell?_setCell_other _ _ _ _ (by intro q;simp only [Addr.mk.injEq]at q;omega)]
  exact hq
 have HM:Hid _:=hm
 have hmi:=mkI_out
 clear hL hB h hm hnum hbf hseg
 go_enter Tryz.func65,Tryz.ntmps65
 go_wp2
 go_quiet (fail)
 go_wp2_with (go_at_call 111;go_loud (refine(cameBehind_at p b c T k _ bf _ (row1.drewN nq) hkT hT hq1).mono ?_;rintro e w1 ⟨rfl,rfl⟩))
 go_ret
 have K3:Keep F w (((w.setCell ⟨p,1,none⟩ (.int .i64 ((m:Int)+1))).drewN nq).setCell ⟨p,2,none⟩ (.int .i64 bf)):=(((Keep.refl F w).set (Or.inl hp) _).to (below_drewN _ nq)).set (Or.inl hp) _
 refine⟨rfl,ArP.again H.out HL.out HB.out K3 ?_ a2 hp hFa hkT⟩
 rw [←HM.out]
 exact row2
theorem ArP.back{base p:Nat}{L M B:List Int}{T k b c:Nat}{F:Nat→Prop}{w w2:World}{z:Int}{V:List Value}(h:ArP base p L B T F w)(hM:M=L.filter (fun y=>decide (y≠(k:Int))))(hn:(k:Int)∈L)(hL: ∀ x∈L,V[x.toNat]? =some outV)(hB:Chain V z B.reverse)
  (hk:Keep F w w2) (hrow:Row w2 p [.slice (some ⟨b,0,none⟩) T c, .int .i64 ((L.length:Int)- 1), .int .i64 (k:Int)]) (ha:Own w2 base 20 (some ⟨b,0,none⟩) T c (V.set k (backV z))) (hp:F p) (hFa: ∀ i,Slot (some ⟨b,0,none⟩) i→F i∧i≠p) (hkT:k<T):
  Left (ArP base p M (B++ [(k:Int)]) T) F w w2:=by
 have hV:V.length=T:=by have:=ha.sl.len;rw [List.length_set]at this;exact this
 have hok:=h.ok.free hn
 have hlen:=(filter_ne_perm (List.nodup_append.1 h.ok.nd).1 hn).length_eq
 have hlp:0<L.length:=List.length_pos_of_mem hn
 rw [←hM]at hok hlen
 rw [List.length_append]at hlen
 refine⟨hk,F,⟨⟨some ⟨b,0,none⟩,c,(k:Int),V.set k (backV z),?_,ha,hp,hFa,?_,?_⟩,fun i e=>⟨(h.ft i e).1,?_⟩,hok,?_⟩,fun i e=>Or.inl e⟩
 ·rw [show(M.length:Int)=(L.length:Int)- 1 by simp at hlen;omega]
  exact hrow
 ·intro x hx
  rw [hM,List.mem_filter]at hx
  have hne:x≠(k:Int):=by simpa using hx.2
  have hr:=h.ok.rg x (List.mem_append_left _ hx.1)
  rw [List.getElem?_set_ne (by omega)]
  exact hL x hx.1
 ·rw [List.reverse_append]
  refine⟨rfl,z,?_,hB.set ?_⟩
  ·rw [Int.toNat_natCast,List.getElem?_set_self (by omega)]
  ·intro x hx e
   have hr:=h.ok.rg x (List.mem_append_right _ (by simpa using hx))
   exact(List.nodup_append.1 h.ok.nd).2.2 (k:Int) hn x (by simpa using hx) (by omega)
 ·have:=(h.ft i e).2
  have:=hk.size
  omega
 ·intro x h0 h1
  by_cases e:x=(k:Int)
  ·exact Or.inr (by simp [e])
  ·rcases h.all x h0 h1 with m|m
   ·exact Or.inl (by rw [hM,List.mem_filter];exact⟨m,by simpa using e⟩)
   ·exact Or.inr (List.mem_append_left _ m)
set_option maxRecDepth 100000 in
theorem arFree1{base p:Nat}{L B:List Int}{T k:Nat}{F:Nat→Prop}{w:World}(h:ArP base p L B T F w)(hT:T≤1000)(hn:(k:Int)∈L){M:List Int}(hM:M=L.filter (fun y=>decide (y≠(k:Int)))):
  Calls Tryz.prog 95 #[ptrV p, .int .i64 (k:Int)] w fun e w'=>e= .returned (.bool true)∧Left (ArP base p M (B++ [(k:Int)]) T) F w w':=by
 have H:Hid _:=h
 have HR:Hid (true=decide ((k:Int)∈L)):=(decide_eq_true hn).symm
 obtain⟨a,c,z,V,hrow,ha,hp,hFa,hL,hB⟩:=h.ex
 have hkT:k<T:=by have:=h.ok.rg (k:Int) (List.mem_append_left _ hn);omega
 obtain⟨b,rfl,hb,_,hseg⟩:=Own.at ha (by omega)
 have hbp:=hFa b ⟨0,rfl⟩
 have hroom:=ha.sl.room
 have hpl:=(h.ft p hp).2
 have hpb: ¬p=b:=fun e=>hbp.2 e.symm
 have hnum:0<L.length∧L.length≤T:=by have:=h.ok.num;have:=List.length_pos_of_mem hn;omega
 have hrg: -9223372036854775808≤(k:Int)∧(k:Int)≤9223372036854775807:=by omega
 have HL:Hid _:=hL
 have HB:Hid _:=hB
 have HM:Hid _:=hM
 have HN:Hid _:=hn
 obtain⟨m,hm⟩: ∃ m,m=L.length:=⟨_,rfl⟩
 rw [←hm]at hrow hnum
 have Hm:Hid _:=hm
 have hmi:=fun x w=>mkI_back x w
 clear hL hB h hm hn hM hseg
 go_enter Tryz.func95,Tryz.ntmps95
 go_wp2_with (go_at_call 40;refine(arLive H.out hT (k:Int) hrg HR.out).mono ?_;rintro e w1 ⟨rfl,b1⟩)
 have row1:=hrow.keep (Keep.of (F:=fun _=>False) b1) hpl (fun x=>x)
 have a1:=ha.below b1
 have q0:=row1.cell 0 _ rfl
 have q1:=row1.cell 1 _ rfl
 have q2:=row1.cell 2 _ rfl
 have f1:=row1.free 1 (by simp)
 have f2:=row1.free 2 (by simp)
 have hq:w1.cell? ⟨b,k,none⟩=some outV:=by rw [World.ownsRow.cellAt a1 k (by omega)];simpa using HL.out _ HN.out
 have hqf:=World.ownsRow.frozenAt a1 k
 have row2:=row1.other (i:=k) (backV z) hbp.2
 have r21:=row2.cell 1 _ rfl
 have g21:=row2.free 1 (by simp)
 have g22:=row2.free 2 (by simp)
 have row3:=row2.set 2 (.int .i64 (k:Int)) (by simp)
 have r31:=row3.cell 1 _ rfl
 have g31:=row3.free 1 (by simp)
 go_region
 go_wp2
 go_ret
 have K:Keep F w ((((w1.setCell ⟨b,k,none⟩ (backV z)).setCell ⟨p,2,none⟩ (.int .i64 (k:Int))).setCell ⟨p,1,none⟩ (.int .i64 ((m:Int)- 1))).drew):=((((Keep.of b1).set (Or.inl hbp.1) _).set (Or.inl hp) _).set (Or.inl hp) _).drew
 have o2:Own (w1.setCell ⟨b,k,none⟩ (backV z)) base 20 (some ⟨b,0,none⟩) T c (V.set k (backV z)):=(World.ownsRow.stored a1 k (backV z)).1
 have o3:=(o2.put (i:=2) (fun s=>(hFa p s).2 rfl) (.int .i64 (k:Int))).put (i:=1) (fun s=>(hFa p s).2 rfl) (.int .i64 ((m:Int)- 1))
 have row4:Row _ p [.slice (some ⟨b,0,none⟩) T c, .int .i64 ((m:Int)- 1), .int .i64 (k:Int)]:=row3.set 1 (.int .i64 ((m:Int)- 1)) (by simp)
 rw [Hm.out]at K o3 row4
 refine⟨rfl,?_⟩
 rw [Hm.out]
 exact ArP.back H.out HM.out HN.out HL.out HB.out K row4.drew (o3.below (Below.drew (Below.refl _ _))) hp hFa hkT
set_option maxRecDepth 100000 in
set_option maxHeartbeats 1000000 in
theorem arAll{base p:Nat}{L B:List Int}{T:Nat}{F:Nat→Prop}{w:World}(h:ArP base p L B T F w)(hL:L.length≤1000)(hT:T≤1000){M:List Int}(hM:M=allN L T):
  Calls Tryz.prog 122 #[ptrV p] w (GotL w M):=by
 have H:Hid _:=h
 obtain⟨a,c,z,V,hrow,ha,hp,hFa,_,_⟩:=h.ex
 obtain⟨i0,hi0,hz0,hz1,hz2⟩:=info_of infoI
 have hpl:=(h.ft p hp).2
 have HM:Hid _:=hM
 have q0:=hrow.cell 0 _ rfl
 have q1:=hrow.cell 1 _ rfl
 obtain⟨m,hm⟩: ∃ m,m=L.length:=⟨_,rfl⟩
 rw [←hm]at hrow hL q1
 clear hM h hm
 go_enter Tryz.func122,Tryz.ntmps122
 go_wp2_with (at_make;go_loud (refine wpList_make_own _ rfl (.const (.int .i64 0)) (.tmp 10) 99 rfl w.heap.size 3 i0 (.int .i64 0) 1 Tryz.underlying99 hi0 hz0 hz1 .i64 .i64 _ m rfl rfl rfl (by rw [hz2];omega) (by unfold maxLen;omega) (Nat.le_refl _) ?_;intro w0 own0 g0;have B0:Below w.heap.size w w0:=(Keep.grown (F:=fun _=>False) (Keep.refl _ w) g0 (fun k e=>by cases e)).below (Nat.le_refl _) (fun _ x=>x.elim);have row0:=hrow.keep (Keep.of (F:=fun _=>False) B0) hpl (fun x=>x);have q00:=row0.cell 0 _ rfl))
 go_loopw [3,17] (fun s i wr=> ∃ k,k≤T∧i= .int .i64 (k:Int)∧ ∃ (a:Option Addr) (c:Nat),s= .slice a (allN L k).length c∧Own wr w.heap.size 3 a (allN L k).length c (ints (allN L k))∧Below w.heap.size w wr) (fun _ i _=>T- (RowKit.intOf i).toNat)
 case atStart=>exact⟨0,by omega,rfl,_,_,rfl,own0,B0⟩
 case round=>
  clear own0 B0
  obtain⟨k,hk,rfl,a2,c2,rfl,hown,bel⟩:=hrel
  have HA:=H.out.keep (Keep.of (F:=fun _=>False) bel) (fun _ _ x=>x)
  have HA:Hid _:=HA
  have hnx:=allN_next L k
  have hml:=allN_len L k
  obtain⟨M',hM'⟩: ∃ M',M'=allN L k:=⟨_,rfl⟩
  rw [←hM']at hown hnx hml ⊢
  by_cases hlt:k<T
  ·obtain⟨r,hr⟩: ∃ r,r=decide ((k:Int)∈L):=⟨_,rfl⟩
   have HR:Hid _:=hr
   have hbs:=bel.size
   cases r with
   |false=>
    have HN:Hid (allN L (k+1)=M'):=by unfold Hid;rw [hnx,if_neg (of_decide_eq_false hr.symm),List.append_nil]
    clear hr hnx hM'
    go_wp2_with (go_at_call 83;refine(isOut_of HA.out hT k hlt HR.out).mono ?_;rintro e w1 ⟨rfl,b1⟩)
    go_roundw
    case rel=>exact⟨k+1,by omega,by simp,a2,c2,by rw [HN.out],by rw [HN.out];exact hown.below b1,bel.trans (b1.mono bel.size)⟩
    case measure=>simp [RowKit.intOf];omega
   |true=>
    have HN:Hid (allN L (k+1)=M'++ [(k:Int)]):=by unfold Hid;rw [hnx,if_pos (of_decide_eq_true hr.symm)]
    have hcap:M'.length+1≤maxLen:=by unfold maxLen;omega
    clear hr hnx hM'
    go_wp2_with (first
     |(go_at_call 83;refine(isOut_of HA.out hT k hlt HR.out).mono ?_;rintro e w1 ⟨rfl,b1⟩;have o1:=(hown.below b1).below ((Below.refl w1.heap.size w1).alloc (Nat.le_refl _) (.cells #[.int .i64 (k:Int)] 3));have one:=sl_one w1 (k:Int) 3;have z1:=b1.size)
     |(at_builtin;go_loud (refine app_at _ rfl (.tmp 23) (.tmp 25) 99 rfl w.heap.size 3 i0 (.int .i64 0) 8 Tryz.underlying99 hi0 hz0 hz1 hz2 rfl a2 M'.length c2 (ints M') rfl o1 _ 1 1 [.int .i64 (k:Int)] rfl one (ints_one [(k:Int)]) hcap (by omega) (by simp;omega) ?_;intro a3 c3 w3 h3 g3 s3)))
    go_roundw
    case rel=>
     have b3:Below w.heap.size w w3:=(bel.trans ((b1.mono bel.size).trans (((Below.refl w1.heap.size w1).alloc (Nat.le_refl _) _).mono (by omega)))).trans ((Keep.grown (F:=fun k=>Slot a2 k) (Keep.refl _ _) g3 (fun k e=>Or.inl (own_slot hown e))).below (by simp;omega) (fun k s=>(hown.lt s).2))
     exact⟨k+1,by omega,by simp,a3,c3,by rw [HN.out];simp,by rw [HN.out,ints_append,List.length_append];exact h3,b3⟩
    case measure=>simp [RowKit.intOf];omega
  ·obtain rfl:k=T:=by omega
   clear hnx
   go_wp2
   go_ret
   rw [hM']at hown ⊢
   rw [HM.out]
   exact⟨a2,c2,rfl,hown,bel⟩
end Go.Proofs.YtaadknpjbogkbaaGreat
namespace Go.Proofs.YtaadknpjbogkbaaGreat
open Go.RowKit Go.Maps
set_option linter.unusedVariables false
structure Mx where
 κ:Nat→Nat
 pv:Nat
 pf:Nat
 Fv:Nat→Prop
 Ff:Nat→Prop
 a:Option Addr
 nv:Nat
 ca:Nat
 b:Option Addr
 nf:Nat
 cb:Nat
 be:Nat
 xs:List Value
 ys:List Value
 M:Int→Nat
 ge:Eg→Option Value
 gf:Int→Int→Option Value
 Lv:Int→Prop
 n:Int
 av:Ar
 af:Ar
abbrev Mx.cells(X:Mx):List Value:= [.int .i64 X.n,ptR X.pv,ptR X.pf, .slice X.a X.nv X.ca, .slice X.b X.nf X.cb, .map (some X.be)]
abbrev EMap(w:World)(b:Nat)(g:Eg→Option Value):Prop:=MapL Tryz.prog 143 egV w b g
abbrev IMap(w:World)(b:Nat)(g:Int→Option Value):Prop:=MapL Tryz.prog 3 (Value.int .i64) w b g
structure MeI(base p:Nat)(X:Mx)(F:Nat→Prop)(w:World):Prop where
 row:Row w p X.cells
 arv:ArP base X.pv X.av.L X.av.B X.av.T X.Fv w
 arf:ArP base X.pf X.af.L X.af.B X.af.T X.Ff w
 own:OwnS w base 138 5 X.a X.nv X.ca X.xs
 onf:OwnS w base 49 9 X.b X.nf X.cb X.ys
 edg:EMap w X.be X.ge
 fcs: ∀ v,X.Lv v→IMap w (X.M v) (X.gf v)
 c0:F p∧X.κ p=0
 c1: ∀ k,X.Fv k→F k∧X.κ k=1
 c2: ∀ k,X.Ff k→F k∧X.κ k=2
 c3: ∀ k,Slot X.a k→F k∧X.κ k=3
 c4: ∀ k,Slot X.b k→F k∧X.κ k=4
 c5:F X.be∧X.κ X.be=5
 c6: ∀ v,X.Lv v→0≤v∧F (X.M v)∧X.κ (X.M v)=6+v.toNat
 ft: ∀ k,F k→base≤k∧k<w.heap.size
abbrev more(F:Nat→Prop)(s s':Nat):Nat→Prop:=fun k=>F k∨(s≤k∧k<s')
abbrev paint(κ:Nat→Nat)(s c:Nat):Nat→Nat:=fun k=>if k<s then κ k else c
section
variable {base p : Nat} {X : Mx} {F G : Nat → Prop} {w w' : World}
theorem MeI.keep(h:MeI base p X F w)(hk:Keep G w w')(hd: ∀ k,F k→ ¬G k):MeI base p X F w' where
 row:=h.row.keep hk h.row.lt (hd p h.c0.1)
 arv:=h.arv.keep hk (fun k s=>hd k (h.c1 k s).1)
 arf:=h.arf.keep hk (fun k s=>hd k (h.c2 k s).1)
 own:=h.own.keep hk (fun k s=>hd k (h.c3 k s).1)
 onf:=h.onf.keep hk (fun k s=>hd k (h.c4 k s).1)
 edg:=h.edg.keep hk (hd _ h.c5.1)
 fcs:=fun v hv=>(h.fcs v hv).keep hk (hd _ (h.c6 v hv).2.1)
 c0:=h.c0
 c1:=h.c1
 c2:=h.c2
 c3:=h.c3
 c4:=h.c4
 c5:=h.c5
 c6:=h.c6
 ft:=fun k hF=>⟨(h.ft k hF).1,Nat.lt_of_lt_of_le (h.ft k hF).2 hk.size⟩
theorem MeI.below(h:MeI base p X F w)(hb:Below w.heap.size w w'):MeI base p X F w':=h.keep (Keep.of (F:=fun _=>False) hb) (fun _ _ x=>x)
structure Stays(base p:Nat)(X:Mx)(F:Nat→Prop)(w':World)(c:Nat):Prop where
 row:c≠0→Row w' p X.cells
 arv:c≠1→ArP base X.pv X.av.L X.av.B X.av.T X.Fv w'
 arf:c≠2→ArP base X.pf X.af.L X.af.B X.af.T X.Ff w'
 own:c≠3→OwnS w' base 138 5 X.a X.nv X.ca X.xs
 onf:c≠4→OwnS w' base 49 9 X.b X.nf X.cb X.ys
 edg:c≠5→EMap w' X.be X.ge
 fcs: ∀ v,X.Lv v→c≠6+v.toNat→IMap w' (X.M v) (X.gf v)
theorem MeI.stays(h:MeI base p X F w)(hk:Keep G w w')(c:Nat)(hG: ∀ k,G k→F k→X.κ k=c):Stays base p X F w' c where
 row:=fun hc=>h.row.keep hk h.row.lt (fun g=>hc ((hG _ g h.c0.1).symm.trans h.c0.2))
 arv:=fun hc=>h.arv.keep hk (fun k s g=>hc ((hG _ g (h.c1 k s).1).symm.trans (h.c1 k s).2))
 arf:=fun hc=>h.arf.keep hk (fun k s g=>hc ((hG _ g (h.c2 k s).1).symm.trans (h.c2 k s).2))
 own:=fun hc=>h.own.keep hk (fun k s g=>hc ((hG _ g (h.c3 k s).1).symm.trans (h.c3 k s).2))
 onf:=fun hc=>h.onf.keep hk (fun k s g=>hc ((hG _ g (h.c4 k s).1).symm.trans (h.c4 k s).2))
 edg:=fun hc=>h.edg.keep hk (fun g=>hc ((hG _ g h.c5.1).symm.trans h.c5.2))
 fcs:=fun v hv hc=>(h.fcs v hv).keep hk (fun g=>hc ((hG _ g (h.c6 v hv).2.1).symm.trans (h.c6 v hv).2.2))
theorem paint_old{κ:Nat→Nat}{s c k:Nat}(h:k<s):paint κ s c k=κ k:=if_pos h
theorem paint_new{κ:Nat→Nat}{s c k:Nat}(h:s≤k):paint κ s c k=c:=if_neg (by omega)
theorem MeI.turnV(h:MeI base p X F w){A:Ar}{Fv':Nat→Prop}(hk:Keep X.Fv w w')(hA:ArP base X.pv A.L A.B A.T Fv' w')(hF: ∀ k,Fv' k→X.Fv k∨w.heap.size≤k):
  MeI base p { X with av:=A,Fv:=Fv',κ:=paint X.κ w.heap.size 1 } (more F w.heap.size w'.heap.size) w':=by
 have st:=h.stays hk 1 (fun k g _=>(h.c1 k g).2)
 have old: ∀ k,F k→paint X.κ w.heap.size 1 k=X.κ k:=fun k hF=>paint_old (h.ft k hF).2
 refine⟨st.row (by decide),hA,st.arf (by decide),st.own (by decide),st.onf (by decide),st.edg (by decide),(fun v hv=>st.fcs v hv (by omega)),⟨Or.inl h.c0.1,(old _ h.c0.1).trans h.c0.2⟩,?_,(fun k s=>⟨Or.inl (h.c2 k s).1,(old _ (h.c2 k s).1).trans (h.c2 k s).2⟩),(fun k s=>⟨Or.inl (h.c3 k s).1,(old _ (h.c3 k s).1).trans (h.c3 k s).2⟩),(fun k s=>⟨Or.inl (h.c4 k s).1,(old _ (h.c4 k s).1).trans (h.c4 k s).2⟩),⟨Or.inl h.c5.1,(old _ h.c5.1).trans h.c5.2⟩,(fun v hv=>⟨(h.c6 v hv).1,Or.inl (h.c6 v hv).2.1,(old _ (h.c6 v hv).2.1).trans (h.c6 v hv).2.2⟩),?_⟩
 ·intro k s
  rcases hF k s with g|g
  ·exact⟨Or.inl (h.c1 k g).1,(old _ (h.c1 k g).1).trans (h.c1 k g).2⟩
  ·exact⟨Or.inr ⟨g,(hA.ft k s).2⟩,paint_new g⟩
 ·intro k hk'
  have hb:base≤w.heap.size:=Nat.le_of_lt (Nat.lt_of_le_of_lt (h.ft p h.c0.1).1 (h.ft p h.c0.1).2)
  rcases hk' with g|⟨g1,g2⟩
  ·exact⟨(h.ft k g).1,Nat.lt_of_lt_of_le (h.ft k g).2 hk.size⟩
  ·exact⟨by omega,g2⟩
theorem MeI.turnF(h:MeI base p X F w){A:Ar}{Ff':Nat→Prop}(hk:Keep X.Ff w w')(hA:ArP base X.pf A.L A.B A.T Ff' w')(hF: ∀ k,Ff' k→X.Ff k∨w.heap.size≤k):
  MeI base p { X with af:=A,Ff:=Ff',κ:=paint X.κ w.heap.size 2 } (more F w.heap.size w'.heap.size) w':=by
 have st:=h.stays hk 2 (fun k g _=>(h.c2 k g).2)
 have old: ∀ k,F k→paint X.κ w.heap.size 2 k=X.κ k:=fun k hF=>paint_old (h.ft k hF).2
 refine⟨st.row (by decide),st.arv (by decide),hA,st.own (by decide),st.onf (by decide),st.edg (by decide),(fun v hv=>st.fcs v hv (by omega)),⟨Or.inl h.c0.1,(old _ h.c0.1).trans h.c0.2⟩,(fun k s=>⟨Or.inl (h.c1 k s).1,(old _ (h.c1 k s).1).trans (h.c1 k s).2⟩),?_,(fun k s=>⟨Or.inl (h.c3 k s).1,(old _ (h.c3 k s).1).trans (h.c3 k s).2⟩),(fun k s=>⟨Or.inl (h.c4 k s).1,(old _ (h.c4 k s).1).trans (h.c4 k s).2⟩),⟨Or.inl h.c5.1,(old _ h.c5.1).trans h.c5.2⟩,(fun v hv=>⟨(h.c6 v hv).1,Or.inl (h.c6 v hv).2.1,(old _ (h.c6 v hv).2.1).trans (h.c6 v hv).2.2⟩),?_⟩
 ·intro k s
  rcases hF k s with g|g
  ·exact⟨Or.inl (h.c2 k g).1,(old _ (h.c2 k g).1).trans (h.c2 k g).2⟩
  ·exact⟨Or.inr ⟨g,(hA.ft k s).2⟩,paint_new g⟩
 ·intro k hk'
  have hb:base≤w.heap.size:=Nat.le_of_lt (Nat.lt_of_le_of_lt (h.ft p h.c0.1).1 (h.ft p h.c0.1).2)
  rcases hk' with g|⟨g1,g2⟩
  ·exact⟨(h.ft k g).1,Nat.lt_of_lt_of_le (h.ft k g).2 hk.size⟩
  ·exact⟨by omega,g2⟩
theorem MeI.turnA(h:MeI base p X F w){w1:World}{a':Option Addr}{n' c':Nat}{xs':List Value}(hk:Keep (Slot X.a) w w1)(hO:OwnS w1 base 138 5 a' n' c' xs')(hS: ∀ k,Slot a' k→Slot X.a k∨w.heap.size≤k):
  MeI base p { X with a:=a',nv:=n',ca:=c',xs:=xs',κ:=paint X.κ w.heap.size 3 } (more F w.heap.size w1.heap.size) (w1.setCell ⟨p,3,none⟩ (.slice a' n' c'))∧Keep F w (w1.setCell ⟨p,3,none⟩ (.slice a' n' c')):=by
 have st:=h.stays hk 3 (fun k g _=>(h.c3 k g).2)
 have old: ∀ k,F k→paint X.κ w.heap.size 3 k=X.κ k:=fun k hF=>paint_old (h.ft k hF).2
 have hpl:=(h.ft p h.c0.1).2
 have hne: ∀ {k c:Nat},X.κ k=c→c≠0→k≠p:=fun{k c} hc h0 e=>h0 (hc.symm.trans (by rw [e];exact h.c0.2))
 have na: ¬Slot a' p:=fun s=>(hS p s).elim (fun s=>absurd ((h.c3 p s).2.symm.trans h.c0.2) (by decide)) (fun e=>by omega)
 have ks:Keep (fun k=>k=p) w1 (w1.setCell ⟨p,3,none⟩ (.slice a' n' c')):=(Keep.refl (fun k=>k=p) w1).set (Or.inl rfl) _
 have k2:Keep F w (w1.setCell ⟨p,3,none⟩ (.slice a' n' c')):=(hk.mono (fun k s=>(h.c3 k s).1)).trans ks (fun i e=>Or.inl (by rw [e];exact h.c0.1))
 have hb:base≤w.heap.size:=Nat.le_of_lt (Nat.lt_of_le_of_lt (h.ft p h.c0.1).1 hpl)
 refine⟨⟨?_,(st.arv (by decide)).keep ks (fun k s=>hne (h.c1 k s).2 (by decide)),(st.arf (by decide)).keep ks (fun k s=>hne (h.c2 k s).2 (by decide)),hO.put na _,(st.onf (by decide)).keep ks (fun k s=>hne (h.c4 k s).2 (by decide)),(st.edg (by decide)).keep ks (hne h.c5.2 (by decide)),(fun v hv=>(st.fcs v hv (by omega)).keep ks (hne (h.c6 v hv).2.2 (by omega))),⟨Or.inl h.c0.1,(old _ h.c0.1).trans h.c0.2⟩,(fun k s=>⟨Or.inl (h.c1 k s).1,(old _ (h.c1 k s).1).trans (h.c1 k s).2⟩),(fun k s=>⟨Or.inl (h.c2 k s).1,(old _ (h.c2 k s).1).trans (h.c2 k s).2⟩),?_,(fun k s=>⟨Or.inl (h.c4 k s).1,(old _ (h.c4 k s).1).trans (h.c4 k s).2⟩),⟨Or.inl h.c5.1,(old _ h.c5.1).trans h.c5.2⟩,(fun v hv=>⟨(h.c6 v hv).1,Or.inl (h.c6 v hv).2.1,(old _ (h.c6 v hv).2.1).trans (h.c6 v hv).2.2⟩),?_⟩,k2⟩
 ·exact(st.row (by decide)).set 3 (.slice a' n' c') (by simp)
 ·intro k s
  rcases hS k s with g|g
  ·exact⟨Or.inl (h.c3 k g).1,(old _ (h.c3 k g).1).trans (h.c3 k g).2⟩
  ·exact⟨Or.inr ⟨g,(hO.lt s).1⟩,paint_new g⟩
 ·intro k hk'
  rcases hk' with g|⟨g1,g2⟩
  ·exact⟨(h.ft k g).1,Nat.lt_of_lt_of_le (h.ft k g).2 k2.size⟩
  ·exact⟨by omega,by simpa using g2⟩
theorem MeI.turnB(h:MeI base p X F w){w1:World}{b':Option Addr}{n' c':Nat}{ys':List Value}(hk:Keep (Slot X.b) w w1)(hO:OwnS w1 base 49 9 b' n' c' ys')(hS: ∀ k,Slot b' k→Slot X.b k∨w.heap.size≤k):
  MeI base p { X with b:=b',nf:=n',cb:=c',ys:=ys',κ:=paint X.κ w.heap.size 4 } (more F w.heap.size w1.heap.size) (w1.setCell ⟨p,4,none⟩ (.slice b' n' c'))∧Keep F w (w1.setCell ⟨p,4,none⟩ (.slice b' n' c')):=by
 have st:=h.stays hk 4 (fun k g _=>(h.c4 k g).2)
 have old: ∀ k,F k→paint X.κ w.heap.size 4 k=X.κ k:=fun k hF=>paint_old (h.ft k hF).2
 have hpl:=(h.ft p h.c0.1).2
 have hne: ∀ {k c:Nat},X.κ k=c→c≠0→k≠p:=fun{k c} hc h0 e=>h0 (hc.symm.trans (by rw [e];exact h.c0.2))
 have na: ¬Slot b' p:=fun s=>(hS p s).elim (fun s=>absurd ((h.c4 p s).2.symm.trans h.c0.2) (by decide)) (fun e=>by omega)
 have ks:Keep (fun k=>k=p) w1 (w1.setCell ⟨p,4,none⟩ (.slice b' n' c')):=(Keep.refl (fun k=>k=p) w1).set (Or.inl rfl) _
 have k2:Keep F w (w1.setCell ⟨p,4,none⟩ (.slice b' n' c')):=(hk.mono (fun k s=>(h.c4 k s).1)).trans ks (fun i e=>Or.inl (by rw [e];exact h.c0.1))
 have hb:base≤w.heap.size:=Nat.le_of_lt (Nat.lt_of_le_of_lt (h.ft p h.c0.1).1 hpl)
 refine⟨⟨?_,(st.arv (by decide)).keep ks (fun k s=>hne (h.c1 k s).2 (by decide)),(st.arf (by decide)).keep ks (fun k s=>hne (h.c2 k s).2 (by decide)),(st.own (by decide)).keep ks (fun k s=>hne (h.c3 k s).2 (by decide)),hO.put na _,(st.edg (by decide)).keep ks (hne h.c5.2 (by decide)),(fun v hv=>(st.fcs v hv (by omega)).keep ks (hne (h.c6 v hv).2.2 (by omega))),⟨Or.inl h.c0.1,(old _ h.c0.1).trans h.c0.2⟩,(fun k s=>⟨Or.inl (h.c1 k s).1,(old _ (h.c1 k s).1).trans (h.c1 k s).2⟩),(fun k s=>⟨Or.inl (h.c2 k s).1,(old _ (h.c2 k s).1).trans (h.c2 k s).2⟩),(fun k s=>⟨Or.inl (h.c3 k s).1,(old _ (h.c3 k s).1).trans (h.c3 k s).2⟩),?_,⟨Or.inl h.c5.1,(old _ h.c5.1).trans h.c5.2⟩,(fun v hv=>⟨(h.c6 v hv).1,Or.inl (h.c6 v hv).2.1,(old _ (h.c6 v hv).2.1).trans (h.c6 v hv).2.2⟩),?_⟩,k2⟩
 ·exact(st.row (by decide)).set 4 (.slice b' n' c') (by simp)
 ·intro k s
  rcases hS k s with g|g
  ·exact⟨Or.inl (h.c4 k g).1,(old _ (h.c4 k g).1).trans (h.c4 k g).2⟩
  ·exact⟨Or.inr ⟨g,(hO.lt s).1⟩,paint_new g⟩
 ·intro k hk'
  rcases hk' with g|⟨g1,g2⟩
  ·exact⟨(h.ft k g).1,Nat.lt_of_lt_of_le (h.ft k g).2 k2.size⟩
  ·exact⟨by omega,by simpa using g2⟩
theorem MeI.turnE(h:MeI base p X F w){g:Eg→Option Value}(hk:Keep (fun k=>k=X.be) w w')(hM:EMap w' X.be g):MeI base p { X with ge:=g } F w':=by
 have st:=h.stays hk 5 (fun k g _=>by rw [g];exact h.c5.2)
 exact⟨st.row (by decide),st.arv (by decide),st.arf (by decide),st.own (by decide),st.onf (by decide),hM,(fun v hv=>st.fcs v hv (by omega)),h.c0,h.c1,h.c2,h.c3,h.c4,h.c5,h.c6,fun k hF=>⟨(h.ft k hF).1,Nat.lt_of_lt_of_le (h.ft k hF).2 hk.size⟩⟩
theorem MeI.turnM(h:MeI base p X F w){v:Int}(hv:X.Lv v){g:Int→Option Value}(hk:Keep (fun k=>k=X.M v) w w')(hM:IMap w' (X.M v) g):MeI base p { X with gf:=fun u=>if u=v then g else X.gf u } F w':=by
 have st:=h.stays hk (6+v.toNat) (fun k g _=>by rw [g];exact(h.c6 v hv).2.2)
 refine⟨st.row (by omega),st.arv (by omega),st.arf (by omega),st.own (by omega),st.onf (by omega),st.edg (by omega),?_,h.c0,h.c1,h.c2,h.c3,h.c4,h.c5,h.c6,fun k hF=>⟨(h.ft k hF).1,Nat.lt_of_lt_of_le (h.ft k hF).2 hk.size⟩⟩
 intro u hu
 show IMap w' (X.M u) (if u=v then g else X.gf u)
 by_cases e:u=v
 ·subst e
  rw [if_pos rfl]
  exact hM
 ·rw [if_neg e]
  exact st.fcs u hu (by have:=(h.c6 u hu).1;have:=(h.c6 v hv).1;omega)
theorem MeI.addM(h:MeI base p X F w){v:Int}(h0:0≤v){mb:Nat}{g:Int→Option Value}(hn: ¬F mb)(hM:IMap w mb g)(hbase:base≤mb):
  MeI base p { X with Lv:=fun u=>u=v∨(u≠v∧X.Lv u),M:=fun u=>if u=v then mb else X.M u,gf:=fun u=>if u=v then g else X.gf u,κ:=fun k=>if k=mb then 6+v.toNat else X.κ k } (fun k=>F k∨k=mb) w:=by
 have old: ∀ k,F k→(if k=mb then 6+v.toNat else X.κ k)=X.κ k:=fun k hF=>if_neg (fun e:k=mb=>hn (e▸hF))
 refine⟨h.row,h.arv,h.arf,h.own,h.onf,h.edg,?_,⟨Or.inl h.c0.1,(old _ h.c0.1).trans h.c0.2⟩,(fun k s=>⟨Or.inl (h.c1 k s).1,(old _ (h.c1 k s).1).trans (h.c1 k s).2⟩),(fun k s=>⟨Or.inl (h.c2 k s).1,(old _ (h.c2 k s).1).trans (h.c2 k s).2⟩),(fun k s=>⟨Or.inl (h.c3 k s).1,(old _ (h.c3 k s).1).trans (h.c3 k s).2⟩),(fun k s=>⟨Or.inl (h.c4 k s).1,(old _ (h.c4 k s).1).trans (h.c4 k s).2⟩),⟨Or.inl h.c5.1,(old _ h.c5.1).trans h.c5.2⟩,?_,?_⟩
 ·intro u hu
  show IMap w (if u=v then mb else X.M u) (if u=v then g else X.gf u)
  rcases hu with rfl|⟨e,hu⟩
  ·rw [if_pos rfl,if_pos rfl]
   exact hM
  ·rw [if_neg e,if_neg e]
   exact h.fcs u hu
 ·intro u hu
  show 0≤u∧(F (if u=v then mb else X.M u)∨(if u=v then mb else X.M u)=mb)∧(if(if u=v then mb else X.M u)=mb then 6+v.toNat else X.κ (if u=v then mb else X.M u))=6+u.toNat
  rcases hu with rfl|⟨e,hu⟩
  ·rw [if_pos rfl,if_pos rfl]
   exact⟨h0,Or.inr rfl,rfl⟩
  ·rw [if_neg e,old _ (h.c6 u hu).2.1]
   exact⟨(h.c6 u hu).1,Or.inl (h.c6 u hu).2.1,(h.c6 u hu).2.2⟩
 ·intro k hk
  rcases hk with g|rfl
  ·exact h.ft k g
  ·exact⟨hbase,hM.lt⟩
theorem MeI.lessM(h:MeI base p X F w){L:Int→Prop}(hL: ∀ v,L v→X.Lv v):MeI base p { X with Lv:=L } F w:=
 ⟨h.row,h.arv,h.arf,h.own,h.onf,h.edg,(fun v hv=>h.fcs v (hL v hv)),h.c0,h.c1,h.c2,h.c3,h.c4,h.c5,(fun v hv=>h.c6 v (hL v hv)),h.ft⟩
end
def vxC(a:Vt)(b:Nat):List Value:= [.int .i64 a.no, .int .i64 a.x, .int .i64 a.y, .int .i64 a.id, .map (some b)]
def eg(t:Tr)(i:Nat):Eg:=⟨t.v i,t.v (nx i),t.x (nx i)- t.x i,t.y (nx i)- t.y i⟩
abbrev stV(f i:Int):Value:= .agg #[.int .i64 f, .int .i64 i]
structure MeOk(X:Mx)(S:Ms):Prop where
 n:X.n=S.n
 av:X.av=S.av
 af:X.af=S.af
 nv:X.nv=S.av.T
 nf:X.nf=S.af.T
 Lv: ∀ v,X.Lv v↔isV S v=true
 vs: ∀ a∈S.V, ∀ j u,(vxC a (X.M a.no))[j]? =some u→X.xs[a.no.toNat*5+j]? =some u
 fs: ∀ c∈S.C, ∀ j u,(trC c.t)[j]? =some u→X.ys[c.no.toNat*9+j]? =some u
 ge1: ∀ c∈S.C, ∀ i,i<3→X.ge (eg c.t i)=some (stV c.no (i:Int))
 ge2: ∀ e,X.ge e≠none→ ∃ c∈S.C, ∃ i,i<3∧e=eg c.t i
 gf: ∀ a∈S.V, ∀ f,X.gf a.no f≠none↔f∈around S.C a.no
structure MeP(base p:Nat)(S:Ms)(F:Nat→Prop)(w:World):Prop where
 ex: ∃ X,MeI base p X F w∧MeOk X S
theorem MeP.keep{base p:Nat}{S:Ms}{F G:Nat→Prop}{w w':World}(h:MeP base p S F w)(hk:Keep G w w')(hd: ∀ k,F k→ ¬G k):MeP base p S F w':=by
 obtain⟨X,hX,hS⟩:=h.ex
 exact⟨X,hX.keep hk hd,hS⟩
theorem MeP.below{base p:Nat}{S:Ms}{F:Nat→Prop}{w w':World}(h:MeP base p S F w)(hb:Below w.heap.size w w'):MeP base p S F w':=h.keep (Keep.of (F:=fun _=>False) hb) (fun _ _ x=>x)
theorem MeP.ft{base p:Nat}{S:Ms}{F:Nat→Prop}{w:World}(h:MeP base p S F w): ∀ k,F k→base≤k∧k<w.heap.size:=by
 obtain⟨X,hX,hS⟩:=h.ex
 exact hX.ft
theorem third_eq{i r:Int}(hr:r=i % 3):(i.tmod 3+3).tmod 3=r:=by
 have h1:(-3:Int)<i.tmod 3:=by have:=Int.lt_tmod_of_pos i (show(0:Int)<3 by decide);omega
 rw [Int.tmod_eq_emod_of_nonneg (by omega)]
 have h2:=Int.tmod_add_mul_tdiv i 3
 omega
theorem mThird(i:Int)(w:World){r:Int}(hr:r=i % 3):Calls Tryz.prog 113 #[.int .i64 i] w fun e w'=>e= .returned (.int .i64 r)∧Below w.heap.size w w':=by
 have h1:(-3:Int)<i.tmod 3:=by have:=Int.lt_tmod_of_pos i (show(0:Int)<3 by decide);omega
 have h2:i.tmod 3<3:=Int.tmod_lt_of_pos i (by decide)
 have h3:=third_eq hr
 obtain⟨q,hq⟩: ∃ q,q=i.tmod 3:=⟨_,rfl⟩
 rw [←hq]at h1 h2 h3
 have HR:Hid _:=hr
 have hq':i.tmod 3=q:=hq.symm
 clear hr hq
 go_enter Tryz.func113,Tryz.ntmps113
 go_wp2
 go_ret
 exact⟨rfl,Below.refl _ _⟩
theorem mCan(base p:Nat)(X:Mx)(F:Nat→Prop)(w:World)(h:MeI base p X F w)(c:Int){r:Bool}(hr:r=decide (0≤c∧c<X.n)):Calls Tryz.prog 64 #[ptR p, .int .i64 c] w fun e w'=>e= .returned (.bool r)∧Below w.heap.size w w':=by
 have q0:=h.row.cell 0 _ rfl
 obtain⟨n,hn⟩: ∃ n,n=X.n:=⟨_,rfl⟩
 rw [←hn]at q0 hr
 have HR:Hid _:=hr
 clear h hr hn
 by_cases h0:0≤c
 ·by_cases h1:c<n
  ·obtain rfl:r=true:=HR.out.trans (decide_eq_true ⟨h0,h1⟩)
   go_enter Tryz.func64,Tryz.ntmps64
   go_wp2
   go_ret
   exact⟨rfl,Below.refl _ _⟩
  ·obtain rfl:r=false:=HR.out.trans (decide_eq_false (fun e=>h1 e.2))
   go_enter Tryz.func64,Tryz.ntmps64
   go_wp2
   go_ret
   exact⟨rfl,Below.refl _ _⟩
 ·obtain rfl:r=false:=HR.out.trans (decide_eq_false (fun e=>h0 e.1))
  go_enter Tryz.func64,Tryz.ntmps64
  go_wp2
  go_ret
  exact⟨rfl,Below.refl _ _⟩
theorem mHasV(base p:Nat)(X:Mx)(F:Nat→Prop)(w:World)(h:MeI base p X F w)(hT:X.av.T≤1000)(v:Int)(hv:In64 v){r:Bool}(hr:r=decide (v∈X.av.L)):Calls Tryz.prog 69 #[ptR p, .int .i64 v] w fun e w'=>e= .returned (.bool r)∧Below w.heap.size w w':=by
 have q1:=h.row.cell 1 _ rfl
 have HA:Hid _:=h.arv
 have HR:Hid _:=hr
 obtain⟨pv,hpv⟩: ∃ pv,pv=X.pv:=⟨_,rfl⟩
 rw [←hpv]at q1 HA
 clear h hr hpv
 go_enter Tryz.func69,Tryz.ntmps69
 go_wp2_with (go_at_call 40;fail)
 refine(arLive HA.out hT v hv HR.out).mono ?_
 rintro e w1 ⟨rfl,b1⟩
 go_wp2
 go_ret
 exact⟨rfl,b1⟩
def egW(t:Tr)(i:Nat):Eg:=⟨t.v i,t.v (nx i),wrap64 (t.x (nx i)- t.x i),wrap64 (t.y (nx i)- t.y i)⟩
def egT(e:Eg):Eg:=⟨e.t,e.f,wrap64 (0- e.x),wrap64 (0- e.y)⟩
theorem trC_v(t:Tr){j:Nat}(hj:j<3):(trC t)[j]? =some (.int .i64 (t.v j)):=by
 rcases(by omega:j=0∨j=1∨j=2)with rfl|rfl|rfl<;>rfl
theorem trC_x(t:Tr){j:Nat}(hj:j<3):(trC t)[3+j*2]? =some (.int .i64 (t.x j)):=by
 rcases(by omega:j=0∨j=1∨j=2)with rfl|rfl|rfl<;>rfl
theorem trC_y(t:Tr){j:Nat}(hj:j<3):(trC t)[3+j*2+1]? =some (.int .i64 (t.y j)):=by
 rcases(by omega:j=0∨j=1∨j=2)with rfl|rfl|rfl<;>rfl
set_option maxRecDepth 100000 in
theorem mEdge(t:Tr)(i:Nat)(w:World)(hi:i<3):Calls Tryz.prog 73 #[trV t, .int .i64 (i:Int)] w fun e w'=>e= .returned (egV (egW t i))∧Below w.heap.size w w':=by
 obtain⟨W,hW⟩: ∃ W,W=(w.alloc (.cells (trC t).toArray 49)).alloc (.cells #[.int .i64 0, .int .i64 0, .int .i64 0, .int .i64 0] 143):=⟨_,rfl⟩
 have BW:Below w.heap.size w W:=by rw [hW];exact((Below.refl _ _).alloc (Nat.le_refl _) _).alloc (by simp) _
 have zW:W.heap.size=w.heap.size+2:=by rw [hW];simp
 have R0:Row W w.heap.size (trC t):=by rw [hW];exact(Row.new w _ _).alloc _ (by simp)
 have R1:Row W (w.heap.size+1) [.int .i64 0, .int .i64 0, .int .i64 0, .int .i64 0]:=by rw [hW];have:=Row.new (w.alloc (.cells (trC t).toArray 49)) [.int .i64 0, .int .i64 0, .int .i64 0, .int .i64 0] 143;simpa using this
 have hW':(w.alloc (.cells #[.int .i64 t.v0, .int .i64 t.v1, .int .i64 t.v2, .int .i64 t.x0, .int .i64 t.y0, .int .i64 t.x1, .int .i64 t.y1, .int .i64 t.x2, .int .i64 t.y2] 49)).alloc (.cells #[.int .i64 0, .int .i64 0, .int .i64 0, .int .i64 0] 143)=W:=hW.symm
 obtain⟨k,hk⟩: ∃ k,k=nx i:=⟨_,rfl⟩
 have hk3:k<3:=by rw [hk];unfold nx;omega
 have HK:Hid ((k:Int)=((i:Int)+1) % 3):=by unfold Hid;rw [hk];unfold nx;omega
 have HE:Hid (egW t i=⟨t.v i,t.v k,wrap64 (t.x k- t.x i),wrap64 (t.y k- t.y i)⟩):=by unfold Hid;rw [hk];rfl
 clear hW hk
 go_enter Tryz.func73,Tryz.ntmps73
 go_wp2_with (go_at_call 113;fail)
 refine(mThird ((i:Int)+1) W HK.out).mono ?_
 rintro e w1 ⟨rfl,b1⟩
 clear hW'
 have z1:=b1.size
 have B1:Below w.heap.size w w1:=BW.trans (b1.mono (by omega))
 replace R0:=R0.below b1 (by omega)
 replace R1:=R1.below b1 (by omega)
 have ci:=R0.cell i _ (trC_v t hi)
 have ck:=R0.cell k _ (trC_v t hk3)
 have xi:=R0.cell (3+i*2) _ (trC_x t hi)
 have yi:=R0.cell (3+i*2+1) _ (trC_y t hi)
 have xk:=R0.cell (3+k*2) _ (trC_x t hk3)
 have yk:=R0.cell (3+k*2+1) _ (trC_y t hk3)
 obtain⟨vi,hvi⟩: ∃ v,v=t.v i:=⟨_,rfl⟩
 obtain⟨vk,hvk⟩: ∃ v,v=t.v k:=⟨_,rfl⟩
 obtain⟨a,ha⟩: ∃ v,v=t.x i:=⟨_,rfl⟩
 obtain⟨b,hb⟩: ∃ v,v=t.y i:=⟨_,rfl⟩
 obtain⟨c,hc⟩: ∃ v,v=t.x k:=⟨_,rfl⟩
 obtain⟨d,hd⟩: ∃ v,v=t.y k:=⟨_,rfl⟩
 rw [←hvi]at ci
 rw [←hvk]at ck
 rw [←ha]at xi
 rw [←hb]at yi
 rw [←hc]at xk
 rw [←hd]at yk
 obtain⟨u,HU⟩: ∃ u,Hid (u=wrap64 (c- a)):=⟨_,rfl⟩
 obtain⟨v,HV⟩: ∃ v,Hid (v=wrap64 (d- b)):=⟨_,rfl⟩
 have HE2:Hid (egW t i=⟨vi,vk,u,v⟩):=by unfold Hid;rw [HE.out,HU.out,HV.out,hvi,hvk,ha,hb,hc,hd]
 clear hvi hvk ha hb hc hd HE
 have hi':(i:Int)<3:=by omega
 have hk':(k:Int)<3:=by omega
 go_wp2
 refine regionL 18 (S:=fun w'=>w'.cell? ⟨w.heap.size,i,none⟩=some (.int .i64 vi)∧w'.cell? ⟨w.heap.size,k,none⟩=some (.int .i64 vk)∧w'.cell? ⟨w.heap.size,3+i*2,none⟩=some (.int .i64 a)∧w'.cell? ⟨w.heap.size,3+i*2+1,none⟩=some (.int .i64 b)∧w'.cell? ⟨w.heap.size,3+k*2,none⟩=some (.int .i64 c)∧w'.cell? ⟨w.heap.size,3+k*2+1,none⟩=some (.int .i64 d)) (by kernel_rfl) ?_ (fun hHeld=>?_)
 ·exact⟨ci,ck,xi,yi,xk,yk⟩
 refine tyL (i:=0) (v:=?vef0) rfl ?hyef0 ?_
 case hyef0=>(intro w hSw;(try dsimp only at hSw);go_simp<;>with_reducible rfl)
 simp only [Go.Act.put,ps1,ps2,ps3]
 refine tyL (i:=1) (v:=?vef1) rfl ?hyef1 ?_
 case hyef1=>(intro w hSw;(try dsimp only at hSw);go_simp<;>with_reducible rfl)
 simp only [Go.Act.put,ps1,ps2,ps3]
 refine tyL (i:=2) (v:=?vef2) rfl ?hyef2 ?_
 case hyef2=>(intro w hSw;(try dsimp only at hSw);go_simp<;>with_reducible rfl)
 simp only [Go.Act.put,ps1,ps2,ps3]
 refine tyL (i:=3) (v:=?vef3) rfl ?hyef3 ?_
 case hyef3=>(intro w hSw;(try dsimp only at hSw);go_simp<;>with_reducible rfl)
 simp only [Go.Act.put,ps1,ps2,ps3]
 refine tyL (i:=4) (v:=?vef4) rfl ?hyef4 ?_
 case hyef4=>(intro w hSw;(try dsimp only at hSw);go_simp<;>with_reducible rfl)
 simp only [Go.Act.put,ps1,ps2,ps3]
 refine tyL (i:=5) (v:=?vef5) rfl ?hyef5 ?_
 case hyef5=>(intro w hSw;(try dsimp only at hSw);go_simp<;>with_reducible rfl)
 simp only [Go.Act.put,ps1,ps2,ps3]
 refine tyL (i:=6) (v:=?vef6) rfl ?hyef6 ?_
 case hyef6=>(intro w hSw;(try dsimp only at hSw);go_simp<;>with_reducible rfl)
 simp only [Go.Act.put,ps1,ps2,ps3]
 refine tyL (i:=7) (v:=?vef7) rfl ?hyef7 ?_
 case hyef7=>(intro w hSw;(try dsimp only at hSw);go_simp<;>with_reducible rfl)
 simp only [Go.Act.put,ps1,ps2,ps3]
 refine tyL (i:=8) (v:=?vef8) rfl ?hyef8 ?_
 case hyef8=>(intro w hSw;(try dsimp only at hSw);go_simp<;>with_reducible rfl)
 simp only [Go.Act.put,ps1,ps2,ps3]
 refine tyL (i:=9) (v:=?vef9) rfl ?hyef9 ?_
 case hyef9=>(intro w hSw;(try dsimp only at hSw);go_simp<;>with_reducible rfl)
 simp only [Go.Act.put,ps1,ps2,ps3]
 refine tyL (i:=10) (v:=?vef10) rfl ?hyef10 ?_
 case hyef10=>(intro w hSw;(try dsimp only at hSw);go_simp<;>with_reducible rfl)
 simp only [Go.Act.put,ps1,ps2,ps3]
 refine tyL (i:=11) (v:=?vef11) rfl ?hyef11 ?_
 case hyef11=>(intro w hSw;(try dsimp only at hSw);go_simp<;>with_reducible rfl)
 simp only [Go.Act.put,ps1,ps2,ps3]
 refine tyL (i:=12) (v:=?vef12) rfl ?hyef12 ?_
 case hyef12=>(intro w hSw;(try dsimp only at hSw);go_simp<;>with_reducible rfl)
 simp only [Go.Act.put,ps1,ps2,ps3]
 refine tyL (i:=13) (v:=?vef13) rfl ?hyef13 ?_
 case hyef13=>(intro w hSw;(try dsimp only at hSw);go_simp<;>with_reducible rfl)
 simp only [Go.Act.put,ps1,ps2,ps3]
 refine tyL (i:=14) (v:=?vef14) rfl ?hyef14 ?_
 case hyef14=>(intro w hSw;(try dsimp only at hSw);go_simp<;>with_reducible rfl)
 simp only [Go.Act.put,ps1,ps2,ps3]
 refine tyL (i:=15) (v:=?vef15) rfl ?hyef15 ?_
 case hyef15=>(intro w hSw;(try dsimp only at hSw);go_simp<;>with_reducible rfl)
 simp only [Go.Act.put,ps1,ps2,ps3]
 refine takeL_call (i:=16) rfl (by kernel_rfl) (fun Kc hK=>?_)
 go_simp
 (go_at_call 107;refine(lLess c d a b _ HU.out HV.out).mono ?_;rintro e w2 ⟨rfl,b2⟩)
 refine hK.out _ _ ?_ (fun hHeld=>?_)
 ·exact⟨(b2.cell (p:=⟨w.heap.size,i,none⟩) (by simp;omega)).trans ci,(b2.cell (p:=⟨w.heap.size,k,none⟩) (by simp;omega)).trans ck,(b2.cell (p:=⟨w.heap.size,3+i*2,none⟩) (by simp;omega)).trans xi,(b2.cell (p:=⟨w.heap.size,3+i*2+1,none⟩) (by simp;omega)).trans yi,(b2.cell (p:=⟨w.heap.size,3+k*2,none⟩) (by simp;omega)).trans xk,(b2.cell (p:=⟨w.heap.size,3+k*2+1,none⟩) (by simp;omega)).trans yk⟩
 clear hK Kc
 refine tyL (i:=17) (v:=?vef17) rfl ?hyef17 ?_
 case hyef17=>(intro w hSw;(try dsimp only at hSw);go_simp<;>with_reducible rfl)
 simp only [Go.Act.put,ps1,ps2,ps3]
 have z2:w1.heap.size≤w2.heap.size:=b2.size
 replace R1:=(show Row w1.drew (w.heap.size+1) [.int .i64 0, .int .i64 0, .int .i64 0, .int .i64 0]from R1).below b2 (by simp;omega)
 have f0:=R1.free 0 (by simp)
 have f1:=R1.free 1 (by simp)
 have f2:=R1.free 2 (by simp)
 have f3:=R1.free 3 (by simp)
 have g0:=R1.cell 0 _ rfl
 have g1:=R1.cell 1 _ rfl
 have g2:=R1.cell 2 _ rfl
 have g3:=R1.cell 3 _ rfl
 refine takeL_last rfl (by kernel_rfl) (fun Kc hK=>?_)
 go_simp
 refine hK.out _ _ ?_
 clear hK Kc
 refine anyL_done (by kernel_rfl) ?_ _
 have R2:=(((R1.set 0 (.int .i64 vi) (by simp)).set 1 (.int .i64 vk) (by simp)).set 2 (.int .i64 u) (by simp)).set 3 (.int .i64 v) (by simp)
 have h0:=R2.cell 0 _ rfl
 have h1:=R2.cell 1 _ rfl
 have h2:=R2.cell 2 _ rfl
 have h3:=R2.cell 3 _ rfl
 have B2:Below w.heap.size w w2:=B1.trans ((⟨b2.os,b2.tape,b2.output,b2.size,b2.block⟩:Below w1.heap.size w1 w2).mono (by omega))
 have BF:Below w.heap.size w ((((w2.setCell ⟨w.heap.size+1,0,none⟩ (.int .i64 vi)).setCell ⟨w.heap.size+1,1,none⟩ (.int .i64 vk)).setCell ⟨w.heap.size+1,2,none⟩ (.int .i64 u)).setCell ⟨w.heap.size+1,3,none⟩ (.int .i64 v)):=(((B2.setCell (by simp) _).setCell (by simp) _).setCell (by simp) _).setCell (by simp) _
 go_wp2
 refine bodyPost_ret (v:= .agg #[.int .i64 vi, .int .i64 vk, .int .i64 u, .int .i64 v]) (by simp [results,Tryz.results73,go_sem, *]) rfl ?_
 rw [HE2.out]
 exact⟨rfl,BF⟩
set_option maxRecDepth 100000 in
theorem mTurned(f t x y:Int)(w:World):Calls Tryz.prog 127 #[egV ⟨f,t,x,y⟩] w fun e w'=>e= .returned (egV (egT ⟨f,t,x,y⟩))∧Below w.heap.size w w':=by
 obtain⟨W,hW⟩: ∃ W,W=(w.alloc (.cells #[.int .i64 f, .int .i64 t, .int .i64 x, .int .i64 y] 143)).alloc (.cells #[.int .i64 0, .int .i64 0, .int .i64 0, .int .i64 0] 143):=⟨_,rfl⟩
 have BW:Below w.heap.size w W:=by rw [hW];exact((Below.refl _ _).alloc (Nat.le_refl _) _).alloc (by simp) _
 have zW:W.heap.size=w.heap.size+2:=by rw [hW];simp
 have R0:Row W w.heap.size [.int .i64 f, .int .i64 t, .int .i64 x, .int .i64 y]:=by rw [hW];exact(Row.new w [.int .i64 f, .int .i64 t, .int .i64 x, .int .i64 y] _).alloc _ (by simp)
 have R1:Row W (w.heap.size+1) [.int .i64 0, .int .i64 0, .int .i64 0, .int .i64 0]:=by rw [hW];have:=Row.new (w.alloc (.cells #[.int .i64 f, .int .i64 t, .int .i64 x, .int .i64 y] 143)) [.int .i64 0, .int .i64 0, .int .i64 0, .int .i64 0] 143;simpa using this
 have hW':=hW.symm
 obtain⟨u,HU⟩: ∃ u,Hid (u=wrap64 (0- x)):=⟨_,rfl⟩
 obtain⟨v,HV⟩: ∃ v,Hid (v=wrap64 (0- y)):=⟨_,rfl⟩
 have HE2:Hid (egT ⟨f,t,x,y⟩=⟨t,f,u,v⟩):=by unfold Hid;rw [HU.out,HV.out];rfl
 have c0:=R0.cell 0 _ rfl
 have c1:=R0.cell 1 _ rfl
 have c2:=R0.cell 2 _ rfl
 have c3:=R0.cell 3 _ rfl
 clear hW
 go_enter Tryz.func127,Tryz.ntmps127
 go_wp2
 clear hW'
 refine regionL 9 (S:=fun w'=>w'.cell? ⟨w.heap.size,0,none⟩=some (.int .i64 f)∧w'.cell? ⟨w.heap.size,1,none⟩=some (.int .i64 t)∧w'.cell? ⟨w.heap.size,2,none⟩=some (.int .i64 x)∧w'.cell? ⟨w.heap.size,3,none⟩=some (.int .i64 y)) (by kernel_rfl) ?_ (fun hHeld=>?_)
 ·exact⟨c0,c1,c2,c3⟩
 refine tyL (i:=0) (v:=?vtu0) rfl ?hytu0 ?_
 case hytu0=>(intro w hSw;(try dsimp only at hSw);go_simp<;>with_reducible rfl)
 simp only [Go.Act.put,ps1,ps2,ps3]
 refine tyL (i:=1) (v:=?vtu1) rfl ?hytu1 ?_
 case hytu1=>(intro w hSw;(try dsimp only at hSw);go_simp<;>with_reducible rfl)
 simp only [Go.Act.put,ps1,ps2,ps3]
 refine tyL (i:=2) (v:=?vtu2) rfl ?hytu2 ?_
 case hytu2=>(intro w hSw;(try dsimp only at hSw);go_simp<;>with_reducible rfl)
 simp only [Go.Act.put,ps1,ps2,ps3]
 refine tyL (i:=3) (v:=?vtu3) rfl ?hytu3 ?_
 case hytu3=>(intro w hSw;(try dsimp only at hSw);go_simp<;>with_reducible rfl)
 simp only [Go.Act.put,ps1,ps2,ps3]
 refine tyL (i:=4) (v:=?vtu4) rfl ?hytu4 ?_
 case hytu4=>(intro w hSw;(try dsimp only at hSw);go_simp<;>with_reducible rfl)
 simp only [Go.Act.put,ps1,ps2,ps3]
 refine tyL (i:=5) (v:=?vtu5) rfl ?hytu5 ?_
 case hytu5=>(intro w hSw;(try dsimp only at hSw);go_simp<;>with_reducible rfl)
 simp only [Go.Act.put,ps1,ps2,ps3]
 refine tyL (i:=6) (v:=?vtu6) rfl ?hytu6 ?_
 case hytu6=>(intro w hSw;(try dsimp only at hSw);go_simp<;>with_reducible rfl)
 simp only [Go.Act.put,ps1,ps2,ps3]
 refine takeL_call (i:=7) rfl (by kernel_rfl) (fun Kc hK=>?_)
 go_simp
 (go_at_call 107;refine(lLess 0 0 x y _ HU.out HV.out).mono ?_;rintro e w2 ⟨rfl,b2⟩)
 refine hK.out _ _ ?_ (fun hHeld=>?_)
 ·exact⟨(b2.cell (p:=⟨w.heap.size,0,none⟩) (by simp;omega)).trans c0,(b2.cell (p:=⟨w.heap.size,1,none⟩) (by simp;omega)).trans c1,(b2.cell (p:=⟨w.heap.size,2,none⟩) (by simp;omega)).trans c2,(b2.cell (p:=⟨w.heap.size,3,none⟩) (by simp;omega)).trans c3⟩
 clear hK Kc
 refine tyL (i:=8) (v:=?vtu8) rfl ?hytu8 ?_
 case hytu8=>(intro w hSw;(try dsimp only at hSw);go_simp<;>with_reducible rfl)
 simp only [Go.Act.put,ps1,ps2,ps3]
 have z2:W.heap.size≤w2.heap.size:=b2.size
 replace R1:=(show Row W.drew (w.heap.size+1) [.int .i64 0, .int .i64 0, .int .i64 0, .int .i64 0]from R1).below b2 (by simp;omega)
 have f0:=R1.free 0 (by simp)
 have f1:=R1.free 1 (by simp)
 have f2:=R1.free 2 (by simp)
 have f3:=R1.free 3 (by simp)
 have g0:=R1.cell 0 _ rfl
 have g1:=R1.cell 1 _ rfl
 have g2:=R1.cell 2 _ rfl
 have g3:=R1.cell 3 _ rfl
 refine takeL_last rfl (by kernel_rfl) (fun Kc hK=>?_)
 go_simp
 refine hK.out _ _ ?_
 clear hK Kc
 refine anyL_done (by kernel_rfl) ?_ _
 have R2:=(((R1.set 0 (.int .i64 t) (by simp)).set 1 (.int .i64 f) (by simp)).set 2 (.int .i64 u) (by simp)).set 3 (.int .i64 v) (by simp)
 have h0:=R2.cell 0 _ rfl
 have h1:=R2.cell 1 _ rfl
 have h2:=R2.cell 2 _ rfl
 have h3:=R2.cell 3 _ rfl
 have B2:Below w.heap.size w w2:=BW.trans ((⟨b2.os,b2.tape,b2.output,b2.size,b2.block⟩:Below W.heap.size W w2).mono (by omega))
 have BF:Below w.heap.size w ((((w2.setCell ⟨w.heap.size+1,0,none⟩ (.int .i64 t)).setCell ⟨w.heap.size+1,1,none⟩ (.int .i64 f)).setCell ⟨w.heap.size+1,2,none⟩ (.int .i64 u)).setCell ⟨w.heap.size+1,3,none⟩ (.int .i64 v)):=(((B2.setCell (by simp) _).setCell (by simp) _).setCell (by simp) _).setCell (by simp) _
 go_wp2
 refine bodyPost_ret (v:= .agg #[.int .i64 t, .int .i64 f, .int .i64 u, .int .i64 v]) (by simp [results,Tryz.results127,go_sem, *]) rfl ?_
 rw [HE2.out]
 exact⟨rfl,BF⟩
theorem zeroStart(w:World):(zeroValue 147).run Tryz.prog w= .ok (.agg #[.int .i64 0, .int .i64 0]) w:=by kernel_rfl
def Starts(g:Eg→Option Value):Prop:= ∀ e v,g e=some v→ ∃ f i:Int,v=stV f i
theorem Starts.get{g:Eg→Option Value}(h:Starts g)(e:Eg): ∃ f i:Int,(g e).getD (.agg #[.int .i64 0, .int .i64 0])=stV f i∧((g e).isSome=true→g e=some (stV f i)):=by
 cases hg:g e with
 |none=>exact⟨0,0,rfl,fun h=>by cases h⟩
 |some v=>
  obtain⟨f,i,rfl⟩:=h e v hg
  exact⟨f,i,rfl,fun _=>rfl⟩
set_option maxRecDepth 100000 in
theorem mHasE(base p:Nat)(X:Mx)(F:Nat→Prop)(w:World)(h:MeI base p X F w)(hst:Starts X.ge)(f t x y:Int)(he:Eg.ok ⟨f,t,x,y⟩){r:Bool}(hr:r=(X.ge ⟨f,t,x,y⟩).isSome):Calls Tryz.prog 72 #[ptR p,egV ⟨f,t,x,y⟩] w fun e w'=>e= .returned (.bool r)∧Below w.heap.size w w':=by
 obtain⟨kl,hkl⟩:=egKey he
 obtain⟨sf,si,hs,_⟩:=hst.get ⟨f,t,x,y⟩
 have hpl:=h.row.lt
 have LK: ∀ w',Below w.heap.size w w'→(Instr.lookup 106 (.map (some X.be)) (.agg #[.int .i64 f, .int .i64 t, .int .i64 x, .int .i64 y]) true).run Tryz.prog w'= .ok (.tuple #[.agg #[.int .i64 sf, .int .i64 si], .bool r]) w':=by
  intro w' hb
  have:=(h.below hb).edg.look egL Tryz.underlying106 hkl (zeroStart w')
  rw [hs,←hr]at this
  exact this
 obtain⟨W,hW⟩: ∃ W,W=w.alloc (.cells #[.int .i64 f, .int .i64 t, .int .i64 x, .int .i64 y] 143):=⟨_,rfl⟩
 have BW:Below w.heap.size w W:=by rw [hW];exact(Below.refl _ _).alloc (Nat.le_refl _) _
 have zW:W.heap.size=w.heap.size+1:=by rw [hW];simp
 have R0:Row W w.heap.size [.int .i64 f, .int .i64 t, .int .i64 x, .int .i64 y]:=by rw [hW];exact Row.new w [.int .i64 f, .int .i64 t, .int .i64 x, .int .i64 y] _
 have q5:=(h.below BW).row.cell 5 _ rfl
 have hW':=hW.symm
 obtain⟨be,hbe⟩: ∃ be,be=X.be:=⟨_,rfl⟩
 rw [←hbe]at q5 LK
 have HL:Hid _:=LK
 have c0:=R0.cell 0 _ rfl
 have c1:=R0.cell 1 _ rfl
 have c2:=R0.cell 2 _ rfl
 have c3:=R0.cell 3 _ rfl
 have lA:w.heap.size<W.heap.size:=by omega
 have lp:p<W.heap.size:=by omega
 clear hW hbe hkl h hst he hr hs LK
 go_enter Tryz.func72,Tryz.ntmps72
 go_wp2
 clear hW'
 have HShe:Hid (∀ w',Below (W.heap.size) W w'→(fun w'=>w'.cell? ⟨w.heap.size,0,none⟩=some (.int .i64 f)∧w'.cell? ⟨w.heap.size,1,none⟩=some (.int .i64 t)∧w'.cell? ⟨w.heap.size,2,none⟩=some (.int .i64 x)∧w'.cell? ⟨w.heap.size,3,none⟩=some (.int .i64 y)∧w'.cell? ⟨p,5,none⟩=some (.map (some be))∧(Instr.lookup 106 (.map (some be)) (.agg #[.int .i64 f, .int .i64 t, .int .i64 x, .int .i64 y]) true).run Tryz.prog w'= .ok (.tuple #[.agg #[.int .i64 sf, .int .i64 si], .bool r]) w'∧Below (W.heap.size) W w') w'):=by
  unfold Hid
  intro w' hb
  exact⟨(hb.cell (p:=⟨w.heap.size,0,none⟩) lA).trans c0,(hb.cell (p:=⟨w.heap.size,1,none⟩) lA).trans c1,(hb.cell (p:=⟨w.heap.size,2,none⟩) lA).trans c2,(hb.cell (p:=⟨w.heap.size,3,none⟩) lA).trans c3,(hb.cell (p:=⟨p,5,none⟩) lp).trans q5,HL.out _ (BW.trans (hb.mono (by omega))),hb⟩
 refine wp_region_held_drew (S:=fun w'=>w'.cell? ⟨w.heap.size,0,none⟩=some (.int .i64 f)∧w'.cell? ⟨w.heap.size,1,none⟩=some (.int .i64 t)∧w'.cell? ⟨w.heap.size,2,none⟩=some (.int .i64 x)∧w'.cell? ⟨w.heap.size,3,none⟩=some (.int .i64 y)∧w'.cell? ⟨p,5,none⟩=some (.map (some be))∧(Instr.lookup 106 (.map (some be)) (.agg #[.int .i64 f, .int .i64 t, .int .i64 x, .int .i64 y]) true).run Tryz.prog w'= .ok (.tuple #[.agg #[.int .i64 sf, .int .i64 si], .bool r]) w'∧Below (W.heap.size) W w') (by kernel_rfl) ?_ (fun hHeld=>?_)
 ·exact HShe.out _ ((Below.refl _ _).drew)
 refine tn 0 ?_;refine tn 1 ?_;refine tn 2 ?_;refine tn 3 ?_;refine tn 4 ?_;refine tn 5 ?_;refine tn 6 ?_;refine tn 7 ?_;refine tn 8 ?_
 simp only [Go.Act.put,ps1,ps2,ps3]
 refine tcl 9 fun Kc hK=>?_
 go_simp
 refine hK.out _ _ ?_ (fun hHeld=>?_)
 ·exact HShe.out _ (hHeld.2.2.2.2.2.2.alloc hHeld.2.2.2.2.2.2.size _)
 clear hK Kc
 refine tcl 10 fun Kc hK=>?_
 go_simp
 refine hK.out _ _ ?_ (fun hHeld=>?_)
 ·exact HShe.out _ (((Below.refl _ _).alloc (Nat.le_refl _) _).drew)
 clear hK Kc
 refine tz (i:=11) rfl ?_
 simp only [Go.Act.put,ps1,ps2,ps3]
 refine wpAnyH_done (by kernel_rfl) ?_ _
 have BF:=hHeld.2.2.2.2.2.2
 go_wp2
 go_ret
 exact⟨rfl,BW.trans (BF.mono (by omega))⟩
theorem MeI.vcell{base p:Nat}{X:Mx}{F:Nat→Prop}{w:World}{S:Ms}{m:Nat}(h:MeI base p X F w)(hS:MeOk X S)(hk:MsOk S m){a:Vt}(ha:a∈S.V): ∃ (g k:Nat),X.a=some ⟨g,0,none⟩∧g<w.heap.size∧a.no=(k:Int)∧k<X.nv∧X.nv≤X.ca∧ ∀ j u,(vxC a (X.M a.no))[j]? =some u→w.cell? ⟨g,k*5+j,none⟩=some u∧w.frozen? ⟨g,k*5+j,none⟩=false:=by
 obtain⟨_,h0,h1⟩:=hk.vmem ha
 have hnv:a.no.toNat<X.nv:=by rw [hS.nv];omega
 obtain⟨g,hg,hlt,_,hseg⟩:=h.own.at (by omega)
 refine⟨g,a.no.toNat,hg,hlt,by omega,hnv,h.own.room.1,fun j u hu=>?_⟩
 have:=hseg _ u (hS.vs a ha j u hu)
 rw [Nat.zero_add]at this
 exact this
theorem MeI.fcell{base p:Nat}{X:Mx}{F:Nat→Prop}{w:World}{S:Ms}{m:Nat}(h:MeI base p X F w)(hS:MeOk X S)(hk:MsOk S m){c:Ce}(hc:c∈S.C): ∃ (g k:Nat),X.b=some ⟨g,0,none⟩∧g<w.heap.size∧c.no=(k:Int)∧k<X.nf∧X.nf≤X.cb∧ ∀ j u,(trC c.t)[j]? =some u→w.cell? ⟨g,k*9+j,none⟩=some u∧w.frozen? ⟨g,k*9+j,none⟩=false:=by
 obtain⟨_,h0,h1⟩:=hk.fmem hc
 have hnv:c.no.toNat<X.nf:=by rw [hS.nf];omega
 obtain⟨g,hg,hlt,_,hseg⟩:=h.onf.at (by omega)
 refine⟨g,c.no.toNat,hg,hlt,by omega,hnv,h.onf.room.1,fun j u hu=>?_⟩
 have:=hseg _ u (hS.fs c hc j u hu)
 rw [Nat.zero_add]at this
 exact this
set_option maxRecDepth 100000 in
theorem mPlace(base p:Nat)(X:Mx)(S:Ms)(m:Nat)(F:Nat→Prop)(w:World)(h:MeI base p X F w)(hS:MeOk X S)(hk:MsOk S m)(t:Tr)(i:Nat)(hi:i<3)(hv:isV S (t.v i)=true):
  Calls Tryz.prog 123 #[ptR p,trV t, .int .i64 (i:Int)] w fun e w'=>e= .returned (.tuple #[.agg #[.int .i64 (plX S t i), .int .i64 (plY S t i)], .bool (plOk S t i)])∧Below w.heap.size w w':=by
 obtain⟨a,ha,hav⟩:=isV_iff.1 hv
 obtain⟨g,k,hXa,hg,hak,hkn,hcap,hc⟩:=h.vcell hS hk ha
 have hpos:=pos_of hk.vs ha
 rw [hav]at hpos
 obtain⟨b,hb⟩: ∃ b,b=plOk S t i:=⟨_,rfl⟩
 obtain⟨u,hu⟩: ∃ u,u=plX S t i:=⟨_,rfl⟩
 obtain⟨v,hv'⟩: ∃ v,v=plY S t i:=⟨_,rfl⟩
 rw [←hb,←hu,←hv']
 have HB:Hid (b=atC a.x a.y (t.x i) (t.y i) X.n):=by unfold Hid;rw [hb];unfold plOk;rw [hpos,hS.n]
 have HU:Hid (u=if b then a.x+t.x i*X.n else 0):=by unfold Hid;rw [hu,hb];unfold plX;rw [hpos,hS.n]
 have HV:Hid (v=if b then a.y+t.y i*X.n else 0):=by unfold Hid;rw [hv',hb];unfold plY;rw [hpos,hS.n]
 have hpl:=h.row.lt
 obtain⟨W,hW⟩: ∃ W,W=(w.alloc (.cells (trC t).toArray 49)).alloc (.cells #[.int .i64 0, .int .i64 0] 24):=⟨_,rfl⟩
 have BW:Below w.heap.size w W:=by rw [hW];exact((Below.refl _ _).alloc (Nat.le_refl _) _).alloc (by simp) _
 have zW:W.heap.size=w.heap.size+2:=by rw [hW];simp
 have R0:Row W w.heap.size (trC t):=by rw [hW];exact(Row.new w _ _).alloc _ (by simp)
 have R1:Row W (w.heap.size+1) [.int .i64 0, .int .i64 0]:=by rw [hW];have:=Row.new (w.alloc (.cells (trC t).toArray 49)) [.int .i64 0, .int .i64 0] 24;simpa using this
 have hW':(w.alloc (.cells #[.int .i64 t.v0, .int .i64 t.v1, .int .i64 t.v2, .int .i64 t.x0, .int .i64 t.y0, .int .i64 t.x1, .int .i64 t.y1, .int .i64 t.x2, .int .i64 t.y2] 49)).alloc (.cells #[.int .i64 0, .int .i64 0] 24)=W:=hW.symm
 have q0:=(h.below BW).row.cell 0 _ rfl
 have q3:=(h.below BW).row.cell 3 _ rfl
 have ci:=R0.cell i _ (trC_v t hi)
 have xi:=R0.cell (3+i*2) _ (trC_x t hi)
 have yi:=R0.cell (3+i*2+1) _ (trC_y t hi)
 rw [←hav,hak]at ci
 rw [hXa]at q3
 have v1:=(BW.cell (p:=⟨g,k*5+1,none⟩) hg).trans (hc 1 _ rfl).1
 have v2:=(BW.cell (p:=⟨g,k*5+2,none⟩) hg).trans (hc 2 _ rfl).1
 obtain⟨ax,hax⟩: ∃ v,v=a.x:=⟨_,rfl⟩
 obtain⟨ay,hay⟩: ∃ v,v=a.y:=⟨_,rfl⟩
 obtain⟨tx,htx⟩: ∃ v,v=t.x i:=⟨_,rfl⟩
 obtain⟨ty0,hty⟩: ∃ v,v=t.y i:=⟨_,rfl⟩
 obtain⟨n,hn⟩: ∃ v,v=X.n:=⟨_,rfl⟩
 obtain⟨nv,hnv⟩: ∃ v,v=X.nv:=⟨_,rfl⟩
 obtain⟨ca,hca⟩: ∃ v,v=X.ca:=⟨_,rfl⟩
 rw [←hax]at v1
 rw [←hay]at v2
 rw [←htx]at xi
 rw [←hty]at yi
 rw [←hn]at q0
 rw [←hnv,←hca]at q3
 rw [←hnv]at hkn
 rw [←hax,←hay,←htx,←hty,←hn]at HB
 rw [←hax,←htx,←hn]at HU
 rw [←hay,←hty,←hn]at HV
 have hi':(i:Int)<3:=by omega
 have hk':(k:Int)<(nv:Int):=by omega
 have lA:w.heap.size<w.heap.size+1:=by omega
 have lp:p<w.heap.size+1:=by omega
 have lg:g<w.heap.size+1:=by omega
 clear hW h hS hk hv ha hav hXa hak hcap hc hpos hb hu hv' hax hay htx hty hn hnv hca
 go_enter Tryz.func123,Tryz.ntmps123
 go_wp2
 clear hW'
 have HSpl:Hid (∀ w',Below (w.heap.size+1) W w'→(fun w'=>w'.cell? ⟨w.heap.size,i,none⟩=some (.int .i64 (k:Int))∧w'.cell? ⟨w.heap.size,3+i*2,none⟩=some (.int .i64 tx)∧w'.cell? ⟨w.heap.size,3+i*2+1,none⟩=some (.int .i64 ty0)∧w'.cell? ⟨p,0,none⟩=some (.int .i64 n)∧w'.cell? ⟨p,3,none⟩=some (.slice (some ⟨g,0,none⟩) nv ca)∧w'.cell? ⟨g,k*5+1,none⟩=some (.int .i64 ax)∧w'.cell? ⟨g,k*5+2,none⟩=some (.int .i64 ay)∧Below (w.heap.size+1) W w') w'):=by
  unfold Hid
  intro w' hb
  exact⟨(hb.cell (p:=⟨w.heap.size,i,none⟩) lA).trans ci,(hb.cell (p:=⟨w.heap.size,3+i*2,none⟩) lA).trans xi,(hb.cell (p:=⟨w.heap.size,3+i*2+1,none⟩) lA).trans yi,(hb.cell (p:=⟨p,0,none⟩) lp).trans q0,(hb.cell (p:=⟨p,3,none⟩) lp).trans q3,(hb.cell (p:=⟨g,k*5+1,none⟩) lg).trans v1,(hb.cell (p:=⟨g,k*5+2,none⟩) lg).trans v2,hb⟩
 refine wp_region_held_drew (S:=fun w'=>w'.cell? ⟨w.heap.size,i,none⟩=some (.int .i64 (k:Int))∧w'.cell? ⟨w.heap.size,3+i*2,none⟩=some (.int .i64 tx)∧w'.cell? ⟨w.heap.size,3+i*2+1,none⟩=some (.int .i64 ty0)∧w'.cell? ⟨p,0,none⟩=some (.int .i64 n)∧w'.cell? ⟨p,3,none⟩=some (.slice (some ⟨g,0,none⟩) nv ca)∧w'.cell? ⟨g,k*5+1,none⟩=some (.int .i64 ax)∧w'.cell? ⟨g,k*5+2,none⟩=some (.int .i64 ay)∧Below (w.heap.size+1) W w') (by kernel_rfl) ?_ (fun hHeld=>?_)
 ·exact HSpl.out _ ((Below.refl _ _).drew)
 refine tn 0 ?_;refine tn 1 ?_;refine tn 2 ?_;refine tn 3 ?_;refine tn 4 ?_;refine tn 5 ?_;refine tn 6 ?_;refine tn 7 ?_;refine tn 8 ?_;refine tn 9 ?_;refine tn 10 ?_;refine tn 11 ?_;refine tn 12 ?_;refine tn 13 ?_;refine tn 14 ?_;refine tn 15 ?_;refine tn 16 ?_;refine tn 17 ?_;refine tn 18 ?_;refine tn 19 ?_
 simp only [Go.Act.put,ps1,ps2,ps3]
 refine tcl 20 fun Kc hK=>?_
 go_simp
 (go_at_call 104;refine(lAt ax ay tx ty0 n _ HB.out HU.out HV.out).mono ?_;rintro e w2 ⟨rfl,b2⟩)
 refine hK.out _ _ ?_ (fun hHeld=>?_)
 ·exact HSpl.out _ (hHeld.2.2.2.2.2.2.2.trans (b2.mono (Nat.le_trans (by omega) hHeld.2.2.2.2.2.2.2.size)))
 clear hK Kc
 refine tn 21 ?_;refine tn 22 ?_
 simp only [Go.Act.put,ps1,ps2,ps3]
 have z2:W.heap.size≤w2.heap.size:=b2.size
 replace R1:=(show Row W.drew (w.heap.size+1) [.int .i64 0, .int .i64 0]from R1).below b2 (by simp;omega)
 have f0:=R1.free 0 (by simp)
 have f1:=R1.free 1 (by simp)
 have g0:=R1.cell 0 _ rfl
 have g1:=R1.cell 1 _ rfl
 refine tcl 23 fun Kc hK=>?_
 go_simp
 refine hK.out _ _ ?_ (fun hHeld=>?_)
 ·exact HSpl.out _ (((hHeld.2.2.2.2.2.2.2.setCell (by simp;try omega) _).setCell (by simp;try omega) _))
 clear hK Kc
 refine tz (i:=24) rfl ?_
 simp only [Go.Act.put,ps1,ps2,ps3]
 refine wpAnyH_done (by kernel_rfl) ?_ _
 have BF:=hHeld.2.2.2.2.2.2.2
 have R2:=(R1.set 0 (.int .i64 u) (by simp)).set 1 (.int .i64 v) (by simp)
 have h0:=R2.cell 0 _ rfl
 have h1:=R2.cell 1 _ rfl
 go_wp2
 refine bodyPost_ret (v:= .tuple #[.agg #[.int .i64 u, .int .i64 v], .bool b]) (by simp [results,Tryz.results123,go_sem, *]) rfl ?_
 exact⟨rfl,BW.trans (BF.mono (by omega))⟩
def iv:Value→Int
 | .int _ q=>q
 |_=>0
def EveryPost(J N:Nat→World→Prop)(e:Ending)(w':World):Prop:=(e= .returned (.bool true)∧J 3 w')∨(e= .returned (.bool false)∧ ∃ i,i<3∧N i w')
def AskPost(J N:Nat→World→Prop)(i:Nat)(e:Ending)(w':World):Prop:=(e= .returned (.bool true)∧J (i+1) w')∨(e= .returned (.bool false)∧N i w')
set_option maxRecDepth 100000 in
theorem mEvery(g:Nat)(cb:Array Value)(eg: ∀ args w,(callFunc g args).run Tryz.prog w= .ok (.enter g args) w)(J N:Nat→World→Prop)(w:World)(h0:J 0 w)
  (hq: ∀ i w,i<3→J i w→Calls Tryz.prog g (#[.int .i64 (i:Int)]++cb) w (AskPost J N i)):Calls Tryz.prog 67 #[.func (.func g) #[] cb] w (EveryPost J N):=by
 have HQ:Hid _:=hq
 clear hq
 go_enter Tryz.func67,Tryz.ntmps67
 go_wp2
 go_loopw [4] (fun i wr=> ∃ k:Nat,k≤3∧i= .int .i64 (k:Int)∧J k wr) (fun i _=>3- (iv i).toNat)
 case atStart=>exact⟨0,by omega,rfl,h0⟩
 case round=>
  obtain⟨k,hk,rfl,hJ⟩:=hrel
  by_cases hlt:k<3
  ·have hlt':(k:Int)<3:=by omega
   go_wp2_with (go_at_fn g;refine(HQ.out k _ hlt hJ).mono ?_;rintro e w1 (⟨rfl,hj⟩|⟨rfl,hn⟩))
   ·go_wp2
    go_roundw
    case rel=>exact⟨k+1,by omega,by simp,hj⟩
    case measure=>simp [iv];omega
   ·go_wp2
    go_ret
    exact Or.inr ⟨rfl,k,hlt,hn⟩
  ·obtain rfl:k=3:=by omega
   go_wp2
   go_ret
   exact Or.inl ⟨rfl,hJ⟩
end Go.Proofs.YtaadknpjbogkbaaGreat
